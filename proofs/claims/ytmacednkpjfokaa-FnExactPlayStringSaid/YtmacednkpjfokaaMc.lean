/- Texts of the walk, laid in one file. -/
import Derived.Handy
import Derived.Below
import Derived.Test.YtmacednkpjfokaaRows
import Derived.LoopN
import Derived.Test.YtmacednkpjfokaaMb
set_option linter.unusedVariables false
set_option linter.unusedSimpArgs false
/- Flushing: the plain function, the bits that it looks at, and the contracts of 'FlushSample' and 'l01Flush'. -/
namespace Go.Fk
open Go Go.RowKit

def flush (b : Nat) : Nat := if b % 2147483648 < 8388608 then 0 else b

theorem fits_flush {b : Nat} (h : fits .f32 b) : fits .f32 (flush b) := by
  unfold flush; split
  · simp [fits, Lit.wf]
  · exact h
theorem fits32 {b : Nat} (h : fits .f32 b) : b < 4294967296 := by
  simp only [fits, Lit.wf, decide_eq_true_eq] at h; omega

theorem and_low (x : Nat) : x &&& 2147483647 = x % 2147483648 := Nat.and_two_pow_sub_one_eq_mod x 31
theorem and_exp (x : Nat) (hx : x < 4294967296) : ((x &&& 2139095040) = 0) ↔ x % 2147483648 < 8388608 := by
  have e : x &&& 2139095040 = (x >>> 23 &&& 255) <<< 23 := by
    rw [Nat.shiftLeft_and_distrib]
    apply Nat.eq_of_testBit_eq
    intro i
    simp only [Nat.testBit_and, Nat.testBit_shiftLeft, Nat.testBit_shiftRight]
    by_cases hi : 23 ≤ i
    · simp only [hi, decide_true, Bool.true_and, show 23 + (i - 23) = i by omega]
      congr 1
      rw [show (2139095040 : Nat) = 255 <<< 23 by decide, Nat.testBit_shiftLeft]
      simp [hi]
    · simp only [hi, decide_false, Bool.false_and]
      rw [show (2139095040 : Nat) = 255 <<< 23 by decide, Nat.testBit_shiftLeft]
      simp [hi]
  rw [e, show (255 : Nat) = 2 ^ 8 - 1 by decide, Nat.and_two_pow_sub_one_eq_mod, Nat.shiftLeft_eq, Nat.shiftRight_eq_div_pow]
  omega

theorem bits_and_exp (x : Nat) (hx : x < 4294967296) : bits .and .u32 (x : Int) 2139095040 = ((x &&& 2139095040 : Nat) : Int) :=
  (bits_nat .u32 32 (by decide) (fun n h0 h1 => by rw [IntKind.wrap_u32]; omega) x 2139095040 (by omega) (by omega)).1
theorem bits_and_low (x : Nat) (hx : x < 4294967296) : bits .and .u32 (x : Int) 2147483647 = ((x % 2147483648 : Nat) : Int) := by
  rw [← and_low]
  exact (bits_nat .u32 32 (by decide) (fun n h0 h1 => by rw [IntKind.wrap_u32]; omega) x 2147483647 (by omega) (by omega)).1
theorem exp_zero {x : Nat} (hx : x < 4294967296) (h : x % 2147483648 < 8388608) : (bits .and .u32 (x : Int) 2139095040 == 0) = true := by
  rw [bits_and_exp x hx, (and_exp x hx).2 h]; rfl
theorem exp_pos {x : Nat} (hx : x < 4294967296) (h : ¬ x % 2147483648 < 8388608) : (bits .and .u32 (x : Int) 2139095040 == 0) = false := by
  rw [bits_and_exp x hx, beq_eq_false_iff_ne]
  intro e
  exact h ((and_exp x hx).1 (by exact_mod_cast e))

theorem order_min (r : Nat) (h : r < 2147483648) : (FloatKind.f32.format.order r 8388608 == some .lt) = decide (r < 8388608) := by
  have e1 : Ieee.single.signWeight = 2147483648 := by decide
  have e2 : Ieee.single.infRung = 2139095040 := by decide
  have e3 : Ieee.single.binade = 8388608 := by decide
  have e4 : Ieee.single.leastPlace = -149 := by decide
  have e5 : Ieee.single.read 8388608 = .number false 8388608 (-149) := by decide
  have e6 : r % 2147483648 = r := Nat.mod_eq_of_lt h
  have e7 : r / 2147483648 = 0 := by omega
  simp only [FloatKind.format, Ieee.Format.order, e5]
  simp only [Ieee.Format.read, e1, e2, e3, e4, e6, e7]
  split
  · rename_i h1
    have h0 : decide (r < 8388608) = true := by simpa using h1
    rw [h0]
    simp only [Ieee.Datum.order, Ieee.signed, beq_iff_eq, Option.some.injEq]
    refine Int.compare_eq_lt.2 ?_
    simp [Nat.shiftLeft_eq]
    omega
  · have h0 : decide (r < 8388608) = false := by simp; omega
    rw [h0, beq_eq_false_iff_ne]
    split
    · simp only [Ieee.Datum.order, Ieee.signed]
      intro h
      simp only [Option.some.injEq] at h
      have h := Int.compare_eq_lt.1 h
      rw [show min (-149 + ((r / 8388608 - 1 : Nat) : Int)) (-149) = -149 by omega] at h
      simp [Nat.shiftLeft_eq] at h
      have h3 : 0 < 2 ^ (r / 8388608 - 1) := Nat.two_pow_pos _
      have h4 : (8388608 + r % 8388608) * 1 ≤ (8388608 + r % 8388608) * 2 ^ (r / 8388608 - 1) := Nat.mul_le_mul_left _ h3
      rw [show (-149 + ((r / 8388608 - 1 : Nat) : Int) + 149).toNat = r / 8388608 - 1 by omega] at h
      generalize r / 8388608 - 1 = u at *
      have e : (((8388608 + r % 8388608) * 2 ^ u : Nat) : Int) = (8388608 + (r : Int) % 8388608) * 2 ^ u := by rw [Int.natCast_mul, Int.natCast_add, Int.natCast_emod, Int.natCast_pow]; rfl
      omega
    · split
      · simp [Ieee.Datum.order]
      · simp [Ieee.Datum.order]
end Go.Fk

namespace Go.Proofs.Ytmacednkpjfokaa
open Go.RowKit Go.Fk
theorem i_FlushSample (x : Nat) (w : World) (hx : fits .f32 x) : Calls Try.prog 113 #[.float .f32 x] w fun e w' => e = .returned (.float .f32 (flush x)) ∧ w = w' := by
  by_cases h : x % 2147483648 < 8388608
  · have hz := exp_zero (fits32 hx) h
    go_enter Try.func113, Try.ntmps113
    go_wp2
    go_ret
    exact ⟨ret_f (by rw [flush, if_pos h]), rfl⟩
  · have hz := exp_pos (fits32 hx) h
    go_enter Try.func113, Try.ntmps113
    go_wp2
    go_ret
    exact ⟨ret_f (by rw [flush, if_neg h]), rfl⟩
theorem s_l01Abs (x : Nat) (w : World) (hx : fits .f32 x) : Calls Try.prog 111 #[.float .f32 x] w fun e w' => e = .returned (.float .f32 (x % 2147483648)) ∧ w = w' := by
  go_enter Try.func111, Try.ntmps111
  go_wp2
  go_ret
  exact ⟨ret_f (by rw [bits_and_low x (fits32 hx)]; omega), rfl⟩
theorem s_l01Flush (x : Nat) (w : World) (hx : fits .f32 x) : Calls Try.prog 106 #[.float .f32 x] w fun e w' => e = .returned (.float .f32 (flush x)) ∧ w = w' := by
  have ho := order_min (x % 2147483648) (by omega)
  by_cases h : x % 2147483648 < 8388608
  · rw [decide_eq_true h] at ho
    go_enter Try.func106, Try.ntmps106
    go_wp2_with (go_at_call 111; refine (s_l01Abs _ _ hx).mono ?_; rintro e w' ⟨rfl, rfl⟩)
    go_ret
    exact ⟨ret_f (by rw [flush, if_pos h]), rfl⟩
  · rw [decide_eq_false h] at ho
    go_enter Try.func106, Try.ntmps106
    go_wp2_with (go_at_call 111; refine (s_l01Abs _ _ hx).mono ?_; rintro e w' ⟨rfl, rfl⟩)
    go_ret
    exact ⟨ret_f (by rw [flush, if_neg h]), rfl⟩
end Go.Proofs.Ytmacednkpjfokaa

/- 'isNaN', 'bitsOf', 'SameSample' and their like in the model. -/
namespace Go.Proofs.Ytmacednkpjfokaa
open Go.RowKit Go.Fk

theorem i_isNaN (x : Nat) (w : World) : Calls Try.prog 114 #[.float .f32 x] w fun e w' => e = .returned (.bool (isNan .f32 x)) ∧ w = w' := by
  go_enter Try.func114, Try.ntmps114
  go_wp2
  go_ret
  exact ⟨rfl, rfl⟩
theorem s_l01NaN (x : Nat) (w : World) : Calls Try.prog 104 #[.float .f32 x] w fun e w' => e = .returned (.bool (isNan .f32 x)) ∧ w = w' := by
  go_enter Try.func104, Try.ntmps104
  go_wp2
  go_ret
  exact ⟨rfl, rfl⟩
theorem i_bitsOf (x : Nat) (w : World) : Calls Try.prog 110 #[.float .f32 x] w fun e w' => e = .returned (.int .u32 (can .f32 x)) ∧ w = w' := by
  cases h : isNan .f32 x
  all_goals
    go_enter Try.func110, Try.ntmps110
    go_wp2_with (go_at_call 114; refine (i_isNaN _ _).mono ?_; rintro e w' ⟨rfl, rfl⟩)
    go_ret
  · exact ⟨ret_i (by rw [can_of_not h]), rfl⟩
  · exact ⟨ret_i (by rw [can_of_nan h]; rfl), rfl⟩
theorem i_SameSample (x y : Nat) (w : World) : Calls Try.prog 105 #[.float .f32 x, .float .f32 y] w fun e w' => e = .returned (.bool (sameB x y)) ∧ w = w' := by
  go_enter Try.func105, Try.ntmps105
  go_wp2_with (go_at_call 110; refine (i_bitsOf _ _).mono ?_; rintro e w' ⟨rfl, rfl⟩)
  go_ret
  exact ⟨rfl, rfl⟩
theorem s_l01Same (x y : Nat) (w : World) : Calls Try.prog 85 #[.float .f32 x, .float .f32 y] w fun e w' => e = .returned (.bool (sameB x y)) ∧ w = w' := by
  cases h : isNan .f32 x <;> cases h2 : isNan .f32 y
  all_goals
    go_enter Try.func85, Try.ntmps85
    go_wp2_with (go_at_call 104; refine (s_l01NaN _ _).mono ?_; rintro e w' ⟨rfl, rfl⟩)
    go_ret
  · exact ⟨ret_b (sameB_num h h2).symm, rfl⟩
  · exact ⟨ret_b (sameB_mix (by rw [h, h2]; simp)).symm, rfl⟩
  · exact ⟨ret_b (sameB_mix (by rw [h, h2]; simp)).symm, rfl⟩
  · exact ⟨ret_b (sameB_nan h h2).symm, rfl⟩
end Go.Proofs.Ytmacednkpjfokaa

/- Is a sample finite? -/
namespace Go.Fk
open Go Go.RowKit
/-- Is a sample finite? -/
def fin (x : Nat) : Bool := match FloatKind.f32.format.read x with | .number _ _ _ => true | _ => false
theorem fin_sub (x : Nat) : (FloatKind.f32.format.order (fop .sub .f32 x x) 0 == some .eq) = fin x := by
  cases hr : FloatKind.f32.format.read x with
  | nan s t =>
    have h : isNan .f32 x = true := by simp [isNan, hr, Ieee.Datum.isNaN]
    simp only [fin, hr, fop]
    rw [floatBits_nan_l h]
    decide
  | infinity s =>
    simp only [fin, hr, fop, floatBits, Ieee.Format.sub, Ieee.Datum.opposite, Ieee.Datum.sum]
    cases s <;> decide
  | number s m e =>
    simp only [fin, hr, fop, floatBits, Ieee.Format.sub, Ieee.Datum.opposite, Ieee.Datum.sum, Int.sub_self]
    have h1 : Ieee.signed s m (e - min e e).toNat + Ieee.signed (!s) m (e - min e e).toNat = 0 := by
      unfold Ieee.signed; cases s <;> simp <;> omega
    rw [h1]
    simp only [if_true, Option.map_some, Int.natAbs_zero, Ieee.Format.write, Ieee.Format.nearest]
    cases s <;> decide
end Go.Fk
namespace Go.Proofs.Ytmacednkpjfokaa
open Go.RowKit Go.Fk
theorem s_l01Finite (x : Nat) (w : World) : Calls Try.prog 62 #[.float .f32 x] w fun e w' => e = .returned (.bool (fin x)) ∧ ∃ n, w' = w.drewN n := by
  go_enter Try.func62, Try.ntmps62
  go_wp2_with (with_reducible refine wpList_farith rfl rfl rfl rfl rfl ?_; intro r n hr hf)
  go_ret
  refine ⟨ret_b ?_, n, rfl⟩
  rw [← fin_sub, order_congr (hr.out.trans (can_fop _ _ _ _).symm) rfl]
end Go.Proofs.Ytmacednkpjfokaa

/- What a state keeps of a number; is a number finite? -/
namespace Go.Fk
open Go Go.RowKit
theorem fin_bits (x : Nat) : fin x = decide (x % 2147483648 < 2139095040) := by
  have e1 : Ieee.single.signWeight = 2147483648 := by decide
  have e2 : Ieee.single.infRung = 2139095040 := by decide
  have e3 : Ieee.single.binade = 8388608 := by decide
  have e4 : Ieee.single.leastPlace = -149 := by decide
  simp only [fin, FloatKind.format, Ieee.Format.read, e1, e2, e3, e4]
  split
  · rename_i s m e h
    split at h
    · simp; omega
    · split at h
      · simp; omega
      · split at h <;> cases h
  · rename_i h
    split at h
    · exact absurd rfl (h _ _ _)
    · split at h
      · exact absurd rfl (h _ _ _)
      · simp; omega
theorem and_exp255 (x : Nat) (hx : x < 4294967296) : ((x &&& 2139095040) = 2139095040) ↔ ¬ x % 2147483648 < 2139095040 := by
  have e : x &&& 2139095040 = (x >>> 23 &&& 255) <<< 23 := by
    rw [Nat.shiftLeft_and_distrib]
    apply Nat.eq_of_testBit_eq
    intro i
    simp only [Nat.testBit_and, Nat.testBit_shiftLeft, Nat.testBit_shiftRight]
    by_cases hi : 23 ≤ i
    · simp only [hi, decide_true, Bool.true_and, show 23 + (i - 23) = i by omega]
      congr 1
      rw [show (2139095040 : Nat) = 255 <<< 23 by decide, Nat.testBit_shiftLeft]
      simp [hi]
    · simp only [hi, decide_false, Bool.false_and]
      rw [show (2139095040 : Nat) = 255 <<< 23 by decide, Nat.testBit_shiftLeft]
      simp [hi]
  rw [e, show (255 : Nat) = 2 ^ 8 - 1 by decide, Nat.and_two_pow_sub_one_eq_mod, Nat.shiftLeft_eq, Nat.shiftRight_eq_div_pow]
  omega
theorem exp_full {x : Nat} (hx : x < 4294967296) : (bits .and .u32 (x : Int) 2139095040 == 2139095040) = !fin x := by
  rw [bits_and_exp x hx, fin_bits]
  have h := and_exp255 x hx
  by_cases c : x % 2147483648 < 2139095040
  · have : ¬ (x &&& 2139095040) = 2139095040 := fun e => (h.1 e) c
    simp only [c, decide_true, Bool.not_true, beq_eq_false_iff_ne]
    intro e
    exact this (Int.ofNat_inj.1 e)
  · simp only [c, decide_false, Bool.not_false, beq_iff_eq]
    rw [h.2 c]; rfl
/-- What a state keeps. -/
def kept (v : Nat) : Nat := if fin v = true then flush v else 0
theorem fin_can {a b : Nat} (h : can .f32 a = can .f32 b) : fin a = fin b := by
  cases hn : isNan .f32 a
  · rw [eq_of_can h hn]
  · have hm := (isNan_of_can h).symm.trans hn
    obtain ⟨s, t, h1⟩ := read_nan hn
    obtain ⟨s', t', h2⟩ := read_nan hm
    simp [fin, h1, h2]
theorem fin_num {a : Nat} (h : fin a = true) : isNan .f32 a = false := by
  cases hr : FloatKind.f32.format.read a with
  | nan s t => simp [fin, hr] at h
  | infinity s => simp [fin, hr] at h
  | number s m e => simp [isNan, hr, Ieee.Datum.isNaN]
theorem kept_can {a b : Nat} (h : can .f32 a = can .f32 b) : kept a = kept b := by
  unfold kept
  rw [← fin_can h]
  split
  · rename_i hf
    rw [eq_of_can h (fin_num hf)]
  · rfl
theorem fits_kept {b : Nat} (h : fits .f32 b) : fits .f32 (kept b) := by
  unfold kept; split
  · exact fits_flush h
  · simp [fits, Lit.wf]
theorem same0_fin {v : Nat} (h : sameB v 0 = true) : fin v = true := by
  have e : can .f32 v = can .f32 0 := by
    simp only [sameB, beq_iff_eq] at h
    exact_mod_cast h
  rw [fin_can e]; decide
end Go.Fk
namespace Go.Proofs.Ytmacednkpjfokaa
open Go.RowKit Go.Fk
theorem i_isFinite (x : Nat) (w : World) (hx : fits .f32 x) : Calls Try.prog 68 #[.float .f32 x] w fun e w' => e = .returned (.bool (fin x)) ∧ w = w' := by
  have hz := exp_full (fits32 hx)
  go_enter Try.func68, Try.ntmps68
  go_wp2
  go_ret
  refine ⟨ret_b ?_, rfl⟩
  rw [bne, hz, Bool.not_not]
theorem i_kept (x : Nat) (w : World) (hx : fits .f32 x) : Calls Try.prog 108 #[.float .f32 x] w fun e w' => e = .returned (.float .f32 (kept x)) ∧ w = w' := by
  cases h : fin x
  all_goals
    go_enter Try.func108, Try.ntmps108
    go_wp2_with (first | (go_at_call 68; refine (i_isFinite _ _ hx).mono ?_; rintro e w' ⟨rfl, rfl⟩) | (go_at_call 113; refine (i_FlushSample _ _ hx).mono ?_; rintro e w' ⟨rfl, rfl⟩))
    go_ret
    exact ⟨ret_f (by simp [kept, h]), rfl⟩
theorem s_Kept (x : Nat) (w : World) (hx : fits .f32 x) : Calls Try.prog 89 #[.float .f32 x] w fun e w' => e = .returned (.float .f32 (kept x)) ∧ ∃ n, w' = w.drewN n := by
  cases h : fin x
  all_goals
    go_enter Try.func89, Try.ntmps89
    go_wp2_with (first | (go_at_call 62; refine (s_l01Finite _ _).mono ?_; rintro e w' ⟨rfl, n0, rfl⟩) | (go_at_call 106; refine (s_l01Flush _ _ hx).mono ?_; rintro e w' ⟨rfl, rfl⟩))
    go_ret
    exact ⟨ret_f (by simp [kept, h]), _, rfl⟩
end Go.Proofs.Ytmacednkpjfokaa

/- 'areUsed': the first numbers are finite, the others 0. -/
namespace Go.Fk
open Go Go.RowKit
def usedB (f : Nat → Nat) (n u : Nat) : Bool := (List.range n).all fun i => if i < u then fin (f i) else sameB (f i) 0
theorem usedB_fin {f : Nat → Nat} {n u i : Nat} (hi : i < u) (hu : u ≤ n) (h : fin (f i) = false) : usedB f n u = false := by
  simp only [usedB, List.all_eq_false, List.mem_range]
  exact ⟨i, by omega, by simp [hi, h]⟩
theorem usedB_zero {f : Nat → Nat} {n u i : Nat} (hi : u ≤ i) (hn : i < n) (h : sameB (f i) 0 = false) : usedB f n u = false := by
  simp only [usedB, List.all_eq_false, List.mem_range]
  exact ⟨i, hn, by simp [show ¬ i < u by omega, h]⟩
theorem usedB_yes {f : Nat → Nat} {n u : Nat} (h1 : ∀ i, i < u → fin (f i) = true) (h2 : ∀ i, u ≤ i → i < n → sameB (f i) 0 = true) : usedB f n u = true := by
  simp only [usedB, List.all_eq_true, List.mem_range]
  intro i hi
  by_cases c : i < u
  · simp [c, h1 i c]
  · simp [c, h2 i (by omega) hi]
/-- Are all finite? -/
def finB (f : Nat → Nat) (n : Nat) : Bool := (List.range n).all fun i => fin (f i)
theorem finB_no {f : Nat → Nat} {n i : Nat} (hi : i < n) (h : fin (f i) = false) : finB f n = false := by
  rw [Bool.eq_false_iff]; intro hh
  have := List.all_eq_true.1 hh i (List.mem_range.2 hi)
  rw [h] at this; cases this
theorem finB_yes {f : Nat → Nat} {n : Nat} (h : ∀ i, i < n → fin (f i) = true) : finB f n = true := List.all_eq_true.2 (fun i hi => h i (List.mem_range.1 hi))
theorem finB_all {f : Nat → Nat} {n : Nat} (h : finB f n = true) : ∀ i, i < n → fin (f i) = true := fun i hi => List.all_eq_true.1 h i (List.mem_range.2 hi)
theorem finB_ex {f : Nat → Nat} {n : Nat} (h : finB f n = false) : ∃ i, i < n ∧ fin (f i) = false := by
  apply Classical.byContradiction
  intro hn
  have : finB f n = true := finB_yes (fun i hi => by
    cases hb : fin (f i)
    · exact absurd ⟨i, hi, hb⟩ hn
    · rfl)
  rw [h] at this; cases this
end Go.Fk
namespace Go.Proofs.Ytmacednkpjfokaa
open Go.RowKit Go.Fk
set_option maxHeartbeats 1000000 in
theorem i_areFinite (f : Nat → Nat) (a : Addr) (u cap : Nat) (w : World) (hu : u ≤ 9223372036854775807) (hf : ∀ i, i < u → fits .f32 (f i)) (hc : ∀ i, i < u → w.cell? (a.add i) = some (.float .f32 (f i))) :
    Calls Try.prog 74 #[.slice (some a) u cap] w fun e w' => e = .returned (.bool (finB f u)) ∧ w = w' := by
  have Hf := hid hf; have Hc := hid hc; clear hf hc
  go_enter Try.func74, Try.ntmps74
  go_wp2
  go_loop [7] (fun i => ∃ j : Nat, j ≤ u ∧ i = .int .i64 j ∧ Hid (∀ i, i < j → fin (f i) = true)) (fun i => u - (intOf i).toNat)
  case atStart => exact ⟨0, by omega, rfl, fun i hi => absurd hi (by omega)⟩
  case round =>
    obtain ⟨j, hj, rfl, HJ⟩ := hrel
    by_cases hlt : j < u
    · have cj := Hc.out j (by omega)
      have fj := hid (Hf.out j (by omega))
      cases hb : fin (f j)
      · go_wp2_with (go_at_call 68; refine (i_isFinite _ _ fj).mono ?_; rintro e w' ⟨rfl, rfl⟩)
        go_ret
        exact ⟨ret_b (finB_no hlt hb).symm, rfl⟩
      · go_wp2_with (go_at_call 68; refine (i_isFinite _ _ fj).mono ?_; rintro e w' ⟨rfl, rfl⟩)
        go_round
        case rel => exact ⟨j + 1, by omega, by go_num, fun i hi => by rcases Nat.lt_or_ge i j with h | h; exact HJ.out i h; rw [show i = j by omega]; exact hb⟩
        case measure => simp [intOf]; omega
    · obtain rfl : j = u := by omega
      go_wp2
      go_ret
      exact ⟨ret_b (finB_yes HJ.out).symm, rfl⟩
theorem i_areFinite_nil (f : Nat → Nat) (w : World) : Calls Try.prog 74 #[.slice none 0 0] w fun e w' => e = .returned (.bool (finB f 0)) ∧ w = w' := by
  go_enter Try.func74, Try.ntmps74
  go_wp2
  go_loop [7] (fun i => i = .int .i64 0) (fun _ => 0)
  case atStart => rfl
  case round =>
    obtain rfl := hrel
    go_wp2
    go_ret
    exact ⟨rfl, rfl⟩
set_option maxHeartbeats 1000000 in
theorem i_areUsed (f : Nat → Nat) (g o n u : Nat) (w : World) (hn : n < 100) (hu : u ≤ n) (hf : ∀ i, i < n → fits .f32 (f i)) (hc : ∀ i, i < n → w.cell? ⟨g, o + i, none⟩ = some (.float .f32 (f i))) :
    Calls Try.prog 88 #[.slice (some ⟨g, o, none⟩) n n, .int .i64 u] w fun e w' => e = .returned (.bool (usedB f n u)) ∧ w = w' := by
  have HA := hid (fun (w : World) (hc : ∀ i, i < n → w.cell? ⟨g, o + i, none⟩ = some (.float .f32 (f i))) => i_areFinite f ⟨g, o, none⟩ u n w (by omega) (fun i hi => hf i (by omega)) (fun i hi => by rw [add_none]; exact hc i (by omega)))
  have Hc := hid hc; clear hf hc
  obtain ⟨z, hz⟩ : ∃ z, z = finB f u := ⟨_, rfl⟩
  rw [← hz] at HA
  cases z
  · obtain ⟨i, hi, hb⟩ := finB_ex hz.symm
    have HZ := hid (usedB_fin hi hu hb)
    clear hz hb hi
    go_enter Try.func88, Try.ntmps88
    go_wp2_with (go_at_call 74; refine (HA.out _ Hc.out).mono ?_; rintro e w' ⟨rfl, rfl⟩)
    go_ret
    exact ⟨ret_b HZ.out.symm, rfl⟩
  have HJ := hid (finB_all hz.symm)
  clear hz
  rcases Nat.lt_or_ge u n with hlt0 | hge0
  · have h1 : (u : Int) ≤ n := by omega
    have h2 : (u : Int) < n := by omega
    go_enter Try.func88, Try.ntmps88
    go_wp2_with (go_at_call 74; refine (HA.out _ Hc.out).mono ?_; rintro e w' ⟨rfl, rfl⟩)
    go_loop [16] (fun i => ∃ k : Nat, k ≤ n - u ∧ i = .int .i64 k ∧ Hid (∀ i, u ≤ i → i < u + k → sameB (f i) 0 = true)) (fun i => (n - u) - (intOf i).toNat)
    case atStart => exact ⟨0, by omega, rfl, fun i h1 h2 => absurd h2 (by omega)⟩
    case round =>
      obtain ⟨k, hk, rfl, HK⟩ := hrel
      by_cases hkt : k < n - u
      · have ck : w.cell? ⟨g, o + u + k, none⟩ = some (.float .f32 (f (u + k))) := by rw [Nat.add_assoc]; exact Hc.out (u + k) (by omega)
        have k1 : (k : Int) < (n : Int) - u := by omega
        cases hb : sameB (f (u + k)) 0
        · go_wp2_with (go_at_call 105; refine (i_SameSample _ _ _).mono ?_; rintro e w' ⟨rfl, rfl⟩)
          go_ret
          exact ⟨ret_b (usedB_zero (show u ≤ u + k by omega) (by omega) hb).symm, rfl⟩
        · go_wp2_with (go_at_call 105; refine (i_SameSample _ _ _).mono ?_; rintro e w' ⟨rfl, rfl⟩)
          go_round
          case rel => exact ⟨k + 1, by omega, by go_num, fun i h1 h2 => by rcases Nat.lt_or_ge i (u + k) with h | h; exact HK.out i h1 h; rw [show i = u + k by omega]; exact hb⟩
          case measure => simp [intOf]; omega
      · have k1 : ¬ (k : Int) < (n : Int) - u := by omega
        go_wp2
        go_ret
        exact ⟨ret_b (usedB_yes (HJ.out) (fun i h1 h2 => HK.out i h1 (by omega))).symm, rfl⟩
  · obtain rfl : u = n := by omega
    clear hu hge0
    go_enter Try.func88, Try.ntmps88
    go_wp2_with (go_at_call 74; refine (HA.out _ Hc.out).mono ?_; rintro e w' ⟨rfl, rfl⟩)
    go_loop [16] (fun i => i = .int .i64 0) (fun i => 0)
    case atStart => rfl
    case round =>
      obtain rfl := hrel
      go_wp2
      go_ret
      exact ⟨ret_b (usedB_yes (HJ.out) (fun i h1 h2 => absurd h2 (by omega))).symm, rfl⟩
end Go.Proofs.Ytmacednkpjfokaa

/- Which filters are valid: the plain function, the model's contract and the program's. -/
namespace Go.Fk
open Go Go.RowKit
/-- How many numbers and states a kind uses. -/
def cU (k : Int) : Nat := if k = 1 ∨ k = 2 then 2 else if k = 3 ∨ k = 5 then 1 else 3
def sU (k : Int) : Nat := if k = 1 ∨ k = 2 then 1 else 2
/-- Is a filter valid? -/
def okF (k : Int) (a b c x y : Nat) : Bool := (decide (1 ≤ k) && decide (k ≤ 5)) && (usedB (tri a b c) 3 (cU k) && usedB (duo x y) 2 (sU k))
theorem okF_kind {k : Int} {a b c x y : Nat} (h : okF k a b c x y = true) : 1 ≤ k ∧ k ≤ 5 := by
  simp only [okF, Bool.and_eq_true, decide_eq_true_eq] at h; exact h.1
theorem okF_out {k : Int} {a b c x y : Nat} (h : ¬ (1 ≤ k ∧ k ≤ 5)) : okF k a b c x y = false := by
  cases e : okF k a b c x y
  · rfl
  · exact absurd (okF_kind e) h
theorem cU_le (k : Int) : cU k ≤ 3 := by unfold cU; split; omega; split <;> omega
theorem sU_le (k : Int) : sU k ≤ 2 := by unfold sU; split <;> omega
theorem Row.six {w : World} {g : Nat} {t : TypeId} {v0 v1 v2 v3 v4 v5 : Value} (h : Row w g t #[v0, v1, v2, v3, v4, v5]) :
    w.cell? ⟨g, 0, none⟩ = some v0 ∧ w.cell? ⟨g, 1, none⟩ = some v1 ∧ w.cell? ⟨g, 2, none⟩ = some v2 ∧ w.cell? ⟨g, 3, none⟩ = some v3 ∧ w.cell? ⟨g, 4, none⟩ = some v4 ∧ w.cell? ⟨g, 5, none⟩ = some v5 :=
  ⟨h.cell? 0, h.cell? 1, h.cell? 2, h.cell? 3, h.cell? 4, h.cell? 5⟩
theorem Row.tri {w : World} {g : Nat} {t : TypeId} {k : Int} {a b c x y : Nat} (h : Row w g t (#[.int .i64 k, .float .f32 a, .float .f32 b, .float .f32 c, .float .f32 x, .float .f32 y] : Array Value)) (i : Nat) (hi : i < 3) : w.cell? ⟨g, 1 + i, none⟩ = some (.float .f32 (tri a b c i)) := by
  match i, hi with
  | 0, _ => exact h.cell? 1
  | 1, _ => exact h.cell? 2
  | 2, _ => exact h.cell? 3
theorem Row.duo {w : World} {g : Nat} {t : TypeId} {k : Int} {a b c x y : Nat} (h : Row w g t (#[.int .i64 k, .float .f32 a, .float .f32 b, .float .f32 c, .float .f32 x, .float .f32 y] : Array Value)) (i : Nat) (hi : i < 2) : w.cell? ⟨g, 4 + i, none⟩ = some (.float .f32 (duo x y i)) := by
  match i, hi with
  | 0, _ => exact h.cell? 4
  | 1, _ => exact h.cell? 5
/-- A filter within a block. -/
structure FilAt (w : World) (g f : Nat) (k : Int) (a b c x y : Nat) : Prop where
  k0 : w.cell? ⟨g, f, none⟩ = some (.int .i64 k)
  tri : ∀ i, i < 3 → w.cell? ⟨g, f + 1 + i, none⟩ = some (.float .f32 (tri a b c i))
  duo : ∀ i, i < 2 → w.cell? ⟨g, f + 4 + i, none⟩ = some (.float .f32 (duo x y i))
theorem Row.filAt {w : World} {g : Nat} {t : TypeId} {k : Int} {a b c x y : Nat} (h : Row w g t (#[.int .i64 k, .float .f32 a, .float .f32 b, .float .f32 c, .float .f32 x, .float .f32 y] : Array Value)) : FilAt w g 0 k a b c x y :=
  ⟨h.six.1, fun i hi => by rw [Nat.zero_add]; exact h.tri i hi, fun i hi => by rw [Nat.zero_add]; exact h.duo i hi⟩
/-- A filter within a row. -/
structure FilIn (cs : Array Value) (f : Nat) (k : Int) (a b c x y : Nat) : Prop where
  k0 : cs[f]? = some (.int .i64 k)
  c1 : cs[f + 1]? = some (.float .f32 a)
  c2 : cs[f + 2]? = some (.float .f32 b)
  c3 : cs[f + 3]? = some (.float .f32 c)
  c4 : cs[f + 4]? = some (.float .f32 x)
  c5 : cs[f + 5]? = some (.float .f32 y)
theorem FilIn.at {cs : Array Value} {f : Nat} {k : Int} {a b c x y : Nat} (h : FilIn cs f k a b c x y) {w : World} {g : Nat} {t : TypeId} (hr : Row w g t cs) : FilAt w g f k a b c x y :=
  ⟨(hr.cell? f).trans h.k0, fun i hi => by
    match i, hi with
    | 0, _ => exact (hr.cell? (f + 1)).trans h.c1
    | 1, _ => exact (hr.cell? (f + 2)).trans h.c2
    | 2, _ => exact (hr.cell? (f + 3)).trans h.c3, fun i hi => by
    match i, hi with
    | 0, _ => exact (hr.cell? (f + 4)).trans h.c4
    | 1, _ => exact (hr.cell? (f + 5)).trans h.c5⟩
theorem fits_tri {a b c : Nat} (ha : fits .f32 a) (hb : fits .f32 b) (hc : fits .f32 c) : ∀ i, i < 3 → fits .f32 (tri a b c i) := by
  intro i hi
  match i, hi with
  | 0, _ => exact ha
  | 1, _ => exact hb
  | 2, _ => exact hc
theorem fits_duo {a b : Nat} (ha : fits .f32 a) (hb : fits .f32 b) : ∀ i, i < 2 → fits .f32 (duo a b i) := by
  intro i hi
  match i, hi with
  | 0, _ => exact ha
  | 1, _ => exact hb
end Go.Fk
namespace Go.Proofs.Ytmacednkpjfokaa
open Go.RowKit Go.Fk
theorem s_Uses (k : Int) (w : World) : Calls Try.prog 84 #[.int .i64 k] w fun e w' => e = .returned (.tuple #[.int .i64 (cU k), .int .i64 (sU k)]) ∧ w = w' := by
  by_cases h1 : k = 1
  · subst h1
    go_enter Try.func84, Try.ntmps84
    go_wp2
    go_ret2
    exact ⟨rfl, rfl⟩
  by_cases h2 : k = 2
  · subst h2
    go_enter Try.func84, Try.ntmps84
    go_wp2
    go_ret2
    exact ⟨rfl, rfl⟩
  by_cases h3 : k = 3
  · subst h3
    go_enter Try.func84, Try.ntmps84
    go_wp2
    go_ret2
    exact ⟨rfl, rfl⟩
  by_cases h5 : k = 5
  · subst h5
    go_enter Try.func84, Try.ntmps84
    go_wp2
    go_ret2
    exact ⟨rfl, rfl⟩
  have e1 : cU k = 3 := by simp [cU, h1, h2, h3, h5]
  have e2 : sU k = 2 := by simp [sU, h1, h2]
  rw [e1, e2]
  go_enter Try.func84, Try.ntmps84
  go_wp2
  go_ret2
  exact ⟨rfl, rfl⟩
set_option maxHeartbeats 2000000 in
theorem s_OkAt (k : Int) (a b c x y : Nat) (g f : Nat) (w : World) (hr : FilAt w g f k a b c x y) : Calls Try.prog 47 #[.pointer (some ⟨g, f, none⟩)] w fun e w' => e = .returned (.bool (okF k a b c x y)) ∧ ∃ n, w' = w.drewN n := by
  have c0 := hr.k0
  have HR := hid hr
  clear hr
  by_cases hk : 1 ≤ k ∧ k ≤ 5
  · obtain ⟨k1, k5⟩ := hk
    obtain ⟨p, hp⟩ : ∃ p, p = cU k := ⟨_, rfl⟩
    obtain ⟨q, hq⟩ : ∃ q, q = sU k := ⟨_, rfl⟩
    have hp3 : p ≤ 3 := by rw [hp]; exact cU_le k
    have hq2 : q ≤ 2 := by rw [hq]; exact sU_le k
    have E : okF k a b c x y = (usedB (tri a b c) 3 p && usedB (duo x y) 2 q) := by rw [hp, hq]; simp [okF, k1, k5]
    rw [E]; clear E
    have hu := s_Uses k
    rw [← hp, ← hq] at hu
    have HU := hid hu
    clear hu hp hq
    go_enter Try.func47, Try.ntmps47
    go_wp2_with (first | (go_at_call 56; refine (s_In _ _ _ _).mono ?_; rintro e w' ⟨rfl, rfl⟩) | (go_at_call 84; refine (HU.out _).mono ?_; rintro e w' ⟨rfl, rfl⟩))
    go_loopw [5] (fun i wr => ∃ j : Nat, j ≤ 3 ∧ i = .int .i64 j ∧ Hid (∀ i, i < j → fin (tri a b c i) = true ∧ (p ≤ i → sameB (tri a b c i) 0 = true)) ∧ ∃ n, wr = w.drewN n) (fun i _ => 3 - (intOf i).toNat)
    case atStart => exact ⟨0, by omega, rfl, fun i hi => absurd hi (by omega), 0, rfl⟩
    case round =>
      obtain ⟨j, hj, rfl, HJ, n, rfl⟩ := hrel
      by_cases hlt : j < 3
      · have cj := HR.out.tri j hlt
        cases h1 : fin (tri a b c j)
        · go_wp2_with (go_at_call 62; refine (s_l01Finite _ _).mono ?_; rintro e w' ⟨rfl, m, rfl⟩)
          go_ret
          refine ⟨ret_b ?_, _, rfl⟩
          by_cases hjp : j < p
          · rw [usedB_fin hjp hp3 h1]; rfl
          · have : sameB (tri a b c j) 0 = false := by
              cases e : sameB (tri a b c j) 0
              · rfl
              · rw [same0_fin e] at h1; cases h1
            rw [usedB_zero (show p ≤ j by omega) hlt this]; rfl
        · by_cases hjp : j < p
          · have hjp' : (j : Int) < p := by omega
            go_wp2_with (go_at_call 62; refine (s_l01Finite _ _).mono ?_; rintro e w' ⟨rfl, m, rfl⟩)
            go_roundw
            case rel => first | exact ⟨j + 1, by omega, by go_num, fun i hi => by rcases Nat.lt_or_ge i j with h | h; exact HJ.out i h; rw [show i = j by omega]; exact ⟨h1, fun h => absurd h (by omega)⟩, _, rfl⟩ | ((repeat apply Exists.intro); exact ⟨⟨j + 1, by omega, by go_num, fun i hi => by rcases Nat.lt_or_ge i j with h | h; exact HJ.out i h; rw [show i = j by omega]; exact ⟨h1, fun h => absurd h (by omega)⟩, _, rfl⟩, rfl⟩)
            case measure => simp [intOf]; omega
          · have hjp' : (p : Int) ≤ j := by omega
            cases h2 : sameB (tri a b c j) 0
            · go_wp2_with (first | (go_at_call 62; refine (s_l01Finite _ _).mono ?_; rintro e w' ⟨rfl, m, rfl⟩) | (go_at_call 85; refine (s_l01Same _ _ _).mono ?_; rintro e w' ⟨rfl, rfl⟩))
              go_ret
              exact ⟨ret_b (by rw [usedB_zero (show p ≤ j by omega) hlt h2]; rfl), _, rfl⟩
            · go_wp2_with (first | (go_at_call 62; refine (s_l01Finite _ _).mono ?_; rintro e w' ⟨rfl, m, rfl⟩) | (go_at_call 85; refine (s_l01Same _ _ _).mono ?_; rintro e w' ⟨rfl, rfl⟩))
              go_roundw
              case rel => first | exact ⟨j + 1, by omega, by go_num, fun i hi => by rcases Nat.lt_or_ge i j with h | h; exact HJ.out i h; rw [show i = j by omega]; exact ⟨h1, fun _ => h2⟩, _, rfl⟩ | ((repeat apply Exists.intro); exact ⟨⟨j + 1, by omega, by go_num, fun i hi => by rcases Nat.lt_or_ge i j with h | h; exact HJ.out i h; rw [show i = j by omega]; exact ⟨h1, fun _ => h2⟩, _, rfl⟩, rfl⟩)
              case measure => simp [intOf]; omega
      · obtain rfl : j = 3 := by omega
        have U1 := hid (usedB_yes (f := tri a b c) (n := 3) (u := p) (fun i hi => (HJ.out i (by omega)).1) (fun i h1 h2 => (HJ.out i h2).2 h1))
        clear HJ
        go_wp2
        go_loopw [6] (fun i wr => ∃ j : Nat, j ≤ 2 ∧ i = .int .i64 j ∧ Hid (∀ i, i < j → fin (duo x y i) = true ∧ (q ≤ i → sameB (duo x y i) 0 = true)) ∧ ∃ n, wr = w.drewN n) (fun i _ => 2 - (intOf i).toNat)
        case atStart => exact ⟨0, by omega, rfl, fun i hi => absurd hi (by omega), _, rfl⟩
        case round =>
          obtain ⟨j, hj, rfl, HJ, n, rfl⟩ := hrel
          by_cases hlt : j < 2
          · have cj := HR.out.duo j hlt
            cases h1 : fin (duo x y j)
            · go_wp2_with (go_at_call 62; refine (s_l01Finite _ _).mono ?_; rintro e w' ⟨rfl, m, rfl⟩)
              go_ret
              refine ⟨ret_b ?_, _, rfl⟩
              by_cases hjp : j < q
              · rw [usedB_fin hjp hq2 h1, Bool.and_false]
              · have : sameB (duo x y j) 0 = false := by
                  cases e : sameB (duo x y j) 0
                  · rfl
                  · rw [same0_fin e] at h1; cases h1
                rw [usedB_zero (show q ≤ j by omega) hlt this, Bool.and_false]
            · by_cases hjp : j < q
              · have hjp' : (j : Int) < q := by omega
                go_wp2_with (go_at_call 62; refine (s_l01Finite _ _).mono ?_; rintro e w' ⟨rfl, m, rfl⟩)
                go_roundw
                case rel => first | exact ⟨j + 1, by omega, by go_num, fun i hi => by rcases Nat.lt_or_ge i j with h | h; exact HJ.out i h; rw [show i = j by omega]; exact ⟨h1, fun h => absurd h (by omega)⟩, _, rfl⟩ | ((repeat apply Exists.intro); exact ⟨⟨j + 1, by omega, by go_num, fun i hi => by rcases Nat.lt_or_ge i j with h | h; exact HJ.out i h; rw [show i = j by omega]; exact ⟨h1, fun h => absurd h (by omega)⟩, _, rfl⟩, rfl⟩)
                case measure => simp [intOf]; omega
              · have hjp' : (q : Int) ≤ j := by omega
                cases h2 : sameB (duo x y j) 0
                · go_wp2_with (first | (go_at_call 62; refine (s_l01Finite _ _).mono ?_; rintro e w' ⟨rfl, m, rfl⟩) | (go_at_call 85; refine (s_l01Same _ _ _).mono ?_; rintro e w' ⟨rfl, rfl⟩))
                  go_ret
                  exact ⟨ret_b (by rw [usedB_zero (show q ≤ j by omega) hlt h2, Bool.and_false]), _, rfl⟩
                · go_wp2_with (first | (go_at_call 62; refine (s_l01Finite _ _).mono ?_; rintro e w' ⟨rfl, m, rfl⟩) | (go_at_call 85; refine (s_l01Same _ _ _).mono ?_; rintro e w' ⟨rfl, rfl⟩))
                  go_roundw
                  case rel => first | exact ⟨j + 1, by omega, by go_num, fun i hi => by rcases Nat.lt_or_ge i j with h | h; exact HJ.out i h; rw [show i = j by omega]; exact ⟨h1, fun _ => h2⟩, _, rfl⟩ | ((repeat apply Exists.intro); exact ⟨⟨j + 1, by omega, by go_num, fun i hi => by rcases Nat.lt_or_ge i j with h | h; exact HJ.out i h; rw [show i = j by omega]; exact ⟨h1, fun _ => h2⟩, _, rfl⟩, rfl⟩)
                  case measure => simp [intOf]; omega
          · obtain rfl : j = 2 := by omega
            have U2 := hid (usedB_yes (f := duo x y) (n := 2) (u := q) (fun i hi => (HJ.out i (by omega)).1) (fun i h1 h2 => (HJ.out i h2).2 h1))
            clear HJ
            go_wp2
            go_ret
            exact ⟨ret_b (by rw [U1.out, U2.out]; rfl), _, rfl⟩
  · rw [okF_out hk]
    have hIn : Hid (∀ w, Calls Try.prog 56 #[.int .i64 k, .int .i64 1, .int .i64 5] w fun e w' => e = .returned (.bool false) ∧ w = w') := fun w => by
      have h := s_In k 1 5 w
      rwa [show (decide ((1 : Int) ≤ k) && decide (k ≤ 5)) = false by simp only [Bool.and_eq_false_iff, decide_eq_false_iff_not]; omega] at h
    clear hk
    go_enter Try.func47, Try.ntmps47
    go_wp2_with (first | (go_at_call 56; refine (hIn.out _).mono ?_; rintro e w' ⟨rfl, rfl⟩))
    go_ret
    exact ⟨rfl, 0, rfl⟩
theorem s_Ok (k : Int) (a b c x y : Nat) (g : Nat) (w : World) (hr : Row w g 28 (#[.int .i64 k, .float .f32 a, .float .f32 b, .float .f32 c, .float .f32 x, .float .f32 y] : Array Value)) : Calls Try.prog 47 #[.pointer (some ⟨g, 0, none⟩)] w fun e w' => e = .returned (.bool (okF k a b c x y)) ∧ ∃ n, w' = w.drewN n := s_OkAt k a b c x y g 0 w hr.filAt
end Go.Proofs.Ytmacednkpjfokaa

/- 'SameFilter' of both. -/
namespace Go.Fk
open Go Go.RowKit
/-- Are two rows the same? -/
def eqRow (f f' : Nat → Nat) (n : Nat) : Bool := (List.range n).all (fun j => sameB (f j) (f' j))
theorem eqRow_no {f f' : Nat → Nat} {n j : Nat} (hj : j < n) (h : sameB (f j) (f' j) = false) : eqRow f f' n = false := by
  rw [Bool.eq_false_iff]
  intro hh
  have := List.all_eq_true.1 hh j (List.mem_range.2 hj)
  rw [h] at this; cases this
theorem eqRow_yes {f f' : Nat → Nat} {n : Nat} (h : ∀ j, j < n → sameB (f j) (f' j) = true) : eqRow f f' n = true := List.all_eq_true.2 (fun j hj => h j (List.mem_range.1 hj))
theorem all_step {p : Nat → Prop} {k : Nat} (h : ∀ j, j < k → p j) (hk : p k) : ∀ j, j < k + 1 → p j := fun j hj => by
  by_cases e : j = k
  · rw [e]; exact hk
  · exact h j (by omega)
section
variable {P : Program} {ops : Array Oper} {w : World} {K : FuncId → Array Value → Value → Prop} {Q : Act → Prop} {o : Oper} {rest : List Oper} {a : Act} {C : World → Prop}
theorem wpLoose_anyW (hw : Region.wanted o (yielded ops a.tmps) = true) (V : Value → Prop) (h1 : ∀ n, within P (fun w' => ∃ m, w' = w.drewN m) K V ((execOp a.eval o).run P (w.drewN n)))
    (h2 : ∀ v, V v → wpLoose P ops (fun w' => ∃ m, w' = w.drewN m) K Q rest (a.put o.dst v)) : wpLoose P ops (fun w' => ∃ m, w' = w.drewN m) K Q (o :: rest) a :=
  ⟨V, .inl ⟨hw, fun w' hw' => by obtain ⟨n, rfl⟩ := hw'; exact h1 n⟩, h2⟩
theorem wpLoose_skip (hw : Region.wanted o (yielded ops a.tmps) = false) (h : wpLoose P ops C K Q rest (a.put o.dst undef)) : wpLoose P ops C K Q (o :: rest) a :=
  ⟨(· = undef), .inr ⟨hw, rfl⟩, fun v hv => by rw [hv]; exact h⟩
theorem wpLoose_nilW (hw : Region.wanted o (yielded ops a.tmps) = true) {x : Operand} (hop : o.op = Op.nilCheck x) {ad : Addr} (hx : a.eval x = .pointer (some ad))
    (hK : wpLoose P ops (fun w' => ∃ m, w' = w.drewN m) K Q rest (a.put o.dst (.pointer (some ad)))) : wpLoose P ops (fun w' => ∃ m, w' = w.drewN m) K Q (o :: rest) a := by
  refine wpLoose_anyW hw (· = .pointer (some ad)) (fun n => ?_) (by rintro v rfl; exact hK)
  simp [execOp, hop, hx, within, Result.andThen]
  exact ⟨_, rfl⟩
end
end Go.Fk
namespace Go.Proofs.Ytmacednkpjfokaa
open Go.RowKit Go.Fk
end Go.Proofs.Ytmacednkpjfokaa

/- Rings over facts of memory: 'ValidRing', 'SameRing' of both. -/
namespace Go.Fk
open Go Go.RowKit
theorem RdS.form {w : World} {B : Nat} {s : Value} {x : Nat → Nat} {n : Nat} (h : RdS w B s x n) : (s = .slice none 0 0 ∧ n = 0) ∨ ∃ (a : Addr) (cap : Nat), s = .slice (some a) n cap ∧ n ≤ cap ∧ cap ≤ maxLen := by
  rcases h with h | ⟨a, cap, h1, h2, h3, _⟩
  · exact .inl h
  · exact .inr ⟨a, cap, h1, h2, h3⟩
section
variable {P : Program} {w : World} {ops : Array Oper} {rest : List Oper} {o : Oper} {a : Act} {Q : Exit → Act → World → Prop}
/-- The length of a slice that can be read. -/
theorem wpList_lenR (hg : o.guard = none) {x : Operand} {t : TypeId} (hop : o.op = Op.call { callee := Callee.builtin Builtin.len, args := #[x], argTypes := #[t] }) {v : Value} (hx : a.eval x = v) {e : TypeId} (hu : P.underlying t = some (.slice e)) {w1 : World} {B : Nat} {y : Nat → Nat} {n : Nat} (hv : RdS w1 B v y n)
    (h : wpList P ops Q rest (a.put o.dst (.int .i64 n)) w) : wpList P ops Q (o :: rest) a w := by
  refine wpList_plain hg fun K hK' => ?_
  unfold Oper.wp
  rcases hv.form with ⟨rfl, rfl⟩ | ⟨ad, cap, rfl, _, _⟩
  all_goals
    simp [execOp, hop, hx, Result.andThen, resolve, invoke, builtin, Builtin.len_, run_underlying hu]
    exact hK' _ _ h
end
theorem sameB_can (x y : Nat) : sameB (can .f32 x) (can .f32 y) = sameB x y := by unfold sameB; rw [can_can, can_can]
theorem okRing_iff {n : Nat} {k : Int} : okRing n k = true ↔ 1 ≤ n ∧ n ≤ 1024 ∧ 0 ≤ k ∧ k < n := by
  unfold okRing; simp only [Bool.and_eq_true, decide_eq_true_eq]; omega
theorem okRing_j {n : Nat} {k : Int} (h : okRing n k = true) : 1 ≤ n ∧ n ≤ 1024 ∧ ∃ j : Nat, k = j ∧ j < n := by
  obtain ⟨h1, h2, h3, h4⟩ := okRing_iff.1 h
  exact ⟨h1, h2, k.toNat, by omega, by omega⟩
/-- Two slices of floats, compared. -/
def sameS (x x' : Nat → Nat) (n n' : Nat) : Bool := (n == n') && eqRow x x' n
theorem sameS_ne {x x' : Nat → Nat} {n n' : Nat} (h : n ≠ n') : sameS x x' n n' = false := by simp [sameS, h]
theorem sameS_eq {x x' : Nat → Nat} {n : Nat} : sameS x x' n n = eqRow x x' n := by simp [sameS]
end Go.Fk
namespace Go.Proofs.Ytmacednkpjfokaa
open Go.RowKit Go.Fk
set_option maxHeartbeats 2000000 in
theorem i_ValidRingR (B : Nat) (s : Value) (x : Nat → Nat) (n : Nat) (k : Int) (w : World) (hs : RdS w B s x n) : Calls Try.prog 93 #[.agg #[s, .int .i64 k]] w fun e w' => e = .returned (.bool (okRing n k)) ∧ le w w' := by
  have HL := hid (le_alloc w (.cells #[s, .int .i64 k] 46))
  rcases hs.form with ⟨rfl, rfl⟩ | ⟨a, cap, rfl, hc, hm⟩
  · have HZ : Hid (okRing 0 k = false) := by unfold Hid okRing; simp
    clear hs
    go_enter Try.func93, Try.ntmps93
    go_wp2
    go_ret
    exact ⟨ret_b HZ.out.symm, HL.out⟩
  clear hs
  unfold maxLen at hm
  obtain ⟨z, hz⟩ : ∃ z, z = okRing n k := ⟨_, rfl⟩
  rw [← hz]
  unfold okRing at hz
  by_cases h1 : 1 ≤ (n : Int) <;> by_cases h2 : (n : Int) ≤ 1024 <;> by_cases h3 : 0 ≤ k <;> by_cases h4 : k < (n : Int)
  all_goals first | (exfalso; omega) | skip
  all_goals
    simp only [h1, h2, h3, h4, decide_true, decide_false, Bool.and_true, Bool.and_false, Bool.true_and, Bool.false_and] at hz
    have HZ := hid hz
    clear hz
    go_enter Try.func93, Try.ntmps93
    go_wp2
    go_ret
    exact ⟨ret_b HZ.out.symm, HL.out⟩
theorem s_l02RingR (B : Nat) (s : Value) (x : Nat → Nat) (n : Nat) (k : Int) (g f : Nat) (w : World) (hs : RdS w B s x n) (c0 : w.cell? ⟨g, f, none⟩ = some s) (c1 : w.cell? ⟨g, f + 1, none⟩ = some (.int .i64 k)) (hk : (Lit.int .i64 k).wf = true) :
    Calls Try.prog 91 #[.pointer (some ⟨g, f, none⟩)] w fun e w' => e = .returned (.bool (okRing n k)) ∧ w = w' := by
  rcases hs.form with ⟨rfl, rfl⟩ | ⟨a, cap, rfl, hc, hm⟩
  · have HZ : Hid (okRing 0 k = false) := by unfold Hid okRing; simp
    clear hs
    have HI : Hid (∀ w, Calls Try.prog 56 #[.int .i64 0, .int .i64 1, .int .i64 1024] w fun e w' => e = .returned (.bool false) ∧ w = w') := fun w => s_In 0 1 1024 w
    go_enter Try.func91, Try.ntmps91
    go_wp2_with (go_at_call 56; refine (HI.out _).mono ?_; rintro e w' ⟨rfl, rfl⟩)
    go_ret
    exact ⟨ret_b HZ.out.symm, rfl⟩
  clear hs hk
  unfold maxLen at hm
  obtain ⟨z, hz⟩ : ∃ z, z = okRing n k := ⟨_, rfl⟩
  rw [← hz]
  unfold okRing at hz
  by_cases h1 : 1 ≤ (n : Int) <;> by_cases h2 : (n : Int) ≤ 1024
  all_goals first | (exfalso; omega) | skip
  all_goals
    simp only [h1, h2, decide_true, decide_false, Bool.and_true, Bool.and_false, Bool.true_and, Bool.false_and] at hz
    have HZ := hid hz
    clear hz
    go_enter Try.func91, Try.ntmps91
    go_wp2_with (go_at_call 56; refine (s_In _ _ _ _).mono ?_; rintro e w' ⟨rfl, rfl⟩)
    go_ret
    refine ⟨ret_b ?_, rfl⟩
    first | (rw [HZ.out]; done) | (rw [HZ.out]; congr 1; exact decide_eq_decide.2 (by omega))
theorem infoRingL : (Try.prog.info? 42).map (·.size) = some 2 := by kernel_rfl
end Go.Proofs.Ytmacednkpjfokaa

/- Copies of rings; 'PushSample' of both. -/
namespace Go.Fk
open Go Go.RowKit
section
variable {P : Program} {ops : Array Oper} {w : World} {K : FuncId → Array Value → Value → Prop} {Q : Act → Prop} {o : Oper} {rest : List Oper} {a : Act}
theorem wpLoose_nilP (hg : o.guard = none) {x : Operand} (hop : o.op = Op.nilCheck x) {ad : Addr} (hx : a.eval x = .pointer (some ad))
    (hK : wpLoose P ops (fun w' => ∃ m, w' = w.drewN m) K Q rest (a.put o.dst (.pointer (some ad)))) : wpLoose P ops (fun w' => ∃ m, w' = w.drewN m) K Q (o :: rest) a := by
  refine wpLoose_any hg (· = .pointer (some ad)) (fun n => ?_) (by rintro v rfl; exact hK)
  simp [execOp, hop, hx, within, Result.andThen]
  exact ⟨_, rfl⟩
theorem wpLoose_len (hg : o.guard = none) {x : Operand} {t : TypeId} (hop : o.op = Op.call { callee := Callee.builtin Builtin.len, args := #[x], argTypes := #[t] }) {e : TypeId} (hu : P.underlying t = some (.slice e)) {ao : Option Addr} {n c : Nat} (hx : a.eval x = .slice ao n c)
    (hK : wpLoose P ops (fun w' => ∃ m, w' = w.drewN m) K Q rest (a.put o.dst (.int .i64 n))) : wpLoose P ops (fun w' => ∃ m, w' = w.drewN m) K Q (o :: rest) a := by
  refine wpLoose_any hg (· = .int .i64 n) (fun m => ?_) (by rintro v rfl; exact hK)
  simp [execOp, hop, hx, within, Result.andThen, resolve, invoke, builtin, Builtin.len_, run_underlying hu]
  exact ⟨⟨_, rfl⟩, rfl⟩
end
/-- A ring's samples behind a push. -/
def pushX (x : Nat → Nat) (j a : Nat) : Nat → Nat := fun i => if i = j then can .f32 a else x i
def OutPu (lo hi : Nat) (s : Value) (x : Nat → Nat) (n j a g f : Nat) (t : TypeId) (cs : Array Value) (w : World) (e : Ending) (w' : World) : Prop :=
  ∃ o, e = .returned (.float .f32 o) ∧ can .f32 o = x j ∧ fits .f32 o ∧ Row w' g t (cs.setIfInBounds (f + 1) (.int .i64 (((j + 1) % n : Nat) : Int))) ∧ OwnS w' lo hi s (pushX x j a) n ∧ Chg (fun i => i = g ∨ lo ≤ i ∧ i < hi) w w'
theorem own_set {w : World} {lo hi b o cap n : Nat} {ds : Array Value} {x : Nat → Nat} (j a : Nat) (hr : Row w b 22 (ds.setIfInBounds (o + j) (.float .f32 a))) (hc : n ≤ cap) (hm : cap ≤ maxLen) (hb : lo ≤ b) (hb' : b < hi) (hj : o + j < ds.size) (ha : fits .f32 a)
    (hx : ∀ i, i < n → ∃ y, ds[o + i]? = some (.float .f32 y) ∧ fits .f32 y ∧ can .f32 y = x i) : OwnS w lo hi (.slice (some ⟨b, o, none⟩) n cap) (pushX x j a) n := by
  refine .inr ⟨b, o, cap, _, rfl, hc, hm, hb, hb', hr, fun i hi' => ?_⟩
  by_cases e : i = j
  · subst e
    exact ⟨a, by rw [Array.getElem?_setIfInBounds_self_of_lt hj], ha, by simp [pushX]⟩
  · obtain ⟨y, e1, e2, e3⟩ := hx i hi'
    exact ⟨y, by rw [Array.getElem?_setIfInBounds_ne (by omega)]; exact e1, e2, by simp [pushX, e, e3]⟩
end Go.Fk
namespace Go.Proofs.Ytmacednkpjfokaa
open Go.RowKit Go.Fk
theorem kindF : ∀ w : World, (isAgg 40).run Try.prog w = .ok false w := fun w => by kernel_rfl
theorem kindI : ∀ w : World, (isAgg 2).run Try.prog w = .ok false w := fun w => by kernel_rfl
set_option maxRecDepth 100000 in
set_option maxHeartbeats 2000000 in
theorem i_copiedT (B : Nat) (s : Value) (x : Nat → Nat) (n : Nat) (k : Int) (w : World) (hs : RdS w B s x n) (h1 : 1 ≤ n) (h2 : n ≤ 1024) :
    Calls Try.prog 95 #[.agg #[s, .int .i64 k]] w fun e w' => ∃ q cap cs, e = .returned (.agg #[.slice (some ⟨q, 0, none⟩) n cap, .int .i64 k]) ∧ w.heap.size ≤ q ∧ Row w' q 22 cs ∧ OwnS w' q (q + 1) (.slice (some ⟨q, 0, none⟩) n cap) x n ∧ le w w' := by
  obtain ⟨a, cap, y, rfl, hc, hm, hx⟩ := hs.raw h1
  have Hx := hid hx; clear hx hs
  unfold maxLen at hm
  obtain ⟨i, hi, hi1, hi2, hi3⟩ := info36
  have HI := hid hi; have HI1 := hid hi1; have HI2 := hid hi2; have HI3 := hid hi3; clear hi hi1 hi2 hi3
  have F := ((Frg.nil w).box 46 #[.slice (some a) n cap, .int .i64 k]).box 46 #[.slice none 0 0, .int .i64 0]
  simp only [World.size_alloc] at F
  go_enter Try.func95, Try.ntmps95
  go_wp2_with fail
  obtain ⟨W, hW⟩ : ∃ W, W = (w.alloc (.cells #[.slice (some a) n cap, .int .i64 k] 46)).alloc (.cells #[.slice none 0 0, .int .i64 0] 46) := ⟨_, rfl⟩
  rw [← hW] at F ⊢
  have hz : W.heap.size = w.heap.size + 1 + 1 := by rw [hW]; simp
  clear hW
  have HZ := hid hz; clear hz
  have G := F.drewN 1
  have hcl : ∀ j, j < n → (W.drewN 1).cell? (a.add j) = some (.float .f32 (y j)) ∧ a.block < w.heap.size := fun j hj => by
    have e1 := (Hx.out j hj).1
    have hlt : (a.add j).block < w.heap.size := World.block_lt_of_cell? w _ e1
    exact ⟨(Below.cell G.below hlt).trans e1, by rw [add_block] at hlt; exact hlt⟩
  have HC := hid hcl; clear hcl
  refine region_freeD (E := outX (w.heap.size + 1) 46 2 (FinR w.heap.size 22 n y k) (FinR_le _ _ _ _ _)) (fun _ _ _ _ => True) (by kernel_rfl) (by kernel_rfl) ?_
  refine wpFreeD_one rfl (.pointer (some ⟨w.heap.size, 0, none⟩)) (fun w _ => by kernel_rfl) ?_
  simp only [Act.put, List.setIfInBounds_toArray, List.set_cons_succ, List.set_cons_zero]
  refine wpFreeD_cell rfl rfl rfl ((G.row m1).cell? 0) (by simp) kindF ?_
  simp only [Act.put, List.setIfInBounds_toArray, List.set_cons_succ, List.set_cons_zero]
  refine wpFreeD_quiet rfl ?_
  go_big_quiet_step (fail)
  refine wpQuiet_nil ?_
  refine wpFreeD_one rfl (.pointer (some ⟨w.heap.size, 0, none⟩)) (fun w _ => by kernel_rfl) ?_
  simp only [Act.put, List.setIfInBounds_toArray, List.set_cons_succ, List.set_cons_zero]
  refine wpFreeD_cell rfl rfl rfl ((G.row m1).cell? 0) (by simp) kindF ?_
  simp only [Act.put, List.setIfInBounds_toArray, List.set_cons_succ, List.set_cons_zero]
  refine wpFreeD_append rfl rfl Try.underlying40 HI.out HI1.out HI2.out HI3.out rfl rfl h1 (by omega) (fun j hj => (HC.out j hj).1) (by have := (HC.out 0 (by omega)).2; omega) (fun q c' => ?_) (by have := G.row m0; exact this.lt)
  simp only [Act.put, List.setIfInBounds_toArray, List.set_cons_succ, List.set_cons_zero]
  refine wpFreeD_one rfl (.pointer (some ⟨w.heap.size, 1, none⟩)) (fun w _ => by kernel_rfl) ?_
  simp only [Act.put, List.setIfInBounds_toArray, List.set_cons_succ, List.set_cons_zero]
  refine wpFreeD_cell rfl rfl rfl ((G.row m1).cell? 1) (by simp) kindI ?_
  simp only [Act.put, List.setIfInBounds_toArray, List.set_cons_succ, List.set_cons_zero]
  refine wpFreeD_carry rfl (.agg #[.slice (some ⟨q, 0, none⟩) n c', .int .i64 k]) (fun w _ => by kernel_rfl) (fun w' => ∃ B, (W.drewN 1).heap.size ≤ B ∧ w'.ownsRow B 22 1 (.slice (some ⟨q, 0, none⟩) n c') n (flist y n) ∧ w.heap.size + 1 < B) (fun w1 w2 hw ⟨B', e1, e2, e3⟩ => ⟨B', e1, ownsRow_out hw e2 e3, e3⟩) (fun w1 hw hb => (hb ⟨5, Ground.data⟩ (by simp) (by kernel_rfl)).1.1.2 rfl) ?_
  simp only [Act.put, List.setIfInBounds_toArray, List.set_cons_succ, List.set_cons_zero]
  refine wpFreeD_out rfl rfl rfl (cells := #[.slice (some ⟨q, 0, none⟩) n c', .int .i64 k]) rfl rfl (G.row m0) rfl (fun w1 w2 hw hb hch => ?_) infoRing rfl (by simp [Value.oneCell']) ?_
  · obtain ⟨B', e1, e2, e3⟩ := (hb ⟨8, Ground.data⟩ (by simp) (by kernel_rfl)).2 rfl
    exact ⟨_, rfl, B', by have := G.size; omega, ownsRow_ch hch e2 e3⟩
  refine wpFreeD_nil (fun w3 hw3 hF => ?_)
  obtain ⟨cs, hr, s', rfl, B', hB', ho⟩ := (hF 9).2 rfl
  have hle : le w w3 := G.below.trans (hw3.1.below (B := w.heap.size) (fun k e => by omega) G.size)
  obtain ⟨q9, cap9, cs9, rfl, hq9, hr9, ho9⟩ := own_tight ho h1 (fun j hj => (Hx.out j hj).2)
  go_wp2
  exact bodyPost_ret (results_row1 rfl _ _ _ _ _ rfl hr Try.underlying46 rfl infoRing) rfl ⟨q9, cap9, cs9, rfl, Nat.le_trans hB' hq9, hr9, ho9, hle⟩
theorem i_copied (B : Nat) (s : Value) (x : Nat → Nat) (n : Nat) (k : Int) (w : World) (hs : RdS w B s x n) (h1 : 1 ≤ n) (h2 : n ≤ 1024) :
    Calls Try.prog 95 #[.agg #[s, .int .i64 k]] w fun e w' => ∃ s', e = .returned (.agg #[s', .int .i64 k]) ∧ OwnS w' w.heap.size w'.heap.size s' x n ∧ le w w' := by
  refine (i_copiedT B s x n k w hs h1 h2).mono ?_
  rintro e w' ⟨q, cap, cs, rfl, hq, hr, ho, hl⟩
  exact ⟨_, rfl, ho.mono hq hr.lt, hl⟩
set_option maxRecDepth 100000 in
set_option maxHeartbeats 2000000 in
theorem s_l02Copy (B : Nat) (s : Value) (x : Nat → Nat) (n : Nat) (k : Int) (g f : Nat) (w : World) (hs : RdS w B s x n) (c0 : w.cell? ⟨g, f, none⟩ = some s) (c1 : w.cell? ⟨g, f + 1, none⟩ = some (.int .i64 k)) (h1 : 1 ≤ n) (h2 : n ≤ 1024) :
    Calls Try.prog 92 #[.pointer (some ⟨g, f, none⟩)] w fun e w' => ∃ s', e = .returned (.agg #[s', .int .i64 k]) ∧ OwnS w' w.heap.size w'.heap.size s' x n ∧ le w w' := by
  obtain ⟨a, cap, y, rfl, hc, hm, hx⟩ := hs.raw h1
  have Hx := hid hx; clear hx hs
  have C0 := hid c0; have C1 := hid c1; clear c0 c1
  unfold maxLen at hm
  obtain ⟨i, hi, hi1, hi2, hi3⟩ := info36
  have HI := hid hi; have HI1 := hid hi1; have HI2 := hid hi2; have HI3 := hid hi3; clear hi hi1 hi2 hi3
  have F := (Frg.nil w).box 46 #[.slice none 0 0, .int .i64 0]
  have hgw : g < w.heap.size := World.block_lt_of_cell? w _ C0.out
  go_enter Try.func92, Try.ntmps92
  go_wp2_with fail
  obtain ⟨W, hW⟩ : ∃ W, W = w.alloc (.cells #[.slice none 0 0, .int .i64 0] 46) := ⟨_, rfl⟩
  rw [← hW] at F ⊢
  have hz : W.heap.size = w.heap.size + 1 := by rw [hW]; simp
  clear hW
  have HZ := hid hz; clear hz
  have G := F.drewN 1
  have D0 := hid ((Below.cell G.below (p := ⟨g, f, none⟩) hgw).trans C0.out)
  have D1 := hid ((Below.cell G.below (p := ⟨g, f + 1, none⟩) hgw).trans C1.out)
  have hcl : ∀ j, j < n → (W.drewN 1).cell? (a.add j) = some (.float .f32 (y j)) ∧ a.block < w.heap.size := fun j hj => by
    have e1 := (Hx.out j hj).1
    have hlt : (a.add j).block < w.heap.size := World.block_lt_of_cell? w _ e1
    exact ⟨(Below.cell G.below hlt).trans e1, by rw [add_block] at hlt; exact hlt⟩
  have HC := hid hcl; clear hcl
  refine region_freeD (E := outX w.heap.size 46 2 (FinR w.heap.size 22 n y k) (FinR_le _ _ _ _ _)) (fun _ _ _ _ => True) (by kernel_rfl) (by kernel_rfl) ?_
  refine wpFreeD_new rfl (fun b => .slice (some ⟨b, 0, none⟩) 0 0) (.cells #[] 22) (fun w => by simp [execOp, run_empty w _ _ i Try.underlying40 HI.out, Result.andThen]) (fun b0 => ?_)
  simp only [Act.put, List.setIfInBounds_toArray, List.set_cons_succ, List.set_cons_zero]
  refine wpFreeD_one rfl (.pointer (some ⟨g, f, none⟩)) (fun w _ => by kernel_rfl) ?_
  simp only [Act.put, List.setIfInBounds_toArray, List.set_cons_succ, List.set_cons_zero]
  refine wpFreeD_one rfl (.pointer (some ⟨g, f, none⟩)) (fun w _ => by kernel_rfl) ?_
  simp only [Act.put, List.setIfInBounds_toArray, List.set_cons_succ, List.set_cons_zero]
  refine wpFreeD_one rfl (.pointer (some ⟨g, f, none⟩)) (fun w _ => by kernel_rfl) ?_
  simp only [Act.put, List.setIfInBounds_toArray, List.set_cons_succ, List.set_cons_zero]
  refine wpFreeD_cell rfl rfl rfl D0.out (by show g ≠ _; omega) kindF ?_
  simp only [Act.put, List.setIfInBounds_toArray, List.set_cons_succ, List.set_cons_zero]
  refine wpFreeD_append rfl rfl Try.underlying40 HI.out HI1.out HI2.out HI3.out rfl rfl h1 (by omega) (fun j hj => (HC.out j hj).1) (by have := (HC.out 0 (by omega)).2; omega) (fun q c' => ?_) (by have := G.row m0; exact this.lt)
  simp only [Act.put, List.setIfInBounds_toArray, List.set_cons_succ, List.set_cons_zero]
  refine wpFreeD_one rfl (.pointer (some ⟨g, f, none⟩)) (fun w _ => by kernel_rfl) ?_
  simp only [Act.put, List.setIfInBounds_toArray, List.set_cons_succ, List.set_cons_zero]
  refine wpFreeD_one rfl (.pointer (some ⟨g, f, none⟩)) (fun w _ => by kernel_rfl) ?_
  simp only [Act.put, List.setIfInBounds_toArray, List.set_cons_succ, List.set_cons_zero]
  refine wpFreeD_one rfl (.pointer (some ⟨g, f + 1, none⟩)) (fun w _ => by kernel_rfl) ?_
  simp only [Act.put, List.setIfInBounds_toArray, List.set_cons_succ, List.set_cons_zero]
  refine wpFreeD_cell rfl rfl rfl D1.out (by show g ≠ _; omega) kindI ?_
  simp only [Act.put, List.setIfInBounds_toArray, List.set_cons_succ, List.set_cons_zero]
  refine wpFreeD_carry rfl (.agg #[.slice (some ⟨q, 0, none⟩) n c', .int .i64 k]) (fun w _ => by kernel_rfl) (fun w' => ∃ B, (W.drewN 1).heap.size ≤ B ∧ w'.ownsRow B 22 1 (.slice (some ⟨q, 0, none⟩) n c') n (flist y n) ∧ w.heap.size < B) (fun w1 w2 hw ⟨B', e1, e2, e3⟩ => ⟨B', e1, ownsRow_out hw e2 e3, e3⟩) (fun w1 hw hb => (hb ⟨5, Ground.data⟩ (by simp) (by kernel_rfl)).1.1.1.1.2 rfl) ?_
  simp only [Act.put, List.setIfInBounds_toArray, List.set_cons_succ, List.set_cons_zero]
  refine wpFreeD_out rfl rfl rfl (cells := #[.slice (some ⟨q, 0, none⟩) n c', .int .i64 k]) rfl rfl (G.row m0) rfl (fun w1 w2 hw hb hch => ?_) infoRing rfl (by simp [Value.oneCell']) ?_
  · obtain ⟨B', e1, e2, e3⟩ := (hb ⟨10, Ground.data⟩ (by simp) (by kernel_rfl)).2 rfl
    exact ⟨_, rfl, B', by have := G.size; omega, ownsRow_ch hch e2 e3⟩
  refine wpFreeD_nil (fun w3 hw3 hF => ?_)
  obtain ⟨cs, hr, s', rfl, B', hB', ho⟩ := (hF 11).2 rfl
  have hle : le w w3 := G.below.trans (hw3.1.below (B := w.heap.size) (fun k e => by omega) G.size)
  have hown := (own_of_row ho (fun j hj => (Hx.out j hj).2)).mono hB' (Nat.le_refl _)
  go_wp2
  exact bodyPost_ret (results_row1 rfl _ _ _ _ _ rfl hr Try.underlying46 rfl infoRing) rfl ⟨_, rfl, hown, hle⟩
theorem i_oldest (B : Nat) (s : Value) (x : Nat → Nat) (n j : Nat) (w : World) (hs : RdS w B s x n) (hj : j < n) (hn : n ≤ 1024) :
    Calls Try.prog 99 #[.agg #[s, .int .i64 j]] w fun e w' => ∃ y, e = .returned (.float .f32 y) ∧ can .f32 y = x j ∧ fits .f32 y ∧ le w w' := by
  obtain ⟨a, cap, y, rfl, hc, hm, hx⟩ := hs.raw (by omega)
  have Hx := hid (hx j hj); clear hx hs
  unfold maxLen at hm
  have HL := hid (le_alloc w (.cells #[.slice (some a) n cap, .int .i64 j] 46))
  have cj := (Below.cell HL.out (World.block_lt_of_cell? w _ Hx.out.1)).trans Hx.out.1
  go_enter Try.func99, Try.ntmps99
  go_wp2
  go_ret
  exact ⟨_, rfl, Hx.out.2.2, Hx.out.2.1, HL.out⟩
set_option maxRecDepth 100000 in
set_option maxHeartbeats 2000000 in
theorem s_l02Push (lo hi : Nat) (s : Value) (x : Nat → Nat) (n j a g f : Nat) (t : TypeId) (cs : Array Value) (w : World) (hs : OwnS w lo hi s x n) (hr : Row w g t cs) (e0 : cs[f]? = some s) (e1 : cs[f + 1]? = some (.int .i64 j)) (hg : ¬ (lo ≤ g ∧ g < hi)) (hj : j < n) (hn : n ≤ 1024) (ha : fits .f32 a) :
    Calls Try.prog 97 #[.pointer (some ⟨g, f, none⟩), .float .f32 a] w (OutPu lo hi s x n j a g f t cs w) := by
  rcases hs with ⟨_, rfl⟩ | ⟨b, o, cap, ds, rfl, hc, hm, hb, hb', hrow, hx⟩
  · omega
  obtain ⟨y, ey, fy, cy⟩ := hx j hj
  have c0 : w.cell? ⟨g, f, none⟩ = some (.slice (some ⟨b, o, none⟩) n cap) := (hr.cell? f).trans e0
  have c1 : w.cell? ⟨g, f + 1, none⟩ = some (.int .i64 j) := (hr.cell? (f + 1)).trans e1
  have cb : w.cell? ⟨b, o + j, none⟩ = some (.float .f32 y) := (hrow.cell? (o + j)).trans ey
  have fb := hrow.frozen (o + j)
  have fg := hr.frozen (f + 1)
  have hne : b ≠ g := fun e => hg (e ▸ ⟨hb, hb'⟩)
  have HR := hid hr; have HROW := hid hrow; have HX := hid hx; have HY := hid ey; have HC := hid cy; have E0 := hid e0; have E1 := hid e1; have HM := hid hm
  clear hr hrow hx ey cy e0 e1
  unfold maxLen at hm
  go_enter Try.func97, Try.ntmps97
  go_wp2_with fail
  refine wp_region_loose (fun _ _ _ => True) (by kernel_rfl) (by kernel_rfl) ?_
  repeat (first | (refine wpLoose_quiet rfl ?_; go_big_quiet_step (fail); refine wpQuiet_nil ?_) | (refine wpLoose_nilP rfl rfl rfl ?_; simp only [Act.put, List.setIfInBounds_toArray, List.set_cons_succ, List.set_cons_zero]))
  refine wpLoose_nil (fun m1 => ?_)
  go_wp2_with fail
  refine wp_region_tail (fun _ _ _ => True) 10 (by kernel_rfl) (by kernel_rfl) ?_; simp only [List.take_succ_cons, List.take_zero, List.drop_succ_cons, List.drop_zero]
  repeat (first | (refine wpLoose_quiet rfl ?_; go_big_quiet_step (fail); refine wpQuiet_nil ?_) | (refine wpLoose_nilP rfl rfl rfl ?_; simp only [Act.put, List.setIfInBounds_toArray, List.set_cons_succ, List.set_cons_zero]))
  refine wpLoose_nil (fun m2 => ?_)
  go_wp2_with fail
  have hne' : g ≠ b := fun e => hne e.symm
  refine wp_region_tail (fun _ _ _ => True) 14 (by kernel_rfl) (by kernel_rfl) ?_; simp only [List.take_succ_cons, List.take_zero, List.drop_succ_cons, List.drop_zero]
  repeat (first | (refine wpLoose_quiet rfl ?_; go_big_quiet_step (fail); refine wpQuiet_nil ?_) | (refine wpLoose_nilP rfl rfl rfl ?_; simp only [Act.put, List.setIfInBounds_toArray, List.set_cons_succ, List.set_cons_zero]) | (refine wpLoose_len rfl rfl Try.underlying40 rfl ?_; simp only [Act.put, List.setIfInBounds_toArray, List.set_cons_succ, List.set_cons_zero]))
  refine wpLoose_nil (fun m3 => ?_)
  go_wp2
  go_ret
  refine ⟨y, rfl, HC.out, fy, ?_, own_set j a ((((HROW.out.drewN _).set (o + j) (.float .f32 a)).drewN m3).other ⟨g, f + 1, none⟩ _ hne) hc HM.out hb hb' (Array.getElem?_eq_some_iff.1 HY.out).1 ha HX.out, ?_⟩
  · rw [show (((j + 1) % n : Nat) : Int) = ((j : Int) + 1) % (n : Int) from by simp]
    exact (((HR.out.drewN _).other ⟨b, o + j, none⟩ _ hne').drewN m3).set (f + 1) _
  · exact Chg.setCell (Chg.le (Chg.setCell (Chg.of_le (le_drewN w _)) (.inr ⟨hb, hb'⟩) _) (le_drewN _ m3)) (.inl rfl) _
set_option maxRecDepth 100000 in
set_option maxHeartbeats 2000000 in
theorem i_push (lo hi : Nat) (s : Value) (x : Nat → Nat) (n j a g f : Nat) (t : TypeId) (cs : Array Value) (w : World) (hs : OwnS w lo hi s x n) (hr : Row w g t cs) (e0 : cs[f]? = some s) (e1 : cs[f + 1]? = some (.int .i64 j)) (hg : ¬ (lo ≤ g ∧ g < hi)) (hj : j < n) (hn : n ≤ 1024) (ha : fits .f32 a) :
    Calls Try.prog 109 #[.pointer (some ⟨g, f, none⟩), .float .f32 a] w (OutPu lo hi s x n j a g f t cs w) := by
  have HO := hid (fun (w' : World) (hl : le w w') => i_oldest hi s x n j w' (hs.rd.le hl) hj hn)
  rcases hs with ⟨_, rfl⟩ | ⟨b, o, cap, ds, rfl, hc, hm, hb, hb', hrow, hx⟩
  · omega
  have hne : b ≠ g := fun e => hg (e ▸ ⟨hb, hb'⟩)
  have hne' : g ≠ b := fun e => hne e.symm
  have HR := hid hr; have HROW := hid hrow; have HX := hid hx; have E0 := hid e0; have E1 := hid e1; have HM := hid hm
  clear hr hrow hx e0 e1
  unfold maxLen at hm
  have k0 : w.cell? ⟨g, f, none⟩ = some (.slice (some ⟨b, o, none⟩) n cap) := (HR.out.cell? f).trans E0.out
  have k1 : w.cell? ⟨g, f + 1, none⟩ = some (.int .i64 j) := (HR.out.cell? (f + 1)).trans E1.out
  go_enter Try.func109, Try.ntmps109
  go_wp2_with fail
  refine (HO.out _ (le_refl _)).mono ?_
  rintro e w2 ⟨y, rfl, cy, fy, hl⟩
  obtain ⟨y0, ey, _, _⟩ := HX.out j hj
  have HY := hid (Array.getElem?_eq_some_iff.1 ey).1
  have hr2 := HR.out.le hl
  have hrow2 := HROW.out.le hl
  have c0 : w2.cell? ⟨g, f, none⟩ = some (.slice (some ⟨b, o, none⟩) n cap) := (hr2.cell? f).trans E0.out
  have c1 : w2.cell? ⟨g, f + 1, none⟩ = some (.int .i64 j) := (hr2.cell? (f + 1)).trans E1.out
  have cb : w2.cell? ⟨b, o + j, none⟩ = some (.float .f32 y0) := (hrow2.cell? (o + j)).trans ey
  have fb := hrow2.frozen (o + j)
  have fg := hr2.frozen (f + 1)
  have HR2 := hid hr2; have HROW2 := hid hrow2; have HL := hid hl; have HC := hid cy
  clear hr2 hrow2 hl ey cy
  go_wp2_with fail
  refine wp_region_tail (fun _ _ _ => True) 10 (by kernel_rfl) (by kernel_rfl) ?_; simp only [List.take_succ_cons, List.take_zero, List.drop_succ_cons, List.drop_zero]
  repeat (first | (refine wpLoose_quiet rfl ?_; go_big_quiet_step (fail); refine wpQuiet_nil ?_) | (refine wpLoose_nilP rfl rfl rfl ?_; simp only [Act.put, List.setIfInBounds_toArray, List.set_cons_succ, List.set_cons_zero]))
  refine wpLoose_nil (fun m2 => ?_)
  go_wp2_with fail
  refine wp_region_tail (fun _ _ _ => True) 14 (by kernel_rfl) (by kernel_rfl) ?_; simp only [List.take_succ_cons, List.take_zero, List.drop_succ_cons, List.drop_zero]
  repeat (first | (refine wpLoose_quiet rfl ?_; go_big_quiet_step (fail); refine wpQuiet_nil ?_) | (refine wpLoose_nilP rfl rfl rfl ?_; simp only [Act.put, List.setIfInBounds_toArray, List.set_cons_succ, List.set_cons_zero]) | (refine wpLoose_len rfl rfl Try.underlying40 rfl ?_; simp only [Act.put, List.setIfInBounds_toArray, List.set_cons_succ, List.set_cons_zero]))
  refine wpLoose_nil (fun m3 => ?_)
  go_wp2
  go_ret
  refine ⟨y, rfl, HC.out, fy, ?_, own_set j a ((((HROW2.out.drewN _).set (o + j) (.float .f32 a)).drewN m3).other ⟨g, f + 1, none⟩ _ hne) hc HM.out hb hb' HY.out ha HX.out, ?_⟩
  · rw [show (((j + 1) % n : Nat) : Int) = ((j : Int) + 1) % (n : Int) from by simp]
    exact (((HR2.out.drewN _).other ⟨b, o + j, none⟩ _ hne').drewN m3).set (f + 1) _
  · exact Chg.setCell (Chg.le (Chg.setCell (Chg.of_le (le_trans HL.out (le_drewN w2 _))) (.inr ⟨hb, hb'⟩) _) (le_drewN _ m3)) (.inl rfl) _
theorem okRing_nat {n : Nat} {k : Int} (h : okRing n k = true) : 1 ≤ n ∧ n ≤ 1024 ∧ ∃ j : Nat, k = j ∧ j < n := by
  have := okRing_iff.1 h
  exact ⟨this.1, this.2.1, k.toNat, by omega, by omega⟩
end Go.Proofs.Ytmacednkpjfokaa

/- The kinds of filters as the program has them: 'modelOf', 'sizesOf'; 'ValidFilter' of both. -/
namespace Go.Proofs.Ytmacednkpjfokaa
open Go.RowKit Go.Fk
/-- The value of a kind. -/
def mdl (k : Int) (a b c : Nat) : Value :=
  if k = 1 then .iface 140 (.agg #[.float .f32 a, .float .f32 b, .float .f32 c])
  else if k = 2 then .iface 141 (.agg #[.float .f32 a, .float .f32 b, .float .f32 c])
  else if k = 3 then .iface 142 (.agg #[.float .f32 a, .float .f32 b, .float .f32 c])
  else if k = 4 then .iface 143 (.agg #[.float .f32 a, .float .f32 b, .float .f32 c])
  else if k = 5 then .iface 144 (.agg #[.float .f32 a, .float .f32 b, .float .f32 c])
  else .nilIface
set_option maxRecDepth 100000 in
@[go_sem] theorem ta11 (v : Value) (w : World) : (Instr.typeAssert (.iface 140 v) 86 140 true).run Try.prog w = .ok (.tuple #[v, .bool true]) w := by rfl
set_option maxRecDepth 100000 in
@[go_sem] theorem ta12 (v : Value) (w : World) : (Instr.typeAssert (.iface 140 v) 86 141 true).run Try.prog w = .ok (.tuple #[.agg #[.float .f32 0, .float .f32 0, .float .f32 0], .bool false]) w := by rfl
set_option maxRecDepth 100000 in
@[go_sem] theorem ta13 (v : Value) (w : World) : (Instr.typeAssert (.iface 140 v) 86 142 true).run Try.prog w = .ok (.tuple #[.agg #[.float .f32 0, .float .f32 0, .float .f32 0], .bool false]) w := by rfl
set_option maxRecDepth 100000 in
@[go_sem] theorem ta15 (v : Value) (w : World) : (Instr.typeAssert (.iface 140 v) 86 144 true).run Try.prog w = .ok (.tuple #[.agg #[.float .f32 0, .float .f32 0, .float .f32 0], .bool false]) w := by rfl
set_option maxRecDepth 100000 in
@[go_sem] theorem ta21 (v : Value) (w : World) : (Instr.typeAssert (.iface 141 v) 86 140 true).run Try.prog w = .ok (.tuple #[.agg #[.float .f32 0, .float .f32 0, .float .f32 0], .bool false]) w := by rfl
set_option maxRecDepth 100000 in
@[go_sem] theorem ta22 (v : Value) (w : World) : (Instr.typeAssert (.iface 141 v) 86 141 true).run Try.prog w = .ok (.tuple #[v, .bool true]) w := by rfl
set_option maxRecDepth 100000 in
@[go_sem] theorem ta23 (v : Value) (w : World) : (Instr.typeAssert (.iface 141 v) 86 142 true).run Try.prog w = .ok (.tuple #[.agg #[.float .f32 0, .float .f32 0, .float .f32 0], .bool false]) w := by rfl
set_option maxRecDepth 100000 in
@[go_sem] theorem ta25 (v : Value) (w : World) : (Instr.typeAssert (.iface 141 v) 86 144 true).run Try.prog w = .ok (.tuple #[.agg #[.float .f32 0, .float .f32 0, .float .f32 0], .bool false]) w := by rfl
set_option maxRecDepth 100000 in
@[go_sem] theorem ta31 (v : Value) (w : World) : (Instr.typeAssert (.iface 142 v) 86 140 true).run Try.prog w = .ok (.tuple #[.agg #[.float .f32 0, .float .f32 0, .float .f32 0], .bool false]) w := by rfl
set_option maxRecDepth 100000 in
@[go_sem] theorem ta32 (v : Value) (w : World) : (Instr.typeAssert (.iface 142 v) 86 141 true).run Try.prog w = .ok (.tuple #[.agg #[.float .f32 0, .float .f32 0, .float .f32 0], .bool false]) w := by rfl
set_option maxRecDepth 100000 in
@[go_sem] theorem ta33 (v : Value) (w : World) : (Instr.typeAssert (.iface 142 v) 86 142 true).run Try.prog w = .ok (.tuple #[v, .bool true]) w := by rfl
set_option maxRecDepth 100000 in
@[go_sem] theorem ta35 (v : Value) (w : World) : (Instr.typeAssert (.iface 142 v) 86 144 true).run Try.prog w = .ok (.tuple #[.agg #[.float .f32 0, .float .f32 0, .float .f32 0], .bool false]) w := by rfl
set_option maxRecDepth 100000 in
@[go_sem] theorem ta41 (v : Value) (w : World) : (Instr.typeAssert (.iface 143 v) 86 140 true).run Try.prog w = .ok (.tuple #[.agg #[.float .f32 0, .float .f32 0, .float .f32 0], .bool false]) w := by rfl
set_option maxRecDepth 100000 in
@[go_sem] theorem ta42 (v : Value) (w : World) : (Instr.typeAssert (.iface 143 v) 86 141 true).run Try.prog w = .ok (.tuple #[.agg #[.float .f32 0, .float .f32 0, .float .f32 0], .bool false]) w := by rfl
set_option maxRecDepth 100000 in
@[go_sem] theorem ta43 (v : Value) (w : World) : (Instr.typeAssert (.iface 143 v) 86 142 true).run Try.prog w = .ok (.tuple #[.agg #[.float .f32 0, .float .f32 0, .float .f32 0], .bool false]) w := by rfl
set_option maxRecDepth 100000 in
@[go_sem] theorem ta45 (v : Value) (w : World) : (Instr.typeAssert (.iface 143 v) 86 144 true).run Try.prog w = .ok (.tuple #[.agg #[.float .f32 0, .float .f32 0, .float .f32 0], .bool false]) w := by rfl
set_option maxRecDepth 100000 in
@[go_sem] theorem ta51 (v : Value) (w : World) : (Instr.typeAssert (.iface 144 v) 86 140 true).run Try.prog w = .ok (.tuple #[.agg #[.float .f32 0, .float .f32 0, .float .f32 0], .bool false]) w := by rfl
set_option maxRecDepth 100000 in
@[go_sem] theorem ta52 (v : Value) (w : World) : (Instr.typeAssert (.iface 144 v) 86 141 true).run Try.prog w = .ok (.tuple #[.agg #[.float .f32 0, .float .f32 0, .float .f32 0], .bool false]) w := by rfl
set_option maxRecDepth 100000 in
@[go_sem] theorem ta53 (v : Value) (w : World) : (Instr.typeAssert (.iface 144 v) 86 142 true).run Try.prog w = .ok (.tuple #[.agg #[.float .f32 0, .float .f32 0, .float .f32 0], .bool false]) w := by rfl
set_option maxRecDepth 100000 in
@[go_sem] theorem ta55 (v : Value) (w : World) : (Instr.typeAssert (.iface 144 v) 86 144 true).run Try.prog w = .ok (.tuple #[v, .bool true]) w := by rfl
set_option maxRecDepth 100000 in
theorem mdl1 (a b c : Nat) : mdl 1 a b c = .iface 140 (.agg #[.float .f32 a, .float .f32 b, .float .f32 c]) := by simp [mdl]
theorem i_modelOf1 (a b c x y : Nat) (w : World) : Calls Try.prog 86 #[(.agg #[.int .i64 1, .float .f32 a, .float .f32 b, .float .f32 c, .float .f32 x, .float .f32 y])] w fun e w' => e = .returned (.iface 140 (.agg #[.float .f32 a, .float .f32 b, .float .f32 c])) ∧ Below w.heap.size w w' := by
  go_enter Try.func86, Try.ntmps86
  go_wp2
  go_ret
  exact ⟨rfl, by repeat' (first | (with_reducible exact Below.refl _ _) | (with_reducible assumption) | (with_reducible refine below_drewN ?_ _) | (with_reducible refine Below.alloc ?_ ?_ _) | (with_reducible refine Below.drew ?_) | (with_reducible refine Below.setCell ?_ ?_ _) | go_size)⟩
set_option maxRecDepth 100000 in
theorem i_sizesOf1 (v : Value) (w : World) : Calls Try.prog 87 #[.iface 140 v] w fun e w' => e = .returned (.tuple #[.int .i64 (cU 1), .int .i64 (sU 1)]) ∧ w = w' := by
  go_enter Try.func87, Try.ntmps87
  go_wp2
  go_ret2
  exact ⟨rfl, rfl⟩
set_option maxRecDepth 100000 in
theorem mdl2 (a b c : Nat) : mdl 2 a b c = .iface 141 (.agg #[.float .f32 a, .float .f32 b, .float .f32 c]) := by simp [mdl]
theorem i_modelOf2 (a b c x y : Nat) (w : World) : Calls Try.prog 86 #[(.agg #[.int .i64 2, .float .f32 a, .float .f32 b, .float .f32 c, .float .f32 x, .float .f32 y])] w fun e w' => e = .returned (.iface 141 (.agg #[.float .f32 a, .float .f32 b, .float .f32 c])) ∧ Below w.heap.size w w' := by
  go_enter Try.func86, Try.ntmps86
  go_wp2
  go_ret
  exact ⟨rfl, by repeat' (first | (with_reducible exact Below.refl _ _) | (with_reducible assumption) | (with_reducible refine below_drewN ?_ _) | (with_reducible refine Below.alloc ?_ ?_ _) | (with_reducible refine Below.drew ?_) | (with_reducible refine Below.setCell ?_ ?_ _) | go_size)⟩
set_option maxRecDepth 100000 in
theorem i_sizesOf2 (v : Value) (w : World) : Calls Try.prog 87 #[.iface 141 v] w fun e w' => e = .returned (.tuple #[.int .i64 (cU 2), .int .i64 (sU 2)]) ∧ w = w' := by
  go_enter Try.func87, Try.ntmps87
  go_wp2
  go_ret2
  exact ⟨rfl, rfl⟩
set_option maxRecDepth 100000 in
theorem mdl3 (a b c : Nat) : mdl 3 a b c = .iface 142 (.agg #[.float .f32 a, .float .f32 b, .float .f32 c]) := by simp [mdl]
theorem i_modelOf3 (a b c x y : Nat) (w : World) : Calls Try.prog 86 #[(.agg #[.int .i64 3, .float .f32 a, .float .f32 b, .float .f32 c, .float .f32 x, .float .f32 y])] w fun e w' => e = .returned (.iface 142 (.agg #[.float .f32 a, .float .f32 b, .float .f32 c])) ∧ Below w.heap.size w w' := by
  go_enter Try.func86, Try.ntmps86
  go_wp2
  go_ret
  exact ⟨rfl, by repeat' (first | (with_reducible exact Below.refl _ _) | (with_reducible assumption) | (with_reducible refine below_drewN ?_ _) | (with_reducible refine Below.alloc ?_ ?_ _) | (with_reducible refine Below.drew ?_) | (with_reducible refine Below.setCell ?_ ?_ _) | go_size)⟩
set_option maxRecDepth 100000 in
theorem i_sizesOf3 (v : Value) (w : World) : Calls Try.prog 87 #[.iface 142 v] w fun e w' => e = .returned (.tuple #[.int .i64 (cU 3), .int .i64 (sU 3)]) ∧ w = w' := by
  go_enter Try.func87, Try.ntmps87
  go_wp2
  go_ret2
  exact ⟨rfl, rfl⟩
set_option maxRecDepth 100000 in
theorem mdl4 (a b c : Nat) : mdl 4 a b c = .iface 143 (.agg #[.float .f32 a, .float .f32 b, .float .f32 c]) := by simp [mdl]
theorem i_modelOf4 (a b c x y : Nat) (w : World) : Calls Try.prog 86 #[(.agg #[.int .i64 4, .float .f32 a, .float .f32 b, .float .f32 c, .float .f32 x, .float .f32 y])] w fun e w' => e = .returned (.iface 143 (.agg #[.float .f32 a, .float .f32 b, .float .f32 c])) ∧ Below w.heap.size w w' := by
  go_enter Try.func86, Try.ntmps86
  go_wp2
  go_ret
  exact ⟨rfl, by repeat' (first | (with_reducible exact Below.refl _ _) | (with_reducible assumption) | (with_reducible refine below_drewN ?_ _) | (with_reducible refine Below.alloc ?_ ?_ _) | (with_reducible refine Below.drew ?_) | (with_reducible refine Below.setCell ?_ ?_ _) | go_size)⟩
set_option maxRecDepth 100000 in
theorem i_sizesOf4 (v : Value) (w : World) : Calls Try.prog 87 #[.iface 143 v] w fun e w' => e = .returned (.tuple #[.int .i64 (cU 4), .int .i64 (sU 4)]) ∧ w = w' := by
  go_enter Try.func87, Try.ntmps87
  go_wp2
  go_ret2
  exact ⟨rfl, rfl⟩
set_option maxRecDepth 100000 in
theorem mdl5 (a b c : Nat) : mdl 5 a b c = .iface 144 (.agg #[.float .f32 a, .float .f32 b, .float .f32 c]) := by simp [mdl]
theorem i_modelOf5 (a b c x y : Nat) (w : World) : Calls Try.prog 86 #[(.agg #[.int .i64 5, .float .f32 a, .float .f32 b, .float .f32 c, .float .f32 x, .float .f32 y])] w fun e w' => e = .returned (.iface 144 (.agg #[.float .f32 a, .float .f32 b, .float .f32 c])) ∧ Below w.heap.size w w' := by
  go_enter Try.func86, Try.ntmps86
  go_wp2
  go_ret
  exact ⟨rfl, by repeat' (first | (with_reducible exact Below.refl _ _) | (with_reducible assumption) | (with_reducible refine below_drewN ?_ _) | (with_reducible refine Below.alloc ?_ ?_ _) | (with_reducible refine Below.drew ?_) | (with_reducible refine Below.setCell ?_ ?_ _) | go_size)⟩
set_option maxRecDepth 100000 in
theorem i_sizesOf5 (v : Value) (w : World) : Calls Try.prog 87 #[.iface 144 v] w fun e w' => e = .returned (.tuple #[.int .i64 (cU 5), .int .i64 (sU 5)]) ∧ w = w' := by
  go_enter Try.func87, Try.ntmps87
  go_wp2
  go_ret2
  exact ⟨rfl, rfl⟩
set_option maxRecDepth 100000 in
theorem mdl_no {k : Int} (h : ¬ (1 ≤ k ∧ k ≤ 5)) (a b c : Nat) : mdl k a b c = .nilIface := by
  unfold mdl
  rw [if_neg (by omega), if_neg (by omega), if_neg (by omega), if_neg (by omega), if_neg (by omega)]
set_option maxRecDepth 100000 in
theorem i_modelOf_no (k : Int) (a b c x y : Nat) (w : World) (h : ¬ (1 ≤ k ∧ k ≤ 5)) : Calls Try.prog 86 #[(.agg #[.int .i64 k, .float .f32 a, .float .f32 b, .float .f32 c, .float .f32 x, .float .f32 y])] w fun e w' => e = .returned .nilIface ∧ Below w.heap.size w w' := by
  have h1 : ((k : Int) == 1) = false := by simp only [beq_eq_false_iff_ne]; omega
  have h2 : ((k : Int) == 2) = false := by simp only [beq_eq_false_iff_ne]; omega
  have h3 : ((k : Int) == 3) = false := by simp only [beq_eq_false_iff_ne]; omega
  have h4 : ((k : Int) == 4) = false := by simp only [beq_eq_false_iff_ne]; omega
  have h5 : ((k : Int) == 5) = false := by simp only [beq_eq_false_iff_ne]; omega
  clear h
  go_enter Try.func86, Try.ntmps86
  go_wp2
  go_ret
  exact ⟨rfl, by repeat' (first | (with_reducible exact Below.refl _ _) | (with_reducible assumption) | (with_reducible refine below_drewN ?_ _) | (with_reducible refine Below.alloc ?_ ?_ _) | (with_reducible refine Below.drew ?_) | (with_reducible refine Below.setCell ?_ ?_ _) | go_size)⟩
set_option maxRecDepth 100000 in
theorem i_modelOf (k : Int) (a b c x y : Nat) (w : World) : Calls Try.prog 86 #[(.agg #[.int .i64 k, .float .f32 a, .float .f32 b, .float .f32 c, .float .f32 x, .float .f32 y])] w fun e w' => e = .returned (mdl k a b c) ∧ Below w.heap.size w w' := by
  by_cases h : 1 ≤ k ∧ k ≤ 5
  · rcases (show k = 1 ∨ k = 2 ∨ k = 3 ∨ k = 4 ∨ k = 5 by omega) with rfl | rfl | rfl | rfl | rfl
    · rw [mdl1]; exact i_modelOf1 a b c x y w
    · rw [mdl2]; exact i_modelOf2 a b c x y w
    · rw [mdl3]; exact i_modelOf3 a b c x y w
    · rw [mdl4]; exact i_modelOf4 a b c x y w
    · rw [mdl5]; exact i_modelOf5 a b c x y w
  · rw [mdl_no h]; exact i_modelOf_no k a b c x y w h
set_option maxRecDepth 100000 in
theorem i_ValidFilter_no (k : Int) (a b c x y : Nat) (w : World) (h : ¬ (1 ≤ k ∧ k ≤ 5)) : Calls Try.prog 51 #[(.agg #[.int .i64 k, .float .f32 a, .float .f32 b, .float .f32 c, .float .f32 x, .float .f32 y])] w fun e w' => e = .returned (.bool false) ∧ Below w.heap.size w w' := by
  go_enter Try.func51, Try.ntmps51
  go_wp2_with (first | (go_at_call 86; refine (i_modelOf_no _ _ _ _ _ _ _ h).mono ?_; rintro e w' ⟨rfl, hb⟩))
  go_ret
  exact ⟨rfl, le_trans (le_alloc w _) hb⟩
set_option maxRecDepth 100000 in
set_option maxHeartbeats 1000000 in
theorem i_ValidFilter1 (a b c x y : Nat) (w : World) (fa : fits .f32 a) (fb : fits .f32 b) (fc : fits .f32 c) (fx : fits .f32 x) (fy : fits .f32 y) : Calls Try.prog 51 #[(.agg #[.int .i64 1, .float .f32 a, .float .f32 b, .float .f32 c, .float .f32 x, .float .f32 y])] w fun e w' => e = .returned (.bool (usedB (tri a b c) 3 (cU 1) && usedB (duo x y) 2 (sU 1))) ∧ Below w.heap.size w w' := by
  have F3 := hid (fits_tri fa fb fc)
  have F2 := hid (fits_duo fx fy)
  clear fa fb fc fx fy
  have F := (Frm.nil w).box 28 (#[.int .i64 1, .float .f32 a, .float .f32 b, .float .f32 c, .float .f32 x, .float .f32 y] : Array Value)
  cases h1 : usedB (tri a b c) 3 (cU 1) <;> cases h2 : usedB (duo x y) 2 (sU 1)
  all_goals
    have H1 := hid h1
    have H2 := hid h2
    clear h1 h2
    go_enter Try.func51, Try.ntmps51
    go_wp2_with (first | (go_at_call 86; refine (i_modelOf1 _ _ _ _ _ _).mono ?_; rintro e w' ⟨rfl, hb⟩; replace F := F.le hb; have R := hid (F.row List.mem_cons_self)) | (go_at_call 87; refine (i_sizesOf1 _ _).mono ?_; rintro e w' ⟨rfl, rfl⟩) | (go_at_call 88; (with_reducible refine (i_areUsed (tri a b c) _ 1 3 (cU 1) _ (by omega) (cU_le _) F3.out (fun i hi => R.out.tri i hi)).mono ?_); rw [H1.out]; rintro e w' ⟨rfl, rfl⟩) | (go_at_call 88; (with_reducible refine (i_areUsed (duo x y) _ 4 2 (sU 1) _ (by omega) (sU_le _) F2.out (fun i hi => R.out.duo i hi)).mono ?_); rw [H2.out]; rintro e w' ⟨rfl, rfl⟩))
    go_ret
    exact ⟨rfl, F.below⟩
set_option maxRecDepth 100000 in
set_option maxHeartbeats 1000000 in
theorem i_ValidFilter2 (a b c x y : Nat) (w : World) (fa : fits .f32 a) (fb : fits .f32 b) (fc : fits .f32 c) (fx : fits .f32 x) (fy : fits .f32 y) : Calls Try.prog 51 #[(.agg #[.int .i64 2, .float .f32 a, .float .f32 b, .float .f32 c, .float .f32 x, .float .f32 y])] w fun e w' => e = .returned (.bool (usedB (tri a b c) 3 (cU 2) && usedB (duo x y) 2 (sU 2))) ∧ Below w.heap.size w w' := by
  have F3 := hid (fits_tri fa fb fc)
  have F2 := hid (fits_duo fx fy)
  clear fa fb fc fx fy
  have F := (Frm.nil w).box 28 (#[.int .i64 2, .float .f32 a, .float .f32 b, .float .f32 c, .float .f32 x, .float .f32 y] : Array Value)
  cases h1 : usedB (tri a b c) 3 (cU 2) <;> cases h2 : usedB (duo x y) 2 (sU 2)
  all_goals
    have H1 := hid h1
    have H2 := hid h2
    clear h1 h2
    go_enter Try.func51, Try.ntmps51
    go_wp2_with (first | (go_at_call 86; refine (i_modelOf2 _ _ _ _ _ _).mono ?_; rintro e w' ⟨rfl, hb⟩; replace F := F.le hb; have R := hid (F.row List.mem_cons_self)) | (go_at_call 87; refine (i_sizesOf2 _ _).mono ?_; rintro e w' ⟨rfl, rfl⟩) | (go_at_call 88; (with_reducible refine (i_areUsed (tri a b c) _ 1 3 (cU 2) _ (by omega) (cU_le _) F3.out (fun i hi => R.out.tri i hi)).mono ?_); rw [H1.out]; rintro e w' ⟨rfl, rfl⟩) | (go_at_call 88; (with_reducible refine (i_areUsed (duo x y) _ 4 2 (sU 2) _ (by omega) (sU_le _) F2.out (fun i hi => R.out.duo i hi)).mono ?_); rw [H2.out]; rintro e w' ⟨rfl, rfl⟩))
    go_ret
    exact ⟨rfl, F.below⟩
set_option maxRecDepth 100000 in
set_option maxHeartbeats 1000000 in
theorem i_ValidFilter3 (a b c x y : Nat) (w : World) (fa : fits .f32 a) (fb : fits .f32 b) (fc : fits .f32 c) (fx : fits .f32 x) (fy : fits .f32 y) : Calls Try.prog 51 #[(.agg #[.int .i64 3, .float .f32 a, .float .f32 b, .float .f32 c, .float .f32 x, .float .f32 y])] w fun e w' => e = .returned (.bool (usedB (tri a b c) 3 (cU 3) && usedB (duo x y) 2 (sU 3))) ∧ Below w.heap.size w w' := by
  have F3 := hid (fits_tri fa fb fc)
  have F2 := hid (fits_duo fx fy)
  clear fa fb fc fx fy
  have F := (Frm.nil w).box 28 (#[.int .i64 3, .float .f32 a, .float .f32 b, .float .f32 c, .float .f32 x, .float .f32 y] : Array Value)
  cases h1 : usedB (tri a b c) 3 (cU 3) <;> cases h2 : usedB (duo x y) 2 (sU 3)
  all_goals
    have H1 := hid h1
    have H2 := hid h2
    clear h1 h2
    go_enter Try.func51, Try.ntmps51
    go_wp2_with (first | (go_at_call 86; refine (i_modelOf3 _ _ _ _ _ _).mono ?_; rintro e w' ⟨rfl, hb⟩; replace F := F.le hb; have R := hid (F.row List.mem_cons_self)) | (go_at_call 87; refine (i_sizesOf3 _ _).mono ?_; rintro e w' ⟨rfl, rfl⟩) | (go_at_call 88; (with_reducible refine (i_areUsed (tri a b c) _ 1 3 (cU 3) _ (by omega) (cU_le _) F3.out (fun i hi => R.out.tri i hi)).mono ?_); rw [H1.out]; rintro e w' ⟨rfl, rfl⟩) | (go_at_call 88; (with_reducible refine (i_areUsed (duo x y) _ 4 2 (sU 3) _ (by omega) (sU_le _) F2.out (fun i hi => R.out.duo i hi)).mono ?_); rw [H2.out]; rintro e w' ⟨rfl, rfl⟩))
    go_ret
    exact ⟨rfl, F.below⟩
set_option maxRecDepth 100000 in
set_option maxHeartbeats 1000000 in
theorem i_ValidFilter4 (a b c x y : Nat) (w : World) (fa : fits .f32 a) (fb : fits .f32 b) (fc : fits .f32 c) (fx : fits .f32 x) (fy : fits .f32 y) : Calls Try.prog 51 #[(.agg #[.int .i64 4, .float .f32 a, .float .f32 b, .float .f32 c, .float .f32 x, .float .f32 y])] w fun e w' => e = .returned (.bool (usedB (tri a b c) 3 (cU 4) && usedB (duo x y) 2 (sU 4))) ∧ Below w.heap.size w w' := by
  have F3 := hid (fits_tri fa fb fc)
  have F2 := hid (fits_duo fx fy)
  clear fa fb fc fx fy
  have F := (Frm.nil w).box 28 (#[.int .i64 4, .float .f32 a, .float .f32 b, .float .f32 c, .float .f32 x, .float .f32 y] : Array Value)
  cases h1 : usedB (tri a b c) 3 (cU 4) <;> cases h2 : usedB (duo x y) 2 (sU 4)
  all_goals
    have H1 := hid h1
    have H2 := hid h2
    clear h1 h2
    go_enter Try.func51, Try.ntmps51
    go_wp2_with (first | (go_at_call 86; refine (i_modelOf4 _ _ _ _ _ _).mono ?_; rintro e w' ⟨rfl, hb⟩; replace F := F.le hb; have R := hid (F.row List.mem_cons_self)) | (go_at_call 87; refine (i_sizesOf4 _ _).mono ?_; rintro e w' ⟨rfl, rfl⟩) | (go_at_call 88; (with_reducible refine (i_areUsed (tri a b c) _ 1 3 (cU 4) _ (by omega) (cU_le _) F3.out (fun i hi => R.out.tri i hi)).mono ?_); rw [H1.out]; rintro e w' ⟨rfl, rfl⟩) | (go_at_call 88; (with_reducible refine (i_areUsed (duo x y) _ 4 2 (sU 4) _ (by omega) (sU_le _) F2.out (fun i hi => R.out.duo i hi)).mono ?_); rw [H2.out]; rintro e w' ⟨rfl, rfl⟩))
    go_ret
    exact ⟨rfl, F.below⟩
set_option maxRecDepth 100000 in
set_option maxHeartbeats 1000000 in
theorem i_ValidFilter5 (a b c x y : Nat) (w : World) (fa : fits .f32 a) (fb : fits .f32 b) (fc : fits .f32 c) (fx : fits .f32 x) (fy : fits .f32 y) : Calls Try.prog 51 #[(.agg #[.int .i64 5, .float .f32 a, .float .f32 b, .float .f32 c, .float .f32 x, .float .f32 y])] w fun e w' => e = .returned (.bool (usedB (tri a b c) 3 (cU 5) && usedB (duo x y) 2 (sU 5))) ∧ Below w.heap.size w w' := by
  have F3 := hid (fits_tri fa fb fc)
  have F2 := hid (fits_duo fx fy)
  clear fa fb fc fx fy
  have F := (Frm.nil w).box 28 (#[.int .i64 5, .float .f32 a, .float .f32 b, .float .f32 c, .float .f32 x, .float .f32 y] : Array Value)
  cases h1 : usedB (tri a b c) 3 (cU 5) <;> cases h2 : usedB (duo x y) 2 (sU 5)
  all_goals
    have H1 := hid h1
    have H2 := hid h2
    clear h1 h2
    go_enter Try.func51, Try.ntmps51
    go_wp2_with (first | (go_at_call 86; refine (i_modelOf5 _ _ _ _ _ _).mono ?_; rintro e w' ⟨rfl, hb⟩; replace F := F.le hb; have R := hid (F.row List.mem_cons_self)) | (go_at_call 87; refine (i_sizesOf5 _ _).mono ?_; rintro e w' ⟨rfl, rfl⟩) | (go_at_call 88; (with_reducible refine (i_areUsed (tri a b c) _ 1 3 (cU 5) _ (by omega) (cU_le _) F3.out (fun i hi => R.out.tri i hi)).mono ?_); rw [H1.out]; rintro e w' ⟨rfl, rfl⟩) | (go_at_call 88; (with_reducible refine (i_areUsed (duo x y) _ 4 2 (sU 5) _ (by omega) (sU_le _) F2.out (fun i hi => R.out.duo i hi)).mono ?_); rw [H2.out]; rintro e w' ⟨rfl, rfl⟩))
    go_ret
    exact ⟨rfl, F.below⟩
set_option maxRecDepth 100000 in
theorem i_ValidFilter (k : Int) (a b c x y : Nat) (w : World) (hf : fits .f32 a ∧ fits .f32 b ∧ fits .f32 c ∧ fits .f32 x ∧ fits .f32 y) : Calls Try.prog 51 #[(.agg #[.int .i64 k, .float .f32 a, .float .f32 b, .float .f32 c, .float .f32 x, .float .f32 y])] w fun e w' => e = .returned (.bool (okF k a b c x y)) ∧ Below w.heap.size w w' := by
  obtain ⟨fa, fb, fc, fx, fy⟩ := hf
  by_cases h : 1 ≤ k ∧ k ≤ 5
  · have E : okF k a b c x y = (usedB (tri a b c) 3 (cU k) && usedB (duo x y) 2 (sU k)) := by simp [okF, h.1, h.2]
    rw [E]
    rcases (show k = 1 ∨ k = 2 ∨ k = 3 ∨ k = 4 ∨ k = 5 by omega) with rfl | rfl | rfl | rfl | rfl
    · exact i_ValidFilter1 a b c x y w fa fb fc fx fy
    · exact i_ValidFilter2 a b c x y w fa fb fc fx fy
    · exact i_ValidFilter3 a b c x y w fa fb fc fx fy
    · exact i_ValidFilter4 a b c x y w fa fb fc fx fy
    · exact i_ValidFilter5 a b c x y w fa fb fc fx fy
  · rw [okF_out h]; exact i_ValidFilter_no k a b c x y w h
end Go.Proofs.Ytmacednkpjfokaa

/- The program's runners of filters: 'newRunner', 'isStill', 'step'. -/
namespace Go.Fk
open Go Go.RowKit
/-- A pointer to a new block that holds a row. -/
def OutP (t : TypeId) (cs : Array Value) (w : World) (e : Ending) (w' : World) : Prop := ∃ b, e = .returned (.pointer (some ⟨b, 0, none⟩)) ∧ w.heap.size ≤ b ∧ Row w' b t cs ∧ le w w'
end Go.Fk
namespace Go.Proofs.Ytmacednkpjfokaa
open Go.RowKit Go.Fk
set_option maxHeartbeats 1000000 in
theorem i_newRunnerT (k : Int) (T : TypeId) (a b c x y : Nat) (w : World) (hm : ∀ w, Calls Try.prog 86 #[(.agg #[.int .i64 k, .float .f32 a, .float .f32 b, .float .f32 c, .float .f32 x, .float .f32 y])] w fun e w' => e = .returned (.iface T (.agg #[.float .f32 a, .float .f32 b, .float .f32 c])) ∧ Below w.heap.size w w') : Calls Try.prog 52 #[(.agg #[.int .i64 k, .float .f32 a, .float .f32 b, .float .f32 c, .float .f32 x, .float .f32 y])] w (OutP 88 #[(.iface T (.agg #[.float .f32 a, .float .f32 b, .float .f32 c])), .float .f32 x, .float .f32 y] w) := by
  have HM := hid hm; clear hm
  have F := (Frm.nil w).box 28 (#[.int .i64 k, .float .f32 a, .float .f32 b, .float .f32 c, .float .f32 x, .float .f32 y] : Array Value)
  go_enter Try.func52, Try.ntmps52
  go_upto_region 1 with (fail)
  refine region_free (fun f args _ v => v = (.iface T (.agg #[.float .f32 a, .float .f32 b, .float .f32 c]))) (by kernel_rfl) (by kernel_rfl) ?_
  refine wpFree_loadFr F rfl rfl rfl rfl (List.mem_cons_self) Try.underlying28 rfl infoFil rfl ?_
  simp only [Act.put, List.setIfInBounds_toArray, List.set_cons_succ, List.set_cons_zero]
  refine wpFree_call rfl rfl Try.func86 (by kernel_rfl) (by kernel_rfl) (args := #[(.agg #[.int .i64 k, .float .f32 a, .float .f32 b, .float .f32 c, .float .f32 x, .float .f32 y])]) (by simp [Act.eval]) (fun _ _ _ _ h => h) (fun w1 _ => (HM.out w1).mono ?_) ?_
  · rintro e w2 ⟨rfl, hb⟩
    exact ⟨_, rfl, hb, rfl⟩
  rintro v ⟨_, _, rfl⟩
  simp only [Act.put, List.setIfInBounds_toArray, List.set_cons_succ, List.set_cons_zero]
  refine wpFree_one rfl (.pointer (some ⟨w.heap.size, 4, none⟩)) (fun w1 _ => by kernel_rfl) ?_
  simp only [Act.put, List.setIfInBounds_toArray, List.set_cons_succ, List.set_cons_zero]
  refine wpFree_loadPart F rfl rfl rfl rfl (List.mem_cons_self) Try.underlying24 rfl [.float .f32 x, .float .f32 y] (fun j hj => by match j, hj with | 0, _ => rfl | 1, _ => rfl) info2 ?_
  simp only [Act.put, List.setIfInBounds_toArray, List.set_cons_succ, List.set_cons_zero]
  refine wpFree_one rfl (.agg #[(.iface T (.agg #[.float .f32 a, .float .f32 b, .float .f32 c])), .float .f32 x, .float .f32 y]) (fun w1 _ => by kernel_rfl) ?_
  simp only [Act.put, List.setIfInBounds_toArray, List.set_cons_succ, List.set_cons_zero]
  refine wpFree_box rfl rfl #[(.iface T (.agg #[.float .f32 a, .float .f32 b, .float .f32 c])), .float .f32 x, .float .f32 y] (fun w1 => by kernel_rfl) (fun g hg => ?_)
  simp only [Act.put, List.setIfInBounds_toArray, List.set_cons_succ, List.set_cons_zero]
  refine wpFree_one rfl (.pointer (some ⟨g, 0, none⟩)) (fun w1 _ => by kernel_rfl) ?_
  simp only [Act.put, List.setIfInBounds_toArray, List.set_cons_succ, List.set_cons_zero]
  refine wpFree_nil (fun w3 hw3 hF => ?_)
  obtain ⟨_, b', hbb, hb2, hrow⟩ := hF
  obtain rfl : g = b' := by simpa using hbb
  have hz : w.heap.size ≤ g := by simp at hg; omega
  have hl : le w w3 := le_trans (le_trans F.below (le_drewN _ 1)) hw3
  clear hg hbb hb2 hw3 F
  replace hz := hid hz; replace hl := hid hl; replace hrow := hid hrow
  go_wp2
  go_ret
  exact ⟨_, rfl, hz.out, hrow.out, hl.out⟩
theorem i_newRunner (k : Int) (a b c x y : Nat) (w : World) (h : 1 ≤ k ∧ k ≤ 5) : Calls Try.prog 52 #[(.agg #[.int .i64 k, .float .f32 a, .float .f32 b, .float .f32 c, .float .f32 x, .float .f32 y])] w (OutP 88 #[mdl k a b c, .float .f32 x, .float .f32 y] w) := by
  rcases (show k = 1 ∨ k = 2 ∨ k = 3 ∨ k = 4 ∨ k = 5 by omega) with rfl | rfl | rfl | rfl | rfl
  · rw [mdl1]; exact i_newRunnerT 1 _ a b c x y w (fun w => i_modelOf1 a b c x y w)
  · rw [mdl2]; exact i_newRunnerT 2 _ a b c x y w (fun w => i_modelOf2 a b c x y w)
  · rw [mdl3]; exact i_newRunnerT 3 _ a b c x y w (fun w => i_modelOf3 a b c x y w)
  · rw [mdl4]; exact i_newRunnerT 4 _ a b c x y w (fun w => i_modelOf4 a b c x y w)
  · rw [mdl5]; exact i_newRunnerT 5 _ a b c x y w (fun w => i_modelOf5 a b c x y w)
end Go.Proofs.Ytmacednkpjfokaa

/- Steps of filters: the plain functions; 'next' of each kind; 'step' of a runner; 'l02Step' of the model. -/
namespace Go.Fk
open Go Go.RowKit
/-- What a filter makes of a sample. -/
def outF (k : Int) (a b c x y s : Nat) : Nat :=
  if k = 1 ∨ k = 2 then fop .add .f32 (fop .mul .f32 a s) (fop .mul .f32 b x)
  else if k = 3 then fop .add .f32 (fop .mul .f32 a (fop .sub .f32 s y)) x
  else if k = 4 then fop .sub .f32 (fop .sub .f32 (fop .mul .f32 a s) (fop .mul .f32 b x)) (fop .mul .f32 c y)
  else fop .add .f32 (fop .sub .f32 s x) (fop .mul .f32 a y)
/-- The state behind it. -/
def st0 (k : Int) (a b c x y s : Nat) : Nat := if k = 1 ∨ k = 4 then kept (outF k a b c x y s) else kept s
def st1 (k : Int) (a b c x y s : Nat) : Nat := if k = 1 ∨ k = 2 then 0 else if k = 4 then kept x else kept (outF k a b c x y s)
theorem kept_zero : kept 0 = 0 := by decide
theorem can_outF (k : Int) (a b c x y s : Nat) : can .f32 (outF k a b c x y s) = outF k a b c x y s := by
  unfold outF; split; exact can_fop _ _ _ _; split; exact can_fop _ _ _ _; split <;> exact can_fop _ _ _ _
/-- What 'next' gives. -/
def OutN (k : Int) (a b c x y s : Nat) (w : World) (e : Ending) (w' : World) : Prop := ∃ r p q, e = .returned (.tuple #[.float .f32 r, .agg #[.float .f32 p, .float .f32 q]]) ∧ can .f32 r = outF k a b c x y s ∧ kept p = st0 k a b c x y s ∧ kept q = st1 k a b c x y s ∧ fits .f32 p ∧ fits .f32 q ∧ fits .f32 r ∧ le w w'
theorem fits_zero : fits .f32 0 := by simp [fits, Lit.wf]
theorem Row.store2 {W : World} {g : Nat} {t : TypeId} {o0 o1 v0 v1 : Value} (h : Row W g t #[o0, o1]) : Row ((W.setCell ⟨g, 0, none⟩ v0).setCell ⟨g, 1, none⟩ v1) g t #[v0, v1] := by
  have := (h.set 0 v0).set 1 v1
  simpa using this
/-- What a step gives: block g holds the new state. -/
def OutS (k : Int) (a b c x y s : Nat) (g : Nat) (t : TypeId) (cs : Nat → Nat → Array Value) (w : World) (e : Ending) (w' : World) : Prop := ∃ r, e = .returned (.float .f32 r) ∧ can .f32 r = outF k a b c x y s ∧ fits .f32 r ∧ Row w' g t (cs (st0 k a b c x y s) (st1 k a b c x y s)) ∧ Upd g w w'
end Go.Fk
namespace Go.Proofs.Ytmacednkpjfokaa
open Go.RowKit Go.Fk
theorem i_next1 (a b c x y s : Nat) (w : World) (hx : fits .f32 x) (hs : fits .f32 s) : Calls Try.prog 131 #[.agg #[.float .f32 a, .float .f32 b, .float .f32 c], .agg #[.float .f32 x, .float .f32 y], .float .f32 s] w (OutN 1 a b c x y s w) := by
  have Hx := hid hx; have Hs := hid hs; clear hx hs
  go_enter Try.func131, Try.ntmps131
  go_wp2_with (with_reducible refine wpList_farith rfl rfl rfl rfl rfl ?_; intro r n hr hf)
  rename_i r1 n1 h1 f1 r2 n2 h2 f2
  have e : can .f32 r = outF 1 a b c x y s := (by rw [hr.out]; exact fop_congr (h1.out.trans (can_fop _ _ _ _).symm) (h2.out.trans (can_fop _ _ _ _).symm))
  refine bodyPost_ret (results_row2r rfl _ _ _ _ _ rfl (Row.store2 ((Row.new' _ _ _ (by simp)).drewN _)) Try.underlying24 rfl info2) rfl ?_
  exact ⟨_, _, _, rfl, e, kept_can (e.trans (can_outF _ _ _ _ _ _ _).symm), kept_zero, hf.out, fits_zero, hf.out, by unfold le; repeat' (first | (with_reducible exact Below.refl _ _) | (with_reducible assumption) | (with_reducible refine below_drewN ?_ _) | (with_reducible refine Below.alloc ?_ ?_ _) | (with_reducible refine Below.drew ?_) | (with_reducible refine Below.setCell ?_ ?_ _) | go_size)⟩
theorem i_next2 (a b c x y s : Nat) (w : World) (hx : fits .f32 x) (hs : fits .f32 s) : Calls Try.prog 132 #[.agg #[.float .f32 a, .float .f32 b, .float .f32 c], .agg #[.float .f32 x, .float .f32 y], .float .f32 s] w (OutN 2 a b c x y s w) := by
  have Hx := hid hx; have Hs := hid hs; clear hx hs
  go_enter Try.func132, Try.ntmps132
  go_wp2_with (with_reducible refine wpList_farith rfl rfl rfl rfl rfl ?_; intro r n hr hf)
  rename_i r1 n1 h1 f1 r2 n2 h2 f2
  have e : can .f32 r = outF 2 a b c x y s := (by rw [hr.out]; exact fop_congr (h1.out.trans (can_fop _ _ _ _).symm) (h2.out.trans (can_fop _ _ _ _).symm))
  refine bodyPost_ret (results_row2r rfl _ _ _ _ _ rfl (Row.store2 ((Row.new' _ _ _ (by simp)).drewN _)) Try.underlying24 rfl info2) rfl ?_
  exact ⟨_, _, _, rfl, e, rfl, kept_zero, Hs.out, fits_zero, hf.out, by unfold le; repeat' (first | (with_reducible exact Below.refl _ _) | (with_reducible assumption) | (with_reducible refine below_drewN ?_ _) | (with_reducible refine Below.alloc ?_ ?_ _) | (with_reducible refine Below.drew ?_) | (with_reducible refine Below.setCell ?_ ?_ _) | go_size)⟩
theorem i_next3 (a b c x y s : Nat) (w : World) (hx : fits .f32 x) (hs : fits .f32 s) : Calls Try.prog 133 #[.agg #[.float .f32 a, .float .f32 b, .float .f32 c], .agg #[.float .f32 x, .float .f32 y], .float .f32 s] w (OutN 3 a b c x y s w) := by
  have Hx := hid hx; have Hs := hid hs; clear hx hs
  go_enter Try.func133, Try.ntmps133
  go_wp2_with (with_reducible refine wpList_farith rfl rfl rfl rfl rfl ?_; intro r n hr hf)
  rename_i r1 n1 h1 f1 r2 n2 h2 f2
  have e : can .f32 r = outF 3 a b c x y s := (by rw [hr.out]; exact fop_congr (h2.out.trans ((fop_congr rfl (h1.out.trans (can_fop _ _ _ _).symm)).trans (can_fop _ _ _ _).symm)) rfl)
  refine bodyPost_ret (results_row2r rfl _ _ _ _ _ rfl (Row.store2 ((Row.new' _ _ _ (by simp)).drewN _)) Try.underlying24 rfl info2) rfl ?_
  exact ⟨_, _, _, rfl, e, rfl, kept_can (e.trans (can_outF _ _ _ _ _ _ _).symm), Hs.out, hf.out, hf.out, by unfold le; repeat' (first | (with_reducible exact Below.refl _ _) | (with_reducible assumption) | (with_reducible refine below_drewN ?_ _) | (with_reducible refine Below.alloc ?_ ?_ _) | (with_reducible refine Below.drew ?_) | (with_reducible refine Below.setCell ?_ ?_ _) | go_size)⟩
theorem i_next4 (a b c x y s : Nat) (w : World) (hx : fits .f32 x) (hs : fits .f32 s) : Calls Try.prog 134 #[.agg #[.float .f32 a, .float .f32 b, .float .f32 c], .agg #[.float .f32 x, .float .f32 y], .float .f32 s] w (OutN 4 a b c x y s w) := by
  have Hx := hid hx; have Hs := hid hs; clear hx hs
  go_enter Try.func134, Try.ntmps134
  go_wp2_with (with_reducible refine wpList_farith rfl rfl rfl rfl rfl ?_; intro r n hr hf)
  rename_i r1 n1 h1 f1 r2 n2 h2 f2 r3 n3 h3 f3 r4 n4 h4 f4 KK aa
  have e : can .f32 r = outF 4 a b c x y s := (by rw [hr.out]; exact fop_congr (h3.out.trans ((fop_congr (h1.out.trans (can_fop _ _ _ _).symm) (h2.out.trans (can_fop _ _ _ _).symm)).trans (can_fop _ _ _ _).symm)) (h4.out.trans (can_fop _ _ _ _).symm))
  have F := ((((Frm.nil w).box 143 #[.float .f32 a, .float .f32 b, .float .f32 c]).box 24 #[.float .f32 x, .float .f32 y]).box 24 #[.float .f32 0, .float .f32 0])
  simp only [World.size_alloc] at F
  refine region_tail (fun _ _ _ _ => True) 6 (by kernel_rfl) (by kernel_rfl) ?_
  simp only [List.take_succ_cons, List.take_zero, List.drop_succ_cons, List.drop_zero]
  refine wpFree_one rfl (.float .f32 r) (fun w1 _ => by kernel_rfl) ?_
  simp only [Act.put, List.setIfInBounds_toArray, List.set_cons_succ, List.set_cons_zero]
  refine wpFree_one rfl (.float .f32 r) (fun w1 _ => by kernel_rfl) ?_
  simp only [Act.put, List.setIfInBounds_toArray, List.set_cons_succ, List.set_cons_zero]
  refine wpFree_one rfl (.pointer (some ⟨w.heap.size + 1, 0, none⟩)) (fun w1 _ => by kernel_rfl) ?_
  simp only [Act.put, List.setIfInBounds_toArray, List.set_cons_succ, List.set_cons_zero]
  refine wpFree_loadF (F.drewN _) rfl rfl rfl rfl (k := .f32) (v := x) (List.mem_cons_of_mem _ List.mem_cons_self) rfl Try.underlying22 ?_
  simp only [Act.put, List.setIfInBounds_toArray, List.set_cons_succ, List.set_cons_zero]
  refine wpFree_one rfl (.agg #[.float .f32 r, .float .f32 x]) (fun w1 _ => by kernel_rfl) ?_
  simp only [Act.put, List.setIfInBounds_toArray, List.set_cons_succ, List.set_cons_zero]
  refine wpFree_one rfl (.float .f32 r) (fun w1 _ => by kernel_rfl) ?_
  simp only [Act.put, List.setIfInBounds_toArray, List.set_cons_succ, List.set_cons_zero]
  refine wpFree_nil (fun w3 hw3 hF => ?_)
  have F3 := ((F.drewN _).drewN 1).le hw3
  have hz : w.heap.size ≤ w.heap.size + 1 + 1 := by omega
  have RR := F3.row (g := w.heap.size + 1 + 1) (t := 24) (cs := #[.float .f32 0, .float .f32 0]) List.mem_cons_self
  refine wpList_storeD rfl rfl rfl (cells := #[.float .f32 r, .float .f32 x]) rfl RR info2 rfl (by simp [Value.oneCell']) (fun w' KW => ?_)
  have R' := hid KW.row
  have L' := hid (KW.below _ _ F3.below hz)
  clear F F3 RR KW hw3 hF hz
  replace e := hid e
  go_wp2
  refine bodyPost_ret (results_row2r rfl _ _ _ _ _ rfl R'.out Try.underlying24 rfl info2) rfl ?_
  exact ⟨_, _, _, rfl, e.out, kept_can (e.out.trans (can_outF _ _ _ _ _ _ _).symm), rfl, hf.out, Hx.out, hf.out, L'.out⟩
theorem i_next5 (a b c x y s : Nat) (w : World) (hx : fits .f32 x) (hs : fits .f32 s) : Calls Try.prog 135 #[.agg #[.float .f32 a, .float .f32 b, .float .f32 c], .agg #[.float .f32 x, .float .f32 y], .float .f32 s] w (OutN 5 a b c x y s w) := by
  have Hx := hid hx; have Hs := hid hs; clear hx hs
  go_enter Try.func135, Try.ntmps135
  go_wp2_with (with_reducible refine wpList_farith rfl rfl rfl rfl rfl ?_; intro r n hr hf)
  rename_i r1 n1 h1 f1 r2 n2 h2 f2
  have e : can .f32 r = outF 5 a b c x y s := (by rw [hr.out]; exact fop_congr (h1.out.trans (can_fop _ _ _ _).symm) (h2.out.trans (can_fop _ _ _ _).symm))
  refine bodyPost_ret (results_row2r rfl _ _ _ _ _ rfl (Row.store2 ((Row.new' _ _ _ (by simp)).drewN _)) Try.underlying24 rfl info2) rfl ?_
  exact ⟨_, _, _, rfl, e, rfl, kept_can (e.trans (can_outF _ _ _ _ _ _ _).symm), Hs.out, hf.out, hf.out, by unfold le; repeat' (first | (with_reducible exact Below.refl _ _) | (with_reducible assumption) | (with_reducible refine below_drewN ?_ _) | (with_reducible refine Below.alloc ?_ ?_ _) | (with_reducible refine Below.drew ?_) | (with_reducible refine Below.setCell ?_ ?_ _) | go_size)⟩
theorem alloc2 (w : World) : (Instr.alloc 24 true (.tuple #[])).run Try.prog w = .ok (.pointer (some ⟨w.heap.size, 0, none⟩)) (w.alloc (.cells #[.float .f32 0, .float .f32 0] 24)) := by kernel_rfl
set_option maxHeartbeats 2000000 in
theorem i_step1 (a b c x y s g : Nat) (w : World) (R : Row w g 88 #[.iface 140 (.agg #[.float .f32 a, .float .f32 b, .float .f32 c]), .float .f32 x, .float .f32 y]) (hx : fits .f32 x) (hs : fits .f32 s) :
    Calls Try.prog 100 #[.pointer (some ⟨g, 0, none⟩), .float .f32 s] w (OutS 1 a b c x y s g 88 (fun u v => #[.iface 140 (.agg #[.float .f32 a, .float .f32 b, .float .f32 c]), .float .f32 u, .float .f32 v]) w) := by
  have Hx := hid hx; have Hs := hid hs; clear hx hs
  have F := Frm.one R
  clear R
  go_enter Try.func100, Try.ntmps100
  go_upto_region 1 with (fail)
  refine region_tail (fun f args _ v => ∃ r p q, v = .tuple #[.float .f32 r, .agg #[.float .f32 p, .float .f32 q]] ∧ can .f32 r = outF 1 a b c x y s ∧ kept p = st0 1 a b c x y s ∧ kept q = st1 1 a b c x y s ∧ fits .f32 p ∧ fits .f32 q ∧ fits .f32 r) 17 (by kernel_rfl) (by kernel_rfl) ?_
  simp only [List.take_succ_cons, List.take_zero, List.drop_succ_cons, List.drop_zero]
  refine wpFree_one rfl (.pointer (some ⟨g, 0, none⟩)) (fun w1 _ => by kernel_rfl) ?_
  simp only [Act.put, List.setIfInBounds_toArray, List.set_cons_succ, List.set_cons_zero]
  refine wpFree_one rfl (.pointer (some ⟨g, 0, none⟩)) (fun w1 _ => by kernel_rfl) ?_
  simp only [Act.put, List.setIfInBounds_toArray, List.set_cons_succ, List.set_cons_zero]
  refine wpFree_one rfl (.pointer (some ⟨g, 0, none⟩)) (fun w1 _ => by kernel_rfl) ?_
  simp only [Act.put, List.setIfInBounds_toArray, List.set_cons_succ, List.set_cons_zero]
  refine wpFree_loadV F rfl rfl rfl rfl List.mem_cons_self rfl (fun w1 => by kernel_rfl) ?_
  simp only [Act.put, List.setIfInBounds_toArray, List.set_cons_succ, List.set_cons_zero]
  refine wpFree_one rfl (.pointer (some ⟨g, 0, none⟩)) (fun w1 _ => by kernel_rfl) ?_
  simp only [Act.put, List.setIfInBounds_toArray, List.set_cons_succ, List.set_cons_zero]
  refine wpFree_one rfl (.pointer (some ⟨g, 0, none⟩)) (fun w1 _ => by kernel_rfl) ?_
  simp only [Act.put, List.setIfInBounds_toArray, List.set_cons_succ, List.set_cons_zero]
  refine wpFree_one rfl (.pointer (some ⟨g, 1, none⟩)) (fun w1 _ => by kernel_rfl) ?_
  simp only [Act.put, List.setIfInBounds_toArray, List.set_cons_succ, List.set_cons_zero]
  refine wpFree_loadPart F rfl rfl rfl rfl (List.mem_cons_self) Try.underlying24 rfl [.float .f32 x, .float .f32 y] (fun j hj => by match j, hj with | 0, _ => rfl | 1, _ => rfl) info2 ?_
  simp only [Act.put, List.setIfInBounds_toArray, List.set_cons_succ, List.set_cons_zero]
  refine wpFree_one rfl (.float .f32 s) (fun w1 _ => by kernel_rfl) ?_
  simp only [Act.put, List.setIfInBounds_toArray, List.set_cons_succ, List.set_cons_zero]
  refine wpFree_one rfl (.iface 140 (.agg #[.float .f32 a, .float .f32 b, .float .f32 c])) (fun w1 _ => by kernel_rfl) ?_
  simp only [Act.put, List.setIfInBounds_toArray, List.set_cons_succ, List.set_cons_zero]
  refine wpFree_one rfl (.iface 140 (.agg #[.float .f32 a, .float .f32 b, .float .f32 c])) (fun w1 _ => by kernel_rfl) ?_
  simp only [Act.put, List.setIfInBounds_toArray, List.set_cons_succ, List.set_cons_zero]
  refine wpFree_callR rfl 131 #[.agg #[.float .f32 a, .float .f32 b, .float .f32 c], .agg #[.float .f32 x, .float .f32 y], .float .f32 s] (fun w1 => by kernel_rfl) (fun _ _ _ _ h => h) (fun w1 _ => (i_next1 a b c x y s w1 Hx.out Hs.out).mono ?_) ?_
  · rintro e w2 ⟨r, p, q, rfl, h1, h2, h3, h4, h5, h6, hl⟩
    exact ⟨_, rfl, hl, r, p, q, rfl, h1, h2, h3, h4, h5, h6⟩
  rintro v ⟨_, _, r, p, q, rfl, h1, h2, h3, h4, h5, h6⟩
  replace h1 := hid h1; replace h2 := hid h2; replace h3 := hid h3; replace h4 := hid h4; replace h5 := hid h5; replace h6 := hid h6
  simp only [Act.put, List.setIfInBounds_toArray, List.set_cons_succ, List.set_cons_zero]
  refine wpFree_one rfl (.tuple #[.float .f32 r, .agg #[.float .f32 p, .float .f32 q]]) (fun w1 _ => by kernel_rfl) ?_
  simp only [Act.put, List.setIfInBounds_toArray, List.set_cons_succ, List.set_cons_zero]
  refine wpFree_one rfl (.float .f32 r) (fun w1 _ => by kernel_rfl) ?_
  simp only [Act.put, List.setIfInBounds_toArray, List.set_cons_succ, List.set_cons_zero]
  refine wpFree_one rfl (.agg #[.float .f32 p, .float .f32 q]) (fun w1 _ => by kernel_rfl) ?_
  simp only [Act.put, List.setIfInBounds_toArray, List.set_cons_succ, List.set_cons_zero]
  refine wpFree_alloc rfl rfl #[.float .f32 0, .float .f32 0] alloc2 (fun g2 hg2 => ?_)
  simp only [Act.put, List.setIfInBounds_toArray, List.set_cons_succ, List.set_cons_zero]
  refine wpFree_one rfl (.float .f32 r) (fun w1 _ => by kernel_rfl) ?_
  simp only [Act.put, List.setIfInBounds_toArray, List.set_cons_succ, List.set_cons_zero]
  refine wpFree_nil (fun w3 hw3 hF => ?_)
  obtain ⟨_, b', hbb, _, hrow⟩ := hF
  obtain rfl : g2 = b' := by simpa using hbb
  have hlt : g < w.heap.size := F.lt List.mem_cons_self
  have hz : w.heap.size ≤ g2 := by simpa using hg2
  have hne : g ≠ g2 := by omega
  refine wpList_storeD rfl rfl rfl (cells := #[.float .f32 p, .float .f32 q]) rfl hrow info2 rfl (by simp [Value.oneCell']) (fun w4 KW => ?_)
  have R2 := KW.row
  have RG := KW.other _ _ _ hne (((F.drewN 1).le hw3).row List.mem_cons_self)
  have U := Upd.of_le (g := g) (KW.below _ _ (le_trans (le_drewN w 1) hw3) hz)
  replace hne := hid hne
  clear hbb hrow hw3 hg2 F KW hlt hz
  replace U := hid U
  replace RG := hid RG
  go_wp2_with (with_reducible refine wpList_loadDn rfl rfl rfl R2 Try.underlying24 rfl info2 (by simp) ?_)
  replace R2 := hid R2
  go_loopw [25] (fun i wr => ∃ j : Nat, j ≤ 2 ∧ i = .int .i64 j ∧ Hid (Row wr g 88 #[.iface 140 (.agg #[.float .f32 a, .float .f32 b, .float .f32 c]), .float .f32 (if j = 0 then x else st0 1 a b c x y s), .float .f32 (if j < 2 then y else st1 1 a b c x y s)]) ∧ Hid (Upd g w wr)) (fun i _ => 2 - (intOf i).toNat)
  case atStart => exact ⟨0, by omega, rfl, RG, U⟩
  case round =>
    obtain ⟨j, hj, rfl, RJ, UJ⟩ := hrel
    rcases (show j = 0 ∨ j = 1 ∨ j = 2 by omega) with rfl | rfl | rfl
    · simp only [if_true, if_pos (show (0 : Nat) < 2 by decide)] at RJ
      clear RG U
      have ix : ∀ w, (Instr.index 24 (.agg #[.float .f32 p, .float .f32 q]) (.int .i64 0)).run Try.prog w = .ok (.float .f32 p) w := fun w => by kernel_rfl
      rw [show ((0 : Nat) : Int) = 0 from rfl]
      go_wp2
      clear ix
      refine region_tail (fun _ _ _ v => v = .float .f32 (kept p)) 7 (by kernel_rfl) (by kernel_rfl) ?_
      simp only [List.take_succ_cons, List.take_zero, List.drop_succ_cons, List.drop_zero]
      refine wpFree_one rfl (.pointer (some ⟨g, 0, none⟩)) (fun w1 _ => by kernel_rfl) ?_
      simp only [Act.put, List.setIfInBounds_toArray, List.set_cons_succ, List.set_cons_zero]
      refine wpFree_one rfl (.int .i64 0) (fun w1 _ => by kernel_rfl) ?_
      simp only [Act.put, List.setIfInBounds_toArray, List.set_cons_succ, List.set_cons_zero]
      refine wpFree_one rfl (.float .f32 p) (fun w1 _ => by kernel_rfl) ?_
      simp only [Act.put, List.setIfInBounds_toArray, List.set_cons_succ, List.set_cons_zero]
      refine wpFree_call rfl rfl Try.func108 (by kernel_rfl) (by kernel_rfl) (args := #[.float .f32 p]) (by simp [Act.eval]) (fun _ _ _ _ h => h) (fun w1 _ => (i_kept p w1 h4.out).mono ?_) ?_
      · rintro e w2 ⟨rfl, rfl⟩
        exact ⟨_, rfl, le_refl _, rfl⟩
      rintro v ⟨_, _, rfl⟩
      simp only [Act.put, List.setIfInBounds_toArray, List.set_cons_succ, List.set_cons_zero]
      refine wpFree_one rfl (.pointer (some ⟨g, 0, none⟩)) (fun w1 _ => by kernel_rfl) ?_
      simp only [Act.put, List.setIfInBounds_toArray, List.set_cons_succ, List.set_cons_zero]
      refine wpFree_one rfl (.pointer (some ⟨g, 1, none⟩)) (fun w1 _ => by kernel_rfl) ?_
      simp only [Act.put, List.setIfInBounds_toArray, List.set_cons_succ, List.set_cons_zero]
      refine wpFree_one rfl (.pointer (some ⟨g, 1 + 0, none⟩)) (fun w1 _ => by kernel_rfl) ?_
      simp only [Act.put, List.setIfInBounds_toArray, List.set_cons_succ, List.set_cons_zero]
      refine wpFree_nil (fun w5 hw5 _ => ?_)
      have RR := (RJ.out.drewN 1).le hw5
      have UU := hid ((UJ.out.le (le_drewN _ 1)).le hw5)
      have cc := RR.cell? (1 + 0)
      have ff := RR.frozen (1 + 0)
      replace RR := hid RR
      clear hw5
      go_wp2
      go_roundw
      case rel => exact ⟨0 + 1, by omega, by go_num, by have := RR.out.set (1 + 0) (.float .f32 (kept p)); rw [h2.out] at this; show Row _ _ _ _; rw [h2.out]; simpa using this, UU.out.setCell rfl _⟩
      case measure => simp [intOf]
    · simp only [if_neg (show ¬ (1 : Nat) = 0 by decide), if_pos (show (1 : Nat) < 2 by decide)] at RJ
      clear RG U
      have ix : ∀ w, (Instr.index 24 (.agg #[.float .f32 p, .float .f32 q]) (.int .i64 1)).run Try.prog w = .ok (.float .f32 q) w := fun w => by kernel_rfl
      rw [show ((1 : Nat) : Int) = 1 from rfl]
      go_wp2
      clear ix
      refine region_tail (fun _ _ _ v => v = .float .f32 (kept q)) 7 (by kernel_rfl) (by kernel_rfl) ?_
      simp only [List.take_succ_cons, List.take_zero, List.drop_succ_cons, List.drop_zero]
      refine wpFree_one rfl (.pointer (some ⟨g, 0, none⟩)) (fun w1 _ => by kernel_rfl) ?_
      simp only [Act.put, List.setIfInBounds_toArray, List.set_cons_succ, List.set_cons_zero]
      refine wpFree_one rfl (.int .i64 1) (fun w1 _ => by kernel_rfl) ?_
      simp only [Act.put, List.setIfInBounds_toArray, List.set_cons_succ, List.set_cons_zero]
      refine wpFree_one rfl (.float .f32 q) (fun w1 _ => by kernel_rfl) ?_
      simp only [Act.put, List.setIfInBounds_toArray, List.set_cons_succ, List.set_cons_zero]
      refine wpFree_call rfl rfl Try.func108 (by kernel_rfl) (by kernel_rfl) (args := #[.float .f32 q]) (by simp [Act.eval]) (fun _ _ _ _ h => h) (fun w1 _ => (i_kept q w1 h5.out).mono ?_) ?_
      · rintro e w2 ⟨rfl, rfl⟩
        exact ⟨_, rfl, le_refl _, rfl⟩
      rintro v ⟨_, _, rfl⟩
      simp only [Act.put, List.setIfInBounds_toArray, List.set_cons_succ, List.set_cons_zero]
      refine wpFree_one rfl (.pointer (some ⟨g, 0, none⟩)) (fun w1 _ => by kernel_rfl) ?_
      simp only [Act.put, List.setIfInBounds_toArray, List.set_cons_succ, List.set_cons_zero]
      refine wpFree_one rfl (.pointer (some ⟨g, 1, none⟩)) (fun w1 _ => by kernel_rfl) ?_
      simp only [Act.put, List.setIfInBounds_toArray, List.set_cons_succ, List.set_cons_zero]
      refine wpFree_one rfl (.pointer (some ⟨g, 1 + 1, none⟩)) (fun w1 _ => by kernel_rfl) ?_
      simp only [Act.put, List.setIfInBounds_toArray, List.set_cons_succ, List.set_cons_zero]
      refine wpFree_nil (fun w5 hw5 _ => ?_)
      have RR := (RJ.out.drewN 1).le hw5
      have UU := hid ((UJ.out.le (le_drewN _ 1)).le hw5)
      have cc := RR.cell? (1 + 1)
      have ff := RR.frozen (1 + 1)
      replace RR := hid RR
      clear hw5
      go_wp2
      go_roundw
      case rel => exact ⟨1 + 1, by omega, by go_num, by have := RR.out.set (1 + 1) (.float .f32 (kept q)); rw [h3.out] at this; show Row _ _ _ _; rw [h3.out]; simpa using this, UU.out.setCell rfl _⟩
      case measure => simp [intOf]
    · simp only [if_neg (show ¬ (2 : Nat) = 0 by decide), if_neg (show ¬ (2 : Nat) < 2 by decide)] at RJ
      clear RG U
      go_wp2
      go_ret
      exact ⟨_, rfl, h1.out, h6.out, RJ.out, UJ.out⟩
set_option maxHeartbeats 2000000 in
theorem i_step2 (a b c x y s g : Nat) (w : World) (R : Row w g 88 #[.iface 141 (.agg #[.float .f32 a, .float .f32 b, .float .f32 c]), .float .f32 x, .float .f32 y]) (hx : fits .f32 x) (hs : fits .f32 s) :
    Calls Try.prog 100 #[.pointer (some ⟨g, 0, none⟩), .float .f32 s] w (OutS 2 a b c x y s g 88 (fun u v => #[.iface 141 (.agg #[.float .f32 a, .float .f32 b, .float .f32 c]), .float .f32 u, .float .f32 v]) w) := by
  have Hx := hid hx; have Hs := hid hs; clear hx hs
  have F := Frm.one R
  clear R
  go_enter Try.func100, Try.ntmps100
  go_upto_region 1 with (fail)
  refine region_tail (fun f args _ v => ∃ r p q, v = .tuple #[.float .f32 r, .agg #[.float .f32 p, .float .f32 q]] ∧ can .f32 r = outF 2 a b c x y s ∧ kept p = st0 2 a b c x y s ∧ kept q = st1 2 a b c x y s ∧ fits .f32 p ∧ fits .f32 q ∧ fits .f32 r) 17 (by kernel_rfl) (by kernel_rfl) ?_
  simp only [List.take_succ_cons, List.take_zero, List.drop_succ_cons, List.drop_zero]
  refine wpFree_one rfl (.pointer (some ⟨g, 0, none⟩)) (fun w1 _ => by kernel_rfl) ?_
  simp only [Act.put, List.setIfInBounds_toArray, List.set_cons_succ, List.set_cons_zero]
  refine wpFree_one rfl (.pointer (some ⟨g, 0, none⟩)) (fun w1 _ => by kernel_rfl) ?_
  simp only [Act.put, List.setIfInBounds_toArray, List.set_cons_succ, List.set_cons_zero]
  refine wpFree_one rfl (.pointer (some ⟨g, 0, none⟩)) (fun w1 _ => by kernel_rfl) ?_
  simp only [Act.put, List.setIfInBounds_toArray, List.set_cons_succ, List.set_cons_zero]
  refine wpFree_loadV F rfl rfl rfl rfl List.mem_cons_self rfl (fun w1 => by kernel_rfl) ?_
  simp only [Act.put, List.setIfInBounds_toArray, List.set_cons_succ, List.set_cons_zero]
  refine wpFree_one rfl (.pointer (some ⟨g, 0, none⟩)) (fun w1 _ => by kernel_rfl) ?_
  simp only [Act.put, List.setIfInBounds_toArray, List.set_cons_succ, List.set_cons_zero]
  refine wpFree_one rfl (.pointer (some ⟨g, 0, none⟩)) (fun w1 _ => by kernel_rfl) ?_
  simp only [Act.put, List.setIfInBounds_toArray, List.set_cons_succ, List.set_cons_zero]
  refine wpFree_one rfl (.pointer (some ⟨g, 1, none⟩)) (fun w1 _ => by kernel_rfl) ?_
  simp only [Act.put, List.setIfInBounds_toArray, List.set_cons_succ, List.set_cons_zero]
  refine wpFree_loadPart F rfl rfl rfl rfl (List.mem_cons_self) Try.underlying24 rfl [.float .f32 x, .float .f32 y] (fun j hj => by match j, hj with | 0, _ => rfl | 1, _ => rfl) info2 ?_
  simp only [Act.put, List.setIfInBounds_toArray, List.set_cons_succ, List.set_cons_zero]
  refine wpFree_one rfl (.float .f32 s) (fun w1 _ => by kernel_rfl) ?_
  simp only [Act.put, List.setIfInBounds_toArray, List.set_cons_succ, List.set_cons_zero]
  refine wpFree_one rfl (.iface 141 (.agg #[.float .f32 a, .float .f32 b, .float .f32 c])) (fun w1 _ => by kernel_rfl) ?_
  simp only [Act.put, List.setIfInBounds_toArray, List.set_cons_succ, List.set_cons_zero]
  refine wpFree_one rfl (.iface 141 (.agg #[.float .f32 a, .float .f32 b, .float .f32 c])) (fun w1 _ => by kernel_rfl) ?_
  simp only [Act.put, List.setIfInBounds_toArray, List.set_cons_succ, List.set_cons_zero]
  refine wpFree_callR rfl 132 #[.agg #[.float .f32 a, .float .f32 b, .float .f32 c], .agg #[.float .f32 x, .float .f32 y], .float .f32 s] (fun w1 => by kernel_rfl) (fun _ _ _ _ h => h) (fun w1 _ => (i_next2 a b c x y s w1 Hx.out Hs.out).mono ?_) ?_
  · rintro e w2 ⟨r, p, q, rfl, h1, h2, h3, h4, h5, h6, hl⟩
    exact ⟨_, rfl, hl, r, p, q, rfl, h1, h2, h3, h4, h5, h6⟩
  rintro v ⟨_, _, r, p, q, rfl, h1, h2, h3, h4, h5, h6⟩
  replace h1 := hid h1; replace h2 := hid h2; replace h3 := hid h3; replace h4 := hid h4; replace h5 := hid h5; replace h6 := hid h6
  simp only [Act.put, List.setIfInBounds_toArray, List.set_cons_succ, List.set_cons_zero]
  refine wpFree_one rfl (.tuple #[.float .f32 r, .agg #[.float .f32 p, .float .f32 q]]) (fun w1 _ => by kernel_rfl) ?_
  simp only [Act.put, List.setIfInBounds_toArray, List.set_cons_succ, List.set_cons_zero]
  refine wpFree_one rfl (.float .f32 r) (fun w1 _ => by kernel_rfl) ?_
  simp only [Act.put, List.setIfInBounds_toArray, List.set_cons_succ, List.set_cons_zero]
  refine wpFree_one rfl (.agg #[.float .f32 p, .float .f32 q]) (fun w1 _ => by kernel_rfl) ?_
  simp only [Act.put, List.setIfInBounds_toArray, List.set_cons_succ, List.set_cons_zero]
  refine wpFree_alloc rfl rfl #[.float .f32 0, .float .f32 0] alloc2 (fun g2 hg2 => ?_)
  simp only [Act.put, List.setIfInBounds_toArray, List.set_cons_succ, List.set_cons_zero]
  refine wpFree_one rfl (.float .f32 r) (fun w1 _ => by kernel_rfl) ?_
  simp only [Act.put, List.setIfInBounds_toArray, List.set_cons_succ, List.set_cons_zero]
  refine wpFree_nil (fun w3 hw3 hF => ?_)
  obtain ⟨_, b', hbb, _, hrow⟩ := hF
  obtain rfl : g2 = b' := by simpa using hbb
  have hlt : g < w.heap.size := F.lt List.mem_cons_self
  have hz : w.heap.size ≤ g2 := by simpa using hg2
  have hne : g ≠ g2 := by omega
  refine wpList_storeD rfl rfl rfl (cells := #[.float .f32 p, .float .f32 q]) rfl hrow info2 rfl (by simp [Value.oneCell']) (fun w4 KW => ?_)
  have R2 := KW.row
  have RG := KW.other _ _ _ hne (((F.drewN 1).le hw3).row List.mem_cons_self)
  have U := Upd.of_le (g := g) (KW.below _ _ (le_trans (le_drewN w 1) hw3) hz)
  replace hne := hid hne
  clear hbb hrow hw3 hg2 F KW hlt hz
  replace U := hid U
  replace RG := hid RG
  go_wp2_with (with_reducible refine wpList_loadDn rfl rfl rfl R2 Try.underlying24 rfl info2 (by simp) ?_)
  replace R2 := hid R2
  go_loopw [25] (fun i wr => ∃ j : Nat, j ≤ 2 ∧ i = .int .i64 j ∧ Hid (Row wr g 88 #[.iface 141 (.agg #[.float .f32 a, .float .f32 b, .float .f32 c]), .float .f32 (if j = 0 then x else st0 2 a b c x y s), .float .f32 (if j < 2 then y else st1 2 a b c x y s)]) ∧ Hid (Upd g w wr)) (fun i _ => 2 - (intOf i).toNat)
  case atStart => exact ⟨0, by omega, rfl, RG, U⟩
  case round =>
    obtain ⟨j, hj, rfl, RJ, UJ⟩ := hrel
    rcases (show j = 0 ∨ j = 1 ∨ j = 2 by omega) with rfl | rfl | rfl
    · simp only [if_true, if_pos (show (0 : Nat) < 2 by decide)] at RJ
      clear RG U
      have ix : ∀ w, (Instr.index 24 (.agg #[.float .f32 p, .float .f32 q]) (.int .i64 0)).run Try.prog w = .ok (.float .f32 p) w := fun w => by kernel_rfl
      rw [show ((0 : Nat) : Int) = 0 from rfl]
      go_wp2
      clear ix
      refine region_tail (fun _ _ _ v => v = .float .f32 (kept p)) 7 (by kernel_rfl) (by kernel_rfl) ?_
      simp only [List.take_succ_cons, List.take_zero, List.drop_succ_cons, List.drop_zero]
      refine wpFree_one rfl (.pointer (some ⟨g, 0, none⟩)) (fun w1 _ => by kernel_rfl) ?_
      simp only [Act.put, List.setIfInBounds_toArray, List.set_cons_succ, List.set_cons_zero]
      refine wpFree_one rfl (.int .i64 0) (fun w1 _ => by kernel_rfl) ?_
      simp only [Act.put, List.setIfInBounds_toArray, List.set_cons_succ, List.set_cons_zero]
      refine wpFree_one rfl (.float .f32 p) (fun w1 _ => by kernel_rfl) ?_
      simp only [Act.put, List.setIfInBounds_toArray, List.set_cons_succ, List.set_cons_zero]
      refine wpFree_call rfl rfl Try.func108 (by kernel_rfl) (by kernel_rfl) (args := #[.float .f32 p]) (by simp [Act.eval]) (fun _ _ _ _ h => h) (fun w1 _ => (i_kept p w1 h4.out).mono ?_) ?_
      · rintro e w2 ⟨rfl, rfl⟩
        exact ⟨_, rfl, le_refl _, rfl⟩
      rintro v ⟨_, _, rfl⟩
      simp only [Act.put, List.setIfInBounds_toArray, List.set_cons_succ, List.set_cons_zero]
      refine wpFree_one rfl (.pointer (some ⟨g, 0, none⟩)) (fun w1 _ => by kernel_rfl) ?_
      simp only [Act.put, List.setIfInBounds_toArray, List.set_cons_succ, List.set_cons_zero]
      refine wpFree_one rfl (.pointer (some ⟨g, 1, none⟩)) (fun w1 _ => by kernel_rfl) ?_
      simp only [Act.put, List.setIfInBounds_toArray, List.set_cons_succ, List.set_cons_zero]
      refine wpFree_one rfl (.pointer (some ⟨g, 1 + 0, none⟩)) (fun w1 _ => by kernel_rfl) ?_
      simp only [Act.put, List.setIfInBounds_toArray, List.set_cons_succ, List.set_cons_zero]
      refine wpFree_nil (fun w5 hw5 _ => ?_)
      have RR := (RJ.out.drewN 1).le hw5
      have UU := hid ((UJ.out.le (le_drewN _ 1)).le hw5)
      have cc := RR.cell? (1 + 0)
      have ff := RR.frozen (1 + 0)
      replace RR := hid RR
      clear hw5
      go_wp2
      go_roundw
      case rel => exact ⟨0 + 1, by omega, by go_num, by have := RR.out.set (1 + 0) (.float .f32 (kept p)); rw [h2.out] at this; show Row _ _ _ _; rw [h2.out]; simpa using this, UU.out.setCell rfl _⟩
      case measure => simp [intOf]
    · simp only [if_neg (show ¬ (1 : Nat) = 0 by decide), if_pos (show (1 : Nat) < 2 by decide)] at RJ
      clear RG U
      have ix : ∀ w, (Instr.index 24 (.agg #[.float .f32 p, .float .f32 q]) (.int .i64 1)).run Try.prog w = .ok (.float .f32 q) w := fun w => by kernel_rfl
      rw [show ((1 : Nat) : Int) = 1 from rfl]
      go_wp2
      clear ix
      refine region_tail (fun _ _ _ v => v = .float .f32 (kept q)) 7 (by kernel_rfl) (by kernel_rfl) ?_
      simp only [List.take_succ_cons, List.take_zero, List.drop_succ_cons, List.drop_zero]
      refine wpFree_one rfl (.pointer (some ⟨g, 0, none⟩)) (fun w1 _ => by kernel_rfl) ?_
      simp only [Act.put, List.setIfInBounds_toArray, List.set_cons_succ, List.set_cons_zero]
      refine wpFree_one rfl (.int .i64 1) (fun w1 _ => by kernel_rfl) ?_
      simp only [Act.put, List.setIfInBounds_toArray, List.set_cons_succ, List.set_cons_zero]
      refine wpFree_one rfl (.float .f32 q) (fun w1 _ => by kernel_rfl) ?_
      simp only [Act.put, List.setIfInBounds_toArray, List.set_cons_succ, List.set_cons_zero]
      refine wpFree_call rfl rfl Try.func108 (by kernel_rfl) (by kernel_rfl) (args := #[.float .f32 q]) (by simp [Act.eval]) (fun _ _ _ _ h => h) (fun w1 _ => (i_kept q w1 h5.out).mono ?_) ?_
      · rintro e w2 ⟨rfl, rfl⟩
        exact ⟨_, rfl, le_refl _, rfl⟩
      rintro v ⟨_, _, rfl⟩
      simp only [Act.put, List.setIfInBounds_toArray, List.set_cons_succ, List.set_cons_zero]
      refine wpFree_one rfl (.pointer (some ⟨g, 0, none⟩)) (fun w1 _ => by kernel_rfl) ?_
      simp only [Act.put, List.setIfInBounds_toArray, List.set_cons_succ, List.set_cons_zero]
      refine wpFree_one rfl (.pointer (some ⟨g, 1, none⟩)) (fun w1 _ => by kernel_rfl) ?_
      simp only [Act.put, List.setIfInBounds_toArray, List.set_cons_succ, List.set_cons_zero]
      refine wpFree_one rfl (.pointer (some ⟨g, 1 + 1, none⟩)) (fun w1 _ => by kernel_rfl) ?_
      simp only [Act.put, List.setIfInBounds_toArray, List.set_cons_succ, List.set_cons_zero]
      refine wpFree_nil (fun w5 hw5 _ => ?_)
      have RR := (RJ.out.drewN 1).le hw5
      have UU := hid ((UJ.out.le (le_drewN _ 1)).le hw5)
      have cc := RR.cell? (1 + 1)
      have ff := RR.frozen (1 + 1)
      replace RR := hid RR
      clear hw5
      go_wp2
      go_roundw
      case rel => exact ⟨1 + 1, by omega, by go_num, by have := RR.out.set (1 + 1) (.float .f32 (kept q)); rw [h3.out] at this; show Row _ _ _ _; rw [h3.out]; simpa using this, UU.out.setCell rfl _⟩
      case measure => simp [intOf]
    · simp only [if_neg (show ¬ (2 : Nat) = 0 by decide), if_neg (show ¬ (2 : Nat) < 2 by decide)] at RJ
      clear RG U
      go_wp2
      go_ret
      exact ⟨_, rfl, h1.out, h6.out, RJ.out, UJ.out⟩
set_option maxHeartbeats 2000000 in
theorem i_step3 (a b c x y s g : Nat) (w : World) (R : Row w g 88 #[.iface 142 (.agg #[.float .f32 a, .float .f32 b, .float .f32 c]), .float .f32 x, .float .f32 y]) (hx : fits .f32 x) (hs : fits .f32 s) :
    Calls Try.prog 100 #[.pointer (some ⟨g, 0, none⟩), .float .f32 s] w (OutS 3 a b c x y s g 88 (fun u v => #[.iface 142 (.agg #[.float .f32 a, .float .f32 b, .float .f32 c]), .float .f32 u, .float .f32 v]) w) := by
  have Hx := hid hx; have Hs := hid hs; clear hx hs
  have F := Frm.one R
  clear R
  go_enter Try.func100, Try.ntmps100
  go_upto_region 1 with (fail)
  refine region_tail (fun f args _ v => ∃ r p q, v = .tuple #[.float .f32 r, .agg #[.float .f32 p, .float .f32 q]] ∧ can .f32 r = outF 3 a b c x y s ∧ kept p = st0 3 a b c x y s ∧ kept q = st1 3 a b c x y s ∧ fits .f32 p ∧ fits .f32 q ∧ fits .f32 r) 17 (by kernel_rfl) (by kernel_rfl) ?_
  simp only [List.take_succ_cons, List.take_zero, List.drop_succ_cons, List.drop_zero]
  refine wpFree_one rfl (.pointer (some ⟨g, 0, none⟩)) (fun w1 _ => by kernel_rfl) ?_
  simp only [Act.put, List.setIfInBounds_toArray, List.set_cons_succ, List.set_cons_zero]
  refine wpFree_one rfl (.pointer (some ⟨g, 0, none⟩)) (fun w1 _ => by kernel_rfl) ?_
  simp only [Act.put, List.setIfInBounds_toArray, List.set_cons_succ, List.set_cons_zero]
  refine wpFree_one rfl (.pointer (some ⟨g, 0, none⟩)) (fun w1 _ => by kernel_rfl) ?_
  simp only [Act.put, List.setIfInBounds_toArray, List.set_cons_succ, List.set_cons_zero]
  refine wpFree_loadV F rfl rfl rfl rfl List.mem_cons_self rfl (fun w1 => by kernel_rfl) ?_
  simp only [Act.put, List.setIfInBounds_toArray, List.set_cons_succ, List.set_cons_zero]
  refine wpFree_one rfl (.pointer (some ⟨g, 0, none⟩)) (fun w1 _ => by kernel_rfl) ?_
  simp only [Act.put, List.setIfInBounds_toArray, List.set_cons_succ, List.set_cons_zero]
  refine wpFree_one rfl (.pointer (some ⟨g, 0, none⟩)) (fun w1 _ => by kernel_rfl) ?_
  simp only [Act.put, List.setIfInBounds_toArray, List.set_cons_succ, List.set_cons_zero]
  refine wpFree_one rfl (.pointer (some ⟨g, 1, none⟩)) (fun w1 _ => by kernel_rfl) ?_
  simp only [Act.put, List.setIfInBounds_toArray, List.set_cons_succ, List.set_cons_zero]
  refine wpFree_loadPart F rfl rfl rfl rfl (List.mem_cons_self) Try.underlying24 rfl [.float .f32 x, .float .f32 y] (fun j hj => by match j, hj with | 0, _ => rfl | 1, _ => rfl) info2 ?_
  simp only [Act.put, List.setIfInBounds_toArray, List.set_cons_succ, List.set_cons_zero]
  refine wpFree_one rfl (.float .f32 s) (fun w1 _ => by kernel_rfl) ?_
  simp only [Act.put, List.setIfInBounds_toArray, List.set_cons_succ, List.set_cons_zero]
  refine wpFree_one rfl (.iface 142 (.agg #[.float .f32 a, .float .f32 b, .float .f32 c])) (fun w1 _ => by kernel_rfl) ?_
  simp only [Act.put, List.setIfInBounds_toArray, List.set_cons_succ, List.set_cons_zero]
  refine wpFree_one rfl (.iface 142 (.agg #[.float .f32 a, .float .f32 b, .float .f32 c])) (fun w1 _ => by kernel_rfl) ?_
  simp only [Act.put, List.setIfInBounds_toArray, List.set_cons_succ, List.set_cons_zero]
  refine wpFree_callR rfl 133 #[.agg #[.float .f32 a, .float .f32 b, .float .f32 c], .agg #[.float .f32 x, .float .f32 y], .float .f32 s] (fun w1 => by kernel_rfl) (fun _ _ _ _ h => h) (fun w1 _ => (i_next3 a b c x y s w1 Hx.out Hs.out).mono ?_) ?_
  · rintro e w2 ⟨r, p, q, rfl, h1, h2, h3, h4, h5, h6, hl⟩
    exact ⟨_, rfl, hl, r, p, q, rfl, h1, h2, h3, h4, h5, h6⟩
  rintro v ⟨_, _, r, p, q, rfl, h1, h2, h3, h4, h5, h6⟩
  replace h1 := hid h1; replace h2 := hid h2; replace h3 := hid h3; replace h4 := hid h4; replace h5 := hid h5; replace h6 := hid h6
  simp only [Act.put, List.setIfInBounds_toArray, List.set_cons_succ, List.set_cons_zero]
  refine wpFree_one rfl (.tuple #[.float .f32 r, .agg #[.float .f32 p, .float .f32 q]]) (fun w1 _ => by kernel_rfl) ?_
  simp only [Act.put, List.setIfInBounds_toArray, List.set_cons_succ, List.set_cons_zero]
  refine wpFree_one rfl (.float .f32 r) (fun w1 _ => by kernel_rfl) ?_
  simp only [Act.put, List.setIfInBounds_toArray, List.set_cons_succ, List.set_cons_zero]
  refine wpFree_one rfl (.agg #[.float .f32 p, .float .f32 q]) (fun w1 _ => by kernel_rfl) ?_
  simp only [Act.put, List.setIfInBounds_toArray, List.set_cons_succ, List.set_cons_zero]
  refine wpFree_alloc rfl rfl #[.float .f32 0, .float .f32 0] alloc2 (fun g2 hg2 => ?_)
  simp only [Act.put, List.setIfInBounds_toArray, List.set_cons_succ, List.set_cons_zero]
  refine wpFree_one rfl (.float .f32 r) (fun w1 _ => by kernel_rfl) ?_
  simp only [Act.put, List.setIfInBounds_toArray, List.set_cons_succ, List.set_cons_zero]
  refine wpFree_nil (fun w3 hw3 hF => ?_)
  obtain ⟨_, b', hbb, _, hrow⟩ := hF
  obtain rfl : g2 = b' := by simpa using hbb
  have hlt : g < w.heap.size := F.lt List.mem_cons_self
  have hz : w.heap.size ≤ g2 := by simpa using hg2
  have hne : g ≠ g2 := by omega
  refine wpList_storeD rfl rfl rfl (cells := #[.float .f32 p, .float .f32 q]) rfl hrow info2 rfl (by simp [Value.oneCell']) (fun w4 KW => ?_)
  have R2 := KW.row
  have RG := KW.other _ _ _ hne (((F.drewN 1).le hw3).row List.mem_cons_self)
  have U := Upd.of_le (g := g) (KW.below _ _ (le_trans (le_drewN w 1) hw3) hz)
  replace hne := hid hne
  clear hbb hrow hw3 hg2 F KW hlt hz
  replace U := hid U
  replace RG := hid RG
  go_wp2_with (with_reducible refine wpList_loadDn rfl rfl rfl R2 Try.underlying24 rfl info2 (by simp) ?_)
  replace R2 := hid R2
  go_loopw [25] (fun i wr => ∃ j : Nat, j ≤ 2 ∧ i = .int .i64 j ∧ Hid (Row wr g 88 #[.iface 142 (.agg #[.float .f32 a, .float .f32 b, .float .f32 c]), .float .f32 (if j = 0 then x else st0 3 a b c x y s), .float .f32 (if j < 2 then y else st1 3 a b c x y s)]) ∧ Hid (Upd g w wr)) (fun i _ => 2 - (intOf i).toNat)
  case atStart => exact ⟨0, by omega, rfl, RG, U⟩
  case round =>
    obtain ⟨j, hj, rfl, RJ, UJ⟩ := hrel
    rcases (show j = 0 ∨ j = 1 ∨ j = 2 by omega) with rfl | rfl | rfl
    · simp only [if_true, if_pos (show (0 : Nat) < 2 by decide)] at RJ
      clear RG U
      have ix : ∀ w, (Instr.index 24 (.agg #[.float .f32 p, .float .f32 q]) (.int .i64 0)).run Try.prog w = .ok (.float .f32 p) w := fun w => by kernel_rfl
      rw [show ((0 : Nat) : Int) = 0 from rfl]
      go_wp2
      clear ix
      refine region_tail (fun _ _ _ v => v = .float .f32 (kept p)) 7 (by kernel_rfl) (by kernel_rfl) ?_
      simp only [List.take_succ_cons, List.take_zero, List.drop_succ_cons, List.drop_zero]
      refine wpFree_one rfl (.pointer (some ⟨g, 0, none⟩)) (fun w1 _ => by kernel_rfl) ?_
      simp only [Act.put, List.setIfInBounds_toArray, List.set_cons_succ, List.set_cons_zero]
      refine wpFree_one rfl (.int .i64 0) (fun w1 _ => by kernel_rfl) ?_
      simp only [Act.put, List.setIfInBounds_toArray, List.set_cons_succ, List.set_cons_zero]
      refine wpFree_one rfl (.float .f32 p) (fun w1 _ => by kernel_rfl) ?_
      simp only [Act.put, List.setIfInBounds_toArray, List.set_cons_succ, List.set_cons_zero]
      refine wpFree_call rfl rfl Try.func108 (by kernel_rfl) (by kernel_rfl) (args := #[.float .f32 p]) (by simp [Act.eval]) (fun _ _ _ _ h => h) (fun w1 _ => (i_kept p w1 h4.out).mono ?_) ?_
      · rintro e w2 ⟨rfl, rfl⟩
        exact ⟨_, rfl, le_refl _, rfl⟩
      rintro v ⟨_, _, rfl⟩
      simp only [Act.put, List.setIfInBounds_toArray, List.set_cons_succ, List.set_cons_zero]
      refine wpFree_one rfl (.pointer (some ⟨g, 0, none⟩)) (fun w1 _ => by kernel_rfl) ?_
      simp only [Act.put, List.setIfInBounds_toArray, List.set_cons_succ, List.set_cons_zero]
      refine wpFree_one rfl (.pointer (some ⟨g, 1, none⟩)) (fun w1 _ => by kernel_rfl) ?_
      simp only [Act.put, List.setIfInBounds_toArray, List.set_cons_succ, List.set_cons_zero]
      refine wpFree_one rfl (.pointer (some ⟨g, 1 + 0, none⟩)) (fun w1 _ => by kernel_rfl) ?_
      simp only [Act.put, List.setIfInBounds_toArray, List.set_cons_succ, List.set_cons_zero]
      refine wpFree_nil (fun w5 hw5 _ => ?_)
      have RR := (RJ.out.drewN 1).le hw5
      have UU := hid ((UJ.out.le (le_drewN _ 1)).le hw5)
      have cc := RR.cell? (1 + 0)
      have ff := RR.frozen (1 + 0)
      replace RR := hid RR
      clear hw5
      go_wp2
      go_roundw
      case rel => exact ⟨0 + 1, by omega, by go_num, by have := RR.out.set (1 + 0) (.float .f32 (kept p)); rw [h2.out] at this; show Row _ _ _ _; rw [h2.out]; simpa using this, UU.out.setCell rfl _⟩
      case measure => simp [intOf]
    · simp only [if_neg (show ¬ (1 : Nat) = 0 by decide), if_pos (show (1 : Nat) < 2 by decide)] at RJ
      clear RG U
      have ix : ∀ w, (Instr.index 24 (.agg #[.float .f32 p, .float .f32 q]) (.int .i64 1)).run Try.prog w = .ok (.float .f32 q) w := fun w => by kernel_rfl
      rw [show ((1 : Nat) : Int) = 1 from rfl]
      go_wp2
      clear ix
      refine region_tail (fun _ _ _ v => v = .float .f32 (kept q)) 7 (by kernel_rfl) (by kernel_rfl) ?_
      simp only [List.take_succ_cons, List.take_zero, List.drop_succ_cons, List.drop_zero]
      refine wpFree_one rfl (.pointer (some ⟨g, 0, none⟩)) (fun w1 _ => by kernel_rfl) ?_
      simp only [Act.put, List.setIfInBounds_toArray, List.set_cons_succ, List.set_cons_zero]
      refine wpFree_one rfl (.int .i64 1) (fun w1 _ => by kernel_rfl) ?_
      simp only [Act.put, List.setIfInBounds_toArray, List.set_cons_succ, List.set_cons_zero]
      refine wpFree_one rfl (.float .f32 q) (fun w1 _ => by kernel_rfl) ?_
      simp only [Act.put, List.setIfInBounds_toArray, List.set_cons_succ, List.set_cons_zero]
      refine wpFree_call rfl rfl Try.func108 (by kernel_rfl) (by kernel_rfl) (args := #[.float .f32 q]) (by simp [Act.eval]) (fun _ _ _ _ h => h) (fun w1 _ => (i_kept q w1 h5.out).mono ?_) ?_
      · rintro e w2 ⟨rfl, rfl⟩
        exact ⟨_, rfl, le_refl _, rfl⟩
      rintro v ⟨_, _, rfl⟩
      simp only [Act.put, List.setIfInBounds_toArray, List.set_cons_succ, List.set_cons_zero]
      refine wpFree_one rfl (.pointer (some ⟨g, 0, none⟩)) (fun w1 _ => by kernel_rfl) ?_
      simp only [Act.put, List.setIfInBounds_toArray, List.set_cons_succ, List.set_cons_zero]
      refine wpFree_one rfl (.pointer (some ⟨g, 1, none⟩)) (fun w1 _ => by kernel_rfl) ?_
      simp only [Act.put, List.setIfInBounds_toArray, List.set_cons_succ, List.set_cons_zero]
      refine wpFree_one rfl (.pointer (some ⟨g, 1 + 1, none⟩)) (fun w1 _ => by kernel_rfl) ?_
      simp only [Act.put, List.setIfInBounds_toArray, List.set_cons_succ, List.set_cons_zero]
      refine wpFree_nil (fun w5 hw5 _ => ?_)
      have RR := (RJ.out.drewN 1).le hw5
      have UU := hid ((UJ.out.le (le_drewN _ 1)).le hw5)
      have cc := RR.cell? (1 + 1)
      have ff := RR.frozen (1 + 1)
      replace RR := hid RR
      clear hw5
      go_wp2
      go_roundw
      case rel => exact ⟨1 + 1, by omega, by go_num, by have := RR.out.set (1 + 1) (.float .f32 (kept q)); rw [h3.out] at this; show Row _ _ _ _; rw [h3.out]; simpa using this, UU.out.setCell rfl _⟩
      case measure => simp [intOf]
    · simp only [if_neg (show ¬ (2 : Nat) = 0 by decide), if_neg (show ¬ (2 : Nat) < 2 by decide)] at RJ
      clear RG U
      go_wp2
      go_ret
      exact ⟨_, rfl, h1.out, h6.out, RJ.out, UJ.out⟩
set_option maxHeartbeats 2000000 in
theorem i_step4 (a b c x y s g : Nat) (w : World) (R : Row w g 88 #[.iface 143 (.agg #[.float .f32 a, .float .f32 b, .float .f32 c]), .float .f32 x, .float .f32 y]) (hx : fits .f32 x) (hs : fits .f32 s) :
    Calls Try.prog 100 #[.pointer (some ⟨g, 0, none⟩), .float .f32 s] w (OutS 4 a b c x y s g 88 (fun u v => #[.iface 143 (.agg #[.float .f32 a, .float .f32 b, .float .f32 c]), .float .f32 u, .float .f32 v]) w) := by
  have Hx := hid hx; have Hs := hid hs; clear hx hs
  have F := Frm.one R
  clear R
  go_enter Try.func100, Try.ntmps100
  go_upto_region 1 with (fail)
  refine region_tail (fun f args _ v => ∃ r p q, v = .tuple #[.float .f32 r, .agg #[.float .f32 p, .float .f32 q]] ∧ can .f32 r = outF 4 a b c x y s ∧ kept p = st0 4 a b c x y s ∧ kept q = st1 4 a b c x y s ∧ fits .f32 p ∧ fits .f32 q ∧ fits .f32 r) 17 (by kernel_rfl) (by kernel_rfl) ?_
  simp only [List.take_succ_cons, List.take_zero, List.drop_succ_cons, List.drop_zero]
  refine wpFree_one rfl (.pointer (some ⟨g, 0, none⟩)) (fun w1 _ => by kernel_rfl) ?_
  simp only [Act.put, List.setIfInBounds_toArray, List.set_cons_succ, List.set_cons_zero]
  refine wpFree_one rfl (.pointer (some ⟨g, 0, none⟩)) (fun w1 _ => by kernel_rfl) ?_
  simp only [Act.put, List.setIfInBounds_toArray, List.set_cons_succ, List.set_cons_zero]
  refine wpFree_one rfl (.pointer (some ⟨g, 0, none⟩)) (fun w1 _ => by kernel_rfl) ?_
  simp only [Act.put, List.setIfInBounds_toArray, List.set_cons_succ, List.set_cons_zero]
  refine wpFree_loadV F rfl rfl rfl rfl List.mem_cons_self rfl (fun w1 => by kernel_rfl) ?_
  simp only [Act.put, List.setIfInBounds_toArray, List.set_cons_succ, List.set_cons_zero]
  refine wpFree_one rfl (.pointer (some ⟨g, 0, none⟩)) (fun w1 _ => by kernel_rfl) ?_
  simp only [Act.put, List.setIfInBounds_toArray, List.set_cons_succ, List.set_cons_zero]
  refine wpFree_one rfl (.pointer (some ⟨g, 0, none⟩)) (fun w1 _ => by kernel_rfl) ?_
  simp only [Act.put, List.setIfInBounds_toArray, List.set_cons_succ, List.set_cons_zero]
  refine wpFree_one rfl (.pointer (some ⟨g, 1, none⟩)) (fun w1 _ => by kernel_rfl) ?_
  simp only [Act.put, List.setIfInBounds_toArray, List.set_cons_succ, List.set_cons_zero]
  refine wpFree_loadPart F rfl rfl rfl rfl (List.mem_cons_self) Try.underlying24 rfl [.float .f32 x, .float .f32 y] (fun j hj => by match j, hj with | 0, _ => rfl | 1, _ => rfl) info2 ?_
  simp only [Act.put, List.setIfInBounds_toArray, List.set_cons_succ, List.set_cons_zero]
  refine wpFree_one rfl (.float .f32 s) (fun w1 _ => by kernel_rfl) ?_
  simp only [Act.put, List.setIfInBounds_toArray, List.set_cons_succ, List.set_cons_zero]
  refine wpFree_one rfl (.iface 143 (.agg #[.float .f32 a, .float .f32 b, .float .f32 c])) (fun w1 _ => by kernel_rfl) ?_
  simp only [Act.put, List.setIfInBounds_toArray, List.set_cons_succ, List.set_cons_zero]
  refine wpFree_one rfl (.iface 143 (.agg #[.float .f32 a, .float .f32 b, .float .f32 c])) (fun w1 _ => by kernel_rfl) ?_
  simp only [Act.put, List.setIfInBounds_toArray, List.set_cons_succ, List.set_cons_zero]
  refine wpFree_callR rfl 134 #[.agg #[.float .f32 a, .float .f32 b, .float .f32 c], .agg #[.float .f32 x, .float .f32 y], .float .f32 s] (fun w1 => by kernel_rfl) (fun _ _ _ _ h => h) (fun w1 _ => (i_next4 a b c x y s w1 Hx.out Hs.out).mono ?_) ?_
  · rintro e w2 ⟨r, p, q, rfl, h1, h2, h3, h4, h5, h6, hl⟩
    exact ⟨_, rfl, hl, r, p, q, rfl, h1, h2, h3, h4, h5, h6⟩
  rintro v ⟨_, _, r, p, q, rfl, h1, h2, h3, h4, h5, h6⟩
  replace h1 := hid h1; replace h2 := hid h2; replace h3 := hid h3; replace h4 := hid h4; replace h5 := hid h5; replace h6 := hid h6
  simp only [Act.put, List.setIfInBounds_toArray, List.set_cons_succ, List.set_cons_zero]
  refine wpFree_one rfl (.tuple #[.float .f32 r, .agg #[.float .f32 p, .float .f32 q]]) (fun w1 _ => by kernel_rfl) ?_
  simp only [Act.put, List.setIfInBounds_toArray, List.set_cons_succ, List.set_cons_zero]
  refine wpFree_one rfl (.float .f32 r) (fun w1 _ => by kernel_rfl) ?_
  simp only [Act.put, List.setIfInBounds_toArray, List.set_cons_succ, List.set_cons_zero]
  refine wpFree_one rfl (.agg #[.float .f32 p, .float .f32 q]) (fun w1 _ => by kernel_rfl) ?_
  simp only [Act.put, List.setIfInBounds_toArray, List.set_cons_succ, List.set_cons_zero]
  refine wpFree_alloc rfl rfl #[.float .f32 0, .float .f32 0] alloc2 (fun g2 hg2 => ?_)
  simp only [Act.put, List.setIfInBounds_toArray, List.set_cons_succ, List.set_cons_zero]
  refine wpFree_one rfl (.float .f32 r) (fun w1 _ => by kernel_rfl) ?_
  simp only [Act.put, List.setIfInBounds_toArray, List.set_cons_succ, List.set_cons_zero]
  refine wpFree_nil (fun w3 hw3 hF => ?_)
  obtain ⟨_, b', hbb, _, hrow⟩ := hF
  obtain rfl : g2 = b' := by simpa using hbb
  have hlt : g < w.heap.size := F.lt List.mem_cons_self
  have hz : w.heap.size ≤ g2 := by simpa using hg2
  have hne : g ≠ g2 := by omega
  refine wpList_storeD rfl rfl rfl (cells := #[.float .f32 p, .float .f32 q]) rfl hrow info2 rfl (by simp [Value.oneCell']) (fun w4 KW => ?_)
  have R2 := KW.row
  have RG := KW.other _ _ _ hne (((F.drewN 1).le hw3).row List.mem_cons_self)
  have U := Upd.of_le (g := g) (KW.below _ _ (le_trans (le_drewN w 1) hw3) hz)
  replace hne := hid hne
  clear hbb hrow hw3 hg2 F KW hlt hz
  replace U := hid U
  replace RG := hid RG
  go_wp2_with (with_reducible refine wpList_loadDn rfl rfl rfl R2 Try.underlying24 rfl info2 (by simp) ?_)
  replace R2 := hid R2
  go_loopw [25] (fun i wr => ∃ j : Nat, j ≤ 2 ∧ i = .int .i64 j ∧ Hid (Row wr g 88 #[.iface 143 (.agg #[.float .f32 a, .float .f32 b, .float .f32 c]), .float .f32 (if j = 0 then x else st0 4 a b c x y s), .float .f32 (if j < 2 then y else st1 4 a b c x y s)]) ∧ Hid (Upd g w wr)) (fun i _ => 2 - (intOf i).toNat)
  case atStart => exact ⟨0, by omega, rfl, RG, U⟩
  case round =>
    obtain ⟨j, hj, rfl, RJ, UJ⟩ := hrel
    rcases (show j = 0 ∨ j = 1 ∨ j = 2 by omega) with rfl | rfl | rfl
    · simp only [if_true, if_pos (show (0 : Nat) < 2 by decide)] at RJ
      clear RG U
      have ix : ∀ w, (Instr.index 24 (.agg #[.float .f32 p, .float .f32 q]) (.int .i64 0)).run Try.prog w = .ok (.float .f32 p) w := fun w => by kernel_rfl
      rw [show ((0 : Nat) : Int) = 0 from rfl]
      go_wp2
      clear ix
      refine region_tail (fun _ _ _ v => v = .float .f32 (kept p)) 7 (by kernel_rfl) (by kernel_rfl) ?_
      simp only [List.take_succ_cons, List.take_zero, List.drop_succ_cons, List.drop_zero]
      refine wpFree_one rfl (.pointer (some ⟨g, 0, none⟩)) (fun w1 _ => by kernel_rfl) ?_
      simp only [Act.put, List.setIfInBounds_toArray, List.set_cons_succ, List.set_cons_zero]
      refine wpFree_one rfl (.int .i64 0) (fun w1 _ => by kernel_rfl) ?_
      simp only [Act.put, List.setIfInBounds_toArray, List.set_cons_succ, List.set_cons_zero]
      refine wpFree_one rfl (.float .f32 p) (fun w1 _ => by kernel_rfl) ?_
      simp only [Act.put, List.setIfInBounds_toArray, List.set_cons_succ, List.set_cons_zero]
      refine wpFree_call rfl rfl Try.func108 (by kernel_rfl) (by kernel_rfl) (args := #[.float .f32 p]) (by simp [Act.eval]) (fun _ _ _ _ h => h) (fun w1 _ => (i_kept p w1 h4.out).mono ?_) ?_
      · rintro e w2 ⟨rfl, rfl⟩
        exact ⟨_, rfl, le_refl _, rfl⟩
      rintro v ⟨_, _, rfl⟩
      simp only [Act.put, List.setIfInBounds_toArray, List.set_cons_succ, List.set_cons_zero]
      refine wpFree_one rfl (.pointer (some ⟨g, 0, none⟩)) (fun w1 _ => by kernel_rfl) ?_
      simp only [Act.put, List.setIfInBounds_toArray, List.set_cons_succ, List.set_cons_zero]
      refine wpFree_one rfl (.pointer (some ⟨g, 1, none⟩)) (fun w1 _ => by kernel_rfl) ?_
      simp only [Act.put, List.setIfInBounds_toArray, List.set_cons_succ, List.set_cons_zero]
      refine wpFree_one rfl (.pointer (some ⟨g, 1 + 0, none⟩)) (fun w1 _ => by kernel_rfl) ?_
      simp only [Act.put, List.setIfInBounds_toArray, List.set_cons_succ, List.set_cons_zero]
      refine wpFree_nil (fun w5 hw5 _ => ?_)
      have RR := (RJ.out.drewN 1).le hw5
      have UU := hid ((UJ.out.le (le_drewN _ 1)).le hw5)
      have cc := RR.cell? (1 + 0)
      have ff := RR.frozen (1 + 0)
      replace RR := hid RR
      clear hw5
      go_wp2
      go_roundw
      case rel => exact ⟨0 + 1, by omega, by go_num, by have := RR.out.set (1 + 0) (.float .f32 (kept p)); rw [h2.out] at this; show Row _ _ _ _; rw [h2.out]; simpa using this, UU.out.setCell rfl _⟩
      case measure => simp [intOf]
    · simp only [if_neg (show ¬ (1 : Nat) = 0 by decide), if_pos (show (1 : Nat) < 2 by decide)] at RJ
      clear RG U
      have ix : ∀ w, (Instr.index 24 (.agg #[.float .f32 p, .float .f32 q]) (.int .i64 1)).run Try.prog w = .ok (.float .f32 q) w := fun w => by kernel_rfl
      rw [show ((1 : Nat) : Int) = 1 from rfl]
      go_wp2
      clear ix
      refine region_tail (fun _ _ _ v => v = .float .f32 (kept q)) 7 (by kernel_rfl) (by kernel_rfl) ?_
      simp only [List.take_succ_cons, List.take_zero, List.drop_succ_cons, List.drop_zero]
      refine wpFree_one rfl (.pointer (some ⟨g, 0, none⟩)) (fun w1 _ => by kernel_rfl) ?_
      simp only [Act.put, List.setIfInBounds_toArray, List.set_cons_succ, List.set_cons_zero]
      refine wpFree_one rfl (.int .i64 1) (fun w1 _ => by kernel_rfl) ?_
      simp only [Act.put, List.setIfInBounds_toArray, List.set_cons_succ, List.set_cons_zero]
      refine wpFree_one rfl (.float .f32 q) (fun w1 _ => by kernel_rfl) ?_
      simp only [Act.put, List.setIfInBounds_toArray, List.set_cons_succ, List.set_cons_zero]
      refine wpFree_call rfl rfl Try.func108 (by kernel_rfl) (by kernel_rfl) (args := #[.float .f32 q]) (by simp [Act.eval]) (fun _ _ _ _ h => h) (fun w1 _ => (i_kept q w1 h5.out).mono ?_) ?_
      · rintro e w2 ⟨rfl, rfl⟩
        exact ⟨_, rfl, le_refl _, rfl⟩
      rintro v ⟨_, _, rfl⟩
      simp only [Act.put, List.setIfInBounds_toArray, List.set_cons_succ, List.set_cons_zero]
      refine wpFree_one rfl (.pointer (some ⟨g, 0, none⟩)) (fun w1 _ => by kernel_rfl) ?_
      simp only [Act.put, List.setIfInBounds_toArray, List.set_cons_succ, List.set_cons_zero]
      refine wpFree_one rfl (.pointer (some ⟨g, 1, none⟩)) (fun w1 _ => by kernel_rfl) ?_
      simp only [Act.put, List.setIfInBounds_toArray, List.set_cons_succ, List.set_cons_zero]
      refine wpFree_one rfl (.pointer (some ⟨g, 1 + 1, none⟩)) (fun w1 _ => by kernel_rfl) ?_
      simp only [Act.put, List.setIfInBounds_toArray, List.set_cons_succ, List.set_cons_zero]
      refine wpFree_nil (fun w5 hw5 _ => ?_)
      have RR := (RJ.out.drewN 1).le hw5
      have UU := hid ((UJ.out.le (le_drewN _ 1)).le hw5)
      have cc := RR.cell? (1 + 1)
      have ff := RR.frozen (1 + 1)
      replace RR := hid RR
      clear hw5
      go_wp2
      go_roundw
      case rel => exact ⟨1 + 1, by omega, by go_num, by have := RR.out.set (1 + 1) (.float .f32 (kept q)); rw [h3.out] at this; show Row _ _ _ _; rw [h3.out]; simpa using this, UU.out.setCell rfl _⟩
      case measure => simp [intOf]
    · simp only [if_neg (show ¬ (2 : Nat) = 0 by decide), if_neg (show ¬ (2 : Nat) < 2 by decide)] at RJ
      clear RG U
      go_wp2
      go_ret
      exact ⟨_, rfl, h1.out, h6.out, RJ.out, UJ.out⟩
set_option maxHeartbeats 2000000 in
theorem i_step5 (a b c x y s g : Nat) (w : World) (R : Row w g 88 #[.iface 144 (.agg #[.float .f32 a, .float .f32 b, .float .f32 c]), .float .f32 x, .float .f32 y]) (hx : fits .f32 x) (hs : fits .f32 s) :
    Calls Try.prog 100 #[.pointer (some ⟨g, 0, none⟩), .float .f32 s] w (OutS 5 a b c x y s g 88 (fun u v => #[.iface 144 (.agg #[.float .f32 a, .float .f32 b, .float .f32 c]), .float .f32 u, .float .f32 v]) w) := by
  have Hx := hid hx; have Hs := hid hs; clear hx hs
  have F := Frm.one R
  clear R
  go_enter Try.func100, Try.ntmps100
  go_upto_region 1 with (fail)
  refine region_tail (fun f args _ v => ∃ r p q, v = .tuple #[.float .f32 r, .agg #[.float .f32 p, .float .f32 q]] ∧ can .f32 r = outF 5 a b c x y s ∧ kept p = st0 5 a b c x y s ∧ kept q = st1 5 a b c x y s ∧ fits .f32 p ∧ fits .f32 q ∧ fits .f32 r) 17 (by kernel_rfl) (by kernel_rfl) ?_
  simp only [List.take_succ_cons, List.take_zero, List.drop_succ_cons, List.drop_zero]
  refine wpFree_one rfl (.pointer (some ⟨g, 0, none⟩)) (fun w1 _ => by kernel_rfl) ?_
  simp only [Act.put, List.setIfInBounds_toArray, List.set_cons_succ, List.set_cons_zero]
  refine wpFree_one rfl (.pointer (some ⟨g, 0, none⟩)) (fun w1 _ => by kernel_rfl) ?_
  simp only [Act.put, List.setIfInBounds_toArray, List.set_cons_succ, List.set_cons_zero]
  refine wpFree_one rfl (.pointer (some ⟨g, 0, none⟩)) (fun w1 _ => by kernel_rfl) ?_
  simp only [Act.put, List.setIfInBounds_toArray, List.set_cons_succ, List.set_cons_zero]
  refine wpFree_loadV F rfl rfl rfl rfl List.mem_cons_self rfl (fun w1 => by kernel_rfl) ?_
  simp only [Act.put, List.setIfInBounds_toArray, List.set_cons_succ, List.set_cons_zero]
  refine wpFree_one rfl (.pointer (some ⟨g, 0, none⟩)) (fun w1 _ => by kernel_rfl) ?_
  simp only [Act.put, List.setIfInBounds_toArray, List.set_cons_succ, List.set_cons_zero]
  refine wpFree_one rfl (.pointer (some ⟨g, 0, none⟩)) (fun w1 _ => by kernel_rfl) ?_
  simp only [Act.put, List.setIfInBounds_toArray, List.set_cons_succ, List.set_cons_zero]
  refine wpFree_one rfl (.pointer (some ⟨g, 1, none⟩)) (fun w1 _ => by kernel_rfl) ?_
  simp only [Act.put, List.setIfInBounds_toArray, List.set_cons_succ, List.set_cons_zero]
  refine wpFree_loadPart F rfl rfl rfl rfl (List.mem_cons_self) Try.underlying24 rfl [.float .f32 x, .float .f32 y] (fun j hj => by match j, hj with | 0, _ => rfl | 1, _ => rfl) info2 ?_
  simp only [Act.put, List.setIfInBounds_toArray, List.set_cons_succ, List.set_cons_zero]
  refine wpFree_one rfl (.float .f32 s) (fun w1 _ => by kernel_rfl) ?_
  simp only [Act.put, List.setIfInBounds_toArray, List.set_cons_succ, List.set_cons_zero]
  refine wpFree_one rfl (.iface 144 (.agg #[.float .f32 a, .float .f32 b, .float .f32 c])) (fun w1 _ => by kernel_rfl) ?_
  simp only [Act.put, List.setIfInBounds_toArray, List.set_cons_succ, List.set_cons_zero]
  refine wpFree_one rfl (.iface 144 (.agg #[.float .f32 a, .float .f32 b, .float .f32 c])) (fun w1 _ => by kernel_rfl) ?_
  simp only [Act.put, List.setIfInBounds_toArray, List.set_cons_succ, List.set_cons_zero]
  refine wpFree_callR rfl 135 #[.agg #[.float .f32 a, .float .f32 b, .float .f32 c], .agg #[.float .f32 x, .float .f32 y], .float .f32 s] (fun w1 => by kernel_rfl) (fun _ _ _ _ h => h) (fun w1 _ => (i_next5 a b c x y s w1 Hx.out Hs.out).mono ?_) ?_
  · rintro e w2 ⟨r, p, q, rfl, h1, h2, h3, h4, h5, h6, hl⟩
    exact ⟨_, rfl, hl, r, p, q, rfl, h1, h2, h3, h4, h5, h6⟩
  rintro v ⟨_, _, r, p, q, rfl, h1, h2, h3, h4, h5, h6⟩
  replace h1 := hid h1; replace h2 := hid h2; replace h3 := hid h3; replace h4 := hid h4; replace h5 := hid h5; replace h6 := hid h6
  simp only [Act.put, List.setIfInBounds_toArray, List.set_cons_succ, List.set_cons_zero]
  refine wpFree_one rfl (.tuple #[.float .f32 r, .agg #[.float .f32 p, .float .f32 q]]) (fun w1 _ => by kernel_rfl) ?_
  simp only [Act.put, List.setIfInBounds_toArray, List.set_cons_succ, List.set_cons_zero]
  refine wpFree_one rfl (.float .f32 r) (fun w1 _ => by kernel_rfl) ?_
  simp only [Act.put, List.setIfInBounds_toArray, List.set_cons_succ, List.set_cons_zero]
  refine wpFree_one rfl (.agg #[.float .f32 p, .float .f32 q]) (fun w1 _ => by kernel_rfl) ?_
  simp only [Act.put, List.setIfInBounds_toArray, List.set_cons_succ, List.set_cons_zero]
  refine wpFree_alloc rfl rfl #[.float .f32 0, .float .f32 0] alloc2 (fun g2 hg2 => ?_)
  simp only [Act.put, List.setIfInBounds_toArray, List.set_cons_succ, List.set_cons_zero]
  refine wpFree_one rfl (.float .f32 r) (fun w1 _ => by kernel_rfl) ?_
  simp only [Act.put, List.setIfInBounds_toArray, List.set_cons_succ, List.set_cons_zero]
  refine wpFree_nil (fun w3 hw3 hF => ?_)
  obtain ⟨_, b', hbb, _, hrow⟩ := hF
  obtain rfl : g2 = b' := by simpa using hbb
  have hlt : g < w.heap.size := F.lt List.mem_cons_self
  have hz : w.heap.size ≤ g2 := by simpa using hg2
  have hne : g ≠ g2 := by omega
  refine wpList_storeD rfl rfl rfl (cells := #[.float .f32 p, .float .f32 q]) rfl hrow info2 rfl (by simp [Value.oneCell']) (fun w4 KW => ?_)
  have R2 := KW.row
  have RG := KW.other _ _ _ hne (((F.drewN 1).le hw3).row List.mem_cons_self)
  have U := Upd.of_le (g := g) (KW.below _ _ (le_trans (le_drewN w 1) hw3) hz)
  replace hne := hid hne
  clear hbb hrow hw3 hg2 F KW hlt hz
  replace U := hid U
  replace RG := hid RG
  go_wp2_with (with_reducible refine wpList_loadDn rfl rfl rfl R2 Try.underlying24 rfl info2 (by simp) ?_)
  replace R2 := hid R2
  go_loopw [25] (fun i wr => ∃ j : Nat, j ≤ 2 ∧ i = .int .i64 j ∧ Hid (Row wr g 88 #[.iface 144 (.agg #[.float .f32 a, .float .f32 b, .float .f32 c]), .float .f32 (if j = 0 then x else st0 5 a b c x y s), .float .f32 (if j < 2 then y else st1 5 a b c x y s)]) ∧ Hid (Upd g w wr)) (fun i _ => 2 - (intOf i).toNat)
  case atStart => exact ⟨0, by omega, rfl, RG, U⟩
  case round =>
    obtain ⟨j, hj, rfl, RJ, UJ⟩ := hrel
    rcases (show j = 0 ∨ j = 1 ∨ j = 2 by omega) with rfl | rfl | rfl
    · simp only [if_true, if_pos (show (0 : Nat) < 2 by decide)] at RJ
      clear RG U
      have ix : ∀ w, (Instr.index 24 (.agg #[.float .f32 p, .float .f32 q]) (.int .i64 0)).run Try.prog w = .ok (.float .f32 p) w := fun w => by kernel_rfl
      rw [show ((0 : Nat) : Int) = 0 from rfl]
      go_wp2
      clear ix
      refine region_tail (fun _ _ _ v => v = .float .f32 (kept p)) 7 (by kernel_rfl) (by kernel_rfl) ?_
      simp only [List.take_succ_cons, List.take_zero, List.drop_succ_cons, List.drop_zero]
      refine wpFree_one rfl (.pointer (some ⟨g, 0, none⟩)) (fun w1 _ => by kernel_rfl) ?_
      simp only [Act.put, List.setIfInBounds_toArray, List.set_cons_succ, List.set_cons_zero]
      refine wpFree_one rfl (.int .i64 0) (fun w1 _ => by kernel_rfl) ?_
      simp only [Act.put, List.setIfInBounds_toArray, List.set_cons_succ, List.set_cons_zero]
      refine wpFree_one rfl (.float .f32 p) (fun w1 _ => by kernel_rfl) ?_
      simp only [Act.put, List.setIfInBounds_toArray, List.set_cons_succ, List.set_cons_zero]
      refine wpFree_call rfl rfl Try.func108 (by kernel_rfl) (by kernel_rfl) (args := #[.float .f32 p]) (by simp [Act.eval]) (fun _ _ _ _ h => h) (fun w1 _ => (i_kept p w1 h4.out).mono ?_) ?_
      · rintro e w2 ⟨rfl, rfl⟩
        exact ⟨_, rfl, le_refl _, rfl⟩
      rintro v ⟨_, _, rfl⟩
      simp only [Act.put, List.setIfInBounds_toArray, List.set_cons_succ, List.set_cons_zero]
      refine wpFree_one rfl (.pointer (some ⟨g, 0, none⟩)) (fun w1 _ => by kernel_rfl) ?_
      simp only [Act.put, List.setIfInBounds_toArray, List.set_cons_succ, List.set_cons_zero]
      refine wpFree_one rfl (.pointer (some ⟨g, 1, none⟩)) (fun w1 _ => by kernel_rfl) ?_
      simp only [Act.put, List.setIfInBounds_toArray, List.set_cons_succ, List.set_cons_zero]
      refine wpFree_one rfl (.pointer (some ⟨g, 1 + 0, none⟩)) (fun w1 _ => by kernel_rfl) ?_
      simp only [Act.put, List.setIfInBounds_toArray, List.set_cons_succ, List.set_cons_zero]
      refine wpFree_nil (fun w5 hw5 _ => ?_)
      have RR := (RJ.out.drewN 1).le hw5
      have UU := hid ((UJ.out.le (le_drewN _ 1)).le hw5)
      have cc := RR.cell? (1 + 0)
      have ff := RR.frozen (1 + 0)
      replace RR := hid RR
      clear hw5
      go_wp2
      go_roundw
      case rel => exact ⟨0 + 1, by omega, by go_num, by have := RR.out.set (1 + 0) (.float .f32 (kept p)); rw [h2.out] at this; show Row _ _ _ _; rw [h2.out]; simpa using this, UU.out.setCell rfl _⟩
      case measure => simp [intOf]
    · simp only [if_neg (show ¬ (1 : Nat) = 0 by decide), if_pos (show (1 : Nat) < 2 by decide)] at RJ
      clear RG U
      have ix : ∀ w, (Instr.index 24 (.agg #[.float .f32 p, .float .f32 q]) (.int .i64 1)).run Try.prog w = .ok (.float .f32 q) w := fun w => by kernel_rfl
      rw [show ((1 : Nat) : Int) = 1 from rfl]
      go_wp2
      clear ix
      refine region_tail (fun _ _ _ v => v = .float .f32 (kept q)) 7 (by kernel_rfl) (by kernel_rfl) ?_
      simp only [List.take_succ_cons, List.take_zero, List.drop_succ_cons, List.drop_zero]
      refine wpFree_one rfl (.pointer (some ⟨g, 0, none⟩)) (fun w1 _ => by kernel_rfl) ?_
      simp only [Act.put, List.setIfInBounds_toArray, List.set_cons_succ, List.set_cons_zero]
      refine wpFree_one rfl (.int .i64 1) (fun w1 _ => by kernel_rfl) ?_
      simp only [Act.put, List.setIfInBounds_toArray, List.set_cons_succ, List.set_cons_zero]
      refine wpFree_one rfl (.float .f32 q) (fun w1 _ => by kernel_rfl) ?_
      simp only [Act.put, List.setIfInBounds_toArray, List.set_cons_succ, List.set_cons_zero]
      refine wpFree_call rfl rfl Try.func108 (by kernel_rfl) (by kernel_rfl) (args := #[.float .f32 q]) (by simp [Act.eval]) (fun _ _ _ _ h => h) (fun w1 _ => (i_kept q w1 h5.out).mono ?_) ?_
      · rintro e w2 ⟨rfl, rfl⟩
        exact ⟨_, rfl, le_refl _, rfl⟩
      rintro v ⟨_, _, rfl⟩
      simp only [Act.put, List.setIfInBounds_toArray, List.set_cons_succ, List.set_cons_zero]
      refine wpFree_one rfl (.pointer (some ⟨g, 0, none⟩)) (fun w1 _ => by kernel_rfl) ?_
      simp only [Act.put, List.setIfInBounds_toArray, List.set_cons_succ, List.set_cons_zero]
      refine wpFree_one rfl (.pointer (some ⟨g, 1, none⟩)) (fun w1 _ => by kernel_rfl) ?_
      simp only [Act.put, List.setIfInBounds_toArray, List.set_cons_succ, List.set_cons_zero]
      refine wpFree_one rfl (.pointer (some ⟨g, 1 + 1, none⟩)) (fun w1 _ => by kernel_rfl) ?_
      simp only [Act.put, List.setIfInBounds_toArray, List.set_cons_succ, List.set_cons_zero]
      refine wpFree_nil (fun w5 hw5 _ => ?_)
      have RR := (RJ.out.drewN 1).le hw5
      have UU := hid ((UJ.out.le (le_drewN _ 1)).le hw5)
      have cc := RR.cell? (1 + 1)
      have ff := RR.frozen (1 + 1)
      replace RR := hid RR
      clear hw5
      go_wp2
      go_roundw
      case rel => exact ⟨1 + 1, by omega, by go_num, by have := RR.out.set (1 + 1) (.float .f32 (kept q)); rw [h3.out] at this; show Row _ _ _ _; rw [h3.out]; simpa using this, UU.out.setCell rfl _⟩
      case measure => simp [intOf]
    · simp only [if_neg (show ¬ (2 : Nat) = 0 by decide), if_neg (show ¬ (2 : Nat) < 2 by decide)] at RJ
      clear RG U
      go_wp2
      go_ret
      exact ⟨_, rfl, h1.out, h6.out, RJ.out, UJ.out⟩
end Go.Proofs.Ytmacednkpjfokaa
