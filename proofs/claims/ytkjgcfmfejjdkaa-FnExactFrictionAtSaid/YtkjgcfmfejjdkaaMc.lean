/- Texts of the walk, laid in one file. -/
import Derived.Test.YtkjgcfmfejjdkaaRows
import Derived.Below
import Derived.Handy
import Derived.LoopN
import Derived.Laws.BitsAllLaws
import Derived.Test.YtkjgcfmfejjdkaaMb
set_option linter.unusedVariables false
set_option linter.unusedSimpArgs false
/- Is a sample finite? -/
namespace Go.Fk
open Go Go.RowKit
/-- Is a sample finite? -/
def fin (x : Nat) : Bool := match FloatKind.f32.format.read x with | .number _ _ _ => true | _ => false
theorem fin_sub (x : Nat) : (FloatKind.f32.format.order (fop .sub .f32 x x) 0 == some .eq) = fin x := by
  cases hr : FloatKind.f32.format.read x with
  | nan s t =>
    have h : isNan .f32 x = true := by simp [isNan, hr, Ieee.Datum.isNaN]
    simp only [fin, hr, fop]
    rw [floatBits_nan_l h]
    decide
  | infinity s =>
    simp only [fin, hr, fop, floatBits, Ieee.Format.sub, Ieee.Datum.opposite, Ieee.Datum.sum]
    cases s <;> decide
  | number s m e =>
    simp only [fin, hr, fop, floatBits, Ieee.Format.sub, Ieee.Datum.opposite, Ieee.Datum.sum, Int.sub_self]
    have h1 : Ieee.signed s m (e - min e e).toNat + Ieee.signed (!s) m (e - min e e).toNat = 0 := by
      unfold Ieee.signed; cases s <;> simp <;> omega
    rw [h1]
    simp only [if_true, Option.map_some, Int.natAbs_zero, Ieee.Format.write, Ieee.Format.nearest]
    cases s <;> decide
end Go.Fk
namespace Go.Proofs.Ytkjgcfmfejjdkaa
open Go.RowKit Go.Fk
theorem s_l01Finite (x : Nat) (w : World) : Calls Try.prog 55 #[.float .f32 x] w fun e w' => e = .returned (.bool (fin x)) ∧ ∃ n, w' = w.drewN n := by
  go_enter Try.func55, Try.ntmps55
  go_wp2_with (with_reducible refine wpList_farith rfl rfl rfl rfl rfl ?_; intro r n hr hf)
  go_ret
  refine ⟨ret_b ?_, n, rfl⟩
  rw [← fin_sub, order_congr (hr.out.trans (can_fop _ _ _ _).symm) rfl]
end Go.Proofs.Ytkjgcfmfejjdkaa

/- What a state keeps of a number; is a number finite? -/
namespace Go.Fk
open Go Go.RowKit
theorem fin_bits (x : Nat) : fin x = decide (x % 2147483648 < 2139095040) := by
  have e1 : Ieee.single.signWeight = 2147483648 := by decide
  have e2 : Ieee.single.infRung = 2139095040 := by decide
  have e3 : Ieee.single.binade = 8388608 := by decide
  have e4 : Ieee.single.leastPlace = -149 := by decide
  simp only [fin, FloatKind.format, Ieee.Format.read, e1, e2, e3, e4]
  split
  · rename_i s m e h
    split at h
    · simp; omega
    · split at h
      · simp; omega
      · split at h <;> cases h
  · rename_i h
    split at h
    · exact absurd rfl (h _ _ _)
    · split at h
      · exact absurd rfl (h _ _ _)
      · simp; omega
theorem and_exp255 (x : Nat) (hx : x < 4294967296) : ((x &&& 2139095040) = 2139095040) ↔ ¬ x % 2147483648 < 2139095040 := by
  have e : x &&& 2139095040 = (x >>> 23 &&& 255) <<< 23 := by
    rw [Nat.shiftLeft_and_distrib]
    apply Nat.eq_of_testBit_eq
    intro i
    simp only [Nat.testBit_and, Nat.testBit_shiftLeft, Nat.testBit_shiftRight]
    by_cases hi : 23 ≤ i
    · simp only [hi, decide_true, Bool.true_and, show 23 + (i - 23) = i by omega]
      congr 1
      rw [show (2139095040 : Nat) = 255 <<< 23 by decide, Nat.testBit_shiftLeft]
      simp [hi]
    · simp only [hi, decide_false, Bool.false_and]
      rw [show (2139095040 : Nat) = 255 <<< 23 by decide, Nat.testBit_shiftLeft]
      simp [hi]
  rw [e, show (255 : Nat) = 2 ^ 8 - 1 by decide, Nat.and_two_pow_sub_one_eq_mod, Nat.shiftLeft_eq, Nat.shiftRight_eq_div_pow]
  omega
theorem exp_full {x : Nat} (hx : x < 4294967296) : (bits .and .u32 (x : Int) 2139095040 == 2139095040) = !fin x := by
  rw [bits_and_exp x hx, fin_bits]
  have h := and_exp255 x hx
  by_cases c : x % 2147483648 < 2139095040
  · have : ¬ (x &&& 2139095040) = 2139095040 := fun e => (h.1 e) c
    simp only [c, decide_true, Bool.not_true, beq_eq_false_iff_ne]
    intro e
    exact this (Int.ofNat_inj.1 e)
  · simp only [c, decide_false, Bool.not_false, beq_iff_eq]
    rw [h.2 c]; rfl
/-- What a state keeps. -/
def kept (v : Nat) : Nat := if fin v = true then flush v else 0
theorem fin_can {a b : Nat} (h : can .f32 a = can .f32 b) : fin a = fin b := by
  cases hn : isNan .f32 a
  · rw [eq_of_can h hn]
  · have hm := (isNan_of_can h).symm.trans hn
    obtain ⟨s, t, h1⟩ := read_nan hn
    obtain ⟨s', t', h2⟩ := read_nan hm
    simp [fin, h1, h2]
theorem fin_num {a : Nat} (h : fin a = true) : isNan .f32 a = false := by
  cases hr : FloatKind.f32.format.read a with
  | nan s t => simp [fin, hr] at h
  | infinity s => simp [fin, hr] at h
  | number s m e => simp [isNan, hr, Ieee.Datum.isNaN]
theorem kept_can {a b : Nat} (h : can .f32 a = can .f32 b) : kept a = kept b := by
  unfold kept
  rw [← fin_can h]
  split
  · rename_i hf
    rw [eq_of_can h (fin_num hf)]
  · rfl
theorem fits_kept {b : Nat} (h : fits .f32 b) : fits .f32 (kept b) := by
  unfold kept; split
  · exact fits_flush h
  · simp [fits, Lit.wf]
theorem same0_fin {v : Nat} (h : sameB v 0 = true) : fin v = true := by
  have e : can .f32 v = can .f32 0 := by
    simp only [sameB, beq_iff_eq] at h
    exact_mod_cast h
  rw [fin_can e]; decide
end Go.Fk
namespace Go.Proofs.Ytkjgcfmfejjdkaa
open Go.RowKit Go.Fk
theorem i_isFinite (x : Nat) (w : World) (hx : fits .f32 x) : Calls Try.prog 56 #[.float .f32 x] w fun e w' => e = .returned (.bool (fin x)) ∧ w = w' := by
  have hz := exp_full (fits32 hx)
  go_enter Try.func56, Try.ntmps56
  go_wp2
  go_ret
  refine ⟨ret_b ?_, rfl⟩
  rw [bne, hz, Bool.not_not]
theorem i_kept (x : Nat) (w : World) (hx : fits .f32 x) : Calls Try.prog 86 #[.float .f32 x] w fun e w' => e = .returned (.float .f32 (kept x)) ∧ w = w' := by
  cases h : fin x
  all_goals
    go_enter Try.func86, Try.ntmps86
    go_wp2_with (first | (go_at_call 56; refine (i_isFinite _ _ hx).mono ?_; rintro e w' ⟨rfl, rfl⟩) | (go_at_call 114; refine (i_FlushSample _ _ hx).mono ?_; rintro e w' ⟨rfl, rfl⟩))
    go_ret
    exact ⟨ret_f (by simp [kept, h]), rfl⟩
theorem s_Kept (x : Nat) (w : World) (hx : fits .f32 x) : Calls Try.prog 84 #[.float .f32 x] w fun e w' => e = .returned (.float .f32 (kept x)) ∧ ∃ n, w' = w.drewN n := by
  cases h : fin x
  all_goals
    go_enter Try.func84, Try.ntmps84
    go_wp2_with (first | (go_at_call 55; refine (s_l01Finite _ _).mono ?_; rintro e w' ⟨rfl, n0, rfl⟩) | (go_at_call 113; refine (s_l01Flush _ _ hx).mono ?_; rintro e w' ⟨rfl, rfl⟩))
    go_ret
    exact ⟨ret_f (by simp [kept, h]), _, rfl⟩
end Go.Proofs.Ytkjgcfmfejjdkaa

/- 'areUsed': the first numbers are finite, the others 0. -/
namespace Go.Fk
open Go Go.RowKit
def usedB (f : Nat → Nat) (n u : Nat) : Bool := (List.range n).all fun i => if i < u then fin (f i) else sameB (f i) 0
theorem usedB_fin {f : Nat → Nat} {n u i : Nat} (hi : i < u) (hu : u ≤ n) (h : fin (f i) = false) : usedB f n u = false := by
  simp only [usedB, List.all_eq_false, List.mem_range]
  exact ⟨i, by omega, by simp [hi, h]⟩
theorem usedB_zero {f : Nat → Nat} {n u i : Nat} (hi : u ≤ i) (hn : i < n) (h : sameB (f i) 0 = false) : usedB f n u = false := by
  simp only [usedB, List.all_eq_false, List.mem_range]
  exact ⟨i, hn, by simp [show ¬ i < u by omega, h]⟩
theorem usedB_yes {f : Nat → Nat} {n u : Nat} (h1 : ∀ i, i < u → fin (f i) = true) (h2 : ∀ i, u ≤ i → i < n → sameB (f i) 0 = true) : usedB f n u = true := by
  simp only [usedB, List.all_eq_true, List.mem_range]
  intro i hi
  by_cases c : i < u
  · simp [c, h1 i c]
  · simp [c, h2 i (by omega) hi]
/-- Are all finite? -/
def finB (f : Nat → Nat) (n : Nat) : Bool := (List.range n).all fun i => fin (f i)
theorem finB_no {f : Nat → Nat} {n i : Nat} (hi : i < n) (h : fin (f i) = false) : finB f n = false := by
  rw [Bool.eq_false_iff]; intro hh
  have := List.all_eq_true.1 hh i (List.mem_range.2 hi)
  rw [h] at this; cases this
theorem finB_yes {f : Nat → Nat} {n : Nat} (h : ∀ i, i < n → fin (f i) = true) : finB f n = true := List.all_eq_true.2 (fun i hi => h i (List.mem_range.1 hi))
theorem finB_all {f : Nat → Nat} {n : Nat} (h : finB f n = true) : ∀ i, i < n → fin (f i) = true := fun i hi => List.all_eq_true.1 h i (List.mem_range.2 hi)
theorem finB_ex {f : Nat → Nat} {n : Nat} (h : finB f n = false) : ∃ i, i < n ∧ fin (f i) = false := by
  apply Classical.byContradiction
  intro hn
  have : finB f n = true := finB_yes (fun i hi => by
    cases hb : fin (f i)
    · exact absurd ⟨i, hi, hb⟩ hn
    · rfl)
  rw [h] at this; cases this
end Go.Fk
namespace Go.Proofs.Ytkjgcfmfejjdkaa
open Go.RowKit Go.Fk
set_option maxHeartbeats 1000000 in
theorem i_areFinite (f : Nat → Nat) (a : Addr) (u cap : Nat) (w : World) (hu : u ≤ 9223372036854775807) (hf : ∀ i, i < u → fits .f32 (f i)) (hc : ∀ i, i < u → w.cell? (a.add i) = some (.float .f32 (f i))) :
    Calls Try.prog 111 #[.slice (some a) u cap] w fun e w' => e = .returned (.bool (finB f u)) ∧ w = w' := by
  have Hf := hid hf; have Hc := hid hc; clear hf hc
  go_enter Try.func111, Try.ntmps111
  go_wp2
  go_loop [7] (fun i => ∃ j : Nat, j ≤ u ∧ i = .int .i64 j ∧ Hid (∀ i, i < j → fin (f i) = true)) (fun i => u - (intOf i).toNat)
  case atStart => exact ⟨0, by omega, rfl, fun i hi => absurd hi (by omega)⟩
  case round =>
    obtain ⟨j, hj, rfl, HJ⟩ := hrel
    by_cases hlt : j < u
    · have cj := Hc.out j (by omega)
      have fj := hid (Hf.out j (by omega))
      cases hb : fin (f j)
      · go_wp2_with (go_at_call 56; refine (i_isFinite _ _ fj).mono ?_; rintro e w' ⟨rfl, rfl⟩)
        go_ret
        exact ⟨ret_b (finB_no hlt hb).symm, rfl⟩
      · go_wp2_with (go_at_call 56; refine (i_isFinite _ _ fj).mono ?_; rintro e w' ⟨rfl, rfl⟩)
        go_round
        case rel => exact ⟨j + 1, by omega, by go_num, fun i hi => by rcases Nat.lt_or_ge i j with h | h; exact HJ.out i h; rw [show i = j by omega]; exact hb⟩
        case measure => simp [intOf]; omega
    · obtain rfl : j = u := by omega
      go_wp2
      go_ret
      exact ⟨ret_b (finB_yes HJ.out).symm, rfl⟩
theorem i_areFinite_nil (f : Nat → Nat) (w : World) : Calls Try.prog 111 #[.slice none 0 0] w fun e w' => e = .returned (.bool (finB f 0)) ∧ w = w' := by
  go_enter Try.func111, Try.ntmps111
  go_wp2
  go_loop [7] (fun i => i = .int .i64 0) (fun _ => 0)
  case atStart => rfl
  case round =>
    obtain rfl := hrel
    go_wp2
    go_ret
    exact ⟨rfl, rfl⟩
set_option maxHeartbeats 1000000 in
theorem i_areUsed (f : Nat → Nat) (g o n u : Nat) (w : World) (hn : n < 100) (hu : u ≤ n) (hf : ∀ i, i < n → fits .f32 (f i)) (hc : ∀ i, i < n → w.cell? ⟨g, o + i, none⟩ = some (.float .f32 (f i))) :
    Calls Try.prog 134 #[.slice (some ⟨g, o, none⟩) n n, .int .i64 u] w fun e w' => e = .returned (.bool (usedB f n u)) ∧ w = w' := by
  have HA := hid (fun (w : World) (hc : ∀ i, i < n → w.cell? ⟨g, o + i, none⟩ = some (.float .f32 (f i))) => i_areFinite f ⟨g, o, none⟩ u n w (by omega) (fun i hi => hf i (by omega)) (fun i hi => by rw [add_none]; exact hc i (by omega)))
  have Hc := hid hc; clear hf hc
  obtain ⟨z, hz⟩ : ∃ z, z = finB f u := ⟨_, rfl⟩
  rw [← hz] at HA
  cases z
  · obtain ⟨i, hi, hb⟩ := finB_ex hz.symm
    have HZ := hid (usedB_fin hi hu hb)
    clear hz hb hi
    go_enter Try.func134, Try.ntmps134
    go_wp2_with (go_at_call 111; refine (HA.out _ Hc.out).mono ?_; rintro e w' ⟨rfl, rfl⟩)
    go_ret
    exact ⟨ret_b HZ.out.symm, rfl⟩
  have HJ := hid (finB_all hz.symm)
  clear hz
  rcases Nat.lt_or_ge u n with hlt0 | hge0
  · have h1 : (u : Int) ≤ n := by omega
    have h2 : (u : Int) < n := by omega
    go_enter Try.func134, Try.ntmps134
    go_wp2_with (go_at_call 111; refine (HA.out _ Hc.out).mono ?_; rintro e w' ⟨rfl, rfl⟩)
    go_loop [16] (fun i => ∃ k : Nat, k ≤ n - u ∧ i = .int .i64 k ∧ Hid (∀ i, u ≤ i → i < u + k → sameB (f i) 0 = true)) (fun i => (n - u) - (intOf i).toNat)
    case atStart => exact ⟨0, by omega, rfl, fun i h1 h2 => absurd h2 (by omega)⟩
    case round =>
      obtain ⟨k, hk, rfl, HK⟩ := hrel
      by_cases hkt : k < n - u
      · have ck : w.cell? ⟨g, o + u + k, none⟩ = some (.float .f32 (f (u + k))) := by rw [Nat.add_assoc]; exact Hc.out (u + k) (by omega)
        have k1 : (k : Int) < (n : Int) - u := by omega
        cases hb : sameB (f (u + k)) 0
        · go_wp2_with (go_at_call 119; refine (i_SameSample _ _ _).mono ?_; rintro e w' ⟨rfl, rfl⟩)
          go_ret
          exact ⟨ret_b (usedB_zero (show u ≤ u + k by omega) (by omega) hb).symm, rfl⟩
        · go_wp2_with (go_at_call 119; refine (i_SameSample _ _ _).mono ?_; rintro e w' ⟨rfl, rfl⟩)
          go_round
          case rel => exact ⟨k + 1, by omega, by go_num, fun i h1 h2 => by rcases Nat.lt_or_ge i (u + k) with h | h; exact HK.out i h1 h; rw [show i = u + k by omega]; exact hb⟩
          case measure => simp [intOf]; omega
      · have k1 : ¬ (k : Int) < (n : Int) - u := by omega
        go_wp2
        go_ret
        exact ⟨ret_b (usedB_yes (HJ.out) (fun i h1 h2 => HK.out i h1 (by omega))).symm, rfl⟩
  · obtain rfl : u = n := by omega
    clear hu hge0
    go_enter Try.func134, Try.ntmps134
    go_wp2_with (go_at_call 111; refine (HA.out _ Hc.out).mono ?_; rintro e w' ⟨rfl, rfl⟩)
    go_loop [16] (fun i => i = .int .i64 0) (fun i => 0)
    case atStart => rfl
    case round =>
      obtain rfl := hrel
      go_wp2
      go_ret
      exact ⟨ret_b (usedB_yes (HJ.out) (fun i h1 h2 => absurd h2 (by omega))).symm, rfl⟩
end Go.Proofs.Ytkjgcfmfejjdkaa

/- Which filters are valid: the plain function, the model's contract and the program's. -/
namespace Go.Fk
open Go Go.RowKit
/-- How many numbers and states a kind uses. -/
def cU (k : Int) : Nat := if k = 1 ∨ k = 2 then 2 else if k = 3 ∨ k = 5 then 1 else 3
def sU (k : Int) : Nat := if k = 1 ∨ k = 2 then 1 else 2
/-- Is a filter valid? -/
def okF (k : Int) (a b c x y : Nat) : Bool := (decide (1 ≤ k) && decide (k ≤ 5)) && (usedB (tri a b c) 3 (cU k) && usedB (duo x y) 2 (sU k))
theorem okF_kind {k : Int} {a b c x y : Nat} (h : okF k a b c x y = true) : 1 ≤ k ∧ k ≤ 5 := by
  simp only [okF, Bool.and_eq_true, decide_eq_true_eq] at h; exact h.1
theorem okF_out {k : Int} {a b c x y : Nat} (h : ¬ (1 ≤ k ∧ k ≤ 5)) : okF k a b c x y = false := by
  cases e : okF k a b c x y
  · rfl
  · exact absurd (okF_kind e) h
theorem cU_le (k : Int) : cU k ≤ 3 := by unfold cU; split; omega; split <;> omega
theorem sU_le (k : Int) : sU k ≤ 2 := by unfold sU; split <;> omega
theorem Row.six {w : World} {g : Nat} {t : TypeId} {v0 v1 v2 v3 v4 v5 : Value} (h : Row w g t #[v0, v1, v2, v3, v4, v5]) :
    w.cell? ⟨g, 0, none⟩ = some v0 ∧ w.cell? ⟨g, 1, none⟩ = some v1 ∧ w.cell? ⟨g, 2, none⟩ = some v2 ∧ w.cell? ⟨g, 3, none⟩ = some v3 ∧ w.cell? ⟨g, 4, none⟩ = some v4 ∧ w.cell? ⟨g, 5, none⟩ = some v5 :=
  ⟨h.cell? 0, h.cell? 1, h.cell? 2, h.cell? 3, h.cell? 4, h.cell? 5⟩
theorem Row.tri {w : World} {g : Nat} {t : TypeId} {k : Int} {a b c x y : Nat} (h : Row w g t (#[.int .i64 k, .float .f32 a, .float .f32 b, .float .f32 c, .float .f32 x, .float .f32 y] : Array Value)) (i : Nat) (hi : i < 3) : w.cell? ⟨g, 1 + i, none⟩ = some (.float .f32 (tri a b c i)) := by
  match i, hi with
  | 0, _ => exact h.cell? 1
  | 1, _ => exact h.cell? 2
  | 2, _ => exact h.cell? 3
theorem Row.duo {w : World} {g : Nat} {t : TypeId} {k : Int} {a b c x y : Nat} (h : Row w g t (#[.int .i64 k, .float .f32 a, .float .f32 b, .float .f32 c, .float .f32 x, .float .f32 y] : Array Value)) (i : Nat) (hi : i < 2) : w.cell? ⟨g, 4 + i, none⟩ = some (.float .f32 (duo x y i)) := by
  match i, hi with
  | 0, _ => exact h.cell? 4
  | 1, _ => exact h.cell? 5
/-- A filter within a block. -/
structure FilAt (w : World) (g f : Nat) (k : Int) (a b c x y : Nat) : Prop where
  k0 : w.cell? ⟨g, f, none⟩ = some (.int .i64 k)
  tri : ∀ i, i < 3 → w.cell? ⟨g, f + 1 + i, none⟩ = some (.float .f32 (tri a b c i))
  duo : ∀ i, i < 2 → w.cell? ⟨g, f + 4 + i, none⟩ = some (.float .f32 (duo x y i))
theorem Row.filAt {w : World} {g : Nat} {t : TypeId} {k : Int} {a b c x y : Nat} (h : Row w g t (#[.int .i64 k, .float .f32 a, .float .f32 b, .float .f32 c, .float .f32 x, .float .f32 y] : Array Value)) : FilAt w g 0 k a b c x y :=
  ⟨h.six.1, fun i hi => by rw [Nat.zero_add]; exact h.tri i hi, fun i hi => by rw [Nat.zero_add]; exact h.duo i hi⟩
/-- A filter within a row. -/
structure FilIn (cs : Array Value) (f : Nat) (k : Int) (a b c x y : Nat) : Prop where
  k0 : cs[f]? = some (.int .i64 k)
  c1 : cs[f + 1]? = some (.float .f32 a)
  c2 : cs[f + 2]? = some (.float .f32 b)
  c3 : cs[f + 3]? = some (.float .f32 c)
  c4 : cs[f + 4]? = some (.float .f32 x)
  c5 : cs[f + 5]? = some (.float .f32 y)
theorem FilIn.at {cs : Array Value} {f : Nat} {k : Int} {a b c x y : Nat} (h : FilIn cs f k a b c x y) {w : World} {g : Nat} {t : TypeId} (hr : Row w g t cs) : FilAt w g f k a b c x y :=
  ⟨(hr.cell? f).trans h.k0, fun i hi => by
    match i, hi with
    | 0, _ => exact (hr.cell? (f + 1)).trans h.c1
    | 1, _ => exact (hr.cell? (f + 2)).trans h.c2
    | 2, _ => exact (hr.cell? (f + 3)).trans h.c3, fun i hi => by
    match i, hi with
    | 0, _ => exact (hr.cell? (f + 4)).trans h.c4
    | 1, _ => exact (hr.cell? (f + 5)).trans h.c5⟩
theorem fits_tri {a b c : Nat} (ha : fits .f32 a) (hb : fits .f32 b) (hc : fits .f32 c) : ∀ i, i < 3 → fits .f32 (tri a b c i) := by
  intro i hi
  match i, hi with
  | 0, _ => exact ha
  | 1, _ => exact hb
  | 2, _ => exact hc
theorem fits_duo {a b : Nat} (ha : fits .f32 a) (hb : fits .f32 b) : ∀ i, i < 2 → fits .f32 (duo a b i) := by
  intro i hi
  match i, hi with
  | 0, _ => exact ha
  | 1, _ => exact hb
end Go.Fk
namespace Go.Proofs.Ytkjgcfmfejjdkaa
open Go.RowKit Go.Fk
theorem s_Uses (k : Int) (w : World) : Calls Try.prog 131 #[.int .i64 k] w fun e w' => e = .returned (.tuple #[.int .i64 (cU k), .int .i64 (sU k)]) ∧ w = w' := by
  by_cases h1 : k = 1
  · subst h1
    go_enter Try.func131, Try.ntmps131
    go_wp2
    go_ret2
    exact ⟨rfl, rfl⟩
  by_cases h2 : k = 2
  · subst h2
    go_enter Try.func131, Try.ntmps131
    go_wp2
    go_ret2
    exact ⟨rfl, rfl⟩
  by_cases h3 : k = 3
  · subst h3
    go_enter Try.func131, Try.ntmps131
    go_wp2
    go_ret2
    exact ⟨rfl, rfl⟩
  by_cases h5 : k = 5
  · subst h5
    go_enter Try.func131, Try.ntmps131
    go_wp2
    go_ret2
    exact ⟨rfl, rfl⟩
  have e1 : cU k = 3 := by simp [cU, h1, h2, h3, h5]
  have e2 : sU k = 2 := by simp [sU, h1, h2]
  rw [e1, e2]
  go_enter Try.func131, Try.ntmps131
  go_wp2
  go_ret2
  exact ⟨rfl, rfl⟩
set_option maxHeartbeats 2000000 in
theorem s_OkAt (k : Int) (a b c x y : Nat) (g f : Nat) (w : World) (hr : FilAt w g f k a b c x y) : Calls Try.prog 103 #[.pointer (some ⟨g, f, none⟩)] w fun e w' => e = .returned (.bool (okF k a b c x y)) ∧ ∃ n, w' = w.drewN n := by
  have c0 := hr.k0
  have HR := hid hr
  clear hr
  by_cases hk : 1 ≤ k ∧ k ≤ 5
  · obtain ⟨k1, k5⟩ := hk
    obtain ⟨p, hp⟩ : ∃ p, p = cU k := ⟨_, rfl⟩
    obtain ⟨q, hq⟩ : ∃ q, q = sU k := ⟨_, rfl⟩
    have hp3 : p ≤ 3 := by rw [hp]; exact cU_le k
    have hq2 : q ≤ 2 := by rw [hq]; exact sU_le k
    have E : okF k a b c x y = (usedB (tri a b c) 3 p && usedB (duo x y) 2 q) := by rw [hp, hq]; simp [okF, k1, k5]
    rw [E]; clear E
    have hu := s_Uses k
    rw [← hp, ← hq] at hu
    have HU := hid hu
    clear hu hp hq
    go_enter Try.func103, Try.ntmps103
    go_wp2_with (first | (go_at_call 59; refine (s_In _ _ _ _).mono ?_; rintro e w' ⟨rfl, rfl⟩) | (go_at_call 131; refine (HU.out _).mono ?_; rintro e w' ⟨rfl, rfl⟩))
    go_loopw [5] (fun i wr => ∃ j : Nat, j ≤ 3 ∧ i = .int .i64 j ∧ Hid (∀ i, i < j → fin (tri a b c i) = true ∧ (p ≤ i → sameB (tri a b c i) 0 = true)) ∧ ∃ n, wr = w.drewN n) (fun i _ => 3 - (intOf i).toNat)
    case atStart => exact ⟨0, by omega, rfl, fun i hi => absurd hi (by omega), 0, rfl⟩
    case round =>
      obtain ⟨j, hj, rfl, HJ, n, rfl⟩ := hrel
      by_cases hlt : j < 3
      · have cj := HR.out.tri j hlt
        cases h1 : fin (tri a b c j)
        · go_wp2_with (go_at_call 55; refine (s_l01Finite _ _).mono ?_; rintro e w' ⟨rfl, m, rfl⟩)
          go_ret
          refine ⟨ret_b ?_, _, rfl⟩
          by_cases hjp : j < p
          · rw [usedB_fin hjp hp3 h1]; rfl
          · have : sameB (tri a b c j) 0 = false := by
              cases e : sameB (tri a b c j) 0
              · rfl
              · rw [same0_fin e] at h1; cases h1
            rw [usedB_zero (show p ≤ j by omega) hlt this]; rfl
        · by_cases hjp : j < p
          · have hjp' : (j : Int) < p := by omega
            go_wp2_with (go_at_call 55; refine (s_l01Finite _ _).mono ?_; rintro e w' ⟨rfl, m, rfl⟩)
            go_roundw
            case rel => first | exact ⟨j + 1, by omega, by go_num, fun i hi => by rcases Nat.lt_or_ge i j with h | h; exact HJ.out i h; rw [show i = j by omega]; exact ⟨h1, fun h => absurd h (by omega)⟩, _, rfl⟩ | ((repeat apply Exists.intro); exact ⟨⟨j + 1, by omega, by go_num, fun i hi => by rcases Nat.lt_or_ge i j with h | h; exact HJ.out i h; rw [show i = j by omega]; exact ⟨h1, fun h => absurd h (by omega)⟩, _, rfl⟩, rfl⟩)
            case measure => simp [intOf]; omega
          · have hjp' : (p : Int) ≤ j := by omega
            cases h2 : sameB (tri a b c j) 0
            · go_wp2_with (first | (go_at_call 55; refine (s_l01Finite _ _).mono ?_; rintro e w' ⟨rfl, m, rfl⟩) | (go_at_call 117; refine (s_l01Same _ _ _).mono ?_; rintro e w' ⟨rfl, rfl⟩))
              go_ret
              exact ⟨ret_b (by rw [usedB_zero (show p ≤ j by omega) hlt h2]; rfl), _, rfl⟩
            · go_wp2_with (first | (go_at_call 55; refine (s_l01Finite _ _).mono ?_; rintro e w' ⟨rfl, m, rfl⟩) | (go_at_call 117; refine (s_l01Same _ _ _).mono ?_; rintro e w' ⟨rfl, rfl⟩))
              go_roundw
              case rel => first | exact ⟨j + 1, by omega, by go_num, fun i hi => by rcases Nat.lt_or_ge i j with h | h; exact HJ.out i h; rw [show i = j by omega]; exact ⟨h1, fun _ => h2⟩, _, rfl⟩ | ((repeat apply Exists.intro); exact ⟨⟨j + 1, by omega, by go_num, fun i hi => by rcases Nat.lt_or_ge i j with h | h; exact HJ.out i h; rw [show i = j by omega]; exact ⟨h1, fun _ => h2⟩, _, rfl⟩, rfl⟩)
              case measure => simp [intOf]; omega
      · obtain rfl : j = 3 := by omega
        have U1 := hid (usedB_yes (f := tri a b c) (n := 3) (u := p) (fun i hi => (HJ.out i (by omega)).1) (fun i h1 h2 => (HJ.out i h2).2 h1))
        clear HJ
        go_wp2
        go_loopw [6] (fun i wr => ∃ j : Nat, j ≤ 2 ∧ i = .int .i64 j ∧ Hid (∀ i, i < j → fin (duo x y i) = true ∧ (q ≤ i → sameB (duo x y i) 0 = true)) ∧ ∃ n, wr = w.drewN n) (fun i _ => 2 - (intOf i).toNat)
        case atStart => exact ⟨0, by omega, rfl, fun i hi => absurd hi (by omega), _, rfl⟩
        case round =>
          obtain ⟨j, hj, rfl, HJ, n, rfl⟩ := hrel
          by_cases hlt : j < 2
          · have cj := HR.out.duo j hlt
            cases h1 : fin (duo x y j)
            · go_wp2_with (go_at_call 55; refine (s_l01Finite _ _).mono ?_; rintro e w' ⟨rfl, m, rfl⟩)
              go_ret
              refine ⟨ret_b ?_, _, rfl⟩
              by_cases hjp : j < q
              · rw [usedB_fin hjp hq2 h1, Bool.and_false]
              · have : sameB (duo x y j) 0 = false := by
                  cases e : sameB (duo x y j) 0
                  · rfl
                  · rw [same0_fin e] at h1; cases h1
                rw [usedB_zero (show q ≤ j by omega) hlt this, Bool.and_false]
            · by_cases hjp : j < q
              · have hjp' : (j : Int) < q := by omega
                go_wp2_with (go_at_call 55; refine (s_l01Finite _ _).mono ?_; rintro e w' ⟨rfl, m, rfl⟩)
                go_roundw
                case rel => first | exact ⟨j + 1, by omega, by go_num, fun i hi => by rcases Nat.lt_or_ge i j with h | h; exact HJ.out i h; rw [show i = j by omega]; exact ⟨h1, fun h => absurd h (by omega)⟩, _, rfl⟩ | ((repeat apply Exists.intro); exact ⟨⟨j + 1, by omega, by go_num, fun i hi => by rcases Nat.lt_or_ge i j with h | h; exact HJ.out i h; rw [show i = j by omega]; exact ⟨h1, fun h => absurd h (by omega)⟩, _, rfl⟩, rfl⟩)
                case measure => simp [intOf]; omega
              · have hjp' : (q : Int) ≤ j := by omega
                cases h2 : sameB (duo x y j) 0
                · go_wp2_with (first | (go_at_call 55; refine (s_l01Finite _ _).mono ?_; rintro e w' ⟨rfl, m, rfl⟩) | (go_at_call 117; refine (s_l01Same _ _ _).mono ?_; rintro e w' ⟨rfl, rfl⟩))
                  go_ret
                  exact ⟨ret_b (by rw [usedB_zero (show q ≤ j by omega) hlt h2, Bool.and_false]), _, rfl⟩
                · go_wp2_with (first | (go_at_call 55; refine (s_l01Finite _ _).mono ?_; rintro e w' ⟨rfl, m, rfl⟩) | (go_at_call 117; refine (s_l01Same _ _ _).mono ?_; rintro e w' ⟨rfl, rfl⟩))
                  go_roundw
                  case rel => first | exact ⟨j + 1, by omega, by go_num, fun i hi => by rcases Nat.lt_or_ge i j with h | h; exact HJ.out i h; rw [show i = j by omega]; exact ⟨h1, fun _ => h2⟩, _, rfl⟩ | ((repeat apply Exists.intro); exact ⟨⟨j + 1, by omega, by go_num, fun i hi => by rcases Nat.lt_or_ge i j with h | h; exact HJ.out i h; rw [show i = j by omega]; exact ⟨h1, fun _ => h2⟩, _, rfl⟩, rfl⟩)
                  case measure => simp [intOf]; omega
          · obtain rfl : j = 2 := by omega
            have U2 := hid (usedB_yes (f := duo x y) (n := 2) (u := q) (fun i hi => (HJ.out i (by omega)).1) (fun i h1 h2 => (HJ.out i h2).2 h1))
            clear HJ
            go_wp2
            go_ret
            exact ⟨ret_b (by rw [U1.out, U2.out]; rfl), _, rfl⟩
  · rw [okF_out hk]
    have hIn : Hid (∀ w, Calls Try.prog 59 #[.int .i64 k, .int .i64 1, .int .i64 5] w fun e w' => e = .returned (.bool false) ∧ w = w') := fun w => by
      have h := s_In k 1 5 w
      rwa [show (decide ((1 : Int) ≤ k) && decide (k ≤ 5)) = false by simp only [Bool.and_eq_false_iff, decide_eq_false_iff_not]; omega] at h
    clear hk
    go_enter Try.func103, Try.ntmps103
    go_wp2_with (first | (go_at_call 59; refine (hIn.out _).mono ?_; rintro e w' ⟨rfl, rfl⟩))
    go_ret
    exact ⟨rfl, 0, rfl⟩
theorem s_Ok (k : Int) (a b c x y : Nat) (g : Nat) (w : World) (hr : Row w g 40 (#[.int .i64 k, .float .f32 a, .float .f32 b, .float .f32 c, .float .f32 x, .float .f32 y] : Array Value)) : Calls Try.prog 103 #[.pointer (some ⟨g, 0, none⟩)] w fun e w' => e = .returned (.bool (okF k a b c x y)) ∧ ∃ n, w' = w.drewN n := s_OkAt k a b c x y g 0 w hr.filAt
end Go.Proofs.Ytkjgcfmfejjdkaa

/- 'SameFilter' of both. -/
namespace Go.Fk
open Go Go.RowKit
/-- Are two rows the same? -/
def eqRow (f f' : Nat → Nat) (n : Nat) : Bool := (List.range n).all (fun j => sameB (f j) (f' j))
theorem eqRow_no {f f' : Nat → Nat} {n j : Nat} (hj : j < n) (h : sameB (f j) (f' j) = false) : eqRow f f' n = false := by
  rw [Bool.eq_false_iff]
  intro hh
  have := List.all_eq_true.1 hh j (List.mem_range.2 hj)
  rw [h] at this; cases this
theorem eqRow_yes {f f' : Nat → Nat} {n : Nat} (h : ∀ j, j < n → sameB (f j) (f' j) = true) : eqRow f f' n = true := List.all_eq_true.2 (fun j hj => h j (List.mem_range.1 hj))
theorem all_step {p : Nat → Prop} {k : Nat} (h : ∀ j, j < k → p j) (hk : p k) : ∀ j, j < k + 1 → p j := fun j hj => by
  by_cases e : j = k
  · rw [e]; exact hk
  · exact h j (by omega)
section
variable {P : Program} {ops : Array Oper} {w : World} {K : FuncId → Array Value → Value → Prop} {Q : Act → Prop} {o : Oper} {rest : List Oper} {a : Act} {C : World → Prop}
theorem wpLoose_anyW (hw : Region.wanted o (yielded ops a.tmps) = true) (V : Value → Prop) (h1 : ∀ n, within P (fun w' => ∃ m, w' = w.drewN m) K V ((execOp a.eval o).run P (w.drewN n)))
    (h2 : ∀ v, V v → wpLoose P ops (fun w' => ∃ m, w' = w.drewN m) K Q rest (a.put o.dst v)) : wpLoose P ops (fun w' => ∃ m, w' = w.drewN m) K Q (o :: rest) a :=
  ⟨V, .inl ⟨hw, fun w' hw' => by obtain ⟨n, rfl⟩ := hw'; exact h1 n⟩, h2⟩
theorem wpLoose_skip (hw : Region.wanted o (yielded ops a.tmps) = false) (h : wpLoose P ops C K Q rest (a.put o.dst undef)) : wpLoose P ops C K Q (o :: rest) a :=
  ⟨(· = undef), .inr ⟨hw, rfl⟩, fun v hv => by rw [hv]; exact h⟩
theorem wpLoose_nilW (hw : Region.wanted o (yielded ops a.tmps) = true) {x : Operand} (hop : o.op = Op.nilCheck x) {ad : Addr} (hx : a.eval x = .pointer (some ad))
    (hK : wpLoose P ops (fun w' => ∃ m, w' = w.drewN m) K Q rest (a.put o.dst (.pointer (some ad)))) : wpLoose P ops (fun w' => ∃ m, w' = w.drewN m) K Q (o :: rest) a := by
  refine wpLoose_anyW hw (· = .pointer (some ad)) (fun n => ?_) (by rintro v rfl; exact hK)
  simp [execOp, hop, hx, within, Result.andThen]
  exact ⟨_, rfl⟩
end
end Go.Fk
namespace Go.Proofs.Ytkjgcfmfejjdkaa
open Go.RowKit Go.Fk
set_option maxHeartbeats 1000000 in
theorem i_EqualFunc (f f' : Nat → Nat) (g o g' o' n : Nat) (w : World) (hn : n < 100) (hc : ∀ i, i < n → w.cell? ⟨g, o + i, none⟩ = some (.float .f32 (f i))) (hc' : ∀ i, i < n → w.cell? ⟨g', o' + i, none⟩ = some (.float .f32 (f' i))) :
    Calls Try.prog 118 #[.slice (some ⟨g, o, none⟩) n n, .slice (some ⟨g', o', none⟩) n n, .func (.func 119) #[] #[]] w fun e w' => e = .returned (.bool (eqRow f f' n)) ∧ w = w' := by
  have Hc := hid hc; have Hc' := hid hc'; clear hc hc'
  go_enter Try.func118, Try.ntmps118
  go_wp2
  go_loop [17] (fun i => ∃ k : Nat, k ≤ n ∧ i = .int .i64 k ∧ Hid (∀ i, i < k → sameB (f i) (f' i) = true)) (fun i => n - (intOf i).toNat)
  case atStart => exact ⟨0, by omega, rfl, fun i hi => absurd hi (by omega)⟩
  case round =>
    obtain ⟨k, hk, rfl, HK⟩ := hrel
    by_cases hlt : k < n
    · have ck := Hc.out k hlt
      have ck' := Hc'.out k hlt
      cases hb : sameB (f k) (f' k)
      · go_wp2_with (go_at_call 119; refine (i_SameSample _ _ _).mono ?_; rintro e w' ⟨rfl, rfl⟩)
        go_ret
        exact ⟨ret_b (eqRow_no hlt hb).symm, rfl⟩
      · go_wp2_with (go_at_call 119; refine (i_SameSample _ _ _).mono ?_; rintro e w' ⟨rfl, rfl⟩)
        go_round
        case rel => exact ⟨k + 1, by omega, by go_num, all_step (p := fun j => sameB (f j) (f' j) = true) HK.out hb⟩
        case measure => simp [intOf]; omega
    · obtain rfl : k = n := by omega
      go_wp2
      go_ret
      exact ⟨ret_b (eqRow_yes HK.out).symm, rfl⟩
/-- Of both calls. -/
def twoK (g : Nat) (eC eS : Bool) (_ : FuncId) (args : Array Value) (v : Value) : Prop := ∃ o n, args[0]? = some (.slice (some ⟨g, o, none⟩) n n) ∧ v = .bool (if o = 1 then eC else eS)
theorem twoK_c {g n : Nat} {eC eS : Bool} {f : FuncId} {b c v : Value} (h : twoK g eC eS f #[.slice (some ⟨g, 1, none⟩) n n, b, c] v) : v = .bool eC := by
  obtain ⟨o, m, h, rfl⟩ := h
  simp at h
  obtain ⟨rfl, _⟩ := h
  rfl
theorem twoK_s {g n : Nat} {eC eS : Bool} {f : FuncId} {b c v : Value} (h : twoK g eC eS f #[.slice (some ⟨g, 4, none⟩) n n, b, c] v) : v = .bool eS := by
  obtain ⟨o, m, h, rfl⟩ := h
  simp at h
  obtain ⟨rfl, _⟩ := h
  rfl
set_option maxRecDepth 100000 in
set_option maxHeartbeats 1000000 in
theorem i_SameFilter (k : Int) (a b c x y : Nat) (k' : Int) (a' b' c' x' y' : Nat) (w : World) :
    Calls Try.prog 121 #[(.agg #[.int .i64 k, .float .f32 a, .float .f32 b, .float .f32 c, .float .f32 x, .float .f32 y]), (.agg #[.int .i64 k', .float .f32 a', .float .f32 b', .float .f32 c', .float .f32 x', .float .f32 y'])] w fun e w' => e = .returned (.bool ((k == k') && (eqRow (tri a b c) (tri a' b' c') 3 && eqRow (duo x y) (duo x' y') 2))) ∧ le w w' := by
  have F := ((Frm.nil w).box 40 (#[.int .i64 k, .float .f32 a, .float .f32 b, .float .f32 c, .float .f32 x, .float .f32 y] : Array Value)).box 40 (#[.int .i64 k', .float .f32 a', .float .f32 b', .float .f32 c', .float .f32 x', .float .f32 y'] : Array Value)
  simp only [World.size_alloc] at F
  have R := hid (F.row (List.mem_cons_of_mem _ List.mem_cons_self))
  have R' := hid (F.row List.mem_cons_self)
  have k0 := R.out.six.1
  have k0' := R'.out.six.1
  have HL := hid F.below
  clear F
  obtain ⟨eC, hC⟩ : ∃ e, e = eqRow (tri a b c) (tri a' b' c') 3 := ⟨_, rfl⟩
  obtain ⟨eS, hS⟩ : ∃ e, e = eqRow (duo x y) (duo x' y') 2 := ⟨_, rfl⟩
  rw [← hC, ← hS]
  have HC := hid hC; have HS := hid hS
  clear hC hS
  cases hk : (k == k')
  · go_enter Try.func121, Try.ntmps121
    go_wp2_with fail
    refine wp_region_loose (twoK w.heap.size eC eS) (by kernel_rfl) (by kernel_rfl) ?_
    repeat (first | (refine wpLoose_quiet rfl ?_; go_big_quiet_step (fail); refine wpQuiet_nil ?_) | (refine wpLoose_skip (by kernel_rfl) ?_; simp only [Act.put, List.setIfInBounds_toArray, List.set_cons_succ, List.set_cons_zero]))
    refine wpLoose_nil (fun m => ?_)
    go_wp2
    go_ret
    exact ⟨rfl, le_trans HL.out (le_drewN _ _)⟩
  · cases eC
    · go_enter Try.func121, Try.ntmps121
      go_wp2_with fail
      refine wp_region_loose (twoK w.heap.size false eS) (by kernel_rfl) (by kernel_rfl) ?_
      repeat (refine wpLoose_quiet rfl ?_; go_big_quiet_step (fail); refine wpQuiet_nil ?_)
      refine wpLoose_anyW (by kernel_rfl) (· = .bool false) (fun n => ?_) ?_
      · go_simp
        refine ⟨(i_EqualFunc (tri a b c) (tri a' b' c') w.heap.size 1 (w.heap.size + 1) 1 3 _ (by omega) (fun i hi => Row.tri (R.out.drewN n) i hi) (fun i hi => Row.tri (R'.out.drewN n) i hi)).mono ?_, fun v hv => twoK_c hv⟩
        rintro e w2 ⟨rfl, rfl⟩
        exact ⟨_, rfl, ⟨1, 3, rfl, by rw [if_pos rfl, ← HC.out]⟩, n, rfl⟩
      · rintro v rfl
        simp only [Act.put, List.setIfInBounds_toArray, List.set_cons_succ, List.set_cons_zero]
        repeat (first | (refine wpLoose_quiet rfl ?_; go_big_quiet_step (fail); refine wpQuiet_nil ?_) | (refine wpLoose_skip (by kernel_rfl) ?_; simp only [Act.put, List.setIfInBounds_toArray, List.set_cons_succ, List.set_cons_zero]))
        refine wpLoose_nil (fun m => ?_)
        go_wp2
        go_ret
        exact ⟨rfl, le_trans HL.out (le_drewN _ _)⟩
    · go_enter Try.func121, Try.ntmps121
      go_wp2_with fail
      refine wp_region_loose (twoK w.heap.size true eS) (by kernel_rfl) (by kernel_rfl) ?_
      repeat (refine wpLoose_quiet rfl ?_; go_big_quiet_step (fail); refine wpQuiet_nil ?_)
      refine wpLoose_anyW (by kernel_rfl) (· = .bool true) (fun n => ?_) ?_
      · go_simp
        refine ⟨(i_EqualFunc (tri a b c) (tri a' b' c') w.heap.size 1 (w.heap.size + 1) 1 3 _ (by omega) (fun i hi => Row.tri (R.out.drewN n) i hi) (fun i hi => Row.tri (R'.out.drewN n) i hi)).mono ?_, fun v hv => twoK_c hv⟩
        rintro e w2 ⟨rfl, rfl⟩
        exact ⟨_, rfl, ⟨1, 3, rfl, by rw [if_pos rfl, ← HC.out]⟩, n, rfl⟩
      · rintro v rfl
        simp only [Act.put, List.setIfInBounds_toArray, List.set_cons_succ, List.set_cons_zero]
        repeat (refine wpLoose_quiet rfl ?_; go_big_quiet_step (fail); refine wpQuiet_nil ?_)
        refine wpLoose_anyW (by kernel_rfl) (· = .bool eS) (fun n => ?_) ?_
        · go_simp
          refine ⟨(i_EqualFunc (duo x y) (duo x' y') w.heap.size 4 (w.heap.size + 1) 4 2 _ (by omega) (fun i hi => Row.duo (R.out.drewN n) i hi) (fun i hi => Row.duo (R'.out.drewN n) i hi)).mono ?_, fun v hv => twoK_s hv⟩
          rintro e w2 ⟨rfl, rfl⟩
          exact ⟨_, rfl, ⟨4, 2, rfl, by rw [if_neg (by omega), ← HS.out]⟩, n, rfl⟩
        · rintro v rfl
          simp only [Act.put, List.setIfInBounds_toArray, List.set_cons_succ, List.set_cons_zero]
          repeat (refine wpLoose_quiet rfl ?_; go_big_quiet_step (fail); refine wpQuiet_nil ?_)
          refine wpLoose_nil (fun m => ?_)
          go_wp2
          go_ret
          exact ⟨rfl, le_trans HL.out (le_drewN _ _)⟩
theorem eqRow_duo (x y x' y' : Nat) : eqRow (duo x y) (duo x' y') 2 = (sameB x x' && sameB y y') := by
  simp [eqRow, List.range_succ, duo]
def oneK (_ : FuncId) (args : Array Value) (v : Value) : Prop := ∃ p q, args = #[.float .f32 p, .float .f32 q] ∧ v = .bool (sameB p q)
theorem oneK_v {f : FuncId} {p q : Nat} {v : Value} (h : oneK f #[.float .f32 p, .float .f32 q] v) : v = .bool (sameB p q) := by
  obtain ⟨p', q', h, rfl⟩ := h
  simp at h
  obtain ⟨rfl, rfl⟩ := h
  rfl
theorem one_call {p q n N : Nat} {w : World} : Calls Try.prog 117 #[.float .f32 p, .float .f32 q] (w.drewN (N + n)) fun e w'' => ∃ u, e = .returned u ∧ oneK 117 #[.float .f32 p, .float .f32 q] u ∧ ∃ m, w'' = w.drewN (N + m) :=
  (s_l01Same p q (w.drewN (N + n))).mono fun _ _ ⟨he, hw⟩ => ⟨_, he, ⟨p, q, rfl, rfl⟩, n, hw.symm⟩
set_option maxRecDepth 100000 in
set_option maxHeartbeats 2000000 in
theorem s_l02SameAt (k : Int) (a b c x y : Nat) (k' : Int) (a' b' c' x' y' : Nat) (g g' f f' : Nat) (w : World) (R : FilAt w g f k a b c x y) (R' : FilAt w g' f' k' a' b' c' x' y') :
    Calls Try.prog 116 #[.pointer (some ⟨g, f, none⟩), .pointer (some ⟨g', f', none⟩)] w fun e w' => e = .returned (.bool ((k == k') && (eqRow (tri a b c) (tri a' b' c') 3 && eqRow (duo x y) (duo x' y') 2))) ∧ ∃ n, w' = w.drewN n := by
  have k0 := R.k0
  have k0' := R'.k0
  have HR := hid R; have HR' := hid R'
  clear R R'
  cases hk : (k == k')
  · have hkn : (k != k') = true := by simp [bne, hk]
    go_enter Try.func116, Try.ntmps116
    go_wp2_with fail
    refine wp_region_loose (oneK) (by kernel_rfl) (by kernel_rfl) ?_
    repeat (first | (refine wpLoose_quiet rfl ?_; go_big_quiet_step (fail); refine wpQuiet_nil ?_) | (with_reducible refine wpLoose_nilW (by kernel_rfl) rfl rfl ?_; simp only [Act.put, List.setIfInBounds_toArray, List.set_cons_succ, List.set_cons_zero]))
    refine wpLoose_nil (fun m => ?_)
    go_wp2
    go_ret
    exact ⟨rfl, _, rfl⟩
  · have hkn : (k != k') = false := by simp [bne, hk]
    go_enter Try.func116, Try.ntmps116
    go_wp2_with fail
    refine wp_region_loose (oneK) (by kernel_rfl) (by kernel_rfl) ?_
    repeat (first | (refine wpLoose_quiet rfl ?_; go_big_quiet_step (fail); refine wpQuiet_nil ?_) | (with_reducible refine wpLoose_nilW (by kernel_rfl) rfl rfl ?_; simp only [Act.put, List.setIfInBounds_toArray, List.set_cons_succ, List.set_cons_zero]))
    refine wpLoose_nil (fun m => ?_)
    go_wp2
    clear k0 k0' hkn
    go_loopw [5] (fun i wr => ∃ j : Nat, j ≤ 3 ∧ i = .int .i64 j ∧ Hid (∀ i, i < j → sameB (tri a b c i) (tri a' b' c' i) = true) ∧ ∃ n, wr = w.drewN n) (fun i _ => 3 - (intOf i).toNat)
    case atStart => exact ⟨0, by omega, rfl, fun i hi => absurd hi (by omega), _, rfl⟩
    case round =>
      obtain ⟨j, hj, rfl, HJ, n, rfl⟩ := hrel
      by_cases hlt : j < 3
      · have cj := HR.out.tri j hlt
        have cj' := HR'.out.tri j hlt
        cases he : sameB (tri a b c j) (tri a' b' c' j)
        · have HN := hid (eqRow_no (f := tri a b c) (f' := tri a' b' c') (n := 3) hlt he)
          have HE := hid he
          clear he
          generalize tri a b c j = p at *
          generalize tri a' b' c' j = q at *
          go_wp2_with fail
          refine wp_region_loose (oneK) (by kernel_rfl) (by kernel_rfl) ?_
          repeat (first | (refine wpLoose_quiet rfl ?_; go_big_quiet_step (fail); refine wpQuiet_nil ?_) | (with_reducible refine wpLoose_nilW (by kernel_rfl) rfl rfl ?_; simp only [Act.put, List.setIfInBounds_toArray, List.set_cons_succ, List.set_cons_zero]))
          refine wpLoose_any rfl (· = .bool false) (fun m0 => ?_) ?_
          · go_simp
            rw [← HE.out]
            exact ⟨one_call, fun v hv => oneK_v hv⟩
          · rintro v rfl
            simp only [Act.put, List.setIfInBounds_toArray, List.set_cons_succ, List.set_cons_zero]
            repeat (first | (refine wpLoose_quiet rfl ?_; go_big_quiet_step (fail); refine wpQuiet_nil ?_) | (with_reducible refine wpLoose_nilW (by kernel_rfl) rfl rfl ?_; simp only [Act.put, List.setIfInBounds_toArray, List.set_cons_succ, List.set_cons_zero]))
            refine wpLoose_nil (fun m => ?_)
            go_wp2
            go_ret
            exact ⟨ret_b (by rw [HN.out]; rfl), n + m, by go_simp⟩
        · have HJ' := hid (all_step (p := fun i => sameB (tri a b c i) (tri a' b' c' i) = true) HJ.out he)
          have HE := hid he
          clear he
          generalize tri a b c j = p at *
          generalize tri a' b' c' j = q at *
          go_wp2_with fail
          refine wp_region_loose (oneK) (by kernel_rfl) (by kernel_rfl) ?_
          repeat (first | (refine wpLoose_quiet rfl ?_; go_big_quiet_step (fail); refine wpQuiet_nil ?_) | (with_reducible refine wpLoose_nilW (by kernel_rfl) rfl rfl ?_; simp only [Act.put, List.setIfInBounds_toArray, List.set_cons_succ, List.set_cons_zero]))
          refine wpLoose_any rfl (· = .bool true) (fun m0 => ?_) ?_
          · go_simp
            rw [← HE.out]
            exact ⟨one_call, fun v hv => oneK_v hv⟩
          · rintro v rfl
            simp only [Act.put, List.setIfInBounds_toArray, List.set_cons_succ, List.set_cons_zero]
            repeat (first | (refine wpLoose_quiet rfl ?_; go_big_quiet_step (fail); refine wpQuiet_nil ?_) | (with_reducible refine wpLoose_nilW (by kernel_rfl) rfl rfl ?_; simp only [Act.put, List.setIfInBounds_toArray, List.set_cons_succ, List.set_cons_zero]))
            refine wpLoose_nil (fun m => ?_)
            go_wp2
            go_roundw
            case rel => exact ⟨j + 1, by omega, by go_num, HJ', _, rfl⟩
            case measure => simp [intOf]; omega
      · obtain rfl : j = 3 := by omega
        have HY := hid (eqRow_yes HJ.out)
        have x0 : w.cell? ⟨g, f + 4, none⟩ = some (.float .f32 x) := HR.out.duo 0 (by omega)
        have x0' : w.cell? ⟨g', f' + 4, none⟩ = some (.float .f32 x') := HR'.out.duo 0 (by omega)
        have y0 : w.cell? ⟨g, f + 4 + 1, none⟩ = some (.float .f32 y) := HR.out.duo 1 (by omega)
        have y1 : w.cell? ⟨g, f + 5, none⟩ = some (.float .f32 y) := y0
        have y0' : w.cell? ⟨g', f' + 4 + 1, none⟩ = some (.float .f32 y') := HR'.out.duo 1 (by omega)
        have y1' : w.cell? ⟨g', f' + 5, none⟩ = some (.float .f32 y') := y0'
        cases hx : sameB x x'
        · have HX := hid hx
          clear hx
          go_wp2_with fail
          refine wp_region_loose (oneK) (by kernel_rfl) (by kernel_rfl) ?_
          repeat (first | (refine wpLoose_quiet rfl ?_; go_big_quiet_step (fail); refine wpQuiet_nil ?_) | (with_reducible refine wpLoose_nilW (by kernel_rfl) rfl rfl ?_; simp only [Act.put, List.setIfInBounds_toArray, List.set_cons_succ, List.set_cons_zero]))
          refine wpLoose_any rfl (· = .bool false) (fun m0 => ?_) ?_
          · go_simp
            rw [← HX.out]
            exact ⟨one_call, fun v hv => oneK_v hv⟩
          · rintro v rfl
            simp only [Act.put, List.setIfInBounds_toArray, List.set_cons_succ, List.set_cons_zero]
            repeat (first | (refine wpLoose_quiet rfl ?_; go_big_quiet_step (fail); refine wpQuiet_nil ?_) | (refine wpLoose_skip (by kernel_rfl) ?_; simp only [Act.put, List.setIfInBounds_toArray, List.set_cons_succ, List.set_cons_zero]))
            refine wpLoose_nil (fun m => ?_)
            go_wp2
            go_ret
            exact ⟨ret_b (by rw [HY.out, eqRow_duo, HX.out]; rfl), n + m, by go_simp⟩
        · have HX := hid hx
          clear hx
          go_wp2_with fail
          refine wp_region_loose (oneK) (by kernel_rfl) (by kernel_rfl) ?_
          repeat (first | (refine wpLoose_quiet rfl ?_; go_big_quiet_step (fail); refine wpQuiet_nil ?_) | (with_reducible refine wpLoose_nilW (by kernel_rfl) rfl rfl ?_; simp only [Act.put, List.setIfInBounds_toArray, List.set_cons_succ, List.set_cons_zero]))
          refine wpLoose_any rfl (· = .bool true) (fun m0 => ?_) ?_
          · go_simp
            rw [← HX.out]
            exact ⟨one_call, fun v hv => oneK_v hv⟩
          · rintro v rfl
            simp only [Act.put, List.setIfInBounds_toArray, List.set_cons_succ, List.set_cons_zero]
            repeat (first | (refine wpLoose_quiet rfl ?_; go_big_quiet_step (fail); refine wpQuiet_nil ?_) | (with_reducible refine wpLoose_nilW (by kernel_rfl) rfl rfl ?_; simp only [Act.put, List.setIfInBounds_toArray, List.set_cons_succ, List.set_cons_zero]))
            refine wpLoose_anyW (by kernel_rfl) (· = .bool (sameB y y')) (fun m0 => ?_) ?_
            · go_simp
              exact ⟨one_call, fun v hv => oneK_v hv⟩
            · rintro v rfl
              simp only [Act.put, List.setIfInBounds_toArray, List.set_cons_succ, List.set_cons_zero]
              repeat (first | (refine wpLoose_quiet rfl ?_; go_big_quiet_step (fail); refine wpQuiet_nil ?_) | (with_reducible refine wpLoose_nilW (by kernel_rfl) rfl rfl ?_; simp only [Act.put, List.setIfInBounds_toArray, List.set_cons_succ, List.set_cons_zero]))
              refine wpLoose_nil (fun m => ?_)
              go_wp2
              go_ret
              exact ⟨ret_b (by rw [HY.out, eqRow_duo, HX.out]; rfl), n + m, by go_simp⟩
theorem s_l02Same (k : Int) (a b c x y : Nat) (k' : Int) (a' b' c' x' y' : Nat) (g g' : Nat) (w : World) (R : Row w g 40 (#[.int .i64 k, .float .f32 a, .float .f32 b, .float .f32 c, .float .f32 x, .float .f32 y] : Array Value)) (R' : Row w g' 40 (#[.int .i64 k', .float .f32 a', .float .f32 b', .float .f32 c', .float .f32 x', .float .f32 y'] : Array Value)) :
    Calls Try.prog 116 #[.pointer (some ⟨g, 0, none⟩), .pointer (some ⟨g', 0, none⟩)] w fun e w' => e = .returned (.bool ((k == k') && (eqRow (tri a b c) (tri a' b' c') 3 && eqRow (duo x y) (duo x' y') 2))) ∧ ∃ n, w' = w.drewN n :=
  s_l02SameAt k a b c x y k' a' b' c' x' y' g g' 0 0 w R.filAt R'.filAt
end Go.Proofs.Ytkjgcfmfejjdkaa

/- Rings over facts of memory: 'ValidRing', 'SameRing' of both. -/
namespace Go.Fk
open Go Go.RowKit
theorem RdS.form {w : World} {B : Nat} {s : Value} {x : Nat → Nat} {n : Nat} (h : RdS w B s x n) : (s = .slice none 0 0 ∧ n = 0) ∨ ∃ (a : Addr) (cap : Nat), s = .slice (some a) n cap ∧ n ≤ cap ∧ cap ≤ maxLen := by
  rcases h with h | ⟨a, cap, h1, h2, h3, _⟩
  · exact .inl h
  · exact .inr ⟨a, cap, h1, h2, h3⟩
section
variable {P : Program} {w : World} {ops : Array Oper} {rest : List Oper} {o : Oper} {a : Act} {Q : Exit → Act → World → Prop}
/-- The length of a slice that can be read. -/
theorem wpList_lenR (hg : o.guard = none) {x : Operand} {t : TypeId} (hop : o.op = Op.call { callee := Callee.builtin Builtin.len, args := #[x], argTypes := #[t] }) {v : Value} (hx : a.eval x = v) {e : TypeId} (hu : P.underlying t = some (.slice e)) {w1 : World} {B : Nat} {y : Nat → Nat} {n : Nat} (hv : RdS w1 B v y n)
    (h : wpList P ops Q rest (a.put o.dst (.int .i64 n)) w) : wpList P ops Q (o :: rest) a w := by
  refine wpList_plain hg fun K hK' => ?_
  unfold Oper.wp
  rcases hv.form with ⟨rfl, rfl⟩ | ⟨ad, cap, rfl, _, _⟩
  all_goals
    simp [execOp, hop, hx, Result.andThen, resolve, invoke, builtin, Builtin.len_, run_underlying hu]
    exact hK' _ _ h
end
theorem sameB_can (x y : Nat) : sameB (can .f32 x) (can .f32 y) = sameB x y := by unfold sameB; rw [can_can, can_can]
theorem okRing_iff {n : Nat} {k : Int} : okRing n k = true ↔ 1 ≤ n ∧ n ≤ 1024 ∧ 0 ≤ k ∧ k < n := by
  unfold okRing; simp only [Bool.and_eq_true, decide_eq_true_eq]; omega
theorem okRing_j {n : Nat} {k : Int} (h : okRing n k = true) : 1 ≤ n ∧ n ≤ 1024 ∧ ∃ j : Nat, k = j ∧ j < n := by
  obtain ⟨h1, h2, h3, h4⟩ := okRing_iff.1 h
  exact ⟨h1, h2, k.toNat, by omega, by omega⟩
/-- Two slices of floats, compared. -/
def sameS (x x' : Nat → Nat) (n n' : Nat) : Bool := (n == n') && eqRow x x' n
theorem sameS_ne {x x' : Nat → Nat} {n n' : Nat} (h : n ≠ n') : sameS x x' n n' = false := by simp [sameS, h]
theorem sameS_eq {x x' : Nat → Nat} {n : Nat} : sameS x x' n n = eqRow x x' n := by simp [sameS]
end Go.Fk
namespace Go.Proofs.Ytkjgcfmfejjdkaa
open Go.RowKit Go.Fk
set_option maxHeartbeats 2000000 in
theorem i_ValidRingR (B : Nat) (s : Value) (x : Nat → Nat) (n : Nat) (k : Int) (w : World) (hs : RdS w B s x n) : Calls Try.prog 135 #[.agg #[s, .int .i64 k]] w fun e w' => e = .returned (.bool (okRing n k)) ∧ le w w' := by
  have HL := hid (le_alloc w (.cells #[s, .int .i64 k] 36))
  rcases hs.form with ⟨rfl, rfl⟩ | ⟨a, cap, rfl, hc, hm⟩
  · have HZ : Hid (okRing 0 k = false) := by unfold Hid okRing; simp
    clear hs
    go_enter Try.func135, Try.ntmps135
    go_wp2
    go_ret
    exact ⟨ret_b HZ.out.symm, HL.out⟩
  clear hs
  unfold maxLen at hm
  obtain ⟨z, hz⟩ : ∃ z, z = okRing n k := ⟨_, rfl⟩
  rw [← hz]
  unfold okRing at hz
  by_cases h1 : 1 ≤ (n : Int) <;> by_cases h2 : (n : Int) ≤ 1024 <;> by_cases h3 : 0 ≤ k <;> by_cases h4 : k < (n : Int)
  all_goals first | (exfalso; omega) | skip
  all_goals
    simp only [h1, h2, h3, h4, decide_true, decide_false, Bool.and_true, Bool.and_false, Bool.true_and, Bool.false_and] at hz
    have HZ := hid hz
    clear hz
    go_enter Try.func135, Try.ntmps135
    go_wp2
    go_ret
    exact ⟨ret_b HZ.out.symm, HL.out⟩
theorem s_l02RingR (B : Nat) (s : Value) (x : Nat → Nat) (n : Nat) (k : Int) (g f : Nat) (w : World) (hs : RdS w B s x n) (c0 : w.cell? ⟨g, f, none⟩ = some s) (c1 : w.cell? ⟨g, f + 1, none⟩ = some (.int .i64 k)) (hk : (Lit.int .i64 k).wf = true) :
    Calls Try.prog 130 #[.pointer (some ⟨g, f, none⟩)] w fun e w' => e = .returned (.bool (okRing n k)) ∧ w = w' := by
  rcases hs.form with ⟨rfl, rfl⟩ | ⟨a, cap, rfl, hc, hm⟩
  · have HZ : Hid (okRing 0 k = false) := by unfold Hid okRing; simp
    clear hs
    have HI : Hid (∀ w, Calls Try.prog 59 #[.int .i64 0, .int .i64 1, .int .i64 1024] w fun e w' => e = .returned (.bool false) ∧ w = w') := fun w => s_In 0 1 1024 w
    go_enter Try.func130, Try.ntmps130
    go_wp2_with (go_at_call 59; refine (HI.out _).mono ?_; rintro e w' ⟨rfl, rfl⟩)
    go_ret
    exact ⟨ret_b HZ.out.symm, rfl⟩
  clear hs hk
  unfold maxLen at hm
  obtain ⟨z, hz⟩ : ∃ z, z = okRing n k := ⟨_, rfl⟩
  rw [← hz]
  unfold okRing at hz
  by_cases h1 : 1 ≤ (n : Int) <;> by_cases h2 : (n : Int) ≤ 1024
  all_goals first | (exfalso; omega) | skip
  all_goals
    simp only [h1, h2, decide_true, decide_false, Bool.and_true, Bool.and_false, Bool.true_and, Bool.false_and] at hz
    have HZ := hid hz
    clear hz
    go_enter Try.func130, Try.ntmps130
    go_wp2_with (go_at_call 59; refine (s_In _ _ _ _).mono ?_; rintro e w' ⟨rfl, rfl⟩)
    go_ret
    refine ⟨ret_b ?_, rfl⟩
    first | (rw [HZ.out]; done) | (rw [HZ.out]; congr 1; exact decide_eq_decide.2 (by omega))
set_option maxHeartbeats 1000000 in
theorem i_EqualFuncR (B B' : Nat) (s s' : Value) (x x' : Nat → Nat) (n n' : Nat) (w : World) (hs : RdS w B s x n) (hs' : RdS w B' s' x' n') :
    Calls Try.prog 118 #[s, s', .func (.func 119) #[] #[]] w fun e w' => e = .returned (.bool (sameS x x' n n')) ∧ w = w' := by
  by_cases hne : n = n'
  · subst hne
    rw [sameS_eq]
    by_cases h0 : n = 0
    · subst h0
      rcases hs.form with ⟨rfl, _⟩ | ⟨a, cap, rfl, hc, hm⟩ <;> rcases hs'.form with ⟨rfl, _⟩ | ⟨a', cap', rfl, hc', hm'⟩
      all_goals
        clear hs hs'
        go_enter Try.func118, Try.ntmps118
        go_wp2
        go_loop [17] (fun i => i = .int .i64 0) (fun _ => 0)
        case atStart => rfl
        case round =>
          obtain rfl := hrel
          go_wp2
          go_ret
          exact ⟨rfl, rfl⟩
    obtain ⟨a, cap, y, rfl, hc, hm, hx⟩ := hs.raw (by omega)
    obtain ⟨a', cap', y', rfl, hc', hm', hx'⟩ := hs'.raw (by omega)
    have Hc := hid (fun i hi => (hx i hi).1); have Hc' := hid (fun i hi => (hx' i hi).1)
    have Hs : Hid (∀ i, i < n → sameB (y i) (y' i) = sameB (x i) (x' i)) := fun i hi => by rw [← (hx i hi).2.2, ← (hx' i hi).2.2, sameB_can]
    clear hx hx' hs hs' h0
    unfold maxLen at hm hm'
    go_enter Try.func118, Try.ntmps118
    go_wp2
    go_loop [17] (fun i => ∃ k : Nat, k ≤ n ∧ i = .int .i64 k ∧ Hid (∀ i, i < k → sameB (x i) (x' i) = true)) (fun i => n - (intOf i).toNat)
    case atStart => exact ⟨0, by omega, rfl, fun i hi => absurd hi (by omega)⟩
    case round =>
      obtain ⟨k, hk, rfl, HK⟩ := hrel
      by_cases hlt : k < n
      · have ck := Hc.out k hlt
        have ck' := Hc'.out k hlt
        have HE := hid (Hs.out k hlt)
        cases hb : sameB (y k) (y' k)
        · go_wp2_with (go_at_call 119; refine (i_SameSample _ _ _).mono ?_; rintro e w' ⟨rfl, rfl⟩)
          go_ret
          exact ⟨ret_b (eqRow_no hlt (HE.out.symm.trans hb)).symm, rfl⟩
        · go_wp2_with (go_at_call 119; refine (i_SameSample _ _ _).mono ?_; rintro e w' ⟨rfl, rfl⟩)
          go_round
          case rel => exact ⟨k + 1, by omega, by go_num, all_step (p := fun j => sameB (x j) (x' j) = true) HK.out (HE.out.symm.trans hb)⟩
          case measure => simp [intOf]; omega
      · obtain rfl : k = n := by omega
        go_wp2
        go_ret
        exact ⟨ret_b (eqRow_yes HK.out).symm, rfl⟩
  · rw [sameS_ne hne]
    have hne' : ¬ (n : Int) = (n' : Int) := by omega
    rcases hs.form with ⟨rfl, rfl⟩ | ⟨a, cap, rfl, hc, hm⟩ <;> rcases hs'.form with ⟨rfl, rfl⟩ | ⟨a', cap', rfl, hc', hm'⟩
    all_goals first | exact absurd rfl hne | skip
    all_goals
      clear hs hs'
      try unfold maxLen at hm
      try unfold maxLen at hm'
      go_enter Try.func118, Try.ntmps118
      go_wp2
      go_ret
      exact ⟨rfl, rfl⟩
theorem i_SameRingR (B B' : Nat) (s s' : Value) (x x' : Nat → Nat) (n n' : Nat) (k k' : Int) (w : World) (hs : RdS w B s x n) (hs' : RdS w B' s' x' n') :
    Calls Try.prog 123 #[.agg #[s, .int .i64 k], .agg #[s', .int .i64 k']] w fun e w' => e = .returned (.bool ((k == k') && sameS x x' n n')) ∧ le w w' := by
  have F := ((Frg.nil w).box 36 #[s, .int .i64 k]).box 36 #[s', .int .i64 k']
  have HL := hid F.below
  have HS := hid (hs.le F.below); have HS' := hid (hs'.le F.below)
  clear hs hs' F
  cases hk : (k == k')
  all_goals
    go_enter Try.func123, Try.ntmps123
    go_wp2_with (go_at_call 118; refine (i_EqualFuncR B B' s s' x x' n n' _ HS.out HS'.out).mono ?_; rintro e w' ⟨rfl, rfl⟩)
    go_ret
    exact ⟨ret_b (by first | rfl | simp), HL.out⟩
theorem infoRingL : (Try.prog.info? 55).map (·.size) = some 2 := by kernel_rfl
end Go.Proofs.Ytkjgcfmfejjdkaa

/- Laws for operations that are guarded and wanted. Nothing here names a program. -/
namespace Go.Fk
open Go Go.RowKit
section
variable {P : Program} {w : World} {ops : Array Oper} {rest : List Oper} {o : Oper} {a : Act} {Q : Exit → Act → World → Prop}
theorem wpList_wanted (hw : Region.wanted o (yielded ops a.tmps) = true) (h : ∀ K : Act → World → Prop, (∀ a w, wpList P ops Q rest a w → K a w) → o.wp P a w K Q) : wpList P ops Q (o :: rest) a w :=
  wpList_step fun K hK => by simp only [hw, if_true]; exact h K hK
theorem wpList_widenG {src dst : TypeId} {x : Operand} (hop : o.op = Op.convert src dst x) {b : Nat} (hx : a.eval x = .float .f32 b)
    (hs : P.underlying src = some (.float .f32)) (hd : P.underlying dst = some (.float .f64)) (hw : Region.wanted o (yielded ops a.tmps) = true)
    (hK : ∀ r n, Hid (can .f64 r = can .f64 (widen b)) → Hid (fits .f64 r) → wpList P ops Q rest (a.put o.dst (.float .f64 r)) (w.drewN n)) : wpList P ops Q (o :: rest) a w := by
  refine wpList_wanted hw fun K hK' => ?_
  obtain ⟨r, n, hrun, hr, hf⟩ := run_widen (P := P) w src dst b hs hd
  unfold Oper.wp
  simp [execOp, hop, hx, hrun, Result.andThen]
  exact hK' _ _ (hK r n hr hf)
end
end Go.Fk

/- The smaller of two floats, up to the bits of NaN. Nothing here names a program. -/
namespace Go.Fk
open Go Go.RowKit
/-- The smaller one. -/
def fmin (k : FloatKind) (x y : Nat) : Nat := match k.format.order x y with
  | none => qnan k
  | some .lt => x
  | some .gt => y
  | some .eq => if (k.decode x).neg then x else y
theorem nan_minmax (k : FloatKind) (b : Bool) (x y t : Nat) : isNan k (Question.cut (.nanMinMax k b x y) t) = true ∧ fits k (Question.cut (.nanMinMax k b x y) t) := by
  have := nan_bits k x y t
  cases k <;> exact this
section
variable {P : Program}
theorem run_min2 (k : FloatKind) (x y : Nat) (hx : fits k x) (hy : fits k y) (w : World) : ∃ r n, (Builtin.min2 (.float k x) (.float k y)).run P w = .ok (.float k r) (w.drewN n) ∧ Hid (can k r = can k (fmin k x y)) ∧ Hid (fits k r) := by
  cases h : k.format.order x y with
  | none =>
    refine ⟨(Question.nanMinMax k false x y).cut (w.tape w.drawn (.nanMinMax k false x y)), 1, ?_, ?_, (nan_minmax k false x y _).2⟩
    · simp [Builtin.min2, h, Question.forced]; rfl
    · show can k _ = can k _
      rw [can_of_nan (nan_minmax k false x y _).1]; simp only [fmin, h]; exact (can_qnan k).symm
  | some o =>
    cases o with
    | lt => exact ⟨x, 0, by simp [Builtin.min2, h]; rfl, by show can k _ = can k _; simp only [fmin, h], hx⟩
    | gt => exact ⟨y, 0, by simp [Builtin.min2, h]; rfl, by show can k _ = can k _; simp only [fmin, h], hy⟩
    | eq =>
      refine ⟨if (k.decode x).neg then x else y, 0, by simp [Builtin.min2, h]; rfl, by show can k _ = can k _; simp only [fmin, h], ?_⟩
      show fits k _
      split
      · exact hx
      · exact hy
theorem wpList_min {w : World} {ops : Array Oper} {rest : List Oper} {o : Oper} {a : Act} {Q : Exit → Act → World → Prop}
    (hg : o.guard = none) {x y : Operand} {ts : Array TypeId} (hop : o.op = Op.call { callee := Callee.builtin Builtin.min, args := #[x, y], argTypes := ts })
    {k : FloatKind} {p q : Nat} (hx : a.eval x = .float k p) (hy : a.eval y = .float k q) (fp : fits k p) (fq : fits k q)
    (hK : ∀ r n, Hid (can k r = can k (fmin k p q)) → Hid (fits k r) → wpList P ops Q rest (a.put o.dst (.float k r)) (w.drewN n)) : wpList P ops Q (o :: rest) a w := by
  refine wpList_plain hg fun K hK' => ?_
  obtain ⟨r, n, hrun, hr, hf⟩ := run_min2 (P := P) k p q fp fq w
  unfold Oper.wp
  simp [execOp, hop, hx, hy, Result.andThen, resolve, invoke, builtin, Builtin.min_, hrun]
  exact hK' _ _ (hK r n hr hf)
/-- An element of an array value. -/
theorem run_index_arrG (w : World) {t e : TypeId} {n k : Nat} {cs : Array Value} {v : Value} (h : P.underlying t = some (.array n e)) (ha : ∀ w, (isAgg e).run P w = .ok false w) (hs : (P.info? e).map (·.size) = some 1)
    (hk : k < n) (hc : cs[k]? = some v) (kk : IntKind) : (Instr.index t (.agg cs) (.int kk (k : Int))).run P w = .ok v w := by
  cases hq : P.info? e with
  | none => simp [hq] at hs
  | some i =>
    have hsz : i.size = 1 := by simpa [hq] using hs
    have h2 : (k : Int) < n := by omega
    simp [Instr.index, asIntOf, run_underlying h, sizeOf, typeInfo, hq, hsz, part, ha, h2, hc]
    exact fun h => by omega
theorem wpList_indexArr {w : World} {ops : Array Oper} {rest : List Oper} {o : Oper} {a : Act} {Q : Exit → Act → World → Prop}
    (hg : o.guard = none) {t : TypeId} {x y : Operand} (hop : o.op = .index t x y) {cs : Array Value} {kk : IntKind} {k : Nat} (hx : a.eval x = .agg cs) (hy : a.eval y = .int kk (k : Int)) {n : Nat} {e : TypeId} (hu : P.underlying t = some (.array n e)) (hs : (P.info? e).map (·.size) = some 1) (ha : ∀ w, (isAgg e).run P w = .ok false w) (hk : k < n) {v : Value} (hc : cs[k]? = some v)
    (h : wpList P ops Q rest (a.put o.dst v) w) : wpList P ops Q (o :: rest) a w := by
  refine wpList_plain hg fun K hK' => ?_
  unfold Oper.wp
  have := run_index_arrG (P := P) w hu ha hs hk hc kk
  simp [execOp, hop, hx, hy, this, Result.andThen]
  exact hK' _ _ h
end
end Go.Fk

/- Exactness: what a format has is written as it stands. Nothing here names a program. -/
namespace Go.Fk
open Go Go.RowKit

theorem cut_zero (s : Bool) (n : Nat) : Ieee.Toward.even.cut s n 0 = n := by
  simp [Ieee.Toward.cut, Nat.mod_one]

/-- What is cut off leaves nothing behind: the quotient. -/
theorem cut_exact (s : Bool) (n d : Nat) : Ieee.Toward.even.cut s (n * 2 ^ d) d = n := by
  by_cases hn : n = 0
  · subst hn
    have hp := Nat.two_pow_pos (min d (Nat.log2 0 + 2))
    simp only [Ieee.Toward.cut, Nat.zero_mul, Nat.one_shiftLeft, Nat.zero_div, Nat.zero_mod]
    simp
  · have h0 : n * 2 ^ d ≠ 0 := Nat.mul_ne_zero hn (Nat.ne_of_gt (Nat.two_pow_pos d))
    have hd : d ≤ (n * 2 ^ d).log2 := by
      refine (Nat.le_log2 h0).2 ?_
      exact Nat.le_mul_of_pos_left _ (by omega)
    have hp := Nat.two_pow_pos d
    simp only [Ieee.Toward.cut, Nat.one_shiftLeft]
    rw [Nat.min_eq_left (by omega), Nat.mul_div_cancel _ hp, Nat.mul_mod_left]
    simp

theorem cut_scale (s : Bool) (n d j : Nat) (hn : n ≠ 0) : Ieee.Toward.even.cut s (n * 2 ^ j) (d + j) = Ieee.Toward.even.cut s n d := by
  have hl : (n * 2 ^ j).log2 = n.log2 + j := by
    have h0 : n * 2 ^ j ≠ 0 := Nat.mul_ne_zero hn (Nat.ne_of_gt (Nat.two_pow_pos j))
    refine (Nat.log2_eq_iff h0).2 ⟨?_, ?_⟩
    · rw [Nat.pow_add]; exact Nat.mul_le_mul_right _ (Nat.log2_self_le hn)
    · rw [show n.log2 + j + 1 = (n.log2 + 1) + j by omega, Nat.pow_add]
      exact Nat.mul_lt_mul_of_pos_right Nat.lt_log2_self (Nat.two_pow_pos j)
  have hp := Nat.two_pow_pos j
  simp only [Ieee.Toward.cut, Nat.one_shiftLeft, hl]
  rw [show min (d + j) (n.log2 + j + 2) = min d (n.log2 + 2) + j by omega, Nat.pow_add, Nat.mul_div_mul_right _ _ hp, Nat.mul_mod_mul_right]
  generalize 2 ^ min d (n.log2 + 2) = g
  have e1 : decide (g * 2 ^ j < 2 * (n % g * 2 ^ j)) = decide (g < 2 * (n % g)) := by
    rw [← Nat.mul_assoc]
    exact decide_eq_decide.2 (Nat.mul_lt_mul_right hp)
  have e2 : (g * 2 ^ j == 2 * (n % g * 2 ^ j)) = (g == 2 * (n % g)) := by
    rw [← Nat.mul_assoc, Bool.eq_iff_iff, beq_iff_eq, beq_iff_eq]
    exact Nat.mul_left_inj (by omega)
  rw [e1, e2]

theorem log2_scale {n : Nat} (hn : n ≠ 0) (j : Nat) : (n * 2 ^ j).log2 = n.log2 + j := by
  have h0 : n * 2 ^ j ≠ 0 := Nat.mul_ne_zero hn (Nat.ne_of_gt (Nat.two_pow_pos j))
  refine (Nat.log2_eq_iff h0).2 ⟨?_, ?_⟩
  · rw [Nat.pow_add]; exact Nat.mul_le_mul_right _ (Nat.log2_self_le hn)
  · rw [show n.log2 + j + 1 = (n.log2 + 1) + j by omega, Nat.pow_add]
    exact Nat.mul_lt_mul_of_pos_right Nat.lt_log2_self (Nat.two_pow_pos j)

/-- What is written speaks of the number alone, not of how it is split. -/
theorem nearest_scale (f : Ieee.Format) (s : Bool) (m j : Nat) (e : Int) : f.nearest s (m * 2 ^ j) (e - j) = f.nearest s m e := by
  by_cases hm : m = 0
  · subst hm; simp [Ieee.Format.nearest]
  have h0 : m * 2 ^ j ≠ 0 := Nat.mul_ne_zero hm (Nat.ne_of_gt (Nat.two_pow_pos j))
  unfold Ieee.Format.nearest
  rw [if_neg hm, if_neg h0, log2_scale hm]
  rw [show e - (j : Int) + ((m.log2 + j : Nat) : Int) - f.fractionBits = e + m.log2 - f.fractionBits by omega]
  generalize max (e + (m.log2 : Int) - f.fractionBits) f.leastPlace = last
  dsimp only
  congr 3
  simp only [Nat.shiftLeft_eq]
  by_cases h1 : e ≤ last
  · rw [show (e - (j : Int) - last).toNat = 0 by omega, show (e - last).toNat = 0 by omega, show (last - (e - (j : Int))).toNat = (last - e).toNat + j by omega]
    simpa using cut_scale s m _ j hm
  · by_cases h2 : last ≤ e - j
    · rw [show (last - (e - (j : Int))).toNat = 0 by omega, show (last - e).toNat = 0 by omega, cut_zero, cut_zero, Nat.mul_assoc, ← Nat.pow_add,
        show j + (e - (j : Int) - last).toNat = (e - last).toNat by omega]
    · rw [show (e - (j : Int) - last).toNat = 0 by omega, show (last - e).toNat = 0 by omega, cut_zero, Nat.pow_zero, Nat.mul_one,
        show j = (e - last).toNat + (last - (e - (j : Int))).toNat by omega, Nat.pow_add, ← Nat.mul_assoc]
      rw [show (last - (e - (((e - last).toNat + (last - (e - (j : Int))).toNat : Nat) : Int))).toNat = (last - (e - (j : Int))).toNat by omega]
      exact cut_exact s _ _

/-- The place of the last digit that is kept. -/
def lastOf (f : Ieee.Format) (m : Nat) (e : Int) : Int := max (e + m.log2 - f.fractionBits) f.leastPlace

/-- A number that the format has is read as it was written, shifted to the format's own place. -/
theorem read_nearest (f : Ieee.Format) (s : Bool) (m : Nat) (e : Int) (hm : m ≠ 0) (hp : m.log2 ≤ f.fractionBits) (he : f.leastPlace ≤ e)
    (ho : e + m.log2 - f.fractionBits ≤ f.leastPlace + 2 ^ f.exponentBits - 3) (hx : 2 ≤ f.exponentBits) :
    f.read (f.nearest s m e) = .number s (m * 2 ^ (e - lastOf f m e).toNat) (lastOf f m e) ∧ f.nearest s m e % f.signWeight < f.infRung := by
  have hx4 : (4 : Int) ≤ 2 ^ f.exponentBits := by
    have h : 2 ^ 2 ≤ 2 ^ f.exponentBits := Nat.pow_le_pow_right (by omega) hx
    exact_mod_cast h
  have hb : f.binade = 2 ^ f.fractionBits := rfl
  have hbp : 0 < f.binade := by rw [hb]; exact Nat.two_pow_pos _
  have hl1 : lastOf f m e ≤ e := by unfold lastOf; omega
  have hl2 : f.leastPlace ≤ lastOf f m e := by unfold lastOf; omega
  have hl3 : lastOf f m e ≤ f.leastPlace + 2 ^ f.exponentBits - 3 := by unfold lastOf; omega
  have hlog : (m * 2 ^ (e - lastOf f m e).toNat).log2 = m.log2 + (e - lastOf f m e).toNat := log2_scale hm _
  have hM0 : m * 2 ^ (e - lastOf f m e).toNat ≠ 0 := Nat.mul_ne_zero hm (Nat.ne_of_gt (Nat.two_pow_pos _))
  have hM : m * 2 ^ (e - lastOf f m e).toNat < 2 * f.binade := by
    have h1 : m.log2 + (e - lastOf f m e).toNat ≤ f.fractionBits := by unfold lastOf; omega
    have := @Nat.lt_log2_self (m * 2 ^ (e - lastOf f m e).toNat)
    rw [hlog] at this
    calc _ < _ := this
      _ ≤ 2 ^ (f.fractionBits + 1) := Nat.pow_le_pow_right (by omega) (by omega)
      _ = 2 * f.binade := by rw [Nat.pow_succ, ← hb]; omega
  have hfull : f.leastPlace < lastOf f m e → f.binade ≤ m * 2 ^ (e - lastOf f m e).toNat := by
    intro h
    have h1 : m.log2 + (e - lastOf f m e).toNat = f.fractionBits := by unfold lastOf at h ⊢; omega
    have := Nat.log2_self_le hM0
    rw [hlog, h1, ← hb] at this
    exact this
  have hn : f.nearest s m e = f.word s (min ((lastOf f m e - f.leastPlace).toNat * f.binade + m * 2 ^ (e - lastOf f m e).toNat) f.infRung) := by
    unfold Ieee.Format.nearest
    rw [if_neg hm]
    show f.word s (min ((lastOf f m e - f.leastPlace).toNat * f.binade + Ieee.Toward.even.cut s (m <<< (e - lastOf f m e).toNat) (lastOf f m e - e).toNat) f.infRung) = _
    rw [show (lastOf f m e - e).toNat = 0 by omega, cut_zero, Nat.shiftLeft_eq]
  generalize hM' : m * 2 ^ (e - lastOf f m e).toNat = M at *
  generalize hq : (lastOf f m e - f.leastPlace).toNat = q at *
  have hq2 : q + 3 ≤ 2 ^ f.exponentBits := by
    have : (q : Int) + 3 ≤ ((2 ^ f.exponentBits : Nat) : Int) := by push_cast; omega
    exact_mod_cast this
  have hr : q * f.binade + M < f.infRung := by
    unfold Ieee.Format.infRung
    have h1 : (q + 2) * f.binade ≤ (2 ^ f.exponentBits - 1) * f.binade := Nat.mul_le_mul_right _ (by omega)
    rw [Nat.add_mul] at h1
    omega
  have hs : f.infRung < f.signWeight := Ieee.Format.infRung_lt _
  rw [Nat.min_eq_left (Nat.le_of_lt hr)] at hn
  rw [hn]
  have hmod := word_mod f s (r := q * f.binade + M) (by omega)
  refine ⟨?_, by rw [hmod]; exact hr⟩
  have hsg : (f.word s (q * f.binade + M) / f.signWeight % 2 == 1) = s := by
    unfold Ieee.Format.word
    cases s
    · simp [Nat.div_eq_of_lt (show q * f.binade + M < f.signWeight by omega)]
    · simp [Nat.add_div_left _ (show 0 < f.signWeight by omega), Nat.div_eq_of_lt (show q * f.binade + M < f.signWeight by omega)]
  unfold Ieee.Format.read
  simp only [hmod, hsg]
  by_cases hsub : q * f.binade + M < f.binade
  · rw [if_pos hsub]
    have hq0 : q = 0 := by
      apply Nat.eq_zero_of_not_pos
      intro h
      have : 1 * f.binade ≤ q * f.binade := Nat.mul_le_mul_right _ h
      omega
    rw [hq0]
    congr 1
    · simp
    · omega
  · rw [if_neg hsub, if_pos hr]
    have hMb : f.binade ≤ M := by
      by_cases h : f.leastPlace < lastOf f m e
      · exact hfull h
      · have : q = 0 := by omega
        rw [this] at hsub; omega
    have e1 : (q * f.binade + M) % f.binade = M - f.binade := by
      rw [Nat.mul_add_mod_self_right, Nat.mod_eq_sub_mod hMb, Nat.mod_eq_of_lt (by omega)]
    have e2 : (q * f.binade + M) / f.binade = q + 1 := by
      rw [Nat.mul_comm, Nat.mul_add_div hbp]
      congr 1
      rw [show M = f.binade + (M - f.binade) by omega, Nat.add_div_left _ hbp, Nat.div_eq_of_lt (by omega)]
    rw [e1, e2]
    congr 1
    · omega
    · omega

/-- What is read is written back. -/
theorem write_read (f : Ieee.Format) (hx : 2 ≤ f.exponentBits) (b : Nat) {s : Bool} {m : Nat} {e : Int} (h : f.read b = .number s m e) : f.nearest s m e = f.word s (b % f.signWeight) := by
  have hb : f.binade = 2 ^ f.fractionBits := rfl
  have hbp : 0 < f.binade := by rw [hb]; exact Nat.two_pow_pos _
  have hx4 : 4 ≤ 2 ^ f.exponentBits := Nat.pow_le_pow_right (n := 2) (by omega) hx
  have hinf : f.binade ≤ f.infRung := by
    unfold Ieee.Format.infRung
    exact Nat.le_mul_of_pos_left _ (by omega)
  unfold Ieee.Format.read at h
  dsimp only at h
  generalize b % f.signWeight = r at *
  split at h
  · rename_i h1
    simp only [Ieee.Datum.number.injEq] at h
    obtain ⟨_, rfl, rfl⟩ := h
    by_cases h0 : r = 0
    · subst h0; simp [Ieee.Format.nearest]
    · unfold Ieee.Format.nearest
      rw [if_neg h0]
      have h2 := h1
      rw [hb] at h2
      have := (Nat.log2_lt h0).2 h2
      rw [show max (f.leastPlace + (r.log2 : Int) - f.fractionBits) f.leastPlace = f.leastPlace by omega]
      simp only [Int.sub_self, Int.toNat_zero, Nat.shiftLeft_zero, cut_zero, Nat.zero_mul, Nat.zero_add]
      rw [Nat.min_eq_left (by omega)]
  · rename_i h1
    split at h
    · rename_i h2
      simp only [Ieee.Datum.number.injEq] at h
      obtain ⟨_, rfl, rfl⟩ := h
      have hlt := Nat.mod_lt r hbp
      have h0 : f.binade + r % f.binade ≠ 0 := by omega
      have e1 : (f.binade + r % f.binade).log2 = f.fractionBits := by
        refine (Nat.log2_eq_iff h0).2 ⟨?_, ?_⟩
        · rw [← hb]; omega
        · rw [Nat.pow_succ, ← hb]; omega
      have h3 : 1 ≤ r / f.binade := (Nat.le_div_iff_mul_le hbp).2 (by omega)
      unfold Ieee.Format.nearest
      rw [if_neg h0, e1]
      rw [show max (f.leastPlace + ((r / f.binade - 1 : Nat) : Int) + (f.fractionBits : Int) - f.fractionBits) f.leastPlace = f.leastPlace + ((r / f.binade - 1 : Nat) : Int) by omega]
      simp only [Int.sub_self, Int.toNat_zero, Nat.shiftLeft_zero, cut_zero]
      rw [show (f.leastPlace + ((r / f.binade - 1 : Nat) : Int) - f.leastPlace).toNat = r / f.binade - 1 by omega]
      have h4 : (r / f.binade - 1) * f.binade + (f.binade + r % f.binade) = r := by
        have h5 := Nat.div_add_mod r f.binade
        have h6 : (r / f.binade - 1) * f.binade + f.binade = r / f.binade * f.binade := by
          rw [← Nat.succ_mul]; congr 1; omega
        rw [Nat.mul_comm] at h5
        omega
      rw [h4, Nat.min_eq_left (by omega)]
    · split at h <;> cases h

theorem bits32 : FloatKind.f32.format.exponentBits = 8 ∧ FloatKind.f32.format.fractionBits = 23 ∧ FloatKind.f32.format.leastPlace = -149 ∧ FloatKind.f32.format.signWeight = 2147483648 ∧ FloatKind.f32.format.infRung = 2139095040 := by decide
theorem bits64 : FloatKind.f64.format.exponentBits = 11 ∧ FloatKind.f64.format.fractionBits = 52 ∧ FloatKind.f64.format.leastPlace = -1074 ∧ FloatKind.f64.format.signWeight = 9223372036854775808 ∧ FloatKind.f64.format.infRung = 9218868437227405312 := by decide

/-- What a narrow number's datum is made of. -/
theorem read32 {b : Nat} {s : Bool} {m : Nat} {e : Int} (h : FloatKind.f32.format.read b = .number s m e) : -149 ≤ e ∧ (m ≠ 0 → m.log2 ≤ 23 ∧ e + m.log2 + 1 ≤ 128) := by
  refine ⟨?_, fun h0 => ⟨?_, lt32 h h0⟩⟩
  all_goals
    have e1 : Ieee.single.signWeight = 2147483648 := by decide
    have e2 : Ieee.single.infRung = 2139095040 := by decide
    have e3 : Ieee.single.binade = 8388608 := by decide
    have e4 : Ieee.single.leastPlace = -149 := by decide
    simp only [FloatKind.format, Ieee.Format.read, e1, e2, e3, e4] at h
    split at h
    · simp only [Ieee.Datum.number.injEq] at h
      obtain ⟨_, rfl, rfl⟩ := h
      first | omega | (have : (b % 2147483648).log2 < 23 := (Nat.log2_lt h0).2 (by omega)
                       omega)
    · split at h
      · simp only [Ieee.Datum.number.injEq] at h
        obtain ⟨_, rfl, rfl⟩ := h
        first | omega | (have : (8388608 + b % 2147483648 % 8388608).log2 < 24 := (Nat.log2_lt h0).2 (by omega)
                         omega)
      · split at h <;> cases h

/-- A narrow number is widened exactly. -/
theorem read_widen {b : Nat} {s : Bool} {m : Nat} {e : Int} (h : FloatKind.f32.format.read b = .number s m e) :
    ∃ j : Nat, ∃ e', FloatKind.f64.format.read (widen b) = .number s (m * 2 ^ j) e' ∧ (m ≠ 0 → e' = e - j) ∧ widen b % 9223372036854775808 < 9218868437227405312 := by
  obtain ⟨b1, b2, b3, b4, b5⟩ := bits64
  obtain ⟨h1, h2⟩ := read32 h
  have hw : widen b = FloatKind.f64.format.nearest s m e := by simp only [widen, h]; rfl
  rw [hw]
  by_cases hm : m = 0
  · subst hm
    refine ⟨0, -1074, ?_, fun h => absurd rfl h, ?_⟩
    · cases s <;> simp [Ieee.Format.nearest, Ieee.Format.word] <;> decide
    · cases s <;> simp [Ieee.Format.nearest, Ieee.Format.word] <;> decide
  · obtain ⟨h3, h4⟩ := h2 hm
    obtain ⟨h5, h6⟩ := read_nearest FloatKind.f64.format s m e hm (by omega) (by omega) (by rw [b1, b2, b3]; omega) (by omega)
    rw [b4, b5] at h6
    refine ⟨_, _, h5, fun _ => ?_, h6⟩
    have : lastOf FloatKind.f64.format m e ≤ e := by unfold lastOf; omega
    omega
end Go.Fk
namespace Go.Fk
open Go Go.RowKit
theorem read_mod {k : FloatKind} {b : Nat} {s : Bool} {m : Nat} {e : Int} (h : k.format.read b = .number s m e) : k.format.read (b % k.format.signWeight) = .number false m e := by
  have hs : 0 < k.format.signWeight := by unfold Ieee.Format.signWeight; exact Nat.two_pow_pos _
  have e1 : (b % k.format.signWeight / k.format.signWeight % 2 == 1) = false := by
    rw [Nat.div_eq_of_lt (Nat.mod_lt _ hs)]; rfl
  unfold Ieee.Format.read at h ⊢
  dsimp only at h ⊢
  rw [e1, Nat.mod_mod]
  generalize b % k.format.signWeight = r at *
  split
  · rename_i h1
    rw [if_pos h1] at h
    simp only [Ieee.Datum.number.injEq] at h ⊢
    exact ⟨trivial, h.2⟩
  · rename_i h1
    rw [if_neg h1] at h
    split
    · rename_i h2
      rw [if_pos h2] at h
      simp only [Ieee.Datum.number.injEq] at h ⊢
      exact ⟨trivial, h.2⟩
    · rename_i h2
      rw [if_neg h2] at h
      split at h <;> cases h

/-- May be narrowed: what the language fixes, whole range. -/
def narrowableX (b : Nat) : Prop := ∀ s m e, FloatKind.f64.format.read b = .number s m e → (FloatKind.f32.decode (FloatKind.f32.encode (.number s m e))).isInfinity = false

/-- The size of a narrow number, by way of the wide ones. -/
theorem narrow_abs {b w : Nat} (hw : can .f64 w = can .f64 (widen b)) : narrowableX (w % 9223372036854775808) ∧ can .f32 (narrow (w % 9223372036854775808)) = can .f32 (b % 2147483648) := by
  obtain ⟨a1, a2, a3, a4, a5⟩ := bits32
  obtain ⟨b1, b2, b3, b4, b5⟩ := bits64
  cases hr : FloatKind.f32.format.read b with
  | nan s t =>
    have hn : isNan .f32 b = true := by simp [isNan, hr, Ieee.Datum.isNaN]
    have hq : widen b = qnan .f64 := by simp only [widen, hr]
    have hwn : isNan .f64 w = true := by rw [isNan_of_can hw, hq]; exact isNan_qnan _
    have hm : isNan .f64 (w % 9223372036854775808) = true := by rw [isNan_f64] at hwn ⊢; rwa [Nat.mod_mod]
    have hm2 : isNan .f32 (b % 2147483648) = true := by rw [isNan_f32] at hn ⊢; rwa [Nat.mod_mod]
    obtain ⟨s', t', hr'⟩ := read_nan hm
    refine ⟨fun s1 m1 e1 h => (by rw [hr'] at h; cases h), ?_⟩
    rw [can_of_nan hm2]
    simp only [narrow, hr', can_qnan]
  | infinity s =>
    have hb : b % 2147483648 = 2139095040 := by
      have e1 : Ieee.single.signWeight = 2147483648 := by decide
      have e2 : Ieee.single.infRung = 2139095040 := by decide
      simp only [FloatKind.format, Ieee.Format.read, e1, e2] at hr
      split at hr
      · cases hr
      · split at hr
        · cases hr
        · split at hr
          · assumption
          · cases hr
    have hq : widen b = FloatKind.f64.encode (.infinity s) := by simp only [widen, hr]
    have hwq : w = FloatKind.f64.encode (.infinity s) := by
      rw [hq] at hw
      exact (eq_of_can hw.symm (by cases s <;> decide)).symm
    rw [hwq, hb]
    have e1 : FloatKind.f64.format.read (FloatKind.f64.encode (.infinity s) % 9223372036854775808) = .infinity false := by cases s <;> decide
    refine ⟨fun s1 m1 e1' h => (by rw [e1] at h; cases h), ?_⟩
    simp only [narrow, e1]
    decide
  | number s m e =>
    obtain ⟨j, e', h1, h2, h3⟩ := read_widen hr
    have hwq : w = widen b := by
      refine (eq_of_can hw.symm ?_).symm
      simp [isNan, h1, Ieee.Datum.isNaN]
    rw [hwq]
    have h4 := read_mod h1
    have h5 := read_mod hr
    rw [b4] at h4
    rw [a4] at h5
    have h6 : FloatKind.f32.format.nearest false (m * 2 ^ j) e' = b % 2147483648 := by
      have h7 := write_read FloatKind.f32.format (by omega) (b % 2147483648) h5
      rw [a4, Nat.mod_mod] at h7
      by_cases hm : m = 0
      · subst hm
        rw [Nat.zero_mul]
        exact (show FloatKind.f32.format.nearest false 0 e' = FloatKind.f32.format.nearest false 0 e by simp [Ieee.Format.nearest]).trans h7
      · rw [h2 hm, nearest_scale, h7]; rfl
    have h8 : FloatKind.f32.encode (.number false (m * 2 ^ j) e') = b % 2147483648 := h6
    refine ⟨fun s1 m1 e1 h => ?_, ?_⟩
    · rw [h4] at h
      cases h
      rw [h8]
      have : FloatKind.f32.decode (b % 2147483648) = .number false m e := h5
      rw [this]; rfl
    · have : narrow (widen b % 9223372036854775808) = FloatKind.f32.encode (.number false (m * 2 ^ j) e') := by simp only [narrow, h4]
      rw [this, h8]

section
variable {P : Program}
theorem run_narrowX (w : World) (src dst : TypeId) (b : Nat) (hs : P.underlying src = some (.float .f64)) (hd : P.underlying dst = some (.float .f32)) (hb : narrowableX b) :
    ∃ r n, (convert src dst (.float .f64 b)).run P w = .ok (.float .f32 r) (w.drewN n) ∧ can .f32 r = can .f32 (narrow b) ∧ fits .f32 r := by
  cases hr : FloatKind.f64.format.read b with
  | nan s t =>
    refine ⟨(Question.nanConv .f32 b).cut (w.tape w.drawn (.nanConv .f32 b)), 1, ?_, ?_, (nan_conv .f32 b _).2⟩
    · simp [convert, run_underlying hs, run_underlying hd, Conv.floatToFloat, FloatKind.decode, hr, Question.forced]; rfl
    · rw [can_of_nan (nan_conv .f32 b _).1]; simp only [narrow, hr, can_qnan]
  | infinity s =>
    refine ⟨FloatKind.f32.encode (.infinity s), 0, ?_, by simp only [narrow, hr], encode_wf _ _⟩
    simp [convert, run_underlying hs, run_underlying hd, Conv.floatToFloat, FloatKind.decode, hr]; rfl
  | number s m e =>
    refine ⟨FloatKind.f32.encode (.number s m e), 0, ?_, by simp only [narrow, hr], encode_wf _ _⟩
    have h := hb s m e hr
    have hr' : FloatKind.f64.decode b = .number s m e := hr
    simp [convert, run_underlying hs, run_underlying hd, Conv.floatToFloat, hr', h]; rfl

variable {w : World} {ops : Array Oper} {rest : List Oper} {o : Oper} {a : Act} {Q : Exit → Act → World → Prop}
theorem wpList_narrowX (hg : o.guard = none) {src dst : TypeId} {x : Operand} (hop : o.op = Op.convert src dst x) {b : Nat} (hx : a.eval x = .float .f64 b)
    (hs : P.underlying src = some (.float .f64)) (hd : P.underlying dst = some (.float .f32)) (hb : narrowableX b)
    (hK : ∀ r n, Hid (can .f32 r = can .f32 (narrow b)) → Hid (fits .f32 r) → wpList P ops Q rest (a.put o.dst (.float .f32 r)) (w.drewN n)) : wpList P ops Q (o :: rest) a w := by
  refine wpList_plain hg fun K hK' => ?_
  obtain ⟨r, n, hrun, hr, hf⟩ := run_narrowX (P := P) w src dst b hs hd hb
  unfold Oper.wp
  simp [execOp, hop, hx, hrun, Result.andThen]
  exact hK' _ _ (hK r n hr hf)
end
end Go.Fk

/- What math.Float64bits, math.Float64frombits and math.Abs give. -/
namespace Go.Fk
open Go Go.RowKit
theorem andNot_sign (x : Nat) (hx : fits .f64 x) : (bits .andNot .u64 (x : Int) 9223372036854775808).toNat = x % 9223372036854775808 := by
  have h : x < 18446744073709551616 := by simp only [fits, Lit.wf, decide_eq_true_eq] at hx; omega
  have h1 := u64_andNot_nat x 9223372036854775808 (by omega) (by omega)
  rw [show ((9223372036854775808 : Nat) : Int) = 9223372036854775808 by rfl] at h1
  rw [h1, Int.toNat_natCast]
  exact Nat.and_two_pow_sub_one_eq_mod x 63
end Go.Fk
namespace Go.Proofs.Ytkjgcfmfejjdkaa
open Go.RowKit Go.Fk
@[go_sem] theorem run_f64bits (x : Nat) (w : World) : (callFunc 126 #[.float .f64 x]).run Try.prog w = .ok (.value (.int .u64 x)) w := by
  rw [run_callFunc_extern (e := Extern.MathFloatBits.float64bits) Try.func126 (by kernel_rfl) (by kernel_rfl) (by kernel_rfl) (by kernel_rfl)]; rfl
@[go_sem] theorem run_f64from (x : Int) (w : World) : (callFunc 125 #[.int .u64 x]).run Try.prog w = .ok (.value (.float .f64 x.toNat)) w := by
  rw [run_callFunc_extern (e := Extern.MathFloatBits.float64frombits) Try.func125 (by kernel_rfl) (by kernel_rfl) (by kernel_rfl) (by kernel_rfl)]; rfl
theorem abs64 (x : Nat) (w : World) (hx : fits .f64 x) : Calls Try.prog 91 #[.float .f64 x] w fun e w' => e = .returned (.float .f64 (x % 9223372036854775808)) ∧ w = w' := by
  have hn := andNot_sign x hx
  go_enter Try.func91, Try.ntmps91
  go_wp2
  go_ret
  exact ⟨rfl, rfl⟩
end Go.Proofs.Ytkjgcfmfejjdkaa

/- 'FrictionAt' of both. -/
namespace Go.Fk
open Go Go.RowKit
/-- A difference of speeds on the way to its friction: the parts of it, up to the bits of NaN. -/
def fr1 (p : Nat) : Nat := fop .add .f32 (p % 2147483648) 1061158912
theorem fits_one : fits .f32 1065353216 := by simp [fits, Lit.wf]
def frSq (a : Nat) : Nat := fop .mul .f32 a a
def fr4 (a : Nat) : Nat := can .f32 (fmin .f32 (fop .quo .f32 1065353216 a) 1065353216)
def friV (s d : Nat) : Nat := fr4 (frSq (frSq (fr1 (fop .mul .f32 s d))))
theorem mod_congr {a b : Nat} (h : can .f32 a = can .f32 b) : can .f32 (a % 2147483648) = can .f32 (b % 2147483648) := by
  cases hn : isNan .f32 a
  · rw [eq_of_can h hn]
  · have hm := (isNan_of_can h).symm.trans hn
    have h1 : isNan .f32 (a % 2147483648) = true := by rw [isNan_f32] at hn ⊢; rwa [Nat.mod_mod]
    have h2 : isNan .f32 (b % 2147483648) = true := by rw [isNan_f32] at hm ⊢; rwa [Nat.mod_mod]
    rw [can_of_nan h1, can_of_nan h2]
theorem fr1_congr {a b : Nat} (h : can .f32 a = can .f32 b) : fr1 a = fr1 b := fop_congr (mod_congr h) rfl
theorem frSq_congr {a b : Nat} (h : can .f32 a = can .f32 b) : frSq a = frSq b := fop_congr h h
theorem fmin_congr {a b c : Nat} (h : can .f32 a = can .f32 b) : can .f32 (fmin .f32 a c) = can .f32 (fmin .f32 b c) := by
  cases hn : isNan .f32 a
  · rw [eq_of_can h hn]
  · have hm := (isNan_of_can h).symm.trans hn
    unfold fmin
    rw [order_of_nan_l hn, order_of_nan_l hm]
theorem fr4_congr {a b : Nat} (h : can .f32 a = can .f32 b) : fr4 a = fr4 b := by
  unfold fr4
  have e : fop .quo .f32 1065353216 a = fop .quo .f32 1065353216 b := fop_congr rfl h
  rw [e]
theorem fr_can (op : BinOp) (k : FloatKind) (x y : Nat) : can k (fop op k x y) = fop op k x y := can_fop _ _ _ _
/-- A word that is equal to 1 is 1. -/
theorem one_of_eq {x : Nat} (hf : fits .f32 x) (h : FloatKind.f32.format.order x 1065353216 = some .eq) : x = 1065353216 := by
  have hx : isNan .f32 x = false := by
    cases hn : isNan .f32 x
    · rfl
    · rw [order_of_nan_l hn] at h; cases h
  rw [order_val hx (by decide)] at h
  have hv : val .f32 x = val .f32 1065353216 := Int.compare_eq_eq.1 (by simpa using h)
  have h1 : val .f32 1065353216 = 2 ^ 149 := by decide +kernel
  have hsm := val_small (k := .f32) (b := 1065353216) (s := false) (m := 8388608) (e := -23) (by decide)
  rw [h1] at hv hsm
  have x0 := fits32 hf
  unfold val at hv
  cases hr : FloatKind.f32.format.read x with
  | nan s t => rw [hr] at hv; simp only at hv; exact absurd hv.symm (by decide)
  | infinity s =>
    rw [hr] at hv
    simp only at hv
    have hp : (0 : Int) < 2 ^ 149 := by decide
    generalize (far : Int) = F at *
    generalize (2 : Int) ^ 149 = G at *
    cases s <;> simp at hv <;> omega
  | number s m e =>
    rw [hr] at hv
    simp only at hv
    rw [signed_eq] at hv
    have hp := read_place hr
    have e1 : Ieee.single.signWeight = 2147483648 := by decide
    have e2 : Ieee.single.infRung = 2139095040 := by decide
    have e3 : Ieee.single.binade = 8388608 := by decide
    have e4 : Ieee.single.leastPlace = -149 := by decide
    simp only [FloatKind.format, Ieee.Format.read, e1, e2, e3, e4] at hr
    have hs : s = false ∧ ((m * 2 ^ (e + (unitOf .f32 : Int)).toNat : Nat) : Int) = 2 ^ 149 := by
      cases s
      · refine ⟨rfl, ?_⟩
        push_cast; simpa using hv
      · exfalso
        simp only [if_true] at hv
        have hnn : (0 : Int) ≤ ((m * 2 ^ (e + (unitOf .f32 : Int)).toNat : Nat) : Int) := Int.natCast_nonneg _
        push_cast at hnn
        rw [Int.neg_mul] at hv
        have hp2 : (0 : Int) < 2 ^ 149 := by decide
        omega
    obtain ⟨rfl, hm⟩ := hs
    have hm2 : m * 2 ^ (e + (unitOf .f32 : Int)).toNat = 2 ^ 149 := by exact_mod_cast hm
    clear hv hm h1 hsm hp h hx
    split at hr
    · rename_i h2
      have h2' : x % 2147483648 < 8388608 := by simpa using h2
      simp only [Ieee.Datum.number.injEq] at hr
      obtain ⟨_, rfl, rfl⟩ := hr
      exfalso
      have : x % 2147483648 * 2 ^ ((-149 : Int) + (unitOf .f32 : Int)).toNat = x % 2147483648 := by
        show _ * 2 ^ 0 = _; omega
      rw [this] at hm2
      have : (2 : Nat) ^ 149 > 8388608 := by decide
      omega
    · split at hr
      · simp only [Ieee.Datum.number.injEq] at hr
        obtain ⟨hs, rfl, rfl⟩ := hr
        have hj : ((-149 : Int) + ((x % 2147483648 / 8388608 - 1 : Nat) : Int) + (unitOf .f32 : Int)).toNat = x % 2147483648 / 8388608 - 1 := by
          show ((-149 : Int) + ((x % 2147483648 / 8388608 - 1 : Nat) : Int) + 149).toNat = _; omega
        rw [hj] at hm2
        generalize hJ : x % 2147483648 / 8388608 - 1 = j at hm2
        have hj1 : j = 126 := by
          by_cases a : j ≤ 125
          · exfalso
            have := Nat.pow_le_pow_right (show 0 < 2 by omega) a
            have h5 : (8388608 + x % 2147483648 % 8388608) * 2 ^ j < 16777216 * 2 ^ 125 := by
              calc (8388608 + x % 2147483648 % 8388608) * 2 ^ j ≤ 16777215 * 2 ^ 125 := Nat.mul_le_mul (by omega) this
                _ < 16777216 * 2 ^ 125 := by decide
            rw [hm2] at h5
            exact absurd h5 (by decide)
          · by_cases b : 127 ≤ j
            · exfalso
              have := Nat.pow_le_pow_right (show 0 < 2 by omega) b
              have h5 : 8388608 * 2 ^ 127 ≤ (8388608 + x % 2147483648 % 8388608) * 2 ^ j := Nat.mul_le_mul (by omega) this
              rw [hm2] at h5
              exact absurd h5 (by decide)
            · omega
        subst hj1
        have hmm : 8388608 + x % 2147483648 % 8388608 = 8388608 := Nat.eq_of_mul_eq_mul_right (show 0 < 2 ^ 126 by decide) (hm2.trans (by decide))
        have hs' : x / 2147483648 % 2 = 0 := by
          have : (x / 2147483648 % 2 == 1) = false := hs
          simp at this; omega
        omega
      · split at hr <;> cases hr
/-- What stands behind k of the four steps. -/
def frK (p : Nat) : Nat → Nat
  | 0 => can .f32 p
  | 1 => fr1 p
  | 2 => frSq (fr1 p)
  | 3 => frSq (frSq (fr1 p))
  | _ => fr4 (frSq (frSq (fr1 p)))
end Go.Fk
namespace Go.Proofs.Ytkjgcfmfejjdkaa
open Go.RowKit Go.Fk
theorem i_raised (p : Nat) (w : World) (hp : fits .f32 p) : Calls Try.prog 52 #[.float .f32 p] w fun e w' => ∃ r, e = .returned (.float .f32 r) ∧ can .f32 r = fr1 p ∧ fits .f32 r ∧ le w w' := by
  go_enter Try.func52, Try.ntmps52
  go_wp2_with (first | (with_reducible refine wpList_farith rfl rfl rfl rfl rfl ?_; intro r1 n1 hr1 hf1) | (with_reducible refine wpList_widen rfl rfl rfl Try.underlying75 Try.underlying25 ?_; intro s1 n1 h1 f1; have hwf := f1.out; have hna := hid (narrow_abs h1.out)) | (go_at_call 91; refine (abs64 _ _ hwf).mono ?_; rintro e w' ⟨rfl, rfl⟩) | (with_reducible refine wpList_narrowX rfl rfl rfl Try.underlying25 Try.underlying75 (by exact hna.out.1) ?_; intro q nq hq hqf))
  go_ret
  refine ⟨_, rfl, ?_, hf1.out, le_drewN _ _⟩
  rw [hr1.out]
  exact fop_congr (hq.out.trans hna.out.2) rfl
theorem i_squared (p : Nat) (w : World) : Calls Try.prog 53 #[.float .f32 p] w fun e w' => ∃ r, e = .returned (.float .f32 r) ∧ can .f32 r = frSq p ∧ fits .f32 r ∧ le w w' := by
  go_enter Try.func53, Try.ntmps53
  go_wp2_with (first | (with_reducible refine wpList_farith rfl rfl rfl rfl rfl ?_; intro r1 n1 hr1 hf1))
  go_ret
  exact ⟨_, rfl, hr1.out, hf1.out, le_drewN _ _⟩
theorem i_slipShare (p : Nat) (w : World) : Calls Try.prog 54 #[.float .f32 p] w fun e w' => ∃ r, e = .returned (.float .f32 r) ∧ can .f32 r = fr4 p ∧ fits .f32 r ∧ le w w' := by
  go_enter Try.func54, Try.ntmps54
  go_wp2_with (first | (with_reducible refine wpList_farith rfl rfl rfl rfl rfl ?_; intro r1 n1 hr1 hf1) | (with_reducible refine wpList_min rfl rfl rfl rfl hf1.out fits_one ?_; intro r2 n2 hr2 hf2))
  go_ret
  refine ⟨_, rfl, ?_, hf2.out, le_drewN _ _⟩
  rw [hr2.out]
  exact fmin_congr (hr1.out.trans (can_fop _ _ _ _).symm)
theorem slipOne : (Try.prog.info? 76).map (·.size) = some 1 := by kernel_rfl
theorem slipKind : ∀ w : World, (isAgg 76).run Try.prog w = .ok false w := fun w => by kernel_rfl
set_option maxRecDepth 100000 in
set_option maxHeartbeats 2000000 in
theorem i_FrictionAt (s d : Nat) (w : World) : Calls Try.prog 16 #[.float .f32 s, .float .f32 d] w (Out_f (friV s d) w) := by
  go_enter Try.func16, Try.ntmps16
  go_wp2_with (first | (with_reducible refine wpList_farith rfl rfl rfl rfl rfl ?_; intro r1 n1 hr1 hf1))
  have HL := hid (le_drewN w n1)
  have HF := hid hf1.out; have HR := hid hr1.out
  go_loopw [5, 12] (fun sv i wr => ∃ (k : Nat) (r : Nat), k ≤ 4 ∧ i = .int .i64 k ∧ sv = .float .f32 r ∧ Hid (can .f32 r = frK r1 k) ∧ Hid (fits .f32 r) ∧ Hid (le w wr)) (fun _ i _ => 4 - (intOf i).toNat)
  case atStart => exact ⟨0, _, by omega, rfl, rfl, rfl, HF.out, HL.out⟩
  case round =>
    obtain ⟨k, r, hk, rfl, rfl, HRk, HFk, HLk⟩ := hrel
    match k, hk with
    | 0, _ =>
      go_wp2_with (first | (refine wpList_indexArr rfl rfl (k := 0) rfl rfl Try.underlying78 slipOne slipKind (by decide) rfl ?_) | go_at_call 52; ((with_reducible refine (i_raised _ _ HFk.out).mono ?_); rintro e w2 ⟨q, rfl, hq, fq, hl⟩; have HQ := hid hq; have FQ := hid fq; have HL2 := hid (le_trans HLk.out hl); clear hq fq hl))
      go_roundw
      case rel => exact ⟨1, q, by omega, by go_num, rfl, HQ.out.trans (fr1_congr (show can .f32 r = can .f32 r1 from HRk.out)), FQ.out, HL2.out⟩
      case measure => simp [intOf]
    | 1, _ =>
      go_wp2_with (first | (refine wpList_indexArr rfl rfl (k := 1) rfl rfl Try.underlying78 slipOne slipKind (by decide) rfl ?_) | go_at_call 53; ((with_reducible refine (i_squared _ _).mono ?_); rintro e w2 ⟨q, rfl, hq, fq, hl⟩; have HQ := hid hq; have FQ := hid fq; have HL2 := hid (le_trans HLk.out hl); clear hq fq hl))
      go_roundw
      case rel => exact ⟨2, q, by omega, by go_num, rfl, HQ.out.trans (frSq_congr (HRk.out.trans (can_fop _ _ _ _).symm)), FQ.out, HL2.out⟩
      case measure => simp [intOf]
    | 2, _ =>
      go_wp2_with (first | (refine wpList_indexArr rfl rfl (k := 2) rfl rfl Try.underlying78 slipOne slipKind (by decide) rfl ?_) | go_at_call 53; ((with_reducible refine (i_squared _ _).mono ?_); rintro e w2 ⟨q, rfl, hq, fq, hl⟩; have HQ := hid hq; have FQ := hid fq; have HL2 := hid (le_trans HLk.out hl); clear hq fq hl))
      go_roundw
      case rel => exact ⟨3, q, by omega, by go_num, rfl, HQ.out.trans (frSq_congr (HRk.out.trans (can_fop _ _ _ _).symm)), FQ.out, HL2.out⟩
      case measure => simp [intOf]
    | 3, _ =>
      go_wp2_with (first | (refine wpList_indexArr rfl rfl (k := 3) rfl rfl Try.underlying78 slipOne slipKind (by decide) rfl ?_) | go_at_call 54; ((with_reducible refine (i_slipShare _ _).mono ?_); rintro e w2 ⟨q, rfl, hq, fq, hl⟩; have HQ := hid hq; have FQ := hid fq; have HL2 := hid (le_trans HLk.out hl); clear hq fq hl))
      go_roundw
      case rel => exact ⟨4, q, by omega, by go_num, rfl, HQ.out.trans (fr4_congr (HRk.out.trans (can_fop _ _ _ _).symm)), FQ.out, HL2.out⟩
      case measure => simp [intOf]
    | 4, _ =>
      go_wp2
      go_ret
      exact ⟨r, rfl, HRk.out.trans (by
        unfold friV
        show fr4 _ = _
        rw [fr1_congr (show can .f32 r1 = can .f32 (fop .mul .f32 s d) by rw [can_fop]; exact HR.out)]), HLk.out⟩
theorem s_l05Friction (s d : Nat) (w : World) : Calls Try.prog 51 #[.float .f32 s, .float .f32 d] w (Out_f (friV s d) w) := by
  go_enter Try.func51, Try.ntmps51
  go_wp2_with (first | (with_reducible refine wpList_farith (op := .mul) (p := s) (q := d) rfl rfl rfl rfl rfl ?_; intro r1 n1 hr1 hf1; have gf1 := hf1.out) | (go_at_call 90; refine (s_l01Abs _ _ gf1).mono ?_; rintro e w' ⟨rfl, rfl⟩) | (with_reducible refine wpList_farith (op := .add) rfl rfl rfl rfl rfl ?_; intro r2 n2 hr2 hf2) | (with_reducible refine wpList_farith (op := .mul) (p := r2) rfl rfl rfl rfl rfl ?_; intro r3 n3 hr3 hf3) | (with_reducible refine wpList_farith (op := .mul) (p := r3) rfl rfl rfl rfl rfl ?_; intro r4 n4 hr4 hf4) | (with_reducible refine wpList_farith (op := .quo) rfl rfl rfl rfl rfl ?_; intro r5 n5 hr5 hf5))
  all_goals
    have k1 : can .f32 r2 = can .f32 (fr1 (fop .mul .f32 s d)) := by
      rw [hr2.out]
      unfold fr1
      rw [can_fop]
      exact fop_congr (mod_congr (by rw [can_fop]; exact hr1.out)) rfl
    have k2 : can .f32 r3 = can .f32 (frSq (fr1 (fop .mul .f32 s d))) := by
      rw [hr3.out, frSq, can_fop]; exact fop_congr k1 k1
    have k3 : can .f32 r4 = can .f32 (frSq (frSq (fr1 (fop .mul .f32 s d)))) := by
      rw [hr4.out]
      unfold frSq
      rw [can_fop]
      exact fop_congr k2 k2
    have k4 : friV s d = can .f32 (fmin .f32 r5 1065353216) := by
      unfold friV
      rw [fr4_congr k3.symm]
      unfold fr4
      exact fmin_congr (by rw [can_fop]; exact hr5.out.symm)
    clear k1 k2 k3
    replace k4 := hid k4
    go_ret
  · refine ⟨_, rfl, ?_, le_drewN _ _⟩
    rw [k4.out]
    have hg : FloatKind.f32.format.order r5 1065353216 = some .gt := by simpa using ‹(FloatKind.f32.format.order r5 1065353216 == some .gt) = true›
    simp only [fmin, hg]
  · refine ⟨_, rfl, ?_, le_drewN _ _⟩
    rw [k4.out]
    have hg : ¬ FloatKind.f32.format.order r5 1065353216 = some .gt := by
      have := ‹(FloatKind.f32.format.order r5 1065353216 == some .gt) = false›
      simpa using this
    cases ho : FloatKind.f32.format.order r5 1065353216 with
    | none =>
      have hn : isNan .f32 r5 = true := by
        cases hn : isNan .f32 r5
        · rw [order_val hn (by decide)] at ho; cases ho
        · rfl
      simp only [fmin, ho]
      rw [can_of_nan hn, can_qnan]
    | some o =>
      cases o with
      | lt => simp only [fmin, ho]
      | gt => exact absurd ho hg
      | eq =>
        obtain rfl := one_of_eq hf5.out ho
        simp only [fmin, ho]
        split <;> rfl
theorem s_FrictionAt (s d : Nat) (w : World) : Calls Try.prog 15 #[.float .f32 s, .float .f32 d] w (Out_f (friV s d) w) := by
  go_enter Try.func15, Try.ntmps15
  go_wp2_with (go_at_call 51; ((with_reducible refine (s_l05Friction _ _ _).mono ?_); rintro e w' ⟨y, rfl, hy, hl⟩; have HY := hid hy; have HL := hid hl; clear hy hl))
  go_ret
  exact ⟨_, rfl, HY.out, HL.out⟩
theorem both_FrictionAt (a b : Nat) : ∃ (ar0 : Nat), (∀ w : World, Calls Try.prog 15 #[.float .f32 a, .float .f32 b] w (Out_f ar0 w)) ∧ (∀ w : World, Calls Try.prog 16 #[.float .f32 a, .float .f32 b] w (Out_f ar0 w)) :=
  ⟨_, s_FrictionAt a b, i_FrictionAt a b⟩
end Go.Proofs.Ytkjgcfmfejjdkaa

/- The walk of 'FnExactFrictionAt'. -/
namespace Go.Proofs.Ytkjgcfmfejjdkaa.fnExactFrictionAt
open Go.RowKit Go.Fk
set_option maxRecDepth 100000 in
set_option maxHeartbeats 4000000 in
theorem core (a0 : Nat) (a1 : Nat) (ar0 : Nat) (w : World)  
    (hS : ∀ (w : World), Calls Try.prog 15 #[.float .f32 a0, .float .f32 a1] w (Out_f ar0 w))
    (hI : ∀ (w : World), Calls Try.prog 16 #[.float .f32 a0, .float .f32 a1] w (Out_f ar0 w)) :
    Calls Try.prog 3 #[.float .f32 a0, .float .f32 a1] w fun e w' => e = .returned (.bool true) ∧ Below w.heap.size w w' := by
  have HS := hid hS; have HI := hid hI; clear hS hI
  have F := Frg.nil w
  go_enter Try.func3, Try.ntmps3
  go_wp2_with (first | (((with_reducible refine listN F ?_); clear F; intro wN F)) | fail)
  first | ((with_reducible refine callAt0 F ?_); clear F; intro wN F) | ((with_reducible refine callAtN F ?_); clear F; intro wN F)
  refine (HS.out _  ).mono ?_
  rintro e wS ⟨vS0, rfl, cS0, hlS⟩
  replace cS0 := hid cS0
  (replace F := F.le hlS)
  go_wp2_with (first | (((with_reducible refine listN F ?_); clear F; intro wN F)) | fail)
  first | ((with_reducible refine callAt0 F ?_); clear F; intro wN F) | ((with_reducible refine callAtN F ?_); clear F; intro wN F)
  refine (HI.out _  ).mono ?_
  rintro e wI ⟨vI0, rfl, cI0, hlI⟩
  replace cI0 := hid cI0
  (replace F := F.le hlI)
  go_wp2_with (first | (((with_reducible refine listN F ?_); clear F; intro wN F)) | ((with_reducible refine at_convert rfl ?_); first | (with_reducible refine wpList_widen rfl rfl rfl Try.underlying22 Try.underlying25 ?_; intro s1 n1 h1 f1) | (with_reducible refine wpList_widenG rfl rfl Try.underlying22 Try.underlying25 (by kernel_rfl) ?_; intro s1 n1 h1 f1)) | (go_at_call 17; ((with_reducible refine (sameFloat_yes _ _ _ (by exact ((Hid.out ‹Hid (can .f64 _ = can .f64 (widen vI0))›).trans ((congrArg (can .f64) (widen_congr (cI0.out.trans cS0.out.symm))).trans (Hid.out ‹Hid (can .f64 _ = can .f64 (widen vS0))›).symm)))).mono ?_); rintro e w7 ⟨rfl, dq7, rfl⟩; skip)))
  go_ret
  first | exact ⟨rfl, F.below⟩ | exact ⟨rfl, below_drewN F.below _⟩
theorem walk (a0 : Nat) (a1 : Nat) (w : World) (w0 : fits .f32 a0) (w1 : fits .f32 a1) :
    Calls Try.prog 3 #[.float .f32 a0, .float .f32 a1] w fun e w' => e = .returned (.bool true) ∧ Below w.heap.size w w' := by
  obtain ⟨ar0, hS, hI⟩ := both_FrictionAt a0 a1
  exact core a0 a1 ar0 w   hS hI
end Go.Proofs.Ytkjgcfmfejjdkaa.fnExactFrictionAt
