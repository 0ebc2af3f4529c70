/- Texts of the walk, laid in one file. -/
import Derived.LoopN
import Derived.Deep.OwnRows
import Derived.Laws.IdiomStrings
import Derived.Lib.Bytealg
import Derived.Lib.IndexLaws
import Derived.Laws.Externs
import Derived.BigQuiet
import Derived.Lib.Strings
import Derived.IntWalk
import Derived.OwnWalk
import Derived.Test.YtnkjmgadnejdlabMb
set_option linter.unusedVariables false
set_option linter.unusedSimpArgs false
/- What a state keeps of a number; is a number finite? -/
namespace Go.Fk
open Go Go.RowKit
theorem fin_bits (x : Nat) : fin x = decide (x % 2147483648 < 2139095040) := by
  have e1 : Ieee.single.signWeight = 2147483648 := by decide
  have e2 : Ieee.single.infRung = 2139095040 := by decide
  have e3 : Ieee.single.binade = 8388608 := by decide
  have e4 : Ieee.single.leastPlace = -149 := by decide
  simp only [fin, FloatKind.format, Ieee.Format.read, e1, e2, e3, e4]
  split
  · rename_i s m e h
    split at h
    · simp; omega
    · split at h
      · simp; omega
      · split at h <;> cases h
  · rename_i h
    split at h
    · exact absurd rfl (h _ _ _)
    · split at h
      · exact absurd rfl (h _ _ _)
      · simp; omega
theorem and_exp255 (x : Nat) (hx : x < 4294967296) : ((x &&& 2139095040) = 2139095040) ↔ ¬ x % 2147483648 < 2139095040 := by
  have e : x &&& 2139095040 = (x >>> 23 &&& 255) <<< 23 := by
    rw [Nat.shiftLeft_and_distrib]
    apply Nat.eq_of_testBit_eq
    intro i
    simp only [Nat.testBit_and, Nat.testBit_shiftLeft, Nat.testBit_shiftRight]
    by_cases hi : 23 ≤ i
    · simp only [hi, decide_true, Bool.true_and, show 23 + (i - 23) = i by omega]
      congr 1
      rw [show (2139095040 : Nat) = 255 <<< 23 by decide, Nat.testBit_shiftLeft]
      simp [hi]
    · simp only [hi, decide_false, Bool.false_and]
      rw [show (2139095040 : Nat) = 255 <<< 23 by decide, Nat.testBit_shiftLeft]
      simp [hi]
  rw [e, show (255 : Nat) = 2 ^ 8 - 1 by decide, Nat.and_two_pow_sub_one_eq_mod, Nat.shiftLeft_eq, Nat.shiftRight_eq_div_pow]
  omega
theorem exp_full {x : Nat} (hx : x < 4294967296) : (bits .and .u32 (x : Int) 2139095040 == 2139095040) = !fin x := by
  rw [bits_and_exp x hx, fin_bits]
  have h := and_exp255 x hx
  by_cases c : x % 2147483648 < 2139095040
  · have : ¬ (x &&& 2139095040) = 2139095040 := fun e => (h.1 e) c
    simp only [c, decide_true, Bool.not_true, beq_eq_false_iff_ne]
    intro e
    exact this (Int.ofNat_inj.1 e)
  · simp only [c, decide_false, Bool.not_false, beq_iff_eq]
    rw [h.2 c]; rfl
/-- What a state keeps. -/
def kept (v : Nat) : Nat := if fin v = true then flush v else 0
theorem fin_can {a b : Nat} (h : can .f32 a = can .f32 b) : fin a = fin b := by
  cases hn : isNan .f32 a
  · rw [eq_of_can h hn]
  · have hm := (isNan_of_can h).symm.trans hn
    obtain ⟨s, t, h1⟩ := read_nan hn
    obtain ⟨s', t', h2⟩ := read_nan hm
    simp [fin, h1, h2]
theorem fin_num {a : Nat} (h : fin a = true) : isNan .f32 a = false := by
  cases hr : FloatKind.f32.format.read a with
  | nan s t => simp [fin, hr] at h
  | infinity s => simp [fin, hr] at h
  | number s m e => simp [isNan, hr, Ieee.Datum.isNaN]
theorem kept_can {a b : Nat} (h : can .f32 a = can .f32 b) : kept a = kept b := by
  unfold kept
  rw [← fin_can h]
  split
  · rename_i hf
    rw [eq_of_can h (fin_num hf)]
  · rfl
theorem fits_kept {b : Nat} (h : fits .f32 b) : fits .f32 (kept b) := by
  unfold kept; split
  · exact fits_flush h
  · simp [fits, Lit.wf]
theorem same0_fin {v : Nat} (h : sameB v 0 = true) : fin v = true := by
  have e : can .f32 v = can .f32 0 := by
    simp only [sameB, beq_iff_eq] at h
    exact_mod_cast h
  rw [fin_can e]; decide
end Go.Fk
namespace Go.Proofs.Ytnkjmgadnejdlab
open Go.RowKit Go.Fk
theorem i_isFinite (x : Nat) (w : World) (hx : fits .f32 x) : Calls Try.prog 37 #[.float .f32 x] w fun e w' => e = .returned (.bool (fin x)) ∧ w = w' := by
  have hz := exp_full (fits32 hx)
  go_enter Try.func37, Try.ntmps37
  go_wp2
  go_ret
  refine ⟨ret_b ?_, rfl⟩
  rw [bne, hz, Bool.not_not]
theorem i_kept (x : Nat) (w : World) (hx : fits .f32 x) : Calls Try.prog 66 #[.float .f32 x] w fun e w' => e = .returned (.float .f32 (kept x)) ∧ w = w' := by
  cases h : fin x
  all_goals
    go_enter Try.func66, Try.ntmps66
    go_wp2_with (first | (go_at_call 37; refine (i_isFinite _ _ hx).mono ?_; rintro e w' ⟨rfl, rfl⟩) | (go_at_call 107; refine (i_FlushSample _ _ hx).mono ?_; rintro e w' ⟨rfl, rfl⟩))
    go_ret
    exact ⟨ret_f (by simp [kept, h]), rfl⟩
theorem s_Kept (x : Nat) (w : World) (hx : fits .f32 x) : Calls Try.prog 57 #[.float .f32 x] w fun e w' => e = .returned (.float .f32 (kept x)) ∧ ∃ n, w' = w.drewN n := by
  cases h : fin x
  all_goals
    go_enter Try.func57, Try.ntmps57
    go_wp2_with (first | (go_at_call 54; refine (s_l01Finite _ _).mono ?_; rintro e w' ⟨rfl, n0, rfl⟩) | (go_at_call 98; refine (s_l01Flush _ _ hx).mono ?_; rintro e w' ⟨rfl, rfl⟩))
    go_ret
    exact ⟨ret_f (by simp [kept, h]), _, rfl⟩
end Go.Proofs.Ytnkjmgadnejdlab

/- 'areUsed': the first numbers are finite, the others 0. -/
namespace Go.Fk
open Go Go.RowKit
def usedB (f : Nat → Nat) (n u : Nat) : Bool := (List.range n).all fun i => if i < u then fin (f i) else sameB (f i) 0
theorem usedB_fin {f : Nat → Nat} {n u i : Nat} (hi : i < u) (hu : u ≤ n) (h : fin (f i) = false) : usedB f n u = false := by
  simp only [usedB, List.all_eq_false, List.mem_range]
  exact ⟨i, by omega, by simp [hi, h]⟩
theorem usedB_zero {f : Nat → Nat} {n u i : Nat} (hi : u ≤ i) (hn : i < n) (h : sameB (f i) 0 = false) : usedB f n u = false := by
  simp only [usedB, List.all_eq_false, List.mem_range]
  exact ⟨i, hn, by simp [show ¬ i < u by omega, h]⟩
theorem usedB_yes {f : Nat → Nat} {n u : Nat} (h1 : ∀ i, i < u → fin (f i) = true) (h2 : ∀ i, u ≤ i → i < n → sameB (f i) 0 = true) : usedB f n u = true := by
  simp only [usedB, List.all_eq_true, List.mem_range]
  intro i hi
  by_cases c : i < u
  · simp [c, h1 i c]
  · simp [c, h2 i (by omega) hi]
/-- Are all finite? -/
def finB (f : Nat → Nat) (n : Nat) : Bool := (List.range n).all fun i => fin (f i)
theorem finB_no {f : Nat → Nat} {n i : Nat} (hi : i < n) (h : fin (f i) = false) : finB f n = false := by
  rw [Bool.eq_false_iff]; intro hh
  have := List.all_eq_true.1 hh i (List.mem_range.2 hi)
  rw [h] at this; cases this
theorem finB_yes {f : Nat → Nat} {n : Nat} (h : ∀ i, i < n → fin (f i) = true) : finB f n = true := List.all_eq_true.2 (fun i hi => h i (List.mem_range.1 hi))
theorem finB_all {f : Nat → Nat} {n : Nat} (h : finB f n = true) : ∀ i, i < n → fin (f i) = true := fun i hi => List.all_eq_true.1 h i (List.mem_range.2 hi)
theorem finB_ex {f : Nat → Nat} {n : Nat} (h : finB f n = false) : ∃ i, i < n ∧ fin (f i) = false := by
  apply Classical.byContradiction
  intro hn
  have : finB f n = true := finB_yes (fun i hi => by
    cases hb : fin (f i)
    · exact absurd ⟨i, hi, hb⟩ hn
    · rfl)
  rw [h] at this; cases this
end Go.Fk
namespace Go.Proofs.Ytnkjmgadnejdlab
open Go.RowKit Go.Fk
set_option maxHeartbeats 1000000 in
theorem i_areFinite (f : Nat → Nat) (a : Addr) (u cap : Nat) (w : World) (hu : u ≤ 9223372036854775807) (hf : ∀ i, i < u → fits .f32 (f i)) (hc : ∀ i, i < u → w.cell? (a.add i) = some (.float .f32 (f i))) :
    Calls Try.prog 85 #[.slice (some a) u cap] w fun e w' => e = .returned (.bool (finB f u)) ∧ w = w' := by
  have Hf := hid hf; have Hc := hid hc; clear hf hc
  go_enter Try.func85, Try.ntmps85
  go_wp2
  go_loop [7] (fun i => ∃ j : Nat, j ≤ u ∧ i = .int .i64 j ∧ Hid (∀ i, i < j → fin (f i) = true)) (fun i => u - (intOf i).toNat)
  case atStart => exact ⟨0, by omega, rfl, fun i hi => absurd hi (by omega)⟩
  case round =>
    obtain ⟨j, hj, rfl, HJ⟩ := hrel
    by_cases hlt : j < u
    · have cj := Hc.out j (by omega)
      have fj := hid (Hf.out j (by omega))
      cases hb : fin (f j)
      · go_wp2_with (go_at_call 37; refine (i_isFinite _ _ fj).mono ?_; rintro e w' ⟨rfl, rfl⟩)
        go_ret
        exact ⟨ret_b (finB_no hlt hb).symm, rfl⟩
      · go_wp2_with (go_at_call 37; refine (i_isFinite _ _ fj).mono ?_; rintro e w' ⟨rfl, rfl⟩)
        go_round
        case rel => exact ⟨j + 1, by omega, by go_num, fun i hi => by rcases Nat.lt_or_ge i j with h | h; exact HJ.out i h; rw [show i = j by omega]; exact hb⟩
        case measure => simp [intOf]; omega
    · obtain rfl : j = u := by omega
      go_wp2
      go_ret
      exact ⟨ret_b (finB_yes HJ.out).symm, rfl⟩
theorem i_areFinite_nil (f : Nat → Nat) (w : World) : Calls Try.prog 85 #[.slice none 0 0] w fun e w' => e = .returned (.bool (finB f 0)) ∧ w = w' := by
  go_enter Try.func85, Try.ntmps85
  go_wp2
  go_loop [7] (fun i => i = .int .i64 0) (fun _ => 0)
  case atStart => rfl
  case round =>
    obtain rfl := hrel
    go_wp2
    go_ret
    exact ⟨rfl, rfl⟩
set_option maxHeartbeats 1000000 in
theorem i_areUsed (f : Nat → Nat) (g o n u : Nat) (w : World) (hn : n < 100) (hu : u ≤ n) (hf : ∀ i, i < n → fits .f32 (f i)) (hc : ∀ i, i < n → w.cell? ⟨g, o + i, none⟩ = some (.float .f32 (f i))) :
    Calls Try.prog 122 #[.slice (some ⟨g, o, none⟩) n n, .int .i64 u] w fun e w' => e = .returned (.bool (usedB f n u)) ∧ w = w' := by
  have HA := hid (fun (w : World) (hc : ∀ i, i < n → w.cell? ⟨g, o + i, none⟩ = some (.float .f32 (f i))) => i_areFinite f ⟨g, o, none⟩ u n w (by omega) (fun i hi => hf i (by omega)) (fun i hi => by rw [add_none]; exact hc i (by omega)))
  have Hc := hid hc; clear hf hc
  obtain ⟨z, hz⟩ : ∃ z, z = finB f u := ⟨_, rfl⟩
  rw [← hz] at HA
  cases z
  · obtain ⟨i, hi, hb⟩ := finB_ex hz.symm
    have HZ := hid (usedB_fin hi hu hb)
    clear hz hb hi
    go_enter Try.func122, Try.ntmps122
    go_wp2_with (go_at_call 85; refine (HA.out _ Hc.out).mono ?_; rintro e w' ⟨rfl, rfl⟩)
    go_ret
    exact ⟨ret_b HZ.out.symm, rfl⟩
  have HJ := hid (finB_all hz.symm)
  clear hz
  rcases Nat.lt_or_ge u n with hlt0 | hge0
  · have h1 : (u : Int) ≤ n := by omega
    have h2 : (u : Int) < n := by omega
    go_enter Try.func122, Try.ntmps122
    go_wp2_with (go_at_call 85; refine (HA.out _ Hc.out).mono ?_; rintro e w' ⟨rfl, rfl⟩)
    go_loop [16] (fun i => ∃ k : Nat, k ≤ n - u ∧ i = .int .i64 k ∧ Hid (∀ i, u ≤ i → i < u + k → sameB (f i) 0 = true)) (fun i => (n - u) - (intOf i).toNat)
    case atStart => exact ⟨0, by omega, rfl, fun i h1 h2 => absurd h2 (by omega)⟩
    case round =>
      obtain ⟨k, hk, rfl, HK⟩ := hrel
      by_cases hkt : k < n - u
      · have ck : w.cell? ⟨g, o + u + k, none⟩ = some (.float .f32 (f (u + k))) := by rw [Nat.add_assoc]; exact Hc.out (u + k) (by omega)
        have k1 : (k : Int) < (n : Int) - u := by omega
        cases hb : sameB (f (u + k)) 0
        · go_wp2_with (go_at_call 129; refine (i_SameSample _ _ _).mono ?_; rintro e w' ⟨rfl, rfl⟩)
          go_ret
          exact ⟨ret_b (usedB_zero (show u ≤ u + k by omega) (by omega) hb).symm, rfl⟩
        · go_wp2_with (go_at_call 129; refine (i_SameSample _ _ _).mono ?_; rintro e w' ⟨rfl, rfl⟩)
          go_round
          case rel => exact ⟨k + 1, by omega, by go_num, fun i h1 h2 => by rcases Nat.lt_or_ge i (u + k) with h | h; exact HK.out i h1 h; rw [show i = u + k by omega]; exact hb⟩
          case measure => simp [intOf]; omega
      · have k1 : ¬ (k : Int) < (n : Int) - u := by omega
        go_wp2
        go_ret
        exact ⟨ret_b (usedB_yes (HJ.out) (fun i h1 h2 => HK.out i h1 (by omega))).symm, rfl⟩
  · obtain rfl : u = n := by omega
    clear hu hge0
    go_enter Try.func122, Try.ntmps122
    go_wp2_with (go_at_call 85; refine (HA.out _ Hc.out).mono ?_; rintro e w' ⟨rfl, rfl⟩)
    go_loop [16] (fun i => i = .int .i64 0) (fun i => 0)
    case atStart => rfl
    case round =>
      obtain rfl := hrel
      go_wp2
      go_ret
      exact ⟨ret_b (usedB_yes (HJ.out) (fun i h1 h2 => absurd h2 (by omega))).symm, rfl⟩
end Go.Proofs.Ytnkjmgadnejdlab

/- Which filters are valid: the plain function, the model's contract and the program's. -/
namespace Go.Fk
open Go Go.RowKit
/-- How many numbers and states a kind uses. -/
def cU (k : Int) : Nat := if k = 1 ∨ k = 2 then 2 else if k = 3 ∨ k = 5 then 1 else 3
def sU (k : Int) : Nat := if k = 1 ∨ k = 2 then 1 else 2
/-- Is a filter valid? -/
def okF (k : Int) (a b c x y : Nat) : Bool := (decide (1 ≤ k) && decide (k ≤ 5)) && (usedB (tri a b c) 3 (cU k) && usedB (duo x y) 2 (sU k))
theorem okF_kind {k : Int} {a b c x y : Nat} (h : okF k a b c x y = true) : 1 ≤ k ∧ k ≤ 5 := by
  simp only [okF, Bool.and_eq_true, decide_eq_true_eq] at h; exact h.1
theorem okF_out {k : Int} {a b c x y : Nat} (h : ¬ (1 ≤ k ∧ k ≤ 5)) : okF k a b c x y = false := by
  cases e : okF k a b c x y
  · rfl
  · exact absurd (okF_kind e) h
theorem cU_le (k : Int) : cU k ≤ 3 := by unfold cU; split; omega; split <;> omega
theorem sU_le (k : Int) : sU k ≤ 2 := by unfold sU; split <;> omega
theorem Row.six {w : World} {g : Nat} {t : TypeId} {v0 v1 v2 v3 v4 v5 : Value} (h : Row w g t #[v0, v1, v2, v3, v4, v5]) :
    w.cell? ⟨g, 0, none⟩ = some v0 ∧ w.cell? ⟨g, 1, none⟩ = some v1 ∧ w.cell? ⟨g, 2, none⟩ = some v2 ∧ w.cell? ⟨g, 3, none⟩ = some v3 ∧ w.cell? ⟨g, 4, none⟩ = some v4 ∧ w.cell? ⟨g, 5, none⟩ = some v5 :=
  ⟨h.cell? 0, h.cell? 1, h.cell? 2, h.cell? 3, h.cell? 4, h.cell? 5⟩
theorem Row.tri {w : World} {g : Nat} {t : TypeId} {k : Int} {a b c x y : Nat} (h : Row w g t (#[.int .i64 k, .float .f32 a, .float .f32 b, .float .f32 c, .float .f32 x, .float .f32 y] : Array Value)) (i : Nat) (hi : i < 3) : w.cell? ⟨g, 1 + i, none⟩ = some (.float .f32 (tri a b c i)) := by
  match i, hi with
  | 0, _ => exact h.cell? 1
  | 1, _ => exact h.cell? 2
  | 2, _ => exact h.cell? 3
theorem Row.duo {w : World} {g : Nat} {t : TypeId} {k : Int} {a b c x y : Nat} (h : Row w g t (#[.int .i64 k, .float .f32 a, .float .f32 b, .float .f32 c, .float .f32 x, .float .f32 y] : Array Value)) (i : Nat) (hi : i < 2) : w.cell? ⟨g, 4 + i, none⟩ = some (.float .f32 (duo x y i)) := by
  match i, hi with
  | 0, _ => exact h.cell? 4
  | 1, _ => exact h.cell? 5
/-- A filter within a block. -/
structure FilAt (w : World) (g f : Nat) (k : Int) (a b c x y : Nat) : Prop where
  k0 : w.cell? ⟨g, f, none⟩ = some (.int .i64 k)
  tri : ∀ i, i < 3 → w.cell? ⟨g, f + 1 + i, none⟩ = some (.float .f32 (tri a b c i))
  duo : ∀ i, i < 2 → w.cell? ⟨g, f + 4 + i, none⟩ = some (.float .f32 (duo x y i))
theorem Row.filAt {w : World} {g : Nat} {t : TypeId} {k : Int} {a b c x y : Nat} (h : Row w g t (#[.int .i64 k, .float .f32 a, .float .f32 b, .float .f32 c, .float .f32 x, .float .f32 y] : Array Value)) : FilAt w g 0 k a b c x y :=
  ⟨h.six.1, fun i hi => by rw [Nat.zero_add]; exact h.tri i hi, fun i hi => by rw [Nat.zero_add]; exact h.duo i hi⟩
/-- A filter within a row. -/
structure FilIn (cs : Array Value) (f : Nat) (k : Int) (a b c x y : Nat) : Prop where
  k0 : cs[f]? = some (.int .i64 k)
  c1 : cs[f + 1]? = some (.float .f32 a)
  c2 : cs[f + 2]? = some (.float .f32 b)
  c3 : cs[f + 3]? = some (.float .f32 c)
  c4 : cs[f + 4]? = some (.float .f32 x)
  c5 : cs[f + 5]? = some (.float .f32 y)
theorem FilIn.at {cs : Array Value} {f : Nat} {k : Int} {a b c x y : Nat} (h : FilIn cs f k a b c x y) {w : World} {g : Nat} {t : TypeId} (hr : Row w g t cs) : FilAt w g f k a b c x y :=
  ⟨(hr.cell? f).trans h.k0, fun i hi => by
    match i, hi with
    | 0, _ => exact (hr.cell? (f + 1)).trans h.c1
    | 1, _ => exact (hr.cell? (f + 2)).trans h.c2
    | 2, _ => exact (hr.cell? (f + 3)).trans h.c3, fun i hi => by
    match i, hi with
    | 0, _ => exact (hr.cell? (f + 4)).trans h.c4
    | 1, _ => exact (hr.cell? (f + 5)).trans h.c5⟩
theorem fits_tri {a b c : Nat} (ha : fits .f32 a) (hb : fits .f32 b) (hc : fits .f32 c) : ∀ i, i < 3 → fits .f32 (tri a b c i) := by
  intro i hi
  match i, hi with
  | 0, _ => exact ha
  | 1, _ => exact hb
  | 2, _ => exact hc
theorem fits_duo {a b : Nat} (ha : fits .f32 a) (hb : fits .f32 b) : ∀ i, i < 2 → fits .f32 (duo a b i) := by
  intro i hi
  match i, hi with
  | 0, _ => exact ha
  | 1, _ => exact hb
end Go.Fk
namespace Go.Proofs.Ytnkjmgadnejdlab
open Go.RowKit Go.Fk
theorem s_Uses (k : Int) (w : World) : Calls Try.prog 118 #[.int .i64 k] w fun e w' => e = .returned (.tuple #[.int .i64 (cU k), .int .i64 (sU k)]) ∧ w = w' := by
  by_cases h1 : k = 1
  · subst h1
    go_enter Try.func118, Try.ntmps118
    go_wp2
    go_ret2
    exact ⟨rfl, rfl⟩
  by_cases h2 : k = 2
  · subst h2
    go_enter Try.func118, Try.ntmps118
    go_wp2
    go_ret2
    exact ⟨rfl, rfl⟩
  by_cases h3 : k = 3
  · subst h3
    go_enter Try.func118, Try.ntmps118
    go_wp2
    go_ret2
    exact ⟨rfl, rfl⟩
  by_cases h5 : k = 5
  · subst h5
    go_enter Try.func118, Try.ntmps118
    go_wp2
    go_ret2
    exact ⟨rfl, rfl⟩
  have e1 : cU k = 3 := by simp [cU, h1, h2, h3, h5]
  have e2 : sU k = 2 := by simp [sU, h1, h2]
  rw [e1, e2]
  go_enter Try.func118, Try.ntmps118
  go_wp2
  go_ret2
  exact ⟨rfl, rfl⟩
set_option maxHeartbeats 2000000 in
theorem s_OkAt (k : Int) (a b c x y : Nat) (g f : Nat) (w : World) (hr : FilAt w g f k a b c x y) : Calls Try.prog 94 #[.pointer (some ⟨g, f, none⟩)] w fun e w' => e = .returned (.bool (okF k a b c x y)) ∧ ∃ n, w' = w.drewN n := by
  have c0 := hr.k0
  have HR := hid hr
  clear hr
  by_cases hk : 1 ≤ k ∧ k ≤ 5
  · obtain ⟨k1, k5⟩ := hk
    obtain ⟨p, hp⟩ : ∃ p, p = cU k := ⟨_, rfl⟩
    obtain ⟨q, hq⟩ : ∃ q, q = sU k := ⟨_, rfl⟩
    have hp3 : p ≤ 3 := by rw [hp]; exact cU_le k
    have hq2 : q ≤ 2 := by rw [hq]; exact sU_le k
    have E : okF k a b c x y = (usedB (tri a b c) 3 p && usedB (duo x y) 2 q) := by rw [hp, hq]; simp [okF, k1, k5]
    rw [E]; clear E
    have hu := s_Uses k
    rw [← hp, ← hq] at hu
    have HU := hid hu
    clear hu hp hq
    go_enter Try.func94, Try.ntmps94
    go_wp2_with (first | (go_at_call 96; refine (s_In _ _ _ _).mono ?_; rintro e w' ⟨rfl, rfl⟩) | (go_at_call 118; refine (HU.out _).mono ?_; rintro e w' ⟨rfl, rfl⟩))
    go_loopw [5] (fun i wr => ∃ j : Nat, j ≤ 3 ∧ i = .int .i64 j ∧ Hid (∀ i, i < j → fin (tri a b c i) = true ∧ (p ≤ i → sameB (tri a b c i) 0 = true)) ∧ ∃ n, wr = w.drewN n) (fun i _ => 3 - (intOf i).toNat)
    case atStart => exact ⟨0, by omega, rfl, fun i hi => absurd hi (by omega), 0, rfl⟩
    case round =>
      obtain ⟨j, hj, rfl, HJ, n, rfl⟩ := hrel
      by_cases hlt : j < 3
      · have cj := HR.out.tri j hlt
        cases h1 : fin (tri a b c j)
        · go_wp2_with (go_at_call 54; refine (s_l01Finite _ _).mono ?_; rintro e w' ⟨rfl, m, rfl⟩)
          go_ret
          refine ⟨ret_b ?_, _, rfl⟩
          by_cases hjp : j < p
          · rw [usedB_fin hjp hp3 h1]; rfl
          · have : sameB (tri a b c j) 0 = false := by
              cases e : sameB (tri a b c j) 0
              · rfl
              · rw [same0_fin e] at h1; cases h1
            rw [usedB_zero (show p ≤ j by omega) hlt this]; rfl
        · by_cases hjp : j < p
          · have hjp' : (j : Int) < p := by omega
            go_wp2_with (go_at_call 54; refine (s_l01Finite _ _).mono ?_; rintro e w' ⟨rfl, m, rfl⟩)
            go_roundw
            case rel => first | exact ⟨j + 1, by omega, by go_num, fun i hi => by rcases Nat.lt_or_ge i j with h | h; exact HJ.out i h; rw [show i = j by omega]; exact ⟨h1, fun h => absurd h (by omega)⟩, _, rfl⟩ | ((repeat apply Exists.intro); exact ⟨⟨j + 1, by omega, by go_num, fun i hi => by rcases Nat.lt_or_ge i j with h | h; exact HJ.out i h; rw [show i = j by omega]; exact ⟨h1, fun h => absurd h (by omega)⟩, _, rfl⟩, rfl⟩)
            case measure => simp [intOf]; omega
          · have hjp' : (p : Int) ≤ j := by omega
            cases h2 : sameB (tri a b c j) 0
            · go_wp2_with (first | (go_at_call 54; refine (s_l01Finite _ _).mono ?_; rintro e w' ⟨rfl, m, rfl⟩) | (go_at_call 119; refine (s_l01Same _ _ _).mono ?_; rintro e w' ⟨rfl, rfl⟩))
              go_ret
              exact ⟨ret_b (by rw [usedB_zero (show p ≤ j by omega) hlt h2]; rfl), _, rfl⟩
            · go_wp2_with (first | (go_at_call 54; refine (s_l01Finite _ _).mono ?_; rintro e w' ⟨rfl, m, rfl⟩) | (go_at_call 119; refine (s_l01Same _ _ _).mono ?_; rintro e w' ⟨rfl, rfl⟩))
              go_roundw
              case rel => first | exact ⟨j + 1, by omega, by go_num, fun i hi => by rcases Nat.lt_or_ge i j with h | h; exact HJ.out i h; rw [show i = j by omega]; exact ⟨h1, fun _ => h2⟩, _, rfl⟩ | ((repeat apply Exists.intro); exact ⟨⟨j + 1, by omega, by go_num, fun i hi => by rcases Nat.lt_or_ge i j with h | h; exact HJ.out i h; rw [show i = j by omega]; exact ⟨h1, fun _ => h2⟩, _, rfl⟩, rfl⟩)
              case measure => simp [intOf]; omega
      · obtain rfl : j = 3 := by omega
        have U1 := hid (usedB_yes (f := tri a b c) (n := 3) (u := p) (fun i hi => (HJ.out i (by omega)).1) (fun i h1 h2 => (HJ.out i h2).2 h1))
        clear HJ
        go_wp2
        go_loopw [6] (fun i wr => ∃ j : Nat, j ≤ 2 ∧ i = .int .i64 j ∧ Hid (∀ i, i < j → fin (duo x y i) = true ∧ (q ≤ i → sameB (duo x y i) 0 = true)) ∧ ∃ n, wr = w.drewN n) (fun i _ => 2 - (intOf i).toNat)
        case atStart => exact ⟨0, by omega, rfl, fun i hi => absurd hi (by omega), _, rfl⟩
        case round =>
          obtain ⟨j, hj, rfl, HJ, n, rfl⟩ := hrel
          by_cases hlt : j < 2
          · have cj := HR.out.duo j hlt
            cases h1 : fin (duo x y j)
            · go_wp2_with (go_at_call 54; refine (s_l01Finite _ _).mono ?_; rintro e w' ⟨rfl, m, rfl⟩)
              go_ret
              refine ⟨ret_b ?_, _, rfl⟩
              by_cases hjp : j < q
              · rw [usedB_fin hjp hq2 h1, Bool.and_false]
              · have : sameB (duo x y j) 0 = false := by
                  cases e : sameB (duo x y j) 0
                  · rfl
                  · rw [same0_fin e] at h1; cases h1
                rw [usedB_zero (show q ≤ j by omega) hlt this, Bool.and_false]
            · by_cases hjp : j < q
              · have hjp' : (j : Int) < q := by omega
                go_wp2_with (go_at_call 54; refine (s_l01Finite _ _).mono ?_; rintro e w' ⟨rfl, m, rfl⟩)
                go_roundw
                case rel => first | exact ⟨j + 1, by omega, by go_num, fun i hi => by rcases Nat.lt_or_ge i j with h | h; exact HJ.out i h; rw [show i = j by omega]; exact ⟨h1, fun h => absurd h (by omega)⟩, _, rfl⟩ | ((repeat apply Exists.intro); exact ⟨⟨j + 1, by omega, by go_num, fun i hi => by rcases Nat.lt_or_ge i j with h | h; exact HJ.out i h; rw [show i = j by omega]; exact ⟨h1, fun h => absurd h (by omega)⟩, _, rfl⟩, rfl⟩)
                case measure => simp [intOf]; omega
              · have hjp' : (q : Int) ≤ j := by omega
                cases h2 : sameB (duo x y j) 0
                · go_wp2_with (first | (go_at_call 54; refine (s_l01Finite _ _).mono ?_; rintro e w' ⟨rfl, m, rfl⟩) | (go_at_call 119; refine (s_l01Same _ _ _).mono ?_; rintro e w' ⟨rfl, rfl⟩))
                  go_ret
                  exact ⟨ret_b (by rw [usedB_zero (show q ≤ j by omega) hlt h2, Bool.and_false]), _, rfl⟩
                · go_wp2_with (first | (go_at_call 54; refine (s_l01Finite _ _).mono ?_; rintro e w' ⟨rfl, m, rfl⟩) | (go_at_call 119; refine (s_l01Same _ _ _).mono ?_; rintro e w' ⟨rfl, rfl⟩))
                  go_roundw
                  case rel => first | exact ⟨j + 1, by omega, by go_num, fun i hi => by rcases Nat.lt_or_ge i j with h | h; exact HJ.out i h; rw [show i = j by omega]; exact ⟨h1, fun _ => h2⟩, _, rfl⟩ | ((repeat apply Exists.intro); exact ⟨⟨j + 1, by omega, by go_num, fun i hi => by rcases Nat.lt_or_ge i j with h | h; exact HJ.out i h; rw [show i = j by omega]; exact ⟨h1, fun _ => h2⟩, _, rfl⟩, rfl⟩)
                  case measure => simp [intOf]; omega
          · obtain rfl : j = 2 := by omega
            have U2 := hid (usedB_yes (f := duo x y) (n := 2) (u := q) (fun i hi => (HJ.out i (by omega)).1) (fun i h1 h2 => (HJ.out i h2).2 h1))
            clear HJ
            go_wp2
            go_ret
            exact ⟨ret_b (by rw [U1.out, U2.out]; rfl), _, rfl⟩
  · rw [okF_out hk]
    have hIn : Hid (∀ w, Calls Try.prog 96 #[.int .i64 k, .int .i64 1, .int .i64 5] w fun e w' => e = .returned (.bool false) ∧ w = w') := fun w => by
      have h := s_In k 1 5 w
      rwa [show (decide ((1 : Int) ≤ k) && decide (k ≤ 5)) = false by simp only [Bool.and_eq_false_iff, decide_eq_false_iff_not]; omega] at h
    clear hk
    go_enter Try.func94, Try.ntmps94
    go_wp2_with (first | (go_at_call 96; refine (hIn.out _).mono ?_; rintro e w' ⟨rfl, rfl⟩))
    go_ret
    exact ⟨rfl, 0, rfl⟩
theorem s_Ok (k : Int) (a b c x y : Nat) (g : Nat) (w : World) (hr : Row w g 59 (#[.int .i64 k, .float .f32 a, .float .f32 b, .float .f32 c, .float .f32 x, .float .f32 y] : Array Value)) : Calls Try.prog 94 #[.pointer (some ⟨g, 0, none⟩)] w fun e w' => e = .returned (.bool (okF k a b c x y)) ∧ ∃ n, w' = w.drewN n := s_OkAt k a b c x y g 0 w hr.filAt
end Go.Proofs.Ytnkjmgadnejdlab

/- 'SameFilter' of both. -/
namespace Go.Fk
open Go Go.RowKit
/-- Are two rows the same? -/
def eqRow (f f' : Nat → Nat) (n : Nat) : Bool := (List.range n).all (fun j => sameB (f j) (f' j))
theorem eqRow_no {f f' : Nat → Nat} {n j : Nat} (hj : j < n) (h : sameB (f j) (f' j) = false) : eqRow f f' n = false := by
  rw [Bool.eq_false_iff]
  intro hh
  have := List.all_eq_true.1 hh j (List.mem_range.2 hj)
  rw [h] at this; cases this
theorem eqRow_yes {f f' : Nat → Nat} {n : Nat} (h : ∀ j, j < n → sameB (f j) (f' j) = true) : eqRow f f' n = true := List.all_eq_true.2 (fun j hj => h j (List.mem_range.1 hj))
theorem all_step {p : Nat → Prop} {k : Nat} (h : ∀ j, j < k → p j) (hk : p k) : ∀ j, j < k + 1 → p j := fun j hj => by
  by_cases e : j = k
  · rw [e]; exact hk
  · exact h j (by omega)
section
variable {P : Program} {ops : Array Oper} {w : World} {K : FuncId → Array Value → Value → Prop} {Q : Act → Prop} {o : Oper} {rest : List Oper} {a : Act} {C : World → Prop}
theorem wpLoose_anyW (hw : Region.wanted o (yielded ops a.tmps) = true) (V : Value → Prop) (h1 : ∀ n, within P (fun w' => ∃ m, w' = w.drewN m) K V ((execOp a.eval o).run P (w.drewN n)))
    (h2 : ∀ v, V v → wpLoose P ops (fun w' => ∃ m, w' = w.drewN m) K Q rest (a.put o.dst v)) : wpLoose P ops (fun w' => ∃ m, w' = w.drewN m) K Q (o :: rest) a :=
  ⟨V, .inl ⟨hw, fun w' hw' => by obtain ⟨n, rfl⟩ := hw'; exact h1 n⟩, h2⟩
theorem wpLoose_skip (hw : Region.wanted o (yielded ops a.tmps) = false) (h : wpLoose P ops C K Q rest (a.put o.dst undef)) : wpLoose P ops C K Q (o :: rest) a :=
  ⟨(· = undef), .inr ⟨hw, rfl⟩, fun v hv => by rw [hv]; exact h⟩
theorem wpLoose_nilW (hw : Region.wanted o (yielded ops a.tmps) = true) {x : Operand} (hop : o.op = Op.nilCheck x) {ad : Addr} (hx : a.eval x = .pointer (some ad))
    (hK : wpLoose P ops (fun w' => ∃ m, w' = w.drewN m) K Q rest (a.put o.dst (.pointer (some ad)))) : wpLoose P ops (fun w' => ∃ m, w' = w.drewN m) K Q (o :: rest) a := by
  refine wpLoose_anyW hw (· = .pointer (some ad)) (fun n => ?_) (by rintro v rfl; exact hK)
  simp [execOp, hop, hx, within, Result.andThen]
  exact ⟨_, rfl⟩
end
end Go.Fk
namespace Go.Proofs.Ytnkjmgadnejdlab
open Go.RowKit Go.Fk
end Go.Proofs.Ytnkjmgadnejdlab

/- Rings over facts of memory: 'ValidRing', 'SameRing' of both. -/
namespace Go.Fk
open Go Go.RowKit
theorem RdS.form {w : World} {B : Nat} {s : Value} {x : Nat → Nat} {n : Nat} (h : RdS w B s x n) : (s = .slice none 0 0 ∧ n = 0) ∨ ∃ (a : Addr) (cap : Nat), s = .slice (some a) n cap ∧ n ≤ cap ∧ cap ≤ maxLen := by
  rcases h with h | ⟨a, cap, h1, h2, h3, _⟩
  · exact .inl h
  · exact .inr ⟨a, cap, h1, h2, h3⟩
section
variable {P : Program} {w : World} {ops : Array Oper} {rest : List Oper} {o : Oper} {a : Act} {Q : Exit → Act → World → Prop}
/-- The length of a slice that can be read. -/
theorem wpList_lenR (hg : o.guard = none) {x : Operand} {t : TypeId} (hop : o.op = Op.call { callee := Callee.builtin Builtin.len, args := #[x], argTypes := #[t] }) {v : Value} (hx : a.eval x = v) {e : TypeId} (hu : P.underlying t = some (.slice e)) {w1 : World} {B : Nat} {y : Nat → Nat} {n : Nat} (hv : RdS w1 B v y n)
    (h : wpList P ops Q rest (a.put o.dst (.int .i64 n)) w) : wpList P ops Q (o :: rest) a w := by
  refine wpList_plain hg fun K hK' => ?_
  unfold Oper.wp
  rcases hv.form with ⟨rfl, rfl⟩ | ⟨ad, cap, rfl, _, _⟩
  all_goals
    simp [execOp, hop, hx, Result.andThen, resolve, invoke, builtin, Builtin.len_, run_underlying hu]
    exact hK' _ _ h
end
theorem sameB_can (x y : Nat) : sameB (can .f32 x) (can .f32 y) = sameB x y := by unfold sameB; rw [can_can, can_can]
theorem okRing_iff {n : Nat} {k : Int} : okRing n k = true ↔ 1 ≤ n ∧ n ≤ 1024 ∧ 0 ≤ k ∧ k < n := by
  unfold okRing; simp only [Bool.and_eq_true, decide_eq_true_eq]; omega
theorem okRing_j {n : Nat} {k : Int} (h : okRing n k = true) : 1 ≤ n ∧ n ≤ 1024 ∧ ∃ j : Nat, k = j ∧ j < n := by
  obtain ⟨h1, h2, h3, h4⟩ := okRing_iff.1 h
  exact ⟨h1, h2, k.toNat, by omega, by omega⟩
/-- Two slices of floats, compared. -/
def sameS (x x' : Nat → Nat) (n n' : Nat) : Bool := (n == n') && eqRow x x' n
theorem sameS_ne {x x' : Nat → Nat} {n n' : Nat} (h : n ≠ n') : sameS x x' n n' = false := by simp [sameS, h]
theorem sameS_eq {x x' : Nat → Nat} {n : Nat} : sameS x x' n n = eqRow x x' n := by simp [sameS]
end Go.Fk
namespace Go.Proofs.Ytnkjmgadnejdlab
open Go.RowKit Go.Fk
set_option maxHeartbeats 2000000 in
theorem i_ValidRingR (B : Nat) (s : Value) (x : Nat → Nat) (n : Nat) (k : Int) (w : World) (hs : RdS w B s x n) : Calls Try.prog 84 #[.agg #[s, .int .i64 k]] w fun e w' => e = .returned (.bool (okRing n k)) ∧ le w w' := by
  have HL := hid (le_alloc w (.cells #[s, .int .i64 k] 40))
  rcases hs.form with ⟨rfl, rfl⟩ | ⟨a, cap, rfl, hc, hm⟩
  · have HZ : Hid (okRing 0 k = false) := by unfold Hid okRing; simp
    clear hs
    go_enter Try.func84, Try.ntmps84
    go_wp2
    go_ret
    exact ⟨ret_b HZ.out.symm, HL.out⟩
  clear hs
  unfold maxLen at hm
  obtain ⟨z, hz⟩ : ∃ z, z = okRing n k := ⟨_, rfl⟩
  rw [← hz]
  unfold okRing at hz
  by_cases h1 : 1 ≤ (n : Int) <;> by_cases h2 : (n : Int) ≤ 1024 <;> by_cases h3 : 0 ≤ k <;> by_cases h4 : k < (n : Int)
  all_goals first | (exfalso; omega) | skip
  all_goals
    simp only [h1, h2, h3, h4, decide_true, decide_false, Bool.and_true, Bool.and_false, Bool.true_and, Bool.false_and] at hz
    have HZ := hid hz
    clear hz
    go_enter Try.func84, Try.ntmps84
    go_wp2
    go_ret
    exact ⟨ret_b HZ.out.symm, HL.out⟩
theorem s_l02RingR (B : Nat) (s : Value) (x : Nat → Nat) (n : Nat) (k : Int) (g f : Nat) (w : World) (hs : RdS w B s x n) (c0 : w.cell? ⟨g, f, none⟩ = some s) (c1 : w.cell? ⟨g, f + 1, none⟩ = some (.int .i64 k)) (hk : (Lit.int .i64 k).wf = true) :
    Calls Try.prog 116 #[.pointer (some ⟨g, f, none⟩)] w fun e w' => e = .returned (.bool (okRing n k)) ∧ w = w' := by
  rcases hs.form with ⟨rfl, rfl⟩ | ⟨a, cap, rfl, hc, hm⟩
  · have HZ : Hid (okRing 0 k = false) := by unfold Hid okRing; simp
    clear hs
    have HI : Hid (∀ w, Calls Try.prog 96 #[.int .i64 0, .int .i64 1, .int .i64 1024] w fun e w' => e = .returned (.bool false) ∧ w = w') := fun w => s_In 0 1 1024 w
    go_enter Try.func116, Try.ntmps116
    go_wp2_with (go_at_call 96; refine (HI.out _).mono ?_; rintro e w' ⟨rfl, rfl⟩)
    go_ret
    exact ⟨ret_b HZ.out.symm, rfl⟩
  clear hs hk
  unfold maxLen at hm
  obtain ⟨z, hz⟩ : ∃ z, z = okRing n k := ⟨_, rfl⟩
  rw [← hz]
  unfold okRing at hz
  by_cases h1 : 1 ≤ (n : Int) <;> by_cases h2 : (n : Int) ≤ 1024
  all_goals first | (exfalso; omega) | skip
  all_goals
    simp only [h1, h2, decide_true, decide_false, Bool.and_true, Bool.and_false, Bool.true_and, Bool.false_and] at hz
    have HZ := hid hz
    clear hz
    go_enter Try.func116, Try.ntmps116
    go_wp2_with (go_at_call 96; refine (s_In _ _ _ _).mono ?_; rintro e w' ⟨rfl, rfl⟩)
    go_ret
    refine ⟨ret_b ?_, rfl⟩
    first | (rw [HZ.out]; done) | (rw [HZ.out]; congr 1; exact decide_eq_decide.2 (by omega))
theorem infoRingL : (Try.prog.info? 138).map (·.size) = some 2 := by kernel_rfl
end Go.Proofs.Ytnkjmgadnejdlab

/- Laws for operations that are guarded and wanted. Nothing here names a program. -/
namespace Go.Fk
open Go Go.RowKit
section
variable {P : Program} {w : World} {ops : Array Oper} {rest : List Oper} {o : Oper} {a : Act} {Q : Exit → Act → World → Prop}
theorem wpList_wanted (hw : Region.wanted o (yielded ops a.tmps) = true) (h : ∀ K : Act → World → Prop, (∀ a w, wpList P ops Q rest a w → K a w) → o.wp P a w K Q) : wpList P ops Q (o :: rest) a w :=
  wpList_step fun K hK => by simp only [hw, if_true]; exact h K hK
theorem wpList_widenG {src dst : TypeId} {x : Operand} (hop : o.op = Op.convert src dst x) {b : Nat} (hx : a.eval x = .float .f32 b)
    (hs : P.underlying src = some (.float .f32)) (hd : P.underlying dst = some (.float .f64)) (hw : Region.wanted o (yielded ops a.tmps) = true)
    (hK : ∀ r n, Hid (can .f64 r = can .f64 (widen b)) → Hid (fits .f64 r) → wpList P ops Q rest (a.put o.dst (.float .f64 r)) (w.drewN n)) : wpList P ops Q (o :: rest) a w := by
  refine wpList_wanted hw fun K hK' => ?_
  obtain ⟨r, n, hrun, hr, hf⟩ := run_widen (P := P) w src dst b hs hd
  unfold Oper.wp
  simp [execOp, hop, hx, hrun, Result.andThen]
  exact hK' _ _ (hK r n hr hf)
end
end Go.Fk

/- Data of any plain type, as trees: what a value and the memory behind it hold (Rd), and memory of one's own (Lay). Nothing here names a program. -/
namespace Go.Fk
open Go Go.RowKit
/-- A cell's datum: 'fcn' is a float up to the bits of NaN; 'sl wd n x' a slice of n elements of wd cells each. -/
inductive CD where
  | int (k : IntKind) (z : Int)
  | flt (k : FloatKind) (x : Nat)
  | fcn (k : FloatKind) (x : Nat)
  | bool (b : Bool)
  | str (s : ByteArray)
  | sl (wd n : Nat) (x : Nat → CD)
/-- What does not lead to memory. -/
def CD.leaf : CD → Value → Prop
  | .int k z, v => v = .int k z ∧ (Lit.int k z).wf = true
  | .flt k x, v => v = .float k x ∧ fits k x
  | .fcn k x, v => ∃ y, v = .float k y ∧ fits k y ∧ can k y = x
  | .bool b, v => v = .bool b
  | .str s, v => v = .string s ∧ s.size ≤ maxLen
  | .sl _ _ _, _ => False
/-- A value that is read: all that it leads to lies below B. -/
def CD.Rd (w : World) (B : Nat) : CD → Value → Prop
  | .int k z, v => CD.leaf (.int k z) v
  | .flt k x, v => CD.leaf (.flt k x) v
  | .fcn k x, v => CD.leaf (.fcn k x) v
  | .bool b, v => CD.leaf (.bool b) v
  | .str s, v => CD.leaf (.str s) v
  | .sl wd n x, v => (v = .slice none 0 0 ∧ n = 0) ∨ ∃ (a : Addr) (cap : Nat), v = .slice (some a) n cap ∧ n ≤ cap ∧ cap ≤ maxLen ∧ ∀ i, i < n * wd → a.block < B ∧ ∃ u, w.cell? (a.add i) = some u ∧ CD.Rd w B (x i) u
/-- A value that owns its memory, which lies in the blocks of S. -/
def CD.Lay (w : World) : CD → (Nat → Prop) → Value → Prop
  | .int k z, _, v => CD.leaf (.int k z) v
  | .flt k x, _, v => CD.leaf (.flt k x) v
  | .fcn k x, _, v => CD.leaf (.fcn k x) v
  | .bool b, _, v => CD.leaf (.bool b) v
  | .str s, _, v => CD.leaf (.str s) v
  | .sl wd n x, S, v => (v = .slice none 0 0 ∧ n = 0) ∨ ∃ (b o cap : Nat) (t : TypeId) (cs : Array Value), v = .slice (some ⟨b, o, none⟩) n cap ∧ n ≤ cap ∧ cap ≤ maxLen ∧ S b ∧ Row w b t cs ∧
      ∃ T : Nat → Nat → Prop, (∀ i j, T i j → S j ∧ j ≠ b) ∧ (∀ i i' j, T i j → T i' j → i = i') ∧ ∀ i, i < n * wd → ∃ u, cs[o + i]? = some u ∧ CD.Lay w (x i) (T i) u
theorem CD.leaf_one {c : CD} {v : Value} (h : c.leaf v) : v.oneCell' = true := by
  cases c with
  | int | flt | str => obtain ⟨rfl, _⟩ := h; rfl
  | fcn => obtain ⟨_, rfl, _⟩ := h; rfl
  | bool => obtain rfl := h; rfl
  | sl => exact h.elim
theorem CD.Rd.one {w : World} {B : Nat} {c : CD} {v : Value} (h : c.Rd w B v) : v.oneCell' = true := by
  cases c with
  | sl wd n x => rcases h with ⟨rfl, _⟩ | ⟨a, cap, rfl, _⟩ <;> rfl
  | _ => exact CD.leaf_one h
theorem CD.Lay.one {w : World} {S : Nat → Prop} {c : CD} {v : Value} (h : c.Lay w S v) : v.oneCell' = true := by
  cases c with
  | sl wd n x => rcases h with ⟨rfl, _⟩ | ⟨b, o, cap, t, cs, rfl, _⟩ <;> rfl
  | _ => exact CD.leaf_one h
theorem CD.Lay.mono {w : World} : ∀ {c : CD} {S S' : Nat → Prop} {v : Value}, c.Lay w S v → (∀ j, S j → S' j) → c.Lay w S' v := by
  intro c S S' v h hS
  cases c with
  | sl wd n x =>
    rcases h with h | ⟨b, o, cap, t, cs, h1, h2, h3, h4, h5, T, t1, t2, t3⟩
    · exact .inl h
    · exact .inr ⟨b, o, cap, t, cs, h1, h2, h3, hS _ h4, h5, T, fun i j hT => ⟨hS _ (t1 i j hT).1, (t1 i j hT).2⟩, t2, t3⟩
  | _ => exact h
/-- It stands while its blocks stand. -/
theorem CD.Lay.ok {w w' : World} : ∀ {c : CD} {S : Nat → Prop} {v : Value}, c.Lay w S v → (∀ j, S j → w'.heap[j]? = w.heap[j]?) → c.Lay w' S v := by
  intro c
  induction c with
  | sl wd n x ih =>
    intro S v h hS
    rcases h with h | ⟨b, o, cap, t, cs, h1, h2, h3, h4, h5, T, t1, t2, t3⟩
    · exact .inl h
    · refine .inr ⟨b, o, cap, t, cs, h1, h2, h3, h4, by unfold Row at *; rw [hS b h4]; exact h5, T, t1, t2, fun i hi => ?_⟩
      obtain ⟨u, hu, hl⟩ := t3 i hi
      exact ⟨u, hu, ih i hl (fun j hj => hS j (t1 i j hj).1)⟩
  | _ => intro S v h _; exact h
theorem CD.Lay.lt {w : World} {c : CD} {S : Nat → Prop} {v : Value} (h : c.Lay w S v) : c.Lay w (fun j => S j ∧ j < w.heap.size) v := by
  induction c generalizing S v with
  | sl wd n x ih =>
    rcases h with h | ⟨b, o, cap, t, cs, h1, h2, h3, h4, h5, T, t1, t2, t3⟩
    · exact .inl h
    · refine .inr ⟨b, o, cap, t, cs, h1, h2, h3, ⟨h4, h5.lt⟩, h5, fun i j => T i j ∧ j < w.heap.size, fun i j hT => ⟨⟨(t1 i j hT.1).1, hT.2⟩, (t1 i j hT.1).2⟩, fun i i' j a b => t2 i i' j a.1 b.1, fun i hi => ?_⟩
      obtain ⟨u, hu, hl⟩ := t3 i hi
      exact ⟨u, hu, ih i hl⟩
  | _ => exact h
theorem CD.Lay.le {w w' : World} {c : CD} {S : Nat → Prop} {v : Value} (h : c.Lay w S v) (hl : Fk.le w w') : c.Lay w' S v :=
  (h.lt.ok (fun j hj => hl.block j hj.2)).mono (fun j hj => hj.1)
theorem CD.Rd.mono {w : World} {B B' : Nat} (hB : B ≤ B') : ∀ {c : CD} {v : Value}, c.Rd w B v → c.Rd w B' v := by
  intro c
  induction c with
  | sl wd n x ih =>
    intro v h
    rcases h with h | ⟨a, cap, h1, h2, h3, h4⟩
    · exact .inl h
    · exact .inr ⟨a, cap, h1, h2, h3, fun i hi => by obtain ⟨h5, u, h6, h7⟩ := h4 i hi; exact ⟨by omega, u, h6, ih i h7⟩⟩
  | _ => intro v h; exact h
theorem cell_lt' {w : World} {p : Addr} {v : Value} (h : w.cell? p = some v) : p.block < w.heap.size := by
  apply Nat.lt_of_not_le
  intro hle
  have : w.heap[p.block]? = none := Array.getElem?_eq_none hle
  simp [World.cell?, this] at h
theorem CD.Rd.le {w w' : World} {B : Nat} (hl : Fk.le w w') : ∀ {c : CD} {v : Value}, c.Rd w B v → c.Rd w' B v := by
  intro c
  induction c with
  | sl wd n x ih =>
    intro v h
    rcases h with h | ⟨a, cap, h1, h2, h3, h4⟩
    · exact .inl h
    · exact .inr ⟨a, cap, h1, h2, h3, fun i hi => by obtain ⟨h5, u, h6, h7⟩ := h4 i hi; exact ⟨h5, u, (Below.cell hl (cell_lt' h6)).trans h6, ih i h7⟩⟩
  | _ => intro v h; exact h
/-- What one owns may be read. -/
theorem CD.Lay.rd {w : World} {B : Nat} : ∀ {c : CD} {S : Nat → Prop} {v : Value}, c.Lay w S v → (∀ j, S j → j < B) → c.Rd w B v := by
  intro c
  induction c with
  | sl wd n x ih =>
    intro S v h hS
    rcases h with h | ⟨b, o, cap, t, cs, h1, h2, h3, h4, h5, T, t1, t2, t3⟩
    · exact .inl h
    · refine .inr ⟨⟨b, o, none⟩, cap, h1, h2, h3, fun i hi => ?_⟩
      obtain ⟨u, hu, hl⟩ := t3 i hi
      exact ⟨hS b h4, u, by rw [add_none]; exact (h5.cell? (o + i)).trans hu, ih i hl (fun j hj => hS j (t1 i j hj).1)⟩
  | _ => intro S v h _; exact h
/-- The same data, where they count. -/
def CD.Eqv : CD → CD → Prop
  | .sl wd n x, d => ∃ y, d = .sl wd n y ∧ ∀ i, i < n * wd → CD.Eqv (x i) (y i)
  | c, d => c = d
theorem CD.Eqv.refl : ∀ c : CD, c.Eqv c := by
  intro c
  induction c with
  | sl wd n x ih => exact ⟨x, rfl, fun i _ => ih i⟩
  | _ => rfl
theorem CD.Rd.congr {w : World} {B : Nat} : ∀ {c d : CD} {v : Value}, c.Rd w B v → c.Eqv d → d.Rd w B v := by
  intro c
  induction c with
  | sl wd n x ih =>
    intro d v h he
    obtain ⟨y, rfl, hy⟩ := he
    rcases h with h | ⟨a, cap, h1, h2, h3, h4⟩
    · exact .inl h
    · exact .inr ⟨a, cap, h1, h2, h3, fun i hi => by obtain ⟨h5, u, h6, h7⟩ := h4 i hi; exact ⟨h5, u, h6, ih i h7 (hy i hi)⟩⟩
  | _ => intro d v h he; cases he; exact h
theorem CD.Lay.congr {w : World} : ∀ {c d : CD} {S : Nat → Prop} {v : Value}, c.Lay w S v → c.Eqv d → d.Lay w S v := by
  intro c
  induction c with
  | sl wd n x ih =>
    intro d S v h he
    obtain ⟨y, rfl, hy⟩ := he
    rcases h with h | ⟨b, o, cap, t, cs, h1, h2, h3, h4, h5, T, t1, t2, t3⟩
    · exact .inl h
    · exact .inr ⟨b, o, cap, t, cs, h1, h2, h3, h4, h5, T, t1, t2, fun i hi => by obtain ⟨u, hu, hl⟩ := t3 i hi; exact ⟨u, hu, ih i hl (hy i hi)⟩⟩
  | _ => intro d S v h he; cases he; exact h

/-- Several cells that are read. -/
def RdL (w : World) (B : Nat) (cs : List CD) (vs : List Value) : Prop := vs.length = cs.length ∧ ∀ (i : Nat) (v : Value) (c : CD), vs[i]? = some v → cs[i]? = some c → c.Rd w B v
/-- Several cells that own their memory, each apart from the others. -/
def LayL (w : World) (S : Nat → Prop) (cs : List CD) (vs : List Value) : Prop := vs.length = cs.length ∧ ∃ T : Nat → Nat → Prop, (∀ i j, T i j → S j) ∧ (∀ i i' j, T i j → T i' j → i = i') ∧ ∀ (i : Nat) (v : Value) (c : CD), vs[i]? = some v → cs[i]? = some c → c.Lay w (T i) v
theorem LayL.ok {w w' : World} {S : Nat → Prop} {cs : List CD} {vs : List Value} (h : LayL w S cs vs) (hS : ∀ j, S j → w'.heap[j]? = w.heap[j]?) : LayL w' S cs vs := by
  obtain ⟨h0, T, t1, t2, t3⟩ := h
  exact ⟨h0, T, t1, t2, fun i v c hv hc => (t3 i v c hv hc).ok (fun j hj => hS j (t1 i j hj))⟩
theorem LayL.le {w w' : World} {S : Nat → Prop} {cs : List CD} {vs : List Value} (h : LayL w S cs vs) (hl : Fk.le w w') : LayL w' S cs vs := by
  obtain ⟨h0, T, t1, t2, t3⟩ := h
  exact ⟨h0, T, t1, t2, fun i v c hv hc => (t3 i v c hv hc).le hl⟩
theorem LayL.mono {w : World} {S S' : Nat → Prop} {cs : List CD} {vs : List Value} (h : LayL w S cs vs) (hS : ∀ j, S j → S' j) : LayL w S' cs vs := by
  obtain ⟨h0, T, t1, t2, t3⟩ := h
  exact ⟨h0, T, fun i j hj => hS j (t1 i j hj), t2, t3⟩
theorem LayL.rd {w : World} {B : Nat} {S : Nat → Prop} {cs : List CD} {vs : List Value} (h : LayL w S cs vs) (hS : ∀ j, S j → j < B) : RdL w B cs vs := by
  obtain ⟨h0, T, t1, t2, t3⟩ := h
  exact ⟨h0, fun i v c hv hc => (t3 i v c hv hc).rd (fun j hj => hS j (t1 i j hj))⟩
theorem RdL.le {w w' : World} {B : Nat} {cs : List CD} {vs : List Value} (h : RdL w B cs vs) (hl : Fk.le w w') : RdL w' B cs vs := ⟨h.1, fun i v c hv hc => (h.2 i v c hv hc).le hl⟩
theorem RdL.mono {w : World} {B B' : Nat} {cs : List CD} {vs : List Value} (h : RdL w B cs vs) (hB : B ≤ B') : RdL w B' cs vs := ⟨h.1, fun i v c hv hc => (h.2 i v c hv hc).mono hB⟩
theorem RdL.nil (w : World) (B : Nat) : RdL w B [] [] := ⟨rfl, fun i v c hv => by simp at hv⟩
theorem RdL.cons {w : World} {B : Nat} {c : CD} {v : Value} {cs : List CD} {vs : List Value} (h : c.Rd w B v) (hs : RdL w B cs vs) : RdL w B (c :: cs) (v :: vs) :=
  ⟨by simp [hs.1], fun i v' c' hv hc => by
    cases i with
    | zero => simp at hv hc; subst hv hc; exact h
    | succ i => simp at hv hc; exact hs.2 i v' c' hv hc⟩
theorem RdL.inv {w : World} {B : Nat} {c : CD} {cs : List CD} {vs : List Value} (h : RdL w B (c :: cs) vs) : ∃ v vs', vs = v :: vs' ∧ c.Rd w B v ∧ RdL w B cs vs' := by
  obtain ⟨h0, h1⟩ := h
  cases vs with
  | nil => simp at h0
  | cons v vs => exact ⟨v, vs, rfl, h1 0 v c rfl rfl, by simpa using h0, fun i v' c' hv hc => h1 (i + 1) v' c' (by simpa using hv) (by simpa using hc)⟩
theorem RdL.inv0 {w : World} {B : Nat} {vs : List Value} (h : RdL w B [] vs) : vs = [] := by
  have := h.1
  cases vs with
  | nil => rfl
  | cons => simp at this
theorem LayL.nil (w : World) (S : Nat → Prop) : LayL w S [] [] := ⟨rfl, fun _ _ => False, fun _ _ h => h.elim, fun _ _ _ h => h.elim, fun i v c hv => by simp at hv⟩
/-- One cell more, of blocks apart from those of the others. -/
theorem LayL.cons {w : World} {S S1 S2 : Nat → Prop} {c : CD} {v : Value} {cs : List CD} {vs : List Value} (h : c.Lay w S1 v) (hs : LayL w S2 cs vs) (h1 : ∀ j, S1 j → S j) (h2 : ∀ j, S2 j → S j) (h3 : ∀ j, S1 j → S2 j → False) : LayL w S (c :: cs) (v :: vs) := by
  obtain ⟨h0, T, t1, t2, t3⟩ := hs
  refine ⟨by simp [h0], fun i => match i with | 0 => S1 | i + 1 => T i, fun i j => ?_, fun i i' j => ?_, fun i v' c' hv hc => ?_⟩
  · cases i with
    | zero => exact fun h => h1 j h
    | succ i => exact fun h => h2 j (t1 i j h)
  · cases i with
    | zero => cases i' with
      | zero => exact fun _ _ => rfl
      | succ i' => exact fun a b => (h3 j a (t1 i' j b)).elim
    | succ i => cases i' with
      | zero => exact fun a b => (h3 j b (t1 i j a)).elim
      | succ i' => exact fun a b => by rw [t2 i i' j a b]
  · cases i with
    | zero => simp at hv hc; subst hv hc; exact h
    | succ i => simp at hv hc; exact t3 i v' c' hv hc
theorem LayL.leaf {w : World} {S : Nat → Prop} {c : CD} {v : Value} {cs : List CD} {vs : List Value} (h : c.Lay w (fun _ => False) v) (hs : LayL w S cs vs) : LayL w S (c :: cs) (v :: vs) :=
  LayL.cons h hs (fun _ h => h.elim) (fun _ h => h) (fun _ h _ => h)
theorem LayL.inv {w : World} {S : Nat → Prop} {c : CD} {cs : List CD} {vs : List Value} (h : LayL w S (c :: cs) vs) : ∃ v vs' S1 S2, vs = v :: vs' ∧ c.Lay w S1 v ∧ LayL w S2 cs vs' ∧ (∀ j, S1 j → S j) ∧ (∀ j, S2 j → S j) ∧ (∀ j, S1 j → S2 j → False) := by
  obtain ⟨h0, T, t1, t2, t3⟩ := h
  cases vs with
  | nil => simp at h0
  | cons v vs =>
    refine ⟨v, vs, T 0, fun j => ∃ i, T (i + 1) j, rfl, t3 0 v c rfl rfl, ⟨by simpa using h0, fun i => T (i + 1), fun i j h => ⟨i, h⟩, fun i i' j a b => by have := t2 _ _ j a b; omega, fun i v' c' hv hc => t3 (i + 1) v' c' (by simpa using hv) (by simpa using hc)⟩, t1 0, fun j ⟨i, h⟩ => t1 _ j h, fun j a ⟨i, b⟩ => by have := t2 _ _ j a b; omega⟩
theorem LayL.inv0 {w : World} {S : Nat → Prop} {vs : List Value} (h : LayL w S [] vs) : vs = [] := by
  have := h.1
  cases vs with
  | nil => rfl
  | cons => simp at this
/-- The fact. -/
def layF (lo hi : Nat) (cs : List CD) (vs : List Value) : Fact := ⟨lo, hi, fun w => LayL w (rng lo hi) cs vs, fun _ _ h hk => h.ok (fun j hj => hk j hj.1 hj.2)⟩
theorem Frg.lay1 {w0 w w' : World} {L : List Fact} (h : Frg w0 w L) (k : Below w.heap.size w w') {cs : List CD} {vs : List Value} (he : LayL w' (rng w.heap.size w'.heap.size) cs vs) : Frg w0 w' (layF w.heap.size w'.heap.size cs vs :: L) :=
  h.push k he (Nat.le_refl _) (Nat.le_refl _)
theorem Frg.lay {w0 w : World} {L : List Fact} (h : Frg w0 w L) {lo hi : Nat} {cs : List CD} {vs : List Value} (hm : layF lo hi cs vs ∈ L) : LayL w (rng lo hi) cs vs := (h.facts _ hm).2.2
theorem Frg.layR {w0 w : World} {L : List Fact} (h : Frg w0 w L) {lo hi : Nat} {cs : List CD} {vs : List Value} (hm : layF lo hi cs vs ∈ L) : RdL w hi cs vs := (h.lay hm).rd (fun _ hj => hj.2)
/-- Slices of floats. -/
theorem RdS.cd {w : World} {B : Nat} {s : Value} {x : Nat → Nat} {n : Nat} (h : RdS w B s x n) : (CD.sl 1 n (fun i => .fcn .f32 (x i))).Rd w B s := by
  rcases h with h | ⟨a, cap, h1, h2, h3, h4⟩
  · exact .inl h
  · exact .inr ⟨a, cap, h1, h2, h3, fun i hi => by obtain ⟨h5, y, e1, e2, e3⟩ := h4 i (by simpa using hi); exact ⟨h5, _, e1, y, rfl, e2, e3⟩⟩
theorem CD.Rd.rds {w : World} {B : Nat} {s : Value} {x : Nat → Nat} {n : Nat} (h : (CD.sl 1 n (fun i => .fcn .f32 (x i))).Rd w B s) : RdS w B s x n := by
  rcases h with h | ⟨a, cap, h1, h2, h3, h4⟩
  · exact .inl h
  · refine .inr ⟨a, cap, h1, h2, h3, fun i hi => ?_⟩
    obtain ⟨h5, u, h6, y, rfl, e2, e3⟩ := h4 i (by simpa using hi)
    exact ⟨h5, y, h6, e2, e3⟩
theorem CD.Rd.rdx {w : World} {B : Nat} {s : Value} {x : Nat → Nat} {n : Nat} (h : (CD.sl 1 n (fun i => .flt .f32 (x i))).Rd w B s) : RdS w B s (fun i => can .f32 (x i)) n := by
  rcases h with h | ⟨a, cap, h1, h2, h3, h4⟩
  · exact .inl h
  · refine .inr ⟨a, cap, h1, h2, h3, fun i hi => ?_⟩
    obtain ⟨h5, u, h6, rfl, e2⟩ := h4 i (by simpa using hi)
    exact ⟨h5, x i, h6, e2, rfl⟩
theorem OwnS.lay {w : World} {lo hi : Nat} {s : Value} {x : Nat → Nat} {n : Nat} (h : OwnS w lo hi s x n) : (CD.sl 1 n (fun i => .fcn .f32 (x i))).Lay w (rng lo hi) s := by
  rcases h with h | ⟨b, o, cap, cs, h1, h2, h3, h4, h5, h6, h7⟩
  · exact .inl h
  · exact .inr ⟨b, o, cap, _, cs, h1, h2, h3, ⟨h4, h5⟩, h6, fun _ _ => False, fun _ _ h => h.elim, fun _ _ _ h => h.elim, fun i hi => by
      obtain ⟨y, e1, e2, e3⟩ := h7 i (by simpa using hi); exact ⟨_, e1, y, rfl, e2, e3⟩⟩
end Go.Fk

/- How an argument that is a struct of a ring, two filters and a float is opened. Nothing here names a program. -/
namespace Go.Fk
open Go Go.RowKit Go.ChangeShapes
section
variable {H : Type} {enc : TypeId × Value → H} {P : Program} {w : World} {base : Nat} {spare : Nat → Bool} {held : Bool}
theorem trod_ring {t t0 t1 e : TypeId} {f0 f1 : Field} {fuel : Nat} {cs : List Value} {x : DataW H × List MemPlace} (ht : P.underlying t = some (.struct #[f0, f1]))
    (e0 : (f0.type, f0.offset) = (t0, 0)) (e1 : (f1.type, f1.offset) = (t1, 1))
    (h0 : P.underlying t0 = some (.slice e)) (h1 : P.underlying t1 = some (.int .i64)) (he : P.underlying e = some (.float .f32))
    (c0 : P.cellsOf t0 = 1) (c1 : P.cellsOf t1 = 1) (ce : P.cellsOf e = 1) (ct : P.cellsOf t = 2) (hf : DataW.trod enc P w base spare held fuel t cs = some x) :
    ∃ (s : Value) (f : Nat → Nat) (n : Nat) (k : Int), cs = [s, .int .i64 k] ∧ (Lit.int .i64 k).wf = true ∧ SlIn w s f n := by
  obtain ⟨xs, m, _, _, hlen, hl, hi⟩ := DataW.trod_struct ht hf
  simp only [Prod.mk.injEq] at e0 e1
  have g0 := hi 0 f0 rfl
  have g1 := hi 1 f1 rfl
  rw [e0.1, e0.2, c0] at g0
  rw [e1.1, e1.2, c1] at g1
  rw [List.getElem?_eq_getElem (by simp_all)] at g0 g1
  have hlen : cs.length = 2 := hlen.trans ct
  match cs, hlen with
  | [v0, v1], _ =>
    simp only [List.drop_zero, List.drop_succ_cons, List.take_succ_cons, List.take_zero] at g0 g1
    obtain ⟨s, f, n, hs, hsl⟩ := trod_fslice h0 he ce g0
    obtain ⟨k, rfl, hk⟩ := trod_int_cell h1 g1
    simp only [List.cons.injEq, and_true] at hs
    subst hs
    exact ⟨_, f, n, k, rfl, hk, hsl⟩
theorem trod_filter {t t0 t1 t2 e : TypeId} {f0 f1 f2 : Field} {fuel : Nat} {cs : List Value} {x : DataW H × List MemPlace} (ht : P.underlying t = some (.struct #[f0, f1, f2]))
    (e0 : (f0.type, f0.offset) = (t0, 0)) (e1 : (f1.type, f1.offset) = (t1, 1)) (e2 : (f2.type, f2.offset) = (t2, 4))
    (h0 : P.underlying t0 = some (.int .i64)) (h1 : P.underlying t1 = some (.array 3 e)) (h2 : P.underlying t2 = some (.array 2 e)) (he : P.underlying e = some (.float .f32))
    (c0 : P.cellsOf t0 = 1) (c1 : P.cellsOf t1 = 3) (c2 : P.cellsOf t2 = 2) (ce : P.cellsOf e = 1) (ct : P.cellsOf t = 6) (hf : DataW.trod enc P w base spare held fuel t cs = some x) :
    ∃ (k : Int) (a b c x y : Nat), cs = [.int .i64 k, .float .f32 a, .float .f32 b, .float .f32 c, .float .f32 x, .float .f32 y] ∧ (Lit.int .i64 k).wf = true ∧ fits .f32 a ∧ fits .f32 b ∧ fits .f32 c ∧ fits .f32 x ∧ fits .f32 y := by
  obtain ⟨xs, m, _, _, hlen, hl, hi⟩ := DataW.trod_struct ht hf
  simp only [Prod.mk.injEq] at e0 e1 e2
  have g0 := hi 0 f0 rfl
  have g1 := hi 1 f1 rfl
  have g2 := hi 2 f2 rfl
  rw [e0.1, e0.2, c0] at g0
  rw [e1.1, e1.2, c1] at g1
  rw [e2.1, e2.2, c2] at g2
  rw [List.getElem?_eq_getElem (by simp_all)] at g0 g1 g2
  have hlen : cs.length = 6 := hlen.trans ct
  obtain ⟨l1, q1, n1, p1⟩ := trod_farr h1 he ce c1 g1
  obtain ⟨l2, q2, n2, p2⟩ := trod_farr h2 he ce c2 g2
  match cs, hlen, l1, n1, l2, n2 with
  | [v0, v1, v2, v3, v4, v5], _, [a, b, c], _, [x, y], _ =>
    simp only [List.drop_zero, List.drop_succ_cons, List.take_succ_cons, List.take_zero, List.map_cons, List.map_nil, List.cons.injEq, and_true] at q1 q2 g0
    obtain ⟨rfl, rfl, rfl⟩ := q1
    obtain ⟨rfl, rfl⟩ := q2
    obtain ⟨k, rfl, hk⟩ := trod_int_cell h0 g0
    exact ⟨k, a, b, c, x, y, rfl, hk, p1 _ (by simp), p1 _ (by simp), p1 _ (by simp), p2 _ (by simp), p2 _ (by simp)⟩
theorem open_str {r : Reach} {b0 : Nat} {t tr tf te : TypeId} {f0 f1 f2 f3 : Field} {v : Value} {d : DataW H} {ps : List MemPlace} (ht : P.underlying t = some (.struct #[f0, f1, f2, f3]))
    (e0 : (f0.type, f0.offset) = (tr, 0)) (e1 : (f1.type, f1.offset) = (tf, 2)) (e2 : (f2.type, f2.offset) = (tf, 8)) (e3 : (f3.type, f3.offset) = (te, 14))
    (hr : ∀ fuel cs (x : DataW H × List MemPlace), DataW.trod enc P w base spare held fuel tr cs = some x → ∃ (s : Value) (f : Nat → Nat) (n : Nat) (k : Int), cs = [s, .int .i64 k] ∧ (Lit.int .i64 k).wf = true ∧ SlIn w s f n)
    (hfil : ∀ fuel cs (x : DataW H × List MemPlace), DataW.trod enc P w base spare held fuel tf cs = some x → ∃ (k : Int) (a b c x y : Nat), cs = [.int .i64 k, .float .f32 a, .float .f32 b, .float .f32 c, .float .f32 x, .float .f32 y] ∧ (Lit.int .i64 k).wf = true ∧ fits .f32 a ∧ fits .f32 b ∧ fits .f32 c ∧ fits .f32 x ∧ fits .f32 y)
    (he : P.underlying te = some (.float .f32)) (cr : P.cellsOf tr = 2) (cf : P.cellsOf tf = 6) (ce : P.cellsOf te = 1) (ct : P.cellsOf t = 15)
    (hval : Value.okWide P w r b0 t v) (hd : DataW.Trod enc P w base spare held t v d ps) :
    ∃ (s : Value) (f : Nat → Nat) (n : Nat) (k tk : Int) (ta tb tc tx ty : Nat) (dk : Int) (da db dc dx dy l : Nat), v = .agg #[s, .int .i64 k, .int .i64 tk, .float .f32 ta, .float .f32 tb, .float .f32 tc, .float .f32 tx, .float .f32 ty, .int .i64 dk, .float .f32 da, .float .f32 db, .float .f32 dc, .float .f32 dx, .float .f32 dy, .float .f32 l] ∧
      ((Lit.int .i64 k).wf = true ∧ (Lit.int .i64 tk).wf = true ∧ fits .f32 ta ∧ fits .f32 tb ∧ fits .f32 tc ∧ fits .f32 tx ∧ fits .f32 ty ∧ (Lit.int .i64 dk).wf = true ∧ fits .f32 da ∧ fits .f32 db ∧ fits .f32 dc ∧ fits .f32 dx ∧ fits .f32 dy ∧ fits .f32 l) ∧ SlIn w s f n := by
  simp only [Value.okWide, ht] at hval
  obtain ⟨cs, rfl, hsz, _⟩ := hval
  obtain ⟨fuel, hf⟩ := hd
  simp only [Value.cells] at hf
  obtain ⟨xs, m, _, _, hlen, hl, hi⟩ := DataW.trod_struct ht hf
  simp only [Prod.mk.injEq] at e0 e1 e2 e3
  have g0 := hi 0 f0 rfl
  have g1 := hi 1 f1 rfl
  have g2 := hi 2 f2 rfl
  have g3 := hi 3 f3 rfl
  rw [e0.1, e0.2, cr] at g0
  rw [e1.1, e1.2, cf] at g1
  rw [e2.1, e2.2, cf] at g2
  rw [e3.1, e3.2, ce] at g3
  rw [List.getElem?_eq_getElem (by simp_all)] at g0 g1 g2 g3
  have hlen : cs.toList.length = 15 := hlen.trans ct
  obtain ⟨s, f, n, k, q0, w0, z0⟩ := hr _ _ _ g0
  obtain ⟨tk, ta, tb, tc, tx, ty, q1, w1⟩ := hfil _ _ _ g1
  obtain ⟨dk, da, db, dc, dx, dy, q2, w2⟩ := hfil _ _ _ g2
  obtain ⟨l⟩ := cs
  simp only at *
  match l, hlen with
  | [v0, v1, v2, v3, v4, v5, v6, v7, v8, v9, v10, v11, v12, v13, v14], _ =>
    simp only [List.drop_zero, List.drop_succ_cons, List.take_succ_cons, List.take_zero, List.cons.injEq, and_true] at q0 q1 q2 g3
    obtain ⟨rfl, rfl⟩ := q0
    obtain ⟨rfl, rfl, rfl, rfl, rfl, rfl⟩ := q1
    obtain ⟨rfl, rfl, rfl, rfl, rfl, rfl⟩ := q2
    obtain ⟨lo, rfl, hlo⟩ := trod_float_cell he g3
    exact ⟨_, f, n, k, tk, ta, tb, tc, tx, ty, dk, da, db, dc, dx, dy, lo, rfl, ⟨w0, w1.1, w1.2.1, w1.2.2.1, w1.2.2.2.1, w1.2.2.2.2.1, w1.2.2.2.2.2, w2.1, w2.2.1, w2.2.2.1, w2.2.2.2.1, w2.2.2.2.2.1, w2.2.2.2.2.2, hlo⟩, z0⟩
end
end Go.Fk

/- An argument of any plain type, opened to a tree. Nothing here names a program. -/
namespace Go.Fk
open Go Go.RowKit Go.ChangeShapes
/-- A cell's kind. -/
inductive Sh where
  | int (k : IntKind)
  | flt (k : FloatKind)
  | bool
  | str
  | sl (wd : Nat) (e : Nat → Sh)
/-- A datum of that kind. -/
def HasSh : Sh → CD → Prop
  | .int k, c => ∃ z, c = .int k z
  | .flt k, c => ∃ x, c = .flt k x
  | .bool, c => ∃ b, c = .bool b
  | .str, c => ∃ s, c = .str s
  | .sl wd e, c => ∃ n x, c = .sl wd n x ∧ ∀ i, i < n → ∀ j, j < wd → HasSh (e j) (x (i * wd + j))
section
variable {H : Type} (enc : TypeId × Value → H) (P : Program) (w : World) (base : Nat) (spare : Nat → Bool) (held : Bool)
/-- Whatever is read at the type t has cells of these kinds. -/
def Opens (t : TypeId) (l : List Sh) : Prop := P.cellsOf t = l.length ∧ ∀ fuel cs (x : DataW H × List MemPlace), DataW.trod enc P w base spare held fuel t cs = some x → cs.length = l.length ∧ ∀ (j : Nat) (v : Value) (s : Sh), cs[j]? = some v → l[j]? = some s → ∃ c, HasSh s c ∧ CD.Rd w w.heap.size c v
def FldO : List Field → Nat → List Sh → Prop
  | [], _, l => l = []
  | f :: fs, off, l => ∃ l1 l2, l = l1 ++ l2 ∧ f.offset = off ∧ Opens enc P w base spare held f.type l1 ∧ FldO fs (off + l1.length) l2
variable {enc P w base spare held}
theorem opens_one {t : TypeId} {s : Sh} (hc : P.cellsOf t = 1) (h : ∀ fuel cs (x : DataW H × List MemPlace), DataW.trod enc P w base spare held fuel t cs = some x → ∃ v c, cs = [v] ∧ HasSh s c ∧ CD.Rd w w.heap.size c v) : Opens enc P w base spare held t [s] := by
  refine ⟨hc, fun fuel cs x hx => ?_⟩
  obtain ⟨v, c, rfl, h1, h2⟩ := h fuel cs x hx
  refine ⟨rfl, fun j v' s' hv hs => ?_⟩
  cases j with
  | zero => simp at hv hs; subst hv hs; exact ⟨c, h1, h2⟩
  | succ j => simp at hv
theorem opens_int {t : TypeId} {k : IntKind} (ht : P.underlying t = some (.int k)) (hc : P.cellsOf t = 1) : Opens enc P w base spare held t [.int k] :=
  opens_one hc (fun fuel cs x h => by
    cases fuel with
    | zero => simp [DataW.trod] at h
    | succ m =>
      rcases cs with _ | ⟨v, _ | ⟨v2, cs⟩⟩
      · simp [DataW.trod, ht] at h
      · cases v <;> simp [DataW.trod, ht] at h
        obtain ⟨⟨rfl, h1⟩, _⟩ := h; exact ⟨_, .int _ _, rfl, ⟨_, rfl⟩, rfl, by simpa [Lit.wf] using h1⟩
      · simp [DataW.trod, ht] at h)
theorem opens_flt {t : TypeId} {k : FloatKind} (ht : P.underlying t = some (.float k)) (hc : P.cellsOf t = 1) : Opens enc P w base spare held t [.flt k] :=
  opens_one hc (fun fuel cs x h => by
    cases fuel with
    | zero => simp [DataW.trod] at h
    | succ m =>
      rcases cs with _ | ⟨v, _ | ⟨v2, cs⟩⟩
      · simp [DataW.trod, ht] at h
      · cases v <;> simp [DataW.trod, ht] at h
        obtain ⟨⟨rfl, h1⟩, _⟩ := h; exact ⟨_, .flt _ _, rfl, ⟨_, rfl⟩, rfl, h1⟩
      · simp [DataW.trod, ht] at h)
theorem opens_bool {t : TypeId} (ht : P.underlying t = some .bool) (hc : P.cellsOf t = 1) : Opens enc P w base spare held t [.bool] :=
  opens_one hc (fun fuel cs x h => by
    cases fuel with
    | zero => simp [DataW.trod] at h
    | succ m =>
      rcases cs with _ | ⟨v, _ | ⟨v2, cs⟩⟩
      · simp [DataW.trod, ht] at h
      · cases v <;> simp [DataW.trod, ht] at h
        exact ⟨_, .bool _, rfl, ⟨_, rfl⟩, rfl⟩
      · simp [DataW.trod, ht] at h)
theorem opens_str {t : TypeId} (ht : P.underlying t = some .string) (hc : P.cellsOf t = 1) : Opens enc P w base spare held t [.str] :=
  opens_one hc (fun fuel cs x h => by
    cases fuel with
    | zero => simp [DataW.trod] at h
    | succ m =>
      rcases cs with _ | ⟨v, _ | ⟨v2, cs⟩⟩
      · simp [DataW.trod, ht] at h
      · cases v <;> simp [DataW.trod, ht] at h
        exact ⟨_, .str _, rfl, ⟨_, rfl⟩, rfl, h.1⟩
      · simp [DataW.trod, ht] at h)
theorem opens_slice {t e : TypeId} {l : List Sh} (ht : P.underlying t = some (.slice e)) (hc : P.cellsOf t = 1) (he : Opens enc P w base spare held e l) : Opens enc P w base spare held t [.sl l.length (fun j => l.getD j .bool)] :=
  opens_one hc (fun fuel cs x h => by
    rcases Go.Deep.open_slice ht h with ⟨rfl, _⟩ | ⟨a, len, cap, m, n, D, Pl, rfl, hb, hl, hm, hmm, _, hx⟩
    · exact ⟨_, .sl l.length 0 (fun _ => .bool false), rfl, ⟨0, _, rfl, fun i hi => absurd hi (by omega)⟩, .inl ⟨rfl, rfl⟩⟩
    · have hle : len ≤ m := by rw [hmm]; split <;> omega
      have key : ∀ q, ∃ c, q < len * l.length → (HasSh (l.getD (q % l.length) .bool) c ∧ ∃ u, w.cell? (a.add q) = some u ∧ CD.Rd w w.heap.size c u) := fun q => by
        by_cases hq : q < len * l.length
        · have hpos : 0 < l.length := by rcases Nat.eq_zero_or_pos l.length with h0 | h0; (rw [h0] at hq; simp at hq); exact h0
          obtain ⟨cs', h1, h2⟩ := hx (q / l.length) (Nat.lt_of_lt_of_le (Nat.div_lt_of_lt_mul (by rw [Nat.mul_comm]; exact hq)) hle)
          obtain ⟨_, h3, h4⟩ := World.cells?_some h1
          rw [he.1] at h3 h4
          have hr := Nat.mod_lt q hpos
          obtain ⟨_, h5⟩ := he.2 _ _ _ h2
          have h6 := h4 (q % l.length) hr
          rw [Go.Deep.add_add, Nat.div_add_mod' q l.length] at h6
          obtain ⟨c, h7, h8⟩ := h5 (q % l.length) (cs'[q % l.length]'(by omega)) (l[q % l.length]'hr) (List.getElem?_eq_getElem (by omega)) (List.getElem?_eq_getElem hr)
          refine ⟨c, fun _ => ⟨?_, _, h6.trans (List.getElem?_eq_getElem (by omega)), h8⟩⟩
          rw [List.getD, List.getElem?_eq_getElem hr]; exact h7
        · exact ⟨.bool false, fun h => absurd h hq⟩
      obtain ⟨X, hX⟩ := Classical.skolem.1 key
      refine ⟨_, .sl l.length len X, rfl, ⟨len, X, rfl, fun i hi j hj => ?_⟩, .inr ⟨a, cap, rfl, hl, hm, fun q hq => ?_⟩⟩
      · have hlt : i * l.length + j < len * l.length := Nat.lt_of_lt_of_le (Nat.add_lt_add_left hj _) (by rw [← Nat.succ_mul]; exact Nat.mul_le_mul_right _ hi)
        have := (hX _ hlt).1
        rwa [Nat.mul_comm i, Nat.mul_add_mod, Nat.mod_eq_of_lt hj, Nat.mul_comm] at this
      · obtain ⟨u, h1, h2⟩ := (hX q hq).2
        refine ⟨?_, u, h1, h2⟩
        have := cell_lt' h1
        rwa [add_block] at this)
theorem fldO_at : ∀ (fs : List Field) (off : Nat) (l : List Sh), FldO enc P w base spare held fs off l → ∀ j, j < l.length → ∃ (i : Nat) (f : Field) (l1 : List Sh) (k : Nat), fs[i]? = some f ∧ Opens enc P w base spare held f.type l1 ∧ f.offset + k = off + j ∧ k < l1.length ∧ l[j]? = l1[k]? := by
  intro fs
  induction fs with
  | nil => intro off l h j hj; simp only [FldO] at h; subst h; simp at hj
  | cons f fs ih =>
    intro off l h j hj
    obtain ⟨l1, l2, rfl, h1, h2, h3⟩ := h
    by_cases hlt : j < l1.length
    · exact ⟨0, f, l1, j, rfl, h2, by omega, hlt, by rw [List.getElem?_append_left hlt]⟩
    · obtain ⟨i, f', l', k, e1, e2, e3, e4, e5⟩ := ih _ _ h3 (j - l1.length) (by simp at hj; omega)
      exact ⟨i + 1, f', l', k, by simpa using e1, e2, by omega, e4, by rw [List.getElem?_append_right (by omega)]; exact e5⟩
theorem opens_struct {t : TypeId} {fs : Array Field} {l : List Sh} (ht : P.underlying t = some (.struct fs)) (hc : P.cellsOf t = l.length) (hf : FldO enc P w base spare held fs.toList 0 l) : Opens enc P w base spare held t l := by
  refine ⟨hc, fun fuel cs x h => ?_⟩
  obtain ⟨xs, m, _, _, hlen, hl, hi⟩ := DataW.trod_struct ht h
  refine ⟨hlen.trans hc, fun j v s hv hs => ?_⟩
  have hj : j < l.length := (List.getElem?_eq_some_iff.1 hs).1
  obtain ⟨i, f, l1, k, e1, e2, e3, e4, e5⟩ := fldO_at _ _ _ hf j hj
  have hi1 : i < xs.length := by rw [hl]; have := (List.getElem?_eq_some_iff.1 e1).1; simpa using this
  have hif := hi i f (by simpa using e1)
  rw [List.getElem?_eq_getElem hi1] at hif
  obtain ⟨_, h2⟩ := e2.2 _ _ _ hif
  refine h2 k v s ?_ (by rw [← e5]; exact hs)
  rw [e2.1, List.getElem?_take_of_lt e4, List.getElem?_drop, e3, Nat.zero_add]; exact hv
theorem rep_at {α : Type} : ∀ (n : Nat) (l : List α) (j : Nat), j < n * l.length → ((List.replicate n l).flatten)[j]? = l[j % l.length]? := by
  intro n l
  induction n with
  | zero => intro j hj; simp at hj
  | succ n ih =>
    intro j hj
    rw [List.replicate_succ, List.flatten_cons]
    by_cases h : j < l.length
    · rw [List.getElem?_append_left h, Nat.mod_eq_of_lt h]
    · have hle : l.length ≤ j := by omega
      rw [List.getElem?_append_right hle, ih (j - l.length) (by rw [Nat.succ_mul] at hj; omega), ← Nat.mod_eq_sub_mod hle]
theorem opens_array {t e : TypeId} {n : Nat} {l : List Sh} (ht : P.underlying t = some (.array n e)) (hc : P.cellsOf t = n * l.length) (he : Opens enc P w base spare held e l) : Opens enc P w base spare held t (List.replicate n l).flatten := by
  have hll : (List.replicate n l).flatten.length = n * l.length := by simp
  refine ⟨hc.trans hll.symm, fun fuel cs x h => ?_⟩
  obtain ⟨xs, m, _, _, hlen, hl, hi⟩ := DataW.trod_array ht h
  refine ⟨(hlen.trans hc).trans hll.symm, fun j v s hv hs => ?_⟩
  have hj : j < n * l.length := by rw [← hll]; exact (List.getElem?_eq_some_iff.1 hs).1
  have hpos : 0 < l.length := by rcases Nat.eq_zero_or_pos l.length with h0 | h0; (rw [h0] at hj; simp at hj); exact h0
  have hr := Nat.mod_lt j hpos
  have hq : j / l.length < n := Nat.div_lt_of_lt_mul (by rw [Nat.mul_comm]; exact hj)
  have h1 := hi (j / l.length) hq
  rw [List.getElem?_eq_getElem (by omega), he.1] at h1
  obtain ⟨_, h2⟩ := he.2 _ _ _ h1
  refine h2 (j % l.length) v s ?_ ?_
  · rw [List.getElem?_take_of_lt hr, List.getElem?_drop, Nat.div_add_mod' j l.length]; exact hv
  · rw [← hs]; exact (rep_at n l j hj).symm
theorem fldO_nil (off : Nat) : FldO enc P w base spare held [] off [] := rfl
theorem fldO_cons {f : Field} {fs : List Field} {off : Nat} {l1 l2 : List Sh} (ho : f.offset = off) (h : Opens enc P w base spare held f.type l1) (hs : FldO enc P w base spare held fs (off + l1.length) l2) : FldO enc P w base spare held (f :: fs) off (l1 ++ l2) := ⟨l1, l2, rfl, ho, h, hs⟩
/-- What is known of cells: their kinds. -/
def HasShL (l : List Sh) (cs : List CD) : Prop := cs.length = l.length ∧ ∀ (j : Nat) (s : Sh) (c : CD), l[j]? = some s → cs[j]? = some c → HasSh s c
theorem HasShL.inv {s : Sh} {l : List Sh} {cs : List CD} (h : HasShL (s :: l) cs) : ∃ c cs', cs = c :: cs' ∧ HasSh s c ∧ HasShL l cs' := by
  obtain ⟨h0, h1⟩ := h
  cases cs with
  | nil => simp at h0
  | cons c cs => exact ⟨c, cs, rfl, h1 0 s c rfl rfl, by simpa using h0, fun j s' c' hs hc => h1 (j + 1) s' c' (by simpa using hs) (by simpa using hc)⟩
theorem HasShL.inv0 {cs : List CD} (h : HasShL [] cs) : cs = [] := by
  have := h.1
  cases cs with
  | nil => rfl
  | cons => simp at this
theorem open_cells {t : TypeId} {l : List Sh} {fuel : Nat} {vs : List Value} {x : DataW H × List MemPlace} (ho : Opens enc P w base spare held t l) (h : DataW.trod enc P w base spare held fuel t vs = some x) : ∃ cs, HasShL l cs ∧ RdL w w.heap.size cs vs := by
  obtain ⟨h0, h1⟩ := ho.2 _ _ _ h
  have key : ∀ j, ∃ c : CD, ∀ v s, vs[j]? = some v → l[j]? = some s → HasSh s c ∧ CD.Rd w w.heap.size c v := fun j => by
    by_cases hj : j < l.length
    · obtain ⟨c, h2, h3⟩ := h1 j (vs[j]'(by omega)) (l[j]'hj) (List.getElem?_eq_getElem (by omega)) (List.getElem?_eq_getElem hj)
      refine ⟨c, fun v s hv hs => ?_⟩
      rw [List.getElem?_eq_getElem (by omega), Option.some.injEq] at hv
      rw [List.getElem?_eq_getElem hj, Option.some.injEq] at hs
      subst hv hs; exact ⟨h2, h3⟩
    · exact ⟨.bool false, fun v s _ hs => absurd (List.getElem?_eq_some_iff.1 hs).1 hj⟩
  obtain ⟨f, hf⟩ := Classical.skolem.1 key
  refine ⟨(List.range l.length).map f, ⟨by simp, fun j s c hs hc => ?_⟩, by simp [h0], fun j v c hv hc => ?_⟩
  · have hj := (List.getElem?_eq_some_iff.1 hs).1
    have : c = f j := by simp [List.getElem?_map, List.getElem?_range hj] at hc; exact hc.symm
    subst this
    exact (hf j (vs[j]'(by omega)) s (List.getElem?_eq_getElem (by omega)) hs).1
  · have hj := (List.getElem?_eq_some_iff.1 hv).1
    have hj' : j < l.length := by omega
    have : c = f j := by simp [List.getElem?_map, List.getElem?_range hj'] at hc; exact hc.symm
    subst this
    exact (hf j v (l[j]'hj') hv (List.getElem?_eq_getElem hj')).2
theorem open_agg {r : Reach} {b0 : Nat} {t : TypeId} {fs : Array Field} {l : List Sh} {v : Value} {d : DataW H} {ps : List MemPlace} (ht : P.underlying t = some (.struct fs)) (ho : Opens enc P w base spare held t l)
    (hval : Value.okWide P w r b0 t v) (hd : DataW.Trod enc P w base spare held t v d ps) : ∃ cs vs, v = .agg vs.toArray ∧ HasShL l cs ∧ RdL w w.heap.size cs vs := by
  simp only [Value.okWide, ht] at hval
  obtain ⟨vs, rfl, hsz, _⟩ := hval
  obtain ⟨fuel, hf⟩ := hd
  simp only [Value.cells] at hf
  obtain ⟨cs, h1, h2⟩ := open_cells ho hf
  exact ⟨cs, vs.toList, by simp, h1, h2⟩
theorem open_sl {r : Reach} {b0 : Nat} {t e : TypeId} {l : List Sh} {v : Value} {d : DataW H} {ps : List MemPlace} (ht : P.underlying t = some (.slice e)) (hc : P.cellsOf t = 1) (ho : Opens enc P w base spare held e l)
    (hval : Value.okWide P w r b0 t v) (hd : DataW.Trod enc P w base spare held t v d ps) : ∃ n x, (∀ i, i < n → ∀ j, j < l.length → HasSh (l.getD j .bool) (x (i * l.length + j))) ∧ (CD.sl l.length n x).Rd w w.heap.size v := by
  obtain ⟨fuel, hf⟩ := hd
  have hvc : v.cells = #[v] := by
    cases v with
    | agg cs => simp [Value.okWide, Cell.okWide, Cell.ok, ht] at hval
    | _ => rfl
  rw [hvc] at hf
  obtain ⟨_, h2⟩ := (opens_slice ht hc ho).2 _ _ _ hf
  obtain ⟨c, ⟨n, x, rfl, h3⟩, h4⟩ := h2 0 v _ rfl rfl
  exact ⟨n, x, h3, h4⟩
end
end Go.Fk

/- The walk's laws for slices of wide elements; sizes. Nothing here names a program. -/
namespace Go.Fk
open Go Go.RowKit
/-- The sum of the first so many. -/
def sumTo (f : Nat → Nat) : Nat → Nat
  | 0 => 0
  | n + 1 => sumTo f n + f n
theorem sumTo_add (f : Nat → Nat) (a b : Nat) : sumTo f (a + b) = sumTo f a + sumTo (fun j => f (a + j)) b := by
  induction b with
  | zero => rfl
  | succ b ih => rw [← Nat.add_assoc]; simp only [sumTo]; rw [ih]; omega
theorem sumTo_le (f : Nat → Nat) {a b : Nat} (h : a ≤ b) : sumTo f a ≤ sumTo f b := by
  obtain ⟨c, rfl⟩ := Nat.exists_eq_add_of_le h
  rw [sumTo_add]; omega
/-- How many elements a datum's slices have. -/
def CD.sz : CD → Nat
  | .sl wd n x => n + sumTo (fun i => (x i).sz) (n * wd)
  | .str s => s.size
  | _ => 0
def szL (cs : List CD) : Nat := (cs.map CD.sz).sum
/-- What is left of so much. -/
def lessBy (m : Int) (s : Nat) : Int := if m - s < 0 then -1 else m - s
theorem CD.Rd.form {w : World} {B wd n : Nat} {x : Nat → CD} {s : Value} (h : (CD.sl wd n x).Rd w B s) : (s = .slice none 0 0 ∧ n = 0) ∨ ∃ (a : Addr) (cap : Nat), s = .slice (some a) n cap ∧ n ≤ cap ∧ cap ≤ maxLen := by
  rcases h with h | ⟨a, cap, h1, h2, h3, _⟩
  · exact .inl h
  · exact .inr ⟨a, cap, h1, h2, h3⟩
theorem CD.Rd.small {w : World} {B wd n : Nat} {x : Nat → CD} {s : Value} (h : (CD.sl wd n x).Rd w B s) : n ≤ 9223372036854775807 := by
  rcases h.form with ⟨_, rfl⟩ | ⟨a, cap, _, h1, h2⟩
  · omega
  · unfold maxLen at h2; omega
/-- The cells of an element. -/
theorem CD.Rd.elem {w : World} {B wd n cap : Nat} {x : Nat → CD} {a : Addr} (h : (CD.sl wd n x).Rd w B (.slice (some a) n cap)) {k : Nat} (hk : k < n) : ∃ vs : List Value, vs.length = wd ∧ (∀ j v, vs[j]? = some v → w.cell? ((a.add (k * wd)).add j) = some v) ∧ RdL w B ((List.range wd).map (fun j => x (k * wd + j))) vs := by
  rcases h with ⟨h, _⟩ | ⟨a', cap', h1, h2, h3, h4⟩
  · cases h
  · simp only [Value.slice.injEq, Option.some.injEq, true_and] at h1
    obtain ⟨rfl, rfl⟩ := h1
    have key : ∀ j, ∃ u, j < wd → w.cell? (a.add (k * wd + j)) = some u ∧ CD.Rd w B (x (k * wd + j)) u := fun j => by
      by_cases hj : j < wd
      · obtain ⟨_, u, h5, h6⟩ := h4 (k * wd + j) (Nat.lt_of_lt_of_le (Nat.add_lt_add_left hj _) (by rw [← Nat.succ_mul]; exact Nat.mul_le_mul_right _ hk))
        exact ⟨u, fun _ => ⟨h5, h6⟩⟩
      · exact ⟨undef, fun h => absurd h hj⟩
    obtain ⟨f, hf⟩ := Classical.skolem.1 key
    refine ⟨(List.range wd).map f, by simp, fun j v hv => ?_, by simp, fun j v c hv hc => ?_⟩
    · have hj : j < wd := by have := (List.getElem?_eq_some_iff.1 hv).1; simpa using this
      simp [List.getElem?_map, List.getElem?_range hj] at hv
      subst hv
      rw [Go.Deep.add_add]; exact (hf j hj).1
    · have hj : j < wd := by have := (List.getElem?_eq_some_iff.1 hv).1; simpa using this
      simp [List.getElem?_map, List.getElem?_range hj] at hv hc
      subst hv hc
      exact (hf j hj).2
theorem LayL.append {w : World} {S S1 S2 : Nat → Prop} {cs1 cs2 : List CD} {vs1 vs2 : List Value} (h : LayL w S1 cs1 vs1) (hs : LayL w S2 cs2 vs2) (h1 : ∀ j, S1 j → S j) (h2 : ∀ j, S2 j → S j) (h3 : ∀ j, S1 j → S2 j → False) : LayL w S (cs1 ++ cs2) (vs1 ++ vs2) := by
  induction cs1 generalizing vs1 S1 S with
  | nil => obtain rfl := h.inv0; exact hs.mono h2
  | cons c cs ih =>
    obtain ⟨v, vs, A, B, rfl, a1, a2, a3, a4, a5⟩ := h.inv
    exact LayL.cons (S2 := fun j => B j ∨ S2 j) a1 (ih a2 (fun j hj => .inl hj) (fun j hj => .inr hj) (fun j a b => h3 j (a4 j a) b)) (fun j hj => h1 j (a3 j hj)) (fun j hj => hj.elim (fun k => h1 j (a4 j k)) (h2 j)) (fun j a b => b.elim (a5 j a) (h3 j (a3 j a)))
theorem Frg.wrI0 {w0 w w' : World} {post : List Fact} {g : Nat} {t : TypeId} {cs cs' : Array Value} (h : Frg w0 w (rowF g t cs :: post)) (k : Wrote w w' g t cs') : Frg w0 w' (rowF g t cs' :: post) := Frg.wrote [] h k
theorem Frg.wrI1 {w0 w w' : World} {b0 : Fact} {post : List Fact} {g : Nat} {t : TypeId} {cs cs' : Array Value} (h : Frg w0 w (b0 :: rowF g t cs :: post)) (k : Wrote w w' g t cs') : Frg w0 w' (b0 :: rowF g t cs' :: post) := Frg.wrote [b0] h k
theorem Frg.wrI2 {w0 w w' : World} {b0 b1 : Fact} {post : List Fact} {g : Nat} {t : TypeId} {cs cs' : Array Value} (h : Frg w0 w (b0 :: b1 :: rowF g t cs :: post)) (k : Wrote w w' g t cs') : Frg w0 w' (b0 :: b1 :: rowF g t cs' :: post) := Frg.wrote [b0, b1] h k
theorem Frg.wrI3 {w0 w w' : World} {b0 b1 b2 : Fact} {post : List Fact} {g : Nat} {t : TypeId} {cs cs' : Array Value} (h : Frg w0 w (b0 :: b1 :: b2 :: rowF g t cs :: post)) (k : Wrote w w' g t cs') : Frg w0 w' (b0 :: b1 :: b2 :: rowF g t cs' :: post) := Frg.wrote [b0, b1, b2] h k
theorem Frg.wrI4 {w0 w w' : World} {b0 b1 b2 b3 : Fact} {post : List Fact} {g : Nat} {t : TypeId} {cs cs' : Array Value} (h : Frg w0 w (b0 :: b1 :: b2 :: b3 :: rowF g t cs :: post)) (k : Wrote w w' g t cs') : Frg w0 w' (b0 :: b1 :: b2 :: b3 :: rowF g t cs' :: post) := Frg.wrote [b0, b1, b2, b3] h k
theorem Frg.wrI5 {w0 w w' : World} {b0 b1 b2 b3 b4 : Fact} {post : List Fact} {g : Nat} {t : TypeId} {cs cs' : Array Value} (h : Frg w0 w (b0 :: b1 :: b2 :: b3 :: b4 :: rowF g t cs :: post)) (k : Wrote w w' g t cs') : Frg w0 w' (b0 :: b1 :: b2 :: b3 :: b4 :: rowF g t cs' :: post) := Frg.wrote [b0, b1, b2, b3, b4] h k
theorem Frg.wrI6 {w0 w w' : World} {b0 b1 b2 b3 b4 b5 : Fact} {post : List Fact} {g : Nat} {t : TypeId} {cs cs' : Array Value} (h : Frg w0 w (b0 :: b1 :: b2 :: b3 :: b4 :: b5 :: rowF g t cs :: post)) (k : Wrote w w' g t cs') : Frg w0 w' (b0 :: b1 :: b2 :: b3 :: b4 :: b5 :: rowF g t cs' :: post) := Frg.wrote [b0, b1, b2, b3, b4, b5] h k
theorem Frg.wrI7 {w0 w w' : World} {b0 b1 b2 b3 b4 b5 b6 : Fact} {post : List Fact} {g : Nat} {t : TypeId} {cs cs' : Array Value} (h : Frg w0 w (b0 :: b1 :: b2 :: b3 :: b4 :: b5 :: b6 :: rowF g t cs :: post)) (k : Wrote w w' g t cs') : Frg w0 w' (b0 :: b1 :: b2 :: b3 :: b4 :: b5 :: b6 :: rowF g t cs' :: post) := Frg.wrote [b0, b1, b2, b3, b4, b5, b6] h k
theorem Frg.wrI8 {w0 w w' : World} {b0 b1 b2 b3 b4 b5 b6 b7 : Fact} {post : List Fact} {g : Nat} {t : TypeId} {cs cs' : Array Value} (h : Frg w0 w (b0 :: b1 :: b2 :: b3 :: b4 :: b5 :: b6 :: b7 :: rowF g t cs :: post)) (k : Wrote w w' g t cs') : Frg w0 w' (b0 :: b1 :: b2 :: b3 :: b4 :: b5 :: b6 :: b7 :: rowF g t cs' :: post) := Frg.wrote [b0, b1, b2, b3, b4, b5, b6, b7] h k
theorem Frg.wrI9 {w0 w w' : World} {b0 b1 b2 b3 b4 b5 b6 b7 b8 : Fact} {post : List Fact} {g : Nat} {t : TypeId} {cs cs' : Array Value} (h : Frg w0 w (b0 :: b1 :: b2 :: b3 :: b4 :: b5 :: b6 :: b7 :: b8 :: rowF g t cs :: post)) (k : Wrote w w' g t cs') : Frg w0 w' (b0 :: b1 :: b2 :: b3 :: b4 :: b5 :: b6 :: b7 :: b8 :: rowF g t cs' :: post) := Frg.wrote [b0, b1, b2, b3, b4, b5, b6, b7, b8] h k
section
variable {P : Program} {w : World} {ops : Array Oper} {rest : List Oper} {o : Oper} {a : Act} {Q : Exit → Act → World → Prop}
/-- The address of an element. -/
theorem wpList_indexW (hg : o.guard = none) {t : TypeId} {x y : Operand} (hop : o.op = .indexAddr t x y) {p : Addr} {n cap sz i : Nat} {kk : IntKind} {e : TypeId} (hx : a.eval x = .slice (some p) n cap) (hy : a.eval y = .int kk (i : Int)) (hu : P.underlying t = some (.slice e)) (hs : (P.info? e).map (·.size) = some sz) (hi : i < n)
    (h : wpList P ops Q rest (a.put o.dst (.pointer (some (p.add (i * sz))))) w) : wpList P ops Q (o :: rest) a w := by
  refine wpList_plain hg fun K hK' => ?_
  unfold Oper.wp
  cases hq : P.info? e with
  | none => simp [hq] at hs
  | some inf =>
    have hz : inf.size = sz := by simpa [hq] using hs
    have h2 : (i : Int) < (n : Int) := by omega
    simp [execOp, hop, hx, hy, Instr.indexAt, asIntOf, run_underlying hu, sizeOf, typeInfo, hq, hz, h2, hi, Result.andThen]
    exact hK' _ _ h
/-- A wide value is loaded, from wherever. -/
theorem wpList_loadW (hg : o.guard = none) {ty : TypeId} {x : Operand} (hop : o.op = .load ty x) {p : Addr} (hx : a.eval x = .pointer (some p)) (vs : List Value) (hc : ∀ j v, vs[j]? = some v → w.cell? (p.add j) = some v) {d : TypeDesc} (hu : P.underlying ty = some d) (hd : d.isRow = true) {sz : Nat} (hs : (P.info? ty).map (·.size) = some sz) (hl : vs.length = sz)
    (h : wpList P ops Q rest (a.put o.dst (.agg vs.toArray)) w) : wpList P ops Q (o :: rest) a w := by
  refine wpList_plain hg fun K hK' => ?_
  unfold Oper.wp execOp
  have hl' : (loadCells p vs.length).run P w = .ok vs.toArray w := run_loadCells_list (P := P) w p vs hc
  cases hq : P.info? ty with
  | none => simp [hq] at hs
  | some inf =>
    have hz : inf.size = vs.length := by simp [hq] at hs; omega
    have hagg : (isAgg ty).run P w = .ok true w := by
      unfold isAgg
      rw [Sem.run_bind, run_underlying hu w]
      cases d <;> simp_all
    simp [hop, hx, Instr.loadAt, Instr.sureAddr, loadVar, Sem.run_bind, hagg, sizeOf, typeInfo, hq, hz, hl', Result.andThen]
    exact hK' _ _ h
/-- The length of any slice. -/
theorem wpList_lenC (hg : o.guard = none) {x : Operand} {t : TypeId} (hop : o.op = Op.call { callee := Callee.builtin Builtin.len, args := #[x], argTypes := #[t] }) {v : Value} (hx : a.eval x = v) {e : TypeId} (hu : P.underlying t = some (.slice e)) {w1 : World} {B wd : Nat} {y : Nat → CD} {n : Nat} (hv : (CD.sl wd n y).Rd w1 B v)
    (h : wpList P ops Q rest (a.put o.dst (.int .i64 n)) w) : wpList P ops Q (o :: rest) a w := by
  refine wpList_plain hg fun K hK' => ?_
  unfold Oper.wp
  rcases hv.form with ⟨rfl, rfl⟩ | ⟨ad, cap, rfl, _, _⟩
  all_goals
    simp [execOp, hop, hx, Result.andThen, resolve, invoke, builtin, Builtin.len_, run_underlying hu]
    exact hK' _ _ h
end
section
variable {E : Ext} {P : Program} {ops : Array Oper} {W : World} {K : FuncId → Array Value → World → Value → Prop} {Q : Act → World → Prop} {F : Facts} {k : Nat} {o : Oper} {rest : List Oper} {a : Act}
theorem wpFreeD_indexW (hg : o.guard = none) {t : TypeId} {x y : Operand} (hop : o.op = .indexAddr t x y) {p : Addr} {n cap sz i : Nat} {kk : IntKind} {e : TypeId} (hx : a.eval x = .slice (some p) n cap) (hy : a.eval y = .int kk (i : Int)) (hu : P.underlying t = some (.slice e)) (hs : (P.info? e).map (·.size) = some sz) (hi : i < n)
    (h : wpFreeD E P ops .any W K Q rest (k + 1) (a.put o.dst (.pointer (some (p.add (i * sz))))) (F.with k (fun _ => True))) : wpFreeD E P ops .any W K Q (o :: rest) k a F := by
  refine wpFreeD_one hg (.pointer (some (p.add (i * sz)))) (fun w _ => ?_) h
  cases hq : P.info? e with
  | none => simp [hq] at hs
  | some inf =>
    have hz : inf.size = sz := by simpa [hq] using hs
    have h2 : (i : Int) < (n : Int) := by omega
    simp [execOp, hop, hx, hy, Instr.indexAt, asIntOf, run_underlying hu, sizeOf, typeInfo, hq, hz, h2, hi, Result.andThen]
theorem wpFreeD_loadW (hg : o.guard = none) {ty : TypeId} {x : Operand} (hop : o.op = .load ty x) {p : Addr} (hx : a.eval x = .pointer (some p)) (vs : List Value) (hc : ∀ w, E.R W w → ∀ j v, vs[j]? = some v → w.cell? (p.add j) = some v) {d : TypeDesc} (hu : P.underlying ty = some d) (hd : d.isRow = true) {sz : Nat} (hs : (P.info? ty).map (·.size) = some sz) (hl : vs.length = sz)
    (h : wpFreeD E P ops .any W K Q rest (k + 1) (a.put o.dst (.agg vs.toArray)) (F.with k (fun _ => True))) : wpFreeD E P ops .any W K Q (o :: rest) k a F := by
  refine wpFreeD_one hg (.agg vs.toArray) (fun w hw => ?_) h
  have hl' : (loadCells p vs.length).run P w = .ok vs.toArray w := run_loadCells_list (P := P) w p vs (hc w hw)
  cases hq : P.info? ty with
  | none => simp [hq] at hs
  | some inf =>
    have hz : inf.size = vs.length := by simp [hq] at hs; omega
    have hagg : (isAgg ty).run P w = .ok true w := by
      unfold isAgg
      rw [Sem.run_bind, run_underlying hu w]
      cases d <;> simp_all
    simp [execOp, hop, hx, Instr.loadAt, Instr.sureAddr, loadVar, Sem.run_bind, hagg, sizeOf, typeInfo, hq, hz, hl', Result.andThen]
end
end Go.Fk

/- Kinds of data, loosely: what the laws' helpers ask of a tree. Nothing here names a program. -/
namespace Go.Fk
open Go Go.RowKit
/-- The width of a float. -/
def CD.flk : CD → Option FloatKind
  | .flt k _ => some k
  | .fcn k _ => some k
  | _ => none
/-- A float up to the bits of NaN. -/
def CD.fx : CD → Nat
  | .flt k x => can k x
  | .fcn _ x => x
  | _ => 0
def ShOk : Sh → CD → Prop
  | .int k, c => ∃ z, c = .int k z
  | .flt k, c => c.flk = some k
  | .bool, c => ∃ b, c = .bool b
  | .str, c => ∃ s, c = .str s
  | .sl wd e, c => ∃ n x, c = .sl wd n x ∧ ∀ i, i < n → ∀ j, j < wd → ShOk (e j) (x (i * wd + j))
theorem HasSh.ok : ∀ {s : Sh} {c : CD}, HasSh s c → ShOk s c := by
  intro s
  induction s with
  | sl wd e ih => intro c ⟨n, x, h1, h2⟩; exact ⟨n, x, h1, fun i hi j hj => ih j (h2 i hi j hj)⟩
  | flt k => intro c ⟨x, h⟩; subst h; rfl
  | _ => intro c h; exact h
def ShOkL (l : List Sh) (cs : List CD) : Prop := cs.length = l.length ∧ ∀ (j : Nat) (s : Sh) (c : CD), l[j]? = some s → cs[j]? = some c → ShOk s c
theorem HasShL.ok {l : List Sh} {cs : List CD} (h : HasShL l cs) : ShOkL l cs := ⟨h.1, fun j s c hs hc => (h.2 j s c hs hc).ok⟩
theorem ShOkL.inv {s : Sh} {l : List Sh} {cs : List CD} (h : ShOkL (s :: l) cs) : ∃ c cs', cs = c :: cs' ∧ ShOk s c ∧ ShOkL l cs' := by
  obtain ⟨h0, h1⟩ := h
  cases cs with
  | nil => simp at h0
  | cons c cs => exact ⟨c, cs, rfl, h1 0 s c rfl rfl, by simpa using h0, fun j s' c' hs hc => h1 (j + 1) s' c' (by simpa using hs) (by simpa using hc)⟩
theorem ShOkL.inv0 {cs : List CD} (h : ShOkL [] cs) : cs = [] := by
  have := h.1
  cases cs with
  | nil => rfl
  | cons => simp at this
theorem ShOkL.cons {s : Sh} {l : List Sh} {c : CD} {cs : List CD} (h : ShOk s c) (hs : ShOkL l cs) : ShOkL (s :: l) (c :: cs) := ⟨by simp [hs.1], fun j s' c' h1 h2 => by
  cases j with
  | zero => simp at h1 h2; subst h1 h2; exact h
  | succ j => simp at h1 h2; exact hs.2 j s' c' h1 h2⟩
theorem ShOkL.nil : ShOkL [] [] := ⟨rfl, fun j s c h => by simp at h⟩
/-- The kinds of an element. -/
theorem ShOk.elem {l : List Sh} {n : Nat} {x : Nat → CD} (h : ∀ i, i < n → ∀ j, j < l.length → ShOk (l.getD j .bool) (x (i * l.length + j))) {k : Nat} (hk : k < n) : ShOkL l ((List.range l.length).map (fun j => x (k * l.length + j))) :=
  ⟨by simp, fun j s c hs hc => by
    have hj := (List.getElem?_eq_some_iff.1 hs).1
    simp [List.getElem?_map, List.getElem?_range hj] at hc
    subst hc
    have := h k hk j hj
    rwa [List.getD, hs] at this⟩
theorem CD.Rd.fl {w : World} {B : Nat} {c : CD} {v : Value} {k : FloatKind} (h : c.Rd w B v) (hk : c.flk = some k) : ∃ y, v = .float k y ∧ fits k y ∧ can k y = c.fx := by
  cases c with
  | flt k' x => obtain ⟨rfl, hf⟩ := h; simp [CD.flk] at hk; subst hk; exact ⟨x, rfl, hf, rfl⟩
  | fcn k' x => obtain ⟨y, rfl, hf, hc⟩ := h; simp [CD.flk] at hk; subst hk; exact ⟨y, rfl, hf, hc⟩
  | _ => simp [CD.flk] at hk
/-- What a copy is. -/
def CD.cn : CD → CD
  | .flt k x => .fcn k (can k x)
  | .sl wd n x => .sl wd n (fun i => (x i).cn)
  | c => c
def CD.cp : CD → CD
  | .sl wd n x => .sl wd n (fun i => (x i).cn)
  | c => c
theorem CD.fx_cn (c : CD) : c.cn.fx = c.fx := by cases c <;> rfl
theorem CD.flk_cn (c : CD) : c.cn.flk = c.flk := by cases c <;> rfl
theorem CD.cn_fl {c : CD} {k : FloatKind} (h : c.flk = some k) : c.cn = .fcn k c.fx := by
  cases c <;> simp [CD.flk] at h <;> subst h <;> rfl
theorem ShOk.cn : ∀ {s : Sh} {c : CD}, ShOk s c → ShOk s c.cn := by
  intro s
  induction s with
  | sl wd e ih => intro c ⟨n, x, h1, h2⟩; subst h1; exact ⟨n, _, rfl, fun i hi j hj => ih j (h2 i hi j hj)⟩
  | flt k => intro c h; exact (CD.flk_cn c).trans h
  | _ => intro c ⟨x, h⟩; subst h; exact ⟨x, rfl⟩
theorem ShOk.cp {s : Sh} {c : CD} (h : ShOk s c) : ShOk s c.cp := by
  cases c with
  | sl wd n x => exact ShOk.cn h
  | _ => exact h
theorem ShOkL.cp {l : List Sh} {cs : List CD} (h : ShOkL l cs) : ShOkL l (cs.map CD.cp) := ⟨by simp [h.1], fun j s c hs hc => by
  simp only [List.getElem?_map, Option.map_eq_some_iff] at hc
  obtain ⟨c', h1, rfl⟩ := hc
  exact (h.2 j s c' hs h1).cp⟩
theorem CD.Lay.cn {w : World} {c : CD} {S : Nat → Prop} {v : Value} (h : c.cp.Lay w S v) : c.cn.Lay w S v := by
  cases c with
  | flt k x => obtain ⟨rfl, hf⟩ := h; exact ⟨x, rfl, hf, rfl⟩
  | _ => exact h
/-- A leaf is a leaf wherever. -/
theorem CD.Rd.leafLay {w w' : World} {B : Nat} {S : Nat → Prop} {c : CD} {v : Value} (h : c.Rd w B v) (hc : ∀ wd n x, c ≠ .sl wd n x) : c.cp.Lay w' S v := by
  cases c with
  | sl wd n x => exact absurd rfl (hc wd n x)
  | _ => exact h
theorem flk_ne {c : CD} {k : FloatKind} (h : c.flk = some k) : ∀ wd n x, c ≠ .sl wd n x := by
  intro wd n x e; subst e; simp [CD.flk] at h
/-- Slices of floats. -/
theorem CD.Rd.rdf {w : World} {B : Nat} {s : Value} {x : Nat → CD} {n : Nat} (h : (CD.sl 1 n x).Rd w B s) (hx : ∀ i, i < n → (x i).flk = some .f32) : RdS w B s (fun i => (x i).fx) n := by
  rcases h with h | ⟨a, cap, h1, h2, h3, h4⟩
  · exact .inl h
  · refine .inr ⟨a, cap, h1, h2, h3, fun i hi => ?_⟩
    obtain ⟨h5, u, h6, h7⟩ := h4 i (by simpa using hi)
    obtain ⟨y, rfl, e2, e3⟩ := h7.fl (hx i hi)
    exact ⟨h5, y, h6, e2, e3⟩
theorem ShOk.flts {n : Nat} {x : Nat → CD} {e : Nat → Sh} (h : ∀ i, i < n → ∀ j, j < 1 → ShOk (e j) (x (i * 1 + j))) (he : e 0 = .flt .f32) : ∀ i, i < n → (x i).flk = some .f32 := fun i hi => by
  have := h i hi 0 (by omega)
  rw [he] at this
  have h2 : ShOk (.flt .f32) (x i) := by simpa using this
  exact h2
theorem sumTo_zero {f : Nat → Nat} {n : Nat} (h : ∀ i, i < n → f i = 0) : sumTo f n = 0 := by
  induction n with
  | zero => rfl
  | succ n ih => simp only [sumTo]; rw [ih (fun i hi => h i (by omega)), h n (by omega)]
theorem CD.sz_fl {c : CD} {k : FloatKind} (h : c.flk = some k) : c.sz = 0 := by
  cases c <;> simp [CD.flk] at h <;> rfl
theorem CD.sz_flts {n : Nat} {x : Nat → CD} (h : ∀ i, i < n → (x i).flk = some .f32) : (CD.sl 1 n x).sz = n := by
  simp only [CD.sz, Nat.mul_one]
  rw [sumTo_zero (fun i hi => CD.sz_fl (h i hi))]; rfl
theorem CD.sz_cn : ∀ c : CD, c.cn.sz = c.sz := by
  intro c
  induction c with
  | sl wd n x ih => simp only [CD.cn, CD.sz]; congr 1; congr 1; funext i; exact ih i
  | _ => rfl
theorem lessBy_neg {m : Int} {s : Nat} (h : m - s < 0) : lessBy m s = -1 := if_pos h
theorem lessBy_pos {m : Int} {s : Nat} (h : ¬ m - (s : Int) < 0) : lessBy m s = m - s := if_neg h
def OutI (z : Int) (w : World) (e : Ending) (w' : World) : Prop := e = .returned (.int .i64 z) ∧ le w w'
def OutT (w : World) (e : Ending) (w' : World) : Prop := e = .returned (.bool true) ∧ le w w'
/-- A new struct that owns its memory. -/
def OutA' (cs : List CD) (w : World) (e : Ending) (w' : World) : Prop := ∃ us : List Value, e = .returned (.agg us.toArray) ∧ LayL w' (rng w.heap.size w'.heap.size) cs us ∧ le w w'
def OutC (c : CD) (w : World) (e : Ending) (w' : World) : Prop := ∃ u : Value, e = .returned u ∧ c.Lay w' (rng w.heap.size w'.heap.size) u ∧ le w w'
end Go.Fk

/- A slice of wide elements that is filled element by element; a struct put together of parts. Nothing here names a program. -/
namespace Go.Fk
open Go Go.RowKit
theorem size_patch (cs : Array Value) (o : Nat) (vs : List Value) : (patch cs o vs).size = cs.size := by
  induction vs generalizing cs o with
  | nil => rfl
  | cons v r ih => simp only [patch]; rw [ih]; simp
theorem patch_below (cs : Array Value) (o : Nat) (vs : List Value) {i : Nat} (h : i < o) : (patch cs o vs)[i]? = cs[i]? := by
  induction vs generalizing cs o with
  | nil => rfl
  | cons v r ih => simp only [patch]; rw [ih _ _ (by omega), Array.getElem?_setIfInBounds_ne (by omega)]
theorem patch_at (cs : Array Value) (o : Nat) (vs : List Value) {j : Nat} (h : j < vs.length) (hs : o + vs.length ≤ cs.size) : (patch cs o vs)[o + j]? = vs[j]? := by
  induction vs generalizing cs o j with
  | nil => simp at h
  | cons v r ih =>
    simp only [patch]
    simp at h hs
    cases j with
    | zero => show (patch (cs.setIfInBounds o v) (o + 1) r)[o]? = _; rw [patch_below _ _ _ (by omega), Array.getElem?_setIfInBounds_self_of_lt (by omega)]; rfl
    | succ j => rw [show o + (j + 1) = (o + 1) + j by omega, ih _ _ (by omega) (by simp; omega)]; rfl
/-- So many elements are there. -/
def Part (w : World) (b : Nat) (t : TypeId) (wd n k : Nat) (x : Nat → CD) : Prop := ∃ cs : Array Value, Row w b t cs ∧ cs.size = n * wd ∧ ∃ T : Nat → Nat → Prop, (∀ i j, T i j → b < j ∧ j < w.heap.size) ∧ (∀ i i' j, T i j → T i' j → i = i') ∧ ∀ i, i < k * wd → ∃ u, cs[i]? = some u ∧ CD.Lay w (x i) (T i) u
theorem Part.zero {w : World} {b : Nat} {t : TypeId} {wd n : Nat} {x : Nat → CD} {cs : Array Value} (h : Row w b t cs) (hs : cs.size = n * wd) : Part w b t wd n 0 x :=
  ⟨cs, h, hs, fun _ _ => False, fun _ _ h => h.elim, fun _ _ _ h => h.elim, fun i hi => by simp at hi⟩
theorem Part.step {w w1 w2 : World} {b : Nat} {t : TypeId} {wd n k : Nat} {x : Nat → CD} (h : Part w b t wd n k x) (hk : k < n) (hl : Fk.le w w1) {us : List Value} (hu : LayL w1 (rng w.heap.size w1.heap.size) ((List.range wd).map (fun j => x (k * wd + j))) us)
    {cs0 : Array Value} (hr0 : Row w1 b t cs0) (hW0 : Wrote w1 w2 b t (patch cs0 (k * wd) us)) : Part w2 b t wd n (k + 1) x := by
  obtain ⟨cs, hr, hs, T, t1, t2, t3⟩ := h
  have hcs : cs0 = cs := by
    have h1 := hr.le hl
    unfold Row at hr0 h1
    rw [hr0] at h1
    simpa using h1
  subst hcs
  have hW := hW0
  obtain ⟨ul, U, u1, u2, u3⟩ := hu
  have hul : us.length = wd := by simpa using ul
  have hend : k * wd + wd ≤ n * wd := by rw [← Nat.succ_mul]; exact Nat.mul_le_mul_right _ hk
  refine ⟨_, hW.row, by rw [size_patch]; exact hs, fun i j => if i < k * wd then T i j else U (i - k * wd) j, fun i j hT => ?_, fun i i' j a c => ?_, fun i hi => ?_⟩
  · by_cases hi : i < k * wd
    · simp only [if_pos hi] at hT; have := t1 i j hT; exact ⟨this.1, by rw [hW.size]; exact Nat.lt_of_lt_of_le this.2 hl.size⟩
    · simp only [if_neg hi] at hT; have h0 := u1 _ j hT; exact ⟨Nat.lt_of_lt_of_le hr.lt h0.1, by rw [hW.size]; exact h0.2⟩
  · by_cases hi : i < k * wd <;> by_cases hi' : i' < k * wd
    · simp only [if_pos hi] at a; simp only [if_pos hi'] at c; exact t2 i i' j a c
    · simp only [if_pos hi] at a; simp only [if_neg hi'] at c
      have h1 := t1 i j a; have h2 := u1 _ j c; have := h2.1; omega
    · simp only [if_neg hi] at a; simp only [if_pos hi'] at c
      have h1 := t1 i' j c; have h2 := u1 _ j a; have := h2.1; omega
    · simp only [if_neg hi] at a; simp only [if_neg hi'] at c
      have := u2 _ _ j a c; omega
  · by_cases hlt : i < k * wd
    · obtain ⟨u, e1, e2⟩ := t3 i hlt
      refine ⟨u, by rw [patch_below _ _ _ hlt]; exact e1, ?_⟩
      simp only [if_pos hlt]
      exact e2.ok (fun j hj => by
        have h1 := t1 i j hj
        rw [hW.block j (by omega)]; exact hl.block j h1.2)
    · obtain ⟨j, rfl⟩ : ∃ j, i = k * wd + j := ⟨i - k * wd, by omega⟩
      have hj : j < wd := by rw [Nat.succ_mul] at hi; omega
      refine ⟨us[j]'(by omega), by rw [patch_at _ _ _ (by omega) (by omega)]; exact List.getElem?_eq_getElem (by omega), ?_⟩
      have e2 := u3 j (us[j]'(by omega)) (x (k * wd + j)) (List.getElem?_eq_getElem (by omega)) (by simp [List.getElem?_map, List.getElem?_range hj])
      simp only [if_neg hlt, Nat.add_sub_cancel_left]
      exact e2.ok (fun q hq => by
        have h1 := u1 j q hq
        have h2 := hr.lt
        have := h1.1
        exact hW.block q (by omega))
theorem Part.row {w : World} {b : Nat} {t : TypeId} {wd n k : Nat} {x : Nat → CD} (h : Part w b t wd n k x) : ∃ cs, Row w b t cs ∧ cs.size = n * wd := by
  obtain ⟨cs, hr, hs, _⟩ := h
  exact ⟨cs, hr, hs⟩
theorem Part.full {w : World} {b : Nat} {t : TypeId} {wd n : Nat} {x : Nat → CD} (h : Part w b t wd n n x) (hn : n ≤ maxLen) {S : Nat → Prop} (hS : ∀ j, b ≤ j → j < w.heap.size → S j) : (CD.sl wd n x).Lay w S (.slice (some ⟨b, 0, none⟩) n n) := by
  obtain ⟨cs, hr, hs, T, t1, t2, t3⟩ := h
  exact .inr ⟨b, 0, n, t, cs, rfl, Nat.le_refl _, hn, hS b (Nat.le_refl _) hr.lt, hr, T, fun i j hT => ⟨hS j (by have := t1 i j hT; omega) (t1 i j hT).2, by have := t1 i j hT; omega⟩, t2, fun i hi => by rw [Nat.zero_add]; exact t3 i hi⟩
section
variable {P : Program} {w : World} {ops : Array Oper} {rest : List Oper} {o : Oper} {a : Act} {Q : Exit → Act → World → Prop}
theorem wpList_indexW0 (hg : o.guard = none) {t : TypeId} {x y : Operand} (hop : o.op = .indexAddr t x y) {b off n cap sz i : Nat} {kk : IntKind} {e : TypeId} (hx : a.eval x = .slice (some ⟨b, off, none⟩) n cap) (hy : a.eval y = .int kk (i : Int)) (hu : P.underlying t = some (.slice e)) (hs : (P.info? e).map (·.size) = some sz) (hi : i < n)
    (h : wpList P ops Q rest (a.put o.dst (.pointer (some ⟨b, off + i * sz, none⟩))) w) : wpList P ops Q (o :: rest) a w :=
  wpList_indexW hg hop hx hy hu hs hi (by rw [add_none]; exact h)
/-- The same where the operation is guarded, and wanted. -/
theorem wpList_indexW0G {t : TypeId} {x y : Operand} (hop : o.op = .indexAddr t x y) {b off n cap sz i : Nat} {kk : IntKind} {e : TypeId} (hx : a.eval x = .slice (some ⟨b, off, none⟩) n cap) (hy : a.eval y = .int kk (i : Int)) (hu : P.underlying t = some (.slice e)) (hs : (P.info? e).map (·.size) = some sz) (hi : i < n) (hw : Region.wanted o (yielded ops a.tmps) = true)
    (h : wpList P ops Q rest (a.put o.dst (.pointer (some ⟨b, off + i * sz, none⟩))) w) : wpList P ops Q (o :: rest) a w :=
  wpList_step fun K hK => by
    simp only [hw, if_true]
    unfold Oper.wp
    cases hq : P.info? e with
    | none => simp [hq] at hs
    | some inf =>
      have hz : inf.size = sz := by simpa [hq] using hs
      have h2 : (i : Int) < (n : Int) := by omega
      simp [execOp, hop, hx, hy, Instr.indexAt, asIntOf, run_underlying hu, sizeOf, typeInfo, hq, hz, h2, hi, Result.andThen, add_none]
      exact hK _ _ h
theorem wpList_lenCG {x : Operand} {t : TypeId} (hop : o.op = Op.call { callee := Callee.builtin Builtin.len, args := #[x], argTypes := #[t] }) {v : Value} (hx : a.eval x = v) {e : TypeId} (hu : P.underlying t = some (.slice e)) {w1 : World} {B wd : Nat} {y : Nat → CD} {n : Nat} (hv : (CD.sl wd n y).Rd w1 B v) (hw : Region.wanted o (yielded ops a.tmps) = true)
    (h : wpList P ops Q rest (a.put o.dst (.int .i64 n)) w) : wpList P ops Q (o :: rest) a w :=
  wpList_step fun K hK => by
    simp only [hw, if_true]
    unfold Oper.wp
    rcases hv.form with ⟨rfl, rfl⟩ | ⟨ad, cap, rfl, _, _⟩
    all_goals
      simp [execOp, hop, hx, Result.andThen, resolve, invoke, builtin, Builtin.len_, run_underlying hu]
      exact hK _ _ h
theorem wpList_lenRG {x : Operand} {t : TypeId} (hop : o.op = Op.call { callee := Callee.builtin Builtin.len, args := #[x], argTypes := #[t] }) {v : Value} (hx : a.eval x = v) {e : TypeId} (hu : P.underlying t = some (.slice e)) {w1 : World} {B : Nat} {y : Nat → Nat} {n : Nat} (hv : RdS w1 B v y n) (hw : Region.wanted o (yielded ops a.tmps) = true)
    (h : wpList P ops Q rest (a.put o.dst (.int .i64 n)) w) : wpList P ops Q (o :: rest) a w :=
  wpList_lenCG hop hx hu hv.cd hw h
theorem run_make_wide (t e : TypeId) (sz : Nat) (ht : P.underlying t = some (.slice e)) (hi : (P.info? e).map (fun i => (i.zero.isSome, i.size, decide (i.bytes ≤ 4096))) = some (true, sz, true)) (n : Nat) (hn : n ≤ 1048576) :
    ∃ cs : Array Value, cs.size = n * sz ∧ ∀ w, (Instr.makeSlice t (.int .i64 (n : Int)) (.int .i64 (n : Int))).run P w = .ok (.slice (some ⟨w.heap.size, 0, none⟩) n n) (w.alloc (.cells cs e)) := by
  cases hq : P.info? e with
  | none => simp [hq] at hi
  | some i =>
    simp [hq] at hi
    obtain ⟨h1, h2, h3⟩ := hi
    obtain ⟨z, hz⟩ := Option.isSome_iff_exists.1 h1
    refine ⟨madeCells z.cells (n * sz), size_madeCells _ _, fun w => ?_⟩
    have hb : (i.bytes : Int) * (n : Int) ≤ 281474976710656 := by
      have h0 : i.bytes * n ≤ 4096 * 1048576 := Nat.mul_le_mul h3 hn
      have h4 : ((i.bytes * n : Nat) : Int) ≤ 281474976710656 := by omega
      rwa [Int.natCast_mul] at h4
    have := run_make (P := P) w t e i z ht hq hz .i64 .i64 (n : Int) (n : Int) (by omega) (Int.le_refl _) hb (by omega)
    simpa [h2] using this
end
theorem LayL.cn {w : World} {S : Nat → Prop} {cs : List CD} {us : List Value} (h : LayL w S (cs.map CD.cp) us) : LayL w S (cs.map CD.cn) us := by
  obtain ⟨h0, T, t1, t2, t3⟩ := h
  refine ⟨by simpa using h0, T, t1, t2, fun i v c hv hc => ?_⟩
  simp only [List.getElem?_map, Option.map_eq_some_iff] at hc
  obtain ⟨c', h1, rfl⟩ := hc
  exact (t3 i v c'.cp hv (by simp [h1])).cn
theorem LayL.all_one {w : World} {S : Nat → Prop} {cs : List CD} {us : List Value} (h : LayL w S cs us) : us.toArray.all (·.oneCell') = true := by
  obtain ⟨h0, T, t1, t2, t3⟩ := h
  refine all_oneCell_toArray (fun v hv => ?_)
  obtain ⟨i, hi, rfl⟩ := List.getElem_of_mem hv
  exact (t3 i _ (cs[i]'(by omega)) (List.getElem?_eq_getElem hi) (List.getElem?_eq_getElem (by omega))).one
/-- What has been put together of a frame's facts, the last part first. -/
def Eaten (w0 w : World) (T : List Fact) (cs : List CD) (us : List Value) : Prop := ∃ P, w0.heap.size ≤ P ∧ P ≤ w.heap.size ∧ (∀ e ∈ T, e.hi ≤ P) ∧ LayL w (rng P w.heap.size) cs us
theorem Eaten.start {w0 w : World} {T : List Fact} (h : Frg w0 w T) : Eaten w0 w T [] [] := ⟨w.heap.size, h.size, Nat.le_refl _, fun e he => (h.facts e he).2.1, LayL.nil _ _⟩
theorem Eaten.leaf {w0 w : World} {T : List Fact} {c : CD} {v : Value} {cs : List CD} {us : List Value} (h : Eaten w0 w T cs us) (hc : c.Lay w (fun _ => False) v) : Eaten w0 w T (c :: cs) (v :: us) := by
  obtain ⟨P, h1, h2, h3, h4⟩ := h
  exact ⟨P, h1, h2, h3, LayL.leaf hc h4⟩
theorem Eaten.eat {w0 w : World} {T : List Fact} {lo hi : Nat} {cs1 cs : List CD} {us1 us : List Value} (F : Frg w0 w (layF lo hi cs1 us1 :: T)) (h : Eaten w0 w (layF lo hi cs1 us1 :: T) cs us) : Eaten w0 w T (cs1 ++ cs) (us1 ++ us) := by
  obtain ⟨P, h1, h2, h3, h4⟩ := h
  have f := F.facts _ List.mem_cons_self
  have hh : hi ≤ P := h3 _ List.mem_cons_self
  have f1 : w0.heap.size ≤ lo := f.1
  refine ⟨min lo P, by omega, by omega, fun e he => ?_, LayL.append (F.lay List.mem_cons_self) h4 (fun j hj => ⟨by have := hj.1; omega, by have := hj.2; omega⟩) (fun j hj => ⟨by have := hj.1; omega, hj.2⟩) (fun j a b => by have := a.2; have := b.1; omega)⟩
  have a1 : e.hi ≤ lo := (List.pairwise_cons.1 F.apart).1 e he
  have a2 := h3 e (List.mem_cons_of_mem _ he)
  omega
theorem Eaten.skip {w0 w : World} {T : List Fact} {e : Fact} {cs : List CD} {us : List Value} (h : Eaten w0 w (e :: T) cs us) : Eaten w0 w T cs us := by
  obtain ⟨P, h1, h2, h3, h4⟩ := h
  exact ⟨P, h1, h2, fun x hx => h3 x (List.mem_cons_of_mem _ hx), h4⟩
theorem Eaten.fin {w0 w : World} {T : List Fact} {cs : List CD} {us : List Value} (h : Eaten w0 w T cs us) : LayL w (rng w0.heap.size w.heap.size) cs us := by
  obtain ⟨P, h1, h2, h3, h4⟩ := h
  exact h4.mono (fun j hj => ⟨by have := hj.1; omega, hj.2⟩)
theorem CD.sz_cp (c : CD) : c.cp.sz = c.sz := by
  cases c with
  | sl wd n x => exact CD.sz_cn (.sl wd n x)
  | _ => rfl
theorem szL_cp (cs : List CD) : szL (cs.map CD.cp) = szL cs := by
  unfold szL; rw [List.map_map]; congr 1; exact List.map_congr_left (fun c _ => CD.sz_cp c)
theorem Frg.tl {w0 w : World} {T : List Fact} {e : Fact} (F : Frg w0 w (e :: T)) : Frg w0 w T := F.sub (List.sublist_cons_self _ _)
end Go.Fk

/- Values that lead to blocks' cells (never into the midst of a word): what one owns is read so. Lists of rings. Nothing here names a program. -/
namespace Go.Fk
open Go Go.RowKit
def CD.RdN (w : World) (B : Nat) : CD → Value → Prop
  | .int k z, v => CD.leaf (.int k z) v
  | .flt k x, v => CD.leaf (.flt k x) v
  | .fcn k x, v => CD.leaf (.fcn k x) v
  | .bool b, v => CD.leaf (.bool b) v
  | .str s, v => CD.leaf (.str s) v
  | .sl wd n x, v => (v = .slice none 0 0 ∧ n = 0) ∨ ∃ b o cap, v = .slice (some ⟨b, o, none⟩) n cap ∧ n ≤ cap ∧ cap ≤ maxLen ∧ ∀ i, i < n * wd → b < B ∧ ∃ u, w.cell? ⟨b, o + i, none⟩ = some u ∧ CD.RdN w B (x i) u
theorem CD.RdN.rd {w : World} {B : Nat} : ∀ {c : CD} {v : Value}, c.RdN w B v → c.Rd w B v := by
  intro c
  induction c with
  | sl wd n x ih =>
    intro v h
    rcases h with h | ⟨b, o, cap, h1, h2, h3, h4⟩
    · exact .inl h
    · exact .inr ⟨⟨b, o, none⟩, cap, h1, h2, h3, fun i hi => by obtain ⟨h5, u, h6, h7⟩ := h4 i hi; exact ⟨h5, u, by rw [add_none]; exact h6, ih i h7⟩⟩
  | _ => intro v h; exact h
theorem CD.RdN.le {w w' : World} {B : Nat} (hl : Fk.le w w') : ∀ {c : CD} {v : Value}, c.RdN w B v → c.RdN w' B v := by
  intro c
  induction c with
  | sl wd n x ih =>
    intro v h
    rcases h with h | ⟨b, o, cap, h1, h2, h3, h4⟩
    · exact .inl h
    · exact .inr ⟨b, o, cap, h1, h2, h3, fun i hi => by obtain ⟨h5, u, h6, h7⟩ := h4 i hi; exact ⟨h5, u, (Below.cell hl (cell_lt' h6)).trans h6, ih i h7⟩⟩
  | _ => intro v h; exact h
theorem CD.Lay.rdN {w : World} {B : Nat} : ∀ {c : CD} {S : Nat → Prop} {v : Value}, c.Lay w S v → (∀ j, S j → j < B) → c.RdN w B v := by
  intro c
  induction c with
  | sl wd n x ih =>
    intro S v h hS
    rcases h with h | ⟨b, o, cap, t, cs, h1, h2, h3, h4, h5, T, t1, t2, t3⟩
    · exact .inl h
    · refine .inr ⟨b, o, cap, h1, h2, h3, fun i hi => ?_⟩
      obtain ⟨u, hu, hl⟩ := t3 i hi
      exact ⟨hS b h4, u, (h5.cell? (o + i)).trans hu, ih i hl (fun j hj => hS j (t1 i j hj).1)⟩
  | _ => intro S v h _; exact h
theorem CD.RdN.form {w : World} {B wd n : Nat} {x : Nat → CD} {s : Value} (h : (CD.sl wd n x).RdN w B s) : (s = .slice none 0 0 ∧ n = 0) ∨ ∃ b o cap, s = .slice (some ⟨b, o, none⟩) n cap ∧ n ≤ cap ∧ cap ≤ maxLen := by
  rcases h with h | ⟨b, o, cap, h1, h2, h3, _⟩
  · exact .inl h
  · exact .inr ⟨b, o, cap, h1, h2, h3⟩
theorem CD.RdN.cell {w : World} {B wd n b o cap : Nat} {x : Nat → CD} (h : (CD.sl wd n x).RdN w B (.slice (some ⟨b, o, none⟩) n cap)) {i : Nat} (hi : i < n * wd) : ∃ u, w.cell? ⟨b, o + i, none⟩ = some u ∧ (x i).RdN w B u := by
  rcases h with ⟨h, _⟩ | ⟨b', o', cap', h1, _, _, h4⟩
  · cases h
  · simp only [Value.slice.injEq, Option.some.injEq, Addr.mk.injEq, and_true, true_and] at h1
    obtain ⟨⟨rfl, rfl⟩, rfl⟩ := h1
    obtain ⟨_, u, h5, h6⟩ := h4 i hi
    exact ⟨u, h5, h6⟩
def RdLN (w : World) (B : Nat) (cs : List CD) (vs : List Value) : Prop := vs.length = cs.length ∧ ∀ (i : Nat) (v : Value) (c : CD), vs[i]? = some v → cs[i]? = some c → c.RdN w B v
theorem RdLN.inv {w : World} {B : Nat} {c : CD} {cs : List CD} {vs : List Value} (h : RdLN w B (c :: cs) vs) : ∃ v vs', vs = v :: vs' ∧ c.RdN w B v ∧ RdLN w B cs vs' := by
  obtain ⟨h0, h1⟩ := h
  cases vs with
  | nil => simp at h0
  | cons v vs => exact ⟨v, vs, rfl, h1 0 v c rfl rfl, by simpa using h0, fun i v' c' hv hc => h1 (i + 1) v' c' (by simpa using hv) (by simpa using hc)⟩
theorem RdLN.inv0 {w : World} {B : Nat} {vs : List Value} (h : RdLN w B [] vs) : vs = [] := by
  have := h.1
  cases vs with
  | nil => rfl
  | cons => simp at this
theorem LayL.rdN {w : World} {B : Nat} {S : Nat → Prop} {cs : List CD} {vs : List Value} (h : LayL w S cs vs) (hS : ∀ j, S j → j < B) : RdLN w B cs vs := by
  obtain ⟨h0, T, t1, t2, t3⟩ := h
  exact ⟨h0, fun i v c hv hc => (t3 i v c hv hc).rdN (fun j hj => hS j (t1 i j hj))⟩
theorem RdLN.le {w w' : World} {B : Nat} {cs : List CD} {vs : List Value} (h : RdLN w B cs vs) (hl : Fk.le w w') : RdLN w' B cs vs := ⟨h.1, fun i v c hv hc => (h.2 i v c hv hc).le hl⟩
theorem RdLN.rd {w : World} {B : Nat} {cs : List CD} {vs : List Value} (h : RdLN w B cs vs) : RdL w B cs vs := ⟨h.1, fun i v c hv hc => (h.2 i v c hv hc).rd⟩
theorem Frg.layN {w0 w : World} {L : List Fact} (h : Frg w0 w L) {lo hi : Nat} {cs : List CD} {vs : List Value} (hm : layF lo hi cs vs ∈ L) : RdLN w hi cs vs := (h.lay hm).rdN (fun _ hj => hj.2)
/-- Do all hold? -/
def allB (p : Nat → Bool) (n : Nat) : Bool := (List.range n).all p
theorem allB_no {p : Nat → Bool} {n i : Nat} (hi : i < n) (h : p i = false) : allB p n = false := by
  rw [Bool.eq_false_iff]; intro hh
  have := List.all_eq_true.1 hh i (List.mem_range.2 hi)
  rw [h] at this; cases this
theorem allB_yes {p : Nat → Bool} {n : Nat} (h : ∀ i, i < n → p i = true) : allB p n = true := List.all_eq_true.2 (fun i hi => h i (List.mem_range.1 hi))
theorem allB_all {p : Nat → Bool} {n : Nat} (h : allB p n = true) : ∀ i, i < n → p i = true := fun i hi => List.all_eq_true.1 h i (List.mem_range.2 hi)
theorem allB_ex {p : Nat → Bool} {n : Nat} (h : allB p n = false) : ∃ i, i < n ∧ p i = false := by
  apply Classical.byContradiction
  intro hn
  have : allB p n = true := allB_yes (fun i hi => by
    cases hb : p i
    · exact absurd ⟨i, hi, hb⟩ hn
    · rfl)
  rw [h] at this; cases this
theorem finB_allB (f : Nat → Nat) (n : Nat) : finB f n = allB (fun i => fin (f i)) n := rfl
/-- The ring with an index in a list. -/
def rgN (x : Nat → CD) (k : Nat) : Nat := match x (k * 2) with | .sl _ n _ => n | _ => 0
def rgX (x : Nat → CD) (k : Nat) : Nat → Nat := match x (k * 2) with | .sl _ _ y => fun i => (y i).fx | _ => fun _ => 0
def rgK (x : Nat → CD) (k : Nat) : Int := match x (k * 2 + 1) with | .int _ z => z | _ => 0
def rgOk (x : Nat → CD) (k : Nat) : Bool := okRing (rgN x k) (rgK x k) && finB (rgX x k) (rgN x k)
/-- A list of rings. -/
def RgsOk (x : Nat → CD) (n : Nat) : Prop := ∀ k, k < n → (∃ y, x (k * 2) = .sl 1 (rgN x k) y ∧ (∀ i, i < rgN x k → (y i).flk = some .f32) ∧ rgX x k = fun i => (y i).fx) ∧ x (k * 2 + 1) = .int .i64 (rgK x k)
theorem rgs_ok {x : Nat → CD} {n : Nat} {e : Nat → Sh} (h : ∀ i, i < n → ∀ j, j < 2 → ShOk (e j) (x (i * 2 + j))) (h0 : ∃ f, e 0 = .sl 1 f ∧ f 0 = .flt .f32) (h1 : e 1 = .int .i64) : RgsOk x n := fun k hk => by
  obtain ⟨f, f0, f1⟩ := h0
  have a := h k hk 0 (by omega)
  have b := h k hk 1 (by omega)
  rw [f0] at a
  rw [h1] at b
  obtain ⟨m, y, e1, e2⟩ := a
  obtain ⟨z, e3⟩ := b
  have e1' : x (k * 2) = .sl 1 m y := by simpa using e1
  have n1 : rgN x k = m := by unfold rgN; rw [e1']
  refine ⟨⟨y, by rw [n1]; exact e1', ?_, by unfold rgX; rw [e1']⟩, ?_⟩
  · rw [n1]; exact ShOk.flts e2 f1
  · unfold rgK; rw [e3]
theorem RgsOk.rds {x : Nat → CD} {n k B : Nat} {w : World} {u : Value} (h : RgsOk x n) (hk : k < n) (hr : (x (k * 2)).Rd w B u) : RdS w B u (rgX x k) (rgN x k) := by
  obtain ⟨⟨y, e1, e2, e3⟩, _⟩ := h k hk
  rw [e1] at hr
  rw [e3]
  exact hr.rdf e2
theorem RgsOk.int {x : Nat → CD} {n k B : Nat} {w : World} {u : Value} (h : RgsOk x n) (hk : k < n) (hr : (x (k * 2 + 1)).Rd w B u) : u = .int .i64 (rgK x k) ∧ (Lit.int .i64 (rgK x k)).wf = true := by
  rw [(h k hk).2] at hr
  exact hr
/-- The rings of a list, where it lies. -/
theorem RgsOk.at {x : Nat → CD} {n k B b o cap : Nat} {w : World} (h : RgsOk x n) (hr : (CD.sl 2 n x).RdN w B (.slice (some ⟨b, o, none⟩) n cap)) (hk : k < n) : ∃ u, w.cell? ⟨b, o + k * 2, none⟩ = some u ∧ w.cell? ⟨b, o + k * 2 + 1, none⟩ = some (.int .i64 (rgK x k)) ∧ (Lit.int .i64 (rgK x k)).wf = true ∧ RdS w B u (rgX x k) (rgN x k) := by
  obtain ⟨u, h1, h2⟩ := hr.cell (i := k * 2) (by omega)
  obtain ⟨v, h3, h4⟩ := hr.cell (i := k * 2 + 1) (by omega)
  obtain ⟨rfl, h5⟩ := h.int hk h4.rd
  exact ⟨u, h1, by rw [Nat.add_assoc]; exact h3, h5, h.rds hk h2.rd⟩
end Go.Fk

/- Names of instruments: 'isName' of the program, 'l08Name' of the model. -/
namespace Go.Fk
open Go Go.RowKit
/-- A byte of a text. -/
def byteN (s : ByteArray) (i : Nat) : Nat := (s.data.toList.getD i 0).toNat
def lowerB (s : ByteArray) (i : Nat) : Bool := decide (97 ≤ byteN s i) && decide (byteN s i ≤ 122)
def nameB (s : ByteArray) : Bool := decide (1 ≤ s.size) && decide (s.size ≤ 12) && allB (lowerB s) s.size
theorem byteN_lt (s : ByteArray) (i : Nat) : byteN s i < 256 := (s.data.toList.getD i 0).toNat_lt
theorem size_nil {s : ByteArray} (h : s.size = 0) : s = ⟨#[]⟩ := by
  obtain ⟨⟨l⟩⟩ := s
  have : l.length = 0 := h
  obtain rfl := List.length_eq_zero_iff.1 this
  rfl
theorem ne_nil {s : ByteArray} (h : s.size ≠ 0) : s.toList.isEmpty = false := by
  have e : s.toList.length = s.size := by rw [ByteArray.toList_eq, Array.length_toList]; rfl
  cases hl : s.toList with
  | nil => rw [hl] at e; exact absurd e.symm h
  | cons a l => rfl
theorem bytesRow_get {s : ByteArray} {cap i : Nat} (h : i < s.size) : (bytesRow s cap)[i]? = some (.int .u8 (byteN s i : Nat)) := by
  have hz : s.data.size = s.size := rfl
  unfold bytesRow
  rw [Array.getElem?_append_left (by simp [hz, h]), Array.getElem?_map, Array.getElem?_eq_getElem (by rw [hz]; exact h)]
  simp only [Option.map_some, byteN]
  congr 3
  rw [List.getD_eq_getElem?_getD, Array.getElem?_toList, Array.getElem?_eq_getElem (by rw [hz]; exact h)]
  rfl
theorem getB {s : ByteArray} {i : Nat} (h : i < s.size) : (s[i]'h).toNat = byteN s i := by
  obtain ⟨⟨l⟩⟩ := s
  have hl : i < l.length := h
  have e : (ByteArray.mk ⟨l⟩)[i]'h = l.getD i 0 := by
    simp only [List.getD, List.getElem?_eq_getElem hl, Option.getD_some]
    rfl
  rw [e]; rfl
theorem name_no {s : ByteArray} {i : Nat} (hi : i < s.size) (h : lowerB s i = false) : nameB s = false := by
  unfold nameB; rw [allB_no hi h, Bool.and_false]
theorem name_yes {s : ByteArray} (h1 : 1 ≤ s.size) (h2 : s.size ≤ 12) (h : ∀ i, i < s.size → lowerB s i = true) : nameB s = true := by
  unfold nameB; rw [allB_yes h]; simp [h1, h2]
end Go.Fk
namespace Go.Proofs.Ytnkjmgadnejdlab
open Go.RowKit Go.Fk
set_option maxRecDepth 100000 in
set_option maxHeartbeats 2000000 in
theorem i_isName (s : ByteArray) (w : World) (hs : s.size ≤ maxLen) : Calls Try.prog 34 #[.string s] w fun e w' => e = .returned (.bool (nameB s)) ∧ le w w' := by
  by_cases h0 : s.size = 0
  · obtain rfl := size_nil h0
    have E : nameB ⟨#[]⟩ = false := by decide
    rw [E]
    go_enter Try.func34, Try.ntmps34
    go_wp2
    go_ret
    exact ⟨rfl, le_refl _⟩
  have hne := ne_nil h0
  unfold maxLen at hs
  by_cases h12 : 12 < s.size
  · have E : nameB s = false := by unfold nameB; rw [decide_eq_false (p := s.size ≤ 12) (by omega)]; simp
    rw [E]
    have h12' : (12 : Int) < (s.size : Int) := by omega
    clear h12
    go_enter Try.func34, Try.ntmps34
    go_wp2
    go_ret
    exact ⟨rfl, le_refl _⟩
  have h12' : ¬ (12 : Int) < (s.size : Int) := by omega
  obtain ⟨cap, hcap⟩ : ∃ cap, cap = grownCap w s.size 0 5 := ⟨_, rfl⟩
  have hconv := run_bytes_of_string (P := Try.prog) w 9 35 5 s Try.underlying9 Try.underlying35 Try.underlying5
  rw [← hcap] at hconv
  clear hcap
  obtain ⟨n, hn⟩ : ∃ n, n = s.size := ⟨_, rfl⟩
  obtain ⟨C, hC⟩ : ∃ C, C = bytesRow s cap := ⟨_, rfl⟩
  have HC := hid (fun i (hi : i < n) => hC ▸ bytesRow_get (cap := cap) (hn ▸ hi))
  rw [← hC, ← hn] at hconv
  rw [← hn] at h0 h12' hs
  have HN := hid hn
  clear hC h12
  have HL := hid (show le w (w.alloc (.cells C 5 (C.size, C.size + 1))).drew from le_trans (le_alloc w (.cells C 5 (C.size, C.size + 1))) (le_drewN _ 1))
  have hcell : ∀ i, i < n → (w.alloc (.cells C 5 (C.size, C.size + 1))).drew.cell? ⟨w.heap.size, i, none⟩ = some (.int .u8 (byteN s i : Nat)) := fun i hi => by
    rw [← HC.out i hi]
    have e : (w.alloc (.cells C 5 (C.size, C.size + 1))).drew.heap[w.heap.size]? = some (.cells C 5 (C.size, C.size + 1)) := by
      show (w.heap.push (.cells C 5 (C.size, C.size + 1)))[w.heap.size]? = _
      simp
    unfold World.cell?
    rw [e]
    rfl
  have HCE := hid hcell
  clear hcell HC
  rw [hn] at h12'
  go_enter Try.func34, Try.ntmps34
  go_wp2
  go_loop [15] (fun i => ∃ j : Nat, j ≤ n ∧ i = .int .i64 j ∧ Hid (∀ k, k < j → lowerB s k = true)) (fun i => n - (intOf i).toNat)
  case atStart => exact ⟨0, by omega, rfl, fun k hk => absurd hk (by omega)⟩
  case round =>
    obtain ⟨j, hj, rfl, HJ⟩ := hrel
    have HN2 := HN.out
    by_cases hlt : j < n
    · have hc := HCE.out j hlt
      have hlt' : (j : Int) < (s.size : Int) := by omega
      have hb := byteN_lt s j
      cases hlo : lowerB s j
      · have E := hid (name_no (HN.out ▸ hlt) hlo)
        unfold lowerB at hlo
        by_cases h97 : byteN s j < 97
        · have g97 : (byteN s j : Int) < 97 := by omega
          clear hlo
          go_wp2
          go_ret
          exact ⟨ret_b E.out.symm, HL.out⟩
        · have g97 : ¬ (byteN s j : Int) < 97 := by omega
          have g122 : (122 : Int) < (byteN s j : Int) := by
            simp only [Bool.and_eq_false_iff, decide_eq_false_iff_not] at hlo
            omega
          clear hlo
          go_wp2
          go_ret
          exact ⟨ret_b E.out.symm, HL.out⟩
      · have HH := hid hlo
        unfold lowerB at hlo
        simp only [Bool.and_eq_true, decide_eq_true_eq] at hlo
        have g97 : ¬ (byteN s j : Int) < 97 := by omega
        have g122 : ¬ (122 : Int) < (byteN s j : Int) := by omega
        clear hlo
        go_wp2
        go_round
        case rel => exact ⟨j + 1, by omega, by go_num, fun k hk => by rcases Nat.lt_succ_iff_lt_or_eq.1 hk with h | rfl; exact HJ.out k h; exact HH.out⟩
        case measure => simp [intOf]; omega
    · obtain rfl : j = n := by omega
      have hlt' : ¬ (j : Int) < (s.size : Int) := by omega
      have E := hid (name_yes (by omega) (by omega) (HN.out ▸ HJ.out))
      go_wp2
      go_ret
      exact ⟨ret_b E.out.symm, HL.out⟩
set_option maxRecDepth 100000 in
set_option maxHeartbeats 2000000 in
theorem s_l08Name (s : ByteArray) (w : World) (hs : s.size ≤ maxLen) : Calls Try.prog 80 #[.string s] w fun e w' => e = .returned (.bool (nameB s)) ∧ le w w' := by
  unfold maxLen at hs
  have HI := hid (fun w' => s_In (s.size : Int) 1 12 w')
  go_enter Try.func80, Try.ntmps80
  go_wp2
  go_loop [3] (fun i => ∃ j : Nat, j ≤ s.size ∧ i = .int .i64 j ∧ Hid (∀ k, k < j → lowerB s k = true)) (fun i => s.size - (intOf i).toNat)
  case atStart => exact ⟨0, by omega, rfl, fun k hk => absurd hk (by omega)⟩
  case round =>
    obtain ⟨j, hj, rfl, HJ⟩ := hrel
    by_cases hlt : j < s.size
    · have hlt' : (j : Int) < (s.size : Int) := by omega
      have hb := byteN_lt s j
      have hg := getB hlt
      cases hlo : lowerB s j
      · have E := hid (name_no hlt hlo)
        unfold lowerB at hlo
        by_cases h97 : byteN s j < 97
        · have g97 : (byteN s j : Int) < 97 := by omega
          clear hlo
          go_wp2
          go_ret
          exact ⟨ret_b E.out.symm, le_refl _⟩
        · have g97 : ¬ (byteN s j : Int) < 97 := by omega
          have g122 : (122 : Int) < (byteN s j : Int) := by
            simp only [Bool.and_eq_false_iff, decide_eq_false_iff_not] at hlo
            omega
          clear hlo
          go_wp2
          go_ret
          exact ⟨ret_b E.out.symm, le_refl _⟩
      · have HH := hid hlo
        unfold lowerB at hlo
        simp only [Bool.and_eq_true, decide_eq_true_eq] at hlo
        have g97 : ¬ (byteN s j : Int) < 97 := by omega
        have g122 : ¬ (122 : Int) < (byteN s j : Int) := by omega
        clear hlo
        go_wp2
        go_round
        case rel => exact ⟨j + 1, by omega, by go_num, fun k hk => by rcases Nat.lt_succ_iff_lt_or_eq.1 hk with h | rfl; exact HJ.out k h; exact HH.out⟩
        case measure => simp [intOf]; omega
    · obtain rfl : j = s.size := by omega
      have E := hid (show (decide ((1 : Int) ≤ (s.size : Int)) && decide ((s.size : Int) ≤ 12)) = nameB s by
        unfold nameB; rw [allB_yes HJ.out, Bool.and_true]
        congr 1 <;> (apply decide_eq_decide.2; omega))
      rw [E.out] at HI
      go_wp2_with (go_at_call 96; ((with_reducible refine (HI.out _).mono ?_); rintro e w1 ⟨rfl, rfl⟩))
      go_ret
      exact ⟨rfl, le_refl _⟩
end Go.Proofs.Ytnkjmgadnejdlab

/- strings.Cut and strings.CutPrefix at a text of one byte. -/
namespace Go.Fk
open Go Go.RowKit
theorem byteN_get {s : ByteArray} {i : Nat} (h : i < s.size) : s.data.toList[i]? = some (s.data.toList.getD i 0) := by
  have hz : s.data.size = s.size := rfl
  rw [List.getD_eq_getElem?_getD, Array.getElem?_toList, Array.getElem?_eq_getElem (by rw [hz]; exact h)]
  rfl
theorem u8_eq {b c : UInt8} : b = c ↔ b.toNat = c.toNat := ⟨fun h => by rw [h], fun h => UInt8.toNat.inj h⟩
theorem idx_none {s : ByteArray} {c : UInt8} (h : ∀ i, i < s.size → byteN s i ≠ c.toNat) : Lib.indexByte s.data.toList c = -1 := by
  rcases (show Lib.indexByte s.data.toList c < 0 ∨ 0 ≤ Lib.indexByte s.data.toList c by omega) with hl | hl
  · have := Lib.indexByte_ge s.data.toList c; omega
  · obtain ⟨o, ho⟩ : ∃ o : Nat, Lib.indexByte s.data.toList c = o := ⟨(Lib.indexByte s.data.toList c).toNat, by omega⟩
    obtain ⟨h1, _⟩ := Lib.indexByte_some ho
    have hlt : o < s.size := by
      have := (List.getElem?_eq_some_iff.1 h1).1
      rwa [Array.length_toList] at this
    rw [byteN_get hlt] at h1
    exact absurd (congrArg UInt8.toNat (Option.some.inj h1)) (h o hlt)
theorem idx_some {s : ByteArray} {c : UInt8} {p : Nat} (hp : p < s.size) (h0 : byteN s p = c.toNat) (h : ∀ i, i < p → byteN s i ≠ c.toNat) : Lib.indexByte s.data.toList c = p := by
  rcases (show Lib.indexByte s.data.toList c < 0 ∨ 0 ≤ Lib.indexByte s.data.toList c by omega) with hl | hl
  · have e : Lib.indexByte s.data.toList c = -1 := by have := Lib.indexByte_ge s.data.toList c; omega
    exact absurd (byteN_get hp ▸ congrArg some (u8_eq.2 h0)) (Lib.indexByte_none e p)
  · obtain ⟨o, ho⟩ : ∃ o : Nat, Lib.indexByte s.data.toList c = o := ⟨(Lib.indexByte s.data.toList c).toNat, by omega⟩
    obtain ⟨h1, h2⟩ := Lib.indexByte_some ho
    have hlt : o < s.size := by
      have := (List.getElem?_eq_some_iff.1 h1).1
      rwa [Array.length_toList] at this
    rw [byteN_get hlt] at h1
    have e1 := congrArg UInt8.toNat (Option.some.inj h1)
    have : ¬ o < p := fun hop => h o hop e1
    have : ¬ p < o := fun hpo => h2 p hpo (by rw [byteN_get hp]; exact congrArg some (u8_eq.2 h0))
    omega
theorem ext_size {s : ByteArray} {a b : Nat} (h1 : a ≤ b) (h2 : b ≤ s.size) : (s.extract a b).size = b - a := by
  have hz : s.data.toList.length = s.size := by rw [Array.length_toList]; rfl
  have e : (s.extract a b).size = (s.extract a b).data.toList.length := by rw [Array.length_toList]; rfl
  rw [e, Lib.extract_data, List.length_take, List.length_drop, hz]
  omega
theorem ext_byte {s : ByteArray} {a b i : Nat} (h1 : a + i < b) (h2 : b ≤ s.size) : byteN (s.extract a b) i = byteN s (a + i) := by
  unfold byteN
  rw [Lib.extract_data, List.getD_eq_getElem?_getD, List.getD_eq_getElem?_getD, List.getElem?_take, if_pos (by omega), List.getElem?_drop]
def negB (s : ByteArray) : Bool := decide (0 < s.size) && decide (byteN s 0 = 45)
/-- What stands behind a minus. -/
def restS (s : ByteArray) : ByteArray := if negB s then s.extract 1 s.size else s
theorem pre_one {s : ByteArray} (h : 0 < s.size) : ((s.extract 0 1).toList == [45]) = decide (byteN s 0 = 45) := by
  have e : (s.extract 0 1).toList = [s.data.toList.getD 0 0] := by
    rw [ByteArray.toList_eq, Lib.extract_data]
    obtain ⟨⟨l⟩⟩ := s
    cases l with
    | nil => exact absurd h (by decide)
    | cons a l => rfl
  rw [e]
  unfold byteN
  generalize s.data.toList.getD 0 0 = b
  rw [Bool.eq_iff_iff]
  simp [u8_eq]
end Go.Fk
namespace Go.Proofs.Ytnkjmgadnejdlab
open Go.RowKit Go.Fk
set_option maxRecDepth 100000 in
theorem i_IndexByteS (s : ByteArray) (c : Int) (w : World) : Calls Try.prog 123 #[.string s, .int .u8 c] w fun e w' => e = .returned (.int .i64 (Lib.indexByte s.data.toList c.toNat.toUInt8)) ∧ w = w' := by
  go_enter Try.func123, Try.ntmps123
  go_wp2
  rw [run_callFunc_extern Try.func130 (by kernel_rfl) (by kernel_rfl) (by kernel_rfl) (e := Extern.BytealgIndexByte.indexByte) (by kernel_rfl), Lib.run_indexByteString]
  simp only [Result.andThen]
  rw [Oper.upon_value]
  go_wp2
  go_ret
  exact ⟨rfl, rfl⟩
set_option maxRecDepth 100000 in
set_option maxHeartbeats 2000000 in
theorem i_Index1 (s : ByteArray) (i : Int) (w : World) (hi : Lib.indexByte s.data.toList 47 = i) : Calls Try.prog 112 #[.string s, .string ⟨#[47]⟩] w fun e w' => e = .returned (.int .i64 i) ∧ w = w' := by
  cases hb : ([47] == s.toList)
  · subst hi
    go_enter Try.func112, Try.ntmps112
    go_wp2_with (go_at_call 123; ((refine (i_IndexByteS _ _ _).mono ?_); rintro e w1 ⟨rfl, rfl⟩))
    go_ret
    exact ⟨rfl, rfl⟩
  · have e0 : i = 0 := by
      have e : s.toList = [47] := (by simpa using hb : [47] = s.toList).symm
      rw [ByteArray.toList_eq] at e
      rw [← hi, e]; decide
    subst e0
    clear hi
    go_enter Try.func112, Try.ntmps112
    go_wp2
    go_ret
    exact ⟨rfl, rfl⟩
set_option maxRecDepth 100000 in
set_option maxHeartbeats 2000000 in
theorem i_CutL_no (s : ByteArray) (w : World) (h : ∀ i, i < s.size → byteN s i ≠ 47) : Calls Try.prog 77 #[.string s, .string ⟨#[47]⟩] w fun e w' => e = .returned (.tuple #[.string s, .string ⟨#[]⟩, .bool false]) ∧ le w w' := by
  have HI := hid (fun w' => i_Index1 s (-1) w' (idx_none h))
  clear h
  go_enter Try.func77, Try.ntmps77
  go_wp2_with (go_at_call 112; ((with_reducible refine (HI.out _).mono ?_); rintro e w1 ⟨rfl, rfl⟩))
  go_ret3
  exact ⟨rfl, le_refl _⟩
set_option maxRecDepth 100000 in
set_option maxHeartbeats 2000000 in
theorem i_CutL_yes (s : ByteArray) (p : Nat) (w : World) (hs : s.size ≤ maxLen) (hp : p < s.size) (h0 : byteN s p = 47) (h : ∀ i, i < p → byteN s i ≠ 47) : Calls Try.prog 77 #[.string s, .string ⟨#[47]⟩] w fun e w' => e = .returned (.tuple #[.string (s.extract 0 p), .string (s.extract (p + 1) s.size), .bool true]) ∧ le w w' := by
  unfold maxLen at hs
  have HI := hid (fun w' => i_Index1 s p w' (idx_some hp h0 h))
  have c1 : (0 : Int) ≤ (p : Int) := by omega
  have c2 : (p : Int) ≤ (s.size : Int) := by omega
  have c3 : (0 : Int) ≤ (p : Int) + 1 := by omega
  have c4 : (p : Int) + 1 ≤ (s.size : Int) := by omega
  clear h h0
  go_enter Try.func77, Try.ntmps77
  go_wp2_with (go_at_call 112; ((with_reducible refine (HI.out _).mono ?_); rintro e w1 ⟨rfl, rfl⟩))
  go_big_quiet (fail)
  go_wp2
  go_ret3
  exact ⟨rfl, le_drewN _ _⟩
theorem i_Cut_no (s : ByteArray) (w : World) (h : ∀ i, i < s.size → byteN s i ≠ 47) : Calls Try.prog 29 #[.string s, .string ⟨#[47]⟩] w fun e w' => e = .returned (.tuple #[.string s, .string ⟨#[]⟩, .bool false]) ∧ le w w' := by
  have HI := hid (fun w' => i_CutL_no s w' h)
  clear h
  go_enter Try.func29, Try.ntmps29
  go_wp2_with (go_at_call 77; ((with_reducible refine (HI.out _).mono ?_); rintro e w1 ⟨rfl, hl⟩; replace hl := hid hl))
  go_ret3
  exact ⟨rfl, hl.out⟩
theorem i_Cut_yes (s : ByteArray) (p : Nat) (w : World) (hs : s.size ≤ maxLen) (hp : p < s.size) (h0 : byteN s p = 47) (h : ∀ i, i < p → byteN s i ≠ 47) : Calls Try.prog 29 #[.string s, .string ⟨#[47]⟩] w fun e w' => e = .returned (.tuple #[.string (s.extract 0 p), .string (s.extract (p + 1) s.size), .bool true]) ∧ le w w' := by
  have HI := hid (fun w' => i_CutL_yes s p w' hs hp h0 h)
  clear h h0 hs hp
  go_enter Try.func29, Try.ntmps29
  go_wp2_with (go_at_call 77; ((with_reducible refine (HI.out _).mono ?_); rintro e w1 ⟨rfl, hl⟩; replace hl := hid hl))
  go_ret3
  exact ⟨rfl, hl.out⟩
set_option maxRecDepth 100000 in
theorem i_HasPre (s : ByteArray) (w : World) (hs : s.size ≤ maxLen) : Calls Try.prog 127 #[.string s, .string ⟨#[45]⟩] w fun e w' => e = .returned (.bool (decide (0 < s.size) && decide (byteN s 0 = 45))) ∧ w = w' := by
  unfold maxLen at hs
  by_cases h : 0 < s.size
  · have c1 : (1 : Int) ≤ (s.size : Int) := by omega
    have E := hid (pre_one h)
    have D := hid (decide_eq_true h)
    clear h
    go_enter Try.func127, Try.ntmps127
    go_wp2
    go_ret
    exact ⟨ret_b (by rw [E.out, D.out, Bool.true_and]), rfl⟩
  · have c1 : ¬ (1 : Int) ≤ (s.size : Int) := by omega
    have D := hid (decide_eq_false h)
    clear h
    go_enter Try.func127, Try.ntmps127
    go_wp2
    go_ret
    exact ⟨ret_b (by rw [D.out, Bool.false_and]), rfl⟩
set_option maxRecDepth 100000 in
theorem i_CutPre (s : ByteArray) (w : World) (hs : s.size ≤ maxLen) : Calls Try.prog 78 #[.string s, .string ⟨#[45]⟩] w fun e w' => e = .returned (.tuple #[.string (restS s), .bool (negB s)]) ∧ w = w' := by
  have HP := hid (fun w' => i_HasPre s w' hs)
  unfold maxLen at hs
  have key : ∀ w', Calls Try.prog 113 #[.string s, .string ⟨#[45]⟩] w' fun e w'' => e = .returned (.tuple #[.string (restS s), .bool (negB s)]) ∧ w' = w'' := by
    intro w'
    cases hn : negB s
    · rw [show restS s = s by unfold restS; rw [hn]; rfl]
      unfold negB at hn
      rw [hn] at HP
      go_enter Try.func113, Try.ntmps113
      go_wp2_with (go_at_call 127; ((with_reducible refine (HP.out _).mono ?_); rintro e w1 ⟨rfl, rfl⟩))
      go_ret2
      exact ⟨rfl, rfl⟩
    · rw [show restS s = s.extract 1 s.size by unfold restS; rw [hn]; rfl]
      have hn' := hn
      unfold negB at hn
      rw [hn] at HP
      have h0 : 0 < s.size := by simp only [Bool.and_eq_true, decide_eq_true_eq] at hn; exact hn.1
      have c1 : (1 : Int) ≤ (s.size : Int) := by omega
      clear h0 hn hn'
      go_enter Try.func113, Try.ntmps113
      go_wp2_with (go_at_call 127; ((with_reducible refine (HP.out _).mono ?_); rintro e w1 ⟨rfl, rfl⟩))
      go_ret2
      exact ⟨rfl, rfl⟩
  have KEY := hid key
  clear key HP hs
  go_enter Try.func78, Try.ntmps78
  go_wp2_with (go_at_call 113; ((with_reducible refine (KEY.out _).mono ?_); rintro e w1 ⟨rfl, rfl⟩))
  go_ret2
  exact ⟨rfl, rfl⟩
end Go.Proofs.Ytnkjmgadnejdlab

/- Whole numbers in texts: 'readWhole', 'readSigned' of the program, 'l08Whole', 'l08Signed' of the model. -/
namespace Go.Fk
open Go Go.RowKit
def digB (s : ByteArray) (i : Nat) : Bool := decide (48 ≤ byteN s i) && decide (byteN s i ≤ 57)
def valN (s : ByteArray) : Nat → Nat
  | 0 => 0
  | k + 1 => 10 * valN s k + (byteN s k - 48)
def okW (s : ByteArray) : Bool := decide (1 ≤ s.size) && decide (s.size ≤ 6) && !(decide (byteN s 0 = 48) && decide (1 < s.size)) && allB (digB s) s.size
def wholeN (s : ByteArray) : Int := if okW s then (valN s s.size : Nat) else 0
theorem valN_lt {s : ByteArray} {k : Nat} (h : ∀ i, i < k → digB s i = true) : valN s k < 10 ^ k := by
  induction k with
  | zero => simp [valN]
  | succ k ih =>
    have h1 := ih (fun i hi => h i (by omega))
    have h2 := h k (by omega)
    unfold digB at h2
    simp only [Bool.and_eq_true, decide_eq_true_eq] at h2
    simp only [valN, Nat.pow_succ]
    omega
theorem okW_no {s : ByteArray} {i : Nat} (hi : i < s.size) (h : digB s i = false) : okW s = false := by
  unfold okW; rw [allB_no hi h, Bool.and_false]
theorem okW_yes {s : ByteArray} (h1 : 1 ≤ s.size) (h2 : s.size ≤ 6) (h3 : ¬ (byteN s 0 = 48 ∧ 1 < s.size)) (h : ∀ i, i < s.size → digB s i = true) : okW s = true := by
  unfold okW
  rw [allB_yes h]
  simp [h1, h2]
  omega
theorem wrap_u8 {n : Nat} (h : n < 256) : IntKind.u8.wrap (n : Int) = n := by
  have : ∀ m : Fin 256, IntKind.u8.wrap ((m : Nat) : Int) = (m : Nat) := by decide +kernel
  exact this ⟨n, h⟩
theorem wrap_u64 {n : Nat} (h : n < 1000000) : IntKind.u64.wrap (n : Int) = n := by
  unfold IntKind.wrap
  simp [IntKind.bits, IntKind.signed]
  omega
theorem list_one {s : ByteArray} (h : 0 < s.size) : (s.toList == [48]) = (decide (byteN s 0 = 48) && decide (s.size = 1)) := by
  rw [ByteArray.toList_eq]
  obtain ⟨⟨l⟩⟩ := s
  cases l with
  | nil => exact absurd h (by decide)
  | cons a l =>
    have e1 : byteN ⟨⟨a :: l⟩⟩ 0 = a.toNat := rfl
    have e2 : (ByteArray.mk ⟨a :: l⟩).size = l.length + 1 := rfl
    rw [e1, e2, Bool.eq_iff_iff]
    cases l with
    | nil => simp [u8_eq]
    | cons b l => simp
end Go.Fk
namespace Go.Proofs.Ytnkjmgadnejdlab
open Go.RowKit Go.Fk
set_option maxRecDepth 100000 in
set_option maxHeartbeats 2000000 in
theorem i_readWhole (s : ByteArray) (w : World) (hs : s.size ≤ maxLen) : Calls Try.prog 31 #[.string s] w fun e w' => e = .returned (.tuple #[.int .i64 (wholeN s), .bool (okW s)]) ∧ le w w' := by
  by_cases h0 : s.size = 0
  · obtain rfl := size_nil h0
    rw [show okW ⟨#[]⟩ = false by decide, show wholeN ⟨#[]⟩ = 0 by decide]
    go_enter Try.func31, Try.ntmps31
    go_wp2
    go_ret2
    exact ⟨rfl, le_refl _⟩
  have hne := ne_nil h0
  unfold maxLen at hs
  have NO : ∀ {P : Prop}, okW s = false → (Ending.returned (.tuple #[.int .i64 (0 : Int), .bool false]) = Ending.returned (.tuple #[.int .i64 (wholeN s), .bool (okW s)])) := fun h => by unfold wholeN; rw [h]; rfl
  by_cases h6 : 6 < s.size
  · have E : okW s = false := by unfold okW; rw [decide_eq_false (p := s.size ≤ 6) (by omega)]; simp
    have HE := hid (NO (P := True) E)
    have h6' : (6 : Int) < (s.size : Int) := by omega
    clear h6 E NO
    go_enter Try.func31, Try.ntmps31
    go_wp2
    go_ret2
    exact ⟨HE.out, le_refl _⟩
  have h6' : ¬ (6 : Int) < (s.size : Int) := by omega
  have hpos : 0 < s.size := by omega
  have hpos' : (0 : Int) < (s.size : Int) := by omega
  have hg := getB hpos
  have hl := list_one hpos
  have hb0 := byteN_lt s 0
  by_cases hz : byteN s 0 = 48 ∧ 1 < s.size
  · have E : okW s = false := by unfold okW; rw [decide_eq_true hz.1, decide_eq_true hz.2]; simp
    have HE := hid (NO (P := True) E)
    have g48 : ((byteN s 0 : Nat) : Int) = 48 := by omega
    rw [show (decide (byteN s 0 = 48) && decide (s.size = 1)) = false by rw [decide_eq_false (p := s.size = 1) (by omega), Bool.and_false]] at hl
    clear E NO hz
    go_enter Try.func31, Try.ntmps31
    go_wp2
    go_ret2
    exact ⟨HE.out, le_refl _⟩
  obtain ⟨cap, hcap⟩ : ∃ cap, cap = grownCap w s.size 0 5 := ⟨_, rfl⟩
  have hconv := run_bytes_of_string (P := Try.prog) w 9 35 5 s Try.underlying9 Try.underlying35 Try.underlying5
  rw [← hcap] at hconv
  clear hcap
  obtain ⟨C, hC⟩ : ∃ C, C = bytesRow s cap := ⟨_, rfl⟩
  have HC := hid (fun i (hi : i < s.size) => hC ▸ bytesRow_get (cap := cap) hi)
  rw [← hC] at hconv
  clear hC
  have HL := hid (show le w (w.alloc (.cells C 5 (C.size, C.size + 1))).drew from le_trans (le_alloc w (.cells C 5 (C.size, C.size + 1))) (le_drewN _ 1))
  have hcell : ∀ i, i < s.size → (w.alloc (.cells C 5 (C.size, C.size + 1))).drew.cell? ⟨w.heap.size, i, none⟩ = some (.int .u8 (byteN s i : Nat)) := fun i hi => by
    rw [← HC.out i hi]
    have e : (w.alloc (.cells C 5 (C.size, C.size + 1))).drew.heap[w.heap.size]? = some (.cells C 5 (C.size, C.size + 1)) := by
      show (w.heap.push (.cells C 5 (C.size, C.size + 1)))[w.heap.size]? = _
      simp
    unfold World.cell?
    rw [e]
    rfl
  have HCE := hid hcell
  have HNO := hid (NO (P := True)); have HZ := hid hz
  clear hcell HC NO
  have hcase : (byteN s 0 = 48 ∧ s.size = 1) ∨ byteN s 0 ≠ 48 := by omega
  have h6n : s.size ≤ 6 := by omega
  have H6 := hid h6n
  clear hz h6 h6n
  rcases hcase with ⟨g48, g1⟩ | g48
  · have g48' : ((byteN s 0 : Nat) : Int) = 48 := by omega
    rw [show (decide (byteN s 0 = 48) && decide (s.size = 1)) = true by rw [decide_eq_true g48, decide_eq_true g1]; rfl] at hl
    have G1 := hid g1
    clear g48 g1
    go_enter Try.func31, Try.ntmps31
    go_wp2
    go_loop [4, 26] (fun m i => ∃ j : Nat, j ≤ s.size ∧ i = .int .i64 j ∧ m = .int .i64 (valN s j : Nat) ∧ Hid (∀ k, k < j → digB s k = true)) (fun _ i => s.size - (intOf i).toNat)
    case atStart => exact ⟨0, by omega, rfl, rfl, fun k hk => absurd hk (by omega)⟩
    case round =>
      obtain ⟨j, hj, rfl, rfl, HJ⟩ := hrel
      have h6n := H6.out
      by_cases hlt : j < s.size
      · have hc := HCE.out j hlt
        have hlt' : (j : Int) < (s.size : Int) := by omega
        have hb := byteN_lt s j
        have hv := valN_lt HJ.out
        have hv6 : 10 ^ j ≤ 10 ^ 6 := Nat.pow_le_pow_right (by omega) (by omega)
        have hv7 : valN s j < 1000000 := by omega
        clear hv hv6
        cases hlo : digB s j
        · have E := hid (HNO.out (okW_no hlt hlo))
          unfold digB at hlo
          by_cases h97 : byteN s j < 48
          · have g97 : (byteN s j : Int) < 48 := by omega
            clear hlo
            go_wp2
            go_ret2
            exact ⟨E.out, HL.out⟩
          · have g97 : ¬ (byteN s j : Int) < 48 := by omega
            have g122 : (57 : Int) < (byteN s j : Int) := by
              simp only [Bool.and_eq_false_iff, decide_eq_false_iff_not] at hlo
              omega
            clear hlo
            go_wp2
            go_ret2
            exact ⟨E.out, HL.out⟩
        · have HH := hid hlo
          unfold digB at hlo
          simp only [Bool.and_eq_true, decide_eq_true_eq] at hlo
          have g97 : ¬ (byteN s j : Int) < 48 := by omega
          have g122 : ¬ (57 : Int) < (byteN s j : Int) := by omega
          have w1 : IntKind.u8.wrap ((byteN s j : Int) - 48) = (byteN s j : Int) - 48 := by
            have e : (byteN s j : Int) - 48 = ((byteN s j - 48 : Nat) : Int) := by omega
            rw [e]; exact wrap_u8 (by omega)
          have w2 : IntKind.i64.wrap (10 * (valN s j : Int)) = 10 * (valN s j : Int) := IntWalk.i64_in _ (by omega)
          have w3 : IntKind.i64.wrap ((byteN s j : Int) - 48) = (byteN s j : Int) - 48 := IntWalk.i64_in _ (by omega)
          have w4 : IntKind.i64.wrap (10 * (valN s j : Int) + ((byteN s j : Int) - 48)) = 10 * (valN s j : Int) + ((byteN s j : Int) - 48) := IntWalk.i64_in _ (by omega)
          have EV := hid (show 10 * (valN s j : Int) + ((byteN s j : Int) - 48) = (valN s (j + 1) : Nat) by simp only [valN]; omega)
          clear hlo
          go_wp2
          go_round
          case rel => exact ⟨j + 1, by omega, by go_num, by rw [← EV.out], fun k hk => by rcases Nat.lt_succ_iff_lt_or_eq.1 hk with h | rfl; exact HJ.out k h; exact HH.out⟩
          case measure => simp [intOf]; omega
      · obtain rfl : j = s.size := by omega
        have hlt' : ¬ (s.size : Int) < (s.size : Int) := by omega
        have E := hid (okW_yes (by omega) (by omega) HZ.out HJ.out)
        go_wp2
        go_ret2
        exact ⟨by unfold wholeN; rw [E.out]; rfl, HL.out⟩
  · have g48' : ¬ ((byteN s 0 : Nat) : Int) = 48 := by omega
    clear g48 hl
    go_enter Try.func31, Try.ntmps31
    go_wp2
    go_loop [4, 26] (fun m i => ∃ j : Nat, j ≤ s.size ∧ i = .int .i64 j ∧ m = .int .i64 (valN s j : Nat) ∧ Hid (∀ k, k < j → digB s k = true)) (fun _ i => s.size - (intOf i).toNat)
    case atStart => exact ⟨0, by omega, rfl, rfl, fun k hk => absurd hk (by omega)⟩
    case round =>
      obtain ⟨j, hj, rfl, rfl, HJ⟩ := hrel
      have h6n := H6.out
      by_cases hlt : j < s.size
      · have hc := HCE.out j hlt
        have hlt' : (j : Int) < (s.size : Int) := by omega
        have hb := byteN_lt s j
        have hv := valN_lt HJ.out
        have hv6 : 10 ^ j ≤ 10 ^ 6 := Nat.pow_le_pow_right (by omega) (by omega)
        have hv7 : valN s j < 1000000 := by omega
        clear hv hv6
        cases hlo : digB s j
        · have E := hid (HNO.out (okW_no hlt hlo))
          unfold digB at hlo
          by_cases h97 : byteN s j < 48
          · have g97 : (byteN s j : Int) < 48 := by omega
            clear hlo
            go_wp2
            go_ret2
            exact ⟨E.out, HL.out⟩
          · have g97 : ¬ (byteN s j : Int) < 48 := by omega
            have g122 : (57 : Int) < (byteN s j : Int) := by
              simp only [Bool.and_eq_false_iff, decide_eq_false_iff_not] at hlo
              omega
            clear hlo
            go_wp2
            go_ret2
            exact ⟨E.out, HL.out⟩
        · have HH := hid hlo
          unfold digB at hlo
          simp only [Bool.and_eq_true, decide_eq_true_eq] at hlo
          have g97 : ¬ (byteN s j : Int) < 48 := by omega
          have g122 : ¬ (57 : Int) < (byteN s j : Int) := by omega
          have w1 : IntKind.u8.wrap ((byteN s j : Int) - 48) = (byteN s j : Int) - 48 := by
            have e : (byteN s j : Int) - 48 = ((byteN s j - 48 : Nat) : Int) := by omega
            rw [e]; exact wrap_u8 (by omega)
          have w2 : IntKind.i64.wrap (10 * (valN s j : Int)) = 10 * (valN s j : Int) := IntWalk.i64_in _ (by omega)
          have w3 : IntKind.i64.wrap ((byteN s j : Int) - 48) = (byteN s j : Int) - 48 := IntWalk.i64_in _ (by omega)
          have w4 : IntKind.i64.wrap (10 * (valN s j : Int) + ((byteN s j : Int) - 48)) = 10 * (valN s j : Int) + ((byteN s j : Int) - 48) := IntWalk.i64_in _ (by omega)
          have EV := hid (show 10 * (valN s j : Int) + ((byteN s j : Int) - 48) = (valN s (j + 1) : Nat) by simp only [valN]; omega)
          clear hlo
          go_wp2
          go_round
          case rel => exact ⟨j + 1, by omega, by go_num, by rw [← EV.out], fun k hk => by rcases Nat.lt_succ_iff_lt_or_eq.1 hk with h | rfl; exact HJ.out k h; exact HH.out⟩
          case measure => simp [intOf]; omega
      · obtain rfl : j = s.size := by omega
        have hlt' : ¬ (s.size : Int) < (s.size : Int) := by omega
        have E := hid (okW_yes (by omega) (by omega) HZ.out HJ.out)
        go_wp2
        go_ret2
        exact ⟨by unfold wholeN; rw [E.out]; rfl, HL.out⟩
end Go.Proofs.Ytnkjmgadnejdlab

/- Divisors: 'isDivisor', bits.OnesCount64. -/

namespace Go.Fk
open Go Go.RowKit
def on1 (n : Int) : Int := IntKind.u64.wrap (bits .and .u64 (n / 2) 6148914691236517205 + bits .and .u64 n 6148914691236517205)
def on2 (x : Int) : Int := IntKind.u64.wrap (bits .and .u64 (x / 4) 3689348814741910323 + bits .and .u64 x 3689348814741910323)
def on3 (x : Int) : Int := bits .and .u64 (IntKind.u64.wrap (x / 16 + x)) 1085102592571150095
def on4 (x : Int) : Int := IntKind.u64.wrap (x + x / 256)
def on5 (x : Int) : Int := IntKind.u64.wrap (x + x / 65536)
def on6 (x : Int) : Int := IntKind.u64.wrap (x + x / 4294967296)
def onesF (n : Int) : Int := bits .and .i64 (wrap64 (on6 (on5 (on4 (on3 (on2 (on1 n))))))) 127
def powB (n : Int) : Bool := bits .and .i64 n (n - 1) == 0
def divB (n : Int) : Bool := decide (2 ≤ n) && decide (n ≤ 1024) && powB n
theorem ones_tab : ∀ m : Fin 1025, 2 ≤ (m : Nat) → (onesF ((m : Nat) : Int) == 1) = powB ((m : Nat) : Int) := by decide +kernel
theorem ones_pow {n : Int} (h1 : 2 ≤ n) (h2 : n ≤ 1024) : (onesF n == 1) = powB n := by
  obtain ⟨m, rfl⟩ : ∃ m : Nat, n = m := ⟨n.toNat, by omega⟩
  exact ones_tab ⟨m, by omega⟩ (by show 2 ≤ m; omega)
end Go.Fk
namespace Go.Proofs.Ytnkjmgadnejdlab
open Go.RowKit Go.Fk
set_option maxRecDepth 100000 in
set_option maxHeartbeats 2000000 in
theorem i_Ones (n : Int) (w : World) : Calls Try.prog 79 #[.int .u64 n] w fun e w' => e = .returned (.int .i64 (onesF n)) ∧ w = w' := by
  go_enter Try.func79, Try.ntmps79
  go_wp2
  have r1 : ∀ n : Int, IntKind.u64.wrap (bits .and .u64 (n / 2) 6148914691236517205 + bits .and .u64 n 6148914691236517205) = on1 n := fun _ => rfl
  have r2 : ∀ n : Int, IntKind.u64.wrap (bits .and .u64 (n / 4) 3689348814741910323 + bits .and .u64 n 3689348814741910323) = on2 n := fun _ => rfl
  have r3 : ∀ n : Int, bits .and .u64 (IntKind.u64.wrap (n / 16 + n)) 1085102592571150095 = on3 n := fun _ => rfl
  have r4 : ∀ n : Int, IntKind.u64.wrap (n + n / 256) = on4 n := fun _ => rfl
  have r5 : ∀ n : Int, IntKind.u64.wrap (n + n / 65536) = on5 n := fun _ => rfl
  have r6 : ∀ n : Int, IntKind.u64.wrap (n + n / 4294967296) = on6 n := fun _ => rfl
  simp only [r1, r2, r3, r4, r5, r6]

  go_ret
  exact ⟨rfl, rfl⟩
theorem i_isDivisor (n : Int) (w : World) (h0 : 0 ≤ n) (h : n < 1000000) : Calls Try.prog 32 #[.int .i64 n] w fun e w' => e = .returned (.bool (divB n)) ∧ w = w' := by
  have hw : IntKind.u64.wrap n = n := by
    obtain ⟨m, rfl⟩ : ∃ m : Nat, n = m := ⟨n.toNat, by omega⟩
    exact wrap_u64 (by omega)
  by_cases h1 : 2 ≤ n
  · by_cases h2 : n ≤ 1024
    · have E := hid (show divB n = (onesF n == 1) by unfold divB; rw [decide_eq_true h1, decide_eq_true h2, ones_pow h1 h2]; rfl)
      have HO := hid (fun w' => i_Ones n w')
      go_enter Try.func32, Try.ntmps32
      go_wp2_with (go_at_call 79; ((with_reducible refine (HO.out _).mono ?_); rintro e w1 ⟨rfl, rfl⟩))
      go_ret
      exact ⟨ret_b E.out.symm, rfl⟩
    · have E := hid (show divB n = false by unfold divB; rw [decide_eq_false h2]; simp)
      go_enter Try.func32, Try.ntmps32
      go_wp2
      go_ret
      exact ⟨ret_b E.out.symm, rfl⟩
  · have E := hid (show divB n = false by unfold divB; rw [decide_eq_false h1]; simp)
    go_enter Try.func32, Try.ntmps32
    go_wp2
    go_ret
    exact ⟨ret_b E.out.symm, rfl⟩
theorem wholeN_bd (s : ByteArray) : 0 ≤ wholeN s ∧ wholeN s < 1000000 := by
  unfold wholeN
  by_cases h : okW s = true
  · rw [if_pos h]
    unfold okW at h
    simp only [Bool.and_eq_true, decide_eq_true_eq] at h
    have h1 := valN_lt (allB_all h.2)
    have h2 : 10 ^ s.size ≤ 10 ^ 6 := Nat.pow_le_pow_right (by omega) h.1.1.2
    omega
  · rw [if_neg h]; omega
def signN (s : ByteArray) : Int := if negB s then -(wholeN (restS s)) else wholeN (restS s)
theorem rest_small {s : ByteArray} (h : s.size ≤ maxLen) : (restS s).size ≤ maxLen := by
  unfold restS
  split
  · rename_i hn
    unfold negB at hn
    simp only [Bool.and_eq_true, decide_eq_true_eq] at hn
    rw [ext_size (by omega) (Nat.le_refl _)]
    omega
  · exact h
set_option maxRecDepth 100000 in
theorem i_readSigned (s : ByteArray) (w : World) (hs : s.size ≤ maxLen) : Calls Try.prog 30 #[.string s] w fun e w' => e = .returned (.tuple #[.int .i64 (signN s), .bool (okW (restS s))]) ∧ le w w' := by
  have HC := hid (fun w' => i_CutPre s w' hs)
  have HR := hid (fun w' => i_readWhole (restS s) w' (rest_small hs))
  have hb := wholeN_bd (restS s)
  have hw : IntKind.i64.wrap (-(wholeN (restS s))) = -(wholeN (restS s)) := IntWalk.i64_in _ (by omega)
  cases hn : negB s
  all_goals
    have E := hid (show signN s = _ by unfold signN; rw [hn])
    rw [E.out]
    rw [hn] at HC
    clear hb hn E
    go_enter Try.func30, Try.ntmps30
    go_wp2_with (first | (go_at_call 78; ((with_reducible refine (HC.out _).mono ?_); rintro e w1 ⟨rfl, rfl⟩)) | (go_at_call 31; ((with_reducible refine (HR.out _).mono ?_); rintro e w1 ⟨rfl, hl⟩; replace hl := hid hl)))
    go_ret2
    exact ⟨rfl, hl.out⟩
end Go.Proofs.Ytnkjmgadnejdlab

/- What grows by append, beside facts of memory. Nothing here names a program. -/
namespace Go.Fk
open Go Go.RowKit
theorem ownsRow_chS {S : Nat → Prop} {w w' : World} {e : TypeId} {n B : Nat} {xs : List Value} {v : Value} (hw : Chg S w w') (h : w.ownsRow B e 1 v n xs) (hS : ∀ i, S i → i < B) : w'.ownsRow B e 1 v n xs := by
  obtain ⟨h1, h2⟩ := h
  refine ⟨h1, ?_⟩
  rcases h2 with h2 | ⟨q, cap, cur, e1, e2, e3, e4⟩
  · exact .inl h2
  · exact .inr ⟨q, cap, cur, e1, e2, by have := hw.row (g := q) (t := e) (cs := cur) e3 (fun hq => by have := hS q hq; omega); exact this, e4⟩
theorem ownBlock_ge {w : World} {B : Nat} {e : TypeId} {z : Nat} {v : Value} {n : Nat} {xs : List Value} (h : w.ownsRow B e z v n xs) : ∀ k, v.ownBlock = some k → B ≤ k := by
  rcases h.2 with ⟨rfl, _⟩ | ⟨q, cap, cur, rfl, hb, _⟩
  · intro k hk; cases hk
  · intro k hk; simp only [Value.ownBlock, Option.some.injEq] at hk; omega
theorem chg_grown {w w' : World} {row : Option Nat} {B : Nat} (h : w.grownBy w' row) (hr : ∀ k, row = some k → B ≤ k) : Chg (B ≤ ·) w w' :=
  ⟨h.os, h.tape, h.output, h.size, fun k hk hn => h.block k hk (fun e => hn (hr k e.symm))⟩
theorem Frg.up {w0 w w' : World} {L : List Fact} {B : Nat} (h : Frg w0 w L) (k : Chg (B ≤ ·) w w') (hB : ∀ e ∈ L, e.hi ≤ B) (h0 : w0.heap.size ≤ B) : Frg w0 w' L :=
  ⟨h.below.trans (k.below (fun i hi => Nat.le_trans h0 hi) h.size), fun e he => by
    obtain ⟨h1, h2, h3⟩ := h.facts e he
    exact ⟨h1, Nat.le_trans h2 k.size, e.ok w w' h3 (fun i _ hi => k.block i (by omega) (fun hb => by have := hB e he; omega))⟩, h.apart⟩
theorem flist_snoc (y : Nat → Nat) (n a : Nat) : flist y n ++ [.float .f32 a] = flist (fun j => if j = n then a else y j) (n + 1) := by
  have h := flist_app y (fun _ => a) n 1
  have h1 : flist (fun _ => a) 1 = [.float .f32 a] := by simp [flist]
  rw [h1] at h
  rw [h]
  apply List.ext_getElem?
  intro i
  by_cases hi : i < n + 1
  · rw [flist_get' _ hi, flist_get' _ hi]
    by_cases e : i = n
    · simp [e]
    · simp [e, show i < n by omega]
  · rw [List.getElem?_eq_none (by rw [flist_length]; omega), List.getElem?_eq_none (by rw [flist_length]; omega)]
theorem Frg.own2 {w0 w w' : World} {L : List Fact} {q n n' : Nat} {s s' : Value} {x x' : Nat → Nat} (h : Frg w0 w L) (k : Below w.heap.size w w') (h1 : w.heap.size ≤ q) (h2 : q ≤ w'.heap.size) (o1 : OwnS w' w.heap.size q s x n) (o2 : OwnS w' q w'.heap.size s' x' n') :
    Frg w0 w' (ownF q w'.heap.size s' x' n' :: ownF w.heap.size q s x n :: L) := by
  refine ⟨(h.le k).below, fun e he => ?_, .cons (fun e he => ?_) (.cons (fun e he => (h.facts e he).2.1) h.apart)⟩
  · rcases List.mem_cons.1 he with rfl | he
    · exact ⟨Nat.le_trans h.size h1, Nat.le_refl _, o2⟩
    · rcases List.mem_cons.1 he with rfl | he
      · exact ⟨h.size, h2, o1⟩
      · exact (h.le k).facts e he
  · rcases List.mem_cons.1 he with rfl | he
    · exact Nat.le_refl q
    · exact Nat.le_trans (h.facts e he).2.1 h1
theorem m12 {b0 b1 b2 b3 b4 b5 b6 b7 b8 b9 b10 b11 a : Fact} {l : List Fact} : a ∈ b0 :: b1 :: b2 :: b3 :: b4 :: b5 :: b6 :: b7 :: b8 :: b9 :: b10 :: b11 :: a :: l := List.mem_cons_of_mem _ (List.mem_cons_of_mem _ (List.mem_cons_of_mem _ (List.mem_cons_of_mem _ (List.mem_cons_of_mem _ (List.mem_cons_of_mem _ (List.mem_cons_of_mem _ (List.mem_cons_of_mem _ (List.mem_cons_of_mem _ (List.mem_cons_of_mem _ (List.mem_cons_of_mem _ (List.mem_cons_of_mem _ (List.mem_cons_self))))))))))))
theorem m13 {b0 b1 b2 b3 b4 b5 b6 b7 b8 b9 b10 b11 b12 a : Fact} {l : List Fact} : a ∈ b0 :: b1 :: b2 :: b3 :: b4 :: b5 :: b6 :: b7 :: b8 :: b9 :: b10 :: b11 :: b12 :: a :: l := List.mem_cons_of_mem _ (List.mem_cons_of_mem _ (List.mem_cons_of_mem _ (List.mem_cons_of_mem _ (List.mem_cons_of_mem _ (List.mem_cons_of_mem _ (List.mem_cons_of_mem _ (List.mem_cons_of_mem _ (List.mem_cons_of_mem _ (List.mem_cons_of_mem _ (List.mem_cons_of_mem _ (List.mem_cons_of_mem _ (List.mem_cons_of_mem _ (List.mem_cons_self)))))))))))))
theorem m14 {b0 b1 b2 b3 b4 b5 b6 b7 b8 b9 b10 b11 b12 b13 a : Fact} {l : List Fact} : a ∈ b0 :: b1 :: b2 :: b3 :: b4 :: b5 :: b6 :: b7 :: b8 :: b9 :: b10 :: b11 :: b12 :: b13 :: a :: l := List.mem_cons_of_mem _ (List.mem_cons_of_mem _ (List.mem_cons_of_mem _ (List.mem_cons_of_mem _ (List.mem_cons_of_mem _ (List.mem_cons_of_mem _ (List.mem_cons_of_mem _ (List.mem_cons_of_mem _ (List.mem_cons_of_mem _ (List.mem_cons_of_mem _ (List.mem_cons_of_mem _ (List.mem_cons_of_mem _ (List.mem_cons_of_mem _ (List.mem_cons_of_mem _ (List.mem_cons_self))))))))))))))
theorem m15 {b0 b1 b2 b3 b4 b5 b6 b7 b8 b9 b10 b11 b12 b13 b14 a : Fact} {l : List Fact} : a ∈ b0 :: b1 :: b2 :: b3 :: b4 :: b5 :: b6 :: b7 :: b8 :: b9 :: b10 :: b11 :: b12 :: b13 :: b14 :: a :: l := List.mem_cons_of_mem _ (List.mem_cons_of_mem _ (List.mem_cons_of_mem _ (List.mem_cons_of_mem _ (List.mem_cons_of_mem _ (List.mem_cons_of_mem _ (List.mem_cons_of_mem _ (List.mem_cons_of_mem _ (List.mem_cons_of_mem _ (List.mem_cons_of_mem _ (List.mem_cons_of_mem _ (List.mem_cons_of_mem _ (List.mem_cons_of_mem _ (List.mem_cons_of_mem _ (List.mem_cons_of_mem _ (List.mem_cons_self)))))))))))))))
theorem m16 {b0 b1 b2 b3 b4 b5 b6 b7 b8 b9 b10 b11 b12 b13 b14 b15 a : Fact} {l : List Fact} : a ∈ b0 :: b1 :: b2 :: b3 :: b4 :: b5 :: b6 :: b7 :: b8 :: b9 :: b10 :: b11 :: b12 :: b13 :: b14 :: b15 :: a :: l := List.mem_cons_of_mem _ (List.mem_cons_of_mem _ (List.mem_cons_of_mem _ (List.mem_cons_of_mem _ (List.mem_cons_of_mem _ (List.mem_cons_of_mem _ (List.mem_cons_of_mem _ (List.mem_cons_of_mem _ (List.mem_cons_of_mem _ (List.mem_cons_of_mem _ (List.mem_cons_of_mem _ (List.mem_cons_of_mem _ (List.mem_cons_of_mem _ (List.mem_cons_of_mem _ (List.mem_cons_of_mem _ (List.mem_cons_of_mem _ (List.mem_cons_self))))))))))))))))
theorem m17 {b0 b1 b2 b3 b4 b5 b6 b7 b8 b9 b10 b11 b12 b13 b14 b15 b16 a : Fact} {l : List Fact} : a ∈ b0 :: b1 :: b2 :: b3 :: b4 :: b5 :: b6 :: b7 :: b8 :: b9 :: b10 :: b11 :: b12 :: b13 :: b14 :: b15 :: b16 :: a :: l := List.mem_cons_of_mem _ (List.mem_cons_of_mem _ (List.mem_cons_of_mem _ (List.mem_cons_of_mem _ (List.mem_cons_of_mem _ (List.mem_cons_of_mem _ (List.mem_cons_of_mem _ (List.mem_cons_of_mem _ (List.mem_cons_of_mem _ (List.mem_cons_of_mem _ (List.mem_cons_of_mem _ (List.mem_cons_of_mem _ (List.mem_cons_of_mem _ (List.mem_cons_of_mem _ (List.mem_cons_of_mem _ (List.mem_cons_of_mem _ (List.mem_cons_of_mem _ (List.mem_cons_self)))))))))))))))))
theorem m18 {b0 b1 b2 b3 b4 b5 b6 b7 b8 b9 b10 b11 b12 b13 b14 b15 b16 b17 a : Fact} {l : List Fact} : a ∈ b0 :: b1 :: b2 :: b3 :: b4 :: b5 :: b6 :: b7 :: b8 :: b9 :: b10 :: b11 :: b12 :: b13 :: b14 :: b15 :: b16 :: b17 :: a :: l := List.mem_cons_of_mem _ (List.mem_cons_of_mem _ (List.mem_cons_of_mem _ (List.mem_cons_of_mem _ (List.mem_cons_of_mem _ (List.mem_cons_of_mem _ (List.mem_cons_of_mem _ (List.mem_cons_of_mem _ (List.mem_cons_of_mem _ (List.mem_cons_of_mem _ (List.mem_cons_of_mem _ (List.mem_cons_of_mem _ (List.mem_cons_of_mem _ (List.mem_cons_of_mem _ (List.mem_cons_of_mem _ (List.mem_cons_of_mem _ (List.mem_cons_of_mem _ (List.mem_cons_of_mem _ (List.mem_cons_self))))))))))))))))))
theorem m19 {b0 b1 b2 b3 b4 b5 b6 b7 b8 b9 b10 b11 b12 b13 b14 b15 b16 b17 b18 a : Fact} {l : List Fact} : a ∈ b0 :: b1 :: b2 :: b3 :: b4 :: b5 :: b6 :: b7 :: b8 :: b9 :: b10 :: b11 :: b12 :: b13 :: b14 :: b15 :: b16 :: b17 :: b18 :: a :: l := List.mem_cons_of_mem _ (List.mem_cons_of_mem _ (List.mem_cons_of_mem _ (List.mem_cons_of_mem _ (List.mem_cons_of_mem _ (List.mem_cons_of_mem _ (List.mem_cons_of_mem _ (List.mem_cons_of_mem _ (List.mem_cons_of_mem _ (List.mem_cons_of_mem _ (List.mem_cons_of_mem _ (List.mem_cons_of_mem _ (List.mem_cons_of_mem _ (List.mem_cons_of_mem _ (List.mem_cons_of_mem _ (List.mem_cons_of_mem _ (List.mem_cons_of_mem _ (List.mem_cons_of_mem _ (List.mem_cons_of_mem _ (List.mem_cons_self)))))))))))))))))))
theorem Frg.mark10 {w0 w w' : World} {lo hi n : Nat} {s : Value} {x x' : Nat → Nat} {l : List Fact} {b0 b1 b2 b3 b4 b5 b6 b7 b8 b9 : Fact} (h : Frg w0 w (b0 :: b1 :: b2 :: b3 :: b4 :: b5 :: b6 :: b7 :: b8 :: b9 :: ownF lo hi s x n :: l)) (hp : OwnS w' lo hi s x' n) (k : Chg (rng lo hi) w w') : Frg w0 w' (b0 :: b1 :: b2 :: b3 :: b4 :: b5 :: b6 :: b7 :: b8 :: b9 :: ownF lo hi s x' n :: l) :=
  Frg.chg [b0, b1, b2, b3, b4, b5, b6, b7, b8, b9] (e := ownF lo hi s x n) (e' := ownF lo hi s x' n) h k hp rfl rfl
theorem Frg.mark11 {w0 w w' : World} {lo hi n : Nat} {s : Value} {x x' : Nat → Nat} {l : List Fact} {b0 b1 b2 b3 b4 b5 b6 b7 b8 b9 b10 : Fact} (h : Frg w0 w (b0 :: b1 :: b2 :: b3 :: b4 :: b5 :: b6 :: b7 :: b8 :: b9 :: b10 :: ownF lo hi s x n :: l)) (hp : OwnS w' lo hi s x' n) (k : Chg (rng lo hi) w w') : Frg w0 w' (b0 :: b1 :: b2 :: b3 :: b4 :: b5 :: b6 :: b7 :: b8 :: b9 :: b10 :: ownF lo hi s x' n :: l) :=
  Frg.chg [b0, b1, b2, b3, b4, b5, b6, b7, b8, b9, b10] (e := ownF lo hi s x n) (e' := ownF lo hi s x' n) h k hp rfl rfl
theorem Frg.mark12 {w0 w w' : World} {lo hi n : Nat} {s : Value} {x x' : Nat → Nat} {l : List Fact} {b0 b1 b2 b3 b4 b5 b6 b7 b8 b9 b10 b11 : Fact} (h : Frg w0 w (b0 :: b1 :: b2 :: b3 :: b4 :: b5 :: b6 :: b7 :: b8 :: b9 :: b10 :: b11 :: ownF lo hi s x n :: l)) (hp : OwnS w' lo hi s x' n) (k : Chg (rng lo hi) w w') : Frg w0 w' (b0 :: b1 :: b2 :: b3 :: b4 :: b5 :: b6 :: b7 :: b8 :: b9 :: b10 :: b11 :: ownF lo hi s x' n :: l) :=
  Frg.chg [b0, b1, b2, b3, b4, b5, b6, b7, b8, b9, b10, b11] (e := ownF lo hi s x n) (e' := ownF lo hi s x' n) h k hp rfl rfl
theorem Frg.mark13 {w0 w w' : World} {lo hi n : Nat} {s : Value} {x x' : Nat → Nat} {l : List Fact} {b0 b1 b2 b3 b4 b5 b6 b7 b8 b9 b10 b11 b12 : Fact} (h : Frg w0 w (b0 :: b1 :: b2 :: b3 :: b4 :: b5 :: b6 :: b7 :: b8 :: b9 :: b10 :: b11 :: b12 :: ownF lo hi s x n :: l)) (hp : OwnS w' lo hi s x' n) (k : Chg (rng lo hi) w w') : Frg w0 w' (b0 :: b1 :: b2 :: b3 :: b4 :: b5 :: b6 :: b7 :: b8 :: b9 :: b10 :: b11 :: b12 :: ownF lo hi s x' n :: l) :=
  Frg.chg [b0, b1, b2, b3, b4, b5, b6, b7, b8, b9, b10, b11, b12] (e := ownF lo hi s x n) (e' := ownF lo hi s x' n) h k hp rfl rfl
theorem Frg.mark14 {w0 w w' : World} {lo hi n : Nat} {s : Value} {x x' : Nat → Nat} {l : List Fact} {b0 b1 b2 b3 b4 b5 b6 b7 b8 b9 b10 b11 b12 b13 : Fact} (h : Frg w0 w (b0 :: b1 :: b2 :: b3 :: b4 :: b5 :: b6 :: b7 :: b8 :: b9 :: b10 :: b11 :: b12 :: b13 :: ownF lo hi s x n :: l)) (hp : OwnS w' lo hi s x' n) (k : Chg (rng lo hi) w w') : Frg w0 w' (b0 :: b1 :: b2 :: b3 :: b4 :: b5 :: b6 :: b7 :: b8 :: b9 :: b10 :: b11 :: b12 :: b13 :: ownF lo hi s x' n :: l) :=
  Frg.chg [b0, b1, b2, b3, b4, b5, b6, b7, b8, b9, b10, b11, b12, b13] (e := ownF lo hi s x n) (e' := ownF lo hi s x' n) h k hp rfl rfl
theorem Frg.mark15 {w0 w w' : World} {lo hi n : Nat} {s : Value} {x x' : Nat → Nat} {l : List Fact} {b0 b1 b2 b3 b4 b5 b6 b7 b8 b9 b10 b11 b12 b13 b14 : Fact} (h : Frg w0 w (b0 :: b1 :: b2 :: b3 :: b4 :: b5 :: b6 :: b7 :: b8 :: b9 :: b10 :: b11 :: b12 :: b13 :: b14 :: ownF lo hi s x n :: l)) (hp : OwnS w' lo hi s x' n) (k : Chg (rng lo hi) w w') : Frg w0 w' (b0 :: b1 :: b2 :: b3 :: b4 :: b5 :: b6 :: b7 :: b8 :: b9 :: b10 :: b11 :: b12 :: b13 :: b14 :: ownF lo hi s x' n :: l) :=
  Frg.chg [b0, b1, b2, b3, b4, b5, b6, b7, b8, b9, b10, b11, b12, b13, b14] (e := ownF lo hi s x n) (e' := ownF lo hi s x' n) h k hp rfl rfl
theorem Frg.mark16 {w0 w w' : World} {lo hi n : Nat} {s : Value} {x x' : Nat → Nat} {l : List Fact} {b0 b1 b2 b3 b4 b5 b6 b7 b8 b9 b10 b11 b12 b13 b14 b15 : Fact} (h : Frg w0 w (b0 :: b1 :: b2 :: b3 :: b4 :: b5 :: b6 :: b7 :: b8 :: b9 :: b10 :: b11 :: b12 :: b13 :: b14 :: b15 :: ownF lo hi s x n :: l)) (hp : OwnS w' lo hi s x' n) (k : Chg (rng lo hi) w w') : Frg w0 w' (b0 :: b1 :: b2 :: b3 :: b4 :: b5 :: b6 :: b7 :: b8 :: b9 :: b10 :: b11 :: b12 :: b13 :: b14 :: b15 :: ownF lo hi s x' n :: l) :=
  Frg.chg [b0, b1, b2, b3, b4, b5, b6, b7, b8, b9, b10, b11, b12, b13, b14, b15] (e := ownF lo hi s x n) (e' := ownF lo hi s x' n) h k hp rfl rfl
end Go.Fk

/- 'l01Split': a text cut at a byte. -/
namespace Go.Fk
open Go Go.RowKit
/-- The pieces that end ahead of so many bytes, and where the next one begins. -/
def splN (s : ByteArray) (c : Nat) : Nat → List ByteArray × Nat
  | 0 => ([], 0)
  | k + 1 => if byteN s k = c then ((splN s c k).1 ++ [s.extract (splN s c k).2 k], k + 1) else splN s c k
def splL (s : ByteArray) (c : Nat) : List ByteArray := (splN s c s.size).1 ++ [s.extract (splN s c s.size).2 s.size]
theorem splN_from {s : ByteArray} {c : Nat} (k : Nat) : (splN s c k).2 ≤ k := by
  induction k with
  | zero => exact Nat.le_refl _
  | succ k ih => simp only [splN]; split <;> (try simp) <;> omega
theorem splN_len {s : ByteArray} {c : Nat} (k : Nat) : (splN s c k).1.length ≤ k := by
  induction k with
  | zero => exact Nat.le_refl _
  | succ k ih => simp only [splN]; split <;> (try simp) <;> omega
def strs (l : List ByteArray) : List Value := l.map Value.string
theorem strs_one (l : List ByteArray) : ∀ u ∈ strs l, u.oneCell' = true := by
  intro u hu
  obtain ⟨x, _, rfl⟩ := List.mem_map.1 hu
  rfl
theorem strs_snoc (l : List ByteArray) (x : ByteArray) : strs l ++ [.string x] = strs (l ++ [x]) := by simp [strs]
theorem strs_len (l : List ByteArray) : (strs l).length = l.length := by simp [strs]
end Go.Fk
namespace Go.Proofs.Ytnkjmgadnejdlab
open Go.RowKit Go.Fk
theorem infoStr1 : (Try.prog.info? 9).map (fun i => (i.zero, i.size, i.bytes)) = some (some (.string ⟨#[]⟩), 1, 16) := by kernel_rfl
set_option maxRecDepth 100000 in
set_option maxHeartbeats 4000000 in
theorem s_l01Split (s : ByteArray) (c : Nat) (w : World) (hs : s.size ≤ 1048576) : Calls Try.prog 74 #[.string s, .int .u8 (c : Int)] w fun e w' => ∃ v, e = .returned v ∧ w'.ownsRow w.heap.size 9 1 v (splL s c).length (strs (splL s c)) ∧ le w w' := by
  have HIN : Hid (∃ i, Try.prog.info? 9 = some i ∧ i.zero = some (.string ⟨#[]⟩) ∧ i.size = 1 ∧ i.bytes = 16) := by
    have h := infoStr1
    cases hi : Try.prog.info? 9 with
    | none => rw [hi] at h; simp at h
    | some i => rw [hi] at h; simp at h; exact ⟨i, rfl, h.1, h.2.1, h.2.2⟩
  obtain ⟨i0, HIN⟩ := HIN
  replace HIN := hid HIN
  go_enter Try.func74, Try.ntmps74
  have OR : Hid ((w.alloc (.cells #[] 9)).ownsRow w.heap.size 9 1 (.slice (some ⟨w.heap.size, 0, none⟩) 0 0) 0 (strs [])) := ⟨rfl, .inr ⟨w.heap.size, 0, #[], rfl, Nat.le_refl _, by have := Row.new w 9 #[]; exact this, Nat.le_refl _, by decide, rfl, rfl⟩⟩
  have F := hid ((Frg.nil w).alloc (.cells #[] 9))
  go_wp2
  go_loopw [5, 6, 7] (fun v f i wr => ∃ j : Nat, j ≤ s.size ∧ i = .int .i64 j ∧ ∃ (L : List ByteArray) (q : Nat), f = .int .i64 q ∧ Hid (splN s c j = (L, q)) ∧ Hid (wr.ownsRow w.heap.size 9 1 v L.length (strs L)) ∧ Hid (Frg w wr [])) (fun _ _ i _ => s.size - (intOf i).toNat)
  case atStart => exact ⟨0, by omega, rfl, [], 0, rfl, rfl, OR.out, F.out⟩
  case round =>
    obtain ⟨j, hj, rfl, L, q, rfl, HJ, HW, FJ⟩ := hrel
    clear F OR
    rename_i wr _
    have HS := hid FJ.out.size
    have hq : q ≤ j := by have := splN_from (s := s) (c := c) j; rw [HJ.out] at this; exact this
    have hL : L.length ≤ j := by have := splN_len (s := s) (c := c) j; rw [HJ.out] at this; exact this
    by_cases hlt : j < s.size
    · have hlt' : (j : Int) < (s.size : Int) := by omega
      have hg := getB hlt
      have c1 : (q : Int) ≤ (j : Int) := by omega
      have c2 : (j : Int) ≤ (s.size : Int) := by omega
      by_cases hb : byteN s j = c
      · have hb' : ((byteN s j : Nat) : Int) = (c : Int) := by omega
        have EJ := hid (show splN s c (j + 1) = (L ++ [s.extract q j], j + 1) by simp only [splN]; rw [if_pos hb, HJ.out])
        clear hb
        go_wp2_with (at_builtin; refine wpList_append_own _ rfl _ _ 116 rfl w.heap.size 9 i0 (.string ⟨#[]⟩) 1 16 Try.underlying116 HIN.out.1 HIN.out.2.1 HIN.out.2.2.1 HIN.out.2.2.2 rfl (by decide) _ _ _ rfl (HW.out.alloc _) ⟨wr.heap.size, 0, none⟩ 1 1 [.string (s.extract q j)] rfl rfl (fun j x hj => by match j, hj with | 0, hj => simp at hj; subst hj; exact (Row.new wr 9 #[.string _]).cell? 0) (fun x hx => by simp at hx; subst hx; rfl) (by unfold maxLen; omega) (by omega) (by have := HS.out; simp; omega) ?_; intro v' w5 hown hgr _; have HOWN := hid hown; have HGR := hid hgr; clear hown hgr)
        go_roundw
        case rel =>
          refine ⟨j + 1, by omega, by go_num, L ++ [s.extract q j], j + 1, by go_num, EJ.out, ?_, ?_⟩
          · have := HOWN.out
            rw [strs_snoc] at this
            show World.ownsRow _ _ _ _ _ _ _
            simpa using this
          · have hch : Chg (w.heap.size ≤ ·) wr w5 := (Chg.of_le (le_alloc _ _)).trans (chg_grown HGR.out (ownBlock_ge HW.out))
            exact FJ.out.up hch (by simp) (Nat.le_refl _)
        case measure => simp [intOf]; omega
      · have hb' : ¬ ((byteN s j : Nat) : Int) = (c : Int) := by omega
        have EJ := hid (show splN s c (j + 1) = (L, q) by simp only [splN]; rw [if_neg hb, HJ.out])
        clear hb
        go_wp2
        go_roundw
        case rel => exact ⟨j + 1, by omega, by go_num, L, q, rfl, EJ.out, HW.out, FJ.out⟩
        case measure => simp [intOf]; omega
    · obtain rfl : j = s.size := by omega
      have hlt' : ¬ (s.size : Int) < (s.size : Int) := by omega
      have c1 : (q : Int) ≤ (s.size : Int) := by omega
      have EL := hid (show splL s c = L ++ [s.extract q s.size] by unfold splL; rw [HJ.out])
      go_wp2_with (at_builtin; refine wpList_append_own _ rfl _ _ 116 rfl w.heap.size 9 i0 (.string ⟨#[]⟩) 1 16 Try.underlying116 HIN.out.1 HIN.out.2.1 HIN.out.2.2.1 HIN.out.2.2.2 rfl (by decide) _ _ _ rfl (HW.out.alloc _) ⟨wr.heap.size, 0, none⟩ 1 1 [.string (s.extract q s.size)] rfl rfl (fun j x hj => by match j, hj with | 0, hj => simp at hj; subst hj; exact (Row.new wr 9 #[.string _]).cell? 0) (fun x hx => by simp at hx; subst hx; rfl) (by unfold maxLen; omega) (by omega) (by have := HS.out; simp; omega) ?_; intro v' w5 hown hgr _; have HOWN := hid hown; have HGR := hid hgr; clear hown hgr)
      go_ret
      have hch : Chg (w.heap.size ≤ ·) wr w5 := (Chg.of_le (le_alloc _ _)).trans (chg_grown HGR.out (ownBlock_ge HW.out))
      refine ⟨_, rfl, ?_, (FJ.out.up hch (by simp) (Nat.le_refl _)).below⟩
      rw [EL.out, ← strs_snoc]
      simpa using HOWN.out
end Go.Proofs.Ytnkjmgadnejdlab

/- Loads that may be guarded (and wanted), the cells being told as facts. Nothing here names a program. -/
namespace Go.Fk
open Go Go.RowKit
section
variable {P : Program} {w : World} {ops : Array Oper} {rest : List Oper} {o : Oper} {a : Act} {Q : Exit → Act → World → Prop}
theorem wpList_load1C {ty : TypeId} {x : Operand} (hop : o.op = .load ty x) {g f : Nat} (hx : a.eval x = .pointer (some ⟨g, f, none⟩)) {v : Value} (hw : Region.wanted o (yielded ops a.tmps) = true) {t : TypeId} {cs : Array Value} (hr : Row w g t cs) (hv : cs[f]? = some v) (hu : ∀ w, (isAgg ty).run P w = .ok false w)
    (h : wpList P ops Q rest (a.put o.dst v) w) : wpList P ops Q (o :: rest) a w := by
  refine wpList_wanted hw fun K hK' => ?_
  unfold Oper.wp execOp
  have hc : w.cell? ⟨g, f, none⟩ = some v := by rw [hr.cell?, hv]
  have hl : (Instr.loadAt ty (.pointer (some ⟨g, f, none⟩))).run P w = .ok v w := by
    simp [Instr.loadAt, Instr.sureAddr, loadVar, hu, hc]
  simp [hop, hx, hl, Result.andThen]
  exact hK' _ _ h
theorem wpList_load1X {ty : TypeId} {x : Operand} (hop : o.op = .load ty x) {g f : Nat} (hx : a.eval x = .pointer (some ⟨g, f, none⟩)) {v : Value} (hw : Region.wanted o (yielded ops a.tmps) = true) (hc : w.cell? ((⟨g, 0, none⟩ : Addr).add f) = some v) (hu : ∀ w, (isAgg ty).run P w = .ok false w)
    (h : wpList P ops Q rest (a.put o.dst v) w) : wpList P ops Q (o :: rest) a w := by
  refine wpList_wanted hw fun K hK' => ?_
  unfold Oper.wp execOp
  rw [add_none, Nat.zero_add] at hc
  have hl : (Instr.loadAt ty (.pointer (some ⟨g, f, none⟩))).run P w = .ok v w := by
    simp [Instr.loadAt, Instr.sureAddr, loadVar, hu, hc]
  simp [hop, hx, hl, Result.andThen]
  exact hK' _ _ h
theorem wpList_loadWC {ty : TypeId} {x : Operand} (hop : o.op = .load ty x) {p : Addr} (hx : a.eval x = .pointer (some p)) (vs : List Value) (hw : Region.wanted o (yielded ops a.tmps) = true) (hc : ∀ j v, vs[j]? = some v → w.cell? (p.add j) = some v) {d : TypeDesc} (hu : P.underlying ty = some d) (hd : d.isRow = true) {sz : Nat} (hs : (P.info? ty).map (·.size) = some sz) (hl : vs.length = sz)
    (h : wpList P ops Q rest (a.put o.dst (.agg vs.toArray)) w) : wpList P ops Q (o :: rest) a w := by
  refine wpList_wanted hw fun K hK' => ?_
  unfold Oper.wp execOp
  have hl' : (loadCells p vs.length).run P w = .ok vs.toArray w := run_loadCells_list (P := P) w p vs hc
  cases hq : P.info? ty with
  | none => simp [hq] at hs
  | some inf =>
    have hz : inf.size = vs.length := by simp [hq] at hs; omega
    have hagg : (isAgg ty).run P w = .ok true w := by
      unfold isAgg
      rw [Sem.run_bind, run_underlying hu w]
      cases d <;> simp_all
    have hL : (Instr.loadAt ty (.pointer (some p))).run P w = .ok (.agg vs.toArray) w := by
      simp [Instr.loadAt, Instr.sureAddr, loadVar, hagg, sizeOf, typeInfo, hq, hz, Sem.run_bind, hl']
    simp [hop, hx, hL, Result.andThen]
    exact hK' _ _ h
end
end Go.Fk
namespace Go.Fk
open Go Go.RowKit
/-- One call has one end: two contracts tell the same bool. -/
theorem agree_b {P : Program} {f : FuncId} {args : Array Value} {w : World} {c d : Bool} {R R' : World → Prop} (h : Calls P f args w fun e w' => e = .returned (.bool c) ∧ R w') (h' : Calls P f args w fun e w' => e = .returned (.bool d) ∧ R' w') (hi : P.inits.idxOf? f = none) : c = d := by
  have g := (h.mono (R' := fun e w' => match e, w' with | .returned v, _ => v = .bool c | _, _ => False) (fun e w' ⟨h1, _⟩ => by subst h1; rfl)).done (R := fun v _ => v = .bool c) hi
  have g' := (h'.mono (R' := fun e w' => match e, w' with | .returned v, _ => v = .bool d | _, _ => False) (fun e w' ⟨h1, _⟩ => by subst h1; rfl)).done (R := fun v _ => v = .bool d) hi
  obtain ⟨n, v, w1, e1, rfl⟩ := g
  obtain ⟨m, v', w2, e2, rfl⟩ := g'
  have a := runN_ended e1 m
  have b := runN_ended e2 n
  rw [Nat.add_comm, a] at b
  injection b with ho hw
  injection ho with hv
  injection hv
end Go.Fk
