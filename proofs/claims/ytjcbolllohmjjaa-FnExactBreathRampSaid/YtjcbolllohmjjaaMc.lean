/- Texts of the walk, laid in one file. -/
import Derived.LoopN
import Derived.OwnWalk
import Derived.Test.YtjcbolllohmjjaaMb
set_option linter.unusedVariables false
set_option linter.unusedSimpArgs false
/- 'areUsed': the first numbers are finite, the others 0. -/
namespace Go.Fk
open Go Go.RowKit
def usedB (f : Nat → Nat) (n u : Nat) : Bool := (List.range n).all fun i => if i < u then fin (f i) else sameB (f i) 0
theorem usedB_fin {f : Nat → Nat} {n u i : Nat} (hi : i < u) (hu : u ≤ n) (h : fin (f i) = false) : usedB f n u = false := by
  simp only [usedB, List.all_eq_false, List.mem_range]
  exact ⟨i, by omega, by simp [hi, h]⟩
theorem usedB_zero {f : Nat → Nat} {n u i : Nat} (hi : u ≤ i) (hn : i < n) (h : sameB (f i) 0 = false) : usedB f n u = false := by
  simp only [usedB, List.all_eq_false, List.mem_range]
  exact ⟨i, hn, by simp [show ¬ i < u by omega, h]⟩
theorem usedB_yes {f : Nat → Nat} {n u : Nat} (h1 : ∀ i, i < u → fin (f i) = true) (h2 : ∀ i, u ≤ i → i < n → sameB (f i) 0 = true) : usedB f n u = true := by
  simp only [usedB, List.all_eq_true, List.mem_range]
  intro i hi
  by_cases c : i < u
  · simp [c, h1 i c]
  · simp [c, h2 i (by omega) hi]
/-- Are all finite? -/
def finB (f : Nat → Nat) (n : Nat) : Bool := (List.range n).all fun i => fin (f i)
theorem finB_no {f : Nat → Nat} {n i : Nat} (hi : i < n) (h : fin (f i) = false) : finB f n = false := by
  rw [Bool.eq_false_iff]; intro hh
  have := List.all_eq_true.1 hh i (List.mem_range.2 hi)
  rw [h] at this; cases this
theorem finB_yes {f : Nat → Nat} {n : Nat} (h : ∀ i, i < n → fin (f i) = true) : finB f n = true := List.all_eq_true.2 (fun i hi => h i (List.mem_range.1 hi))
theorem finB_all {f : Nat → Nat} {n : Nat} (h : finB f n = true) : ∀ i, i < n → fin (f i) = true := fun i hi => List.all_eq_true.1 h i (List.mem_range.2 hi)
theorem finB_ex {f : Nat → Nat} {n : Nat} (h : finB f n = false) : ∃ i, i < n ∧ fin (f i) = false := by
  apply Classical.byContradiction
  intro hn
  have : finB f n = true := finB_yes (fun i hi => by
    cases hb : fin (f i)
    · exact absurd ⟨i, hi, hb⟩ hn
    · rfl)
  rw [h] at this; cases this
end Go.Fk
namespace Go.Proofs.Ytjcbolllohmjjaa
open Go.RowKit Go.Fk
set_option maxHeartbeats 1000000 in
theorem i_areFinite (f : Nat → Nat) (a : Addr) (u cap : Nat) (w : World) (hu : u ≤ 9223372036854775807) (hf : ∀ i, i < u → fits .f32 (f i)) (hc : ∀ i, i < u → w.cell? (a.add i) = some (.float .f32 (f i))) :
    Calls Try.prog 128 #[.slice (some a) u cap] w fun e w' => e = .returned (.bool (finB f u)) ∧ w = w' := by
  have Hf := hid hf; have Hc := hid hc; clear hf hc
  go_enter Try.func128, Try.ntmps128
  go_wp2
  go_loop [7] (fun i => ∃ j : Nat, j ≤ u ∧ i = .int .i64 j ∧ Hid (∀ i, i < j → fin (f i) = true)) (fun i => u - (intOf i).toNat)
  case atStart => exact ⟨0, by omega, rfl, fun i hi => absurd hi (by omega)⟩
  case round =>
    obtain ⟨j, hj, rfl, HJ⟩ := hrel
    by_cases hlt : j < u
    · have cj := Hc.out j (by omega)
      have fj := hid (Hf.out j (by omega))
      cases hb : fin (f j)
      · go_wp2_with (go_at_call 54; refine (i_isFinite _ _ fj).mono ?_; rintro e w' ⟨rfl, rfl⟩)
        go_ret
        exact ⟨ret_b (finB_no hlt hb).symm, rfl⟩
      · go_wp2_with (go_at_call 54; refine (i_isFinite _ _ fj).mono ?_; rintro e w' ⟨rfl, rfl⟩)
        go_round
        case rel => exact ⟨j + 1, by omega, by go_num, fun i hi => by rcases Nat.lt_or_ge i j with h | h; exact HJ.out i h; rw [show i = j by omega]; exact hb⟩
        case measure => simp [intOf]; omega
    · obtain rfl : j = u := by omega
      go_wp2
      go_ret
      exact ⟨ret_b (finB_yes HJ.out).symm, rfl⟩
theorem i_areFinite_nil (f : Nat → Nat) (w : World) : Calls Try.prog 128 #[.slice none 0 0] w fun e w' => e = .returned (.bool (finB f 0)) ∧ w = w' := by
  go_enter Try.func128, Try.ntmps128
  go_wp2
  go_loop [7] (fun i => i = .int .i64 0) (fun _ => 0)
  case atStart => rfl
  case round =>
    obtain rfl := hrel
    go_wp2
    go_ret
    exact ⟨rfl, rfl⟩
set_option maxHeartbeats 1000000 in
theorem i_areUsed (f : Nat → Nat) (g o n u : Nat) (w : World) (hn : n < 100) (hu : u ≤ n) (hf : ∀ i, i < n → fits .f32 (f i)) (hc : ∀ i, i < n → w.cell? ⟨g, o + i, none⟩ = some (.float .f32 (f i))) :
    Calls Try.prog 111 #[.slice (some ⟨g, o, none⟩) n n, .int .i64 u] w fun e w' => e = .returned (.bool (usedB f n u)) ∧ w = w' := by
  have HA := hid (fun (w : World) (hc : ∀ i, i < n → w.cell? ⟨g, o + i, none⟩ = some (.float .f32 (f i))) => i_areFinite f ⟨g, o, none⟩ u n w (by omega) (fun i hi => hf i (by omega)) (fun i hi => by rw [add_none]; exact hc i (by omega)))
  have Hc := hid hc; clear hf hc
  obtain ⟨z, hz⟩ : ∃ z, z = finB f u := ⟨_, rfl⟩
  rw [← hz] at HA
  cases z
  · obtain ⟨i, hi, hb⟩ := finB_ex hz.symm
    have HZ := hid (usedB_fin hi hu hb)
    clear hz hb hi
    go_enter Try.func111, Try.ntmps111
    go_wp2_with (go_at_call 128; refine (HA.out _ Hc.out).mono ?_; rintro e w' ⟨rfl, rfl⟩)
    go_ret
    exact ⟨ret_b HZ.out.symm, rfl⟩
  have HJ := hid (finB_all hz.symm)
  clear hz
  rcases Nat.lt_or_ge u n with hlt0 | hge0
  · have h1 : (u : Int) ≤ n := by omega
    have h2 : (u : Int) < n := by omega
    go_enter Try.func111, Try.ntmps111
    go_wp2_with (go_at_call 128; refine (HA.out _ Hc.out).mono ?_; rintro e w' ⟨rfl, rfl⟩)
    go_loop [16] (fun i => ∃ k : Nat, k ≤ n - u ∧ i = .int .i64 k ∧ Hid (∀ i, u ≤ i → i < u + k → sameB (f i) 0 = true)) (fun i => (n - u) - (intOf i).toNat)
    case atStart => exact ⟨0, by omega, rfl, fun i h1 h2 => absurd h2 (by omega)⟩
    case round =>
      obtain ⟨k, hk, rfl, HK⟩ := hrel
      by_cases hkt : k < n - u
      · have ck : w.cell? ⟨g, o + u + k, none⟩ = some (.float .f32 (f (u + k))) := by rw [Nat.add_assoc]; exact Hc.out (u + k) (by omega)
        have k1 : (k : Int) < (n : Int) - u := by omega
        cases hb : sameB (f (u + k)) 0
        · go_wp2_with (go_at_call 74; refine (i_SameSample _ _ _).mono ?_; rintro e w' ⟨rfl, rfl⟩)
          go_ret
          exact ⟨ret_b (usedB_zero (show u ≤ u + k by omega) (by omega) hb).symm, rfl⟩
        · go_wp2_with (go_at_call 74; refine (i_SameSample _ _ _).mono ?_; rintro e w' ⟨rfl, rfl⟩)
          go_round
          case rel => exact ⟨k + 1, by omega, by go_num, fun i h1 h2 => by rcases Nat.lt_or_ge i (u + k) with h | h; exact HK.out i h1 h; rw [show i = u + k by omega]; exact hb⟩
          case measure => simp [intOf]; omega
      · have k1 : ¬ (k : Int) < (n : Int) - u := by omega
        go_wp2
        go_ret
        exact ⟨ret_b (usedB_yes (HJ.out) (fun i h1 h2 => HK.out i h1 (by omega))).symm, rfl⟩
  · obtain rfl : u = n := by omega
    clear hu hge0
    go_enter Try.func111, Try.ntmps111
    go_wp2_with (go_at_call 128; refine (HA.out _ Hc.out).mono ?_; rintro e w' ⟨rfl, rfl⟩)
    go_loop [16] (fun i => i = .int .i64 0) (fun i => 0)
    case atStart => rfl
    case round =>
      obtain rfl := hrel
      go_wp2
      go_ret
      exact ⟨ret_b (usedB_yes (HJ.out) (fun i h1 h2 => absurd h2 (by omega))).symm, rfl⟩
end Go.Proofs.Ytjcbolllohmjjaa

/- Which filters are valid: the plain function, the model's contract and the program's. -/
namespace Go.Fk
open Go Go.RowKit
/-- How many numbers and states a kind uses. -/
def cU (k : Int) : Nat := if k = 1 ∨ k = 2 then 2 else if k = 3 ∨ k = 5 then 1 else 3
def sU (k : Int) : Nat := if k = 1 ∨ k = 2 then 1 else 2
/-- Is a filter valid? -/
def okF (k : Int) (a b c x y : Nat) : Bool := (decide (1 ≤ k) && decide (k ≤ 5)) && (usedB (tri a b c) 3 (cU k) && usedB (duo x y) 2 (sU k))
theorem okF_kind {k : Int} {a b c x y : Nat} (h : okF k a b c x y = true) : 1 ≤ k ∧ k ≤ 5 := by
  simp only [okF, Bool.and_eq_true, decide_eq_true_eq] at h; exact h.1
theorem okF_out {k : Int} {a b c x y : Nat} (h : ¬ (1 ≤ k ∧ k ≤ 5)) : okF k a b c x y = false := by
  cases e : okF k a b c x y
  · rfl
  · exact absurd (okF_kind e) h
theorem cU_le (k : Int) : cU k ≤ 3 := by unfold cU; split; omega; split <;> omega
theorem sU_le (k : Int) : sU k ≤ 2 := by unfold sU; split <;> omega
theorem Row.six {w : World} {g : Nat} {t : TypeId} {v0 v1 v2 v3 v4 v5 : Value} (h : Row w g t #[v0, v1, v2, v3, v4, v5]) :
    w.cell? ⟨g, 0, none⟩ = some v0 ∧ w.cell? ⟨g, 1, none⟩ = some v1 ∧ w.cell? ⟨g, 2, none⟩ = some v2 ∧ w.cell? ⟨g, 3, none⟩ = some v3 ∧ w.cell? ⟨g, 4, none⟩ = some v4 ∧ w.cell? ⟨g, 5, none⟩ = some v5 :=
  ⟨h.cell? 0, h.cell? 1, h.cell? 2, h.cell? 3, h.cell? 4, h.cell? 5⟩
theorem Row.tri {w : World} {g : Nat} {t : TypeId} {k : Int} {a b c x y : Nat} (h : Row w g t (#[.int .i64 k, .float .f32 a, .float .f32 b, .float .f32 c, .float .f32 x, .float .f32 y] : Array Value)) (i : Nat) (hi : i < 3) : w.cell? ⟨g, 1 + i, none⟩ = some (.float .f32 (tri a b c i)) := by
  match i, hi with
  | 0, _ => exact h.cell? 1
  | 1, _ => exact h.cell? 2
  | 2, _ => exact h.cell? 3
theorem Row.duo {w : World} {g : Nat} {t : TypeId} {k : Int} {a b c x y : Nat} (h : Row w g t (#[.int .i64 k, .float .f32 a, .float .f32 b, .float .f32 c, .float .f32 x, .float .f32 y] : Array Value)) (i : Nat) (hi : i < 2) : w.cell? ⟨g, 4 + i, none⟩ = some (.float .f32 (duo x y i)) := by
  match i, hi with
  | 0, _ => exact h.cell? 4
  | 1, _ => exact h.cell? 5
/-- A filter within a block. -/
structure FilAt (w : World) (g f : Nat) (k : Int) (a b c x y : Nat) : Prop where
  k0 : w.cell? ⟨g, f, none⟩ = some (.int .i64 k)
  tri : ∀ i, i < 3 → w.cell? ⟨g, f + 1 + i, none⟩ = some (.float .f32 (tri a b c i))
  duo : ∀ i, i < 2 → w.cell? ⟨g, f + 4 + i, none⟩ = some (.float .f32 (duo x y i))
theorem Row.filAt {w : World} {g : Nat} {t : TypeId} {k : Int} {a b c x y : Nat} (h : Row w g t (#[.int .i64 k, .float .f32 a, .float .f32 b, .float .f32 c, .float .f32 x, .float .f32 y] : Array Value)) : FilAt w g 0 k a b c x y :=
  ⟨h.six.1, fun i hi => by rw [Nat.zero_add]; exact h.tri i hi, fun i hi => by rw [Nat.zero_add]; exact h.duo i hi⟩
/-- A filter within a row. -/
structure FilIn (cs : Array Value) (f : Nat) (k : Int) (a b c x y : Nat) : Prop where
  k0 : cs[f]? = some (.int .i64 k)
  c1 : cs[f + 1]? = some (.float .f32 a)
  c2 : cs[f + 2]? = some (.float .f32 b)
  c3 : cs[f + 3]? = some (.float .f32 c)
  c4 : cs[f + 4]? = some (.float .f32 x)
  c5 : cs[f + 5]? = some (.float .f32 y)
theorem FilIn.at {cs : Array Value} {f : Nat} {k : Int} {a b c x y : Nat} (h : FilIn cs f k a b c x y) {w : World} {g : Nat} {t : TypeId} (hr : Row w g t cs) : FilAt w g f k a b c x y :=
  ⟨(hr.cell? f).trans h.k0, fun i hi => by
    match i, hi with
    | 0, _ => exact (hr.cell? (f + 1)).trans h.c1
    | 1, _ => exact (hr.cell? (f + 2)).trans h.c2
    | 2, _ => exact (hr.cell? (f + 3)).trans h.c3, fun i hi => by
    match i, hi with
    | 0, _ => exact (hr.cell? (f + 4)).trans h.c4
    | 1, _ => exact (hr.cell? (f + 5)).trans h.c5⟩
theorem fits_tri {a b c : Nat} (ha : fits .f32 a) (hb : fits .f32 b) (hc : fits .f32 c) : ∀ i, i < 3 → fits .f32 (tri a b c i) := by
  intro i hi
  match i, hi with
  | 0, _ => exact ha
  | 1, _ => exact hb
  | 2, _ => exact hc
theorem fits_duo {a b : Nat} (ha : fits .f32 a) (hb : fits .f32 b) : ∀ i, i < 2 → fits .f32 (duo a b i) := by
  intro i hi
  match i, hi with
  | 0, _ => exact ha
  | 1, _ => exact hb
end Go.Fk
namespace Go.Proofs.Ytjcbolllohmjjaa
open Go.RowKit Go.Fk
theorem s_Uses (k : Int) (w : World) : Calls Try.prog 127 #[.int .i64 k] w fun e w' => e = .returned (.tuple #[.int .i64 (cU k), .int .i64 (sU k)]) ∧ w = w' := by
  by_cases h1 : k = 1
  · subst h1
    go_enter Try.func127, Try.ntmps127
    go_wp2
    go_ret2
    exact ⟨rfl, rfl⟩
  by_cases h2 : k = 2
  · subst h2
    go_enter Try.func127, Try.ntmps127
    go_wp2
    go_ret2
    exact ⟨rfl, rfl⟩
  by_cases h3 : k = 3
  · subst h3
    go_enter Try.func127, Try.ntmps127
    go_wp2
    go_ret2
    exact ⟨rfl, rfl⟩
  by_cases h5 : k = 5
  · subst h5
    go_enter Try.func127, Try.ntmps127
    go_wp2
    go_ret2
    exact ⟨rfl, rfl⟩
  have e1 : cU k = 3 := by simp [cU, h1, h2, h3, h5]
  have e2 : sU k = 2 := by simp [sU, h1, h2]
  rw [e1, e2]
  go_enter Try.func127, Try.ntmps127
  go_wp2
  go_ret2
  exact ⟨rfl, rfl⟩
set_option maxHeartbeats 2000000 in
theorem s_OkAt (k : Int) (a b c x y : Nat) (g f : Nat) (w : World) (hr : FilAt w g f k a b c x y) : Calls Try.prog 101 #[.pointer (some ⟨g, f, none⟩)] w fun e w' => e = .returned (.bool (okF k a b c x y)) ∧ ∃ n, w' = w.drewN n := by
  have c0 := hr.k0
  have HR := hid hr
  clear hr
  by_cases hk : 1 ≤ k ∧ k ≤ 5
  · obtain ⟨k1, k5⟩ := hk
    obtain ⟨p, hp⟩ : ∃ p, p = cU k := ⟨_, rfl⟩
    obtain ⟨q, hq⟩ : ∃ q, q = sU k := ⟨_, rfl⟩
    have hp3 : p ≤ 3 := by rw [hp]; exact cU_le k
    have hq2 : q ≤ 2 := by rw [hq]; exact sU_le k
    have E : okF k a b c x y = (usedB (tri a b c) 3 p && usedB (duo x y) 2 q) := by rw [hp, hq]; simp [okF, k1, k5]
    rw [E]; clear E
    have hu := s_Uses k
    rw [← hp, ← hq] at hu
    have HU := hid hu
    clear hu hp hq
    go_enter Try.func101, Try.ntmps101
    go_wp2_with (first | (go_at_call 57; refine (s_In _ _ _ _).mono ?_; rintro e w' ⟨rfl, rfl⟩) | (go_at_call 127; refine (HU.out _).mono ?_; rintro e w' ⟨rfl, rfl⟩))
    go_loopw [5] (fun i wr => ∃ j : Nat, j ≤ 3 ∧ i = .int .i64 j ∧ Hid (∀ i, i < j → fin (tri a b c i) = true ∧ (p ≤ i → sameB (tri a b c i) 0 = true)) ∧ ∃ n, wr = w.drewN n) (fun i _ => 3 - (intOf i).toNat)
    case atStart => exact ⟨0, by omega, rfl, fun i hi => absurd hi (by omega), 0, rfl⟩
    case round =>
      obtain ⟨j, hj, rfl, HJ, n, rfl⟩ := hrel
      by_cases hlt : j < 3
      · have cj := HR.out.tri j hlt
        cases h1 : fin (tri a b c j)
        · go_wp2_with (go_at_call 52; refine (s_l01Finite _ _).mono ?_; rintro e w' ⟨rfl, m, rfl⟩)
          go_ret
          refine ⟨ret_b ?_, _, rfl⟩
          by_cases hjp : j < p
          · rw [usedB_fin hjp hp3 h1]; rfl
          · have : sameB (tri a b c j) 0 = false := by
              cases e : sameB (tri a b c j) 0
              · rfl
              · rw [same0_fin e] at h1; cases h1
            rw [usedB_zero (show p ≤ j by omega) hlt this]; rfl
        · by_cases hjp : j < p
          · have hjp' : (j : Int) < p := by omega
            go_wp2_with (go_at_call 52; refine (s_l01Finite _ _).mono ?_; rintro e w' ⟨rfl, m, rfl⟩)
            go_roundw
            case rel => first | exact ⟨j + 1, by omega, by go_num, fun i hi => by rcases Nat.lt_or_ge i j with h | h; exact HJ.out i h; rw [show i = j by omega]; exact ⟨h1, fun h => absurd h (by omega)⟩, _, rfl⟩ | ((repeat apply Exists.intro); exact ⟨⟨j + 1, by omega, by go_num, fun i hi => by rcases Nat.lt_or_ge i j with h | h; exact HJ.out i h; rw [show i = j by omega]; exact ⟨h1, fun h => absurd h (by omega)⟩, _, rfl⟩, rfl⟩)
            case measure => simp [intOf]; omega
          · have hjp' : (p : Int) ≤ j := by omega
            cases h2 : sameB (tri a b c j) 0
            · go_wp2_with (first | (go_at_call 52; refine (s_l01Finite _ _).mono ?_; rintro e w' ⟨rfl, m, rfl⟩) | (go_at_call 116; refine (s_l01Same _ _ _).mono ?_; rintro e w' ⟨rfl, rfl⟩))
              go_ret
              exact ⟨ret_b (by rw [usedB_zero (show p ≤ j by omega) hlt h2]; rfl), _, rfl⟩
            · go_wp2_with (first | (go_at_call 52; refine (s_l01Finite _ _).mono ?_; rintro e w' ⟨rfl, m, rfl⟩) | (go_at_call 116; refine (s_l01Same _ _ _).mono ?_; rintro e w' ⟨rfl, rfl⟩))
              go_roundw
              case rel => first | exact ⟨j + 1, by omega, by go_num, fun i hi => by rcases Nat.lt_or_ge i j with h | h; exact HJ.out i h; rw [show i = j by omega]; exact ⟨h1, fun _ => h2⟩, _, rfl⟩ | ((repeat apply Exists.intro); exact ⟨⟨j + 1, by omega, by go_num, fun i hi => by rcases Nat.lt_or_ge i j with h | h; exact HJ.out i h; rw [show i = j by omega]; exact ⟨h1, fun _ => h2⟩, _, rfl⟩, rfl⟩)
              case measure => simp [intOf]; omega
      · obtain rfl : j = 3 := by omega
        have U1 := hid (usedB_yes (f := tri a b c) (n := 3) (u := p) (fun i hi => (HJ.out i (by omega)).1) (fun i h1 h2 => (HJ.out i h2).2 h1))
        clear HJ
        go_wp2
        go_loopw [6] (fun i wr => ∃ j : Nat, j ≤ 2 ∧ i = .int .i64 j ∧ Hid (∀ i, i < j → fin (duo x y i) = true ∧ (q ≤ i → sameB (duo x y i) 0 = true)) ∧ ∃ n, wr = w.drewN n) (fun i _ => 2 - (intOf i).toNat)
        case atStart => exact ⟨0, by omega, rfl, fun i hi => absurd hi (by omega), _, rfl⟩
        case round =>
          obtain ⟨j, hj, rfl, HJ, n, rfl⟩ := hrel
          by_cases hlt : j < 2
          · have cj := HR.out.duo j hlt
            cases h1 : fin (duo x y j)
            · go_wp2_with (go_at_call 52; refine (s_l01Finite _ _).mono ?_; rintro e w' ⟨rfl, m, rfl⟩)
              go_ret
              refine ⟨ret_b ?_, _, rfl⟩
              by_cases hjp : j < q
              · rw [usedB_fin hjp hq2 h1, Bool.and_false]
              · have : sameB (duo x y j) 0 = false := by
                  cases e : sameB (duo x y j) 0
                  · rfl
                  · rw [same0_fin e] at h1; cases h1
                rw [usedB_zero (show q ≤ j by omega) hlt this, Bool.and_false]
            · by_cases hjp : j < q
              · have hjp' : (j : Int) < q := by omega
                go_wp2_with (go_at_call 52; refine (s_l01Finite _ _).mono ?_; rintro e w' ⟨rfl, m, rfl⟩)
                go_roundw
                case rel => first | exact ⟨j + 1, by omega, by go_num, fun i hi => by rcases Nat.lt_or_ge i j with h | h; exact HJ.out i h; rw [show i = j by omega]; exact ⟨h1, fun h => absurd h (by omega)⟩, _, rfl⟩ | ((repeat apply Exists.intro); exact ⟨⟨j + 1, by omega, by go_num, fun i hi => by rcases Nat.lt_or_ge i j with h | h; exact HJ.out i h; rw [show i = j by omega]; exact ⟨h1, fun h => absurd h (by omega)⟩, _, rfl⟩, rfl⟩)
                case measure => simp [intOf]; omega
              · have hjp' : (q : Int) ≤ j := by omega
                cases h2 : sameB (duo x y j) 0
                · go_wp2_with (first | (go_at_call 52; refine (s_l01Finite _ _).mono ?_; rintro e w' ⟨rfl, m, rfl⟩) | (go_at_call 116; refine (s_l01Same _ _ _).mono ?_; rintro e w' ⟨rfl, rfl⟩))
                  go_ret
                  exact ⟨ret_b (by rw [usedB_zero (show q ≤ j by omega) hlt h2, Bool.and_false]), _, rfl⟩
                · go_wp2_with (first | (go_at_call 52; refine (s_l01Finite _ _).mono ?_; rintro e w' ⟨rfl, m, rfl⟩) | (go_at_call 116; refine (s_l01Same _ _ _).mono ?_; rintro e w' ⟨rfl, rfl⟩))
                  go_roundw
                  case rel => first | exact ⟨j + 1, by omega, by go_num, fun i hi => by rcases Nat.lt_or_ge i j with h | h; exact HJ.out i h; rw [show i = j by omega]; exact ⟨h1, fun _ => h2⟩, _, rfl⟩ | ((repeat apply Exists.intro); exact ⟨⟨j + 1, by omega, by go_num, fun i hi => by rcases Nat.lt_or_ge i j with h | h; exact HJ.out i h; rw [show i = j by omega]; exact ⟨h1, fun _ => h2⟩, _, rfl⟩, rfl⟩)
                  case measure => simp [intOf]; omega
          · obtain rfl : j = 2 := by omega
            have U2 := hid (usedB_yes (f := duo x y) (n := 2) (u := q) (fun i hi => (HJ.out i (by omega)).1) (fun i h1 h2 => (HJ.out i h2).2 h1))
            clear HJ
            go_wp2
            go_ret
            exact ⟨ret_b (by rw [U1.out, U2.out]; rfl), _, rfl⟩
  · rw [okF_out hk]
    have hIn : Hid (∀ w, Calls Try.prog 57 #[.int .i64 k, .int .i64 1, .int .i64 5] w fun e w' => e = .returned (.bool false) ∧ w = w') := fun w => by
      have h := s_In k 1 5 w
      rwa [show (decide ((1 : Int) ≤ k) && decide (k ≤ 5)) = false by simp only [Bool.and_eq_false_iff, decide_eq_false_iff_not]; omega] at h
    clear hk
    go_enter Try.func101, Try.ntmps101
    go_wp2_with (first | (go_at_call 57; refine (hIn.out _).mono ?_; rintro e w' ⟨rfl, rfl⟩))
    go_ret
    exact ⟨rfl, 0, rfl⟩
theorem s_Ok (k : Int) (a b c x y : Nat) (g : Nat) (w : World) (hr : Row w g 47 (#[.int .i64 k, .float .f32 a, .float .f32 b, .float .f32 c, .float .f32 x, .float .f32 y] : Array Value)) : Calls Try.prog 101 #[.pointer (some ⟨g, 0, none⟩)] w fun e w' => e = .returned (.bool (okF k a b c x y)) ∧ ∃ n, w' = w.drewN n := s_OkAt k a b c x y g 0 w hr.filAt
end Go.Proofs.Ytjcbolllohmjjaa

/- 'SameFilter' of both. -/
namespace Go.Fk
open Go Go.RowKit
/-- Are two rows the same? -/
def eqRow (f f' : Nat → Nat) (n : Nat) : Bool := (List.range n).all (fun j => sameB (f j) (f' j))
theorem eqRow_no {f f' : Nat → Nat} {n j : Nat} (hj : j < n) (h : sameB (f j) (f' j) = false) : eqRow f f' n = false := by
  rw [Bool.eq_false_iff]
  intro hh
  have := List.all_eq_true.1 hh j (List.mem_range.2 hj)
  rw [h] at this; cases this
theorem eqRow_yes {f f' : Nat → Nat} {n : Nat} (h : ∀ j, j < n → sameB (f j) (f' j) = true) : eqRow f f' n = true := List.all_eq_true.2 (fun j hj => h j (List.mem_range.1 hj))
theorem all_step {p : Nat → Prop} {k : Nat} (h : ∀ j, j < k → p j) (hk : p k) : ∀ j, j < k + 1 → p j := fun j hj => by
  by_cases e : j = k
  · rw [e]; exact hk
  · exact h j (by omega)
section
variable {P : Program} {ops : Array Oper} {w : World} {K : FuncId → Array Value → Value → Prop} {Q : Act → Prop} {o : Oper} {rest : List Oper} {a : Act} {C : World → Prop}
theorem wpLoose_anyW (hw : Region.wanted o (yielded ops a.tmps) = true) (V : Value → Prop) (h1 : ∀ n, within P (fun w' => ∃ m, w' = w.drewN m) K V ((execOp a.eval o).run P (w.drewN n)))
    (h2 : ∀ v, V v → wpLoose P ops (fun w' => ∃ m, w' = w.drewN m) K Q rest (a.put o.dst v)) : wpLoose P ops (fun w' => ∃ m, w' = w.drewN m) K Q (o :: rest) a :=
  ⟨V, .inl ⟨hw, fun w' hw' => by obtain ⟨n, rfl⟩ := hw'; exact h1 n⟩, h2⟩
theorem wpLoose_skip (hw : Region.wanted o (yielded ops a.tmps) = false) (h : wpLoose P ops C K Q rest (a.put o.dst undef)) : wpLoose P ops C K Q (o :: rest) a :=
  ⟨(· = undef), .inr ⟨hw, rfl⟩, fun v hv => by rw [hv]; exact h⟩
theorem wpLoose_nilW (hw : Region.wanted o (yielded ops a.tmps) = true) {x : Operand} (hop : o.op = Op.nilCheck x) {ad : Addr} (hx : a.eval x = .pointer (some ad))
    (hK : wpLoose P ops (fun w' => ∃ m, w' = w.drewN m) K Q rest (a.put o.dst (.pointer (some ad)))) : wpLoose P ops (fun w' => ∃ m, w' = w.drewN m) K Q (o :: rest) a := by
  refine wpLoose_anyW hw (· = .pointer (some ad)) (fun n => ?_) (by rintro v rfl; exact hK)
  simp [execOp, hop, hx, within, Result.andThen]
  exact ⟨_, rfl⟩
end
end Go.Fk
namespace Go.Proofs.Ytjcbolllohmjjaa
open Go.RowKit Go.Fk
set_option maxHeartbeats 1000000 in
theorem i_EqualFunc (f f' : Nat → Nat) (g o g' o' n : Nat) (w : World) (hn : n < 100) (hc : ∀ i, i < n → w.cell? ⟨g, o + i, none⟩ = some (.float .f32 (f i))) (hc' : ∀ i, i < n → w.cell? ⟨g', o' + i, none⟩ = some (.float .f32 (f' i))) :
    Calls Try.prog 73 #[.slice (some ⟨g, o, none⟩) n n, .slice (some ⟨g', o', none⟩) n n, .func (.func 74) #[] #[]] w fun e w' => e = .returned (.bool (eqRow f f' n)) ∧ w = w' := by
  have Hc := hid hc; have Hc' := hid hc'; clear hc hc'
  go_enter Try.func73, Try.ntmps73
  go_wp2
  go_loop [17] (fun i => ∃ k : Nat, k ≤ n ∧ i = .int .i64 k ∧ Hid (∀ i, i < k → sameB (f i) (f' i) = true)) (fun i => n - (intOf i).toNat)
  case atStart => exact ⟨0, by omega, rfl, fun i hi => absurd hi (by omega)⟩
  case round =>
    obtain ⟨k, hk, rfl, HK⟩ := hrel
    by_cases hlt : k < n
    · have ck := Hc.out k hlt
      have ck' := Hc'.out k hlt
      cases hb : sameB (f k) (f' k)
      · go_wp2_with (go_at_call 74; refine (i_SameSample _ _ _).mono ?_; rintro e w' ⟨rfl, rfl⟩)
        go_ret
        exact ⟨ret_b (eqRow_no hlt hb).symm, rfl⟩
      · go_wp2_with (go_at_call 74; refine (i_SameSample _ _ _).mono ?_; rintro e w' ⟨rfl, rfl⟩)
        go_round
        case rel => exact ⟨k + 1, by omega, by go_num, all_step (p := fun j => sameB (f j) (f' j) = true) HK.out hb⟩
        case measure => simp [intOf]; omega
    · obtain rfl : k = n := by omega
      go_wp2
      go_ret
      exact ⟨ret_b (eqRow_yes HK.out).symm, rfl⟩
/-- Of both calls. -/
def twoK (g : Nat) (eC eS : Bool) (_ : FuncId) (args : Array Value) (v : Value) : Prop := ∃ o n, args[0]? = some (.slice (some ⟨g, o, none⟩) n n) ∧ v = .bool (if o = 1 then eC else eS)
theorem twoK_c {g n : Nat} {eC eS : Bool} {f : FuncId} {b c v : Value} (h : twoK g eC eS f #[.slice (some ⟨g, 1, none⟩) n n, b, c] v) : v = .bool eC := by
  obtain ⟨o, m, h, rfl⟩ := h
  simp at h
  obtain ⟨rfl, _⟩ := h
  rfl
theorem twoK_s {g n : Nat} {eC eS : Bool} {f : FuncId} {b c v : Value} (h : twoK g eC eS f #[.slice (some ⟨g, 4, none⟩) n n, b, c] v) : v = .bool eS := by
  obtain ⟨o, m, h, rfl⟩ := h
  simp at h
  obtain ⟨rfl, _⟩ := h
  rfl
set_option maxRecDepth 100000 in
set_option maxHeartbeats 1000000 in
theorem i_SameFilter (k : Int) (a b c x y : Nat) (k' : Int) (a' b' c' x' y' : Nat) (w : World) :
    Calls Try.prog 75 #[(.agg #[.int .i64 k, .float .f32 a, .float .f32 b, .float .f32 c, .float .f32 x, .float .f32 y]), (.agg #[.int .i64 k', .float .f32 a', .float .f32 b', .float .f32 c', .float .f32 x', .float .f32 y'])] w fun e w' => e = .returned (.bool ((k == k') && (eqRow (tri a b c) (tri a' b' c') 3 && eqRow (duo x y) (duo x' y') 2))) ∧ le w w' := by
  have F := ((Frm.nil w).box 47 (#[.int .i64 k, .float .f32 a, .float .f32 b, .float .f32 c, .float .f32 x, .float .f32 y] : Array Value)).box 47 (#[.int .i64 k', .float .f32 a', .float .f32 b', .float .f32 c', .float .f32 x', .float .f32 y'] : Array Value)
  simp only [World.size_alloc] at F
  have R := hid (F.row (List.mem_cons_of_mem _ List.mem_cons_self))
  have R' := hid (F.row List.mem_cons_self)
  have k0 := R.out.six.1
  have k0' := R'.out.six.1
  have HL := hid F.below
  clear F
  obtain ⟨eC, hC⟩ : ∃ e, e = eqRow (tri a b c) (tri a' b' c') 3 := ⟨_, rfl⟩
  obtain ⟨eS, hS⟩ : ∃ e, e = eqRow (duo x y) (duo x' y') 2 := ⟨_, rfl⟩
  rw [← hC, ← hS]
  have HC := hid hC; have HS := hid hS
  clear hC hS
  cases hk : (k == k')
  · go_enter Try.func75, Try.ntmps75
    go_wp2_with fail
    refine wp_region_loose (twoK w.heap.size eC eS) (by kernel_rfl) (by kernel_rfl) ?_
    repeat (first | (refine wpLoose_quiet rfl ?_; go_big_quiet_step (fail); refine wpQuiet_nil ?_) | (refine wpLoose_skip (by kernel_rfl) ?_; simp only [Act.put, List.setIfInBounds_toArray, List.set_cons_succ, List.set_cons_zero]))
    refine wpLoose_nil (fun m => ?_)
    go_wp2
    go_ret
    exact ⟨rfl, le_trans HL.out (le_drewN _ _)⟩
  · cases eC
    · go_enter Try.func75, Try.ntmps75
      go_wp2_with fail
      refine wp_region_loose (twoK w.heap.size false eS) (by kernel_rfl) (by kernel_rfl) ?_
      repeat (refine wpLoose_quiet rfl ?_; go_big_quiet_step (fail); refine wpQuiet_nil ?_)
      refine wpLoose_anyW (by kernel_rfl) (· = .bool false) (fun n => ?_) ?_
      · go_simp
        refine ⟨(i_EqualFunc (tri a b c) (tri a' b' c') w.heap.size 1 (w.heap.size + 1) 1 3 _ (by omega) (fun i hi => Row.tri (R.out.drewN n) i hi) (fun i hi => Row.tri (R'.out.drewN n) i hi)).mono ?_, fun v hv => twoK_c hv⟩
        rintro e w2 ⟨rfl, rfl⟩
        exact ⟨_, rfl, ⟨1, 3, rfl, by rw [if_pos rfl, ← HC.out]⟩, n, rfl⟩
      · rintro v rfl
        simp only [Act.put, List.setIfInBounds_toArray, List.set_cons_succ, List.set_cons_zero]
        repeat (first | (refine wpLoose_quiet rfl ?_; go_big_quiet_step (fail); refine wpQuiet_nil ?_) | (refine wpLoose_skip (by kernel_rfl) ?_; simp only [Act.put, List.setIfInBounds_toArray, List.set_cons_succ, List.set_cons_zero]))
        refine wpLoose_nil (fun m => ?_)
        go_wp2
        go_ret
        exact ⟨rfl, le_trans HL.out (le_drewN _ _)⟩
    · go_enter Try.func75, Try.ntmps75
      go_wp2_with fail
      refine wp_region_loose (twoK w.heap.size true eS) (by kernel_rfl) (by kernel_rfl) ?_
      repeat (refine wpLoose_quiet rfl ?_; go_big_quiet_step (fail); refine wpQuiet_nil ?_)
      refine wpLoose_anyW (by kernel_rfl) (· = .bool true) (fun n => ?_) ?_
      · go_simp
        refine ⟨(i_EqualFunc (tri a b c) (tri a' b' c') w.heap.size 1 (w.heap.size + 1) 1 3 _ (by omega) (fun i hi => Row.tri (R.out.drewN n) i hi) (fun i hi => Row.tri (R'.out.drewN n) i hi)).mono ?_, fun v hv => twoK_c hv⟩
        rintro e w2 ⟨rfl, rfl⟩
        exact ⟨_, rfl, ⟨1, 3, rfl, by rw [if_pos rfl, ← HC.out]⟩, n, rfl⟩
      · rintro v rfl
        simp only [Act.put, List.setIfInBounds_toArray, List.set_cons_succ, List.set_cons_zero]
        repeat (refine wpLoose_quiet rfl ?_; go_big_quiet_step (fail); refine wpQuiet_nil ?_)
        refine wpLoose_anyW (by kernel_rfl) (· = .bool eS) (fun n => ?_) ?_
        · go_simp
          refine ⟨(i_EqualFunc (duo x y) (duo x' y') w.heap.size 4 (w.heap.size + 1) 4 2 _ (by omega) (fun i hi => Row.duo (R.out.drewN n) i hi) (fun i hi => Row.duo (R'.out.drewN n) i hi)).mono ?_, fun v hv => twoK_s hv⟩
          rintro e w2 ⟨rfl, rfl⟩
          exact ⟨_, rfl, ⟨4, 2, rfl, by rw [if_neg (by omega), ← HS.out]⟩, n, rfl⟩
        · rintro v rfl
          simp only [Act.put, List.setIfInBounds_toArray, List.set_cons_succ, List.set_cons_zero]
          repeat (refine wpLoose_quiet rfl ?_; go_big_quiet_step (fail); refine wpQuiet_nil ?_)
          refine wpLoose_nil (fun m => ?_)
          go_wp2
          go_ret
          exact ⟨rfl, le_trans HL.out (le_drewN _ _)⟩
theorem eqRow_duo (x y x' y' : Nat) : eqRow (duo x y) (duo x' y') 2 = (sameB x x' && sameB y y') := by
  simp [eqRow, List.range_succ, duo]
def oneK (_ : FuncId) (args : Array Value) (v : Value) : Prop := ∃ p q, args = #[.float .f32 p, .float .f32 q] ∧ v = .bool (sameB p q)
theorem oneK_v {f : FuncId} {p q : Nat} {v : Value} (h : oneK f #[.float .f32 p, .float .f32 q] v) : v = .bool (sameB p q) := by
  obtain ⟨p', q', h, rfl⟩ := h
  simp at h
  obtain ⟨rfl, rfl⟩ := h
  rfl
theorem one_call {p q n N : Nat} {w : World} : Calls Try.prog 116 #[.float .f32 p, .float .f32 q] (w.drewN (N + n)) fun e w'' => ∃ u, e = .returned u ∧ oneK 116 #[.float .f32 p, .float .f32 q] u ∧ ∃ m, w'' = w.drewN (N + m) :=
  (s_l01Same p q (w.drewN (N + n))).mono fun _ _ ⟨he, hw⟩ => ⟨_, he, ⟨p, q, rfl, rfl⟩, n, hw.symm⟩
set_option maxRecDepth 100000 in
set_option maxHeartbeats 2000000 in
theorem s_l02SameAt (k : Int) (a b c x y : Nat) (k' : Int) (a' b' c' x' y' : Nat) (g g' f f' : Nat) (w : World) (R : FilAt w g f k a b c x y) (R' : FilAt w g' f' k' a' b' c' x' y') :
    Calls Try.prog 115 #[.pointer (some ⟨g, f, none⟩), .pointer (some ⟨g', f', none⟩)] w fun e w' => e = .returned (.bool ((k == k') && (eqRow (tri a b c) (tri a' b' c') 3 && eqRow (duo x y) (duo x' y') 2))) ∧ ∃ n, w' = w.drewN n := by
  have k0 := R.k0
  have k0' := R'.k0
  have HR := hid R; have HR' := hid R'
  clear R R'
  cases hk : (k == k')
  · have hkn : (k != k') = true := by simp [bne, hk]
    go_enter Try.func115, Try.ntmps115
    go_wp2_with fail
    refine wp_region_loose (oneK) (by kernel_rfl) (by kernel_rfl) ?_
    repeat (first | (refine wpLoose_quiet rfl ?_; go_big_quiet_step (fail); refine wpQuiet_nil ?_) | (with_reducible refine wpLoose_nilW (by kernel_rfl) rfl rfl ?_; simp only [Act.put, List.setIfInBounds_toArray, List.set_cons_succ, List.set_cons_zero]))
    refine wpLoose_nil (fun m => ?_)
    go_wp2
    go_ret
    exact ⟨rfl, _, rfl⟩
  · have hkn : (k != k') = false := by simp [bne, hk]
    go_enter Try.func115, Try.ntmps115
    go_wp2_with fail
    refine wp_region_loose (oneK) (by kernel_rfl) (by kernel_rfl) ?_
    repeat (first | (refine wpLoose_quiet rfl ?_; go_big_quiet_step (fail); refine wpQuiet_nil ?_) | (with_reducible refine wpLoose_nilW (by kernel_rfl) rfl rfl ?_; simp only [Act.put, List.setIfInBounds_toArray, List.set_cons_succ, List.set_cons_zero]))
    refine wpLoose_nil (fun m => ?_)
    go_wp2
    clear k0 k0' hkn
    go_loopw [5] (fun i wr => ∃ j : Nat, j ≤ 3 ∧ i = .int .i64 j ∧ Hid (∀ i, i < j → sameB (tri a b c i) (tri a' b' c' i) = true) ∧ ∃ n, wr = w.drewN n) (fun i _ => 3 - (intOf i).toNat)
    case atStart => exact ⟨0, by omega, rfl, fun i hi => absurd hi (by omega), _, rfl⟩
    case round =>
      obtain ⟨j, hj, rfl, HJ, n, rfl⟩ := hrel
      by_cases hlt : j < 3
      · have cj := HR.out.tri j hlt
        have cj' := HR'.out.tri j hlt
        cases he : sameB (tri a b c j) (tri a' b' c' j)
        · have HN := hid (eqRow_no (f := tri a b c) (f' := tri a' b' c') (n := 3) hlt he)
          have HE := hid he
          clear he
          generalize tri a b c j = p at *
          generalize tri a' b' c' j = q at *
          go_wp2_with fail
          refine wp_region_loose (oneK) (by kernel_rfl) (by kernel_rfl) ?_
          repeat (first | (refine wpLoose_quiet rfl ?_; go_big_quiet_step (fail); refine wpQuiet_nil ?_) | (with_reducible refine wpLoose_nilW (by kernel_rfl) rfl rfl ?_; simp only [Act.put, List.setIfInBounds_toArray, List.set_cons_succ, List.set_cons_zero]))
          refine wpLoose_any rfl (· = .bool false) (fun m0 => ?_) ?_
          · go_simp
            rw [← HE.out]
            exact ⟨one_call, fun v hv => oneK_v hv⟩
          · rintro v rfl
            simp only [Act.put, List.setIfInBounds_toArray, List.set_cons_succ, List.set_cons_zero]
            repeat (first | (refine wpLoose_quiet rfl ?_; go_big_quiet_step (fail); refine wpQuiet_nil ?_) | (with_reducible refine wpLoose_nilW (by kernel_rfl) rfl rfl ?_; simp only [Act.put, List.setIfInBounds_toArray, List.set_cons_succ, List.set_cons_zero]))
            refine wpLoose_nil (fun m => ?_)
            go_wp2
            go_ret
            exact ⟨ret_b (by rw [HN.out]; rfl), n + m, by go_simp⟩
        · have HJ' := hid (all_step (p := fun i => sameB (tri a b c i) (tri a' b' c' i) = true) HJ.out he)
          have HE := hid he
          clear he
          generalize tri a b c j = p at *
          generalize tri a' b' c' j = q at *
          go_wp2_with fail
          refine wp_region_loose (oneK) (by kernel_rfl) (by kernel_rfl) ?_
          repeat (first | (refine wpLoose_quiet rfl ?_; go_big_quiet_step (fail); refine wpQuiet_nil ?_) | (with_reducible refine wpLoose_nilW (by kernel_rfl) rfl rfl ?_; simp only [Act.put, List.setIfInBounds_toArray, List.set_cons_succ, List.set_cons_zero]))
          refine wpLoose_any rfl (· = .bool true) (fun m0 => ?_) ?_
          · go_simp
            rw [← HE.out]
            exact ⟨one_call, fun v hv => oneK_v hv⟩
          · rintro v rfl
            simp only [Act.put, List.setIfInBounds_toArray, List.set_cons_succ, List.set_cons_zero]
            repeat (first | (refine wpLoose_quiet rfl ?_; go_big_quiet_step (fail); refine wpQuiet_nil ?_) | (with_reducible refine wpLoose_nilW (by kernel_rfl) rfl rfl ?_; simp only [Act.put, List.setIfInBounds_toArray, List.set_cons_succ, List.set_cons_zero]))
            refine wpLoose_nil (fun m => ?_)
            go_wp2
            go_roundw
            case rel => exact ⟨j + 1, by omega, by go_num, HJ', _, rfl⟩
            case measure => simp [intOf]; omega
      · obtain rfl : j = 3 := by omega
        have HY := hid (eqRow_yes HJ.out)
        have x0 : w.cell? ⟨g, f + 4, none⟩ = some (.float .f32 x) := HR.out.duo 0 (by omega)
        have x0' : w.cell? ⟨g', f' + 4, none⟩ = some (.float .f32 x') := HR'.out.duo 0 (by omega)
        have y0 : w.cell? ⟨g, f + 4 + 1, none⟩ = some (.float .f32 y) := HR.out.duo 1 (by omega)
        have y1 : w.cell? ⟨g, f + 5, none⟩ = some (.float .f32 y) := y0
        have y0' : w.cell? ⟨g', f' + 4 + 1, none⟩ = some (.float .f32 y') := HR'.out.duo 1 (by omega)
        have y1' : w.cell? ⟨g', f' + 5, none⟩ = some (.float .f32 y') := y0'
        cases hx : sameB x x'
        · have HX := hid hx
          clear hx
          go_wp2_with fail
          refine wp_region_loose (oneK) (by kernel_rfl) (by kernel_rfl) ?_
          repeat (first | (refine wpLoose_quiet rfl ?_; go_big_quiet_step (fail); refine wpQuiet_nil ?_) | (with_reducible refine wpLoose_nilW (by kernel_rfl) rfl rfl ?_; simp only [Act.put, List.setIfInBounds_toArray, List.set_cons_succ, List.set_cons_zero]))
          refine wpLoose_any rfl (· = .bool false) (fun m0 => ?_) ?_
          · go_simp
            rw [← HX.out]
            exact ⟨one_call, fun v hv => oneK_v hv⟩
          · rintro v rfl
            simp only [Act.put, List.setIfInBounds_toArray, List.set_cons_succ, List.set_cons_zero]
            repeat (first | (refine wpLoose_quiet rfl ?_; go_big_quiet_step (fail); refine wpQuiet_nil ?_) | (refine wpLoose_skip (by kernel_rfl) ?_; simp only [Act.put, List.setIfInBounds_toArray, List.set_cons_succ, List.set_cons_zero]))
            refine wpLoose_nil (fun m => ?_)
            go_wp2
            go_ret
            exact ⟨ret_b (by rw [HY.out, eqRow_duo, HX.out]; rfl), n + m, by go_simp⟩
        · have HX := hid hx
          clear hx
          go_wp2_with fail
          refine wp_region_loose (oneK) (by kernel_rfl) (by kernel_rfl) ?_
          repeat (first | (refine wpLoose_quiet rfl ?_; go_big_quiet_step (fail); refine wpQuiet_nil ?_) | (with_reducible refine wpLoose_nilW (by kernel_rfl) rfl rfl ?_; simp only [Act.put, List.setIfInBounds_toArray, List.set_cons_succ, List.set_cons_zero]))
          refine wpLoose_any rfl (· = .bool true) (fun m0 => ?_) ?_
          · go_simp
            rw [← HX.out]
            exact ⟨one_call, fun v hv => oneK_v hv⟩
          · rintro v rfl
            simp only [Act.put, List.setIfInBounds_toArray, List.set_cons_succ, List.set_cons_zero]
            repeat (first | (refine wpLoose_quiet rfl ?_; go_big_quiet_step (fail); refine wpQuiet_nil ?_) | (with_reducible refine wpLoose_nilW (by kernel_rfl) rfl rfl ?_; simp only [Act.put, List.setIfInBounds_toArray, List.set_cons_succ, List.set_cons_zero]))
            refine wpLoose_anyW (by kernel_rfl) (· = .bool (sameB y y')) (fun m0 => ?_) ?_
            · go_simp
              exact ⟨one_call, fun v hv => oneK_v hv⟩
            · rintro v rfl
              simp only [Act.put, List.setIfInBounds_toArray, List.set_cons_succ, List.set_cons_zero]
              repeat (first | (refine wpLoose_quiet rfl ?_; go_big_quiet_step (fail); refine wpQuiet_nil ?_) | (with_reducible refine wpLoose_nilW (by kernel_rfl) rfl rfl ?_; simp only [Act.put, List.setIfInBounds_toArray, List.set_cons_succ, List.set_cons_zero]))
              refine wpLoose_nil (fun m => ?_)
              go_wp2
              go_ret
              exact ⟨ret_b (by rw [HY.out, eqRow_duo, HX.out]; rfl), n + m, by go_simp⟩
theorem s_l02Same (k : Int) (a b c x y : Nat) (k' : Int) (a' b' c' x' y' : Nat) (g g' : Nat) (w : World) (R : Row w g 47 (#[.int .i64 k, .float .f32 a, .float .f32 b, .float .f32 c, .float .f32 x, .float .f32 y] : Array Value)) (R' : Row w g' 47 (#[.int .i64 k', .float .f32 a', .float .f32 b', .float .f32 c', .float .f32 x', .float .f32 y'] : Array Value)) :
    Calls Try.prog 115 #[.pointer (some ⟨g, 0, none⟩), .pointer (some ⟨g', 0, none⟩)] w fun e w' => e = .returned (.bool ((k == k') && (eqRow (tri a b c) (tri a' b' c') 3 && eqRow (duo x y) (duo x' y') 2))) ∧ ∃ n, w' = w.drewN n :=
  s_l02SameAt k a b c x y k' a' b' c' x' y' g g' 0 0 w R.filAt R'.filAt
end Go.Proofs.Ytjcbolllohmjjaa

/- Rings over facts of memory: 'ValidRing', 'SameRing' of both. -/
namespace Go.Fk
open Go Go.RowKit
theorem RdS.form {w : World} {B : Nat} {s : Value} {x : Nat → Nat} {n : Nat} (h : RdS w B s x n) : (s = .slice none 0 0 ∧ n = 0) ∨ ∃ (a : Addr) (cap : Nat), s = .slice (some a) n cap ∧ n ≤ cap ∧ cap ≤ maxLen := by
  rcases h with h | ⟨a, cap, h1, h2, h3, _⟩
  · exact .inl h
  · exact .inr ⟨a, cap, h1, h2, h3⟩
section
variable {P : Program} {w : World} {ops : Array Oper} {rest : List Oper} {o : Oper} {a : Act} {Q : Exit → Act → World → Prop}
/-- The length of a slice that can be read. -/
theorem wpList_lenR (hg : o.guard = none) {x : Operand} {t : TypeId} (hop : o.op = Op.call { callee := Callee.builtin Builtin.len, args := #[x], argTypes := #[t] }) {v : Value} (hx : a.eval x = v) {e : TypeId} (hu : P.underlying t = some (.slice e)) {w1 : World} {B : Nat} {y : Nat → Nat} {n : Nat} (hv : RdS w1 B v y n)
    (h : wpList P ops Q rest (a.put o.dst (.int .i64 n)) w) : wpList P ops Q (o :: rest) a w := by
  refine wpList_plain hg fun K hK' => ?_
  unfold Oper.wp
  rcases hv.form with ⟨rfl, rfl⟩ | ⟨ad, cap, rfl, _, _⟩
  all_goals
    simp [execOp, hop, hx, Result.andThen, resolve, invoke, builtin, Builtin.len_, run_underlying hu]
    exact hK' _ _ h
end
theorem sameB_can (x y : Nat) : sameB (can .f32 x) (can .f32 y) = sameB x y := by unfold sameB; rw [can_can, can_can]
theorem okRing_iff {n : Nat} {k : Int} : okRing n k = true ↔ 1 ≤ n ∧ n ≤ 1024 ∧ 0 ≤ k ∧ k < n := by
  unfold okRing; simp only [Bool.and_eq_true, decide_eq_true_eq]; omega
theorem okRing_j {n : Nat} {k : Int} (h : okRing n k = true) : 1 ≤ n ∧ n ≤ 1024 ∧ ∃ j : Nat, k = j ∧ j < n := by
  obtain ⟨h1, h2, h3, h4⟩ := okRing_iff.1 h
  exact ⟨h1, h2, k.toNat, by omega, by omega⟩
/-- Two slices of floats, compared. -/
def sameS (x x' : Nat → Nat) (n n' : Nat) : Bool := (n == n') && eqRow x x' n
theorem sameS_ne {x x' : Nat → Nat} {n n' : Nat} (h : n ≠ n') : sameS x x' n n' = false := by simp [sameS, h]
theorem sameS_eq {x x' : Nat → Nat} {n : Nat} : sameS x x' n n = eqRow x x' n := by simp [sameS]
end Go.Fk
namespace Go.Proofs.Ytjcbolllohmjjaa
open Go.RowKit Go.Fk
set_option maxHeartbeats 2000000 in
theorem i_ValidRingR (B : Nat) (s : Value) (x : Nat → Nat) (n : Nat) (k : Int) (w : World) (hs : RdS w B s x n) : Calls Try.prog 129 #[.agg #[s, .int .i64 k]] w fun e w' => e = .returned (.bool (okRing n k)) ∧ le w w' := by
  have HL := hid (le_alloc w (.cells #[s, .int .i64 k] 82))
  rcases hs.form with ⟨rfl, rfl⟩ | ⟨a, cap, rfl, hc, hm⟩
  · have HZ : Hid (okRing 0 k = false) := by unfold Hid okRing; simp
    clear hs
    go_enter Try.func129, Try.ntmps129
    go_wp2
    go_ret
    exact ⟨ret_b HZ.out.symm, HL.out⟩
  clear hs
  unfold maxLen at hm
  obtain ⟨z, hz⟩ : ∃ z, z = okRing n k := ⟨_, rfl⟩
  rw [← hz]
  unfold okRing at hz
  by_cases h1 : 1 ≤ (n : Int) <;> by_cases h2 : (n : Int) ≤ 1024 <;> by_cases h3 : 0 ≤ k <;> by_cases h4 : k < (n : Int)
  all_goals first | (exfalso; omega) | skip
  all_goals
    simp only [h1, h2, h3, h4, decide_true, decide_false, Bool.and_true, Bool.and_false, Bool.true_and, Bool.false_and] at hz
    have HZ := hid hz
    clear hz
    go_enter Try.func129, Try.ntmps129
    go_wp2
    go_ret
    exact ⟨ret_b HZ.out.symm, HL.out⟩
theorem s_l02RingR (B : Nat) (s : Value) (x : Nat → Nat) (n : Nat) (k : Int) (g f : Nat) (w : World) (hs : RdS w B s x n) (c0 : w.cell? ⟨g, f, none⟩ = some s) (c1 : w.cell? ⟨g, f + 1, none⟩ = some (.int .i64 k)) (hk : (Lit.int .i64 k).wf = true) :
    Calls Try.prog 126 #[.pointer (some ⟨g, f, none⟩)] w fun e w' => e = .returned (.bool (okRing n k)) ∧ w = w' := by
  rcases hs.form with ⟨rfl, rfl⟩ | ⟨a, cap, rfl, hc, hm⟩
  · have HZ : Hid (okRing 0 k = false) := by unfold Hid okRing; simp
    clear hs
    have HI : Hid (∀ w, Calls Try.prog 57 #[.int .i64 0, .int .i64 1, .int .i64 1024] w fun e w' => e = .returned (.bool false) ∧ w = w') := fun w => s_In 0 1 1024 w
    go_enter Try.func126, Try.ntmps126
    go_wp2_with (go_at_call 57; refine (HI.out _).mono ?_; rintro e w' ⟨rfl, rfl⟩)
    go_ret
    exact ⟨ret_b HZ.out.symm, rfl⟩
  clear hs hk
  unfold maxLen at hm
  obtain ⟨z, hz⟩ : ∃ z, z = okRing n k := ⟨_, rfl⟩
  rw [← hz]
  unfold okRing at hz
  by_cases h1 : 1 ≤ (n : Int) <;> by_cases h2 : (n : Int) ≤ 1024
  all_goals first | (exfalso; omega) | skip
  all_goals
    simp only [h1, h2, decide_true, decide_false, Bool.and_true, Bool.and_false, Bool.true_and, Bool.false_and] at hz
    have HZ := hid hz
    clear hz
    go_enter Try.func126, Try.ntmps126
    go_wp2_with (go_at_call 57; refine (s_In _ _ _ _).mono ?_; rintro e w' ⟨rfl, rfl⟩)
    go_ret
    refine ⟨ret_b ?_, rfl⟩
    first | (rw [HZ.out]; done) | (rw [HZ.out]; congr 1; exact decide_eq_decide.2 (by omega))
set_option maxHeartbeats 1000000 in
theorem i_EqualFuncR (B B' : Nat) (s s' : Value) (x x' : Nat → Nat) (n n' : Nat) (w : World) (hs : RdS w B s x n) (hs' : RdS w B' s' x' n') :
    Calls Try.prog 73 #[s, s', .func (.func 74) #[] #[]] w fun e w' => e = .returned (.bool (sameS x x' n n')) ∧ w = w' := by
  by_cases hne : n = n'
  · subst hne
    rw [sameS_eq]
    by_cases h0 : n = 0
    · subst h0
      rcases hs.form with ⟨rfl, _⟩ | ⟨a, cap, rfl, hc, hm⟩ <;> rcases hs'.form with ⟨rfl, _⟩ | ⟨a', cap', rfl, hc', hm'⟩
      all_goals
        clear hs hs'
        go_enter Try.func73, Try.ntmps73
        go_wp2
        go_loop [17] (fun i => i = .int .i64 0) (fun _ => 0)
        case atStart => rfl
        case round =>
          obtain rfl := hrel
          go_wp2
          go_ret
          exact ⟨rfl, rfl⟩
    obtain ⟨a, cap, y, rfl, hc, hm, hx⟩ := hs.raw (by omega)
    obtain ⟨a', cap', y', rfl, hc', hm', hx'⟩ := hs'.raw (by omega)
    have Hc := hid (fun i hi => (hx i hi).1); have Hc' := hid (fun i hi => (hx' i hi).1)
    have Hs : Hid (∀ i, i < n → sameB (y i) (y' i) = sameB (x i) (x' i)) := fun i hi => by rw [← (hx i hi).2.2, ← (hx' i hi).2.2, sameB_can]
    clear hx hx' hs hs' h0
    unfold maxLen at hm hm'
    go_enter Try.func73, Try.ntmps73
    go_wp2
    go_loop [17] (fun i => ∃ k : Nat, k ≤ n ∧ i = .int .i64 k ∧ Hid (∀ i, i < k → sameB (x i) (x' i) = true)) (fun i => n - (intOf i).toNat)
    case atStart => exact ⟨0, by omega, rfl, fun i hi => absurd hi (by omega)⟩
    case round =>
      obtain ⟨k, hk, rfl, HK⟩ := hrel
      by_cases hlt : k < n
      · have ck := Hc.out k hlt
        have ck' := Hc'.out k hlt
        have HE := hid (Hs.out k hlt)
        cases hb : sameB (y k) (y' k)
        · go_wp2_with (go_at_call 74; refine (i_SameSample _ _ _).mono ?_; rintro e w' ⟨rfl, rfl⟩)
          go_ret
          exact ⟨ret_b (eqRow_no hlt (HE.out.symm.trans hb)).symm, rfl⟩
        · go_wp2_with (go_at_call 74; refine (i_SameSample _ _ _).mono ?_; rintro e w' ⟨rfl, rfl⟩)
          go_round
          case rel => exact ⟨k + 1, by omega, by go_num, all_step (p := fun j => sameB (x j) (x' j) = true) HK.out (HE.out.symm.trans hb)⟩
          case measure => simp [intOf]; omega
      · obtain rfl : k = n := by omega
        go_wp2
        go_ret
        exact ⟨ret_b (eqRow_yes HK.out).symm, rfl⟩
  · rw [sameS_ne hne]
    have hne' : ¬ (n : Int) = (n' : Int) := by omega
    rcases hs.form with ⟨rfl, rfl⟩ | ⟨a, cap, rfl, hc, hm⟩ <;> rcases hs'.form with ⟨rfl, rfl⟩ | ⟨a', cap', rfl, hc', hm'⟩
    all_goals first | exact absurd rfl hne | skip
    all_goals
      clear hs hs'
      try unfold maxLen at hm
      try unfold maxLen at hm'
      go_enter Try.func73, Try.ntmps73
      go_wp2
      go_ret
      exact ⟨rfl, rfl⟩
theorem i_SameRingR (B B' : Nat) (s s' : Value) (x x' : Nat → Nat) (n n' : Nat) (k k' : Int) (w : World) (hs : RdS w B s x n) (hs' : RdS w B' s' x' n') :
    Calls Try.prog 72 #[.agg #[s, .int .i64 k], .agg #[s', .int .i64 k']] w fun e w' => e = .returned (.bool ((k == k') && sameS x x' n n')) ∧ le w w' := by
  have F := ((Frg.nil w).box 82 #[s, .int .i64 k]).box 82 #[s', .int .i64 k']
  have HL := hid F.below
  have HS := hid (hs.le F.below); have HS' := hid (hs'.le F.below)
  clear hs hs' F
  cases hk : (k == k')
  all_goals
    go_enter Try.func72, Try.ntmps72
    go_wp2_with (go_at_call 73; refine (i_EqualFuncR B B' s s' x x' n n' _ HS.out HS'.out).mono ?_; rintro e w' ⟨rfl, rfl⟩)
    go_ret
    exact ⟨ret_b (by first | rfl | simp), HL.out⟩
theorem infoRingL : (Try.prog.info? 114).map (·.size) = some 2 := by kernel_rfl
end Go.Proofs.Ytjcbolllohmjjaa

/- Laws for operations that are guarded and wanted. Nothing here names a program. -/
namespace Go.Fk
open Go Go.RowKit
section
variable {P : Program} {w : World} {ops : Array Oper} {rest : List Oper} {o : Oper} {a : Act} {Q : Exit → Act → World → Prop}
theorem wpList_wanted (hw : Region.wanted o (yielded ops a.tmps) = true) (h : ∀ K : Act → World → Prop, (∀ a w, wpList P ops Q rest a w → K a w) → o.wp P a w K Q) : wpList P ops Q (o :: rest) a w :=
  wpList_step fun K hK => by simp only [hw, if_true]; exact h K hK
theorem wpList_widenG {src dst : TypeId} {x : Operand} (hop : o.op = Op.convert src dst x) {b : Nat} (hx : a.eval x = .float .f32 b)
    (hs : P.underlying src = some (.float .f32)) (hd : P.underlying dst = some (.float .f64)) (hw : Region.wanted o (yielded ops a.tmps) = true)
    (hK : ∀ r n, Hid (can .f64 r = can .f64 (widen b)) → Hid (fits .f64 r) → wpList P ops Q rest (a.put o.dst (.float .f64 r)) (w.drewN n)) : wpList P ops Q (o :: rest) a w := by
  refine wpList_wanted hw fun K hK' => ?_
  obtain ⟨r, n, hrun, hr, hf⟩ := run_widen (P := P) w src dst b hs hd
  unfold Oper.wp
  simp [execOp, hop, hx, hrun, Result.andThen]
  exact hK' _ _ (hK r n hr hf)
end
end Go.Fk

/- What grows by append, beside facts of memory. Nothing here names a program. -/
namespace Go.Fk
open Go Go.RowKit
theorem ownsRow_chS {S : Nat → Prop} {w w' : World} {e : TypeId} {n B : Nat} {xs : List Value} {v : Value} (hw : Chg S w w') (h : w.ownsRow B e 1 v n xs) (hS : ∀ i, S i → i < B) : w'.ownsRow B e 1 v n xs := by
  obtain ⟨h1, h2⟩ := h
  refine ⟨h1, ?_⟩
  rcases h2 with h2 | ⟨q, cap, cur, e1, e2, e3, e4⟩
  · exact .inl h2
  · exact .inr ⟨q, cap, cur, e1, e2, by have := hw.row (g := q) (t := e) (cs := cur) e3 (fun hq => by have := hS q hq; omega); exact this, e4⟩
theorem ownBlock_ge {w : World} {B : Nat} {e : TypeId} {z : Nat} {v : Value} {n : Nat} {xs : List Value} (h : w.ownsRow B e z v n xs) : ∀ k, v.ownBlock = some k → B ≤ k := by
  rcases h.2 with ⟨rfl, _⟩ | ⟨q, cap, cur, rfl, hb, _⟩
  · intro k hk; cases hk
  · intro k hk; simp only [Value.ownBlock, Option.some.injEq] at hk; omega
theorem chg_grown {w w' : World} {row : Option Nat} {B : Nat} (h : w.grownBy w' row) (hr : ∀ k, row = some k → B ≤ k) : Chg (B ≤ ·) w w' :=
  ⟨h.os, h.tape, h.output, h.size, fun k hk hn => h.block k hk (fun e => hn (hr k e.symm))⟩
theorem Frg.up {w0 w w' : World} {L : List Fact} {B : Nat} (h : Frg w0 w L) (k : Chg (B ≤ ·) w w') (hB : ∀ e ∈ L, e.hi ≤ B) (h0 : w0.heap.size ≤ B) : Frg w0 w' L :=
  ⟨h.below.trans (k.below (fun i hi => Nat.le_trans h0 hi) h.size), fun e he => by
    obtain ⟨h1, h2, h3⟩ := h.facts e he
    exact ⟨h1, Nat.le_trans h2 k.size, e.ok w w' h3 (fun i _ hi => k.block i (by omega) (fun hb => by have := hB e he; omega))⟩, h.apart⟩
theorem flist_snoc (y : Nat → Nat) (n a : Nat) : flist y n ++ [.float .f32 a] = flist (fun j => if j = n then a else y j) (n + 1) := by
  have h := flist_app y (fun _ => a) n 1
  have h1 : flist (fun _ => a) 1 = [.float .f32 a] := by simp [flist]
  rw [h1] at h
  rw [h]
  apply List.ext_getElem?
  intro i
  by_cases hi : i < n + 1
  · rw [flist_get' _ hi, flist_get' _ hi]
    by_cases e : i = n
    · simp [e]
    · simp [e, show i < n by omega]
  · rw [List.getElem?_eq_none (by rw [flist_length]; omega), List.getElem?_eq_none (by rw [flist_length]; omega)]
theorem Frg.own2 {w0 w w' : World} {L : List Fact} {q n n' : Nat} {s s' : Value} {x x' : Nat → Nat} (h : Frg w0 w L) (k : Below w.heap.size w w') (h1 : w.heap.size ≤ q) (h2 : q ≤ w'.heap.size) (o1 : OwnS w' w.heap.size q s x n) (o2 : OwnS w' q w'.heap.size s' x' n') :
    Frg w0 w' (ownF q w'.heap.size s' x' n' :: ownF w.heap.size q s x n :: L) := by
  refine ⟨(h.le k).below, fun e he => ?_, .cons (fun e he => ?_) (.cons (fun e he => (h.facts e he).2.1) h.apart)⟩
  · rcases List.mem_cons.1 he with rfl | he
    · exact ⟨Nat.le_trans h.size h1, Nat.le_refl _, o2⟩
    · rcases List.mem_cons.1 he with rfl | he
      · exact ⟨h.size, h2, o1⟩
      · exact (h.le k).facts e he
  · rcases List.mem_cons.1 he with rfl | he
    · exact Nat.le_refl q
    · exact Nat.le_trans (h.facts e he).2.1 h1
theorem m12 {b0 b1 b2 b3 b4 b5 b6 b7 b8 b9 b10 b11 a : Fact} {l : List Fact} : a ∈ b0 :: b1 :: b2 :: b3 :: b4 :: b5 :: b6 :: b7 :: b8 :: b9 :: b10 :: b11 :: a :: l := List.mem_cons_of_mem _ (List.mem_cons_of_mem _ (List.mem_cons_of_mem _ (List.mem_cons_of_mem _ (List.mem_cons_of_mem _ (List.mem_cons_of_mem _ (List.mem_cons_of_mem _ (List.mem_cons_of_mem _ (List.mem_cons_of_mem _ (List.mem_cons_of_mem _ (List.mem_cons_of_mem _ (List.mem_cons_of_mem _ (List.mem_cons_self))))))))))))
theorem m13 {b0 b1 b2 b3 b4 b5 b6 b7 b8 b9 b10 b11 b12 a : Fact} {l : List Fact} : a ∈ b0 :: b1 :: b2 :: b3 :: b4 :: b5 :: b6 :: b7 :: b8 :: b9 :: b10 :: b11 :: b12 :: a :: l := List.mem_cons_of_mem _ (List.mem_cons_of_mem _ (List.mem_cons_of_mem _ (List.mem_cons_of_mem _ (List.mem_cons_of_mem _ (List.mem_cons_of_mem _ (List.mem_cons_of_mem _ (List.mem_cons_of_mem _ (List.mem_cons_of_mem _ (List.mem_cons_of_mem _ (List.mem_cons_of_mem _ (List.mem_cons_of_mem _ (List.mem_cons_of_mem _ (List.mem_cons_self)))))))))))))
theorem m14 {b0 b1 b2 b3 b4 b5 b6 b7 b8 b9 b10 b11 b12 b13 a : Fact} {l : List Fact} : a ∈ b0 :: b1 :: b2 :: b3 :: b4 :: b5 :: b6 :: b7 :: b8 :: b9 :: b10 :: b11 :: b12 :: b13 :: a :: l := List.mem_cons_of_mem _ (List.mem_cons_of_mem _ (List.mem_cons_of_mem _ (List.mem_cons_of_mem _ (List.mem_cons_of_mem _ (List.mem_cons_of_mem _ (List.mem_cons_of_mem _ (List.mem_cons_of_mem _ (List.mem_cons_of_mem _ (List.mem_cons_of_mem _ (List.mem_cons_of_mem _ (List.mem_cons_of_mem _ (List.mem_cons_of_mem _ (List.mem_cons_of_mem _ (List.mem_cons_self))))))))))))))
theorem m15 {b0 b1 b2 b3 b4 b5 b6 b7 b8 b9 b10 b11 b12 b13 b14 a : Fact} {l : List Fact} : a ∈ b0 :: b1 :: b2 :: b3 :: b4 :: b5 :: b6 :: b7 :: b8 :: b9 :: b10 :: b11 :: b12 :: b13 :: b14 :: a :: l := List.mem_cons_of_mem _ (List.mem_cons_of_mem _ (List.mem_cons_of_mem _ (List.mem_cons_of_mem _ (List.mem_cons_of_mem _ (List.mem_cons_of_mem _ (List.mem_cons_of_mem _ (List.mem_cons_of_mem _ (List.mem_cons_of_mem _ (List.mem_cons_of_mem _ (List.mem_cons_of_mem _ (List.mem_cons_of_mem _ (List.mem_cons_of_mem _ (List.mem_cons_of_mem _ (List.mem_cons_of_mem _ (List.mem_cons_self)))))))))))))))
theorem m16 {b0 b1 b2 b3 b4 b5 b6 b7 b8 b9 b10 b11 b12 b13 b14 b15 a : Fact} {l : List Fact} : a ∈ b0 :: b1 :: b2 :: b3 :: b4 :: b5 :: b6 :: b7 :: b8 :: b9 :: b10 :: b11 :: b12 :: b13 :: b14 :: b15 :: a :: l := List.mem_cons_of_mem _ (List.mem_cons_of_mem _ (List.mem_cons_of_mem _ (List.mem_cons_of_mem _ (List.mem_cons_of_mem _ (List.mem_cons_of_mem _ (List.mem_cons_of_mem _ (List.mem_cons_of_mem _ (List.mem_cons_of_mem _ (List.mem_cons_of_mem _ (List.mem_cons_of_mem _ (List.mem_cons_of_mem _ (List.mem_cons_of_mem _ (List.mem_cons_of_mem _ (List.mem_cons_of_mem _ (List.mem_cons_of_mem _ (List.mem_cons_self))))))))))))))))
theorem m17 {b0 b1 b2 b3 b4 b5 b6 b7 b8 b9 b10 b11 b12 b13 b14 b15 b16 a : Fact} {l : List Fact} : a ∈ b0 :: b1 :: b2 :: b3 :: b4 :: b5 :: b6 :: b7 :: b8 :: b9 :: b10 :: b11 :: b12 :: b13 :: b14 :: b15 :: b16 :: a :: l := List.mem_cons_of_mem _ (List.mem_cons_of_mem _ (List.mem_cons_of_mem _ (List.mem_cons_of_mem _ (List.mem_cons_of_mem _ (List.mem_cons_of_mem _ (List.mem_cons_of_mem _ (List.mem_cons_of_mem _ (List.mem_cons_of_mem _ (List.mem_cons_of_mem _ (List.mem_cons_of_mem _ (List.mem_cons_of_mem _ (List.mem_cons_of_mem _ (List.mem_cons_of_mem _ (List.mem_cons_of_mem _ (List.mem_cons_of_mem _ (List.mem_cons_of_mem _ (List.mem_cons_self)))))))))))))))))
theorem m18 {b0 b1 b2 b3 b4 b5 b6 b7 b8 b9 b10 b11 b12 b13 b14 b15 b16 b17 a : Fact} {l : List Fact} : a ∈ b0 :: b1 :: b2 :: b3 :: b4 :: b5 :: b6 :: b7 :: b8 :: b9 :: b10 :: b11 :: b12 :: b13 :: b14 :: b15 :: b16 :: b17 :: a :: l := List.mem_cons_of_mem _ (List.mem_cons_of_mem _ (List.mem_cons_of_mem _ (List.mem_cons_of_mem _ (List.mem_cons_of_mem _ (List.mem_cons_of_mem _ (List.mem_cons_of_mem _ (List.mem_cons_of_mem _ (List.mem_cons_of_mem _ (List.mem_cons_of_mem _ (List.mem_cons_of_mem _ (List.mem_cons_of_mem _ (List.mem_cons_of_mem _ (List.mem_cons_of_mem _ (List.mem_cons_of_mem _ (List.mem_cons_of_mem _ (List.mem_cons_of_mem _ (List.mem_cons_of_mem _ (List.mem_cons_self))))))))))))))))))
theorem m19 {b0 b1 b2 b3 b4 b5 b6 b7 b8 b9 b10 b11 b12 b13 b14 b15 b16 b17 b18 a : Fact} {l : List Fact} : a ∈ b0 :: b1 :: b2 :: b3 :: b4 :: b5 :: b6 :: b7 :: b8 :: b9 :: b10 :: b11 :: b12 :: b13 :: b14 :: b15 :: b16 :: b17 :: b18 :: a :: l := List.mem_cons_of_mem _ (List.mem_cons_of_mem _ (List.mem_cons_of_mem _ (List.mem_cons_of_mem _ (List.mem_cons_of_mem _ (List.mem_cons_of_mem _ (List.mem_cons_of_mem _ (List.mem_cons_of_mem _ (List.mem_cons_of_mem _ (List.mem_cons_of_mem _ (List.mem_cons_of_mem _ (List.mem_cons_of_mem _ (List.mem_cons_of_mem _ (List.mem_cons_of_mem _ (List.mem_cons_of_mem _ (List.mem_cons_of_mem _ (List.mem_cons_of_mem _ (List.mem_cons_of_mem _ (List.mem_cons_of_mem _ (List.mem_cons_self)))))))))))))))))))
theorem Frg.mark10 {w0 w w' : World} {lo hi n : Nat} {s : Value} {x x' : Nat → Nat} {l : List Fact} {b0 b1 b2 b3 b4 b5 b6 b7 b8 b9 : Fact} (h : Frg w0 w (b0 :: b1 :: b2 :: b3 :: b4 :: b5 :: b6 :: b7 :: b8 :: b9 :: ownF lo hi s x n :: l)) (hp : OwnS w' lo hi s x' n) (k : Chg (rng lo hi) w w') : Frg w0 w' (b0 :: b1 :: b2 :: b3 :: b4 :: b5 :: b6 :: b7 :: b8 :: b9 :: ownF lo hi s x' n :: l) :=
  Frg.chg [b0, b1, b2, b3, b4, b5, b6, b7, b8, b9] (e := ownF lo hi s x n) (e' := ownF lo hi s x' n) h k hp rfl rfl
theorem Frg.mark11 {w0 w w' : World} {lo hi n : Nat} {s : Value} {x x' : Nat → Nat} {l : List Fact} {b0 b1 b2 b3 b4 b5 b6 b7 b8 b9 b10 : Fact} (h : Frg w0 w (b0 :: b1 :: b2 :: b3 :: b4 :: b5 :: b6 :: b7 :: b8 :: b9 :: b10 :: ownF lo hi s x n :: l)) (hp : OwnS w' lo hi s x' n) (k : Chg (rng lo hi) w w') : Frg w0 w' (b0 :: b1 :: b2 :: b3 :: b4 :: b5 :: b6 :: b7 :: b8 :: b9 :: b10 :: ownF lo hi s x' n :: l) :=
  Frg.chg [b0, b1, b2, b3, b4, b5, b6, b7, b8, b9, b10] (e := ownF lo hi s x n) (e' := ownF lo hi s x' n) h k hp rfl rfl
theorem Frg.mark12 {w0 w w' : World} {lo hi n : Nat} {s : Value} {x x' : Nat → Nat} {l : List Fact} {b0 b1 b2 b3 b4 b5 b6 b7 b8 b9 b10 b11 : Fact} (h : Frg w0 w (b0 :: b1 :: b2 :: b3 :: b4 :: b5 :: b6 :: b7 :: b8 :: b9 :: b10 :: b11 :: ownF lo hi s x n :: l)) (hp : OwnS w' lo hi s x' n) (k : Chg (rng lo hi) w w') : Frg w0 w' (b0 :: b1 :: b2 :: b3 :: b4 :: b5 :: b6 :: b7 :: b8 :: b9 :: b10 :: b11 :: ownF lo hi s x' n :: l) :=
  Frg.chg [b0, b1, b2, b3, b4, b5, b6, b7, b8, b9, b10, b11] (e := ownF lo hi s x n) (e' := ownF lo hi s x' n) h k hp rfl rfl
theorem Frg.mark13 {w0 w w' : World} {lo hi n : Nat} {s : Value} {x x' : Nat → Nat} {l : List Fact} {b0 b1 b2 b3 b4 b5 b6 b7 b8 b9 b10 b11 b12 : Fact} (h : Frg w0 w (b0 :: b1 :: b2 :: b3 :: b4 :: b5 :: b6 :: b7 :: b8 :: b9 :: b10 :: b11 :: b12 :: ownF lo hi s x n :: l)) (hp : OwnS w' lo hi s x' n) (k : Chg (rng lo hi) w w') : Frg w0 w' (b0 :: b1 :: b2 :: b3 :: b4 :: b5 :: b6 :: b7 :: b8 :: b9 :: b10 :: b11 :: b12 :: ownF lo hi s x' n :: l) :=
  Frg.chg [b0, b1, b2, b3, b4, b5, b6, b7, b8, b9, b10, b11, b12] (e := ownF lo hi s x n) (e' := ownF lo hi s x' n) h k hp rfl rfl
theorem Frg.mark14 {w0 w w' : World} {lo hi n : Nat} {s : Value} {x x' : Nat → Nat} {l : List Fact} {b0 b1 b2 b3 b4 b5 b6 b7 b8 b9 b10 b11 b12 b13 : Fact} (h : Frg w0 w (b0 :: b1 :: b2 :: b3 :: b4 :: b5 :: b6 :: b7 :: b8 :: b9 :: b10 :: b11 :: b12 :: b13 :: ownF lo hi s x n :: l)) (hp : OwnS w' lo hi s x' n) (k : Chg (rng lo hi) w w') : Frg w0 w' (b0 :: b1 :: b2 :: b3 :: b4 :: b5 :: b6 :: b7 :: b8 :: b9 :: b10 :: b11 :: b12 :: b13 :: ownF lo hi s x' n :: l) :=
  Frg.chg [b0, b1, b2, b3, b4, b5, b6, b7, b8, b9, b10, b11, b12, b13] (e := ownF lo hi s x n) (e' := ownF lo hi s x' n) h k hp rfl rfl
theorem Frg.mark15 {w0 w w' : World} {lo hi n : Nat} {s : Value} {x x' : Nat → Nat} {l : List Fact} {b0 b1 b2 b3 b4 b5 b6 b7 b8 b9 b10 b11 b12 b13 b14 : Fact} (h : Frg w0 w (b0 :: b1 :: b2 :: b3 :: b4 :: b5 :: b6 :: b7 :: b8 :: b9 :: b10 :: b11 :: b12 :: b13 :: b14 :: ownF lo hi s x n :: l)) (hp : OwnS w' lo hi s x' n) (k : Chg (rng lo hi) w w') : Frg w0 w' (b0 :: b1 :: b2 :: b3 :: b4 :: b5 :: b6 :: b7 :: b8 :: b9 :: b10 :: b11 :: b12 :: b13 :: b14 :: ownF lo hi s x' n :: l) :=
  Frg.chg [b0, b1, b2, b3, b4, b5, b6, b7, b8, b9, b10, b11, b12, b13, b14] (e := ownF lo hi s x n) (e' := ownF lo hi s x' n) h k hp rfl rfl
theorem Frg.mark16 {w0 w w' : World} {lo hi n : Nat} {s : Value} {x x' : Nat → Nat} {l : List Fact} {b0 b1 b2 b3 b4 b5 b6 b7 b8 b9 b10 b11 b12 b13 b14 b15 : Fact} (h : Frg w0 w (b0 :: b1 :: b2 :: b3 :: b4 :: b5 :: b6 :: b7 :: b8 :: b9 :: b10 :: b11 :: b12 :: b13 :: b14 :: b15 :: ownF lo hi s x n :: l)) (hp : OwnS w' lo hi s x' n) (k : Chg (rng lo hi) w w') : Frg w0 w' (b0 :: b1 :: b2 :: b3 :: b4 :: b5 :: b6 :: b7 :: b8 :: b9 :: b10 :: b11 :: b12 :: b13 :: b14 :: b15 :: ownF lo hi s x' n :: l) :=
  Frg.chg [b0, b1, b2, b3, b4, b5, b6, b7, b8, b9, b10, b11, b12, b13, b14, b15] (e := ownF lo hi s x n) (e' := ownF lo hi s x' n) h k hp rfl rfl
end Go.Fk

/- Filling a list, one by one. Nothing here names a program. -/
namespace Go.Fk
open Go Go.RowKit
/-- So many outputs, then the inputs. -/
def upto (j : Nat) (h z : Nat → Nat) : Nat → Nat := fun i => if i < j then h i else z i
theorem upto_zero (h z : Nat → Nat) : upto 0 h z = z := by funext i; simp [upto]
theorem upto_set (j : Nat) (h z : Nat → Nat) (r : Nat) : (fun i => if i = j then r else upto j h z i) = upto (j + 1) (fun i => if i = j then r else h i) z := by
  funext i
  unfold upto
  by_cases e : i = j
  · subst e; simp
  · by_cases l : i < j
    · simp [e, l, show i < j + 1 by omega]
    · simp [e, l, show ¬ i < j + 1 by omega]
theorem upto_full (h z : Nat → Nat) : ftab .f32 (upto 16 h z) 16 = ftab .f32 h 16 := ftab_congr (fun j hj => if_pos hj)
end Go.Fk

/- 'BreathRamp' of both; 'between'. -/
namespace Go.Fk
open Go Go.RowKit
/-- A number that lies behind a share of the way. -/
def betwV (p q s : Nat) : Nat := fop .add .f32 p (fop .mul .f32 (fop .sub .f32 q p) s)
theorem betw_of {p q s d m r : Nat} (hd : can .f32 d = fop .sub .f32 q p) (hm : can .f32 m = fop .mul .f32 d s) (hr : can .f32 r = fop .add .f32 p m) : can .f32 r = betwV p q s := by
  rw [hr, betwV]
  refine fop_congr rfl (hm.trans ?_)
  rw [can_fop]
  exact fop_congr (hd.trans (can_fop _ _ _ _).symm) rfl
theorem betw_congr {p q s s' : Nat} (h : can .f32 s = can .f32 s') : betwV p q s = betwV p q s' := fop_congr rfl (by rw [can_fop, can_fop]; exact fop_congr rfl h)
def OutFd (v : Nat) (w : World) (e : Ending) (w' : World) : Prop := ∃ y, e = .returned (.float .f32 y) ∧ can .f32 y = v ∧ fits .f32 y ∧ ∃ n, w' = w.drewN n
theorem ownsRow_drewN {w : World} {e : TypeId} {n B : Nat} {xs : List Value} {v : Value} (h : w.ownsRow B e 1 v n xs) (m : Nat) : (w.drewN m).ownsRow B e 1 v n xs := ownsRow_chS (S := fun _ => False) (Chg.of_le (le_drewN w m)) h (fun _ k => k.elim)
def rampV (p q K j : Nat) : Nat := betwV p q (fop .quo .f32 (floatOfInt .f32 (j : Int)) (floatOfInt .f32 (K : Int)))
end Go.Fk
namespace Go.Proofs.Ytjcbolllohmjjaa
open Go.RowKit Go.Fk
theorem i_between (p q s : Nat) (w : World) : Calls Try.prog 58 #[.float .f32 p, .float .f32 q, .float .f32 s] w (OutFd (betwV p q s) w) := by
  go_enter Try.func58, Try.ntmps58
  go_wp2_with (first | (with_reducible refine wpList_farith (op := .sub) rfl rfl rfl rfl rfl ?_; intro d n1 hd fd) | (with_reducible refine wpList_farith (op := .mul) rfl rfl rfl rfl rfl ?_; intro m n2 hm fm) | (with_reducible refine wpList_farith (op := .add) rfl rfl rfl rfl rfl ?_; intro r n3 hr fr))
  go_ret
  exact ⟨_, rfl, betw_of hd.out hm.out hr.out, fr.out, _, rfl⟩
set_option maxRecDepth 100000 in
set_option maxHeartbeats 1000000 in
theorem i_BreathRamp_no (p q : Nat) (c : Int) (w : World) (h : c < 0 ∨ 4096 < c) : Calls Try.prog 21 #[.float .f32 p, .float .f32 q, .int .i64 c] w (Out_li (fun _ => 0) 0 2 w) := by
  rcases (show c < 0 ∨ (¬ c < 0 ∧ 4096 < c) by omega) with h | ⟨h, h'⟩
  all_goals
    go_enter Try.func21, Try.ntmps21
    go_wp2
    go_ret2
    exact ⟨_, rfl, .inl ⟨rfl, rfl⟩, le_refl _⟩
set_option maxRecDepth 100000 in
set_option maxHeartbeats 1000000 in
theorem i_BreathRamp_yes (p q : Nat) (K : Nat) (w : World) (hK : K ≤ 4096) : Calls Try.prog 21 #[.float .f32 p, .float .f32 q, .int .i64 (K : Int)] w (Out_li (rampV p q K) K 0 w) := by
  have HM := fun w => makeF K (by omega) w
  have hK1 : (K : Int) ≤ 4096 := by omega
  have hK0 : 0 ≤ (K : Int) := by omega
  go_enter Try.func21, Try.ntmps21
  go_wp2
  go_loopw [9, 20] (fun _ i wr => ∃ j : Nat, j ≤ K ∧ i = .int .i64 j ∧ ∃ y : Nat → Nat, Hid (∀ i, i < j → fits .f32 (y i) ∧ can .f32 (y i) = rampV p q K i) ∧ Hid (Frg w wr [rowF w.heap.size 22 (ftab .f32 (upto j y (fun _ => 0)) K)])) (fun _ i _ => K - (intOf i).toNat)
  case atStart => exact ⟨0, by omega, rfl, fun _ => 0, fun m hm => absurd hm (by omega), by rw [upto_zero]; exact (Frg.nil w).box _ _⟩
  case round =>
    obtain ⟨j, hj, rfl, y, HJ, FJ⟩ := hrel
    by_cases hlt : j < K
    · have cc := (FJ.out.row m0).ftab hlt
      have ff := (FJ.out.row m0).frozen j
      go_wp2_with (first | (with_reducible refine wpList_farith (op := .quo) rfl rfl rfl rfl rfl ?_; intro s n1 hs fs) | (go_at_call 58; ((with_reducible refine (i_between _ _ _ _).mono ?_); rintro e w4 ⟨r, rfl, hr, fr, nr, rfl⟩; have HR := hid hr; have FR := hid fr; clear hr fr)))
      go_roundw
      case rel =>
        refine ⟨j + 1, by omega, by go_num, fun i => if i = j then r else y i, fill_step (p := fun i v => fits .f32 v ∧ can .f32 v = rampV p q K i) HJ.out ⟨FR.out, HR.out.trans (betw_congr (hs.out.trans (can_fop _ _ _ _).symm))⟩, ?_⟩
        have F4 := (FJ.out.drewN (n1 + nr)).set0 j (.float .f32 r)
        rw [set_ftab, upto_set] at F4
        exact F4
      case measure => simp [intOf]; omega
    · obtain rfl : j = K := by omega
      rw [show (ftab .f32 (upto j y (fun _ => 0)) j) = ftab .f32 y j from ftab_congr (fun i hi => if_pos hi)] at FJ
      have hw2 := hid (FJ.out.facts (rowF w.heap.size 22 (ftab .f32 y j)) m0)
      go_wp2
      go_ret2
      exact ⟨_, rfl, .inr ⟨w.heap.size, 0, j, _, rfl, Nat.le_refl _, by unfold maxLen; omega, Nat.le_refl _, hw2.out.2.1, hw2.out.2.2, fun i hi => ⟨y i, by rw [Nat.zero_add]; exact get_ftab .f32 y j i hi, (HJ.out i hi).1, (HJ.out i hi).2⟩⟩, FJ.out.below⟩
set_option maxRecDepth 100000 in
set_option maxHeartbeats 1000000 in
theorem s_BreathRamp_no (p q : Nat) (c : Int) (w : World) (h : c < 0 ∨ 4096 < c) : Calls Try.prog 20 #[.float .f32 p, .float .f32 q, .int .i64 c] w (Out_li (fun _ => 0) 0 2 w) := by
  have hIn : Hid (∀ w, Calls Try.prog 57 #[.int .i64 c, .int .i64 0, .int .i64 4096] w fun e w' => e = .returned (.bool false) ∧ w = w') := fun w => by
    have h0 := s_In c 0 4096 w
    rwa [show (decide ((0 : Int) ≤ c) && decide (c ≤ 4096)) = false by rcases h with h | h; (rw [decide_eq_false (by omega)]; rfl); (rw [Bool.and_eq_false_iff]; exact .inr (decide_eq_false (by omega)))] at h0
  clear h
  have F := (Frg.nil w).box 22 #[]
  have R1 := hid (F.facts _ m0)
  have L := hid F.below
  clear F
  go_enter Try.func20, Try.ntmps20
  go_wp2_with (go_at_call 57; ((with_reducible refine (hIn.out _).mono ?_); rintro e w1 ⟨rfl, rfl⟩))
  go_ret2
  exact ⟨_, rfl, .inr ⟨w.heap.size, 0, 0, _, rfl, Nat.le_refl _, by decide, Nat.le_refl _, R1.out.2.1, R1.out.2.2, fun i hi => absurd hi (by omega)⟩, L.out⟩
set_option maxRecDepth 100000 in
set_option maxHeartbeats 1000000 in
theorem s_BreathRamp_yes (p q : Nat) (K : Nat) (w : World) (hK : K ≤ 4096) : Calls Try.prog 20 #[.float .f32 p, .float .f32 q, .int .i64 (K : Int)] w (Out_li (rampV p q K) K 0 w) := by
  have hIn : Hid (∀ w, Calls Try.prog 57 #[.int .i64 (K : Int), .int .i64 0, .int .i64 4096] w fun e w' => e = .returned (.bool true) ∧ w = w') := fun w => by
    have h0 := s_In (K : Int) 0 4096 w
    rwa [show (decide ((0 : Int) ≤ K) && decide ((K : Int) ≤ 4096)) = true by simp only [Bool.and_eq_true, decide_eq_true_eq]; omega] at h0
  have hK1 : (K : Int) ≤ 4096 := by omega
  have hK0 : 0 ≤ (K : Int) := by omega
  have HI : Hid (∃ i, Try.prog.info? 22 = some i ∧ i.zero = some (.float .f32 0) ∧ i.size = 1 ∧ i.bytes = 4) := info36
  obtain ⟨i0, HI⟩ := HI
  replace HI := hid HI
  have OR : Hid ((w.alloc (.cells #[] 22)).ownsRow w.heap.size 22 1 (.slice (some ⟨w.heap.size, 0, none⟩) 0 0) 0 (flist (fun _ => 0) 0)) := ⟨rfl, .inr ⟨w.heap.size, 0, #[], rfl, Nat.le_refl _, by have := Row.new w 22 #[]; exact this, Nat.le_refl _, by decide, rfl, rfl⟩⟩
  have F := hid ((Frg.nil w).alloc (.cells #[] 22))
  go_enter Try.func20, Try.ntmps20
  go_wp2_with (go_at_call 57; ((with_reducible refine (hIn.out _).mono ?_); rintro e w1 ⟨rfl, rfl⟩))
  go_loopw [8, 9] (fun v i wr => ∃ j : Nat, j ≤ K ∧ i = .int .i64 j ∧ ∃ y : Nat → Nat, Hid (∀ i, i < j → fits .f32 (y i) ∧ can .f32 (y i) = rampV p q K i) ∧ Hid (wr.ownsRow w.heap.size 22 1 v j (flist y j)) ∧ Hid (Frg w wr [])) (fun _ i _ => K - (intOf i).toNat)
  case atStart => exact ⟨0, by omega, rfl, fun _ => 0, fun m hm => absurd hm (by omega), OR.out, F.out⟩
  case round =>
    obtain ⟨j, hj, rfl, y, HJ, HW, FJ⟩ := hrel
    clear F OR
    by_cases hlt : j < K
    · have hjK : (j : Int) < (K : Int) := by omega
      rename_i wr _
      have HS := hid FJ.out.size
      go_wp2_with (first | (with_reducible refine wpList_farith (op := .sub) rfl rfl rfl rfl rfl ?_; intro d n1 hd fd) | (with_reducible refine wpList_farith (op := .quo) rfl rfl rfl rfl rfl ?_; intro s n2 hs fs) | (with_reducible refine wpList_farith (op := .mul) rfl rfl rfl rfl rfl ?_; intro m n3 hm fm) | (with_reducible refine wpList_farith (op := .add) rfl rfl rfl rfl rfl ?_; intro r n4 hr fr) | (at_builtin; refine wpList_append_own _ rfl _ _ 30 rfl w.heap.size 22 i0 (.float .f32 0) 1 4 Try.underlying30 HI.out.1 HI.out.2.1 HI.out.2.2.1 HI.out.2.2.2 rfl (by decide) _ _ _ rfl ((ownsRow_drewN HW.out _).alloc _) ⟨wr.heap.size, 0, none⟩ 1 1 [.float .f32 r] rfl rfl (fun j u hj => by match j, hj with | 0, hj => simp at hj; subst hj; exact (Row.new (wr.drewN (n1 + n2 + n3 + n4)) 22 #[.float .f32 r]).cell? 0) (fun u hu => by simp at hu; subst hu; rfl) (by unfold maxLen; omega) (by omega) (by have := HS.out; simp; omega) ?_; intro v' w5 hown hgr _; have HOWN := hid hown; have HGR := hid hgr; clear hown hgr))
      go_roundw
      case rel =>
        refine ⟨j + 1, by omega, by go_num, fun i => if i = j then r else y i, fill_step (p := fun i v => fits .f32 v ∧ can .f32 v = rampV p q K i) HJ.out ⟨fr.out, (betw_of hd.out hm.out hr.out).trans (betw_congr (hs.out.trans (can_fop _ _ _ _).symm))⟩, ?_, ?_⟩
        · have := HOWN.out
          rw [flist_snoc] at this
          exact this
        · have hch : Chg (w.heap.size ≤ ·) wr w5 := (Chg.of_le (le_trans (le_drewN wr _) (le_alloc _ _))).trans (chg_grown HGR.out (ownBlock_ge HW.out))
          exact FJ.out.up hch (by simp) (Nat.le_refl _)
      case measure => simp [intOf]; omega
    · obtain rfl : j = K := by omega
      have OW := hid (own_of_row HW.out HJ.out)
      go_wp2
      go_ret2
      exact ⟨_, rfl, OW.out, FJ.out.below⟩
theorem both_BreathRamp (p q : Nat) (c : Int) : ∃ (xr0 : Nat → Nat) (nr0 : Nat) (ar1 : Int), nr0 ≤ 1048576 ∧ (∀ w : World, Calls Try.prog 20 #[.float .f32 p, .float .f32 q, .int .i64 c] w (Out_li xr0 nr0 ar1 w)) ∧ (∀ w : World, Calls Try.prog 21 #[.float .f32 p, .float .f32 q, .int .i64 c] w (Out_li xr0 nr0 ar1 w)) := by
  by_cases h : c < 0 ∨ 4096 < c
  · exact ⟨_, _, _, by omega, fun w => s_BreathRamp_no p q c w h, fun w => i_BreathRamp_no p q c w h⟩
  · obtain ⟨K, rfl⟩ : ∃ K : Nat, c = K := ⟨c.toNat, by omega⟩
    exact ⟨_, _, _, by omega, fun w => s_BreathRamp_yes p q K w (by omega), fun w => i_BreathRamp_yes p q K w (by omega)⟩
end Go.Proofs.Ytjcbolllohmjjaa

/- The walk of 'FnExactBreathRamp'. -/
namespace Go.Proofs.Ytjcbolllohmjjaa.fnExactBreathRamp
open Go.RowKit Go.Fk
set_option maxRecDepth 100000 in
set_option maxHeartbeats 4000000 in
theorem core (a0 : Nat) (a1 : Nat) (a2 : Int) (xr0 : Nat → Nat) (nr0 : Nat) (ar1 : Int) (w : World)  (hr0 : nr0 ≤ 1048576)
    (hS : ∀ (w : World), Calls Try.prog 20 #[.float .f32 a0, .float .f32 a1, .int .i64 a2] w (Out_li xr0 nr0 ar1 w))
    (hI : ∀ (w : World), Calls Try.prog 21 #[.float .f32 a0, .float .f32 a1, .int .i64 a2] w (Out_li xr0 nr0 ar1 w)) :
    Calls Try.prog 5 #[.float .f32 a0, .float .f32 a1, .int .i64 a2] w fun e w' => e = .returned (.bool true) ∧ Below w.heap.size w w' := by
  have HS := hid hS; have HI := hid hI; clear hS hI
  have F := Frg.nil w
  go_enter Try.func5, Try.ntmps5
  go_wp2_with (first | (((with_reducible refine listN F ?_); clear F; intro wN F)) | fail)
  first | ((with_reducible refine callAt0 F ?_); clear F; intro wN F) | ((with_reducible refine callAtN F ?_); clear F; intro wN F)
  refine (HS.out _  ).mono ?_
  rintro e wS ⟨vS0, rfl, oS0, hlS⟩
  have oc := hid (OwnS.one oS0); (first | replace F := F.own1 hlS oS0); clear hlS oS0
  go_wp2_with (first | (((with_reducible refine listN F ?_); clear F; intro wN F)) | fail)
  first | ((with_reducible refine callAt0 F ?_); clear F; intro wN F) | ((with_reducible refine callAtN F ?_); clear F; intro wN F)
  refine (HI.out _  ).mono ?_
  rintro e wI ⟨vI0, rfl, oI0, hlI⟩
  have oc := hid (OwnS.one oI0); (first | replace F := F.own1 hlI oI0); clear hlI oI0
  go_wp2_with (first | (((with_reducible refine listN F ?_); clear F; intro wN F)) | (go_at_call 22; ((with_reducible refine (eqR _ _ _ _ xr0 nr0 _ hr0 (by first | exact (F.own (by first | exact m0 | exact m1 | exact m2 | exact m3 | exact m4 | exact m5 | exact m6 | exact m7 | exact m8)).rd) (by first | exact (F.own (by first | exact m0 | exact m1 | exact m2 | exact m3 | exact m4 | exact m5 | exact m6 | exact m7 | exact m8)).rd)).mono ?_); rintro e w7 ⟨rfl, dq7, rfl⟩; replace F := F.drewN dq7)))
  go_wp2_with (first | (((with_reducible refine listN F ?_); clear F; intro wN F)) | (go_at_call 22; ((with_reducible refine (eqR _ _ _ _ xr0 nr0 _ hr0 (by first | exact (F.own (by first | exact m0 | exact m1 | exact m2 | exact m3 | exact m4 | exact m5 | exact m6 | exact m7 | exact m8)).rd) (by first | exact (F.own (by first | exact m0 | exact m1 | exact m2 | exact m3 | exact m4 | exact m5 | exact m6 | exact m7 | exact m8)).rd)).mono ?_); rintro e w7 ⟨rfl, dq7, rfl⟩; replace F := F.drewN dq7)))
  first | ((with_reducible refine callAt0 F ?_); clear F; intro wN F) | ((with_reducible refine callAtN F ?_); clear F; intro wN F)
  refine (markR _ _ _ xr0 nr0 1 _ hr0 (by omega) (by omega) (F.own (by first | exact m0 | exact m1 | exact m2 | exact m3 | exact m4 | exact m5 | exact m6 | exact m7 | exact m8))).mono ?_
  rintro e w5 ⟨rfl, hR, hU, _⟩
  (first | replace F := F.mark0 hR hU | replace F := F.mark1 hR hU | replace F := F.mark2 hR hU | replace F := F.mark3 hR hU | replace F := F.mark4 hR hU | replace F := F.mark5 hR hU | replace F := F.mark6 hR hU | replace F := F.mark7 hR hU | replace F := F.mark8 hR hU | replace F := F.mark9 hR hU); clear hR hU
  go_wp2_with (first | (((with_reducible refine listN F ?_); clear F; intro wN F)) | fail | (go_at_call 24; ((with_reducible refine (heldR _ _ nr0 1 _ hr0 (by omega) (by omega) (F.own (by first | exact m0 | exact m1 | exact m2 | exact m3 | exact m4 | exact m5 | exact m6 | exact m7 | exact m8)).rd).mono ?_); rintro e w6 ⟨rfl, rfl⟩; skip)))
  first | ((with_reducible refine callAt0 F ?_); clear F; intro wN F) | ((with_reducible refine callAtN F ?_); clear F; intro wN F)
  refine (HI.out _  ).mono ?_
  rintro e wH ⟨vH0, rfl, oH0, hlH⟩
  have oc := hid (OwnS.one oH0); (first | replace F := F.own1 hlH oH0); clear hlH oH0
  go_wp2_with (first | (((with_reducible refine listN F ?_); clear F; intro wN F)) | fail | fail | (go_at_call 22; ((with_reducible refine (eqR _ _ _ _ xr0 nr0 _ hr0 (by first | exact (F.own (by first | exact m0 | exact m1 | exact m2 | exact m3 | exact m4 | exact m5 | exact m6 | exact m7 | exact m8)).rd) (by first | exact (F.own (by first | exact m0 | exact m1 | exact m2 | exact m3 | exact m4 | exact m5 | exact m6 | exact m7 | exact m8)).rd)).mono ?_); rintro e w7 ⟨rfl, dq7, rfl⟩; replace F := F.drewN dq7)) | (go_at_call 24; ((with_reducible refine (heldR _ _ nr0 1 _ hr0 (by omega) (by omega) (F.own (by first | exact m0 | exact m1 | exact m2 | exact m3 | exact m4 | exact m5 | exact m6 | exact m7 | exact m8)).rd).mono ?_); rintro e w6 ⟨rfl, rfl⟩; skip)))
  go_ret
  first | exact ⟨rfl, F.below⟩ | exact ⟨rfl, below_drewN F.below _⟩
theorem walk (a0 : Nat) (a1 : Nat) (a2 : Int) (w : World) (w0 : fits .f32 a0) (w1 : fits .f32 a1) (w2 : (Lit.int .i64 a2).wf = true) :
    Calls Try.prog 5 #[.float .f32 a0, .float .f32 a1, .int .i64 a2] w fun e w' => e = .returned (.bool true) ∧ Below w.heap.size w w' := by
  obtain ⟨xr0, nr0, ar1, hr0, hS, hI⟩ := both_BreathRamp a0 a1 a2
  exact core a0 a1 a2 xr0 nr0 ar1 w  hr0 hS hI
end Go.Proofs.Ytjcbolllohmjjaa.fnExactBreathRamp
