/- Texts of the walk, laid in one file. -/
import Derived.LoopN
import Derived.Test.YtnkjmgadnejdlaaRows
import Derived.Handy
import Derived.Test.YtnkjmgadnejdlaaMc
set_option linter.unusedVariables false
set_option linter.unusedSimpArgs false
/- Which filters are valid: the plain function, the model's contract and the program's. -/
namespace Go.Fk
open Go Go.RowKit
/-- How many numbers and states a kind uses. -/
def cU (k : Int) : Nat := if k = 1 ∨ k = 2 then 2 else if k = 3 ∨ k = 5 then 1 else 3
def sU (k : Int) : Nat := if k = 1 ∨ k = 2 then 1 else 2
/-- Is a filter valid? -/
def okF (k : Int) (a b c x y : Nat) : Bool := (decide (1 ≤ k) && decide (k ≤ 5)) && (usedB (tri a b c) 3 (cU k) && usedB (duo x y) 2 (sU k))
theorem okF_kind {k : Int} {a b c x y : Nat} (h : okF k a b c x y = true) : 1 ≤ k ∧ k ≤ 5 := by
  simp only [okF, Bool.and_eq_true, decide_eq_true_eq] at h; exact h.1
theorem okF_out {k : Int} {a b c x y : Nat} (h : ¬ (1 ≤ k ∧ k ≤ 5)) : okF k a b c x y = false := by
  cases e : okF k a b c x y
  · rfl
  · exact absurd (okF_kind e) h
theorem cU_le (k : Int) : cU k ≤ 3 := by unfold cU; split; omega; split <;> omega
theorem sU_le (k : Int) : sU k ≤ 2 := by unfold sU; split <;> omega
theorem Row.six {w : World} {g : Nat} {t : TypeId} {v0 v1 v2 v3 v4 v5 : Value} (h : Row w g t #[v0, v1, v2, v3, v4, v5]) :
    w.cell? ⟨g, 0, none⟩ = some v0 ∧ w.cell? ⟨g, 1, none⟩ = some v1 ∧ w.cell? ⟨g, 2, none⟩ = some v2 ∧ w.cell? ⟨g, 3, none⟩ = some v3 ∧ w.cell? ⟨g, 4, none⟩ = some v4 ∧ w.cell? ⟨g, 5, none⟩ = some v5 :=
  ⟨h.cell? 0, h.cell? 1, h.cell? 2, h.cell? 3, h.cell? 4, h.cell? 5⟩
theorem Row.tri {w : World} {g : Nat} {t : TypeId} {k : Int} {a b c x y : Nat} (h : Row w g t (#[.int .i64 k, .float .f32 a, .float .f32 b, .float .f32 c, .float .f32 x, .float .f32 y] : Array Value)) (i : Nat) (hi : i < 3) : w.cell? ⟨g, 1 + i, none⟩ = some (.float .f32 (tri a b c i)) := by
  match i, hi with
  | 0, _ => exact h.cell? 1
  | 1, _ => exact h.cell? 2
  | 2, _ => exact h.cell? 3
theorem Row.duo {w : World} {g : Nat} {t : TypeId} {k : Int} {a b c x y : Nat} (h : Row w g t (#[.int .i64 k, .float .f32 a, .float .f32 b, .float .f32 c, .float .f32 x, .float .f32 y] : Array Value)) (i : Nat) (hi : i < 2) : w.cell? ⟨g, 4 + i, none⟩ = some (.float .f32 (duo x y i)) := by
  match i, hi with
  | 0, _ => exact h.cell? 4
  | 1, _ => exact h.cell? 5
/-- A filter within a block. -/
structure FilAt (w : World) (g f : Nat) (k : Int) (a b c x y : Nat) : Prop where
  k0 : w.cell? ⟨g, f, none⟩ = some (.int .i64 k)
  tri : ∀ i, i < 3 → w.cell? ⟨g, f + 1 + i, none⟩ = some (.float .f32 (tri a b c i))
  duo : ∀ i, i < 2 → w.cell? ⟨g, f + 4 + i, none⟩ = some (.float .f32 (duo x y i))
theorem Row.filAt {w : World} {g : Nat} {t : TypeId} {k : Int} {a b c x y : Nat} (h : Row w g t (#[.int .i64 k, .float .f32 a, .float .f32 b, .float .f32 c, .float .f32 x, .float .f32 y] : Array Value)) : FilAt w g 0 k a b c x y :=
  ⟨h.six.1, fun i hi => by rw [Nat.zero_add]; exact h.tri i hi, fun i hi => by rw [Nat.zero_add]; exact h.duo i hi⟩
/-- A filter within a row. -/
structure FilIn (cs : Array Value) (f : Nat) (k : Int) (a b c x y : Nat) : Prop where
  k0 : cs[f]? = some (.int .i64 k)
  c1 : cs[f + 1]? = some (.float .f32 a)
  c2 : cs[f + 2]? = some (.float .f32 b)
  c3 : cs[f + 3]? = some (.float .f32 c)
  c4 : cs[f + 4]? = some (.float .f32 x)
  c5 : cs[f + 5]? = some (.float .f32 y)
theorem FilIn.at {cs : Array Value} {f : Nat} {k : Int} {a b c x y : Nat} (h : FilIn cs f k a b c x y) {w : World} {g : Nat} {t : TypeId} (hr : Row w g t cs) : FilAt w g f k a b c x y :=
  ⟨(hr.cell? f).trans h.k0, fun i hi => by
    match i, hi with
    | 0, _ => exact (hr.cell? (f + 1)).trans h.c1
    | 1, _ => exact (hr.cell? (f + 2)).trans h.c2
    | 2, _ => exact (hr.cell? (f + 3)).trans h.c3, fun i hi => by
    match i, hi with
    | 0, _ => exact (hr.cell? (f + 4)).trans h.c4
    | 1, _ => exact (hr.cell? (f + 5)).trans h.c5⟩
theorem fits_tri {a b c : Nat} (ha : fits .f32 a) (hb : fits .f32 b) (hc : fits .f32 c) : ∀ i, i < 3 → fits .f32 (tri a b c i) := by
  intro i hi
  match i, hi with
  | 0, _ => exact ha
  | 1, _ => exact hb
  | 2, _ => exact hc
theorem fits_duo {a b : Nat} (ha : fits .f32 a) (hb : fits .f32 b) : ∀ i, i < 2 → fits .f32 (duo a b i) := by
  intro i hi
  match i, hi with
  | 0, _ => exact ha
  | 1, _ => exact hb
end Go.Fk
namespace Go.Proofs.Ytnkjmgadnejdlaa
open Go.RowKit Go.Fk
theorem s_Uses (k : Int) (w : World) : Calls Try.prog 84 #[.int .i64 k] w fun e w' => e = .returned (.tuple #[.int .i64 (cU k), .int .i64 (sU k)]) ∧ w = w' := by
  by_cases h1 : k = 1
  · subst h1
    go_enter Try.func84, Try.ntmps84
    go_wp2
    go_ret2
    exact ⟨rfl, rfl⟩
  by_cases h2 : k = 2
  · subst h2
    go_enter Try.func84, Try.ntmps84
    go_wp2
    go_ret2
    exact ⟨rfl, rfl⟩
  by_cases h3 : k = 3
  · subst h3
    go_enter Try.func84, Try.ntmps84
    go_wp2
    go_ret2
    exact ⟨rfl, rfl⟩
  by_cases h5 : k = 5
  · subst h5
    go_enter Try.func84, Try.ntmps84
    go_wp2
    go_ret2
    exact ⟨rfl, rfl⟩
  have e1 : cU k = 3 := by simp [cU, h1, h2, h3, h5]
  have e2 : sU k = 2 := by simp [sU, h1, h2]
  rw [e1, e2]
  go_enter Try.func84, Try.ntmps84
  go_wp2
  go_ret2
  exact ⟨rfl, rfl⟩
set_option maxHeartbeats 2000000 in
theorem s_OkAt (k : Int) (a b c x y : Nat) (g f : Nat) (w : World) (hr : FilAt w g f k a b c x y) : Calls Try.prog 64 #[.pointer (some ⟨g, f, none⟩)] w fun e w' => e = .returned (.bool (okF k a b c x y)) ∧ ∃ n, w' = w.drewN n := by
  have c0 := hr.k0
  have HR := hid hr
  clear hr
  by_cases hk : 1 ≤ k ∧ k ≤ 5
  · obtain ⟨k1, k5⟩ := hk
    obtain ⟨p, hp⟩ : ∃ p, p = cU k := ⟨_, rfl⟩
    obtain ⟨q, hq⟩ : ∃ q, q = sU k := ⟨_, rfl⟩
    have hp3 : p ≤ 3 := by rw [hp]; exact cU_le k
    have hq2 : q ≤ 2 := by rw [hq]; exact sU_le k
    have E : okF k a b c x y = (usedB (tri a b c) 3 p && usedB (duo x y) 2 q) := by rw [hp, hq]; simp [okF, k1, k5]
    rw [E]; clear E
    have hu := s_Uses k
    rw [← hp, ← hq] at hu
    have HU := hid hu
    clear hu hp hq
    go_enter Try.func64, Try.ntmps64
    go_wp2_with (first | (go_at_call 83; refine (s_In _ _ _ _).mono ?_; rintro e w' ⟨rfl, rfl⟩) | (go_at_call 84; refine (HU.out _).mono ?_; rintro e w' ⟨rfl, rfl⟩))
    go_loopw [5] (fun i wr => ∃ j : Nat, j ≤ 3 ∧ i = .int .i64 j ∧ Hid (∀ i, i < j → fin (tri a b c i) = true ∧ (p ≤ i → sameB (tri a b c i) 0 = true)) ∧ ∃ n, wr = w.drewN n) (fun i _ => 3 - (intOf i).toNat)
    case atStart => exact ⟨0, by omega, rfl, fun i hi => absurd hi (by omega), 0, rfl⟩
    case round =>
      obtain ⟨j, hj, rfl, HJ, n, rfl⟩ := hrel
      by_cases hlt : j < 3
      · have cj := HR.out.tri j hlt
        cases h1 : fin (tri a b c j)
        · go_wp2_with (go_at_call 48; refine (s_l01Finite _ _).mono ?_; rintro e w' ⟨rfl, m, rfl⟩)
          go_ret
          refine ⟨ret_b ?_, _, rfl⟩
          by_cases hjp : j < p
          · rw [usedB_fin hjp hp3 h1]; rfl
          · have : sameB (tri a b c j) 0 = false := by
              cases e : sameB (tri a b c j) 0
              · rfl
              · rw [same0_fin e] at h1; cases h1
            rw [usedB_zero (show p ≤ j by omega) hlt this]; rfl
        · by_cases hjp : j < p
          · have hjp' : (j : Int) < p := by omega
            go_wp2_with (go_at_call 48; refine (s_l01Finite _ _).mono ?_; rintro e w' ⟨rfl, m, rfl⟩)
            go_roundw
            case rel => first | exact ⟨j + 1, by omega, by go_num, fun i hi => by rcases Nat.lt_or_ge i j with h | h; exact HJ.out i h; rw [show i = j by omega]; exact ⟨h1, fun h => absurd h (by omega)⟩, _, rfl⟩ | ((repeat apply Exists.intro); exact ⟨⟨j + 1, by omega, by go_num, fun i hi => by rcases Nat.lt_or_ge i j with h | h; exact HJ.out i h; rw [show i = j by omega]; exact ⟨h1, fun h => absurd h (by omega)⟩, _, rfl⟩, rfl⟩)
            case measure => simp [intOf]; omega
          · have hjp' : (p : Int) ≤ j := by omega
            cases h2 : sameB (tri a b c j) 0
            · go_wp2_with (first | (go_at_call 48; refine (s_l01Finite _ _).mono ?_; rintro e w' ⟨rfl, m, rfl⟩) | (go_at_call 55; refine (s_l01Same _ _ _).mono ?_; rintro e w' ⟨rfl, rfl⟩))
              go_ret
              exact ⟨ret_b (by rw [usedB_zero (show p ≤ j by omega) hlt h2]; rfl), _, rfl⟩
            · go_wp2_with (first | (go_at_call 48; refine (s_l01Finite _ _).mono ?_; rintro e w' ⟨rfl, m, rfl⟩) | (go_at_call 55; refine (s_l01Same _ _ _).mono ?_; rintro e w' ⟨rfl, rfl⟩))
              go_roundw
              case rel => first | exact ⟨j + 1, by omega, by go_num, fun i hi => by rcases Nat.lt_or_ge i j with h | h; exact HJ.out i h; rw [show i = j by omega]; exact ⟨h1, fun _ => h2⟩, _, rfl⟩ | ((repeat apply Exists.intro); exact ⟨⟨j + 1, by omega, by go_num, fun i hi => by rcases Nat.lt_or_ge i j with h | h; exact HJ.out i h; rw [show i = j by omega]; exact ⟨h1, fun _ => h2⟩, _, rfl⟩, rfl⟩)
              case measure => simp [intOf]; omega
      · obtain rfl : j = 3 := by omega
        have U1 := hid (usedB_yes (f := tri a b c) (n := 3) (u := p) (fun i hi => (HJ.out i (by omega)).1) (fun i h1 h2 => (HJ.out i h2).2 h1))
        clear HJ
        go_wp2
        go_loopw [6] (fun i wr => ∃ j : Nat, j ≤ 2 ∧ i = .int .i64 j ∧ Hid (∀ i, i < j → fin (duo x y i) = true ∧ (q ≤ i → sameB (duo x y i) 0 = true)) ∧ ∃ n, wr = w.drewN n) (fun i _ => 2 - (intOf i).toNat)
        case atStart => exact ⟨0, by omega, rfl, fun i hi => absurd hi (by omega), _, rfl⟩
        case round =>
          obtain ⟨j, hj, rfl, HJ, n, rfl⟩ := hrel
          by_cases hlt : j < 2
          · have cj := HR.out.duo j hlt
            cases h1 : fin (duo x y j)
            · go_wp2_with (go_at_call 48; refine (s_l01Finite _ _).mono ?_; rintro e w' ⟨rfl, m, rfl⟩)
              go_ret
              refine ⟨ret_b ?_, _, rfl⟩
              by_cases hjp : j < q
              · rw [usedB_fin hjp hq2 h1, Bool.and_false]
              · have : sameB (duo x y j) 0 = false := by
                  cases e : sameB (duo x y j) 0
                  · rfl
                  · rw [same0_fin e] at h1; cases h1
                rw [usedB_zero (show q ≤ j by omega) hlt this, Bool.and_false]
            · by_cases hjp : j < q
              · have hjp' : (j : Int) < q := by omega
                go_wp2_with (go_at_call 48; refine (s_l01Finite _ _).mono ?_; rintro e w' ⟨rfl, m, rfl⟩)
                go_roundw
                case rel => first | exact ⟨j + 1, by omega, by go_num, fun i hi => by rcases Nat.lt_or_ge i j with h | h; exact HJ.out i h; rw [show i = j by omega]; exact ⟨h1, fun h => absurd h (by omega)⟩, _, rfl⟩ | ((repeat apply Exists.intro); exact ⟨⟨j + 1, by omega, by go_num, fun i hi => by rcases Nat.lt_or_ge i j with h | h; exact HJ.out i h; rw [show i = j by omega]; exact ⟨h1, fun h => absurd h (by omega)⟩, _, rfl⟩, rfl⟩)
                case measure => simp [intOf]; omega
              · have hjp' : (q : Int) ≤ j := by omega
                cases h2 : sameB (duo x y j) 0
                · go_wp2_with (first | (go_at_call 48; refine (s_l01Finite _ _).mono ?_; rintro e w' ⟨rfl, m, rfl⟩) | (go_at_call 55; refine (s_l01Same _ _ _).mono ?_; rintro e w' ⟨rfl, rfl⟩))
                  go_ret
                  exact ⟨ret_b (by rw [usedB_zero (show q ≤ j by omega) hlt h2, Bool.and_false]), _, rfl⟩
                · go_wp2_with (first | (go_at_call 48; refine (s_l01Finite _ _).mono ?_; rintro e w' ⟨rfl, m, rfl⟩) | (go_at_call 55; refine (s_l01Same _ _ _).mono ?_; rintro e w' ⟨rfl, rfl⟩))
                  go_roundw
                  case rel => first | exact ⟨j + 1, by omega, by go_num, fun i hi => by rcases Nat.lt_or_ge i j with h | h; exact HJ.out i h; rw [show i = j by omega]; exact ⟨h1, fun _ => h2⟩, _, rfl⟩ | ((repeat apply Exists.intro); exact ⟨⟨j + 1, by omega, by go_num, fun i hi => by rcases Nat.lt_or_ge i j with h | h; exact HJ.out i h; rw [show i = j by omega]; exact ⟨h1, fun _ => h2⟩, _, rfl⟩, rfl⟩)
                  case measure => simp [intOf]; omega
          · obtain rfl : j = 2 := by omega
            have U2 := hid (usedB_yes (f := duo x y) (n := 2) (u := q) (fun i hi => (HJ.out i (by omega)).1) (fun i h1 h2 => (HJ.out i h2).2 h1))
            clear HJ
            go_wp2
            go_ret
            exact ⟨ret_b (by rw [U1.out, U2.out]; rfl), _, rfl⟩
  · rw [okF_out hk]
    have hIn : Hid (∀ w, Calls Try.prog 83 #[.int .i64 k, .int .i64 1, .int .i64 5] w fun e w' => e = .returned (.bool false) ∧ w = w') := fun w => by
      have h := s_In k 1 5 w
      rwa [show (decide ((1 : Int) ≤ k) && decide (k ≤ 5)) = false by simp only [Bool.and_eq_false_iff, decide_eq_false_iff_not]; omega] at h
    clear hk
    go_enter Try.func64, Try.ntmps64
    go_wp2_with (first | (go_at_call 83; refine (hIn.out _).mono ?_; rintro e w' ⟨rfl, rfl⟩))
    go_ret
    exact ⟨rfl, 0, rfl⟩
theorem s_Ok (k : Int) (a b c x y : Nat) (g : Nat) (w : World) (hr : Row w g 34 (#[.int .i64 k, .float .f32 a, .float .f32 b, .float .f32 c, .float .f32 x, .float .f32 y] : Array Value)) : Calls Try.prog 64 #[.pointer (some ⟨g, 0, none⟩)] w fun e w' => e = .returned (.bool (okF k a b c x y)) ∧ ∃ n, w' = w.drewN n := s_OkAt k a b c x y g 0 w hr.filAt
end Go.Proofs.Ytnkjmgadnejdlaa

/- 'SameFilter' of both. -/
namespace Go.Fk
open Go Go.RowKit
/-- Are two rows the same? -/
def eqRow (f f' : Nat → Nat) (n : Nat) : Bool := (List.range n).all (fun j => sameB (f j) (f' j))
theorem eqRow_no {f f' : Nat → Nat} {n j : Nat} (hj : j < n) (h : sameB (f j) (f' j) = false) : eqRow f f' n = false := by
  rw [Bool.eq_false_iff]
  intro hh
  have := List.all_eq_true.1 hh j (List.mem_range.2 hj)
  rw [h] at this; cases this
theorem eqRow_yes {f f' : Nat → Nat} {n : Nat} (h : ∀ j, j < n → sameB (f j) (f' j) = true) : eqRow f f' n = true := List.all_eq_true.2 (fun j hj => h j (List.mem_range.1 hj))
theorem all_step {p : Nat → Prop} {k : Nat} (h : ∀ j, j < k → p j) (hk : p k) : ∀ j, j < k + 1 → p j := fun j hj => by
  by_cases e : j = k
  · rw [e]; exact hk
  · exact h j (by omega)
section
variable {P : Program} {ops : Array Oper} {w : World} {K : FuncId → Array Value → Value → Prop} {Q : Act → Prop} {o : Oper} {rest : List Oper} {a : Act} {C : World → Prop}
theorem wpLoose_anyW (hw : Region.wanted o (yielded ops a.tmps) = true) (V : Value → Prop) (h1 : ∀ n, within P (fun w' => ∃ m, w' = w.drewN m) K V ((execOp a.eval o).run P (w.drewN n)))
    (h2 : ∀ v, V v → wpLoose P ops (fun w' => ∃ m, w' = w.drewN m) K Q rest (a.put o.dst v)) : wpLoose P ops (fun w' => ∃ m, w' = w.drewN m) K Q (o :: rest) a :=
  ⟨V, .inl ⟨hw, fun w' hw' => by obtain ⟨n, rfl⟩ := hw'; exact h1 n⟩, h2⟩
theorem wpLoose_skip (hw : Region.wanted o (yielded ops a.tmps) = false) (h : wpLoose P ops C K Q rest (a.put o.dst undef)) : wpLoose P ops C K Q (o :: rest) a :=
  ⟨(· = undef), .inr ⟨hw, rfl⟩, fun v hv => by rw [hv]; exact h⟩
theorem wpLoose_nilW (hw : Region.wanted o (yielded ops a.tmps) = true) {x : Operand} (hop : o.op = Op.nilCheck x) {ad : Addr} (hx : a.eval x = .pointer (some ad))
    (hK : wpLoose P ops (fun w' => ∃ m, w' = w.drewN m) K Q rest (a.put o.dst (.pointer (some ad)))) : wpLoose P ops (fun w' => ∃ m, w' = w.drewN m) K Q (o :: rest) a := by
  refine wpLoose_anyW hw (· = .pointer (some ad)) (fun n => ?_) (by rintro v rfl; exact hK)
  simp [execOp, hop, hx, within, Result.andThen]
  exact ⟨_, rfl⟩
end
end Go.Fk
namespace Go.Proofs.Ytnkjmgadnejdlaa
open Go.RowKit Go.Fk
set_option maxHeartbeats 1000000 in
theorem i_EqualFunc (f f' : Nat → Nat) (g o g' o' n : Nat) (w : World) (hn : n < 100) (hc : ∀ i, i < n → w.cell? ⟨g, o + i, none⟩ = some (.float .f32 (f i))) (hc' : ∀ i, i < n → w.cell? ⟨g', o' + i, none⟩ = some (.float .f32 (f' i))) :
    Calls Try.prog 28 #[.slice (some ⟨g, o, none⟩) n n, .slice (some ⟨g', o', none⟩) n n, .func (.func 29) #[] #[]] w fun e w' => e = .returned (.bool (eqRow f f' n)) ∧ w = w' := by
  have Hc := hid hc; have Hc' := hid hc'; clear hc hc'
  go_enter Try.func28, Try.ntmps28
  go_wp2
  go_loop [17] (fun i => ∃ k : Nat, k ≤ n ∧ i = .int .i64 k ∧ Hid (∀ i, i < k → sameB (f i) (f' i) = true)) (fun i => n - (intOf i).toNat)
  case atStart => exact ⟨0, by omega, rfl, fun i hi => absurd hi (by omega)⟩
  case round =>
    obtain ⟨k, hk, rfl, HK⟩ := hrel
    by_cases hlt : k < n
    · have ck := Hc.out k hlt
      have ck' := Hc'.out k hlt
      cases hb : sameB (f k) (f' k)
      · go_wp2_with (go_at_call 29; refine (i_SameSample _ _ _).mono ?_; rintro e w' ⟨rfl, rfl⟩)
        go_ret
        exact ⟨ret_b (eqRow_no hlt hb).symm, rfl⟩
      · go_wp2_with (go_at_call 29; refine (i_SameSample _ _ _).mono ?_; rintro e w' ⟨rfl, rfl⟩)
        go_round
        case rel => exact ⟨k + 1, by omega, by go_num, all_step (p := fun j => sameB (f j) (f' j) = true) HK.out hb⟩
        case measure => simp [intOf]; omega
    · obtain rfl : k = n := by omega
      go_wp2
      go_ret
      exact ⟨ret_b (eqRow_yes HK.out).symm, rfl⟩
/-- Of both calls. -/
def twoK (g : Nat) (eC eS : Bool) (_ : FuncId) (args : Array Value) (v : Value) : Prop := ∃ o n, args[0]? = some (.slice (some ⟨g, o, none⟩) n n) ∧ v = .bool (if o = 1 then eC else eS)
theorem twoK_c {g n : Nat} {eC eS : Bool} {f : FuncId} {b c v : Value} (h : twoK g eC eS f #[.slice (some ⟨g, 1, none⟩) n n, b, c] v) : v = .bool eC := by
  obtain ⟨o, m, h, rfl⟩ := h
  simp at h
  obtain ⟨rfl, _⟩ := h
  rfl
theorem twoK_s {g n : Nat} {eC eS : Bool} {f : FuncId} {b c v : Value} (h : twoK g eC eS f #[.slice (some ⟨g, 4, none⟩) n n, b, c] v) : v = .bool eS := by
  obtain ⟨o, m, h, rfl⟩ := h
  simp at h
  obtain ⟨rfl, _⟩ := h
  rfl
set_option maxRecDepth 100000 in
set_option maxHeartbeats 1000000 in
theorem i_SameFilter (k : Int) (a b c x y : Nat) (k' : Int) (a' b' c' x' y' : Nat) (w : World) :
    Calls Try.prog 30 #[(.agg #[.int .i64 k, .float .f32 a, .float .f32 b, .float .f32 c, .float .f32 x, .float .f32 y]), (.agg #[.int .i64 k', .float .f32 a', .float .f32 b', .float .f32 c', .float .f32 x', .float .f32 y'])] w fun e w' => e = .returned (.bool ((k == k') && (eqRow (tri a b c) (tri a' b' c') 3 && eqRow (duo x y) (duo x' y') 2))) ∧ le w w' := by
  have F := ((Frm.nil w).box 34 (#[.int .i64 k, .float .f32 a, .float .f32 b, .float .f32 c, .float .f32 x, .float .f32 y] : Array Value)).box 34 (#[.int .i64 k', .float .f32 a', .float .f32 b', .float .f32 c', .float .f32 x', .float .f32 y'] : Array Value)
  simp only [World.size_alloc] at F
  have R := hid (F.row (List.mem_cons_of_mem _ List.mem_cons_self))
  have R' := hid (F.row List.mem_cons_self)
  have k0 := R.out.six.1
  have k0' := R'.out.six.1
  have HL := hid F.below
  clear F
  obtain ⟨eC, hC⟩ : ∃ e, e = eqRow (tri a b c) (tri a' b' c') 3 := ⟨_, rfl⟩
  obtain ⟨eS, hS⟩ : ∃ e, e = eqRow (duo x y) (duo x' y') 2 := ⟨_, rfl⟩
  rw [← hC, ← hS]
  have HC := hid hC; have HS := hid hS
  clear hC hS
  cases hk : (k == k')
  · go_enter Try.func30, Try.ntmps30
    go_wp2_with fail
    refine wp_region_loose (twoK w.heap.size eC eS) (by kernel_rfl) (by kernel_rfl) ?_
    repeat (first | (refine wpLoose_quiet rfl ?_; go_big_quiet_step (fail); refine wpQuiet_nil ?_) | (refine wpLoose_skip (by kernel_rfl) ?_; simp only [Act.put, List.setIfInBounds_toArray, List.set_cons_succ, List.set_cons_zero]))
    refine wpLoose_nil (fun m => ?_)
    go_wp2
    go_ret
    exact ⟨rfl, le_trans HL.out (le_drewN _ _)⟩
  · cases eC
    · go_enter Try.func30, Try.ntmps30
      go_wp2_with fail
      refine wp_region_loose (twoK w.heap.size false eS) (by kernel_rfl) (by kernel_rfl) ?_
      repeat (refine wpLoose_quiet rfl ?_; go_big_quiet_step (fail); refine wpQuiet_nil ?_)
      refine wpLoose_anyW (by kernel_rfl) (· = .bool false) (fun n => ?_) ?_
      · go_simp
        refine ⟨(i_EqualFunc (tri a b c) (tri a' b' c') w.heap.size 1 (w.heap.size + 1) 1 3 _ (by omega) (fun i hi => Row.tri (R.out.drewN n) i hi) (fun i hi => Row.tri (R'.out.drewN n) i hi)).mono ?_, fun v hv => twoK_c hv⟩
        rintro e w2 ⟨rfl, rfl⟩
        exact ⟨_, rfl, ⟨1, 3, rfl, by rw [if_pos rfl, ← HC.out]⟩, n, rfl⟩
      · rintro v rfl
        simp only [Act.put, List.setIfInBounds_toArray, List.set_cons_succ, List.set_cons_zero]
        repeat (first | (refine wpLoose_quiet rfl ?_; go_big_quiet_step (fail); refine wpQuiet_nil ?_) | (refine wpLoose_skip (by kernel_rfl) ?_; simp only [Act.put, List.setIfInBounds_toArray, List.set_cons_succ, List.set_cons_zero]))
        refine wpLoose_nil (fun m => ?_)
        go_wp2
        go_ret
        exact ⟨rfl, le_trans HL.out (le_drewN _ _)⟩
    · go_enter Try.func30, Try.ntmps30
      go_wp2_with fail
      refine wp_region_loose (twoK w.heap.size true eS) (by kernel_rfl) (by kernel_rfl) ?_
      repeat (refine wpLoose_quiet rfl ?_; go_big_quiet_step (fail); refine wpQuiet_nil ?_)
      refine wpLoose_anyW (by kernel_rfl) (· = .bool true) (fun n => ?_) ?_
      · go_simp
        refine ⟨(i_EqualFunc (tri a b c) (tri a' b' c') w.heap.size 1 (w.heap.size + 1) 1 3 _ (by omega) (fun i hi => Row.tri (R.out.drewN n) i hi) (fun i hi => Row.tri (R'.out.drewN n) i hi)).mono ?_, fun v hv => twoK_c hv⟩
        rintro e w2 ⟨rfl, rfl⟩
        exact ⟨_, rfl, ⟨1, 3, rfl, by rw [if_pos rfl, ← HC.out]⟩, n, rfl⟩
      · rintro v rfl
        simp only [Act.put, List.setIfInBounds_toArray, List.set_cons_succ, List.set_cons_zero]
        repeat (refine wpLoose_quiet rfl ?_; go_big_quiet_step (fail); refine wpQuiet_nil ?_)
        refine wpLoose_anyW (by kernel_rfl) (· = .bool eS) (fun n => ?_) ?_
        · go_simp
          refine ⟨(i_EqualFunc (duo x y) (duo x' y') w.heap.size 4 (w.heap.size + 1) 4 2 _ (by omega) (fun i hi => Row.duo (R.out.drewN n) i hi) (fun i hi => Row.duo (R'.out.drewN n) i hi)).mono ?_, fun v hv => twoK_s hv⟩
          rintro e w2 ⟨rfl, rfl⟩
          exact ⟨_, rfl, ⟨4, 2, rfl, by rw [if_neg (by omega), ← HS.out]⟩, n, rfl⟩
        · rintro v rfl
          simp only [Act.put, List.setIfInBounds_toArray, List.set_cons_succ, List.set_cons_zero]
          repeat (refine wpLoose_quiet rfl ?_; go_big_quiet_step (fail); refine wpQuiet_nil ?_)
          refine wpLoose_nil (fun m => ?_)
          go_wp2
          go_ret
          exact ⟨rfl, le_trans HL.out (le_drewN _ _)⟩
theorem eqRow_duo (x y x' y' : Nat) : eqRow (duo x y) (duo x' y') 2 = (sameB x x' && sameB y y') := by
  simp [eqRow, List.range_succ, duo]
def oneK (_ : FuncId) (args : Array Value) (v : Value) : Prop := ∃ p q, args = #[.float .f32 p, .float .f32 q] ∧ v = .bool (sameB p q)
theorem oneK_v {f : FuncId} {p q : Nat} {v : Value} (h : oneK f #[.float .f32 p, .float .f32 q] v) : v = .bool (sameB p q) := by
  obtain ⟨p', q', h, rfl⟩ := h
  simp at h
  obtain ⟨rfl, rfl⟩ := h
  rfl
theorem one_call {p q n N : Nat} {w : World} : Calls Try.prog 55 #[.float .f32 p, .float .f32 q] (w.drewN (N + n)) fun e w'' => ∃ u, e = .returned u ∧ oneK 55 #[.float .f32 p, .float .f32 q] u ∧ ∃ m, w'' = w.drewN (N + m) :=
  (s_l01Same p q (w.drewN (N + n))).mono fun _ _ ⟨he, hw⟩ => ⟨_, he, ⟨p, q, rfl, rfl⟩, n, hw.symm⟩
set_option maxRecDepth 100000 in
set_option maxHeartbeats 2000000 in
theorem s_l02SameAt (k : Int) (a b c x y : Nat) (k' : Int) (a' b' c' x' y' : Nat) (g g' f f' : Nat) (w : World) (R : FilAt w g f k a b c x y) (R' : FilAt w g' f' k' a' b' c' x' y') :
    Calls Try.prog 54 #[.pointer (some ⟨g, f, none⟩), .pointer (some ⟨g', f', none⟩)] w fun e w' => e = .returned (.bool ((k == k') && (eqRow (tri a b c) (tri a' b' c') 3 && eqRow (duo x y) (duo x' y') 2))) ∧ ∃ n, w' = w.drewN n := by
  have k0 := R.k0
  have k0' := R'.k0
  have HR := hid R; have HR' := hid R'
  clear R R'
  cases hk : (k == k')
  · have hkn : (k != k') = true := by simp [bne, hk]
    go_enter Try.func54, Try.ntmps54
    go_wp2_with fail
    refine wp_region_loose (oneK) (by kernel_rfl) (by kernel_rfl) ?_
    repeat (first | (refine wpLoose_quiet rfl ?_; go_big_quiet_step (fail); refine wpQuiet_nil ?_) | (with_reducible refine wpLoose_nilW (by kernel_rfl) rfl rfl ?_; simp only [Act.put, List.setIfInBounds_toArray, List.set_cons_succ, List.set_cons_zero]))
    refine wpLoose_nil (fun m => ?_)
    go_wp2
    go_ret
    exact ⟨rfl, _, rfl⟩
  · have hkn : (k != k') = false := by simp [bne, hk]
    go_enter Try.func54, Try.ntmps54
    go_wp2_with fail
    refine wp_region_loose (oneK) (by kernel_rfl) (by kernel_rfl) ?_
    repeat (first | (refine wpLoose_quiet rfl ?_; go_big_quiet_step (fail); refine wpQuiet_nil ?_) | (with_reducible refine wpLoose_nilW (by kernel_rfl) rfl rfl ?_; simp only [Act.put, List.setIfInBounds_toArray, List.set_cons_succ, List.set_cons_zero]))
    refine wpLoose_nil (fun m => ?_)
    go_wp2
    clear k0 k0' hkn
    go_loopw [5] (fun i wr => ∃ j : Nat, j ≤ 3 ∧ i = .int .i64 j ∧ Hid (∀ i, i < j → sameB (tri a b c i) (tri a' b' c' i) = true) ∧ ∃ n, wr = w.drewN n) (fun i _ => 3 - (intOf i).toNat)
    case atStart => exact ⟨0, by omega, rfl, fun i hi => absurd hi (by omega), _, rfl⟩
    case round =>
      obtain ⟨j, hj, rfl, HJ, n, rfl⟩ := hrel
      by_cases hlt : j < 3
      · have cj := HR.out.tri j hlt
        have cj' := HR'.out.tri j hlt
        cases he : sameB (tri a b c j) (tri a' b' c' j)
        · have HN := hid (eqRow_no (f := tri a b c) (f' := tri a' b' c') (n := 3) hlt he)
          have HE := hid he
          clear he
          generalize tri a b c j = p at *
          generalize tri a' b' c' j = q at *
          go_wp2_with fail
          refine wp_region_loose (oneK) (by kernel_rfl) (by kernel_rfl) ?_
          repeat (first | (refine wpLoose_quiet rfl ?_; go_big_quiet_step (fail); refine wpQuiet_nil ?_) | (with_reducible refine wpLoose_nilW (by kernel_rfl) rfl rfl ?_; simp only [Act.put, List.setIfInBounds_toArray, List.set_cons_succ, List.set_cons_zero]))
          refine wpLoose_any rfl (· = .bool false) (fun m0 => ?_) ?_
          · go_simp
            rw [← HE.out]
            exact ⟨one_call, fun v hv => oneK_v hv⟩
          · rintro v rfl
            simp only [Act.put, List.setIfInBounds_toArray, List.set_cons_succ, List.set_cons_zero]
            repeat (first | (refine wpLoose_quiet rfl ?_; go_big_quiet_step (fail); refine wpQuiet_nil ?_) | (with_reducible refine wpLoose_nilW (by kernel_rfl) rfl rfl ?_; simp only [Act.put, List.setIfInBounds_toArray, List.set_cons_succ, List.set_cons_zero]))
            refine wpLoose_nil (fun m => ?_)
            go_wp2
            go_ret
            exact ⟨ret_b (by rw [HN.out]; rfl), n + m, by go_simp⟩
        · have HJ' := hid (all_step (p := fun i => sameB (tri a b c i) (tri a' b' c' i) = true) HJ.out he)
          have HE := hid he
          clear he
          generalize tri a b c j = p at *
          generalize tri a' b' c' j = q at *
          go_wp2_with fail
          refine wp_region_loose (oneK) (by kernel_rfl) (by kernel_rfl) ?_
          repeat (first | (refine wpLoose_quiet rfl ?_; go_big_quiet_step (fail); refine wpQuiet_nil ?_) | (with_reducible refine wpLoose_nilW (by kernel_rfl) rfl rfl ?_; simp only [Act.put, List.setIfInBounds_toArray, List.set_cons_succ, List.set_cons_zero]))
          refine wpLoose_any rfl (· = .bool true) (fun m0 => ?_) ?_
          · go_simp
            rw [← HE.out]
            exact ⟨one_call, fun v hv => oneK_v hv⟩
          · rintro v rfl
            simp only [Act.put, List.setIfInBounds_toArray, List.set_cons_succ, List.set_cons_zero]
            repeat (first | (refine wpLoose_quiet rfl ?_; go_big_quiet_step (fail); refine wpQuiet_nil ?_) | (with_reducible refine wpLoose_nilW (by kernel_rfl) rfl rfl ?_; simp only [Act.put, List.setIfInBounds_toArray, List.set_cons_succ, List.set_cons_zero]))
            refine wpLoose_nil (fun m => ?_)
            go_wp2
            go_roundw
            case rel => exact ⟨j + 1, by omega, by go_num, HJ', _, rfl⟩
            case measure => simp [intOf]; omega
      · obtain rfl : j = 3 := by omega
        have HY := hid (eqRow_yes HJ.out)
        have x0 : w.cell? ⟨g, f + 4, none⟩ = some (.float .f32 x) := HR.out.duo 0 (by omega)
        have x0' : w.cell? ⟨g', f' + 4, none⟩ = some (.float .f32 x') := HR'.out.duo 0 (by omega)
        have y0 : w.cell? ⟨g, f + 4 + 1, none⟩ = some (.float .f32 y) := HR.out.duo 1 (by omega)
        have y1 : w.cell? ⟨g, f + 5, none⟩ = some (.float .f32 y) := y0
        have y0' : w.cell? ⟨g', f' + 4 + 1, none⟩ = some (.float .f32 y') := HR'.out.duo 1 (by omega)
        have y1' : w.cell? ⟨g', f' + 5, none⟩ = some (.float .f32 y') := y0'
        cases hx : sameB x x'
        · have HX := hid hx
          clear hx
          go_wp2_with fail
          refine wp_region_loose (oneK) (by kernel_rfl) (by kernel_rfl) ?_
          repeat (first | (refine wpLoose_quiet rfl ?_; go_big_quiet_step (fail); refine wpQuiet_nil ?_) | (with_reducible refine wpLoose_nilW (by kernel_rfl) rfl rfl ?_; simp only [Act.put, List.setIfInBounds_toArray, List.set_cons_succ, List.set_cons_zero]))
          refine wpLoose_any rfl (· = .bool false) (fun m0 => ?_) ?_
          · go_simp
            rw [← HX.out]
            exact ⟨one_call, fun v hv => oneK_v hv⟩
          · rintro v rfl
            simp only [Act.put, List.setIfInBounds_toArray, List.set_cons_succ, List.set_cons_zero]
            repeat (first | (refine wpLoose_quiet rfl ?_; go_big_quiet_step (fail); refine wpQuiet_nil ?_) | (refine wpLoose_skip (by kernel_rfl) ?_; simp only [Act.put, List.setIfInBounds_toArray, List.set_cons_succ, List.set_cons_zero]))
            refine wpLoose_nil (fun m => ?_)
            go_wp2
            go_ret
            exact ⟨ret_b (by rw [HY.out, eqRow_duo, HX.out]; rfl), n + m, by go_simp⟩
        · have HX := hid hx
          clear hx
          go_wp2_with fail
          refine wp_region_loose (oneK) (by kernel_rfl) (by kernel_rfl) ?_
          repeat (first | (refine wpLoose_quiet rfl ?_; go_big_quiet_step (fail); refine wpQuiet_nil ?_) | (with_reducible refine wpLoose_nilW (by kernel_rfl) rfl rfl ?_; simp only [Act.put, List.setIfInBounds_toArray, List.set_cons_succ, List.set_cons_zero]))
          refine wpLoose_any rfl (· = .bool true) (fun m0 => ?_) ?_
          · go_simp
            rw [← HX.out]
            exact ⟨one_call, fun v hv => oneK_v hv⟩
          · rintro v rfl
            simp only [Act.put, List.setIfInBounds_toArray, List.set_cons_succ, List.set_cons_zero]
            repeat (first | (refine wpLoose_quiet rfl ?_; go_big_quiet_step (fail); refine wpQuiet_nil ?_) | (with_reducible refine wpLoose_nilW (by kernel_rfl) rfl rfl ?_; simp only [Act.put, List.setIfInBounds_toArray, List.set_cons_succ, List.set_cons_zero]))
            refine wpLoose_anyW (by kernel_rfl) (· = .bool (sameB y y')) (fun m0 => ?_) ?_
            · go_simp
              exact ⟨one_call, fun v hv => oneK_v hv⟩
            · rintro v rfl
              simp only [Act.put, List.setIfInBounds_toArray, List.set_cons_succ, List.set_cons_zero]
              repeat (first | (refine wpLoose_quiet rfl ?_; go_big_quiet_step (fail); refine wpQuiet_nil ?_) | (with_reducible refine wpLoose_nilW (by kernel_rfl) rfl rfl ?_; simp only [Act.put, List.setIfInBounds_toArray, List.set_cons_succ, List.set_cons_zero]))
              refine wpLoose_nil (fun m => ?_)
              go_wp2
              go_ret
              exact ⟨ret_b (by rw [HY.out, eqRow_duo, HX.out]; rfl), n + m, by go_simp⟩
theorem s_l02Same (k : Int) (a b c x y : Nat) (k' : Int) (a' b' c' x' y' : Nat) (g g' : Nat) (w : World) (R : Row w g 34 (#[.int .i64 k, .float .f32 a, .float .f32 b, .float .f32 c, .float .f32 x, .float .f32 y] : Array Value)) (R' : Row w g' 34 (#[.int .i64 k', .float .f32 a', .float .f32 b', .float .f32 c', .float .f32 x', .float .f32 y'] : Array Value)) :
    Calls Try.prog 54 #[.pointer (some ⟨g, 0, none⟩), .pointer (some ⟨g', 0, none⟩)] w fun e w' => e = .returned (.bool ((k == k') && (eqRow (tri a b c) (tri a' b' c') 3 && eqRow (duo x y) (duo x' y') 2))) ∧ ∃ n, w' = w.drewN n :=
  s_l02SameAt k a b c x y k' a' b' c' x' y' g g' 0 0 w R.filAt R'.filAt
end Go.Proofs.Ytnkjmgadnejdlaa

/- Rings over facts of memory: 'ValidRing', 'SameRing' of both. -/
namespace Go.Fk
open Go Go.RowKit
theorem RdS.form {w : World} {B : Nat} {s : Value} {x : Nat → Nat} {n : Nat} (h : RdS w B s x n) : (s = .slice none 0 0 ∧ n = 0) ∨ ∃ (a : Addr) (cap : Nat), s = .slice (some a) n cap ∧ n ≤ cap ∧ cap ≤ maxLen := by
  rcases h with h | ⟨a, cap, h1, h2, h3, _⟩
  · exact .inl h
  · exact .inr ⟨a, cap, h1, h2, h3⟩
section
variable {P : Program} {w : World} {ops : Array Oper} {rest : List Oper} {o : Oper} {a : Act} {Q : Exit → Act → World → Prop}
/-- The length of a slice that can be read. -/
theorem wpList_lenR (hg : o.guard = none) {x : Operand} {t : TypeId} (hop : o.op = Op.call { callee := Callee.builtin Builtin.len, args := #[x], argTypes := #[t] }) {v : Value} (hx : a.eval x = v) {e : TypeId} (hu : P.underlying t = some (.slice e)) {w1 : World} {B : Nat} {y : Nat → Nat} {n : Nat} (hv : RdS w1 B v y n)
    (h : wpList P ops Q rest (a.put o.dst (.int .i64 n)) w) : wpList P ops Q (o :: rest) a w := by
  refine wpList_plain hg fun K hK' => ?_
  unfold Oper.wp
  rcases hv.form with ⟨rfl, rfl⟩ | ⟨ad, cap, rfl, _, _⟩
  all_goals
    simp [execOp, hop, hx, Result.andThen, resolve, invoke, builtin, Builtin.len_, run_underlying hu]
    exact hK' _ _ h
end
theorem sameB_can (x y : Nat) : sameB (can .f32 x) (can .f32 y) = sameB x y := by unfold sameB; rw [can_can, can_can]
theorem okRing_iff {n : Nat} {k : Int} : okRing n k = true ↔ 1 ≤ n ∧ n ≤ 1024 ∧ 0 ≤ k ∧ k < n := by
  unfold okRing; simp only [Bool.and_eq_true, decide_eq_true_eq]; omega
theorem okRing_j {n : Nat} {k : Int} (h : okRing n k = true) : 1 ≤ n ∧ n ≤ 1024 ∧ ∃ j : Nat, k = j ∧ j < n := by
  obtain ⟨h1, h2, h3, h4⟩ := okRing_iff.1 h
  exact ⟨h1, h2, k.toNat, by omega, by omega⟩
/-- Two slices of floats, compared. -/
def sameS (x x' : Nat → Nat) (n n' : Nat) : Bool := (n == n') && eqRow x x' n
theorem sameS_ne {x x' : Nat → Nat} {n n' : Nat} (h : n ≠ n') : sameS x x' n n' = false := by simp [sameS, h]
theorem sameS_eq {x x' : Nat → Nat} {n : Nat} : sameS x x' n n = eqRow x x' n := by simp [sameS]
end Go.Fk
namespace Go.Proofs.Ytnkjmgadnejdlaa
open Go.RowKit Go.Fk
set_option maxHeartbeats 2000000 in
theorem i_ValidRingR (B : Nat) (s : Value) (x : Nat → Nat) (n : Nat) (k : Int) (w : World) (hs : RdS w B s x n) : Calls Try.prog 94 #[.agg #[s, .int .i64 k]] w fun e w' => e = .returned (.bool (okRing n k)) ∧ le w w' := by
  have HL := hid (le_alloc w (.cells #[s, .int .i64 k] 56))
  rcases hs.form with ⟨rfl, rfl⟩ | ⟨a, cap, rfl, hc, hm⟩
  · have HZ : Hid (okRing 0 k = false) := by unfold Hid okRing; simp
    clear hs
    go_enter Try.func94, Try.ntmps94
    go_wp2
    go_ret
    exact ⟨ret_b HZ.out.symm, HL.out⟩
  clear hs
  unfold maxLen at hm
  obtain ⟨z, hz⟩ : ∃ z, z = okRing n k := ⟨_, rfl⟩
  rw [← hz]
  unfold okRing at hz
  by_cases h1 : 1 ≤ (n : Int) <;> by_cases h2 : (n : Int) ≤ 1024 <;> by_cases h3 : 0 ≤ k <;> by_cases h4 : k < (n : Int)
  all_goals first | (exfalso; omega) | skip
  all_goals
    simp only [h1, h2, h3, h4, decide_true, decide_false, Bool.and_true, Bool.and_false, Bool.true_and, Bool.false_and] at hz
    have HZ := hid hz
    clear hz
    go_enter Try.func94, Try.ntmps94
    go_wp2
    go_ret
    exact ⟨ret_b HZ.out.symm, HL.out⟩
theorem s_l02RingR (B : Nat) (s : Value) (x : Nat → Nat) (n : Nat) (k : Int) (g f : Nat) (w : World) (hs : RdS w B s x n) (c0 : w.cell? ⟨g, f, none⟩ = some s) (c1 : w.cell? ⟨g, f + 1, none⟩ = some (.int .i64 k)) (hk : (Lit.int .i64 k).wf = true) :
    Calls Try.prog 82 #[.pointer (some ⟨g, f, none⟩)] w fun e w' => e = .returned (.bool (okRing n k)) ∧ w = w' := by
  rcases hs.form with ⟨rfl, rfl⟩ | ⟨a, cap, rfl, hc, hm⟩
  · have HZ : Hid (okRing 0 k = false) := by unfold Hid okRing; simp
    clear hs
    have HI : Hid (∀ w, Calls Try.prog 83 #[.int .i64 0, .int .i64 1, .int .i64 1024] w fun e w' => e = .returned (.bool false) ∧ w = w') := fun w => s_In 0 1 1024 w
    go_enter Try.func82, Try.ntmps82
    go_wp2_with (go_at_call 83; refine (HI.out _).mono ?_; rintro e w' ⟨rfl, rfl⟩)
    go_ret
    exact ⟨ret_b HZ.out.symm, rfl⟩
  clear hs hk
  unfold maxLen at hm
  obtain ⟨z, hz⟩ : ∃ z, z = okRing n k := ⟨_, rfl⟩
  rw [← hz]
  unfold okRing at hz
  by_cases h1 : 1 ≤ (n : Int) <;> by_cases h2 : (n : Int) ≤ 1024
  all_goals first | (exfalso; omega) | skip
  all_goals
    simp only [h1, h2, decide_true, decide_false, Bool.and_true, Bool.and_false, Bool.true_and, Bool.false_and] at hz
    have HZ := hid hz
    clear hz
    go_enter Try.func82, Try.ntmps82
    go_wp2_with (go_at_call 83; refine (s_In _ _ _ _).mono ?_; rintro e w' ⟨rfl, rfl⟩)
    go_ret
    refine ⟨ret_b ?_, rfl⟩
    first | (rw [HZ.out]; done) | (rw [HZ.out]; congr 1; exact decide_eq_decide.2 (by omega))
set_option maxHeartbeats 1000000 in
theorem i_EqualFuncR (B B' : Nat) (s s' : Value) (x x' : Nat → Nat) (n n' : Nat) (w : World) (hs : RdS w B s x n) (hs' : RdS w B' s' x' n') :
    Calls Try.prog 28 #[s, s', .func (.func 29) #[] #[]] w fun e w' => e = .returned (.bool (sameS x x' n n')) ∧ w = w' := by
  by_cases hne : n = n'
  · subst hne
    rw [sameS_eq]
    by_cases h0 : n = 0
    · subst h0
      rcases hs.form with ⟨rfl, _⟩ | ⟨a, cap, rfl, hc, hm⟩ <;> rcases hs'.form with ⟨rfl, _⟩ | ⟨a', cap', rfl, hc', hm'⟩
      all_goals
        clear hs hs'
        go_enter Try.func28, Try.ntmps28
        go_wp2
        go_loop [17] (fun i => i = .int .i64 0) (fun _ => 0)
        case atStart => rfl
        case round =>
          obtain rfl := hrel
          go_wp2
          go_ret
          exact ⟨rfl, rfl⟩
    obtain ⟨a, cap, y, rfl, hc, hm, hx⟩ := hs.raw (by omega)
    obtain ⟨a', cap', y', rfl, hc', hm', hx'⟩ := hs'.raw (by omega)
    have Hc := hid (fun i hi => (hx i hi).1); have Hc' := hid (fun i hi => (hx' i hi).1)
    have Hs : Hid (∀ i, i < n → sameB (y i) (y' i) = sameB (x i) (x' i)) := fun i hi => by rw [← (hx i hi).2.2, ← (hx' i hi).2.2, sameB_can]
    clear hx hx' hs hs' h0
    unfold maxLen at hm hm'
    go_enter Try.func28, Try.ntmps28
    go_wp2
    go_loop [17] (fun i => ∃ k : Nat, k ≤ n ∧ i = .int .i64 k ∧ Hid (∀ i, i < k → sameB (x i) (x' i) = true)) (fun i => n - (intOf i).toNat)
    case atStart => exact ⟨0, by omega, rfl, fun i hi => absurd hi (by omega)⟩
    case round =>
      obtain ⟨k, hk, rfl, HK⟩ := hrel
      by_cases hlt : k < n
      · have ck := Hc.out k hlt
        have ck' := Hc'.out k hlt
        have HE := hid (Hs.out k hlt)
        cases hb : sameB (y k) (y' k)
        · go_wp2_with (go_at_call 29; refine (i_SameSample _ _ _).mono ?_; rintro e w' ⟨rfl, rfl⟩)
          go_ret
          exact ⟨ret_b (eqRow_no hlt (HE.out.symm.trans hb)).symm, rfl⟩
        · go_wp2_with (go_at_call 29; refine (i_SameSample _ _ _).mono ?_; rintro e w' ⟨rfl, rfl⟩)
          go_round
          case rel => exact ⟨k + 1, by omega, by go_num, all_step (p := fun j => sameB (x j) (x' j) = true) HK.out (HE.out.symm.trans hb)⟩
          case measure => simp [intOf]; omega
      · obtain rfl : k = n := by omega
        go_wp2
        go_ret
        exact ⟨ret_b (eqRow_yes HK.out).symm, rfl⟩
  · rw [sameS_ne hne]
    have hne' : ¬ (n : Int) = (n' : Int) := by omega
    rcases hs.form with ⟨rfl, rfl⟩ | ⟨a, cap, rfl, hc, hm⟩ <;> rcases hs'.form with ⟨rfl, rfl⟩ | ⟨a', cap', rfl, hc', hm'⟩
    all_goals first | exact absurd rfl hne | skip
    all_goals
      clear hs hs'
      try unfold maxLen at hm
      try unfold maxLen at hm'
      go_enter Try.func28, Try.ntmps28
      go_wp2
      go_ret
      exact ⟨rfl, rfl⟩
theorem i_SameRingR (B B' : Nat) (s s' : Value) (x x' : Nat → Nat) (n n' : Nat) (k k' : Int) (w : World) (hs : RdS w B s x n) (hs' : RdS w B' s' x' n') :
    Calls Try.prog 27 #[.agg #[s, .int .i64 k], .agg #[s', .int .i64 k']] w fun e w' => e = .returned (.bool ((k == k') && sameS x x' n n')) ∧ le w w' := by
  have F := ((Frg.nil w).box 56 #[s, .int .i64 k]).box 56 #[s', .int .i64 k']
  have HL := hid F.below
  have HS := hid (hs.le F.below); have HS' := hid (hs'.le F.below)
  clear hs hs' F
  cases hk : (k == k')
  all_goals
    go_enter Try.func27, Try.ntmps27
    go_wp2_with (go_at_call 28; refine (i_EqualFuncR B B' s s' x x' n n' _ HS.out HS'.out).mono ?_; rintro e w' ⟨rfl, rfl⟩)
    go_ret
    exact ⟨ret_b (by first | rfl | simp), HL.out⟩
set_option maxHeartbeats 1000000 in
theorem s_l02SameListR (B B' : Nat) (s s' : Value) (x x' : Nat → Nat) (n n' : Nat) (w : World) (hs : RdS w B s x n) (hs' : RdS w B' s' x' n') :
    Calls Try.prog 53 #[s, s'] w fun e w' => e = .returned (.bool (sameS x x' n n')) ∧ ∃ m, w' = w.drewN m := by
  by_cases hne : n = n'
  · subst hne
    rw [sameS_eq]
    by_cases h0 : n = 0
    · subst h0
      rcases hs.form with ⟨rfl, _⟩ | ⟨a, cap, rfl, hc, hm⟩ <;> rcases hs'.form with ⟨rfl, _⟩ | ⟨a', cap', rfl, hc', hm'⟩
      all_goals
        clear hs hs'
        go_enter Try.func53, Try.ntmps53
        go_wp2
        go_loop [5] (fun i => i = .int .i64 0) (fun _ => 0)
        case atStart => rfl
        case round =>
          obtain rfl := hrel
          go_wp2
          go_ret
          exact ⟨rfl, 0, rfl⟩
    obtain ⟨a, cap, y, rfl, hc, hm, hx⟩ := hs.raw (by omega)
    obtain ⟨a', cap', y', rfl, hc', hm', hx'⟩ := hs'.raw (by omega)
    have Hc := hid (fun i hi => (hx i hi).1); have Hc' := hid (fun i hi => (hx' i hi).1)
    have Hs : Hid (∀ i, i < n → sameB (y i) (y' i) = sameB (x i) (x' i)) := fun i hi => by rw [← (hx i hi).2.2, ← (hx' i hi).2.2, sameB_can]
    clear hx hx' hs hs' h0
    unfold maxLen at hm hm'
    go_enter Try.func53, Try.ntmps53
    go_wp2
    go_loopw [5] (fun i wr => ∃ k : Nat, k ≤ n ∧ i = .int .i64 k ∧ (∃ m, wr = w.drewN m) ∧ Hid (∀ i, i < k → sameB (x i) (x' i) = true)) (fun i _ => n - (intOf i).toNat)
    case atStart => exact ⟨0, by omega, rfl, ⟨0, rfl⟩, fun i hi => absurd hi (by omega)⟩
    case round =>
      obtain ⟨k, hk, rfl, ⟨m, rfl⟩, HK⟩ := hrel
      by_cases hlt : k < n
      · have ck := Hc.out k hlt
        have ck' := Hc'.out k hlt
        have HE := hid (Hs.out k hlt)
        cases hb : sameB (y k) (y' k)
        · go_wp2_with fail
          refine wp_region_loose (fun _ _ v => v = .bool false) (by kernel_rfl) (by kernel_rfl) ?_
          repeat (refine wpLoose_quiet rfl ?_; go_big_quiet_step (fail); refine wpQuiet_nil ?_)
          refine wpLoose_any rfl (· = .bool false) (fun m0 => ?_) ?_
          · go_simp
            refine ((s_l01Same _ _ _).mono ?_)
            rintro e w2 ⟨rfl, rfl⟩
            exact ⟨_, ret_b hb, ⟨rfl, m0, by go_simp⟩⟩
          rintro v rfl
          simp only [Act.put, List.setIfInBounds_toArray, List.set_cons_succ, List.set_cons_zero]
          repeat (refine wpLoose_quiet rfl ?_; go_big_quiet_step (fail); refine wpQuiet_nil ?_)
          refine wpLoose_nil (fun m1 => ?_)
          go_wp2
          go_ret
          exact ⟨ret_b (eqRow_no hlt (HE.out.symm.trans hb)).symm, m + m1, by rw [World.drewN_drewN]⟩
        · go_wp2_with fail
          refine wp_region_loose (fun _ _ v => v = .bool true) (by kernel_rfl) (by kernel_rfl) ?_
          repeat (refine wpLoose_quiet rfl ?_; go_big_quiet_step (fail); refine wpQuiet_nil ?_)
          refine wpLoose_any rfl (· = .bool true) (fun m0 => ?_) ?_
          · go_simp
            refine ((s_l01Same _ _ _).mono ?_)
            rintro e w2 ⟨rfl, rfl⟩
            exact ⟨_, ret_b hb, ⟨rfl, m0, by go_simp⟩⟩
          rintro v rfl
          simp only [Act.put, List.setIfInBounds_toArray, List.set_cons_succ, List.set_cons_zero]
          repeat (refine wpLoose_quiet rfl ?_; go_big_quiet_step (fail); refine wpQuiet_nil ?_)
          refine wpLoose_nil (fun m1 => ?_)
          go_wp2
          go_roundw
          case rel => exact ⟨k + 1, by omega, by go_num, ⟨_, rfl⟩, all_step (p := fun j => sameB (x j) (x' j) = true) HK.out (HE.out.symm.trans hb)⟩
          case measure => simp [intOf]; omega
      · obtain rfl : k = n := by omega
        go_wp2
        go_ret
        exact ⟨ret_b (eqRow_yes HK.out).symm, _, rfl⟩
  · rw [sameS_ne hne]
    have hne' : ¬ (n : Int) = (n' : Int) := by omega
    rcases hs.form with ⟨rfl, rfl⟩ | ⟨a, cap, rfl, hc, hm⟩ <;> rcases hs'.form with ⟨rfl, rfl⟩ | ⟨a', cap', rfl, hc', hm'⟩
    all_goals first | exact absurd rfl hne | skip
    all_goals
      clear hs hs'
      try unfold maxLen at hm
      try unfold maxLen at hm'
      go_enter Try.func53, Try.ntmps53
      go_wp2
      go_ret
      exact ⟨rfl, 0, rfl⟩
theorem infoRingL : (Try.prog.info? 78).map (·.size) = some 2 := by kernel_rfl
end Go.Proofs.Ytnkjmgadnejdlaa

/- 'isWithin'. -/
namespace Go.Fk
open Go Go.RowKit
/-- Is a number from one to another? Not NaN. -/
def withinB (a l g : Nat) : Bool := (FloatKind.f32.format.order a l == some .gt || FloatKind.f32.format.order a l == some .eq) && (FloatKind.f32.format.order a g == some .lt || FloatKind.f32.format.order a g == some .eq)
end Go.Fk
namespace Go.Proofs.Ytnkjmgadnejdlaa
open Go.RowKit Go.Fk
theorem i_isWithin (a l g : Nat) (w : World) : Calls Try.prog 88 #[.float .f32 a, .float .f32 l, .float .f32 g] w fun e w' => e = .returned (.bool (withinB a l g)) ∧ w = w' := by
  rcases h0 : FloatKind.f32.format.order a l with _ | (_ | _ | _) <;> rcases h1 : FloatKind.f32.format.order a g with _ | (_ | _ | _)
  all_goals
    go_enter Try.func88, Try.ntmps88
    go_wp2
    go_ret
    exact ⟨ret_b (by unfold withinB; rw [h0, h1]; rfl), rfl⟩
end Go.Proofs.Ytnkjmgadnejdlaa

/- What pipes ask of their lists: 'l04All', 'l04Rings'; 'areScatters', 'isFiniteRing', 'areSections'. -/
namespace Go.Fk
open Go Go.RowKit
/-- Two lists of sections. -/
def secOk (x y : Nat → CD) (k : Nat) : Bool := rgOk x k && rgOk y k && (rgN x k == rgN y k)
theorem withinB_can {y x l g : Nat} (h : can .f32 y = x) : withinB y l g = withinB x l g := by
  unfold withinB; rw [← h, order_can_l, order_can_l]
def scB (x : Nat → Nat) (n : Nat) : Bool := allB (fun i => withinB (x i) 3212836864 1065353216) n
end Go.Fk
namespace Go.Proofs.Ytnkjmgadnejdlaa
open Go.RowKit Go.Fk
set_option maxRecDepth 100000 in
set_option maxHeartbeats 1000000 in
theorem s_l04All (B : Nat) (s : Value) (x : Nat → Nat) (n : Nat) (w : World) (hs : RdS w B s x n) : Calls Try.prog 65 #[s] w fun e w' => e = .returned (.bool (finB x n)) ∧ ∃ m, w' = w.drewN m := by
  have hrd := hid hs
  rcases hs with ⟨rfl, rfl⟩ | ⟨a, cap, rfl, hc, hm, hx⟩
  · clear hrd
    go_enter Try.func65, Try.ntmps65
    go_wp2
    go_loop [3] (fun i => i = .int .i64 0) (fun _ => 0)
    case atStart => rfl
    case round =>
      obtain rfl := hrel
      go_wp2
      go_ret
      exact ⟨rfl, 0, rfl⟩
  · have HX := hid hx
    unfold maxLen at hm
    clear hx
    go_enter Try.func65, Try.ntmps65
    go_wp2
    go_loopw [3] (fun i wr => ∃ j : Nat, j ≤ n ∧ i = .int .i64 j ∧ Hid (∀ i, i < j → fin (x i) = true) ∧ ∃ m, wr = w.drewN m) (fun i _ => n - (intOf i).toNat)
    case atStart => exact ⟨0, by omega, rfl, fun i hi => absurd hi (by omega), 0, rfl⟩
    case round =>
      obtain ⟨j, hj, rfl, HJ, m, rfl⟩ := hrel
      by_cases hlt : j < n
      · obtain ⟨_, y, c1, f1, e1⟩ := HX.out j hlt
        have hfy : fin y = fin (x j) := fin_can ((e1).trans (by rw [← e1, can_can]))
        cases hb : fin (x j)
        · have HF := hid (fun w => (hfy.trans hb) ▸ s_l01Finite y w)
          clear hfy e1
          go_wp2_with (go_at_call 48; ((with_reducible refine (HF.out _).mono ?_); rintro e w' ⟨rfl, q, rfl⟩))
          go_ret
          exact ⟨ret_b (finB_no hlt hb).symm, _, rfl⟩
        · have HF := hid (fun w => (hfy.trans hb) ▸ s_l01Finite y w)
          clear hfy e1
          go_wp2_with (go_at_call 48; ((with_reducible refine (HF.out _).mono ?_); rintro e w' ⟨rfl, q, rfl⟩))
          go_roundw
          case rel => exact ⟨j + 1, by omega, by go_num, fun i hi => by rcases Nat.lt_or_ge i j with h | h; exact HJ.out i h; rw [show i = j by omega]; exact hb, _, rfl⟩
          case measure => simp [intOf]; omega
      · obtain rfl : j = n := by omega
        go_wp2
        go_ret
        exact ⟨ret_b (finB_yes HJ.out).symm, _, rfl⟩
set_option maxRecDepth 100000 in
set_option maxHeartbeats 1000000 in
theorem s_l04Rings (B : Nat) (s : Value) (x : Nat → CD) (n : Nat) (w : World) (hs : (CD.sl 2 n x).RdN w B s) (hx : RgsOk x n) : Calls Try.prog 63 #[s] w fun e w' => e = .returned (.bool (allB (rgOk x) n)) ∧ ∃ m, w' = w.drewN m := by
  rcases hs.form with ⟨rfl, rfl⟩ | ⟨b, o, cap, rfl, hc, hm⟩
  · clear hs hx
    go_enter Try.func63, Try.ntmps63
    go_wp2
    go_loop [3] (fun i => i = .int .i64 0) (fun _ => 0)
    case atStart => rfl
    case round =>
      obtain rfl := hrel
      go_wp2
      go_ret
      exact ⟨rfl, 0, rfl⟩
  · have HA := hid (fun k (hk : k < n) => hx.at hs hk)
    unfold maxLen at hm
    clear hx hs
    go_enter Try.func63, Try.ntmps63
    go_wp2
    go_loopw [3] (fun i wr => ∃ j : Nat, j ≤ n ∧ i = .int .i64 j ∧ Hid (∀ i, i < j → rgOk x i = true) ∧ ∃ m, wr = w.drewN m) (fun i _ => n - (intOf i).toNat)
    case atStart => exact ⟨0, by omega, rfl, fun i hi => absurd hi (by omega), 0, rfl⟩
    case round =>
      obtain ⟨j, hj, rfl, HJ, m, rfl⟩ := hrel
      by_cases hlt : j < n
      · obtain ⟨u, c0, c1, hw, hr⟩ := HA.out j hlt
        have HR := hid (fun (m : Nat) => s_l02RingR B u (rgX x j) (rgN x j) (rgK x j) b (o + j * 2) (w.drewN m) (hr.le (le_drewN w m)) c0 c1 hw)
        have HL := hid (fun (m : Nat) => s_l04All B u (rgX x j) (rgN x j) (w.drewN m) (hr.le (le_drewN w m)))
        cases h1 : okRing (rgN x j) (rgK x j)
        · rw [h1] at HR
          have hb : rgOk x j = false := by unfold rgOk; rw [h1]; rfl
          clear h1 c1 hw hr
          go_wp2_with (first | (with_reducible refine wpList_indexW0 rfl rfl rfl rfl Try.underlying33 uinfoRingI hlt ?_) | (go_at_call 82; ((with_reducible refine (HR.out _).mono ?_); rintro e w' ⟨rfl, rfl⟩)))
          go_ret
          exact ⟨ret_b (allB_no hlt hb).symm, _, rfl⟩
        cases h2 : finB (rgX x j) (rgN x j)
        · rw [h1] at HR; rw [h2] at HL
          have hb : rgOk x j = false := by unfold rgOk; rw [h2, Bool.and_false]
          clear h1 h2 c1 hw hr
          go_wp2_with (first | (with_reducible refine wpList_indexW0 rfl rfl rfl rfl Try.underlying33 uinfoRingI hlt ?_) | (with_reducible refine wpList_indexW0G rfl rfl rfl Try.underlying33 uinfoRingI hlt (by kernel_rfl) ?_) | (go_at_call 82; ((with_reducible refine (HR.out _).mono ?_); rintro e w' ⟨rfl, rfl⟩)) | (go_at_call 65; ((with_reducible refine (HL.out _).mono ?_); rintro e w' ⟨rfl, q, rfl⟩)))
          go_ret
          exact ⟨ret_b (allB_no hlt hb).symm, _, rfl⟩
        · rw [h1] at HR; rw [h2] at HL
          have hb : rgOk x j = true := by unfold rgOk; rw [h1, h2]; rfl
          clear h1 h2 c1 hw hr
          go_wp2_with (first | (with_reducible refine wpList_indexW0 rfl rfl rfl rfl Try.underlying33 uinfoRingI hlt ?_) | (with_reducible refine wpList_indexW0G rfl rfl rfl Try.underlying33 uinfoRingI hlt (by kernel_rfl) ?_) | (go_at_call 82; ((with_reducible refine (HR.out _).mono ?_); rintro e w' ⟨rfl, rfl⟩)) | (go_at_call 65; ((with_reducible refine (HL.out _).mono ?_); rintro e w' ⟨rfl, q, rfl⟩)))
          go_roundw
          case rel => exact ⟨j + 1, by omega, by go_num, fun i hi => by rcases Nat.lt_or_ge i j with h | h; exact HJ.out i h; rw [show i = j by omega]; exact hb, _, rfl⟩
          case measure => simp [intOf]; omega
      · obtain rfl : j = n := by omega
        go_wp2
        go_ret
        exact ⟨ret_b (allB_yes HJ.out).symm, _, rfl⟩
set_option maxRecDepth 100000 in
set_option maxHeartbeats 1000000 in
theorem i_areScatters (B : Nat) (s : Value) (x : Nat → Nat) (n : Nat) (w : World) (hs : RdS w B s x n) : Calls Try.prog 69 #[s] w fun e w' => e = .returned (.bool (scB x n)) ∧ w = w' := by
  rcases hs with ⟨rfl, rfl⟩ | ⟨a, cap, rfl, hc, hm, hx⟩
  · go_enter Try.func69, Try.ntmps69
    go_wp2
    go_loop [7] (fun i => i = .int .i64 0) (fun _ => 0)
    case atStart => rfl
    case round =>
      obtain rfl := hrel
      go_wp2
      go_ret
      exact ⟨rfl, rfl⟩
  · have HX := hid hx
    unfold maxLen at hm
    clear hx
    go_enter Try.func69, Try.ntmps69
    go_wp2
    go_loop [7] (fun i => ∃ j : Nat, j ≤ n ∧ i = .int .i64 j ∧ Hid (∀ i, i < j → withinB (x i) 3212836864 1065353216 = true)) (fun i => n - (intOf i).toNat)
    case atStart => exact ⟨0, by omega, rfl, fun i hi => absurd hi (by omega)⟩
    case round =>
      obtain ⟨j, hj, rfl, HJ⟩ := hrel
      by_cases hlt : j < n
      · obtain ⟨_, y, c1, f1, e1⟩ := HX.out j hlt
        have hfy := withinB_can (l := 3212836864) (g := 1065353216) e1
        cases hb : withinB (x j) 3212836864 1065353216
        · have HF := hid (fun w => (hfy.trans hb) ▸ i_isWithin y 3212836864 1065353216 w)
          clear hfy e1
          go_wp2_with (go_at_call 88; ((with_reducible refine (HF.out _).mono ?_); rintro e w' ⟨rfl, rfl⟩))
          go_ret
          exact ⟨ret_b (allB_no (p := fun i => withinB (x i) 3212836864 1065353216) hlt hb).symm, rfl⟩
        · have HF := hid (fun w => (hfy.trans hb) ▸ i_isWithin y 3212836864 1065353216 w)
          clear hfy e1
          go_wp2_with (go_at_call 88; ((with_reducible refine (HF.out _).mono ?_); rintro e w' ⟨rfl, rfl⟩))
          go_round
          case rel => exact ⟨j + 1, by omega, by go_num, fun i hi => by rcases Nat.lt_or_ge i j with h | h; exact HJ.out i h; rw [show i = j by omega]; exact hb⟩
          case measure => simp [intOf]; omega
      · obtain rfl : j = n := by omega
        go_wp2
        go_ret
        exact ⟨ret_b (allB_yes HJ.out).symm, rfl⟩
theorem i_areFiniteQ (B : Nat) (s : Value) (x : Nat → Nat) (n : Nat) (w : World) (hs : RdS w B s x n) : Calls Try.prog 93 #[s] w fun e w' => e = .returned (.bool (finB x n)) ∧ w = w' := by
  rcases hs with ⟨rfl, rfl⟩ | ⟨a, cap, rfl, h2, h3, h4⟩
  · exact i_areFinite_nil x w
  · obtain ⟨y, hy⟩ : ∃ y : Nat → Nat, ∀ i, i < n → w.cell? (a.add i) = some (.float .f32 (y i)) ∧ fits .f32 (y i) ∧ can .f32 (y i) = x i := by
      have : ∀ i, ∃ y, i < n → w.cell? (a.add i) = some (.float .f32 y) ∧ fits .f32 y ∧ can .f32 y = x i := fun i => by
        by_cases hi : i < n
        · obtain ⟨_, y, e⟩ := h4 i hi; exact ⟨y, fun _ => e⟩
        · exact ⟨0, fun h => absurd h hi⟩
      exact Classical.skolem.1 this
    have he : finB x n = finB y n := by
      have key : ∀ i, i < n → fin (x i) = fin (y i) := fun i hi => by
        rw [← (hy i hi).2.2]; exact fin_can (can_can _ _)
      cases hb : finB y n
      · obtain ⟨i, hi, hf⟩ := finB_ex hb
        exact finB_no hi ((key i hi).trans hf)
      · exact finB_yes (fun i hi => (key i hi).trans (finB_all hb i hi))
    rw [he]
    exact i_areFinite y a n cap w (by unfold maxLen at h3; omega) (fun i hi => (hy i hi).2.1) (fun i hi => (hy i hi).1)
set_option maxRecDepth 100000 in
set_option maxHeartbeats 1000000 in
theorem i_isFiniteRing (B : Nat) (s : Value) (x : Nat → Nat) (n : Nat) (k : Int) (w : World) (hs : RdS w B s x n) : Calls Try.prog 89 #[.agg #[s, .int .i64 k]] w fun e w' => e = .returned (.bool (okRing n k && finB x n)) ∧ le w w' := by
  have HV := hid (fun (w' : World) (hl : le w w') => i_ValidRingR B s x n k w' (hs.le hl))
  have HF := hid (fun (w' : World) (hl : le w w') => i_areFiniteQ B s x n w' (hs.le hl))
  have F := (Frg.nil w).box 56 #[s, .int .i64 k]
  clear hs
  cases h1 : okRing n k <;> cases h2 : finB x n
  all_goals
    rw [h1] at HV; rw [h2] at HF
    clear h1 h2
    go_enter Try.func89, Try.ntmps89
    go_wp2_with (first | ((with_reducible refine at_loadU (ty := 56) rfl rfl ?_); (with_reducible refine wpList_loadG F rfl rfl rfl m0 Try.underlying56 rfl uinfoRingI rfl ?_)) | (go_at_call 94; ((with_reducible refine (HV.out _ F.below).mono ?_); rintro e w1 ⟨rfl, hl⟩; replace F := F.le hl; clear hl; have c0 := (F.row m0).cell? 0)) | (go_at_call 93; ((with_reducible refine (HF.out _ F.below).mono ?_); rintro e w1 ⟨rfl, rfl⟩)))
    go_ret
    exact ⟨rfl, F.below⟩
set_option maxRecDepth 100000 in
set_option maxHeartbeats 4000000 in
theorem i_areSections (B B' : Nat) (s s' : Value) (x y : Nat → CD) (n : Nat) (w : World) (hs : (CD.sl 2 n x).RdN w B s) (hs' : (CD.sl 2 n y).RdN w B' s') (hx : RgsOk x n) (hy : RgsOk y n) : Calls Try.prog 70 #[s, s'] w fun e w' => e = .returned (.bool (allB (secOk x y) n)) ∧ le w w' := by
  by_cases h0 : n = 0
  · subst h0
    rcases hs.form with ⟨rfl, _⟩ | ⟨b, o, cap, rfl, hc, hm⟩
    all_goals
      clear hs hs' hx hy
      go_enter Try.func70, Try.ntmps70
      go_wp2
      go_loop [10] (fun i => i = .int .i64 0) (fun _ => 0)
      case atStart => rfl
      case round =>
        obtain rfl := hrel
        go_wp2
        go_ret
        exact ⟨rfl, le_refl _⟩
  rcases hs.form with ⟨_, h⟩ | ⟨b, o, cap, rfl, hc, hm⟩
  · exact absurd h h0
  rcases hs'.form with ⟨_, h⟩ | ⟨b', o', cap', rfl, hc', hm'⟩
  · exact absurd h h0
  have HA := hid (fun k (hk : k < n) => hx.at hs hk)
  have HB := hid (fun k (hk : k < n) => hy.at hs' hk)
  unfold maxLen at hm hm'
  clear hx hy hs hs' h0
  go_enter Try.func70, Try.ntmps70
  go_wp2
  go_loopw [10] (fun i wr => ∃ k : Nat, k ≤ n ∧ i = .int .i64 k ∧ Hid (∀ i, i < k → secOk x y i = true) ∧ Hid (le w wr)) (fun i _ => n - (intOf i).toNat)
  case atStart => exact ⟨0, by omega, rfl, fun i hi => absurd hi (by omega), le_refl _⟩
  case round =>
    obtain ⟨k, hk, rfl, HJ, HL⟩ := hrel
    rename_i wr _
    by_cases hlt : k < n
    · obtain ⟨u, c0, c1, hwu, hr⟩ := HA.out k hlt
      obtain ⟨v, e0, e1, hwv, hq⟩ := HB.out k hlt
      have gx : Hid (∀ (j : Nat) (q : Value), [u, .int .i64 (rgK x k)][j]? = some q → wr.cell? ((⟨b, o + k * 2, none⟩ : Addr).add j) = some q) := fun j q hj => by
        rw [add_none]
        match j, hj with
        | 0, hj => simp at hj; subst hj; exact (Below.cell HL.out (cell_lt' c0)).trans c0
        | 1, hj => simp at hj; subst hj; exact (Below.cell HL.out (cell_lt' c1)).trans c1
      have gy0 : Hid (∀ (w2 : World) (_ : le wr w2) (j : Nat) (q : Value), [v, .int .i64 (rgK y k)][j]? = some q → w2.cell? ((⟨b', o' + k * 2, none⟩ : Addr).add j) = some q) := fun w2 h2 j q hj => by
        rw [add_none]
        match j, hj with
        | 0, hj => simp at hj; subst hj; exact (Below.cell (le_trans HL.out h2) (cell_lt' e0)).trans e0
        | 1, hj => simp at hj; subst hj; exact (Below.cell (le_trans HL.out h2) (cell_lt' e1)).trans e1
      have ou := hid hr.one
      have ov := hid hq.one
      have HR := hid (fun (w' : World) (hl : le wr w') => i_isFiniteRing B u (rgX x k) (rgN x k) (rgK x k) w' (hr.le (le_trans HL.out hl)))
      have HS := hid (fun (w' : World) (hl : le wr w') => i_isFiniteRing B' v (rgX y k) (rgN y k) (rgK y k) w' (hq.le (le_trans HL.out hl)))
      have F := Frg.nil wr
      clear c0 c1 e0 e1 hwu hwv
      cases h1 : rgOk x k
      · have hb : secOk x y k = false := by unfold secOk; rw [h1]; rfl
        rw [show (okRing (rgN x k) (rgK x k) && finB (rgX x k) (rgN x k)) = false from h1] at HR
        clear h1 hr hq
        go_wp2_with (first | (with_reducible refine wpList_indexW0 rfl rfl rfl rfl Try.underlying33 uinfoRingI hlt ?_) | ((with_reducible refine at_loadU (ty := 56) rfl rfl ?_); first | (with_reducible refine wpList_loadW rfl rfl rfl [u, .int .i64 (rgK x k)] gx.out Try.underlying56 rfl uinfoRingI rfl ?_) | (with_reducible refine wpList_loadW rfl rfl rfl [v, .int .i64 (rgK y k)] (gy0.out _ F.below) Try.underlying56 rfl uinfoRingI rfl ?_) | (with_reducible refine wpList_loadG F rfl rfl rfl (by first | exact m0 | exact m1) Try.underlying56 rfl uinfoRingI rfl ?_)) | ((with_reducible refine at_store rfl ?_); (refine wpList_storeG F rfl rfl rfl rfl rfl uinfoRingI rfl (by first | exact one_head ou.out rfl | exact one_head ov.out rfl) ?_; clear F; intro W F zW; clear zW)) | (go_at_call 89; ((with_reducible refine (HR.out _ F.below).mono ?_); rintro e w1 ⟨rfl, hl⟩; replace F := F.le hl; clear hl)))
        go_ret
        exact ⟨ret_b (allB_no (p := secOk x y) hlt hb).symm, le_trans HL.out F.below⟩
      cases h2 : rgOk y k
      · have hb : secOk x y k = false := by unfold secOk; rw [h1, h2]; rfl
        rw [show (okRing (rgN x k) (rgK x k) && finB (rgX x k) (rgN x k)) = true from h1] at HR
        rw [show (okRing (rgN y k) (rgK y k) && finB (rgX y k) (rgN y k)) = false from h2] at HS
        clear h1 h2 hr hq
        go_wp2_with (first | (with_reducible refine wpList_indexW0 rfl rfl rfl rfl Try.underlying33 uinfoRingI hlt ?_) | ((with_reducible refine at_loadU (ty := 56) rfl rfl ?_); first | (with_reducible refine wpList_loadW rfl rfl rfl [u, .int .i64 (rgK x k)] gx.out Try.underlying56 rfl uinfoRingI rfl ?_) | (with_reducible refine wpList_loadW rfl rfl rfl [v, .int .i64 (rgK y k)] (gy0.out _ F.below) Try.underlying56 rfl uinfoRingI rfl ?_) | (with_reducible refine wpList_loadG F rfl rfl rfl (by first | exact m0 | exact m1) Try.underlying56 rfl uinfoRingI rfl ?_)) | ((with_reducible refine at_loadV (ty := 56) rfl rfl ?_); (with_reducible refine wpList_loadGG F rfl rfl (by first | exact m0 | exact m1) Try.underlying56 rfl uinfoRingI rfl (by kernel_rfl) ?_)) | ((with_reducible refine at_store rfl ?_); (refine wpList_storeG F rfl rfl rfl rfl rfl uinfoRingI rfl (by first | exact one_head ou.out rfl | exact one_head ov.out rfl) ?_; clear F; intro W F zW; clear zW)) | (go_at_call 89; first | ((with_reducible refine (HR.out _ F.below).mono ?_); rintro e w1 ⟨rfl, hl⟩; replace F := F.le hl; clear hl) | ((with_reducible refine (HS.out _ F.below).mono ?_); rintro e w1 ⟨rfl, hl⟩; replace F := F.le hl; clear hl; have d0 := (F.row m1).cell? 0; have d1 := (F.row m0).cell? 0)))
        go_ret
        exact ⟨ret_b (allB_no (p := secOk x y) hlt hb).symm, le_trans HL.out F.below⟩
      have n1 : 1 ≤ rgN x k := by have := h1; unfold rgOk at this; simp only [Bool.and_eq_true] at this; exact (okRing_iff.1 this.1).1
      have n2 : 1 ≤ rgN y k := by have := h2; unfold rgOk at this; simp only [Bool.and_eq_true] at this; exact (okRing_iff.1 this.1).1
      rw [show (okRing (rgN x k) (rgK x k) && finB (rgX x k) (rgN x k)) = true from h1] at HR
      rw [show (okRing (rgN y k) (rgK y k) && finB (rgX y k) (rgN y k)) = true from h2] at HS
      obtain ⟨au, cu, _, rfl, hcu, hmu, _⟩ := hr.raw n1
      obtain ⟨av, cv, _, rfl, hcv, hmv, _⟩ := hq.raw n2
      unfold maxLen at hmu hmv
      by_cases h3 : rgN x k = rgN y k
      · have hb : secOk x y k = true := by unfold secOk; rw [h1, h2, h3]; simp
        clear h1 h2 hr hq n1 n2
        have h4 : (((rgN x k : Nat) : Int) != ((rgN y k : Nat) : Int)) = false := by simp [h3]
        replace h3 := hid h3
        go_wp2_with (first | (with_reducible refine wpList_indexW0 rfl rfl rfl rfl Try.underlying33 uinfoRingI hlt ?_) | ((with_reducible refine at_loadU (ty := 56) rfl rfl ?_); first | (with_reducible refine wpList_loadW rfl rfl rfl [(.slice (some au) (rgN x k) cu), .int .i64 (rgK x k)] gx.out Try.underlying56 rfl uinfoRingI rfl ?_) | (with_reducible refine wpList_loadW rfl rfl rfl [(.slice (some av) (rgN y k) cv), .int .i64 (rgK y k)] (gy0.out _ F.below) Try.underlying56 rfl uinfoRingI rfl ?_) | (with_reducible refine wpList_loadG F rfl rfl rfl (by first | exact m0 | exact m1) Try.underlying56 rfl uinfoRingI rfl ?_)) | ((with_reducible refine at_loadV (ty := 56) rfl rfl ?_); (with_reducible refine wpList_loadGG F rfl rfl (by first | exact m0 | exact m1) Try.underlying56 rfl uinfoRingI rfl (by kernel_rfl) ?_)) | ((with_reducible refine at_store rfl ?_); (refine wpList_storeG F rfl rfl rfl rfl rfl uinfoRingI rfl (by first | exact one_head ou.out rfl | exact one_head ov.out rfl) ?_; clear F; intro W F zW; clear zW)) | (go_at_call 89; first | ((with_reducible refine (HR.out _ F.below).mono ?_); rintro e w1 ⟨rfl, hl⟩; replace F := F.le hl; clear hl) | ((with_reducible refine (HS.out _ F.below).mono ?_); rintro e w1 ⟨rfl, hl⟩; replace F := F.le hl; clear hl; have d0 := (F.row m1).cell? 0; have d1 := (F.row m0).cell? 0)))
        have HL1 := hid (le_trans HL.out F.below)
        go_roundw
        case rel => exact ⟨k + 1, by omega, by go_num, fun i hi => by rcases Nat.lt_or_ge i k with h | h; exact HJ.out i h; rw [show i = k by omega]; exact hb, HL1.out⟩
        case measure => simp [intOf]; omega
      · have hb : secOk x y k = false := by unfold secOk; rw [h1, h2]; simp [h3]
        clear h1 h2 hr hq n1 n2
        have h4 : (((rgN x k : Nat) : Int) != ((rgN y k : Nat) : Int)) = true := by simp; omega
        replace h3 := hid h3
        go_wp2_with (first | (with_reducible refine wpList_indexW0 rfl rfl rfl rfl Try.underlying33 uinfoRingI hlt ?_) | ((with_reducible refine at_loadU (ty := 56) rfl rfl ?_); first | (with_reducible refine wpList_loadW rfl rfl rfl [(.slice (some au) (rgN x k) cu), .int .i64 (rgK x k)] gx.out Try.underlying56 rfl uinfoRingI rfl ?_) | (with_reducible refine wpList_loadW rfl rfl rfl [(.slice (some av) (rgN y k) cv), .int .i64 (rgK y k)] (gy0.out _ F.below) Try.underlying56 rfl uinfoRingI rfl ?_) | (with_reducible refine wpList_loadG F rfl rfl rfl (by first | exact m0 | exact m1) Try.underlying56 rfl uinfoRingI rfl ?_)) | ((with_reducible refine at_loadV (ty := 56) rfl rfl ?_); (with_reducible refine wpList_loadGG F rfl rfl (by first | exact m0 | exact m1) Try.underlying56 rfl uinfoRingI rfl (by kernel_rfl) ?_)) | ((with_reducible refine at_store rfl ?_); (refine wpList_storeG F rfl rfl rfl rfl rfl uinfoRingI rfl (by first | exact one_head ou.out rfl | exact one_head ov.out rfl) ?_; clear F; intro W F zW; clear zW)) | (go_at_call 89; first | ((with_reducible refine (HR.out _ F.below).mono ?_); rintro e w1 ⟨rfl, hl⟩; replace F := F.le hl; clear hl) | ((with_reducible refine (HS.out _ F.below).mono ?_); rintro e w1 ⟨rfl, hl⟩; replace F := F.le hl; clear hl; have d0 := (F.row m1).cell? 0; have d1 := (F.row m0).cell? 0)))
        go_ret
        exact ⟨ret_b (allB_no (p := secOk x y) hlt hb).symm, le_trans HL.out F.below⟩
    · obtain rfl : k = n := by omega
      go_wp2
      go_ret
      exact ⟨ret_b (allB_yes HJ.out).symm, HL.out⟩
end Go.Proofs.Ytnkjmgadnejdlaa

/- Steps of a region that draws its order: guarded operations, loads of one cell, addresses of elements, new rows, lengths. Nothing here names a program. -/
namespace Go.Fk
open Go Go.RowKit
section
variable {E : Ext} {P : Program} {ops : Array Oper} {W : World} {K : FuncId → Array Value → World → Value → Prop} {Q : Act → World → Prop} {F : Facts} {k : Nat} {o : Oper} {rest : List Oper} {a : Act}
theorem wpFreeD_oneW (hw : Region.wanted o (yielded ops a.tmps) = true) (v : Value) (hr : ∀ w, E.R W w → (execOp a.eval o).run P w = .ok (.value v) w)
    (h : wpFreeD E P ops .any W K Q rest (k + 1) (a.put o.dst v) (F.with k (fun _ => True))) : wpFreeD E P ops .any W K Q (o :: rest) k a F := by
  refine ⟨fun _ u => u = v, ⟨fun _ _ _ _ h => h, .inl ⟨hw, fun w hw _ => ?_⟩⟩, fun u hu => ?_⟩
  · rw [hr w hw]; exact ⟨E.refl w, rfl⟩
  · obtain ⟨w, _, _, rfl⟩ := hu
    exact wpFreeD_weaken _ _ _ _ _ (fun e w h => ⟨h.1, fun _ => trivial⟩) h
theorem wpFreeD_skip (hw : Region.wanted o (yielded ops a.tmps) = false)
    (h : wpFreeD E P ops .any W K Q rest (k + 1) (a.put o.dst undef) (F.with k (fun _ => True))) : wpFreeD E P ops .any W K Q (o :: rest) k a F := by
  refine ⟨fun _ u => u = undef, ⟨fun _ _ _ _ h => h, .inr ⟨hw, fun w _ _ => rfl⟩⟩, fun u hu => ?_⟩
  obtain ⟨w, _, _, rfl⟩ := hu
  exact wpFreeD_weaken _ _ _ _ _ (fun e w h => ⟨h.1, fun _ => trivial⟩) h
theorem wpFreeD_callW (hw : Region.wanted o (yielded ops a.tmps) = true) {f : FuncId} {xs : Array Operand} {ts : Array TypeId} (hop : o.op = Op.call { callee := Callee.value (Operand.func f), args := xs, argTypes := ts }) {fn : Func} (hf : P.funcs[f]? = some fn)
    (hb : fn.body.isNone = false) (hn : (fn.name == "runtime.NumGoroutine") = false) {args : Array Value} (ha : xs.map a.eval = args) (hm : MonoT E (K f args))
    (h1 : ∀ w, E.R W w → behind .any o F w → Calls P f args w (fun e w' => ∃ v, e = .returned v ∧ le w w' ∧ K f args w' v)) (h2 : ∀ v, (∃ w, E.R W w ∧ (∀ e, F e w) ∧ K f args w v) → wpFreeD E P ops .any W K Q rest (k + 1) (a.put o.dst v) (F.with k (fun w => K f args w v))) : wpFreeD E P ops .any W K Q (o :: rest) k a F := by
  refine ⟨K f args, ⟨hm, .inl ⟨hw, fun w hw hbe => ?_⟩⟩, fun v hv => h2 v hv⟩
  rw [run_enter hop hf hb hn ha]
  refine ⟨E.refl w, (h1 w hw hbe).mono ?_, fun _ _ h => h⟩
  rintro e w' ⟨v, rfl, hl, hk⟩
  exact ⟨v, rfl, E.of_le hl, hk⟩
theorem wpFreeD_madeW (hwt : Region.wanted o (yielded ops a.tmps) = true) (f : Nat → Value) (t : TypeId) (cs : Array Value) (hr : ∀ w, (execOp a.eval o).run P w = .ok (.value (f w.heap.size)) (w.alloc (.cells cs t)))
    (h : ∀ b, wpFreeD leX P ops .any W K Q rest (k + 1) (a.put o.dst (f b)) (F.with k (fun w => ∃ b', f b = f b' ∧ Row w b' t cs))) : wpFreeD leX P ops .any W K Q (o :: rest) k a F := by
  refine ⟨fun w v => ∃ b', v = f b' ∧ Row w b' t cs, ⟨fun v w w' hw hv => ?_, .inl ⟨hwt, fun w hw _ => ?_⟩⟩, fun v hv => ?_⟩
  · obtain ⟨b', e, hrow⟩ := hv
    exact ⟨b', e, hrow.le hw⟩
  · rw [hr w]
    exact ⟨le_alloc w _, w.heap.size, rfl, Row.new w t cs⟩
  · obtain ⟨w, _, _, b, rfl, _⟩ := hv
    exact h b
theorem wpFreeD_load1 (hg : o.guard = none) {ty : TypeId} {x : Operand} (hop : o.op = .load ty x) {p : Addr} (hx : a.eval x = .pointer (some p)) {v : Value} (hv : ∀ w, E.R W w → w.cell? p = some v) (hu : ∀ w, (isAgg ty).run P w = .ok false w)
    (h : wpFreeD E P ops .any W K Q rest (k + 1) (a.put o.dst v) (F.with k (fun _ => True))) : wpFreeD E P ops .any W K Q (o :: rest) k a F := by
  refine wpFreeD_one hg v (fun w hw => ?_) h
  have hl : (Instr.loadAt ty (.pointer (some p))).run P w = .ok v w := by
    simp [Instr.loadAt, Instr.sureAddr, loadVar, hu, hv w hw]
  simp [execOp, hop, hx, hl, Result.andThen]
theorem wpFreeD_load1W (hw : Region.wanted o (yielded ops a.tmps) = true) {ty : TypeId} {x : Operand} (hop : o.op = .load ty x) {p : Addr} (hx : a.eval x = .pointer (some p)) {v : Value} (hv : ∀ w, E.R W w → w.cell? p = some v) (hu : ∀ w, (isAgg ty).run P w = .ok false w)
    (h : wpFreeD E P ops .any W K Q rest (k + 1) (a.put o.dst v) (F.with k (fun _ => True))) : wpFreeD E P ops .any W K Q (o :: rest) k a F := by
  refine wpFreeD_oneW hw v (fun w hw => ?_) h
  have hl : (Instr.loadAt ty (.pointer (some p))).run P w = .ok v w := by
    simp [Instr.loadAt, Instr.sureAddr, loadVar, hu, hv w hw]
  simp [execOp, hop, hx, hl, Result.andThen]
theorem wpFreeD_indexW0 (hg : o.guard = none) {t : TypeId} {x y : Operand} (hop : o.op = .indexAddr t x y) {b off n cap sz i : Nat} {kk : IntKind} {e : TypeId} (hx : a.eval x = .slice (some ⟨b, off, none⟩) n cap) (hy : a.eval y = .int kk (i : Int)) (hu : P.underlying t = some (.slice e)) (hs : (P.info? e).map (·.size) = some sz) (hi : i < n)
    (h : wpFreeD E P ops .any W K Q rest (k + 1) (a.put o.dst (.pointer (some ⟨b, off + i * sz, none⟩))) (F.with k (fun _ => True))) : wpFreeD E P ops .any W K Q (o :: rest) k a F :=
  wpFreeD_indexW hg hop hx hy hu hs hi (by rw [add_none]; exact h)
theorem wpFreeD_lenR (hg : o.guard = none) {x : Operand} {t : TypeId} (hop : o.op = Op.call { callee := Callee.builtin Builtin.len, args := #[x], argTypes := #[t] }) {v : Value} (hx : a.eval x = v) {e : TypeId} (hu : P.underlying t = some (.slice e)) {w1 : World} {B : Nat} {y : Nat → Nat} {n : Nat} (hv : RdS w1 B v y n)
    (h : wpFreeD E P ops .any W K Q rest (k + 1) (a.put o.dst (.int .i64 n)) (F.with k (fun _ => True))) : wpFreeD E P ops .any W K Q (o :: rest) k a F := by
  refine wpFreeD_one hg (.int .i64 n) (fun w _ => ?_) h
  rcases hv.form with ⟨rfl, rfl⟩ | ⟨ad, cap, rfl, _, _⟩
  all_goals
    simp [execOp, hop, hx, Result.andThen, resolve, invoke, builtin, Builtin.len_, run_underlying hu]
    try rfl
end
end Go.Fk

/- Pieces for bows and jets: guarded loads of structs in drawn regions; pairs of rings and of numbers. Nothing here names a program. -/
namespace Go.Fk
open Go Go.RowKit
section
variable {P : Program} {ops : Array Oper} {W : World} {K : FuncId → Array Value → World → Value → Prop} {Q : Act → World → Prop} {F : Facts} {k : Nat} {o : Oper} {rest : List Oper} {a : Act}
theorem wpFreeD_loadGW {w0 w1 : World} {L : List Fact} {n : Nat} (hF : Frg w0 w1 L) (hW : W = w1.drewN n) (hw : Region.wanted o (yielded ops a.tmps) = true) {ty : TypeId} {x : Operand} (hop : o.op = .load ty x) {g : Nat} (hx : a.eval x = .pointer (some ⟨g, 0, none⟩)) {t : TypeId} {cs : Array Value} {d : TypeDesc}
    (hm : rowF g t cs ∈ L) (hu : P.underlying ty = some d) (hd : (match d with | .struct _ | .array _ _ => true | _ => false) = true) {m : Nat} (hi : (P.info? ty).map (·.size) = some m) (hs : cs.size = m)
    (h : wpFreeD leX P ops .any W K Q rest (k + 1) (a.put o.dst (.agg cs)) (F.with k (fun _ => True))) : wpFreeD leX P ops .any W K Q (o :: rest) k a F := by
  subst hW hs
  refine wpFreeD_oneW hw (.agg cs) (fun w hw => ?_) h
  have := run_loadVar_row (P := P) w g t ty cs (0, 0) _ (((hF.row hm).drewN n).le hw) hu hd hi
  simp [execOp, hop, hx, Instr.loadAt, Instr.sureAddr, this, Result.andThen]
theorem wpFreeD_indexWG {E : Ext} (hw : Region.wanted o (yielded ops a.tmps) = true) {t : TypeId} {x y : Operand} (hop : o.op = .indexAddr t x y) {b off n cap sz i : Nat} {kk : IntKind} {e : TypeId} (hx : a.eval x = .slice (some ⟨b, off, none⟩) n cap) (hy : a.eval y = .int kk (i : Int)) (hu : P.underlying t = some (.slice e)) (hs : (P.info? e).map (·.size) = some sz) (hi : i < n)
    (h : wpFreeD E P ops .any W K Q rest (k + 1) (a.put o.dst (.pointer (some ⟨b, off + i * sz, none⟩))) (F.with k (fun _ => True))) : wpFreeD E P ops .any W K Q (o :: rest) k a F := by
  refine wpFreeD_oneW hw (.pointer (some ⟨b, off + i * sz, none⟩)) (fun w _ => ?_) h
  cases hq : P.info? e with
  | none => simp [hq] at hs
  | some inf =>
    have hz : inf.size = sz := by simpa [hq] using hs
    have h2 : (i : Int) < (n : Int) := by omega
    simp [execOp, hop, hx, hy, Instr.indexAt, asIntOf, run_underlying hu, sizeOf, typeInfo, hq, hz, h2, hi, Result.andThen, add_none]
end
theorem Row.at_part {w : World} {g : Nat} {t : TypeId} {cs : Array Value} (R : Row w g t cs) {f : Nat} {ds : List Value} (hp : ∀ j, j < ds.length → cs[f + j]? = ds[j]?) : ∀ (j : Nat) (v : Value), ds[j]? = some v → w.cell? ((⟨g, f, none⟩ : Addr).add j) = some v := fun j v hv => by
  rw [add_none, R.cell?, hp j (List.getElem?_eq_some_iff.1 hv).1, hv]
theorem CD.RdN.mono {w : World} {B B' : Nat} (hB : B ≤ B') : ∀ {c : CD} {v : Value}, c.RdN w B v → c.RdN w B' v := by
  intro c
  induction c with
  | sl wd n x ih =>
    intro v h
    rcases h with h | ⟨b, o, cap, h1, h2, h3, h4⟩
    · exact .inl h
    · exact .inr ⟨b, o, cap, h1, h2, h3, fun i hi => by obtain ⟨h5, u, h6, h7⟩ := h4 i hi; exact ⟨by omega, u, h6, ih i h7⟩⟩
  | _ => intro v h; exact h
theorem bool_ft (b : Bool) : b = false ∨ b = true := by cases b <;> simp
/-- A slice of floats, as a tree. -/
def slT (x : Nat → Nat) (n : Nat) : CD := .sl 1 n (fun i => .fcn .f32 (x i))
theorem slT_rds {x : Nat → Nat} {n B : Nat} {w : World} {s : Value} (h : (slT x n).RdN w B s) : RdS w B s x n := h.rd.rds
theorem CD.RdN.congr {w : World} {B : Nat} : ∀ {c d : CD} {v : Value}, c.RdN w B v → c.Eqv d → d.RdN w B v := by
  intro c
  induction c with
  | sl wd n x ih =>
    intro d v h he
    obtain ⟨y, rfl, hy⟩ := he
    rcases h with h | ⟨b, o, cap, h1, h2, h3, h4⟩
    · exact .inl h
    · exact .inr ⟨b, o, cap, h1, h2, h3, fun i hi => by obtain ⟨h5, u, h6, h7⟩ := h4 i hi; exact ⟨h5, u, h6, ih i h7 (hy i hi)⟩⟩
  | _ => intro d v h he; cases he; exact h
/-- A copy of a slice of floats. -/
theorem slT_cp {n : Nat} {x : Nat → CD} (h : ∀ i, i < n → (x i).flk = some .f32) : (CD.sl 1 n x).cp.Eqv (slT (fun i => (x i).fx) n) :=
  ⟨_, rfl, fun i hi => by show (x i).cn.Eqv (.fcn .f32 (x i).fx); rw [CD.cn_fl (h i (by simpa using hi))]; exact CD.Eqv.refl _⟩
/-- Two rings. -/
def rg2 (x y : Nat → Nat) (nx ny : Nat) (j k : Int) : Nat → CD
  | 0 => slT x nx
  | 1 => .int .i64 j
  | 2 => slT y ny
  | _ => .int .i64 k
theorem rg2_ok (x y : Nat → Nat) (nx ny : Nat) (j k : Int) : RgsOk (rg2 x y nx ny j k) 2 := fun i hi => by
  match i, hi with
  | 0, _ => exact ⟨⟨_, rfl, fun _ _ => rfl, rfl⟩, rfl⟩
  | 1, _ => exact ⟨⟨_, rfl, fun _ _ => rfl, rfl⟩, rfl⟩
def rngB (x : Nat → Nat) (n : Nat) (j : Int) : Bool := okRing n j && finB x n
theorem rg2_all (x y : Nat → Nat) (nx ny : Nat) (j k : Int) : allB (rgOk (rg2 x y nx ny j k)) 2 = (rngB x nx j && rngB y ny k) := by
  simp [allB, List.range_succ]; rfl
theorem rg2_rd {x y : Nat → Nat} {nx ny B b : Nat} {j k : Int} {w : World} {s t : Value} {ty : TypeId} (hs : (slT x nx).RdN w B s) (ht : (slT y ny).RdN w B t) (wj : (Lit.int .i64 j).wf = true) (wk : (Lit.int .i64 k).wf = true) (R : Row w b ty #[s, .int .i64 j, t, .int .i64 k]) :
    (CD.sl 2 2 (rg2 x y nx ny j k)).RdN w (max B (b + 1)) (.slice (some ⟨b, 0, none⟩) 2 2) := by
  refine .inr ⟨b, 0, 2, rfl, Nat.le_refl _, by decide, fun i hi => ⟨by omega, ?_⟩⟩
  match i, hi with
  | 0, _ => exact ⟨s, R.cell? 0, hs.mono (by omega)⟩
  | 1, _ => exact ⟨_, R.cell? 1, rfl, wj⟩
  | 2, _ => exact ⟨t, R.cell? 2, ht.mono (by omega)⟩
  | 3, _ => exact ⟨_, R.cell? 3, rfl, wk⟩
/-- Two numbers. -/
def two (m o : Nat) : Nat → Nat := fun i => match i with | 0 => can .f32 m | _ => can .f32 o
theorem fin_two (m o : Nat) : finB (two m o) 2 = (fin m && fin o) := by
  have e : ∀ z, fin (can .f32 z) = fin z := fun z => fin_can (can_can _ _)
  simp [finB, two, List.range_succ, e]
theorem two_rd {m o b : Nat} {w : World} {ty : TypeId} (hm : fits .f32 m) (ho : fits .f32 o) (R : Row w b ty #[.float .f32 m, .float .f32 o]) : RdS w (b + 1) (.slice (some ⟨b, 0, none⟩) 2 2) (two m o) 2 :=
  .inr ⟨⟨b, 0, none⟩, 2, rfl, Nat.le_refl _, by decide, fun i hi => ⟨Nat.lt_succ_self _, by rw [add_none, Nat.zero_add]; match i, hi with
    | 0, _ => exact ⟨m, R.cell? 0, hm, rfl⟩
    | 1, _ => exact ⟨o, R.cell? 1, ho, rfl⟩⟩⟩
/-- A new row that is known. -/
def OutSl (t : TypeId) (n : Nat) (cs : Array Value) (w : World) (e : Ending) (w' : World) : Prop := ∃ g, e = .returned (.slice (some ⟨g, 0, none⟩) n n) ∧ w.heap.size ≤ g ∧ Row w' g t cs ∧ le w w'
theorem Frg.rowS {w0 w w' : World} {L : List Fact} (h : Frg w0 w L) (k : Below w.heap.size w w') {g : Nat} {t : TypeId} {cs : Array Value} (hg : w.heap.size ≤ g) (hr : Row w' g t cs) : Frg w0 w' (rowF g t cs :: L) :=
  h.push k hr hg hr.lt
end Go.Fk

/- Lists of rings that are the same: 'l04SameRings', and slices.EqualFunc over rings. -/
namespace Go.Fk
open Go Go.RowKit
def sameRg (x y : Nat → CD) (k : Nat) : Bool := (rgK x k == rgK y k) && sameS (rgX x k) (rgX y k) (rgN x k) (rgN y k)
def sameRgs (x y : Nat → CD) (n n' : Nat) : Bool := (n == n') && allB (sameRg x y) n
theorem sameRgs_ne {x y : Nat → CD} {n n' : Nat} (h : n ≠ n') : sameRgs x y n n' = false := by simp [sameRgs, h]
theorem sameRgs_eq {x y : Nat → CD} {n : Nat} : sameRgs x y n n = allB (sameRg x y) n := by simp [sameRgs]
/-- The cells of a ring in a list. -/
theorem RgsOk.vals {x : Nat → CD} {n k B b o cap : Nat} {w : World} (h : RgsOk x n) (hr : (CD.sl 2 n x).RdN w B (.slice (some ⟨b, o, none⟩) n cap)) (hk : k < n) : ∃ u, (∀ j v, [u, Value.int .i64 (rgK x k)][j]? = some v → w.cell? ((⟨b, o + k * 2, none⟩ : Addr).add j) = some v) ∧ w.cell? ⟨b, o + k * 2, none⟩ = some u ∧ w.cell? ⟨b, o + k * 2 + 1, none⟩ = some (.int .i64 (rgK x k)) ∧ RdS w B u (rgX x k) (rgN x k) := by
  obtain ⟨u, c0, c1, _, hr⟩ := h.at hr hk
  refine ⟨u, fun j v hv => ?_, c0, c1, hr⟩
  rw [add_none]
  match j, hv with
  | 0, hv => obtain rfl : u = v := by simpa using hv
             exact c0
  | 1, hv => obtain rfl : Value.int .i64 (rgK x k) = v := by simpa using hv
             exact c1
end Go.Fk
namespace Go.Proofs.Ytnkjmgadnejdlaa
open Go.RowKit Go.Fk
set_option maxRecDepth 100000 in
set_option maxHeartbeats 4000000 in
theorem s_l04SameRings (B B' : Nat) (s s' : Value) (x x' : Nat → CD) (n n' : Nat) (w : World) (hs : (CD.sl 2 n x).RdN w B s) (hs' : (CD.sl 2 n' x').RdN w B' s') (hx : RgsOk x n) (hx' : RgsOk x' n') : Calls Try.prog 52 #[s, s'] w fun e w' => e = .returned (.bool (sameRgs x x' n n')) ∧ le w w' := by
  by_cases hne : n = n'
  · subst hne
    rw [sameRgs_eq]
    by_cases h0 : n = 0
    · subst h0
      rcases hs.form with ⟨rfl, _⟩ | ⟨b, o, cap, rfl, hc, hm⟩ <;> rcases hs'.form with ⟨rfl, _⟩ | ⟨b', o', cap', rfl, hc', hm'⟩
      all_goals
        clear hs hs'
        go_enter Try.func52, Try.ntmps52
        go_wp2
        go_loop [5] (fun i => i = .int .i64 0) (fun _ => 0)
        case atStart => rfl
        case round =>
          obtain rfl := hrel
          go_wp2
          go_ret
          exact ⟨rfl, le_refl _⟩
    rcases hs.form with ⟨_, e0⟩ | ⟨b, o, cap, rfl, hc, hm⟩
    · exact absurd e0 h0
    rcases hs'.form with ⟨_, e0⟩ | ⟨b', o', cap', rfl, hc', hm'⟩
    · exact absurd e0 h0
    have HA := hid (fun k (hk : k < n) => hx.vals hs hk)
    have HA' := hid (fun k (hk : k < n) => hx'.vals hs' hk)
    unfold maxLen at hm hm'
    clear hx hs hx' hs' h0
    go_enter Try.func52, Try.ntmps52
    go_wp2
    go_loopw [5] (fun i wr => ∃ j : Nat, j ≤ n ∧ i = .int .i64 j ∧ Hid (∀ i, i < j → sameRg x x' i = true) ∧ Hid (le w wr)) (fun i _ => n - (intOf i).toNat)
    case atStart => exact ⟨0, by omega, rfl, fun i hi => absurd hi (by omega), le_refl _⟩
    case round =>
      obtain ⟨j, hj, rfl, HJ, HL⟩ := hrel
      rename_i wr _
      by_cases hlt : j < n
      · obtain ⟨u, _, c0, c1, hr⟩ := HA.out j hlt
        obtain ⟨u', _, d0, d1, hr'⟩ := HA'.out j hlt
        have HS := hid (fun (w' : World) (hl : le wr w') => s_l02SameListR B B' u u' _ _ (rgN x j) (rgN x' j) w' (hr.le (le_trans HL.out hl)) (hr'.le (le_trans HL.out hl)))
        have C0 := hid (fun (w' : World) (hl : le wr w') => (Below.cell (le_trans HL.out hl) (cell_lt' c0)).trans c0)
        have C1 := hid (fun (w' : World) (hl : le wr w') => (Below.cell (le_trans HL.out hl) (cell_lt' c1)).trans c1)
        have D0 := hid (fun (w' : World) (hl : le wr w') => (Below.cell (le_trans HL.out hl) (cell_lt' d0)).trans d0)
        have D1 := hid (fun (w' : World) (hl : le wr w') => (Below.cell (le_trans HL.out hl) (cell_lt' d1)).trans d1)
        clear c0 c1 d0 d1 hr hr'
        rcases bool_ft (rgK x j == rgK x' j) with h1 | h1
        · have hb := hid (show sameRg x x' j = false by unfold sameRg; rw [h1]; rfl)
          have hne := hid (show (rgK x j != rgK x' j) = true by rw [bne, h1]; rfl)
          clear h1 HS C0 D0
          go_wp2_with fail
          refine region_freeD (E := leX) (fun _ _ _ v => v = .bool false) (by kernel_rfl) (by kernel_rfl) ?_
          refine wpFreeD_one rfl (.slice (some ⟨b, o, none⟩) n cap) (fun w1 _ => by kernel_rfl) ?_
          simp only [Act.put, List.setIfInBounds_toArray, List.set_cons_succ, List.set_cons_zero]
          refine wpFreeD_one rfl (.int .i64 j) (fun w1 _ => by kernel_rfl) ?_
          simp only [Act.put, List.setIfInBounds_toArray, List.set_cons_succ, List.set_cons_zero]
          refine wpFreeD_indexW0 rfl rfl rfl rfl Try.underlying33 uinfoRingI hlt ?_
          simp only [Act.put, List.setIfInBounds_toArray, List.set_cons_succ, List.set_cons_zero]
          refine wpFreeD_one rfl (.pointer (some ⟨b, o + j * 2 + 1, none⟩)) (fun w1 _ => by kernel_rfl) ?_
          simp only [Act.put, List.setIfInBounds_toArray, List.set_cons_succ, List.set_cons_zero]
          refine wpFreeD_load1 rfl rfl rfl (p := ⟨b, o + j * 2 + 1, none⟩) (fun w1 h1 => C1.out w1 (le_trans (le_drewN _ _) h1)) ukindInt64 ?_
          simp only [Act.put, List.setIfInBounds_toArray, List.set_cons_succ, List.set_cons_zero]
          refine wpFreeD_one rfl (.slice (some ⟨b', o', none⟩) n cap') (fun w1 _ => by kernel_rfl) ?_
          simp only [Act.put, List.setIfInBounds_toArray, List.set_cons_succ, List.set_cons_zero]
          refine wpFreeD_one rfl (.int .i64 j) (fun w1 _ => by kernel_rfl) ?_
          simp only [Act.put, List.setIfInBounds_toArray, List.set_cons_succ, List.set_cons_zero]
          refine wpFreeD_indexW0 rfl rfl rfl rfl Try.underlying33 uinfoRingI hlt ?_
          simp only [Act.put, List.setIfInBounds_toArray, List.set_cons_succ, List.set_cons_zero]
          refine wpFreeD_one rfl (.pointer (some ⟨b', o' + j * 2 + 1, none⟩)) (fun w1 _ => by kernel_rfl) ?_
          simp only [Act.put, List.setIfInBounds_toArray, List.set_cons_succ, List.set_cons_zero]
          refine wpFreeD_load1 rfl rfl rfl (p := ⟨b', o' + j * 2 + 1, none⟩) (fun w1 h1 => D1.out w1 (le_trans (le_drewN _ _) h1)) ukindInt64 ?_
          simp only [Act.put, List.setIfInBounds_toArray, List.set_cons_succ, List.set_cons_zero]
          refine wpFreeD_one rfl (.bool (rgK x j != rgK x' j)) (fun w1 _ => by kernel_rfl) ?_
          simp only [Act.put, List.setIfInBounds_toArray, List.set_cons_succ, List.set_cons_zero]
          rw [hne.out]
          refine wpFreeD_one rfl (.bool true) (fun w1 _ => by kernel_rfl) ?_
          simp only [Act.put, List.setIfInBounds_toArray, List.set_cons_succ, List.set_cons_zero]
          refine wpFreeD_skip (by kernel_rfl) ?_
          simp only [Act.put, List.setIfInBounds_toArray, List.set_cons_succ, List.set_cons_zero]
          refine wpFreeD_skip (by kernel_rfl) ?_
          simp only [Act.put, List.setIfInBounds_toArray, List.set_cons_succ, List.set_cons_zero]
          refine wpFreeD_skip (by kernel_rfl) ?_
          simp only [Act.put, List.setIfInBounds_toArray, List.set_cons_succ, List.set_cons_zero]
          refine wpFreeD_skip (by kernel_rfl) ?_
          simp only [Act.put, List.setIfInBounds_toArray, List.set_cons_succ, List.set_cons_zero]
          refine wpFreeD_skip (by kernel_rfl) ?_
          simp only [Act.put, List.setIfInBounds_toArray, List.set_cons_succ, List.set_cons_zero]
          refine wpFreeD_skip (by kernel_rfl) ?_
          simp only [Act.put, List.setIfInBounds_toArray, List.set_cons_succ, List.set_cons_zero]
          refine wpFreeD_skip (by kernel_rfl) ?_
          simp only [Act.put, List.setIfInBounds_toArray, List.set_cons_succ, List.set_cons_zero]
          refine wpFreeD_skip (by kernel_rfl) ?_
          simp only [Act.put, List.setIfInBounds_toArray, List.set_cons_succ, List.set_cons_zero]
          refine wpFreeD_skip (by kernel_rfl) ?_
          simp only [Act.put, List.setIfInBounds_toArray, List.set_cons_succ, List.set_cons_zero]
          refine wpFreeD_skip (by kernel_rfl) ?_
          simp only [Act.put, List.setIfInBounds_toArray, List.set_cons_succ, List.set_cons_zero]
          refine wpFreeD_skip (by kernel_rfl) ?_
          simp only [Act.put, List.setIfInBounds_toArray, List.set_cons_succ, List.set_cons_zero]
          refine wpFreeD_skip (by kernel_rfl) ?_
          simp only [Act.put, List.setIfInBounds_toArray, List.set_cons_succ, List.set_cons_zero]
          refine wpFreeD_one rfl (.bool true) (fun w1 _ => by kernel_rfl) ?_
          simp only [Act.put, List.setIfInBounds_toArray, List.set_cons_succ, List.set_cons_zero]
          refine wpFreeD_nil (fun wR hwR _ => ?_)
          have HL1 := hid (le_trans HL.out (le_trans (le_drewN _ _) hwR))
          clear hwR
          go_wp2
          go_ret
          exact ⟨ret_b (allB_no hlt hb.out).symm, HL1.out⟩
        have hne := hid (show (rgK x j != rgK x' j) = false by rw [bne, h1]; rfl)
        rcases bool_ft (sameS (rgX x j) (rgX x' j) (rgN x j) (rgN x' j)) with h2 | h2
        · rw [h2] at HS
          have hb := hid (show sameRg x x' j = false by unfold sameRg; rw [h2, Bool.and_false])
          clear h1 h2
          go_wp2_with fail
          refine region_freeD (E := leX) (fun _ _ _ v => v = .bool false) (by kernel_rfl) (by kernel_rfl) ?_
          refine wpFreeD_one rfl (.slice (some ⟨b, o, none⟩) n cap) (fun w1 _ => by kernel_rfl) ?_
          simp only [Act.put, List.setIfInBounds_toArray, List.set_cons_succ, List.set_cons_zero]
          refine wpFreeD_one rfl (.int .i64 j) (fun w1 _ => by kernel_rfl) ?_
          simp only [Act.put, List.setIfInBounds_toArray, List.set_cons_succ, List.set_cons_zero]
          refine wpFreeD_indexW0 rfl rfl rfl rfl Try.underlying33 uinfoRingI hlt ?_
          simp only [Act.put, List.setIfInBounds_toArray, List.set_cons_succ, List.set_cons_zero]
          refine wpFreeD_one rfl (.pointer (some ⟨b, o + j * 2 + 1, none⟩)) (fun w1 _ => by kernel_rfl) ?_
          simp only [Act.put, List.setIfInBounds_toArray, List.set_cons_succ, List.set_cons_zero]
          refine wpFreeD_load1 rfl rfl rfl (p := ⟨b, o + j * 2 + 1, none⟩) (fun w1 h1 => C1.out w1 (le_trans (le_drewN _ _) h1)) ukindInt64 ?_
          simp only [Act.put, List.setIfInBounds_toArray, List.set_cons_succ, List.set_cons_zero]
          refine wpFreeD_one rfl (.slice (some ⟨b', o', none⟩) n cap') (fun w1 _ => by kernel_rfl) ?_
          simp only [Act.put, List.setIfInBounds_toArray, List.set_cons_succ, List.set_cons_zero]
          refine wpFreeD_one rfl (.int .i64 j) (fun w1 _ => by kernel_rfl) ?_
          simp only [Act.put, List.setIfInBounds_toArray, List.set_cons_succ, List.set_cons_zero]
          refine wpFreeD_indexW0 rfl rfl rfl rfl Try.underlying33 uinfoRingI hlt ?_
          simp only [Act.put, List.setIfInBounds_toArray, List.set_cons_succ, List.set_cons_zero]
          refine wpFreeD_one rfl (.pointer (some ⟨b', o' + j * 2 + 1, none⟩)) (fun w1 _ => by kernel_rfl) ?_
          simp only [Act.put, List.setIfInBounds_toArray, List.set_cons_succ, List.set_cons_zero]
          refine wpFreeD_load1 rfl rfl rfl (p := ⟨b', o' + j * 2 + 1, none⟩) (fun w1 h1 => D1.out w1 (le_trans (le_drewN _ _) h1)) ukindInt64 ?_
          simp only [Act.put, List.setIfInBounds_toArray, List.set_cons_succ, List.set_cons_zero]
          refine wpFreeD_one rfl (.bool (rgK x j != rgK x' j)) (fun w1 _ => by kernel_rfl) ?_
          simp only [Act.put, List.setIfInBounds_toArray, List.set_cons_succ, List.set_cons_zero]
          rw [hne.out]
          refine wpFreeD_one rfl (.bool false) (fun w1 _ => by kernel_rfl) ?_
          simp only [Act.put, List.setIfInBounds_toArray, List.set_cons_succ, List.set_cons_zero]
          refine wpFreeD_oneW (by kernel_rfl) (.slice (some ⟨b, o, none⟩) n cap) (fun w1 _ => by kernel_rfl) ?_
          simp only [Act.put, List.setIfInBounds_toArray, List.set_cons_succ, List.set_cons_zero]
          refine wpFreeD_oneW (by kernel_rfl) (.int .i64 j) (fun w1 _ => by kernel_rfl) ?_
          simp only [Act.put, List.setIfInBounds_toArray, List.set_cons_succ, List.set_cons_zero]
          refine wpFreeD_indexWG (by kernel_rfl) rfl rfl rfl Try.underlying33 uinfoRingI hlt ?_
          simp only [Act.put, List.setIfInBounds_toArray, List.set_cons_succ, List.set_cons_zero]
          refine wpFreeD_oneW (by kernel_rfl) (.pointer (some ⟨b, o + j * 2, none⟩)) (fun w1 _ => by kernel_rfl) ?_
          simp only [Act.put, List.setIfInBounds_toArray, List.set_cons_succ, List.set_cons_zero]
          refine wpFreeD_load1W (by kernel_rfl) rfl rfl (p := ⟨b, o + j * 2, none⟩) (fun w1 h1 => C0.out w1 (le_trans (le_drewN _ _) h1)) ukindFloat32S ?_
          simp only [Act.put, List.setIfInBounds_toArray, List.set_cons_succ, List.set_cons_zero]
          refine wpFreeD_oneW (by kernel_rfl) (.slice (some ⟨b', o', none⟩) n cap') (fun w1 _ => by kernel_rfl) ?_
          simp only [Act.put, List.setIfInBounds_toArray, List.set_cons_succ, List.set_cons_zero]
          refine wpFreeD_oneW (by kernel_rfl) (.int .i64 j) (fun w1 _ => by kernel_rfl) ?_
          simp only [Act.put, List.setIfInBounds_toArray, List.set_cons_succ, List.set_cons_zero]
          refine wpFreeD_indexWG (by kernel_rfl) rfl rfl rfl Try.underlying33 uinfoRingI hlt ?_
          simp only [Act.put, List.setIfInBounds_toArray, List.set_cons_succ, List.set_cons_zero]
          refine wpFreeD_oneW (by kernel_rfl) (.pointer (some ⟨b', o' + j * 2, none⟩)) (fun w1 _ => by kernel_rfl) ?_
          simp only [Act.put, List.setIfInBounds_toArray, List.set_cons_succ, List.set_cons_zero]
          refine wpFreeD_load1W (by kernel_rfl) rfl rfl (p := ⟨b', o' + j * 2, none⟩) (fun w1 h1 => D0.out w1 (le_trans (le_drewN _ _) h1)) ukindFloat32S ?_
          simp only [Act.put, List.setIfInBounds_toArray, List.set_cons_succ, List.set_cons_zero]
          refine wpFreeD_callW (by kernel_rfl) rfl Try.func53 (by kernel_rfl) (by kernel_rfl) (args := #[u, u']) (by simp [Act.eval]) (fun v w1 w2 hw hv => hv) (fun w1 hw1 _ => (HS.out w1 (le_trans (le_drewN _ _) hw1)).mono ?_) ?_
          · rintro e w2 ⟨rfl, q, rfl⟩
            exact ⟨_, rfl, le_drewN _ _, rfl⟩
          rintro v ⟨_, _, _, rfl⟩
          simp only [Act.put, List.setIfInBounds_toArray, List.set_cons_succ, List.set_cons_zero]
          refine wpFreeD_oneW (by kernel_rfl) (.bool true) (fun w1 _ => by kernel_rfl) ?_
          simp only [Act.put, List.setIfInBounds_toArray, List.set_cons_succ, List.set_cons_zero]
          refine wpFreeD_one rfl (.bool true) (fun w1 _ => by kernel_rfl) ?_
          simp only [Act.put, List.setIfInBounds_toArray, List.set_cons_succ, List.set_cons_zero]
          refine wpFreeD_nil (fun wR hwR _ => ?_)
          have HL1 := hid (le_trans HL.out (le_trans (le_drewN _ _) hwR))
          clear hwR
          go_wp2
          go_ret
          exact ⟨ret_b (allB_no hlt hb.out).symm, HL1.out⟩
        · rw [h2] at HS
          have hb := hid (show sameRg x x' j = true by unfold sameRg; rw [h1, h2]; rfl)
          clear h1 h2
          go_wp2_with fail
          refine region_freeD (E := leX) (fun _ _ _ v => v = .bool true) (by kernel_rfl) (by kernel_rfl) ?_
          refine wpFreeD_one rfl (.slice (some ⟨b, o, none⟩) n cap) (fun w1 _ => by kernel_rfl) ?_
          simp only [Act.put, List.setIfInBounds_toArray, List.set_cons_succ, List.set_cons_zero]
          refine wpFreeD_one rfl (.int .i64 j) (fun w1 _ => by kernel_rfl) ?_
          simp only [Act.put, List.setIfInBounds_toArray, List.set_cons_succ, List.set_cons_zero]
          refine wpFreeD_indexW0 rfl rfl rfl rfl Try.underlying33 uinfoRingI hlt ?_
          simp only [Act.put, List.setIfInBounds_toArray, List.set_cons_succ, List.set_cons_zero]
          refine wpFreeD_one rfl (.pointer (some ⟨b, o + j * 2 + 1, none⟩)) (fun w1 _ => by kernel_rfl) ?_
          simp only [Act.put, List.setIfInBounds_toArray, List.set_cons_succ, List.set_cons_zero]
          refine wpFreeD_load1 rfl rfl rfl (p := ⟨b, o + j * 2 + 1, none⟩) (fun w1 h1 => C1.out w1 (le_trans (le_drewN _ _) h1)) ukindInt64 ?_
          simp only [Act.put, List.setIfInBounds_toArray, List.set_cons_succ, List.set_cons_zero]
          refine wpFreeD_one rfl (.slice (some ⟨b', o', none⟩) n cap') (fun w1 _ => by kernel_rfl) ?_
          simp only [Act.put, List.setIfInBounds_toArray, List.set_cons_succ, List.set_cons_zero]
          refine wpFreeD_one rfl (.int .i64 j) (fun w1 _ => by kernel_rfl) ?_
          simp only [Act.put, List.setIfInBounds_toArray, List.set_cons_succ, List.set_cons_zero]
          refine wpFreeD_indexW0 rfl rfl rfl rfl Try.underlying33 uinfoRingI hlt ?_
          simp only [Act.put, List.setIfInBounds_toArray, List.set_cons_succ, List.set_cons_zero]
          refine wpFreeD_one rfl (.pointer (some ⟨b', o' + j * 2 + 1, none⟩)) (fun w1 _ => by kernel_rfl) ?_
          simp only [Act.put, List.setIfInBounds_toArray, List.set_cons_succ, List.set_cons_zero]
          refine wpFreeD_load1 rfl rfl rfl (p := ⟨b', o' + j * 2 + 1, none⟩) (fun w1 h1 => D1.out w1 (le_trans (le_drewN _ _) h1)) ukindInt64 ?_
          simp only [Act.put, List.setIfInBounds_toArray, List.set_cons_succ, List.set_cons_zero]
          refine wpFreeD_one rfl (.bool (rgK x j != rgK x' j)) (fun w1 _ => by kernel_rfl) ?_
          simp only [Act.put, List.setIfInBounds_toArray, List.set_cons_succ, List.set_cons_zero]
          rw [hne.out]
          refine wpFreeD_one rfl (.bool false) (fun w1 _ => by kernel_rfl) ?_
          simp only [Act.put, List.setIfInBounds_toArray, List.set_cons_succ, List.set_cons_zero]
          refine wpFreeD_oneW (by kernel_rfl) (.slice (some ⟨b, o, none⟩) n cap) (fun w1 _ => by kernel_rfl) ?_
          simp only [Act.put, List.setIfInBounds_toArray, List.set_cons_succ, List.set_cons_zero]
          refine wpFreeD_oneW (by kernel_rfl) (.int .i64 j) (fun w1 _ => by kernel_rfl) ?_
          simp only [Act.put, List.setIfInBounds_toArray, List.set_cons_succ, List.set_cons_zero]
          refine wpFreeD_indexWG (by kernel_rfl) rfl rfl rfl Try.underlying33 uinfoRingI hlt ?_
          simp only [Act.put, List.setIfInBounds_toArray, List.set_cons_succ, List.set_cons_zero]
          refine wpFreeD_oneW (by kernel_rfl) (.pointer (some ⟨b, o + j * 2, none⟩)) (fun w1 _ => by kernel_rfl) ?_
          simp only [Act.put, List.setIfInBounds_toArray, List.set_cons_succ, List.set_cons_zero]
          refine wpFreeD_load1W (by kernel_rfl) rfl rfl (p := ⟨b, o + j * 2, none⟩) (fun w1 h1 => C0.out w1 (le_trans (le_drewN _ _) h1)) ukindFloat32S ?_
          simp only [Act.put, List.setIfInBounds_toArray, List.set_cons_succ, List.set_cons_zero]
          refine wpFreeD_oneW (by kernel_rfl) (.slice (some ⟨b', o', none⟩) n cap') (fun w1 _ => by kernel_rfl) ?_
          simp only [Act.put, List.setIfInBounds_toArray, List.set_cons_succ, List.set_cons_zero]
          refine wpFreeD_oneW (by kernel_rfl) (.int .i64 j) (fun w1 _ => by kernel_rfl) ?_
          simp only [Act.put, List.setIfInBounds_toArray, List.set_cons_succ, List.set_cons_zero]
          refine wpFreeD_indexWG (by kernel_rfl) rfl rfl rfl Try.underlying33 uinfoRingI hlt ?_
          simp only [Act.put, List.setIfInBounds_toArray, List.set_cons_succ, List.set_cons_zero]
          refine wpFreeD_oneW (by kernel_rfl) (.pointer (some ⟨b', o' + j * 2, none⟩)) (fun w1 _ => by kernel_rfl) ?_
          simp only [Act.put, List.setIfInBounds_toArray, List.set_cons_succ, List.set_cons_zero]
          refine wpFreeD_load1W (by kernel_rfl) rfl rfl (p := ⟨b', o' + j * 2, none⟩) (fun w1 h1 => D0.out w1 (le_trans (le_drewN _ _) h1)) ukindFloat32S ?_
          simp only [Act.put, List.setIfInBounds_toArray, List.set_cons_succ, List.set_cons_zero]
          refine wpFreeD_callW (by kernel_rfl) rfl Try.func53 (by kernel_rfl) (by kernel_rfl) (args := #[u, u']) (by simp [Act.eval]) (fun v w1 w2 hw hv => hv) (fun w1 hw1 _ => (HS.out w1 (le_trans (le_drewN _ _) hw1)).mono ?_) ?_
          · rintro e w2 ⟨rfl, q, rfl⟩
            exact ⟨_, rfl, le_drewN _ _, rfl⟩
          rintro v ⟨_, _, _, rfl⟩
          simp only [Act.put, List.setIfInBounds_toArray, List.set_cons_succ, List.set_cons_zero]
          refine wpFreeD_oneW (by kernel_rfl) (.bool false) (fun w1 _ => by kernel_rfl) ?_
          simp only [Act.put, List.setIfInBounds_toArray, List.set_cons_succ, List.set_cons_zero]
          refine wpFreeD_one rfl (.bool false) (fun w1 _ => by kernel_rfl) ?_
          simp only [Act.put, List.setIfInBounds_toArray, List.set_cons_succ, List.set_cons_zero]
          refine wpFreeD_nil (fun wR hwR _ => ?_)
          have HL1 := hid (le_trans HL.out (le_trans (le_drewN _ _) hwR))
          clear hwR
          go_wp2
          go_roundw
          case rel => exact ⟨j + 1, by omega, by go_num, fun i hi => by rcases Nat.lt_or_ge i j with h | h; exact HJ.out i h; rw [show i = j by omega]; exact hb.out, HL1.out⟩
          case measure => simp [intOf]; omega
      · obtain rfl : j = n := by omega
        go_wp2
        go_ret
        exact ⟨ret_b (allB_yes HJ.out).symm, HL.out⟩
  · rw [sameRgs_ne hne]
    have hne' : ¬ (n : Int) = (n' : Int) := by omega
    rcases hs.form with ⟨rfl, rfl⟩ | ⟨b, o, cap, rfl, hc, hm⟩ <;> rcases hs'.form with ⟨rfl, rfl⟩ | ⟨b', o', cap', rfl, hc', hm'⟩
    all_goals first | exact absurd rfl hne | skip
    all_goals
      clear hs hs' hx hx'
      try unfold maxLen at hm
      try unfold maxLen at hm'
      go_enter Try.func52, Try.ntmps52
      go_wp2
      go_ret
      exact ⟨rfl, le_refl _⟩
set_option maxRecDepth 100000 in
set_option maxHeartbeats 4000000 in
theorem i_EqualRings (B B' : Nat) (s s' : Value) (x x' : Nat → CD) (n n' : Nat) (w : World) (hs : (CD.sl 2 n x).RdN w B s) (hs' : (CD.sl 2 n' x').RdN w B' s') (hx : RgsOk x n) (hx' : RgsOk x' n') : Calls Try.prog 26 #[s, s', .func (.func 27) #[] #[]] w fun e w' => e = .returned (.bool (sameRgs x x' n n')) ∧ le w w' := by
  by_cases hne : n = n'
  · subst hne
    rw [sameRgs_eq]
    by_cases h0 : n = 0
    · subst h0
      rcases hs.form with ⟨rfl, _⟩ | ⟨b, o, cap, rfl, hc, hm⟩ <;> rcases hs'.form with ⟨rfl, _⟩ | ⟨b', o', cap', rfl, hc', hm'⟩
      all_goals
        clear hs hs'
        go_enter Try.func26, Try.ntmps26
        go_wp2
        go_loop [17] (fun i => i = .int .i64 0) (fun _ => 0)
        case atStart => rfl
        case round =>
          obtain rfl := hrel
          go_wp2
          go_ret
          exact ⟨rfl, le_refl _⟩
    rcases hs.form with ⟨_, e0⟩ | ⟨b, o, cap, rfl, hc, hm⟩
    · exact absurd e0 h0
    rcases hs'.form with ⟨_, e0⟩ | ⟨b', o', cap', rfl, hc', hm'⟩
    · exact absurd e0 h0
    have HA := hid (fun k (hk : k < n) => hx.vals hs hk)
    have HA' := hid (fun k (hk : k < n) => hx'.vals hs' hk)
    unfold maxLen at hm hm'
    clear hx hs hx' hs' h0
    go_enter Try.func26, Try.ntmps26
    go_wp2
    go_loopw [17] (fun i wr => ∃ j : Nat, j ≤ n ∧ i = .int .i64 j ∧ Hid (∀ i, i < j → sameRg x x' i = true) ∧ Hid (le w wr)) (fun i _ => n - (intOf i).toNat)
    case atStart => exact ⟨0, by omega, rfl, fun i hi => absurd hi (by omega), le_refl _⟩
    case round =>
      obtain ⟨j, hj, rfl, HJ, HL⟩ := hrel
      rename_i wr _
      by_cases hlt : j < n
      · obtain ⟨u, cu, _, _, hr⟩ := HA.out j hlt
        obtain ⟨u', cu', _, _, hr'⟩ := HA'.out j hlt
        have HS := hid (fun (w' : World) (hl : le wr w') => i_SameRingR B B' u u' _ _ (rgN x j) (rgN x' j) (rgK x j) (rgK x' j) w' (hr.le (le_trans HL.out hl)) (hr'.le (le_trans HL.out hl)))
        have CU := hid (fun (w' : World) (hl : le wr w') (q : Nat) (v : Value) (hv : [u, Value.int .i64 (rgK x j)][q]? = some v) => (Below.cell (le_trans HL.out hl) (cell_lt' (cu q v hv))).trans (cu q v hv))
        have CU' := hid (fun (w' : World) (hl : le wr w') (q : Nat) (v : Value) (hv : [u', Value.int .i64 (rgK x' j)][q]? = some v) => (Below.cell (le_trans HL.out hl) (cell_lt' (cu' q v hv))).trans (cu' q v hv))
        have SO := hid hr.one; have SO' := hid hr'.one
        have F := Frg.nil wr
        clear cu cu' hr hr'
        rcases bool_ft (sameRg x x' j) with h1 | h1
        · have hb := hid h1
          unfold sameRg at h1
          rw [h1] at HS
          clear h1
          go_wp2_with (first | ((with_reducible refine listN F ?_); clear F; intro wN F) | (go_at_call 27; ((with_reducible refine (HS.out _ F.below).mono ?_); rintro e w1 ⟨rfl, hl⟩; replace F := F.le hl; clear hl)) | (with_reducible refine wpList_indexW0 rfl rfl rfl rfl Try.underlying33 uinfoRingI hlt ?_) | ((with_reducible refine at_load rfl ?_); first | (with_reducible refine wpList_loadW rfl rfl rfl [u, .int .i64 (rgK x j)] (CU.out _ F.below) Try.underlying56 rfl uinfoRingI rfl ?_) | (with_reducible refine wpList_loadW rfl rfl rfl [u', .int .i64 (rgK x' j)] (CU'.out _ F.below) Try.underlying56 rfl uinfoRingI rfl ?_) | (with_reducible refine wpList_loadG F rfl rfl rfl (by first | exact m0 | exact m1 | exact m2) Try.underlying56 rfl uinfoRingI rfl ?_)) | ((with_reducible refine at_store rfl ?_); (refine wpList_storeG F rfl rfl rfl rfl rfl uinfoRingI rfl (by (simp only [List.all_toArray', List.all_cons, List.all_nil, Bool.and_true, Bool.true_and, SO.out, SO'.out]) <;> rfl) ?_; clear F; intro W F zW; clear zW)))
          go_ret
          exact ⟨ret_b (allB_no hlt hb.out).symm, le_trans HL.out F.below⟩
        · have hb := hid h1
          unfold sameRg at h1
          rw [h1] at HS
          clear h1
          go_wp2_with (first | ((with_reducible refine listN F ?_); clear F; intro wN F) | (go_at_call 27; ((with_reducible refine (HS.out _ F.below).mono ?_); rintro e w1 ⟨rfl, hl⟩; replace F := F.le hl; clear hl)) | (with_reducible refine wpList_indexW0 rfl rfl rfl rfl Try.underlying33 uinfoRingI hlt ?_) | ((with_reducible refine at_load rfl ?_); first | (with_reducible refine wpList_loadW rfl rfl rfl [u, .int .i64 (rgK x j)] (CU.out _ F.below) Try.underlying56 rfl uinfoRingI rfl ?_) | (with_reducible refine wpList_loadW rfl rfl rfl [u', .int .i64 (rgK x' j)] (CU'.out _ F.below) Try.underlying56 rfl uinfoRingI rfl ?_) | (with_reducible refine wpList_loadG F rfl rfl rfl (by first | exact m0 | exact m1 | exact m2) Try.underlying56 rfl uinfoRingI rfl ?_)) | ((with_reducible refine at_store rfl ?_); (refine wpList_storeG F rfl rfl rfl rfl rfl uinfoRingI rfl (by (simp only [List.all_toArray', List.all_cons, List.all_nil, Bool.and_true, Bool.true_and, SO.out, SO'.out]) <;> rfl) ?_; clear F; intro W F zW; clear zW)))
          go_roundw
          case rel => exact ⟨j + 1, by omega, by go_num, fun i hi => by rcases Nat.lt_or_ge i j with h | h; exact HJ.out i h; rw [show i = j by omega]; exact hb.out, le_trans HL.out F.below⟩
          case measure => simp [intOf]; omega
      · obtain rfl : j = n := by omega
        go_wp2
        go_ret
        exact ⟨ret_b (allB_yes HJ.out).symm, HL.out⟩
  · rw [sameRgs_ne hne]
    have hne' : ¬ (n : Int) = (n' : Int) := by omega
    rcases hs.form with ⟨rfl, rfl⟩ | ⟨b, o, cap, rfl, hc, hm⟩ <;> rcases hs'.form with ⟨rfl, rfl⟩ | ⟨b', o', cap', rfl, hc', hm'⟩
    all_goals first | exact absurd rfl hne | skip
    all_goals
      clear hs hs' hx hx'
      try unfold maxLen at hm
      try unfold maxLen at hm'
      go_enter Try.func26, Try.ntmps26
      go_wp2
      go_ret
      exact ⟨rfl, le_refl _⟩
end Go.Proofs.Ytnkjmgadnejdlaa

/- Laws for operations that are guarded and wanted. Nothing here names a program. -/
namespace Go.Fk
open Go Go.RowKit
section
variable {P : Program} {w : World} {ops : Array Oper} {rest : List Oper} {o : Oper} {a : Act} {Q : Exit → Act → World → Prop}
theorem wpList_wanted (hw : Region.wanted o (yielded ops a.tmps) = true) (h : ∀ K : Act → World → Prop, (∀ a w, wpList P ops Q rest a w → K a w) → o.wp P a w K Q) : wpList P ops Q (o :: rest) a w :=
  wpList_step fun K hK => by simp only [hw, if_true]; exact h K hK
theorem wpList_widenG {src dst : TypeId} {x : Operand} (hop : o.op = Op.convert src dst x) {b : Nat} (hx : a.eval x = .float .f32 b)
    (hs : P.underlying src = some (.float .f32)) (hd : P.underlying dst = some (.float .f64)) (hw : Region.wanted o (yielded ops a.tmps) = true)
    (hK : ∀ r n, Hid (can .f64 r = can .f64 (widen b)) → Hid (fits .f64 r) → wpList P ops Q rest (a.put o.dst (.float .f64 r)) (w.drewN n)) : wpList P ops Q (o :: rest) a w := by
  refine wpList_wanted hw fun K hK' => ?_
  obtain ⟨r, n, hrun, hr, hf⟩ := run_widen (P := P) w src dst b hs hd
  unfold Oper.wp
  simp [execOp, hop, hx, hrun, Result.andThen]
  exact hK' _ _ (hK r n hr hf)
end
end Go.Fk

/- Loads that may be guarded (and wanted), the cells being told as facts. Nothing here names a program. -/
namespace Go.Fk
open Go Go.RowKit
section
variable {P : Program} {w : World} {ops : Array Oper} {rest : List Oper} {o : Oper} {a : Act} {Q : Exit → Act → World → Prop}
theorem wpList_load1C {ty : TypeId} {x : Operand} (hop : o.op = .load ty x) {g f : Nat} (hx : a.eval x = .pointer (some ⟨g, f, none⟩)) {v : Value} (hw : Region.wanted o (yielded ops a.tmps) = true) {t : TypeId} {cs : Array Value} (hr : Row w g t cs) (hv : cs[f]? = some v) (hu : ∀ w, (isAgg ty).run P w = .ok false w)
    (h : wpList P ops Q rest (a.put o.dst v) w) : wpList P ops Q (o :: rest) a w := by
  refine wpList_wanted hw fun K hK' => ?_
  unfold Oper.wp execOp
  have hc : w.cell? ⟨g, f, none⟩ = some v := by rw [hr.cell?, hv]
  have hl : (Instr.loadAt ty (.pointer (some ⟨g, f, none⟩))).run P w = .ok v w := by
    simp [Instr.loadAt, Instr.sureAddr, loadVar, hu, hc]
  simp [hop, hx, hl, Result.andThen]
  exact hK' _ _ h
theorem wpList_loadWC {ty : TypeId} {x : Operand} (hop : o.op = .load ty x) {p : Addr} (hx : a.eval x = .pointer (some p)) (vs : List Value) (hw : Region.wanted o (yielded ops a.tmps) = true) (hc : ∀ j v, vs[j]? = some v → w.cell? (p.add j) = some v) {d : TypeDesc} (hu : P.underlying ty = some d) (hd : d.isRow = true) {sz : Nat} (hs : (P.info? ty).map (·.size) = some sz) (hl : vs.length = sz)
    (h : wpList P ops Q rest (a.put o.dst (.agg vs.toArray)) w) : wpList P ops Q (o :: rest) a w := by
  refine wpList_wanted hw fun K hK' => ?_
  unfold Oper.wp execOp
  have hl' : (loadCells p vs.length).run P w = .ok vs.toArray w := run_loadCells_list (P := P) w p vs hc
  cases hq : P.info? ty with
  | none => simp [hq] at hs
  | some inf =>
    have hz : inf.size = vs.length := by simp [hq] at hs; omega
    have hagg : (isAgg ty).run P w = .ok true w := by
      unfold isAgg
      rw [Sem.run_bind, run_underlying hu w]
      cases d <;> simp_all
    have hL : (Instr.loadAt ty (.pointer (some p))).run P w = .ok (.agg vs.toArray) w := by
      simp [Instr.loadAt, Instr.sureAddr, loadVar, hagg, sizeOf, typeInfo, hq, hz, Sem.run_bind, hl']
    simp [hop, hx, hL, Result.andThen]
    exact hK' _ _ h
end
end Go.Fk
namespace Go.Fk
open Go Go.RowKit
/-- One call has one end: two contracts tell the same bool. -/
theorem agree_b {P : Program} {f : FuncId} {args : Array Value} {w : World} {c d : Bool} {R R' : World → Prop} (h : Calls P f args w fun e w' => e = .returned (.bool c) ∧ R w') (h' : Calls P f args w fun e w' => e = .returned (.bool d) ∧ R' w') (hi : P.inits.idxOf? f = none) : c = d := by
  have g := (h.mono (R' := fun e w' => match e, w' with | .returned v, _ => v = .bool c | _, _ => False) (fun e w' ⟨h1, _⟩ => by subst h1; rfl)).done (R := fun v _ => v = .bool c) hi
  have g' := (h'.mono (R' := fun e w' => match e, w' with | .returned v, _ => v = .bool d | _, _ => False) (fun e w' ⟨h1, _⟩ => by subst h1; rfl)).done (R := fun v _ => v = .bool d) hi
  obtain ⟨n, v, w1, e1, rfl⟩ := g
  obtain ⟨m, v', w2, e2, rfl⟩ := g'
  have a := runN_ended e1 m
  have b := runN_ended e2 n
  rw [Nat.add_comm, a] at b
  injection b with ho hw
  injection ho with hv
  injection hv
end Go.Fk

/- The kinds of filters as the program has them: 'modelOf', 'sizesOf'; 'ValidFilter' of both. -/
namespace Go.Proofs.Ytnkjmgadnejdlaa
open Go.RowKit Go.Fk
/-- The value of a kind. -/
def mdl (k : Int) (a b c : Nat) : Value :=
  if k = 1 then .iface 122 (.agg #[.float .f32 a, .float .f32 b, .float .f32 c])
  else if k = 2 then .iface 123 (.agg #[.float .f32 a, .float .f32 b, .float .f32 c])
  else if k = 3 then .iface 124 (.agg #[.float .f32 a, .float .f32 b, .float .f32 c])
  else if k = 4 then .iface 125 (.agg #[.float .f32 a, .float .f32 b, .float .f32 c])
  else if k = 5 then .iface 126 (.agg #[.float .f32 a, .float .f32 b, .float .f32 c])
  else .nilIface
set_option maxRecDepth 100000 in
@[go_sem] theorem ta11 (v : Value) (w : World) : (Instr.typeAssert (.iface 122 v) 110 122 true).run Try.prog w = .ok (.tuple #[v, .bool true]) w := by rfl
set_option maxRecDepth 100000 in
@[go_sem] theorem ta12 (v : Value) (w : World) : (Instr.typeAssert (.iface 122 v) 110 123 true).run Try.prog w = .ok (.tuple #[.agg #[.float .f32 0, .float .f32 0, .float .f32 0], .bool false]) w := by rfl
set_option maxRecDepth 100000 in
@[go_sem] theorem ta13 (v : Value) (w : World) : (Instr.typeAssert (.iface 122 v) 110 124 true).run Try.prog w = .ok (.tuple #[.agg #[.float .f32 0, .float .f32 0, .float .f32 0], .bool false]) w := by rfl
set_option maxRecDepth 100000 in
@[go_sem] theorem ta15 (v : Value) (w : World) : (Instr.typeAssert (.iface 122 v) 110 126 true).run Try.prog w = .ok (.tuple #[.agg #[.float .f32 0, .float .f32 0, .float .f32 0], .bool false]) w := by rfl
set_option maxRecDepth 100000 in
@[go_sem] theorem ta21 (v : Value) (w : World) : (Instr.typeAssert (.iface 123 v) 110 122 true).run Try.prog w = .ok (.tuple #[.agg #[.float .f32 0, .float .f32 0, .float .f32 0], .bool false]) w := by rfl
set_option maxRecDepth 100000 in
@[go_sem] theorem ta22 (v : Value) (w : World) : (Instr.typeAssert (.iface 123 v) 110 123 true).run Try.prog w = .ok (.tuple #[v, .bool true]) w := by rfl
set_option maxRecDepth 100000 in
@[go_sem] theorem ta23 (v : Value) (w : World) : (Instr.typeAssert (.iface 123 v) 110 124 true).run Try.prog w = .ok (.tuple #[.agg #[.float .f32 0, .float .f32 0, .float .f32 0], .bool false]) w := by rfl
set_option maxRecDepth 100000 in
@[go_sem] theorem ta25 (v : Value) (w : World) : (Instr.typeAssert (.iface 123 v) 110 126 true).run Try.prog w = .ok (.tuple #[.agg #[.float .f32 0, .float .f32 0, .float .f32 0], .bool false]) w := by rfl
set_option maxRecDepth 100000 in
@[go_sem] theorem ta31 (v : Value) (w : World) : (Instr.typeAssert (.iface 124 v) 110 122 true).run Try.prog w = .ok (.tuple #[.agg #[.float .f32 0, .float .f32 0, .float .f32 0], .bool false]) w := by rfl
set_option maxRecDepth 100000 in
@[go_sem] theorem ta32 (v : Value) (w : World) : (Instr.typeAssert (.iface 124 v) 110 123 true).run Try.prog w = .ok (.tuple #[.agg #[.float .f32 0, .float .f32 0, .float .f32 0], .bool false]) w := by rfl
set_option maxRecDepth 100000 in
@[go_sem] theorem ta33 (v : Value) (w : World) : (Instr.typeAssert (.iface 124 v) 110 124 true).run Try.prog w = .ok (.tuple #[v, .bool true]) w := by rfl
set_option maxRecDepth 100000 in
@[go_sem] theorem ta35 (v : Value) (w : World) : (Instr.typeAssert (.iface 124 v) 110 126 true).run Try.prog w = .ok (.tuple #[.agg #[.float .f32 0, .float .f32 0, .float .f32 0], .bool false]) w := by rfl
set_option maxRecDepth 100000 in
@[go_sem] theorem ta41 (v : Value) (w : World) : (Instr.typeAssert (.iface 125 v) 110 122 true).run Try.prog w = .ok (.tuple #[.agg #[.float .f32 0, .float .f32 0, .float .f32 0], .bool false]) w := by rfl
set_option maxRecDepth 100000 in
@[go_sem] theorem ta42 (v : Value) (w : World) : (Instr.typeAssert (.iface 125 v) 110 123 true).run Try.prog w = .ok (.tuple #[.agg #[.float .f32 0, .float .f32 0, .float .f32 0], .bool false]) w := by rfl
set_option maxRecDepth 100000 in
@[go_sem] theorem ta43 (v : Value) (w : World) : (Instr.typeAssert (.iface 125 v) 110 124 true).run Try.prog w = .ok (.tuple #[.agg #[.float .f32 0, .float .f32 0, .float .f32 0], .bool false]) w := by rfl
set_option maxRecDepth 100000 in
@[go_sem] theorem ta45 (v : Value) (w : World) : (Instr.typeAssert (.iface 125 v) 110 126 true).run Try.prog w = .ok (.tuple #[.agg #[.float .f32 0, .float .f32 0, .float .f32 0], .bool false]) w := by rfl
set_option maxRecDepth 100000 in
@[go_sem] theorem ta51 (v : Value) (w : World) : (Instr.typeAssert (.iface 126 v) 110 122 true).run Try.prog w = .ok (.tuple #[.agg #[.float .f32 0, .float .f32 0, .float .f32 0], .bool false]) w := by rfl
set_option maxRecDepth 100000 in
@[go_sem] theorem ta52 (v : Value) (w : World) : (Instr.typeAssert (.iface 126 v) 110 123 true).run Try.prog w = .ok (.tuple #[.agg #[.float .f32 0, .float .f32 0, .float .f32 0], .bool false]) w := by rfl
set_option maxRecDepth 100000 in
@[go_sem] theorem ta53 (v : Value) (w : World) : (Instr.typeAssert (.iface 126 v) 110 124 true).run Try.prog w = .ok (.tuple #[.agg #[.float .f32 0, .float .f32 0, .float .f32 0], .bool false]) w := by rfl
set_option maxRecDepth 100000 in
@[go_sem] theorem ta55 (v : Value) (w : World) : (Instr.typeAssert (.iface 126 v) 110 126 true).run Try.prog w = .ok (.tuple #[v, .bool true]) w := by rfl
set_option maxRecDepth 100000 in
theorem mdl1 (a b c : Nat) : mdl 1 a b c = .iface 122 (.agg #[.float .f32 a, .float .f32 b, .float .f32 c]) := by simp [mdl]
theorem i_modelOf1 (a b c x y : Nat) (w : World) : Calls Try.prog 85 #[(.agg #[.int .i64 1, .float .f32 a, .float .f32 b, .float .f32 c, .float .f32 x, .float .f32 y])] w fun e w' => e = .returned (.iface 122 (.agg #[.float .f32 a, .float .f32 b, .float .f32 c])) ∧ Below w.heap.size w w' := by
  go_enter Try.func85, Try.ntmps85
  go_wp2
  go_ret
  exact ⟨rfl, by repeat' (first | (with_reducible exact Below.refl _ _) | (with_reducible assumption) | (with_reducible refine below_drewN ?_ _) | (with_reducible refine Below.alloc ?_ ?_ _) | (with_reducible refine Below.drew ?_) | (with_reducible refine Below.setCell ?_ ?_ _) | go_size)⟩
set_option maxRecDepth 100000 in
theorem i_sizesOf1 (v : Value) (w : World) : Calls Try.prog 86 #[.iface 122 v] w fun e w' => e = .returned (.tuple #[.int .i64 (cU 1), .int .i64 (sU 1)]) ∧ w = w' := by
  go_enter Try.func86, Try.ntmps86
  go_wp2
  go_ret2
  exact ⟨rfl, rfl⟩
set_option maxRecDepth 100000 in
theorem mdl2 (a b c : Nat) : mdl 2 a b c = .iface 123 (.agg #[.float .f32 a, .float .f32 b, .float .f32 c]) := by simp [mdl]
theorem i_modelOf2 (a b c x y : Nat) (w : World) : Calls Try.prog 85 #[(.agg #[.int .i64 2, .float .f32 a, .float .f32 b, .float .f32 c, .float .f32 x, .float .f32 y])] w fun e w' => e = .returned (.iface 123 (.agg #[.float .f32 a, .float .f32 b, .float .f32 c])) ∧ Below w.heap.size w w' := by
  go_enter Try.func85, Try.ntmps85
  go_wp2
  go_ret
  exact ⟨rfl, by repeat' (first | (with_reducible exact Below.refl _ _) | (with_reducible assumption) | (with_reducible refine below_drewN ?_ _) | (with_reducible refine Below.alloc ?_ ?_ _) | (with_reducible refine Below.drew ?_) | (with_reducible refine Below.setCell ?_ ?_ _) | go_size)⟩
set_option maxRecDepth 100000 in
theorem i_sizesOf2 (v : Value) (w : World) : Calls Try.prog 86 #[.iface 123 v] w fun e w' => e = .returned (.tuple #[.int .i64 (cU 2), .int .i64 (sU 2)]) ∧ w = w' := by
  go_enter Try.func86, Try.ntmps86
  go_wp2
  go_ret2
  exact ⟨rfl, rfl⟩
set_option maxRecDepth 100000 in
theorem mdl3 (a b c : Nat) : mdl 3 a b c = .iface 124 (.agg #[.float .f32 a, .float .f32 b, .float .f32 c]) := by simp [mdl]
theorem i_modelOf3 (a b c x y : Nat) (w : World) : Calls Try.prog 85 #[(.agg #[.int .i64 3, .float .f32 a, .float .f32 b, .float .f32 c, .float .f32 x, .float .f32 y])] w fun e w' => e = .returned (.iface 124 (.agg #[.float .f32 a, .float .f32 b, .float .f32 c])) ∧ Below w.heap.size w w' := by
  go_enter Try.func85, Try.ntmps85
  go_wp2
  go_ret
  exact ⟨rfl, by repeat' (first | (with_reducible exact Below.refl _ _) | (with_reducible assumption) | (with_reducible refine below_drewN ?_ _) | (with_reducible refine Below.alloc ?_ ?_ _) | (with_reducible refine Below.drew ?_) | (with_reducible refine Below.setCell ?_ ?_ _) | go_size)⟩
set_option maxRecDepth 100000 in
theorem i_sizesOf3 (v : Value) (w : World) : Calls Try.prog 86 #[.iface 124 v] w fun e w' => e = .returned (.tuple #[.int .i64 (cU 3), .int .i64 (sU 3)]) ∧ w = w' := by
  go_enter Try.func86, Try.ntmps86
  go_wp2
  go_ret2
  exact ⟨rfl, rfl⟩
set_option maxRecDepth 100000 in
theorem mdl4 (a b c : Nat) : mdl 4 a b c = .iface 125 (.agg #[.float .f32 a, .float .f32 b, .float .f32 c]) := by simp [mdl]
theorem i_modelOf4 (a b c x y : Nat) (w : World) : Calls Try.prog 85 #[(.agg #[.int .i64 4, .float .f32 a, .float .f32 b, .float .f32 c, .float .f32 x, .float .f32 y])] w fun e w' => e = .returned (.iface 125 (.agg #[.float .f32 a, .float .f32 b, .float .f32 c])) ∧ Below w.heap.size w w' := by
  go_enter Try.func85, Try.ntmps85
  go_wp2
  go_ret
  exact ⟨rfl, by repeat' (first | (with_reducible exact Below.refl _ _) | (with_reducible assumption) | (with_reducible refine below_drewN ?_ _) | (with_reducible refine Below.alloc ?_ ?_ _) | (with_reducible refine Below.drew ?_) | (with_reducible refine Below.setCell ?_ ?_ _) | go_size)⟩
set_option maxRecDepth 100000 in
theorem i_sizesOf4 (v : Value) (w : World) : Calls Try.prog 86 #[.iface 125 v] w fun e w' => e = .returned (.tuple #[.int .i64 (cU 4), .int .i64 (sU 4)]) ∧ w = w' := by
  go_enter Try.func86, Try.ntmps86
  go_wp2
  go_ret2
  exact ⟨rfl, rfl⟩
set_option maxRecDepth 100000 in
theorem mdl5 (a b c : Nat) : mdl 5 a b c = .iface 126 (.agg #[.float .f32 a, .float .f32 b, .float .f32 c]) := by simp [mdl]
theorem i_modelOf5 (a b c x y : Nat) (w : World) : Calls Try.prog 85 #[(.agg #[.int .i64 5, .float .f32 a, .float .f32 b, .float .f32 c, .float .f32 x, .float .f32 y])] w fun e w' => e = .returned (.iface 126 (.agg #[.float .f32 a, .float .f32 b, .float .f32 c])) ∧ Below w.heap.size w w' := by
  go_enter Try.func85, Try.ntmps85
  go_wp2
  go_ret
  exact ⟨rfl, by repeat' (first | (with_reducible exact Below.refl _ _) | (with_reducible assumption) | (with_reducible refine below_drewN ?_ _) | (with_reducible refine Below.alloc ?_ ?_ _) | (with_reducible refine Below.drew ?_) | (with_reducible refine Below.setCell ?_ ?_ _) | go_size)⟩
set_option maxRecDepth 100000 in
theorem i_sizesOf5 (v : Value) (w : World) : Calls Try.prog 86 #[.iface 126 v] w fun e w' => e = .returned (.tuple #[.int .i64 (cU 5), .int .i64 (sU 5)]) ∧ w = w' := by
  go_enter Try.func86, Try.ntmps86
  go_wp2
  go_ret2
  exact ⟨rfl, rfl⟩
set_option maxRecDepth 100000 in
theorem mdl_no {k : Int} (h : ¬ (1 ≤ k ∧ k ≤ 5)) (a b c : Nat) : mdl k a b c = .nilIface := by
  unfold mdl
  rw [if_neg (by omega), if_neg (by omega), if_neg (by omega), if_neg (by omega), if_neg (by omega)]
set_option maxRecDepth 100000 in
theorem i_modelOf_no (k : Int) (a b c x y : Nat) (w : World) (h : ¬ (1 ≤ k ∧ k ≤ 5)) : Calls Try.prog 85 #[(.agg #[.int .i64 k, .float .f32 a, .float .f32 b, .float .f32 c, .float .f32 x, .float .f32 y])] w fun e w' => e = .returned .nilIface ∧ Below w.heap.size w w' := by
  have h1 : ((k : Int) == 1) = false := by simp only [beq_eq_false_iff_ne]; omega
  have h2 : ((k : Int) == 2) = false := by simp only [beq_eq_false_iff_ne]; omega
  have h3 : ((k : Int) == 3) = false := by simp only [beq_eq_false_iff_ne]; omega
  have h4 : ((k : Int) == 4) = false := by simp only [beq_eq_false_iff_ne]; omega
  have h5 : ((k : Int) == 5) = false := by simp only [beq_eq_false_iff_ne]; omega
  clear h
  go_enter Try.func85, Try.ntmps85
  go_wp2
  go_ret
  exact ⟨rfl, by repeat' (first | (with_reducible exact Below.refl _ _) | (with_reducible assumption) | (with_reducible refine below_drewN ?_ _) | (with_reducible refine Below.alloc ?_ ?_ _) | (with_reducible refine Below.drew ?_) | (with_reducible refine Below.setCell ?_ ?_ _) | go_size)⟩
set_option maxRecDepth 100000 in
theorem i_modelOf (k : Int) (a b c x y : Nat) (w : World) : Calls Try.prog 85 #[(.agg #[.int .i64 k, .float .f32 a, .float .f32 b, .float .f32 c, .float .f32 x, .float .f32 y])] w fun e w' => e = .returned (mdl k a b c) ∧ Below w.heap.size w w' := by
  by_cases h : 1 ≤ k ∧ k ≤ 5
  · rcases (show k = 1 ∨ k = 2 ∨ k = 3 ∨ k = 4 ∨ k = 5 by omega) with rfl | rfl | rfl | rfl | rfl
    · rw [mdl1]; exact i_modelOf1 a b c x y w
    · rw [mdl2]; exact i_modelOf2 a b c x y w
    · rw [mdl3]; exact i_modelOf3 a b c x y w
    · rw [mdl4]; exact i_modelOf4 a b c x y w
    · rw [mdl5]; exact i_modelOf5 a b c x y w
  · rw [mdl_no h]; exact i_modelOf_no k a b c x y w h
set_option maxRecDepth 100000 in
theorem i_ValidFilter_no (k : Int) (a b c x y : Nat) (w : World) (h : ¬ (1 ≤ k ∧ k ≤ 5)) : Calls Try.prog 68 #[(.agg #[.int .i64 k, .float .f32 a, .float .f32 b, .float .f32 c, .float .f32 x, .float .f32 y])] w fun e w' => e = .returned (.bool false) ∧ Below w.heap.size w w' := by
  go_enter Try.func68, Try.ntmps68
  go_wp2_with (first | (go_at_call 85; refine (i_modelOf_no _ _ _ _ _ _ _ h).mono ?_; rintro e w' ⟨rfl, hb⟩))
  go_ret
  exact ⟨rfl, le_trans (le_alloc w _) hb⟩
set_option maxRecDepth 100000 in
set_option maxHeartbeats 1000000 in
theorem i_ValidFilter1 (a b c x y : Nat) (w : World) (fa : fits .f32 a) (fb : fits .f32 b) (fc : fits .f32 c) (fx : fits .f32 x) (fy : fits .f32 y) : Calls Try.prog 68 #[(.agg #[.int .i64 1, .float .f32 a, .float .f32 b, .float .f32 c, .float .f32 x, .float .f32 y])] w fun e w' => e = .returned (.bool (usedB (tri a b c) 3 (cU 1) && usedB (duo x y) 2 (sU 1))) ∧ Below w.heap.size w w' := by
  have F3 := hid (fits_tri fa fb fc)
  have F2 := hid (fits_duo fx fy)
  clear fa fb fc fx fy
  have F := (Frm.nil w).box 34 (#[.int .i64 1, .float .f32 a, .float .f32 b, .float .f32 c, .float .f32 x, .float .f32 y] : Array Value)
  cases h1 : usedB (tri a b c) 3 (cU 1) <;> cases h2 : usedB (duo x y) 2 (sU 1)
  all_goals
    have H1 := hid h1
    have H2 := hid h2
    clear h1 h2
    go_enter Try.func68, Try.ntmps68
    go_wp2_with (first | (go_at_call 85; refine (i_modelOf1 _ _ _ _ _ _).mono ?_; rintro e w' ⟨rfl, hb⟩; replace F := F.le hb; have R := hid (F.row List.mem_cons_self)) | (go_at_call 86; refine (i_sizesOf1 _ _).mono ?_; rintro e w' ⟨rfl, rfl⟩) | (go_at_call 87; (with_reducible refine (i_areUsed (tri a b c) _ 1 3 (cU 1) _ (by omega) (cU_le _) F3.out (fun i hi => R.out.tri i hi)).mono ?_); rw [H1.out]; rintro e w' ⟨rfl, rfl⟩) | (go_at_call 87; (with_reducible refine (i_areUsed (duo x y) _ 4 2 (sU 1) _ (by omega) (sU_le _) F2.out (fun i hi => R.out.duo i hi)).mono ?_); rw [H2.out]; rintro e w' ⟨rfl, rfl⟩))
    go_ret
    exact ⟨rfl, F.below⟩
set_option maxRecDepth 100000 in
set_option maxHeartbeats 1000000 in
theorem i_ValidFilter2 (a b c x y : Nat) (w : World) (fa : fits .f32 a) (fb : fits .f32 b) (fc : fits .f32 c) (fx : fits .f32 x) (fy : fits .f32 y) : Calls Try.prog 68 #[(.agg #[.int .i64 2, .float .f32 a, .float .f32 b, .float .f32 c, .float .f32 x, .float .f32 y])] w fun e w' => e = .returned (.bool (usedB (tri a b c) 3 (cU 2) && usedB (duo x y) 2 (sU 2))) ∧ Below w.heap.size w w' := by
  have F3 := hid (fits_tri fa fb fc)
  have F2 := hid (fits_duo fx fy)
  clear fa fb fc fx fy
  have F := (Frm.nil w).box 34 (#[.int .i64 2, .float .f32 a, .float .f32 b, .float .f32 c, .float .f32 x, .float .f32 y] : Array Value)
  cases h1 : usedB (tri a b c) 3 (cU 2) <;> cases h2 : usedB (duo x y) 2 (sU 2)
  all_goals
    have H1 := hid h1
    have H2 := hid h2
    clear h1 h2
    go_enter Try.func68, Try.ntmps68
    go_wp2_with (first | (go_at_call 85; refine (i_modelOf2 _ _ _ _ _ _).mono ?_; rintro e w' ⟨rfl, hb⟩; replace F := F.le hb; have R := hid (F.row List.mem_cons_self)) | (go_at_call 86; refine (i_sizesOf2 _ _).mono ?_; rintro e w' ⟨rfl, rfl⟩) | (go_at_call 87; (with_reducible refine (i_areUsed (tri a b c) _ 1 3 (cU 2) _ (by omega) (cU_le _) F3.out (fun i hi => R.out.tri i hi)).mono ?_); rw [H1.out]; rintro e w' ⟨rfl, rfl⟩) | (go_at_call 87; (with_reducible refine (i_areUsed (duo x y) _ 4 2 (sU 2) _ (by omega) (sU_le _) F2.out (fun i hi => R.out.duo i hi)).mono ?_); rw [H2.out]; rintro e w' ⟨rfl, rfl⟩))
    go_ret
    exact ⟨rfl, F.below⟩
set_option maxRecDepth 100000 in
set_option maxHeartbeats 1000000 in
theorem i_ValidFilter3 (a b c x y : Nat) (w : World) (fa : fits .f32 a) (fb : fits .f32 b) (fc : fits .f32 c) (fx : fits .f32 x) (fy : fits .f32 y) : Calls Try.prog 68 #[(.agg #[.int .i64 3, .float .f32 a, .float .f32 b, .float .f32 c, .float .f32 x, .float .f32 y])] w fun e w' => e = .returned (.bool (usedB (tri a b c) 3 (cU 3) && usedB (duo x y) 2 (sU 3))) ∧ Below w.heap.size w w' := by
  have F3 := hid (fits_tri fa fb fc)
  have F2 := hid (fits_duo fx fy)
  clear fa fb fc fx fy
  have F := (Frm.nil w).box 34 (#[.int .i64 3, .float .f32 a, .float .f32 b, .float .f32 c, .float .f32 x, .float .f32 y] : Array Value)
  cases h1 : usedB (tri a b c) 3 (cU 3) <;> cases h2 : usedB (duo x y) 2 (sU 3)
  all_goals
    have H1 := hid h1
    have H2 := hid h2
    clear h1 h2
    go_enter Try.func68, Try.ntmps68
    go_wp2_with (first | (go_at_call 85; refine (i_modelOf3 _ _ _ _ _ _).mono ?_; rintro e w' ⟨rfl, hb⟩; replace F := F.le hb; have R := hid (F.row List.mem_cons_self)) | (go_at_call 86; refine (i_sizesOf3 _ _).mono ?_; rintro e w' ⟨rfl, rfl⟩) | (go_at_call 87; (with_reducible refine (i_areUsed (tri a b c) _ 1 3 (cU 3) _ (by omega) (cU_le _) F3.out (fun i hi => R.out.tri i hi)).mono ?_); rw [H1.out]; rintro e w' ⟨rfl, rfl⟩) | (go_at_call 87; (with_reducible refine (i_areUsed (duo x y) _ 4 2 (sU 3) _ (by omega) (sU_le _) F2.out (fun i hi => R.out.duo i hi)).mono ?_); rw [H2.out]; rintro e w' ⟨rfl, rfl⟩))
    go_ret
    exact ⟨rfl, F.below⟩
set_option maxRecDepth 100000 in
set_option maxHeartbeats 1000000 in
theorem i_ValidFilter4 (a b c x y : Nat) (w : World) (fa : fits .f32 a) (fb : fits .f32 b) (fc : fits .f32 c) (fx : fits .f32 x) (fy : fits .f32 y) : Calls Try.prog 68 #[(.agg #[.int .i64 4, .float .f32 a, .float .f32 b, .float .f32 c, .float .f32 x, .float .f32 y])] w fun e w' => e = .returned (.bool (usedB (tri a b c) 3 (cU 4) && usedB (duo x y) 2 (sU 4))) ∧ Below w.heap.size w w' := by
  have F3 := hid (fits_tri fa fb fc)
  have F2 := hid (fits_duo fx fy)
  clear fa fb fc fx fy
  have F := (Frm.nil w).box 34 (#[.int .i64 4, .float .f32 a, .float .f32 b, .float .f32 c, .float .f32 x, .float .f32 y] : Array Value)
  cases h1 : usedB (tri a b c) 3 (cU 4) <;> cases h2 : usedB (duo x y) 2 (sU 4)
  all_goals
    have H1 := hid h1
    have H2 := hid h2
    clear h1 h2
    go_enter Try.func68, Try.ntmps68
    go_wp2_with (first | (go_at_call 85; refine (i_modelOf4 _ _ _ _ _ _).mono ?_; rintro e w' ⟨rfl, hb⟩; replace F := F.le hb; have R := hid (F.row List.mem_cons_self)) | (go_at_call 86; refine (i_sizesOf4 _ _).mono ?_; rintro e w' ⟨rfl, rfl⟩) | (go_at_call 87; (with_reducible refine (i_areUsed (tri a b c) _ 1 3 (cU 4) _ (by omega) (cU_le _) F3.out (fun i hi => R.out.tri i hi)).mono ?_); rw [H1.out]; rintro e w' ⟨rfl, rfl⟩) | (go_at_call 87; (with_reducible refine (i_areUsed (duo x y) _ 4 2 (sU 4) _ (by omega) (sU_le _) F2.out (fun i hi => R.out.duo i hi)).mono ?_); rw [H2.out]; rintro e w' ⟨rfl, rfl⟩))
    go_ret
    exact ⟨rfl, F.below⟩
set_option maxRecDepth 100000 in
set_option maxHeartbeats 1000000 in
theorem i_ValidFilter5 (a b c x y : Nat) (w : World) (fa : fits .f32 a) (fb : fits .f32 b) (fc : fits .f32 c) (fx : fits .f32 x) (fy : fits .f32 y) : Calls Try.prog 68 #[(.agg #[.int .i64 5, .float .f32 a, .float .f32 b, .float .f32 c, .float .f32 x, .float .f32 y])] w fun e w' => e = .returned (.bool (usedB (tri a b c) 3 (cU 5) && usedB (duo x y) 2 (sU 5))) ∧ Below w.heap.size w w' := by
  have F3 := hid (fits_tri fa fb fc)
  have F2 := hid (fits_duo fx fy)
  clear fa fb fc fx fy
  have F := (Frm.nil w).box 34 (#[.int .i64 5, .float .f32 a, .float .f32 b, .float .f32 c, .float .f32 x, .float .f32 y] : Array Value)
  cases h1 : usedB (tri a b c) 3 (cU 5) <;> cases h2 : usedB (duo x y) 2 (sU 5)
  all_goals
    have H1 := hid h1
    have H2 := hid h2
    clear h1 h2
    go_enter Try.func68, Try.ntmps68
    go_wp2_with (first | (go_at_call 85; refine (i_modelOf5 _ _ _ _ _ _).mono ?_; rintro e w' ⟨rfl, hb⟩; replace F := F.le hb; have R := hid (F.row List.mem_cons_self)) | (go_at_call 86; refine (i_sizesOf5 _ _).mono ?_; rintro e w' ⟨rfl, rfl⟩) | (go_at_call 87; (with_reducible refine (i_areUsed (tri a b c) _ 1 3 (cU 5) _ (by omega) (cU_le _) F3.out (fun i hi => R.out.tri i hi)).mono ?_); rw [H1.out]; rintro e w' ⟨rfl, rfl⟩) | (go_at_call 87; (with_reducible refine (i_areUsed (duo x y) _ 4 2 (sU 5) _ (by omega) (sU_le _) F2.out (fun i hi => R.out.duo i hi)).mono ?_); rw [H2.out]; rintro e w' ⟨rfl, rfl⟩))
    go_ret
    exact ⟨rfl, F.below⟩
set_option maxRecDepth 100000 in
theorem i_ValidFilter (k : Int) (a b c x y : Nat) (w : World) (hf : fits .f32 a ∧ fits .f32 b ∧ fits .f32 c ∧ fits .f32 x ∧ fits .f32 y) : Calls Try.prog 68 #[(.agg #[.int .i64 k, .float .f32 a, .float .f32 b, .float .f32 c, .float .f32 x, .float .f32 y])] w fun e w' => e = .returned (.bool (okF k a b c x y)) ∧ Below w.heap.size w w' := by
  obtain ⟨fa, fb, fc, fx, fy⟩ := hf
  by_cases h : 1 ≤ k ∧ k ≤ 5
  · have E : okF k a b c x y = (usedB (tri a b c) 3 (cU k) && usedB (duo x y) 2 (sU k)) := by simp [okF, h.1, h.2]
    rw [E]
    rcases (show k = 1 ∨ k = 2 ∨ k = 3 ∨ k = 4 ∨ k = 5 by omega) with rfl | rfl | rfl | rfl | rfl
    · exact i_ValidFilter1 a b c x y w fa fb fc fx fy
    · exact i_ValidFilter2 a b c x y w fa fb fc fx fy
    · exact i_ValidFilter3 a b c x y w fa fb fc fx fy
    · exact i_ValidFilter4 a b c x y w fa fb fc fx fy
    · exact i_ValidFilter5 a b c x y w fa fb fc fx fy
  · rw [okF_out h]; exact i_ValidFilter_no k a b c x y w h
end Go.Proofs.Ytnkjmgadnejdlaa
