/- Texts of the walk, laid in one file. -/
import Derived.Test.YtjcbolllohmjjaaRows
import Derived.Handy
import Derived.BigRegion
import Derived.BigQuiet
import Derived.RegionTactic
import Derived.Test.YtjcbolllohmjjaaMc
set_option linter.unusedVariables false
set_option linter.unusedSimpArgs false
/- 'SameFilter' of both. -/
namespace Go.Fk
open Go Go.RowKit
/-- Are two rows the same? -/
def eqRow (f f' : Nat → Nat) (n : Nat) : Bool := (List.range n).all (fun j => sameB (f j) (f' j))
theorem eqRow_no {f f' : Nat → Nat} {n j : Nat} (hj : j < n) (h : sameB (f j) (f' j) = false) : eqRow f f' n = false := by
  rw [Bool.eq_false_iff]
  intro hh
  have := List.all_eq_true.1 hh j (List.mem_range.2 hj)
  rw [h] at this; cases this
theorem eqRow_yes {f f' : Nat → Nat} {n : Nat} (h : ∀ j, j < n → sameB (f j) (f' j) = true) : eqRow f f' n = true := List.all_eq_true.2 (fun j hj => h j (List.mem_range.1 hj))
theorem all_step {p : Nat → Prop} {k : Nat} (h : ∀ j, j < k → p j) (hk : p k) : ∀ j, j < k + 1 → p j := fun j hj => by
  by_cases e : j = k
  · rw [e]; exact hk
  · exact h j (by omega)
section
variable {P : Program} {ops : Array Oper} {w : World} {K : FuncId → Array Value → Value → Prop} {Q : Act → Prop} {o : Oper} {rest : List Oper} {a : Act} {C : World → Prop}
theorem wpLoose_anyW (hw : Region.wanted o (yielded ops a.tmps) = true) (V : Value → Prop) (h1 : ∀ n, within P (fun w' => ∃ m, w' = w.drewN m) K V ((execOp a.eval o).run P (w.drewN n)))
    (h2 : ∀ v, V v → wpLoose P ops (fun w' => ∃ m, w' = w.drewN m) K Q rest (a.put o.dst v)) : wpLoose P ops (fun w' => ∃ m, w' = w.drewN m) K Q (o :: rest) a :=
  ⟨V, .inl ⟨hw, fun w' hw' => by obtain ⟨n, rfl⟩ := hw'; exact h1 n⟩, h2⟩
theorem wpLoose_skip (hw : Region.wanted o (yielded ops a.tmps) = false) (h : wpLoose P ops C K Q rest (a.put o.dst undef)) : wpLoose P ops C K Q (o :: rest) a :=
  ⟨(· = undef), .inr ⟨hw, rfl⟩, fun v hv => by rw [hv]; exact h⟩
theorem wpLoose_nilW (hw : Region.wanted o (yielded ops a.tmps) = true) {x : Operand} (hop : o.op = Op.nilCheck x) {ad : Addr} (hx : a.eval x = .pointer (some ad))
    (hK : wpLoose P ops (fun w' => ∃ m, w' = w.drewN m) K Q rest (a.put o.dst (.pointer (some ad)))) : wpLoose P ops (fun w' => ∃ m, w' = w.drewN m) K Q (o :: rest) a := by
  refine wpLoose_anyW hw (· = .pointer (some ad)) (fun n => ?_) (by rintro v rfl; exact hK)
  simp [execOp, hop, hx, within, Result.andThen]
  exact ⟨_, rfl⟩
end
end Go.Fk
namespace Go.Proofs.Ytjcbolllohmjjaa
open Go.RowKit Go.Fk
set_option maxHeartbeats 1000000 in
theorem i_EqualFunc (f f' : Nat → Nat) (g o g' o' n : Nat) (w : World) (hn : n < 100) (hc : ∀ i, i < n → w.cell? ⟨g, o + i, none⟩ = some (.float .f32 (f i))) (hc' : ∀ i, i < n → w.cell? ⟨g', o' + i, none⟩ = some (.float .f32 (f' i))) :
    Calls Try.prog 73 #[.slice (some ⟨g, o, none⟩) n n, .slice (some ⟨g', o', none⟩) n n, .func (.func 74) #[] #[]] w fun e w' => e = .returned (.bool (eqRow f f' n)) ∧ w = w' := by
  have Hc := hid hc; have Hc' := hid hc'; clear hc hc'
  go_enter Try.func73, Try.ntmps73
  go_wp2
  go_loop [17] (fun i => ∃ k : Nat, k ≤ n ∧ i = .int .i64 k ∧ Hid (∀ i, i < k → sameB (f i) (f' i) = true)) (fun i => n - (intOf i).toNat)
  case atStart => exact ⟨0, by omega, rfl, fun i hi => absurd hi (by omega)⟩
  case round =>
    obtain ⟨k, hk, rfl, HK⟩ := hrel
    by_cases hlt : k < n
    · have ck := Hc.out k hlt
      have ck' := Hc'.out k hlt
      cases hb : sameB (f k) (f' k)
      · go_wp2_with (go_at_call 74; refine (i_SameSample _ _ _).mono ?_; rintro e w' ⟨rfl, rfl⟩)
        go_ret
        exact ⟨ret_b (eqRow_no hlt hb).symm, rfl⟩
      · go_wp2_with (go_at_call 74; refine (i_SameSample _ _ _).mono ?_; rintro e w' ⟨rfl, rfl⟩)
        go_round
        case rel => exact ⟨k + 1, by omega, by go_num, all_step (p := fun j => sameB (f j) (f' j) = true) HK.out hb⟩
        case measure => simp [intOf]; omega
    · obtain rfl : k = n := by omega
      go_wp2
      go_ret
      exact ⟨ret_b (eqRow_yes HK.out).symm, rfl⟩
/-- Of both calls. -/
def twoK (g : Nat) (eC eS : Bool) (_ : FuncId) (args : Array Value) (v : Value) : Prop := ∃ o n, args[0]? = some (.slice (some ⟨g, o, none⟩) n n) ∧ v = .bool (if o = 1 then eC else eS)
theorem twoK_c {g n : Nat} {eC eS : Bool} {f : FuncId} {b c v : Value} (h : twoK g eC eS f #[.slice (some ⟨g, 1, none⟩) n n, b, c] v) : v = .bool eC := by
  obtain ⟨o, m, h, rfl⟩ := h
  simp at h
  obtain ⟨rfl, _⟩ := h
  rfl
theorem twoK_s {g n : Nat} {eC eS : Bool} {f : FuncId} {b c v : Value} (h : twoK g eC eS f #[.slice (some ⟨g, 4, none⟩) n n, b, c] v) : v = .bool eS := by
  obtain ⟨o, m, h, rfl⟩ := h
  simp at h
  obtain ⟨rfl, _⟩ := h
  rfl
set_option maxRecDepth 100000 in
set_option maxHeartbeats 1000000 in
theorem i_SameFilter (k : Int) (a b c x y : Nat) (k' : Int) (a' b' c' x' y' : Nat) (w : World) :
    Calls Try.prog 75 #[(.agg #[.int .i64 k, .float .f32 a, .float .f32 b, .float .f32 c, .float .f32 x, .float .f32 y]), (.agg #[.int .i64 k', .float .f32 a', .float .f32 b', .float .f32 c', .float .f32 x', .float .f32 y'])] w fun e w' => e = .returned (.bool ((k == k') && (eqRow (tri a b c) (tri a' b' c') 3 && eqRow (duo x y) (duo x' y') 2))) ∧ le w w' := by
  have F := ((Frm.nil w).box 47 (#[.int .i64 k, .float .f32 a, .float .f32 b, .float .f32 c, .float .f32 x, .float .f32 y] : Array Value)).box 47 (#[.int .i64 k', .float .f32 a', .float .f32 b', .float .f32 c', .float .f32 x', .float .f32 y'] : Array Value)
  simp only [World.size_alloc] at F
  have R := hid (F.row (List.mem_cons_of_mem _ List.mem_cons_self))
  have R' := hid (F.row List.mem_cons_self)
  have k0 := R.out.six.1
  have k0' := R'.out.six.1
  have HL := hid F.below
  clear F
  obtain ⟨eC, hC⟩ : ∃ e, e = eqRow (tri a b c) (tri a' b' c') 3 := ⟨_, rfl⟩
  obtain ⟨eS, hS⟩ : ∃ e, e = eqRow (duo x y) (duo x' y') 2 := ⟨_, rfl⟩
  rw [← hC, ← hS]
  have HC := hid hC; have HS := hid hS
  clear hC hS
  cases hk : (k == k')
  · go_enter Try.func75, Try.ntmps75
    go_wp2_with fail
    refine wp_region_loose (twoK w.heap.size eC eS) (by kernel_rfl) (by kernel_rfl) ?_
    repeat (first | (refine wpLoose_quiet rfl ?_; go_big_quiet_step (fail); refine wpQuiet_nil ?_) | (refine wpLoose_skip (by kernel_rfl) ?_; simp only [Act.put, List.setIfInBounds_toArray, List.set_cons_succ, List.set_cons_zero]))
    refine wpLoose_nil (fun m => ?_)
    go_wp2
    go_ret
    exact ⟨rfl, le_trans HL.out (le_drewN _ _)⟩
  · cases eC
    · go_enter Try.func75, Try.ntmps75
      go_wp2_with fail
      refine wp_region_loose (twoK w.heap.size false eS) (by kernel_rfl) (by kernel_rfl) ?_
      repeat (refine wpLoose_quiet rfl ?_; go_big_quiet_step (fail); refine wpQuiet_nil ?_)
      refine wpLoose_anyW (by kernel_rfl) (· = .bool false) (fun n => ?_) ?_
      · go_simp
        refine ⟨(i_EqualFunc (tri a b c) (tri a' b' c') w.heap.size 1 (w.heap.size + 1) 1 3 _ (by omega) (fun i hi => Row.tri (R.out.drewN n) i hi) (fun i hi => Row.tri (R'.out.drewN n) i hi)).mono ?_, fun v hv => twoK_c hv⟩
        rintro e w2 ⟨rfl, rfl⟩
        exact ⟨_, rfl, ⟨1, 3, rfl, by rw [if_pos rfl, ← HC.out]⟩, n, rfl⟩
      · rintro v rfl
        simp only [Act.put, List.setIfInBounds_toArray, List.set_cons_succ, List.set_cons_zero]
        repeat (first | (refine wpLoose_quiet rfl ?_; go_big_quiet_step (fail); refine wpQuiet_nil ?_) | (refine wpLoose_skip (by kernel_rfl) ?_; simp only [Act.put, List.setIfInBounds_toArray, List.set_cons_succ, List.set_cons_zero]))
        refine wpLoose_nil (fun m => ?_)
        go_wp2
        go_ret
        exact ⟨rfl, le_trans HL.out (le_drewN _ _)⟩
    · go_enter Try.func75, Try.ntmps75
      go_wp2_with fail
      refine wp_region_loose (twoK w.heap.size true eS) (by kernel_rfl) (by kernel_rfl) ?_
      repeat (refine wpLoose_quiet rfl ?_; go_big_quiet_step (fail); refine wpQuiet_nil ?_)
      refine wpLoose_anyW (by kernel_rfl) (· = .bool true) (fun n => ?_) ?_
      · go_simp
        refine ⟨(i_EqualFunc (tri a b c) (tri a' b' c') w.heap.size 1 (w.heap.size + 1) 1 3 _ (by omega) (fun i hi => Row.tri (R.out.drewN n) i hi) (fun i hi => Row.tri (R'.out.drewN n) i hi)).mono ?_, fun v hv => twoK_c hv⟩
        rintro e w2 ⟨rfl, rfl⟩
        exact ⟨_, rfl, ⟨1, 3, rfl, by rw [if_pos rfl, ← HC.out]⟩, n, rfl⟩
      · rintro v rfl
        simp only [Act.put, List.setIfInBounds_toArray, List.set_cons_succ, List.set_cons_zero]
        repeat (refine wpLoose_quiet rfl ?_; go_big_quiet_step (fail); refine wpQuiet_nil ?_)
        refine wpLoose_anyW (by kernel_rfl) (· = .bool eS) (fun n => ?_) ?_
        · go_simp
          refine ⟨(i_EqualFunc (duo x y) (duo x' y') w.heap.size 4 (w.heap.size + 1) 4 2 _ (by omega) (fun i hi => Row.duo (R.out.drewN n) i hi) (fun i hi => Row.duo (R'.out.drewN n) i hi)).mono ?_, fun v hv => twoK_s hv⟩
          rintro e w2 ⟨rfl, rfl⟩
          exact ⟨_, rfl, ⟨4, 2, rfl, by rw [if_neg (by omega), ← HS.out]⟩, n, rfl⟩
        · rintro v rfl
          simp only [Act.put, List.setIfInBounds_toArray, List.set_cons_succ, List.set_cons_zero]
          repeat (refine wpLoose_quiet rfl ?_; go_big_quiet_step (fail); refine wpQuiet_nil ?_)
          refine wpLoose_nil (fun m => ?_)
          go_wp2
          go_ret
          exact ⟨rfl, le_trans HL.out (le_drewN _ _)⟩
theorem eqRow_duo (x y x' y' : Nat) : eqRow (duo x y) (duo x' y') 2 = (sameB x x' && sameB y y') := by
  simp [eqRow, List.range_succ, duo]
def oneK (_ : FuncId) (args : Array Value) (v : Value) : Prop := ∃ p q, args = #[.float .f32 p, .float .f32 q] ∧ v = .bool (sameB p q)
theorem oneK_v {f : FuncId} {p q : Nat} {v : Value} (h : oneK f #[.float .f32 p, .float .f32 q] v) : v = .bool (sameB p q) := by
  obtain ⟨p', q', h, rfl⟩ := h
  simp at h
  obtain ⟨rfl, rfl⟩ := h
  rfl
theorem one_call {p q n N : Nat} {w : World} : Calls Try.prog 116 #[.float .f32 p, .float .f32 q] (w.drewN (N + n)) fun e w'' => ∃ u, e = .returned u ∧ oneK 116 #[.float .f32 p, .float .f32 q] u ∧ ∃ m, w'' = w.drewN (N + m) :=
  (s_l01Same p q (w.drewN (N + n))).mono fun _ _ ⟨he, hw⟩ => ⟨_, he, ⟨p, q, rfl, rfl⟩, n, hw.symm⟩
set_option maxRecDepth 100000 in
set_option maxHeartbeats 2000000 in
theorem s_l02SameAt (k : Int) (a b c x y : Nat) (k' : Int) (a' b' c' x' y' : Nat) (g g' f f' : Nat) (w : World) (R : FilAt w g f k a b c x y) (R' : FilAt w g' f' k' a' b' c' x' y') :
    Calls Try.prog 115 #[.pointer (some ⟨g, f, none⟩), .pointer (some ⟨g', f', none⟩)] w fun e w' => e = .returned (.bool ((k == k') && (eqRow (tri a b c) (tri a' b' c') 3 && eqRow (duo x y) (duo x' y') 2))) ∧ ∃ n, w' = w.drewN n := by
  have k0 := R.k0
  have k0' := R'.k0
  have HR := hid R; have HR' := hid R'
  clear R R'
  cases hk : (k == k')
  · have hkn : (k != k') = true := by simp [bne, hk]
    go_enter Try.func115, Try.ntmps115
    go_wp2_with fail
    refine wp_region_loose (oneK) (by kernel_rfl) (by kernel_rfl) ?_
    repeat (first | (refine wpLoose_quiet rfl ?_; go_big_quiet_step (fail); refine wpQuiet_nil ?_) | (with_reducible refine wpLoose_nilW (by kernel_rfl) rfl rfl ?_; simp only [Act.put, List.setIfInBounds_toArray, List.set_cons_succ, List.set_cons_zero]))
    refine wpLoose_nil (fun m => ?_)
    go_wp2
    go_ret
    exact ⟨rfl, _, rfl⟩
  · have hkn : (k != k') = false := by simp [bne, hk]
    go_enter Try.func115, Try.ntmps115
    go_wp2_with fail
    refine wp_region_loose (oneK) (by kernel_rfl) (by kernel_rfl) ?_
    repeat (first | (refine wpLoose_quiet rfl ?_; go_big_quiet_step (fail); refine wpQuiet_nil ?_) | (with_reducible refine wpLoose_nilW (by kernel_rfl) rfl rfl ?_; simp only [Act.put, List.setIfInBounds_toArray, List.set_cons_succ, List.set_cons_zero]))
    refine wpLoose_nil (fun m => ?_)
    go_wp2
    clear k0 k0' hkn
    go_loopw [5] (fun i wr => ∃ j : Nat, j ≤ 3 ∧ i = .int .i64 j ∧ Hid (∀ i, i < j → sameB (tri a b c i) (tri a' b' c' i) = true) ∧ ∃ n, wr = w.drewN n) (fun i _ => 3 - (intOf i).toNat)
    case atStart => exact ⟨0, by omega, rfl, fun i hi => absurd hi (by omega), _, rfl⟩
    case round =>
      obtain ⟨j, hj, rfl, HJ, n, rfl⟩ := hrel
      by_cases hlt : j < 3
      · have cj := HR.out.tri j hlt
        have cj' := HR'.out.tri j hlt
        cases he : sameB (tri a b c j) (tri a' b' c' j)
        · have HN := hid (eqRow_no (f := tri a b c) (f' := tri a' b' c') (n := 3) hlt he)
          have HE := hid he
          clear he
          generalize tri a b c j = p at *
          generalize tri a' b' c' j = q at *
          go_wp2_with fail
          refine wp_region_loose (oneK) (by kernel_rfl) (by kernel_rfl) ?_
          repeat (first | (refine wpLoose_quiet rfl ?_; go_big_quiet_step (fail); refine wpQuiet_nil ?_) | (with_reducible refine wpLoose_nilW (by kernel_rfl) rfl rfl ?_; simp only [Act.put, List.setIfInBounds_toArray, List.set_cons_succ, List.set_cons_zero]))
          refine wpLoose_any rfl (· = .bool false) (fun m0 => ?_) ?_
          · go_simp
            rw [← HE.out]
            exact ⟨one_call, fun v hv => oneK_v hv⟩
          · rintro v rfl
            simp only [Act.put, List.setIfInBounds_toArray, List.set_cons_succ, List.set_cons_zero]
            repeat (first | (refine wpLoose_quiet rfl ?_; go_big_quiet_step (fail); refine wpQuiet_nil ?_) | (with_reducible refine wpLoose_nilW (by kernel_rfl) rfl rfl ?_; simp only [Act.put, List.setIfInBounds_toArray, List.set_cons_succ, List.set_cons_zero]))
            refine wpLoose_nil (fun m => ?_)
            go_wp2
            go_ret
            exact ⟨ret_b (by rw [HN.out]; rfl), n + m, by go_simp⟩
        · have HJ' := hid (all_step (p := fun i => sameB (tri a b c i) (tri a' b' c' i) = true) HJ.out he)
          have HE := hid he
          clear he
          generalize tri a b c j = p at *
          generalize tri a' b' c' j = q at *
          go_wp2_with fail
          refine wp_region_loose (oneK) (by kernel_rfl) (by kernel_rfl) ?_
          repeat (first | (refine wpLoose_quiet rfl ?_; go_big_quiet_step (fail); refine wpQuiet_nil ?_) | (with_reducible refine wpLoose_nilW (by kernel_rfl) rfl rfl ?_; simp only [Act.put, List.setIfInBounds_toArray, List.set_cons_succ, List.set_cons_zero]))
          refine wpLoose_any rfl (· = .bool true) (fun m0 => ?_) ?_
          · go_simp
            rw [← HE.out]
            exact ⟨one_call, fun v hv => oneK_v hv⟩
          · rintro v rfl
            simp only [Act.put, List.setIfInBounds_toArray, List.set_cons_succ, List.set_cons_zero]
            repeat (first | (refine wpLoose_quiet rfl ?_; go_big_quiet_step (fail); refine wpQuiet_nil ?_) | (with_reducible refine wpLoose_nilW (by kernel_rfl) rfl rfl ?_; simp only [Act.put, List.setIfInBounds_toArray, List.set_cons_succ, List.set_cons_zero]))
            refine wpLoose_nil (fun m => ?_)
            go_wp2
            go_roundw
            case rel => exact ⟨j + 1, by omega, by go_num, HJ', _, rfl⟩
            case measure => simp [intOf]; omega
      · obtain rfl : j = 3 := by omega
        have HY := hid (eqRow_yes HJ.out)
        have x0 : w.cell? ⟨g, f + 4, none⟩ = some (.float .f32 x) := HR.out.duo 0 (by omega)
        have x0' : w.cell? ⟨g', f' + 4, none⟩ = some (.float .f32 x') := HR'.out.duo 0 (by omega)
        have y0 : w.cell? ⟨g, f + 4 + 1, none⟩ = some (.float .f32 y) := HR.out.duo 1 (by omega)
        have y1 : w.cell? ⟨g, f + 5, none⟩ = some (.float .f32 y) := y0
        have y0' : w.cell? ⟨g', f' + 4 + 1, none⟩ = some (.float .f32 y') := HR'.out.duo 1 (by omega)
        have y1' : w.cell? ⟨g', f' + 5, none⟩ = some (.float .f32 y') := y0'
        cases hx : sameB x x'
        · have HX := hid hx
          clear hx
          go_wp2_with fail
          refine wp_region_loose (oneK) (by kernel_rfl) (by kernel_rfl) ?_
          repeat (first | (refine wpLoose_quiet rfl ?_; go_big_quiet_step (fail); refine wpQuiet_nil ?_) | (with_reducible refine wpLoose_nilW (by kernel_rfl) rfl rfl ?_; simp only [Act.put, List.setIfInBounds_toArray, List.set_cons_succ, List.set_cons_zero]))
          refine wpLoose_any rfl (· = .bool false) (fun m0 => ?_) ?_
          · go_simp
            rw [← HX.out]
            exact ⟨one_call, fun v hv => oneK_v hv⟩
          · rintro v rfl
            simp only [Act.put, List.setIfInBounds_toArray, List.set_cons_succ, List.set_cons_zero]
            repeat (first | (refine wpLoose_quiet rfl ?_; go_big_quiet_step (fail); refine wpQuiet_nil ?_) | (refine wpLoose_skip (by kernel_rfl) ?_; simp only [Act.put, List.setIfInBounds_toArray, List.set_cons_succ, List.set_cons_zero]))
            refine wpLoose_nil (fun m => ?_)
            go_wp2
            go_ret
            exact ⟨ret_b (by rw [HY.out, eqRow_duo, HX.out]; rfl), n + m, by go_simp⟩
        · have HX := hid hx
          clear hx
          go_wp2_with fail
          refine wp_region_loose (oneK) (by kernel_rfl) (by kernel_rfl) ?_
          repeat (first | (refine wpLoose_quiet rfl ?_; go_big_quiet_step (fail); refine wpQuiet_nil ?_) | (with_reducible refine wpLoose_nilW (by kernel_rfl) rfl rfl ?_; simp only [Act.put, List.setIfInBounds_toArray, List.set_cons_succ, List.set_cons_zero]))
          refine wpLoose_any rfl (· = .bool true) (fun m0 => ?_) ?_
          · go_simp
            rw [← HX.out]
            exact ⟨one_call, fun v hv => oneK_v hv⟩
          · rintro v rfl
            simp only [Act.put, List.setIfInBounds_toArray, List.set_cons_succ, List.set_cons_zero]
            repeat (first | (refine wpLoose_quiet rfl ?_; go_big_quiet_step (fail); refine wpQuiet_nil ?_) | (with_reducible refine wpLoose_nilW (by kernel_rfl) rfl rfl ?_; simp only [Act.put, List.setIfInBounds_toArray, List.set_cons_succ, List.set_cons_zero]))
            refine wpLoose_anyW (by kernel_rfl) (· = .bool (sameB y y')) (fun m0 => ?_) ?_
            · go_simp
              exact ⟨one_call, fun v hv => oneK_v hv⟩
            · rintro v rfl
              simp only [Act.put, List.setIfInBounds_toArray, List.set_cons_succ, List.set_cons_zero]
              repeat (first | (refine wpLoose_quiet rfl ?_; go_big_quiet_step (fail); refine wpQuiet_nil ?_) | (with_reducible refine wpLoose_nilW (by kernel_rfl) rfl rfl ?_; simp only [Act.put, List.setIfInBounds_toArray, List.set_cons_succ, List.set_cons_zero]))
              refine wpLoose_nil (fun m => ?_)
              go_wp2
              go_ret
              exact ⟨ret_b (by rw [HY.out, eqRow_duo, HX.out]; rfl), n + m, by go_simp⟩
theorem s_l02Same (k : Int) (a b c x y : Nat) (k' : Int) (a' b' c' x' y' : Nat) (g g' : Nat) (w : World) (R : Row w g 47 (#[.int .i64 k, .float .f32 a, .float .f32 b, .float .f32 c, .float .f32 x, .float .f32 y] : Array Value)) (R' : Row w g' 47 (#[.int .i64 k', .float .f32 a', .float .f32 b', .float .f32 c', .float .f32 x', .float .f32 y'] : Array Value)) :
    Calls Try.prog 115 #[.pointer (some ⟨g, 0, none⟩), .pointer (some ⟨g', 0, none⟩)] w fun e w' => e = .returned (.bool ((k == k') && (eqRow (tri a b c) (tri a' b' c') 3 && eqRow (duo x y) (duo x' y') 2))) ∧ ∃ n, w' = w.drewN n :=
  s_l02SameAt k a b c x y k' a' b' c' x' y' g g' 0 0 w R.filAt R'.filAt
end Go.Proofs.Ytjcbolllohmjjaa

/- Rings over facts of memory: 'ValidRing', 'SameRing' of both. -/
namespace Go.Fk
open Go Go.RowKit
theorem RdS.form {w : World} {B : Nat} {s : Value} {x : Nat → Nat} {n : Nat} (h : RdS w B s x n) : (s = .slice none 0 0 ∧ n = 0) ∨ ∃ (a : Addr) (cap : Nat), s = .slice (some a) n cap ∧ n ≤ cap ∧ cap ≤ maxLen := by
  rcases h with h | ⟨a, cap, h1, h2, h3, _⟩
  · exact .inl h
  · exact .inr ⟨a, cap, h1, h2, h3⟩
section
variable {P : Program} {w : World} {ops : Array Oper} {rest : List Oper} {o : Oper} {a : Act} {Q : Exit → Act → World → Prop}
/-- The length of a slice that can be read. -/
theorem wpList_lenR (hg : o.guard = none) {x : Operand} {t : TypeId} (hop : o.op = Op.call { callee := Callee.builtin Builtin.len, args := #[x], argTypes := #[t] }) {v : Value} (hx : a.eval x = v) {e : TypeId} (hu : P.underlying t = some (.slice e)) {w1 : World} {B : Nat} {y : Nat → Nat} {n : Nat} (hv : RdS w1 B v y n)
    (h : wpList P ops Q rest (a.put o.dst (.int .i64 n)) w) : wpList P ops Q (o :: rest) a w := by
  refine wpList_plain hg fun K hK' => ?_
  unfold Oper.wp
  rcases hv.form with ⟨rfl, rfl⟩ | ⟨ad, cap, rfl, _, _⟩
  all_goals
    simp [execOp, hop, hx, Result.andThen, resolve, invoke, builtin, Builtin.len_, run_underlying hu]
    exact hK' _ _ h
end
theorem sameB_can (x y : Nat) : sameB (can .f32 x) (can .f32 y) = sameB x y := by unfold sameB; rw [can_can, can_can]
theorem okRing_iff {n : Nat} {k : Int} : okRing n k = true ↔ 1 ≤ n ∧ n ≤ 1024 ∧ 0 ≤ k ∧ k < n := by
  unfold okRing; simp only [Bool.and_eq_true, decide_eq_true_eq]; omega
theorem okRing_j {n : Nat} {k : Int} (h : okRing n k = true) : 1 ≤ n ∧ n ≤ 1024 ∧ ∃ j : Nat, k = j ∧ j < n := by
  obtain ⟨h1, h2, h3, h4⟩ := okRing_iff.1 h
  exact ⟨h1, h2, k.toNat, by omega, by omega⟩
/-- Two slices of floats, compared. -/
def sameS (x x' : Nat → Nat) (n n' : Nat) : Bool := (n == n') && eqRow x x' n
theorem sameS_ne {x x' : Nat → Nat} {n n' : Nat} (h : n ≠ n') : sameS x x' n n' = false := by simp [sameS, h]
theorem sameS_eq {x x' : Nat → Nat} {n : Nat} : sameS x x' n n = eqRow x x' n := by simp [sameS]
end Go.Fk
namespace Go.Proofs.Ytjcbolllohmjjaa
open Go.RowKit Go.Fk
set_option maxHeartbeats 2000000 in
theorem i_ValidRingR (B : Nat) (s : Value) (x : Nat → Nat) (n : Nat) (k : Int) (w : World) (hs : RdS w B s x n) : Calls Try.prog 129 #[.agg #[s, .int .i64 k]] w fun e w' => e = .returned (.bool (okRing n k)) ∧ le w w' := by
  have HL := hid (le_alloc w (.cells #[s, .int .i64 k] 82))
  rcases hs.form with ⟨rfl, rfl⟩ | ⟨a, cap, rfl, hc, hm⟩
  · have HZ : Hid (okRing 0 k = false) := by unfold Hid okRing; simp
    clear hs
    go_enter Try.func129, Try.ntmps129
    go_wp2
    go_ret
    exact ⟨ret_b HZ.out.symm, HL.out⟩
  clear hs
  unfold maxLen at hm
  obtain ⟨z, hz⟩ : ∃ z, z = okRing n k := ⟨_, rfl⟩
  rw [← hz]
  unfold okRing at hz
  by_cases h1 : 1 ≤ (n : Int) <;> by_cases h2 : (n : Int) ≤ 1024 <;> by_cases h3 : 0 ≤ k <;> by_cases h4 : k < (n : Int)
  all_goals first | (exfalso; omega) | skip
  all_goals
    simp only [h1, h2, h3, h4, decide_true, decide_false, Bool.and_true, Bool.and_false, Bool.true_and, Bool.false_and] at hz
    have HZ := hid hz
    clear hz
    go_enter Try.func129, Try.ntmps129
    go_wp2
    go_ret
    exact ⟨ret_b HZ.out.symm, HL.out⟩
theorem s_l02RingR (B : Nat) (s : Value) (x : Nat → Nat) (n : Nat) (k : Int) (g f : Nat) (w : World) (hs : RdS w B s x n) (c0 : w.cell? ⟨g, f, none⟩ = some s) (c1 : w.cell? ⟨g, f + 1, none⟩ = some (.int .i64 k)) (hk : (Lit.int .i64 k).wf = true) :
    Calls Try.prog 126 #[.pointer (some ⟨g, f, none⟩)] w fun e w' => e = .returned (.bool (okRing n k)) ∧ w = w' := by
  rcases hs.form with ⟨rfl, rfl⟩ | ⟨a, cap, rfl, hc, hm⟩
  · have HZ : Hid (okRing 0 k = false) := by unfold Hid okRing; simp
    clear hs
    have HI : Hid (∀ w, Calls Try.prog 57 #[.int .i64 0, .int .i64 1, .int .i64 1024] w fun e w' => e = .returned (.bool false) ∧ w = w') := fun w => s_In 0 1 1024 w
    go_enter Try.func126, Try.ntmps126
    go_wp2_with (go_at_call 57; refine (HI.out _).mono ?_; rintro e w' ⟨rfl, rfl⟩)
    go_ret
    exact ⟨ret_b HZ.out.symm, rfl⟩
  clear hs hk
  unfold maxLen at hm
  obtain ⟨z, hz⟩ : ∃ z, z = okRing n k := ⟨_, rfl⟩
  rw [← hz]
  unfold okRing at hz
  by_cases h1 : 1 ≤ (n : Int) <;> by_cases h2 : (n : Int) ≤ 1024
  all_goals first | (exfalso; omega) | skip
  all_goals
    simp only [h1, h2, decide_true, decide_false, Bool.and_true, Bool.and_false, Bool.true_and, Bool.false_and] at hz
    have HZ := hid hz
    clear hz
    go_enter Try.func126, Try.ntmps126
    go_wp2_with (go_at_call 57; refine (s_In _ _ _ _).mono ?_; rintro e w' ⟨rfl, rfl⟩)
    go_ret
    refine ⟨ret_b ?_, rfl⟩
    first | (rw [HZ.out]; done) | (rw [HZ.out]; congr 1; exact decide_eq_decide.2 (by omega))
set_option maxHeartbeats 1000000 in
theorem i_EqualFuncR (B B' : Nat) (s s' : Value) (x x' : Nat → Nat) (n n' : Nat) (w : World) (hs : RdS w B s x n) (hs' : RdS w B' s' x' n') :
    Calls Try.prog 73 #[s, s', .func (.func 74) #[] #[]] w fun e w' => e = .returned (.bool (sameS x x' n n')) ∧ w = w' := by
  by_cases hne : n = n'
  · subst hne
    rw [sameS_eq]
    by_cases h0 : n = 0
    · subst h0
      rcases hs.form with ⟨rfl, _⟩ | ⟨a, cap, rfl, hc, hm⟩ <;> rcases hs'.form with ⟨rfl, _⟩ | ⟨a', cap', rfl, hc', hm'⟩
      all_goals
        clear hs hs'
        go_enter Try.func73, Try.ntmps73
        go_wp2
        go_loop [17] (fun i => i = .int .i64 0) (fun _ => 0)
        case atStart => rfl
        case round =>
          obtain rfl := hrel
          go_wp2
          go_ret
          exact ⟨rfl, rfl⟩
    obtain ⟨a, cap, y, rfl, hc, hm, hx⟩ := hs.raw (by omega)
    obtain ⟨a', cap', y', rfl, hc', hm', hx'⟩ := hs'.raw (by omega)
    have Hc := hid (fun i hi => (hx i hi).1); have Hc' := hid (fun i hi => (hx' i hi).1)
    have Hs : Hid (∀ i, i < n → sameB (y i) (y' i) = sameB (x i) (x' i)) := fun i hi => by rw [← (hx i hi).2.2, ← (hx' i hi).2.2, sameB_can]
    clear hx hx' hs hs' h0
    unfold maxLen at hm hm'
    go_enter Try.func73, Try.ntmps73
    go_wp2
    go_loop [17] (fun i => ∃ k : Nat, k ≤ n ∧ i = .int .i64 k ∧ Hid (∀ i, i < k → sameB (x i) (x' i) = true)) (fun i => n - (intOf i).toNat)
    case atStart => exact ⟨0, by omega, rfl, fun i hi => absurd hi (by omega)⟩
    case round =>
      obtain ⟨k, hk, rfl, HK⟩ := hrel
      by_cases hlt : k < n
      · have ck := Hc.out k hlt
        have ck' := Hc'.out k hlt
        have HE := hid (Hs.out k hlt)
        cases hb : sameB (y k) (y' k)
        · go_wp2_with (go_at_call 74; refine (i_SameSample _ _ _).mono ?_; rintro e w' ⟨rfl, rfl⟩)
          go_ret
          exact ⟨ret_b (eqRow_no hlt (HE.out.symm.trans hb)).symm, rfl⟩
        · go_wp2_with (go_at_call 74; refine (i_SameSample _ _ _).mono ?_; rintro e w' ⟨rfl, rfl⟩)
          go_round
          case rel => exact ⟨k + 1, by omega, by go_num, all_step (p := fun j => sameB (x j) (x' j) = true) HK.out (HE.out.symm.trans hb)⟩
          case measure => simp [intOf]; omega
      · obtain rfl : k = n := by omega
        go_wp2
        go_ret
        exact ⟨ret_b (eqRow_yes HK.out).symm, rfl⟩
  · rw [sameS_ne hne]
    have hne' : ¬ (n : Int) = (n' : Int) := by omega
    rcases hs.form with ⟨rfl, rfl⟩ | ⟨a, cap, rfl, hc, hm⟩ <;> rcases hs'.form with ⟨rfl, rfl⟩ | ⟨a', cap', rfl, hc', hm'⟩
    all_goals first | exact absurd rfl hne | skip
    all_goals
      clear hs hs'
      try unfold maxLen at hm
      try unfold maxLen at hm'
      go_enter Try.func73, Try.ntmps73
      go_wp2
      go_ret
      exact ⟨rfl, rfl⟩
theorem i_SameRingR (B B' : Nat) (s s' : Value) (x x' : Nat → Nat) (n n' : Nat) (k k' : Int) (w : World) (hs : RdS w B s x n) (hs' : RdS w B' s' x' n') :
    Calls Try.prog 72 #[.agg #[s, .int .i64 k], .agg #[s', .int .i64 k']] w fun e w' => e = .returned (.bool ((k == k') && sameS x x' n n')) ∧ le w w' := by
  have F := ((Frg.nil w).box 82 #[s, .int .i64 k]).box 82 #[s', .int .i64 k']
  have HL := hid F.below
  have HS := hid (hs.le F.below); have HS' := hid (hs'.le F.below)
  clear hs hs' F
  cases hk : (k == k')
  all_goals
    go_enter Try.func72, Try.ntmps72
    go_wp2_with (go_at_call 73; refine (i_EqualFuncR B B' s s' x x' n n' _ HS.out HS'.out).mono ?_; rintro e w' ⟨rfl, rfl⟩)
    go_ret
    exact ⟨ret_b (by first | rfl | simp), HL.out⟩
theorem infoRingL : (Try.prog.info? 114).map (·.size) = some 2 := by kernel_rfl
end Go.Proofs.Ytjcbolllohmjjaa

/- 'isWithin'. -/
namespace Go.Fk
open Go Go.RowKit
/-- Is a number from one to another? Not NaN. -/
def withinB (a l g : Nat) : Bool := (FloatKind.f32.format.order a l == some .gt || FloatKind.f32.format.order a l == some .eq) && (FloatKind.f32.format.order a g == some .lt || FloatKind.f32.format.order a g == some .eq)
end Go.Fk
namespace Go.Proofs.Ytjcbolllohmjjaa
open Go.RowKit Go.Fk
theorem i_isWithin (a l g : Nat) (w : World) : Calls Try.prog 82 #[.float .f32 a, .float .f32 l, .float .f32 g] w fun e w' => e = .returned (.bool (withinB a l g)) ∧ w = w' := by
  rcases h0 : FloatKind.f32.format.order a l with _ | (_ | _ | _) <;> rcases h1 : FloatKind.f32.format.order a g with _ | (_ | _ | _)
  all_goals
    go_enter Try.func82, Try.ntmps82
    go_wp2
    go_ret
    exact ⟨ret_b (by unfold withinB; rw [h0, h1]; rfl), rfl⟩
end Go.Proofs.Ytjcbolllohmjjaa

/- What pipes ask of their lists: 'l04All', 'l04Rings'; 'areScatters', 'isFiniteRing', 'areSections'. -/
namespace Go.Fk
open Go Go.RowKit
/-- Two lists of sections. -/
def secOk (x y : Nat → CD) (k : Nat) : Bool := rgOk x k && rgOk y k && (rgN x k == rgN y k)
theorem withinB_can {y x l g : Nat} (h : can .f32 y = x) : withinB y l g = withinB x l g := by
  unfold withinB; rw [← h, order_can_l, order_can_l]
def scB (x : Nat → Nat) (n : Nat) : Bool := allB (fun i => withinB (x i) 3212836864 1065353216) n
end Go.Fk
namespace Go.Proofs.Ytjcbolllohmjjaa
open Go.RowKit Go.Fk
set_option maxRecDepth 100000 in
set_option maxHeartbeats 1000000 in
theorem s_l04All (B : Nat) (s : Value) (x : Nat → Nat) (n : Nat) (w : World) (hs : RdS w B s x n) : Calls Try.prog 102 #[s] w fun e w' => e = .returned (.bool (finB x n)) ∧ ∃ m, w' = w.drewN m := by
  have hrd := hid hs
  rcases hs with ⟨rfl, rfl⟩ | ⟨a, cap, rfl, hc, hm, hx⟩
  · clear hrd
    go_enter Try.func102, Try.ntmps102
    go_wp2
    go_loop [3] (fun i => i = .int .i64 0) (fun _ => 0)
    case atStart => rfl
    case round =>
      obtain rfl := hrel
      go_wp2
      go_ret
      exact ⟨rfl, 0, rfl⟩
  · have HX := hid hx
    unfold maxLen at hm
    clear hx
    go_enter Try.func102, Try.ntmps102
    go_wp2
    go_loopw [3] (fun i wr => ∃ j : Nat, j ≤ n ∧ i = .int .i64 j ∧ Hid (∀ i, i < j → fin (x i) = true) ∧ ∃ m, wr = w.drewN m) (fun i _ => n - (intOf i).toNat)
    case atStart => exact ⟨0, by omega, rfl, fun i hi => absurd hi (by omega), 0, rfl⟩
    case round =>
      obtain ⟨j, hj, rfl, HJ, m, rfl⟩ := hrel
      by_cases hlt : j < n
      · obtain ⟨_, y, c1, f1, e1⟩ := HX.out j hlt
        have hfy : fin y = fin (x j) := fin_can ((e1).trans (by rw [← e1, can_can]))
        cases hb : fin (x j)
        · have HF := hid (fun w => (hfy.trans hb) ▸ s_l01Finite y w)
          clear hfy e1
          go_wp2_with (go_at_call 52; ((with_reducible refine (HF.out _).mono ?_); rintro e w' ⟨rfl, q, rfl⟩))
          go_ret
          exact ⟨ret_b (finB_no hlt hb).symm, _, rfl⟩
        · have HF := hid (fun w => (hfy.trans hb) ▸ s_l01Finite y w)
          clear hfy e1
          go_wp2_with (go_at_call 52; ((with_reducible refine (HF.out _).mono ?_); rintro e w' ⟨rfl, q, rfl⟩))
          go_roundw
          case rel => exact ⟨j + 1, by omega, by go_num, fun i hi => by rcases Nat.lt_or_ge i j with h | h; exact HJ.out i h; rw [show i = j by omega]; exact hb, _, rfl⟩
          case measure => simp [intOf]; omega
      · obtain rfl : j = n := by omega
        go_wp2
        go_ret
        exact ⟨ret_b (finB_yes HJ.out).symm, _, rfl⟩
set_option maxRecDepth 100000 in
set_option maxHeartbeats 1000000 in
theorem s_l04Rings (B : Nat) (s : Value) (x : Nat → CD) (n : Nat) (w : World) (hs : (CD.sl 2 n x).RdN w B s) (hx : RgsOk x n) : Calls Try.prog 100 #[s] w fun e w' => e = .returned (.bool (allB (rgOk x) n)) ∧ ∃ m, w' = w.drewN m := by
  rcases hs.form with ⟨rfl, rfl⟩ | ⟨b, o, cap, rfl, hc, hm⟩
  · clear hs hx
    go_enter Try.func100, Try.ntmps100
    go_wp2
    go_loop [3] (fun i => i = .int .i64 0) (fun _ => 0)
    case atStart => rfl
    case round =>
      obtain rfl := hrel
      go_wp2
      go_ret
      exact ⟨rfl, 0, rfl⟩
  · have HA := hid (fun k (hk : k < n) => hx.at hs hk)
    unfold maxLen at hm
    clear hx hs
    go_enter Try.func100, Try.ntmps100
    go_wp2
    go_loopw [3] (fun i wr => ∃ j : Nat, j ≤ n ∧ i = .int .i64 j ∧ Hid (∀ i, i < j → rgOk x i = true) ∧ ∃ m, wr = w.drewN m) (fun i _ => n - (intOf i).toNat)
    case atStart => exact ⟨0, by omega, rfl, fun i hi => absurd hi (by omega), 0, rfl⟩
    case round =>
      obtain ⟨j, hj, rfl, HJ, m, rfl⟩ := hrel
      by_cases hlt : j < n
      · obtain ⟨u, c0, c1, hw, hr⟩ := HA.out j hlt
        have HR := hid (fun (m : Nat) => s_l02RingR B u (rgX x j) (rgN x j) (rgK x j) b (o + j * 2) (w.drewN m) (hr.le (le_drewN w m)) c0 c1 hw)
        have HL := hid (fun (m : Nat) => s_l04All B u (rgX x j) (rgN x j) (w.drewN m) (hr.le (le_drewN w m)))
        cases h1 : okRing (rgN x j) (rgK x j)
        · rw [h1] at HR
          have hb : rgOk x j = false := by unfold rgOk; rw [h1]; rfl
          clear h1 c1 hw hr
          go_wp2_with (first | (with_reducible refine wpList_indexW0 rfl rfl rfl rfl Try.underlying46 uinfoRingI hlt ?_) | (go_at_call 126; ((with_reducible refine (HR.out _).mono ?_); rintro e w' ⟨rfl, rfl⟩)))
          go_ret
          exact ⟨ret_b (allB_no hlt hb).symm, _, rfl⟩
        cases h2 : finB (rgX x j) (rgN x j)
        · rw [h1] at HR; rw [h2] at HL
          have hb : rgOk x j = false := by unfold rgOk; rw [h2, Bool.and_false]
          clear h1 h2 c1 hw hr
          go_wp2_with (first | (with_reducible refine wpList_indexW0 rfl rfl rfl rfl Try.underlying46 uinfoRingI hlt ?_) | (with_reducible refine wpList_indexW0G rfl rfl rfl Try.underlying46 uinfoRingI hlt (by kernel_rfl) ?_) | (go_at_call 126; ((with_reducible refine (HR.out _).mono ?_); rintro e w' ⟨rfl, rfl⟩)) | (go_at_call 102; ((with_reducible refine (HL.out _).mono ?_); rintro e w' ⟨rfl, q, rfl⟩)))
          go_ret
          exact ⟨ret_b (allB_no hlt hb).symm, _, rfl⟩
        · rw [h1] at HR; rw [h2] at HL
          have hb : rgOk x j = true := by unfold rgOk; rw [h1, h2]; rfl
          clear h1 h2 c1 hw hr
          go_wp2_with (first | (with_reducible refine wpList_indexW0 rfl rfl rfl rfl Try.underlying46 uinfoRingI hlt ?_) | (with_reducible refine wpList_indexW0G rfl rfl rfl Try.underlying46 uinfoRingI hlt (by kernel_rfl) ?_) | (go_at_call 126; ((with_reducible refine (HR.out _).mono ?_); rintro e w' ⟨rfl, rfl⟩)) | (go_at_call 102; ((with_reducible refine (HL.out _).mono ?_); rintro e w' ⟨rfl, q, rfl⟩)))
          go_roundw
          case rel => exact ⟨j + 1, by omega, by go_num, fun i hi => by rcases Nat.lt_or_ge i j with h | h; exact HJ.out i h; rw [show i = j by omega]; exact hb, _, rfl⟩
          case measure => simp [intOf]; omega
      · obtain rfl : j = n := by omega
        go_wp2
        go_ret
        exact ⟨ret_b (allB_yes HJ.out).symm, _, rfl⟩
set_option maxRecDepth 100000 in
set_option maxHeartbeats 1000000 in
theorem i_areScatters (B : Nat) (s : Value) (x : Nat → Nat) (n : Nat) (w : World) (hs : RdS w B s x n) : Calls Try.prog 68 #[s] w fun e w' => e = .returned (.bool (scB x n)) ∧ w = w' := by
  rcases hs with ⟨rfl, rfl⟩ | ⟨a, cap, rfl, hc, hm, hx⟩
  · go_enter Try.func68, Try.ntmps68
    go_wp2
    go_loop [7] (fun i => i = .int .i64 0) (fun _ => 0)
    case atStart => rfl
    case round =>
      obtain rfl := hrel
      go_wp2
      go_ret
      exact ⟨rfl, rfl⟩
  · have HX := hid hx
    unfold maxLen at hm
    clear hx
    go_enter Try.func68, Try.ntmps68
    go_wp2
    go_loop [7] (fun i => ∃ j : Nat, j ≤ n ∧ i = .int .i64 j ∧ Hid (∀ i, i < j → withinB (x i) 3212836864 1065353216 = true)) (fun i => n - (intOf i).toNat)
    case atStart => exact ⟨0, by omega, rfl, fun i hi => absurd hi (by omega)⟩
    case round =>
      obtain ⟨j, hj, rfl, HJ⟩ := hrel
      by_cases hlt : j < n
      · obtain ⟨_, y, c1, f1, e1⟩ := HX.out j hlt
        have hfy := withinB_can (l := 3212836864) (g := 1065353216) e1
        cases hb : withinB (x j) 3212836864 1065353216
        · have HF := hid (fun w => (hfy.trans hb) ▸ i_isWithin y 3212836864 1065353216 w)
          clear hfy e1
          go_wp2_with (go_at_call 82; ((with_reducible refine (HF.out _).mono ?_); rintro e w' ⟨rfl, rfl⟩))
          go_ret
          exact ⟨ret_b (allB_no (p := fun i => withinB (x i) 3212836864 1065353216) hlt hb).symm, rfl⟩
        · have HF := hid (fun w => (hfy.trans hb) ▸ i_isWithin y 3212836864 1065353216 w)
          clear hfy e1
          go_wp2_with (go_at_call 82; ((with_reducible refine (HF.out _).mono ?_); rintro e w' ⟨rfl, rfl⟩))
          go_round
          case rel => exact ⟨j + 1, by omega, by go_num, fun i hi => by rcases Nat.lt_or_ge i j with h | h; exact HJ.out i h; rw [show i = j by omega]; exact hb⟩
          case measure => simp [intOf]; omega
      · obtain rfl : j = n := by omega
        go_wp2
        go_ret
        exact ⟨ret_b (allB_yes HJ.out).symm, rfl⟩
theorem i_areFiniteQ (B : Nat) (s : Value) (x : Nat → Nat) (n : Nat) (w : World) (hs : RdS w B s x n) : Calls Try.prog 128 #[s] w fun e w' => e = .returned (.bool (finB x n)) ∧ w = w' := by
  rcases hs with ⟨rfl, rfl⟩ | ⟨a, cap, rfl, h2, h3, h4⟩
  · exact i_areFinite_nil x w
  · obtain ⟨y, hy⟩ : ∃ y : Nat → Nat, ∀ i, i < n → w.cell? (a.add i) = some (.float .f32 (y i)) ∧ fits .f32 (y i) ∧ can .f32 (y i) = x i := by
      have : ∀ i, ∃ y, i < n → w.cell? (a.add i) = some (.float .f32 y) ∧ fits .f32 y ∧ can .f32 y = x i := fun i => by
        by_cases hi : i < n
        · obtain ⟨_, y, e⟩ := h4 i hi; exact ⟨y, fun _ => e⟩
        · exact ⟨0, fun h => absurd h hi⟩
      exact Classical.skolem.1 this
    have he : finB x n = finB y n := by
      have key : ∀ i, i < n → fin (x i) = fin (y i) := fun i hi => by
        rw [← (hy i hi).2.2]; exact fin_can (can_can _ _)
      cases hb : finB y n
      · obtain ⟨i, hi, hf⟩ := finB_ex hb
        exact finB_no hi ((key i hi).trans hf)
      · exact finB_yes (fun i hi => (key i hi).trans (finB_all hb i hi))
    rw [he]
    exact i_areFinite y a n cap w (by unfold maxLen at h3; omega) (fun i hi => (hy i hi).2.1) (fun i hi => (hy i hi).1)
set_option maxRecDepth 100000 in
set_option maxHeartbeats 1000000 in
theorem i_isFiniteRing (B : Nat) (s : Value) (x : Nat → Nat) (n : Nat) (k : Int) (w : World) (hs : RdS w B s x n) : Calls Try.prog 112 #[.agg #[s, .int .i64 k]] w fun e w' => e = .returned (.bool (okRing n k && finB x n)) ∧ le w w' := by
  have HV := hid (fun (w' : World) (hl : le w w') => i_ValidRingR B s x n k w' (hs.le hl))
  have HF := hid (fun (w' : World) (hl : le w w') => i_areFiniteQ B s x n w' (hs.le hl))
  have F := (Frg.nil w).box 82 #[s, .int .i64 k]
  clear hs
  cases h1 : okRing n k <;> cases h2 : finB x n
  all_goals
    rw [h1] at HV; rw [h2] at HF
    clear h1 h2
    go_enter Try.func112, Try.ntmps112
    go_wp2_with (first | ((with_reducible refine at_loadU (ty := 82) rfl rfl ?_); (with_reducible refine wpList_loadG F rfl rfl rfl m0 Try.underlying82 rfl uinfoRingI rfl ?_)) | (go_at_call 129; ((with_reducible refine (HV.out _ F.below).mono ?_); rintro e w1 ⟨rfl, hl⟩; replace F := F.le hl; clear hl; have c0 := (F.row m0).cell? 0)) | (go_at_call 128; ((with_reducible refine (HF.out _ F.below).mono ?_); rintro e w1 ⟨rfl, rfl⟩)))
    go_ret
    exact ⟨rfl, F.below⟩
set_option maxRecDepth 100000 in
set_option maxHeartbeats 4000000 in
theorem i_areSections (B B' : Nat) (s s' : Value) (x y : Nat → CD) (n : Nat) (w : World) (hs : (CD.sl 2 n x).RdN w B s) (hs' : (CD.sl 2 n y).RdN w B' s') (hx : RgsOk x n) (hy : RgsOk y n) : Calls Try.prog 69 #[s, s'] w fun e w' => e = .returned (.bool (allB (secOk x y) n)) ∧ le w w' := by
  by_cases h0 : n = 0
  · subst h0
    rcases hs.form with ⟨rfl, _⟩ | ⟨b, o, cap, rfl, hc, hm⟩
    all_goals
      clear hs hs' hx hy
      go_enter Try.func69, Try.ntmps69
      go_wp2
      go_loop [10] (fun i => i = .int .i64 0) (fun _ => 0)
      case atStart => rfl
      case round =>
        obtain rfl := hrel
        go_wp2
        go_ret
        exact ⟨rfl, le_refl _⟩
  rcases hs.form with ⟨_, h⟩ | ⟨b, o, cap, rfl, hc, hm⟩
  · exact absurd h h0
  rcases hs'.form with ⟨_, h⟩ | ⟨b', o', cap', rfl, hc', hm'⟩
  · exact absurd h h0
  have HA := hid (fun k (hk : k < n) => hx.at hs hk)
  have HB := hid (fun k (hk : k < n) => hy.at hs' hk)
  unfold maxLen at hm hm'
  clear hx hy hs hs' h0
  go_enter Try.func69, Try.ntmps69
  go_wp2
  go_loopw [10] (fun i wr => ∃ k : Nat, k ≤ n ∧ i = .int .i64 k ∧ Hid (∀ i, i < k → secOk x y i = true) ∧ Hid (le w wr)) (fun i _ => n - (intOf i).toNat)
  case atStart => exact ⟨0, by omega, rfl, fun i hi => absurd hi (by omega), le_refl _⟩
  case round =>
    obtain ⟨k, hk, rfl, HJ, HL⟩ := hrel
    rename_i wr _
    by_cases hlt : k < n
    · obtain ⟨u, c0, c1, hwu, hr⟩ := HA.out k hlt
      obtain ⟨v, e0, e1, hwv, hq⟩ := HB.out k hlt
      have gx : Hid (∀ (j : Nat) (q : Value), [u, .int .i64 (rgK x k)][j]? = some q → wr.cell? ((⟨b, o + k * 2, none⟩ : Addr).add j) = some q) := fun j q hj => by
        rw [add_none]
        match j, hj with
        | 0, hj => simp at hj; subst hj; exact (Below.cell HL.out (cell_lt' c0)).trans c0
        | 1, hj => simp at hj; subst hj; exact (Below.cell HL.out (cell_lt' c1)).trans c1
      have gy0 : Hid (∀ (w2 : World) (_ : le wr w2) (j : Nat) (q : Value), [v, .int .i64 (rgK y k)][j]? = some q → w2.cell? ((⟨b', o' + k * 2, none⟩ : Addr).add j) = some q) := fun w2 h2 j q hj => by
        rw [add_none]
        match j, hj with
        | 0, hj => simp at hj; subst hj; exact (Below.cell (le_trans HL.out h2) (cell_lt' e0)).trans e0
        | 1, hj => simp at hj; subst hj; exact (Below.cell (le_trans HL.out h2) (cell_lt' e1)).trans e1
      have ou := hid hr.one
      have ov := hid hq.one
      have HR := hid (fun (w' : World) (hl : le wr w') => i_isFiniteRing B u (rgX x k) (rgN x k) (rgK x k) w' (hr.le (le_trans HL.out hl)))
      have HS := hid (fun (w' : World) (hl : le wr w') => i_isFiniteRing B' v (rgX y k) (rgN y k) (rgK y k) w' (hq.le (le_trans HL.out hl)))
      have F := Frg.nil wr
      clear c0 c1 e0 e1 hwu hwv
      cases h1 : rgOk x k
      · have hb : secOk x y k = false := by unfold secOk; rw [h1]; rfl
        rw [show (okRing (rgN x k) (rgK x k) && finB (rgX x k) (rgN x k)) = false from h1] at HR
        clear h1 hr hq
        go_wp2_with (first | (with_reducible refine wpList_indexW0 rfl rfl rfl rfl Try.underlying46 uinfoRingI hlt ?_) | ((with_reducible refine at_loadU (ty := 82) rfl rfl ?_); first | (with_reducible refine wpList_loadW rfl rfl rfl [u, .int .i64 (rgK x k)] gx.out Try.underlying82 rfl uinfoRingI rfl ?_) | (with_reducible refine wpList_loadW rfl rfl rfl [v, .int .i64 (rgK y k)] (gy0.out _ F.below) Try.underlying82 rfl uinfoRingI rfl ?_) | (with_reducible refine wpList_loadG F rfl rfl rfl (by first | exact m0 | exact m1) Try.underlying82 rfl uinfoRingI rfl ?_)) | ((with_reducible refine at_store rfl ?_); (refine wpList_storeG F rfl rfl rfl rfl rfl uinfoRingI rfl (by first | exact one_head ou.out rfl | exact one_head ov.out rfl) ?_; clear F; intro W F zW; clear zW)) | (go_at_call 112; ((with_reducible refine (HR.out _ F.below).mono ?_); rintro e w1 ⟨rfl, hl⟩; replace F := F.le hl; clear hl)))
        go_ret
        exact ⟨ret_b (allB_no (p := secOk x y) hlt hb).symm, le_trans HL.out F.below⟩
      cases h2 : rgOk y k
      · have hb : secOk x y k = false := by unfold secOk; rw [h1, h2]; rfl
        rw [show (okRing (rgN x k) (rgK x k) && finB (rgX x k) (rgN x k)) = true from h1] at HR
        rw [show (okRing (rgN y k) (rgK y k) && finB (rgX y k) (rgN y k)) = false from h2] at HS
        clear h1 h2 hr hq
        go_wp2_with (first | (with_reducible refine wpList_indexW0 rfl rfl rfl rfl Try.underlying46 uinfoRingI hlt ?_) | ((with_reducible refine at_loadU (ty := 82) rfl rfl ?_); first | (with_reducible refine wpList_loadW rfl rfl rfl [u, .int .i64 (rgK x k)] gx.out Try.underlying82 rfl uinfoRingI rfl ?_) | (with_reducible refine wpList_loadW rfl rfl rfl [v, .int .i64 (rgK y k)] (gy0.out _ F.below) Try.underlying82 rfl uinfoRingI rfl ?_) | (with_reducible refine wpList_loadG F rfl rfl rfl (by first | exact m0 | exact m1) Try.underlying82 rfl uinfoRingI rfl ?_)) | ((with_reducible refine at_loadV (ty := 82) rfl rfl ?_); (with_reducible refine wpList_loadGG F rfl rfl (by first | exact m0 | exact m1) Try.underlying82 rfl uinfoRingI rfl (by kernel_rfl) ?_)) | ((with_reducible refine at_store rfl ?_); (refine wpList_storeG F rfl rfl rfl rfl rfl uinfoRingI rfl (by first | exact one_head ou.out rfl | exact one_head ov.out rfl) ?_; clear F; intro W F zW; clear zW)) | (go_at_call 112; first | ((with_reducible refine (HR.out _ F.below).mono ?_); rintro e w1 ⟨rfl, hl⟩; replace F := F.le hl; clear hl) | ((with_reducible refine (HS.out _ F.below).mono ?_); rintro e w1 ⟨rfl, hl⟩; replace F := F.le hl; clear hl; have d0 := (F.row m1).cell? 0; have d1 := (F.row m0).cell? 0)))
        go_ret
        exact ⟨ret_b (allB_no (p := secOk x y) hlt hb).symm, le_trans HL.out F.below⟩
      have n1 : 1 ≤ rgN x k := by have := h1; unfold rgOk at this; simp only [Bool.and_eq_true] at this; exact (okRing_iff.1 this.1).1
      have n2 : 1 ≤ rgN y k := by have := h2; unfold rgOk at this; simp only [Bool.and_eq_true] at this; exact (okRing_iff.1 this.1).1
      rw [show (okRing (rgN x k) (rgK x k) && finB (rgX x k) (rgN x k)) = true from h1] at HR
      rw [show (okRing (rgN y k) (rgK y k) && finB (rgX y k) (rgN y k)) = true from h2] at HS
      obtain ⟨au, cu, _, rfl, hcu, hmu, _⟩ := hr.raw n1
      obtain ⟨av, cv, _, rfl, hcv, hmv, _⟩ := hq.raw n2
      unfold maxLen at hmu hmv
      by_cases h3 : rgN x k = rgN y k
      · have hb : secOk x y k = true := by unfold secOk; rw [h1, h2, h3]; simp
        clear h1 h2 hr hq n1 n2
        have h4 : (((rgN x k : Nat) : Int) != ((rgN y k : Nat) : Int)) = false := by simp [h3]
        replace h3 := hid h3
        go_wp2_with (first | (with_reducible refine wpList_indexW0 rfl rfl rfl rfl Try.underlying46 uinfoRingI hlt ?_) | ((with_reducible refine at_loadU (ty := 82) rfl rfl ?_); first | (with_reducible refine wpList_loadW rfl rfl rfl [(.slice (some au) (rgN x k) cu), .int .i64 (rgK x k)] gx.out Try.underlying82 rfl uinfoRingI rfl ?_) | (with_reducible refine wpList_loadW rfl rfl rfl [(.slice (some av) (rgN y k) cv), .int .i64 (rgK y k)] (gy0.out _ F.below) Try.underlying82 rfl uinfoRingI rfl ?_) | (with_reducible refine wpList_loadG F rfl rfl rfl (by first | exact m0 | exact m1) Try.underlying82 rfl uinfoRingI rfl ?_)) | ((with_reducible refine at_loadV (ty := 82) rfl rfl ?_); (with_reducible refine wpList_loadGG F rfl rfl (by first | exact m0 | exact m1) Try.underlying82 rfl uinfoRingI rfl (by kernel_rfl) ?_)) | ((with_reducible refine at_store rfl ?_); (refine wpList_storeG F rfl rfl rfl rfl rfl uinfoRingI rfl (by first | exact one_head ou.out rfl | exact one_head ov.out rfl) ?_; clear F; intro W F zW; clear zW)) | (go_at_call 112; first | ((with_reducible refine (HR.out _ F.below).mono ?_); rintro e w1 ⟨rfl, hl⟩; replace F := F.le hl; clear hl) | ((with_reducible refine (HS.out _ F.below).mono ?_); rintro e w1 ⟨rfl, hl⟩; replace F := F.le hl; clear hl; have d0 := (F.row m1).cell? 0; have d1 := (F.row m0).cell? 0)))
        have HL1 := hid (le_trans HL.out F.below)
        go_roundw
        case rel => exact ⟨k + 1, by omega, by go_num, fun i hi => by rcases Nat.lt_or_ge i k with h | h; exact HJ.out i h; rw [show i = k by omega]; exact hb, HL1.out⟩
        case measure => simp [intOf]; omega
      · have hb : secOk x y k = false := by unfold secOk; rw [h1, h2]; simp [h3]
        clear h1 h2 hr hq n1 n2
        have h4 : (((rgN x k : Nat) : Int) != ((rgN y k : Nat) : Int)) = true := by simp; omega
        replace h3 := hid h3
        go_wp2_with (first | (with_reducible refine wpList_indexW0 rfl rfl rfl rfl Try.underlying46 uinfoRingI hlt ?_) | ((with_reducible refine at_loadU (ty := 82) rfl rfl ?_); first | (with_reducible refine wpList_loadW rfl rfl rfl [(.slice (some au) (rgN x k) cu), .int .i64 (rgK x k)] gx.out Try.underlying82 rfl uinfoRingI rfl ?_) | (with_reducible refine wpList_loadW rfl rfl rfl [(.slice (some av) (rgN y k) cv), .int .i64 (rgK y k)] (gy0.out _ F.below) Try.underlying82 rfl uinfoRingI rfl ?_) | (with_reducible refine wpList_loadG F rfl rfl rfl (by first | exact m0 | exact m1) Try.underlying82 rfl uinfoRingI rfl ?_)) | ((with_reducible refine at_loadV (ty := 82) rfl rfl ?_); (with_reducible refine wpList_loadGG F rfl rfl (by first | exact m0 | exact m1) Try.underlying82 rfl uinfoRingI rfl (by kernel_rfl) ?_)) | ((with_reducible refine at_store rfl ?_); (refine wpList_storeG F rfl rfl rfl rfl rfl uinfoRingI rfl (by first | exact one_head ou.out rfl | exact one_head ov.out rfl) ?_; clear F; intro W F zW; clear zW)) | (go_at_call 112; first | ((with_reducible refine (HR.out _ F.below).mono ?_); rintro e w1 ⟨rfl, hl⟩; replace F := F.le hl; clear hl) | ((with_reducible refine (HS.out _ F.below).mono ?_); rintro e w1 ⟨rfl, hl⟩; replace F := F.le hl; clear hl; have d0 := (F.row m1).cell? 0; have d1 := (F.row m0).cell? 0)))
        go_ret
        exact ⟨ret_b (allB_no (p := secOk x y) hlt hb).symm, le_trans HL.out F.below⟩
    · obtain rfl : k = n := by omega
      go_wp2
      go_ret
      exact ⟨ret_b (allB_yes HJ.out).symm, HL.out⟩
end Go.Proofs.Ytjcbolllohmjjaa

/- The kinds of filters as the program has them: 'modelOf', 'sizesOf'; 'ValidFilter' of both. -/
namespace Go.Proofs.Ytjcbolllohmjjaa
open Go.RowKit Go.Fk
/-- The value of a kind. -/
def mdl (k : Int) (a b c : Nat) : Value :=
  if k = 1 then .iface 143 (.agg #[.float .f32 a, .float .f32 b, .float .f32 c])
  else if k = 2 then .iface 144 (.agg #[.float .f32 a, .float .f32 b, .float .f32 c])
  else if k = 3 then .iface 145 (.agg #[.float .f32 a, .float .f32 b, .float .f32 c])
  else if k = 4 then .iface 146 (.agg #[.float .f32 a, .float .f32 b, .float .f32 c])
  else if k = 5 then .iface 147 (.agg #[.float .f32 a, .float .f32 b, .float .f32 c])
  else .nilIface
set_option maxRecDepth 100000 in
@[go_sem] theorem ta11 (v : Value) (w : World) : (Instr.typeAssert (.iface 143 v) 124 143 true).run Try.prog w = .ok (.tuple #[v, .bool true]) w := by rfl
set_option maxRecDepth 100000 in
@[go_sem] theorem ta12 (v : Value) (w : World) : (Instr.typeAssert (.iface 143 v) 124 144 true).run Try.prog w = .ok (.tuple #[.agg #[.float .f32 0, .float .f32 0, .float .f32 0], .bool false]) w := by rfl
set_option maxRecDepth 100000 in
@[go_sem] theorem ta13 (v : Value) (w : World) : (Instr.typeAssert (.iface 143 v) 124 145 true).run Try.prog w = .ok (.tuple #[.agg #[.float .f32 0, .float .f32 0, .float .f32 0], .bool false]) w := by rfl
set_option maxRecDepth 100000 in
@[go_sem] theorem ta15 (v : Value) (w : World) : (Instr.typeAssert (.iface 143 v) 124 147 true).run Try.prog w = .ok (.tuple #[.agg #[.float .f32 0, .float .f32 0, .float .f32 0], .bool false]) w := by rfl
set_option maxRecDepth 100000 in
@[go_sem] theorem ta21 (v : Value) (w : World) : (Instr.typeAssert (.iface 144 v) 124 143 true).run Try.prog w = .ok (.tuple #[.agg #[.float .f32 0, .float .f32 0, .float .f32 0], .bool false]) w := by rfl
set_option maxRecDepth 100000 in
@[go_sem] theorem ta22 (v : Value) (w : World) : (Instr.typeAssert (.iface 144 v) 124 144 true).run Try.prog w = .ok (.tuple #[v, .bool true]) w := by rfl
set_option maxRecDepth 100000 in
@[go_sem] theorem ta23 (v : Value) (w : World) : (Instr.typeAssert (.iface 144 v) 124 145 true).run Try.prog w = .ok (.tuple #[.agg #[.float .f32 0, .float .f32 0, .float .f32 0], .bool false]) w := by rfl
set_option maxRecDepth 100000 in
@[go_sem] theorem ta25 (v : Value) (w : World) : (Instr.typeAssert (.iface 144 v) 124 147 true).run Try.prog w = .ok (.tuple #[.agg #[.float .f32 0, .float .f32 0, .float .f32 0], .bool false]) w := by rfl
set_option maxRecDepth 100000 in
@[go_sem] theorem ta31 (v : Value) (w : World) : (Instr.typeAssert (.iface 145 v) 124 143 true).run Try.prog w = .ok (.tuple #[.agg #[.float .f32 0, .float .f32 0, .float .f32 0], .bool false]) w := by rfl
set_option maxRecDepth 100000 in
@[go_sem] theorem ta32 (v : Value) (w : World) : (Instr.typeAssert (.iface 145 v) 124 144 true).run Try.prog w = .ok (.tuple #[.agg #[.float .f32 0, .float .f32 0, .float .f32 0], .bool false]) w := by rfl
set_option maxRecDepth 100000 in
@[go_sem] theorem ta33 (v : Value) (w : World) : (Instr.typeAssert (.iface 145 v) 124 145 true).run Try.prog w = .ok (.tuple #[v, .bool true]) w := by rfl
set_option maxRecDepth 100000 in
@[go_sem] theorem ta35 (v : Value) (w : World) : (Instr.typeAssert (.iface 145 v) 124 147 true).run Try.prog w = .ok (.tuple #[.agg #[.float .f32 0, .float .f32 0, .float .f32 0], .bool false]) w := by rfl
set_option maxRecDepth 100000 in
@[go_sem] theorem ta41 (v : Value) (w : World) : (Instr.typeAssert (.iface 146 v) 124 143 true).run Try.prog w = .ok (.tuple #[.agg #[.float .f32 0, .float .f32 0, .float .f32 0], .bool false]) w := by rfl
set_option maxRecDepth 100000 in
@[go_sem] theorem ta42 (v : Value) (w : World) : (Instr.typeAssert (.iface 146 v) 124 144 true).run Try.prog w = .ok (.tuple #[.agg #[.float .f32 0, .float .f32 0, .float .f32 0], .bool false]) w := by rfl
set_option maxRecDepth 100000 in
@[go_sem] theorem ta43 (v : Value) (w : World) : (Instr.typeAssert (.iface 146 v) 124 145 true).run Try.prog w = .ok (.tuple #[.agg #[.float .f32 0, .float .f32 0, .float .f32 0], .bool false]) w := by rfl
set_option maxRecDepth 100000 in
@[go_sem] theorem ta45 (v : Value) (w : World) : (Instr.typeAssert (.iface 146 v) 124 147 true).run Try.prog w = .ok (.tuple #[.agg #[.float .f32 0, .float .f32 0, .float .f32 0], .bool false]) w := by rfl
set_option maxRecDepth 100000 in
@[go_sem] theorem ta51 (v : Value) (w : World) : (Instr.typeAssert (.iface 147 v) 124 143 true).run Try.prog w = .ok (.tuple #[.agg #[.float .f32 0, .float .f32 0, .float .f32 0], .bool false]) w := by rfl
set_option maxRecDepth 100000 in
@[go_sem] theorem ta52 (v : Value) (w : World) : (Instr.typeAssert (.iface 147 v) 124 144 true).run Try.prog w = .ok (.tuple #[.agg #[.float .f32 0, .float .f32 0, .float .f32 0], .bool false]) w := by rfl
set_option maxRecDepth 100000 in
@[go_sem] theorem ta53 (v : Value) (w : World) : (Instr.typeAssert (.iface 147 v) 124 145 true).run Try.prog w = .ok (.tuple #[.agg #[.float .f32 0, .float .f32 0, .float .f32 0], .bool false]) w := by rfl
set_option maxRecDepth 100000 in
@[go_sem] theorem ta55 (v : Value) (w : World) : (Instr.typeAssert (.iface 147 v) 124 147 true).run Try.prog w = .ok (.tuple #[v, .bool true]) w := by rfl
set_option maxRecDepth 100000 in
theorem mdl1 (a b c : Nat) : mdl 1 a b c = .iface 143 (.agg #[.float .f32 a, .float .f32 b, .float .f32 c]) := by simp [mdl]
theorem i_modelOf1 (a b c x y : Nat) (w : World) : Calls Try.prog 109 #[(.agg #[.int .i64 1, .float .f32 a, .float .f32 b, .float .f32 c, .float .f32 x, .float .f32 y])] w fun e w' => e = .returned (.iface 143 (.agg #[.float .f32 a, .float .f32 b, .float .f32 c])) ∧ Below w.heap.size w w' := by
  go_enter Try.func109, Try.ntmps109
  go_wp2
  go_ret
  exact ⟨rfl, by repeat' (first | (with_reducible exact Below.refl _ _) | (with_reducible assumption) | (with_reducible refine below_drewN ?_ _) | (with_reducible refine Below.alloc ?_ ?_ _) | (with_reducible refine Below.drew ?_) | (with_reducible refine Below.setCell ?_ ?_ _) | go_size)⟩
set_option maxRecDepth 100000 in
theorem i_sizesOf1 (v : Value) (w : World) : Calls Try.prog 110 #[.iface 143 v] w fun e w' => e = .returned (.tuple #[.int .i64 (cU 1), .int .i64 (sU 1)]) ∧ w = w' := by
  go_enter Try.func110, Try.ntmps110
  go_wp2
  go_ret2
  exact ⟨rfl, rfl⟩
set_option maxRecDepth 100000 in
theorem mdl2 (a b c : Nat) : mdl 2 a b c = .iface 144 (.agg #[.float .f32 a, .float .f32 b, .float .f32 c]) := by simp [mdl]
theorem i_modelOf2 (a b c x y : Nat) (w : World) : Calls Try.prog 109 #[(.agg #[.int .i64 2, .float .f32 a, .float .f32 b, .float .f32 c, .float .f32 x, .float .f32 y])] w fun e w' => e = .returned (.iface 144 (.agg #[.float .f32 a, .float .f32 b, .float .f32 c])) ∧ Below w.heap.size w w' := by
  go_enter Try.func109, Try.ntmps109
  go_wp2
  go_ret
  exact ⟨rfl, by repeat' (first | (with_reducible exact Below.refl _ _) | (with_reducible assumption) | (with_reducible refine below_drewN ?_ _) | (with_reducible refine Below.alloc ?_ ?_ _) | (with_reducible refine Below.drew ?_) | (with_reducible refine Below.setCell ?_ ?_ _) | go_size)⟩
set_option maxRecDepth 100000 in
theorem i_sizesOf2 (v : Value) (w : World) : Calls Try.prog 110 #[.iface 144 v] w fun e w' => e = .returned (.tuple #[.int .i64 (cU 2), .int .i64 (sU 2)]) ∧ w = w' := by
  go_enter Try.func110, Try.ntmps110
  go_wp2
  go_ret2
  exact ⟨rfl, rfl⟩
set_option maxRecDepth 100000 in
theorem mdl3 (a b c : Nat) : mdl 3 a b c = .iface 145 (.agg #[.float .f32 a, .float .f32 b, .float .f32 c]) := by simp [mdl]
theorem i_modelOf3 (a b c x y : Nat) (w : World) : Calls Try.prog 109 #[(.agg #[.int .i64 3, .float .f32 a, .float .f32 b, .float .f32 c, .float .f32 x, .float .f32 y])] w fun e w' => e = .returned (.iface 145 (.agg #[.float .f32 a, .float .f32 b, .float .f32 c])) ∧ Below w.heap.size w w' := by
  go_enter Try.func109, Try.ntmps109
  go_wp2
  go_ret
  exact ⟨rfl, by repeat' (first | (with_reducible exact Below.refl _ _) | (with_reducible assumption) | (with_reducible refine below_drewN ?_ _) | (with_reducible refine Below.alloc ?_ ?_ _) | (with_reducible refine Below.drew ?_) | (with_reducible refine Below.setCell ?_ ?_ _) | go_size)⟩
set_option maxRecDepth 100000 in
theorem i_sizesOf3 (v : Value) (w : World) : Calls Try.prog 110 #[.iface 145 v] w fun e w' => e = .returned (.tuple #[.int .i64 (cU 3), .int .i64 (sU 3)]) ∧ w = w' := by
  go_enter Try.func110, Try.ntmps110
  go_wp2
  go_ret2
  exact ⟨rfl, rfl⟩
set_option maxRecDepth 100000 in
theorem mdl4 (a b c : Nat) : mdl 4 a b c = .iface 146 (.agg #[.float .f32 a, .float .f32 b, .float .f32 c]) := by simp [mdl]
theorem i_modelOf4 (a b c x y : Nat) (w : World) : Calls Try.prog 109 #[(.agg #[.int .i64 4, .float .f32 a, .float .f32 b, .float .f32 c, .float .f32 x, .float .f32 y])] w fun e w' => e = .returned (.iface 146 (.agg #[.float .f32 a, .float .f32 b, .float .f32 c])) ∧ Below w.heap.size w w' := by
  go_enter Try.func109, Try.ntmps109
  go_wp2
  go_ret
  exact ⟨rfl, by repeat' (first | (with_reducible exact Below.refl _ _) | (with_reducible assumption) | (with_reducible refine below_drewN ?_ _) | (with_reducible refine Below.alloc ?_ ?_ _) | (with_reducible refine Below.drew ?_) | (with_reducible refine Below.setCell ?_ ?_ _) | go_size)⟩
set_option maxRecDepth 100000 in
theorem i_sizesOf4 (v : Value) (w : World) : Calls Try.prog 110 #[.iface 146 v] w fun e w' => e = .returned (.tuple #[.int .i64 (cU 4), .int .i64 (sU 4)]) ∧ w = w' := by
  go_enter Try.func110, Try.ntmps110
  go_wp2
  go_ret2
  exact ⟨rfl, rfl⟩
set_option maxRecDepth 100000 in
theorem mdl5 (a b c : Nat) : mdl 5 a b c = .iface 147 (.agg #[.float .f32 a, .float .f32 b, .float .f32 c]) := by simp [mdl]
theorem i_modelOf5 (a b c x y : Nat) (w : World) : Calls Try.prog 109 #[(.agg #[.int .i64 5, .float .f32 a, .float .f32 b, .float .f32 c, .float .f32 x, .float .f32 y])] w fun e w' => e = .returned (.iface 147 (.agg #[.float .f32 a, .float .f32 b, .float .f32 c])) ∧ Below w.heap.size w w' := by
  go_enter Try.func109, Try.ntmps109
  go_wp2
  go_ret
  exact ⟨rfl, by repeat' (first | (with_reducible exact Below.refl _ _) | (with_reducible assumption) | (with_reducible refine below_drewN ?_ _) | (with_reducible refine Below.alloc ?_ ?_ _) | (with_reducible refine Below.drew ?_) | (with_reducible refine Below.setCell ?_ ?_ _) | go_size)⟩
set_option maxRecDepth 100000 in
theorem i_sizesOf5 (v : Value) (w : World) : Calls Try.prog 110 #[.iface 147 v] w fun e w' => e = .returned (.tuple #[.int .i64 (cU 5), .int .i64 (sU 5)]) ∧ w = w' := by
  go_enter Try.func110, Try.ntmps110
  go_wp2
  go_ret2
  exact ⟨rfl, rfl⟩
set_option maxRecDepth 100000 in
theorem mdl_no {k : Int} (h : ¬ (1 ≤ k ∧ k ≤ 5)) (a b c : Nat) : mdl k a b c = .nilIface := by
  unfold mdl
  rw [if_neg (by omega), if_neg (by omega), if_neg (by omega), if_neg (by omega), if_neg (by omega)]
set_option maxRecDepth 100000 in
theorem i_modelOf_no (k : Int) (a b c x y : Nat) (w : World) (h : ¬ (1 ≤ k ∧ k ≤ 5)) : Calls Try.prog 109 #[(.agg #[.int .i64 k, .float .f32 a, .float .f32 b, .float .f32 c, .float .f32 x, .float .f32 y])] w fun e w' => e = .returned .nilIface ∧ Below w.heap.size w w' := by
  have h1 : ((k : Int) == 1) = false := by simp only [beq_eq_false_iff_ne]; omega
  have h2 : ((k : Int) == 2) = false := by simp only [beq_eq_false_iff_ne]; omega
  have h3 : ((k : Int) == 3) = false := by simp only [beq_eq_false_iff_ne]; omega
  have h4 : ((k : Int) == 4) = false := by simp only [beq_eq_false_iff_ne]; omega
  have h5 : ((k : Int) == 5) = false := by simp only [beq_eq_false_iff_ne]; omega
  clear h
  go_enter Try.func109, Try.ntmps109
  go_wp2
  go_ret
  exact ⟨rfl, by repeat' (first | (with_reducible exact Below.refl _ _) | (with_reducible assumption) | (with_reducible refine below_drewN ?_ _) | (with_reducible refine Below.alloc ?_ ?_ _) | (with_reducible refine Below.drew ?_) | (with_reducible refine Below.setCell ?_ ?_ _) | go_size)⟩
set_option maxRecDepth 100000 in
theorem i_modelOf (k : Int) (a b c x y : Nat) (w : World) : Calls Try.prog 109 #[(.agg #[.int .i64 k, .float .f32 a, .float .f32 b, .float .f32 c, .float .f32 x, .float .f32 y])] w fun e w' => e = .returned (mdl k a b c) ∧ Below w.heap.size w w' := by
  by_cases h : 1 ≤ k ∧ k ≤ 5
  · rcases (show k = 1 ∨ k = 2 ∨ k = 3 ∨ k = 4 ∨ k = 5 by omega) with rfl | rfl | rfl | rfl | rfl
    · rw [mdl1]; exact i_modelOf1 a b c x y w
    · rw [mdl2]; exact i_modelOf2 a b c x y w
    · rw [mdl3]; exact i_modelOf3 a b c x y w
    · rw [mdl4]; exact i_modelOf4 a b c x y w
    · rw [mdl5]; exact i_modelOf5 a b c x y w
  · rw [mdl_no h]; exact i_modelOf_no k a b c x y w h
set_option maxRecDepth 100000 in
theorem i_ValidFilter_no (k : Int) (a b c x y : Nat) (w : World) (h : ¬ (1 ≤ k ∧ k ≤ 5)) : Calls Try.prog 67 #[(.agg #[.int .i64 k, .float .f32 a, .float .f32 b, .float .f32 c, .float .f32 x, .float .f32 y])] w fun e w' => e = .returned (.bool false) ∧ Below w.heap.size w w' := by
  go_enter Try.func67, Try.ntmps67
  go_wp2_with (first | (go_at_call 109; refine (i_modelOf_no _ _ _ _ _ _ _ h).mono ?_; rintro e w' ⟨rfl, hb⟩))
  go_ret
  exact ⟨rfl, le_trans (le_alloc w _) hb⟩
set_option maxRecDepth 100000 in
set_option maxHeartbeats 1000000 in
theorem i_ValidFilter1 (a b c x y : Nat) (w : World) (fa : fits .f32 a) (fb : fits .f32 b) (fc : fits .f32 c) (fx : fits .f32 x) (fy : fits .f32 y) : Calls Try.prog 67 #[(.agg #[.int .i64 1, .float .f32 a, .float .f32 b, .float .f32 c, .float .f32 x, .float .f32 y])] w fun e w' => e = .returned (.bool (usedB (tri a b c) 3 (cU 1) && usedB (duo x y) 2 (sU 1))) ∧ Below w.heap.size w w' := by
  have F3 := hid (fits_tri fa fb fc)
  have F2 := hid (fits_duo fx fy)
  clear fa fb fc fx fy
  have F := (Frm.nil w).box 47 (#[.int .i64 1, .float .f32 a, .float .f32 b, .float .f32 c, .float .f32 x, .float .f32 y] : Array Value)
  cases h1 : usedB (tri a b c) 3 (cU 1) <;> cases h2 : usedB (duo x y) 2 (sU 1)
  all_goals
    have H1 := hid h1
    have H2 := hid h2
    clear h1 h2
    go_enter Try.func67, Try.ntmps67
    go_wp2_with (first | (go_at_call 109; refine (i_modelOf1 _ _ _ _ _ _).mono ?_; rintro e w' ⟨rfl, hb⟩; replace F := F.le hb; have R := hid (F.row List.mem_cons_self)) | (go_at_call 110; refine (i_sizesOf1 _ _).mono ?_; rintro e w' ⟨rfl, rfl⟩) | (go_at_call 111; (with_reducible refine (i_areUsed (tri a b c) _ 1 3 (cU 1) _ (by omega) (cU_le _) F3.out (fun i hi => R.out.tri i hi)).mono ?_); rw [H1.out]; rintro e w' ⟨rfl, rfl⟩) | (go_at_call 111; (with_reducible refine (i_areUsed (duo x y) _ 4 2 (sU 1) _ (by omega) (sU_le _) F2.out (fun i hi => R.out.duo i hi)).mono ?_); rw [H2.out]; rintro e w' ⟨rfl, rfl⟩))
    go_ret
    exact ⟨rfl, F.below⟩
set_option maxRecDepth 100000 in
set_option maxHeartbeats 1000000 in
theorem i_ValidFilter2 (a b c x y : Nat) (w : World) (fa : fits .f32 a) (fb : fits .f32 b) (fc : fits .f32 c) (fx : fits .f32 x) (fy : fits .f32 y) : Calls Try.prog 67 #[(.agg #[.int .i64 2, .float .f32 a, .float .f32 b, .float .f32 c, .float .f32 x, .float .f32 y])] w fun e w' => e = .returned (.bool (usedB (tri a b c) 3 (cU 2) && usedB (duo x y) 2 (sU 2))) ∧ Below w.heap.size w w' := by
  have F3 := hid (fits_tri fa fb fc)
  have F2 := hid (fits_duo fx fy)
  clear fa fb fc fx fy
  have F := (Frm.nil w).box 47 (#[.int .i64 2, .float .f32 a, .float .f32 b, .float .f32 c, .float .f32 x, .float .f32 y] : Array Value)
  cases h1 : usedB (tri a b c) 3 (cU 2) <;> cases h2 : usedB (duo x y) 2 (sU 2)
  all_goals
    have H1 := hid h1
    have H2 := hid h2
    clear h1 h2
    go_enter Try.func67, Try.ntmps67
    go_wp2_with (first | (go_at_call 109; refine (i_modelOf2 _ _ _ _ _ _).mono ?_; rintro e w' ⟨rfl, hb⟩; replace F := F.le hb; have R := hid (F.row List.mem_cons_self)) | (go_at_call 110; refine (i_sizesOf2 _ _).mono ?_; rintro e w' ⟨rfl, rfl⟩) | (go_at_call 111; (with_reducible refine (i_areUsed (tri a b c) _ 1 3 (cU 2) _ (by omega) (cU_le _) F3.out (fun i hi => R.out.tri i hi)).mono ?_); rw [H1.out]; rintro e w' ⟨rfl, rfl⟩) | (go_at_call 111; (with_reducible refine (i_areUsed (duo x y) _ 4 2 (sU 2) _ (by omega) (sU_le _) F2.out (fun i hi => R.out.duo i hi)).mono ?_); rw [H2.out]; rintro e w' ⟨rfl, rfl⟩))
    go_ret
    exact ⟨rfl, F.below⟩
set_option maxRecDepth 100000 in
set_option maxHeartbeats 1000000 in
theorem i_ValidFilter3 (a b c x y : Nat) (w : World) (fa : fits .f32 a) (fb : fits .f32 b) (fc : fits .f32 c) (fx : fits .f32 x) (fy : fits .f32 y) : Calls Try.prog 67 #[(.agg #[.int .i64 3, .float .f32 a, .float .f32 b, .float .f32 c, .float .f32 x, .float .f32 y])] w fun e w' => e = .returned (.bool (usedB (tri a b c) 3 (cU 3) && usedB (duo x y) 2 (sU 3))) ∧ Below w.heap.size w w' := by
  have F3 := hid (fits_tri fa fb fc)
  have F2 := hid (fits_duo fx fy)
  clear fa fb fc fx fy
  have F := (Frm.nil w).box 47 (#[.int .i64 3, .float .f32 a, .float .f32 b, .float .f32 c, .float .f32 x, .float .f32 y] : Array Value)
  cases h1 : usedB (tri a b c) 3 (cU 3) <;> cases h2 : usedB (duo x y) 2 (sU 3)
  all_goals
    have H1 := hid h1
    have H2 := hid h2
    clear h1 h2
    go_enter Try.func67, Try.ntmps67
    go_wp2_with (first | (go_at_call 109; refine (i_modelOf3 _ _ _ _ _ _).mono ?_; rintro e w' ⟨rfl, hb⟩; replace F := F.le hb; have R := hid (F.row List.mem_cons_self)) | (go_at_call 110; refine (i_sizesOf3 _ _).mono ?_; rintro e w' ⟨rfl, rfl⟩) | (go_at_call 111; (with_reducible refine (i_areUsed (tri a b c) _ 1 3 (cU 3) _ (by omega) (cU_le _) F3.out (fun i hi => R.out.tri i hi)).mono ?_); rw [H1.out]; rintro e w' ⟨rfl, rfl⟩) | (go_at_call 111; (with_reducible refine (i_areUsed (duo x y) _ 4 2 (sU 3) _ (by omega) (sU_le _) F2.out (fun i hi => R.out.duo i hi)).mono ?_); rw [H2.out]; rintro e w' ⟨rfl, rfl⟩))
    go_ret
    exact ⟨rfl, F.below⟩
set_option maxRecDepth 100000 in
set_option maxHeartbeats 1000000 in
theorem i_ValidFilter4 (a b c x y : Nat) (w : World) (fa : fits .f32 a) (fb : fits .f32 b) (fc : fits .f32 c) (fx : fits .f32 x) (fy : fits .f32 y) : Calls Try.prog 67 #[(.agg #[.int .i64 4, .float .f32 a, .float .f32 b, .float .f32 c, .float .f32 x, .float .f32 y])] w fun e w' => e = .returned (.bool (usedB (tri a b c) 3 (cU 4) && usedB (duo x y) 2 (sU 4))) ∧ Below w.heap.size w w' := by
  have F3 := hid (fits_tri fa fb fc)
  have F2 := hid (fits_duo fx fy)
  clear fa fb fc fx fy
  have F := (Frm.nil w).box 47 (#[.int .i64 4, .float .f32 a, .float .f32 b, .float .f32 c, .float .f32 x, .float .f32 y] : Array Value)
  cases h1 : usedB (tri a b c) 3 (cU 4) <;> cases h2 : usedB (duo x y) 2 (sU 4)
  all_goals
    have H1 := hid h1
    have H2 := hid h2
    clear h1 h2
    go_enter Try.func67, Try.ntmps67
    go_wp2_with (first | (go_at_call 109; refine (i_modelOf4 _ _ _ _ _ _).mono ?_; rintro e w' ⟨rfl, hb⟩; replace F := F.le hb; have R := hid (F.row List.mem_cons_self)) | (go_at_call 110; refine (i_sizesOf4 _ _).mono ?_; rintro e w' ⟨rfl, rfl⟩) | (go_at_call 111; (with_reducible refine (i_areUsed (tri a b c) _ 1 3 (cU 4) _ (by omega) (cU_le _) F3.out (fun i hi => R.out.tri i hi)).mono ?_); rw [H1.out]; rintro e w' ⟨rfl, rfl⟩) | (go_at_call 111; (with_reducible refine (i_areUsed (duo x y) _ 4 2 (sU 4) _ (by omega) (sU_le _) F2.out (fun i hi => R.out.duo i hi)).mono ?_); rw [H2.out]; rintro e w' ⟨rfl, rfl⟩))
    go_ret
    exact ⟨rfl, F.below⟩
set_option maxRecDepth 100000 in
set_option maxHeartbeats 1000000 in
theorem i_ValidFilter5 (a b c x y : Nat) (w : World) (fa : fits .f32 a) (fb : fits .f32 b) (fc : fits .f32 c) (fx : fits .f32 x) (fy : fits .f32 y) : Calls Try.prog 67 #[(.agg #[.int .i64 5, .float .f32 a, .float .f32 b, .float .f32 c, .float .f32 x, .float .f32 y])] w fun e w' => e = .returned (.bool (usedB (tri a b c) 3 (cU 5) && usedB (duo x y) 2 (sU 5))) ∧ Below w.heap.size w w' := by
  have F3 := hid (fits_tri fa fb fc)
  have F2 := hid (fits_duo fx fy)
  clear fa fb fc fx fy
  have F := (Frm.nil w).box 47 (#[.int .i64 5, .float .f32 a, .float .f32 b, .float .f32 c, .float .f32 x, .float .f32 y] : Array Value)
  cases h1 : usedB (tri a b c) 3 (cU 5) <;> cases h2 : usedB (duo x y) 2 (sU 5)
  all_goals
    have H1 := hid h1
    have H2 := hid h2
    clear h1 h2
    go_enter Try.func67, Try.ntmps67
    go_wp2_with (first | (go_at_call 109; refine (i_modelOf5 _ _ _ _ _ _).mono ?_; rintro e w' ⟨rfl, hb⟩; replace F := F.le hb; have R := hid (F.row List.mem_cons_self)) | (go_at_call 110; refine (i_sizesOf5 _ _).mono ?_; rintro e w' ⟨rfl, rfl⟩) | (go_at_call 111; (with_reducible refine (i_areUsed (tri a b c) _ 1 3 (cU 5) _ (by omega) (cU_le _) F3.out (fun i hi => R.out.tri i hi)).mono ?_); rw [H1.out]; rintro e w' ⟨rfl, rfl⟩) | (go_at_call 111; (with_reducible refine (i_areUsed (duo x y) _ 4 2 (sU 5) _ (by omega) (sU_le _) F2.out (fun i hi => R.out.duo i hi)).mono ?_); rw [H2.out]; rintro e w' ⟨rfl, rfl⟩))
    go_ret
    exact ⟨rfl, F.below⟩
set_option maxRecDepth 100000 in
theorem i_ValidFilter (k : Int) (a b c x y : Nat) (w : World) (hf : fits .f32 a ∧ fits .f32 b ∧ fits .f32 c ∧ fits .f32 x ∧ fits .f32 y) : Calls Try.prog 67 #[(.agg #[.int .i64 k, .float .f32 a, .float .f32 b, .float .f32 c, .float .f32 x, .float .f32 y])] w fun e w' => e = .returned (.bool (okF k a b c x y)) ∧ Below w.heap.size w w' := by
  obtain ⟨fa, fb, fc, fx, fy⟩ := hf
  by_cases h : 1 ≤ k ∧ k ≤ 5
  · have E : okF k a b c x y = (usedB (tri a b c) 3 (cU k) && usedB (duo x y) 2 (sU k)) := by simp [okF, h.1, h.2]
    rw [E]
    rcases (show k = 1 ∨ k = 2 ∨ k = 3 ∨ k = 4 ∨ k = 5 by omega) with rfl | rfl | rfl | rfl | rfl
    · exact i_ValidFilter1 a b c x y w fa fb fc fx fy
    · exact i_ValidFilter2 a b c x y w fa fb fc fx fy
    · exact i_ValidFilter3 a b c x y w fa fb fc fx fy
    · exact i_ValidFilter4 a b c x y w fa fb fc fx fy
    · exact i_ValidFilter5 a b c x y w fa fb fc fx fy
  · rw [okF_out h]; exact i_ValidFilter_no k a b c x y w h
end Go.Proofs.Ytjcbolllohmjjaa

/- Steps of a region that draws its order: guarded operations, loads of one cell, addresses of elements, new rows, lengths. Nothing here names a program. -/
namespace Go.Fk
open Go Go.RowKit
section
variable {E : Ext} {P : Program} {ops : Array Oper} {W : World} {K : FuncId → Array Value → World → Value → Prop} {Q : Act → World → Prop} {F : Facts} {k : Nat} {o : Oper} {rest : List Oper} {a : Act}
theorem wpFreeD_oneW (hw : Region.wanted o (yielded ops a.tmps) = true) (v : Value) (hr : ∀ w, E.R W w → (execOp a.eval o).run P w = .ok (.value v) w)
    (h : wpFreeD E P ops .any W K Q rest (k + 1) (a.put o.dst v) (F.with k (fun _ => True))) : wpFreeD E P ops .any W K Q (o :: rest) k a F := by
  refine ⟨fun _ u => u = v, ⟨fun _ _ _ _ h => h, .inl ⟨hw, fun w hw _ => ?_⟩⟩, fun u hu => ?_⟩
  · rw [hr w hw]; exact ⟨E.refl w, rfl⟩
  · obtain ⟨w, _, _, rfl⟩ := hu
    exact wpFreeD_weaken _ _ _ _ _ (fun e w h => ⟨h.1, fun _ => trivial⟩) h
theorem wpFreeD_skip (hw : Region.wanted o (yielded ops a.tmps) = false)
    (h : wpFreeD E P ops .any W K Q rest (k + 1) (a.put o.dst undef) (F.with k (fun _ => True))) : wpFreeD E P ops .any W K Q (o :: rest) k a F := by
  refine ⟨fun _ u => u = undef, ⟨fun _ _ _ _ h => h, .inr ⟨hw, fun w _ _ => rfl⟩⟩, fun u hu => ?_⟩
  obtain ⟨w, _, _, rfl⟩ := hu
  exact wpFreeD_weaken _ _ _ _ _ (fun e w h => ⟨h.1, fun _ => trivial⟩) h
theorem wpFreeD_callW (hw : Region.wanted o (yielded ops a.tmps) = true) {f : FuncId} {xs : Array Operand} {ts : Array TypeId} (hop : o.op = Op.call { callee := Callee.value (Operand.func f), args := xs, argTypes := ts }) {fn : Func} (hf : P.funcs[f]? = some fn)
    (hb : fn.body.isNone = false) (hn : (fn.name == "runtime.NumGoroutine") = false) {args : Array Value} (ha : xs.map a.eval = args) (hm : MonoT E (K f args))
    (h1 : ∀ w, E.R W w → behind .any o F w → Calls P f args w (fun e w' => ∃ v, e = .returned v ∧ le w w' ∧ K f args w' v)) (h2 : ∀ v, (∃ w, E.R W w ∧ (∀ e, F e w) ∧ K f args w v) → wpFreeD E P ops .any W K Q rest (k + 1) (a.put o.dst v) (F.with k (fun w => K f args w v))) : wpFreeD E P ops .any W K Q (o :: rest) k a F := by
  refine ⟨K f args, ⟨hm, .inl ⟨hw, fun w hw hbe => ?_⟩⟩, fun v hv => h2 v hv⟩
  rw [run_enter hop hf hb hn ha]
  refine ⟨E.refl w, (h1 w hw hbe).mono ?_, fun _ _ h => h⟩
  rintro e w' ⟨v, rfl, hl, hk⟩
  exact ⟨v, rfl, E.of_le hl, hk⟩
theorem wpFreeD_madeW (hwt : Region.wanted o (yielded ops a.tmps) = true) (f : Nat → Value) (t : TypeId) (cs : Array Value) (hr : ∀ w, (execOp a.eval o).run P w = .ok (.value (f w.heap.size)) (w.alloc (.cells cs t)))
    (h : ∀ b, wpFreeD leX P ops .any W K Q rest (k + 1) (a.put o.dst (f b)) (F.with k (fun w => ∃ b', f b = f b' ∧ Row w b' t cs))) : wpFreeD leX P ops .any W K Q (o :: rest) k a F := by
  refine ⟨fun w v => ∃ b', v = f b' ∧ Row w b' t cs, ⟨fun v w w' hw hv => ?_, .inl ⟨hwt, fun w hw _ => ?_⟩⟩, fun v hv => ?_⟩
  · obtain ⟨b', e, hrow⟩ := hv
    exact ⟨b', e, hrow.le hw⟩
  · rw [hr w]
    exact ⟨le_alloc w _, w.heap.size, rfl, Row.new w t cs⟩
  · obtain ⟨w, _, _, b, rfl, _⟩ := hv
    exact h b
theorem wpFreeD_load1 (hg : o.guard = none) {ty : TypeId} {x : Operand} (hop : o.op = .load ty x) {p : Addr} (hx : a.eval x = .pointer (some p)) {v : Value} (hv : ∀ w, E.R W w → w.cell? p = some v) (hu : ∀ w, (isAgg ty).run P w = .ok false w)
    (h : wpFreeD E P ops .any W K Q rest (k + 1) (a.put o.dst v) (F.with k (fun _ => True))) : wpFreeD E P ops .any W K Q (o :: rest) k a F := by
  refine wpFreeD_one hg v (fun w hw => ?_) h
  have hl : (Instr.loadAt ty (.pointer (some p))).run P w = .ok v w := by
    simp [Instr.loadAt, Instr.sureAddr, loadVar, hu, hv w hw]
  simp [execOp, hop, hx, hl, Result.andThen]
theorem wpFreeD_load1W (hw : Region.wanted o (yielded ops a.tmps) = true) {ty : TypeId} {x : Operand} (hop : o.op = .load ty x) {p : Addr} (hx : a.eval x = .pointer (some p)) {v : Value} (hv : ∀ w, E.R W w → w.cell? p = some v) (hu : ∀ w, (isAgg ty).run P w = .ok false w)
    (h : wpFreeD E P ops .any W K Q rest (k + 1) (a.put o.dst v) (F.with k (fun _ => True))) : wpFreeD E P ops .any W K Q (o :: rest) k a F := by
  refine wpFreeD_oneW hw v (fun w hw => ?_) h
  have hl : (Instr.loadAt ty (.pointer (some p))).run P w = .ok v w := by
    simp [Instr.loadAt, Instr.sureAddr, loadVar, hu, hv w hw]
  simp [execOp, hop, hx, hl, Result.andThen]
theorem wpFreeD_indexW0 (hg : o.guard = none) {t : TypeId} {x y : Operand} (hop : o.op = .indexAddr t x y) {b off n cap sz i : Nat} {kk : IntKind} {e : TypeId} (hx : a.eval x = .slice (some ⟨b, off, none⟩) n cap) (hy : a.eval y = .int kk (i : Int)) (hu : P.underlying t = some (.slice e)) (hs : (P.info? e).map (·.size) = some sz) (hi : i < n)
    (h : wpFreeD E P ops .any W K Q rest (k + 1) (a.put o.dst (.pointer (some ⟨b, off + i * sz, none⟩))) (F.with k (fun _ => True))) : wpFreeD E P ops .any W K Q (o :: rest) k a F :=
  wpFreeD_indexW hg hop hx hy hu hs hi (by rw [add_none]; exact h)
theorem wpFreeD_lenR (hg : o.guard = none) {x : Operand} {t : TypeId} (hop : o.op = Op.call { callee := Callee.builtin Builtin.len, args := #[x], argTypes := #[t] }) {v : Value} (hx : a.eval x = v) {e : TypeId} (hu : P.underlying t = some (.slice e)) {w1 : World} {B : Nat} {y : Nat → Nat} {n : Nat} (hv : RdS w1 B v y n)
    (h : wpFreeD E P ops .any W K Q rest (k + 1) (a.put o.dst (.int .i64 n)) (F.with k (fun _ => True))) : wpFreeD E P ops .any W K Q (o :: rest) k a F := by
  refine wpFreeD_one hg (.int .i64 n) (fun w _ => ?_) h
  rcases hv.form with ⟨rfl, rfl⟩ | ⟨ad, cap, rfl, _, _⟩
  all_goals
    simp [execOp, hop, hx, Result.andThen, resolve, invoke, builtin, Builtin.len_, run_underlying hu]
    try rfl
end
end Go.Fk

/- 'ValidPipe' of both. -/
namespace Go.Fk
open Go Go.RowKit
/-- Is a pipe valid? -/
def okP (nR nL nS : Nat) (xR xL : Nat → CD) (yS : Nat → Nat) (k : Int) (a b c x y l r s : Nat) : Bool := decide (1 ≤ nR) && decide (nR ≤ 3) && (nL == nR) && (nS + 1 == nR) && (k == 1) && okF k a b c x y && fin l && fin r && fin s && scB yS nS && allB (secOk xR xL) nR
theorem okP_sec {nR nL nS : Nat} {xR xL : Nat → CD} {yS : Nat → Nat} {k : Int} {a b c x y l r s : Nat} (h : allB (secOk xR xL) nR = false) : okP nR nL nS xR xL yS k a b c x y l r s = false := by unfold okP; rw [h, Bool.and_false]
end Go.Fk
namespace Go.Proofs.Ytjcbolllohmjjaa
open Go.RowKit Go.Fk
set_option maxRecDepth 100000 in
set_option maxHeartbeats 4000000 in
theorem i_ValidPipe (B : Nat) (v0 v1 v2 : Value) (nR nL nS : Nat) (xR xL : Nat → CD) (yS : Nat → Nat) (k : Int) (a b c x y : Nat) (op : Bool) (l r s : Nat) (w : World) (h0 : (CD.sl 2 nR xR).RdN w B v0) (h1 : (CD.sl 2 nL xL).RdN w B v1) (h2 : RdS w B v2 yS nS) (p0 : RgsOk xR nR) (p1 : RgsOk xL nL) (hf : fits .f32 a ∧ fits .f32 b ∧ fits .f32 c ∧ fits .f32 x ∧ fits .f32 y) (hg : fits .f32 l ∧ fits .f32 r ∧ fits .f32 s) :
    Calls Try.prog 31 #[.agg #[v0, v1, v2, .int .i64 k, .float .f32 a, .float .f32 b, .float .f32 c, .float .f32 x, .float .f32 y, .bool op, .float .f32 l, .float .f32 r, .float .f32 s]] w (Out_b (okP nR nL nS xR xL yS k a b c x y l r s) w) := by
  have L0 := hid h0.rd; have L1 := hid h1.rd; have L2 := hid h2
  have F := (Frg.nil w).box 49 #[v0, v1, v2, .int .i64 k, .float .f32 a, .float .f32 b, .float .f32 c, .float .f32 x, .float .f32 y, .bool op, .float .f32 l, .float .f32 r, .float .f32 s]
  have HV := hid (fun w' => i_ValidFilter k a b c x y w' hf)
  have HL := hid (fun w' => i_isFinite l w' hg.1)
  have HR := hid (fun w' => i_isFinite r w' hg.2.1)
  have HS := hid (fun w' => i_isFinite s w' hg.2.2)
  have HC := hid (fun (w' : World) (hl : le w w') => i_areScatters B v2 yS nS w' (h2.le hl))
  have S0 := h0.rd.small; have S1 := h1.rd.small; have S2 := h2.small
  clear hf hg h2
  by_cases g1 : nR < 1
  · have E : okP nR nL nS xR xL yS k a b c x y l r s = false := by unfold okP; rw [decide_eq_false (by omega)]; rfl
    have q1 : (nR : Int) < 1 := by omega
    rw [E]
    clear E h0 h1 p0 p1
    go_enter Try.func31, Try.ntmps31
    go_wp2_with (first | ((with_reducible refine listN F ?_); clear F; intro wN F) | ((with_reducible refine at_load rfl ?_); first | (with_reducible refine wpList_load1 F rfl rfl rfl (by first | exact m0) (f := 0) (v := v0) rfl ukindRingSI ?_) | (with_reducible refine wpList_load1 F rfl rfl rfl (by first | exact m0) (f := 1) (v := v1) rfl ukindRingSI ?_) | (with_reducible refine wpList_load1 F rfl rfl rfl (by first | exact m0) (f := 2) (v := v2) rfl ukindFloat32S ?_) | (with_reducible refine wpList_loadGP F rfl rfl rfl (by first | exact m0) Try.underlying47 rfl [.int .i64 k, .float .f32 a, .float .f32 b, .float .f32 c, .float .f32 x, .float .f32 y] (partPipe_End (v0) (v1) (v2) (.int .i64 k) (.float .f32 a) (.float .f32 b) (.float .f32 c) (.float .f32 x) (.float .f32 y) (.bool op) (.float .f32 l) (.float .f32 r) (.float .f32 s)) uinfoFilterI rfl ?_) | (with_reducible refine wpList_load1 F rfl rfl rfl (by first | exact m0) (f := 9) (v := .bool op) rfl ukindBool ?_) | (with_reducible refine wpList_load1 F rfl rfl rfl (by first | exact m0) (f := 10) (v := .float .f32 l) rfl ukindFloat32 ?_) | (with_reducible refine wpList_load1 F rfl rfl rfl (by first | exact m0) (f := 11) (v := .float .f32 r) rfl ukindFloat32 ?_) | (with_reducible refine wpList_load1 F rfl rfl rfl (by first | exact m0) (f := 12) (v := .float .f32 s) rfl ukindFloat32 ?_) | (with_reducible refine wpList_load1 F rfl rfl rfl m0 (f := 3) (v := .int .i64 k) rfl ukindInt64 ?_)) | (with_reducible refine wpList_lenC rfl rfl rfl Try.underlying46 L0.out ?_) | (with_reducible refine wpList_lenC rfl rfl rfl Try.underlying46 L1.out ?_) | (with_reducible refine wpList_lenR rfl rfl rfl Try.underlying30 L2.out ?_))
    go_ret
    exact ⟨rfl, F.below⟩
  have q1 : ¬ (nR : Int) < 1 := by omega
  by_cases g2 : 3 < nR
  · have E : okP nR nL nS xR xL yS k a b c x y l r s = false := by unfold okP; rw [decide_eq_false (p := nR ≤ 3) (by omega), Bool.and_false]; rfl
    have q2 : (3 : Int) < nR := by omega
    rw [E]
    clear E h0 h1 p0 p1
    go_enter Try.func31, Try.ntmps31
    go_wp2_with (first | ((with_reducible refine listN F ?_); clear F; intro wN F) | ((with_reducible refine at_load rfl ?_); first | (with_reducible refine wpList_load1 F rfl rfl rfl (by first | exact m0) (f := 0) (v := v0) rfl ukindRingSI ?_) | (with_reducible refine wpList_load1 F rfl rfl rfl (by first | exact m0) (f := 1) (v := v1) rfl ukindRingSI ?_) | (with_reducible refine wpList_load1 F rfl rfl rfl (by first | exact m0) (f := 2) (v := v2) rfl ukindFloat32S ?_) | (with_reducible refine wpList_loadGP F rfl rfl rfl (by first | exact m0) Try.underlying47 rfl [.int .i64 k, .float .f32 a, .float .f32 b, .float .f32 c, .float .f32 x, .float .f32 y] (partPipe_End (v0) (v1) (v2) (.int .i64 k) (.float .f32 a) (.float .f32 b) (.float .f32 c) (.float .f32 x) (.float .f32 y) (.bool op) (.float .f32 l) (.float .f32 r) (.float .f32 s)) uinfoFilterI rfl ?_) | (with_reducible refine wpList_load1 F rfl rfl rfl (by first | exact m0) (f := 9) (v := .bool op) rfl ukindBool ?_) | (with_reducible refine wpList_load1 F rfl rfl rfl (by first | exact m0) (f := 10) (v := .float .f32 l) rfl ukindFloat32 ?_) | (with_reducible refine wpList_load1 F rfl rfl rfl (by first | exact m0) (f := 11) (v := .float .f32 r) rfl ukindFloat32 ?_) | (with_reducible refine wpList_load1 F rfl rfl rfl (by first | exact m0) (f := 12) (v := .float .f32 s) rfl ukindFloat32 ?_) | (with_reducible refine wpList_load1 F rfl rfl rfl m0 (f := 3) (v := .int .i64 k) rfl ukindInt64 ?_)) | (with_reducible refine wpList_lenC rfl rfl rfl Try.underlying46 L0.out ?_) | (with_reducible refine wpList_lenC rfl rfl rfl Try.underlying46 L1.out ?_) | (with_reducible refine wpList_lenR rfl rfl rfl Try.underlying30 L2.out ?_))
    go_ret
    exact ⟨rfl, F.below⟩
  have q2 : ¬ (3 : Int) < nR := by omega
  cases g3 : (nL == nR)
  · have E : okP nR nL nS xR xL yS k a b c x y l r s = false := by unfold okP; rw [g3]; simp
    have q3 : (((nL : Nat) : Int) != ((nR : Nat) : Int)) = true := by simp only [beq_eq_false_iff_ne] at g3; simp; omega
    rw [E]
    clear E h0 h1 p0 p1 g3
    go_enter Try.func31, Try.ntmps31
    go_wp2_with (first | ((with_reducible refine listN F ?_); clear F; intro wN F) | ((with_reducible refine at_load rfl ?_); first | (with_reducible refine wpList_load1 F rfl rfl rfl (by first | exact m0) (f := 0) (v := v0) rfl ukindRingSI ?_) | (with_reducible refine wpList_load1 F rfl rfl rfl (by first | exact m0) (f := 1) (v := v1) rfl ukindRingSI ?_) | (with_reducible refine wpList_load1 F rfl rfl rfl (by first | exact m0) (f := 2) (v := v2) rfl ukindFloat32S ?_) | (with_reducible refine wpList_loadGP F rfl rfl rfl (by first | exact m0) Try.underlying47 rfl [.int .i64 k, .float .f32 a, .float .f32 b, .float .f32 c, .float .f32 x, .float .f32 y] (partPipe_End (v0) (v1) (v2) (.int .i64 k) (.float .f32 a) (.float .f32 b) (.float .f32 c) (.float .f32 x) (.float .f32 y) (.bool op) (.float .f32 l) (.float .f32 r) (.float .f32 s)) uinfoFilterI rfl ?_) | (with_reducible refine wpList_load1 F rfl rfl rfl (by first | exact m0) (f := 9) (v := .bool op) rfl ukindBool ?_) | (with_reducible refine wpList_load1 F rfl rfl rfl (by first | exact m0) (f := 10) (v := .float .f32 l) rfl ukindFloat32 ?_) | (with_reducible refine wpList_load1 F rfl rfl rfl (by first | exact m0) (f := 11) (v := .float .f32 r) rfl ukindFloat32 ?_) | (with_reducible refine wpList_load1 F rfl rfl rfl (by first | exact m0) (f := 12) (v := .float .f32 s) rfl ukindFloat32 ?_) | (with_reducible refine wpList_load1 F rfl rfl rfl m0 (f := 3) (v := .int .i64 k) rfl ukindInt64 ?_)) | (with_reducible refine wpList_lenC rfl rfl rfl Try.underlying46 L0.out ?_) | (with_reducible refine wpList_lenC rfl rfl rfl Try.underlying46 L1.out ?_) | (with_reducible refine wpList_lenR rfl rfl rfl Try.underlying30 L2.out ?_))
    go_ret
    exact ⟨rfl, F.below⟩
  obtain rfl : nL = nR := by simpa using g3
  have q3 : (((nL : Nat) : Int) != ((nL : Nat) : Int)) = false := by simp
  clear g3
  cases g4 : (nS + 1 == nL)
  · have E : okP nL nL nS xR xL yS k a b c x y l r s = false := by unfold okP; rw [g4]; simp
    have q4 : (((nS : Nat) : Int) != ((nL : Nat) : Int) - 1) = true := by simp only [beq_eq_false_iff_ne] at g4; simp; omega
    rw [E]
    clear E h0 h1 p0 p1 g4
    go_enter Try.func31, Try.ntmps31
    go_wp2_with (first | ((with_reducible refine listN F ?_); clear F; intro wN F) | ((with_reducible refine at_load rfl ?_); first | (with_reducible refine wpList_load1 F rfl rfl rfl (by first | exact m0) (f := 0) (v := v0) rfl ukindRingSI ?_) | (with_reducible refine wpList_load1 F rfl rfl rfl (by first | exact m0) (f := 1) (v := v1) rfl ukindRingSI ?_) | (with_reducible refine wpList_load1 F rfl rfl rfl (by first | exact m0) (f := 2) (v := v2) rfl ukindFloat32S ?_) | (with_reducible refine wpList_loadGP F rfl rfl rfl (by first | exact m0) Try.underlying47 rfl [.int .i64 k, .float .f32 a, .float .f32 b, .float .f32 c, .float .f32 x, .float .f32 y] (partPipe_End (v0) (v1) (v2) (.int .i64 k) (.float .f32 a) (.float .f32 b) (.float .f32 c) (.float .f32 x) (.float .f32 y) (.bool op) (.float .f32 l) (.float .f32 r) (.float .f32 s)) uinfoFilterI rfl ?_) | (with_reducible refine wpList_load1 F rfl rfl rfl (by first | exact m0) (f := 9) (v := .bool op) rfl ukindBool ?_) | (with_reducible refine wpList_load1 F rfl rfl rfl (by first | exact m0) (f := 10) (v := .float .f32 l) rfl ukindFloat32 ?_) | (with_reducible refine wpList_load1 F rfl rfl rfl (by first | exact m0) (f := 11) (v := .float .f32 r) rfl ukindFloat32 ?_) | (with_reducible refine wpList_load1 F rfl rfl rfl (by first | exact m0) (f := 12) (v := .float .f32 s) rfl ukindFloat32 ?_) | (with_reducible refine wpList_load1 F rfl rfl rfl m0 (f := 3) (v := .int .i64 k) rfl ukindInt64 ?_)) | (with_reducible refine wpList_lenC rfl rfl rfl Try.underlying46 L0.out ?_) | (with_reducible refine wpList_lenC rfl rfl rfl Try.underlying46 L1.out ?_) | (with_reducible refine wpList_lenR rfl rfl rfl Try.underlying30 L2.out ?_))
    go_ret
    exact ⟨rfl, F.below⟩
  have q4 : (((nS : Nat) : Int) != ((nL : Nat) : Int) - 1) = false := by simp only [beq_iff_eq] at g4; simp; omega
  have G4 := hid g4; clear g4
  cases g5 : (k == 1)
  · have E : okP nL nL nS xR xL yS k a b c x y l r s = false := by unfold okP; rw [g5]; simp
    have q5 : (k != 1) = true := by rw [bne, g5]; rfl
    rw [E]
    clear E h0 h1 p0 p1 g5
    go_enter Try.func31, Try.ntmps31
    go_wp2_with (first | ((with_reducible refine listN F ?_); clear F; intro wN F) | ((with_reducible refine at_load rfl ?_); first | (with_reducible refine wpList_load1 F rfl rfl rfl (by first | exact m0) (f := 0) (v := v0) rfl ukindRingSI ?_) | (with_reducible refine wpList_load1 F rfl rfl rfl (by first | exact m0) (f := 1) (v := v1) rfl ukindRingSI ?_) | (with_reducible refine wpList_load1 F rfl rfl rfl (by first | exact m0) (f := 2) (v := v2) rfl ukindFloat32S ?_) | (with_reducible refine wpList_loadGP F rfl rfl rfl (by first | exact m0) Try.underlying47 rfl [.int .i64 k, .float .f32 a, .float .f32 b, .float .f32 c, .float .f32 x, .float .f32 y] (partPipe_End (v0) (v1) (v2) (.int .i64 k) (.float .f32 a) (.float .f32 b) (.float .f32 c) (.float .f32 x) (.float .f32 y) (.bool op) (.float .f32 l) (.float .f32 r) (.float .f32 s)) uinfoFilterI rfl ?_) | (with_reducible refine wpList_load1 F rfl rfl rfl (by first | exact m0) (f := 9) (v := .bool op) rfl ukindBool ?_) | (with_reducible refine wpList_load1 F rfl rfl rfl (by first | exact m0) (f := 10) (v := .float .f32 l) rfl ukindFloat32 ?_) | (with_reducible refine wpList_load1 F rfl rfl rfl (by first | exact m0) (f := 11) (v := .float .f32 r) rfl ukindFloat32 ?_) | (with_reducible refine wpList_load1 F rfl rfl rfl (by first | exact m0) (f := 12) (v := .float .f32 s) rfl ukindFloat32 ?_) | (with_reducible refine wpList_load1 F rfl rfl rfl m0 (f := 3) (v := .int .i64 k) rfl ukindInt64 ?_)) | (with_reducible refine wpList_lenC rfl rfl rfl Try.underlying46 L0.out ?_) | (with_reducible refine wpList_lenC rfl rfl rfl Try.underlying46 L1.out ?_) | (with_reducible refine wpList_lenR rfl rfl rfl Try.underlying30 L2.out ?_))
    go_ret
    exact ⟨rfl, F.below⟩
  have q5 : (k != 1) = false := by rw [bne, g5]; rfl
  have G5 := hid g5; clear g5
  cases g6 : okF k a b c x y
  · have E : okP nL nL nS xR xL yS k a b c x y l r s = false := by unfold okP; rw [g6]; simp
    rw [g6] at HV
    rw [E]
    clear E h0 h1 p0 p1 g6
    go_enter Try.func31, Try.ntmps31
    go_wp2_with (first | ((with_reducible refine listN F ?_); clear F; intro wN F) | ((with_reducible refine at_load rfl ?_); first | (with_reducible refine wpList_load1 F rfl rfl rfl (by first | exact m0) (f := 0) (v := v0) rfl ukindRingSI ?_) | (with_reducible refine wpList_load1 F rfl rfl rfl (by first | exact m0) (f := 1) (v := v1) rfl ukindRingSI ?_) | (with_reducible refine wpList_load1 F rfl rfl rfl (by first | exact m0) (f := 2) (v := v2) rfl ukindFloat32S ?_) | (with_reducible refine wpList_loadGP F rfl rfl rfl (by first | exact m0) Try.underlying47 rfl [.int .i64 k, .float .f32 a, .float .f32 b, .float .f32 c, .float .f32 x, .float .f32 y] (partPipe_End (v0) (v1) (v2) (.int .i64 k) (.float .f32 a) (.float .f32 b) (.float .f32 c) (.float .f32 x) (.float .f32 y) (.bool op) (.float .f32 l) (.float .f32 r) (.float .f32 s)) uinfoFilterI rfl ?_) | (with_reducible refine wpList_load1 F rfl rfl rfl (by first | exact m0) (f := 9) (v := .bool op) rfl ukindBool ?_) | (with_reducible refine wpList_load1 F rfl rfl rfl (by first | exact m0) (f := 10) (v := .float .f32 l) rfl ukindFloat32 ?_) | (with_reducible refine wpList_load1 F rfl rfl rfl (by first | exact m0) (f := 11) (v := .float .f32 r) rfl ukindFloat32 ?_) | (with_reducible refine wpList_load1 F rfl rfl rfl (by first | exact m0) (f := 12) (v := .float .f32 s) rfl ukindFloat32 ?_) | (with_reducible refine wpList_load1 F rfl rfl rfl m0 (f := 3) (v := .int .i64 k) rfl ukindInt64 ?_)) | (with_reducible refine wpList_lenC rfl rfl rfl Try.underlying46 L0.out ?_) | (with_reducible refine wpList_lenC rfl rfl rfl Try.underlying46 L1.out ?_) | (with_reducible refine wpList_lenR rfl rfl rfl Try.underlying30 L2.out ?_) | (go_at_call 67; ((with_reducible refine (HV.out _).mono ?_); rintro e w1 ⟨rfl, hl⟩; replace F := F.le hl; clear hl)))
    go_ret
    exact ⟨rfl, F.below⟩
  rw [g6] at HV
  have G6 := hid g6; clear g6
  cases g7 : fin l
  · have E : okP nL nL nS xR xL yS k a b c x y l r s = false := by unfold okP; rw [g7]; simp
    rw [g7] at HL
    rw [E]
    clear E h0 h1 p0 p1 g7
    go_enter Try.func31, Try.ntmps31
    go_wp2_with (first | ((with_reducible refine listN F ?_); clear F; intro wN F) | ((with_reducible refine at_load rfl ?_); first | (with_reducible refine wpList_load1 F rfl rfl rfl (by first | exact m0) (f := 0) (v := v0) rfl ukindRingSI ?_) | (with_reducible refine wpList_load1 F rfl rfl rfl (by first | exact m0) (f := 1) (v := v1) rfl ukindRingSI ?_) | (with_reducible refine wpList_load1 F rfl rfl rfl (by first | exact m0) (f := 2) (v := v2) rfl ukindFloat32S ?_) | (with_reducible refine wpList_loadGP F rfl rfl rfl (by first | exact m0) Try.underlying47 rfl [.int .i64 k, .float .f32 a, .float .f32 b, .float .f32 c, .float .f32 x, .float .f32 y] (partPipe_End (v0) (v1) (v2) (.int .i64 k) (.float .f32 a) (.float .f32 b) (.float .f32 c) (.float .f32 x) (.float .f32 y) (.bool op) (.float .f32 l) (.float .f32 r) (.float .f32 s)) uinfoFilterI rfl ?_) | (with_reducible refine wpList_load1 F rfl rfl rfl (by first | exact m0) (f := 9) (v := .bool op) rfl ukindBool ?_) | (with_reducible refine wpList_load1 F rfl rfl rfl (by first | exact m0) (f := 10) (v := .float .f32 l) rfl ukindFloat32 ?_) | (with_reducible refine wpList_load1 F rfl rfl rfl (by first | exact m0) (f := 11) (v := .float .f32 r) rfl ukindFloat32 ?_) | (with_reducible refine wpList_load1 F rfl rfl rfl (by first | exact m0) (f := 12) (v := .float .f32 s) rfl ukindFloat32 ?_) | (with_reducible refine wpList_load1 F rfl rfl rfl m0 (f := 3) (v := .int .i64 k) rfl ukindInt64 ?_)) | (with_reducible refine wpList_lenC rfl rfl rfl Try.underlying46 L0.out ?_) | (with_reducible refine wpList_lenC rfl rfl rfl Try.underlying46 L1.out ?_) | (with_reducible refine wpList_lenR rfl rfl rfl Try.underlying30 L2.out ?_) | (go_at_call 67; ((with_reducible refine (HV.out _).mono ?_); rintro e w1 ⟨rfl, hl⟩; replace F := F.le hl; clear hl)) | (go_at_call 54; first | ((with_reducible refine (HL.out _).mono ?_); rintro e w1 ⟨rfl, rfl⟩) | ((with_reducible refine (HR.out _).mono ?_); rintro e w1 ⟨rfl, rfl⟩) | ((with_reducible refine (HS.out _).mono ?_); rintro e w1 ⟨rfl, rfl⟩)))
    go_ret
    exact ⟨rfl, F.below⟩
  rw [g7] at HL
  have G7 := hid g7; clear g7
  cases g8 : fin r
  · have E : okP nL nL nS xR xL yS k a b c x y l r s = false := by unfold okP; rw [g8]; simp
    rw [g8] at HR
    rw [E]
    clear E h0 h1 p0 p1 g8
    go_enter Try.func31, Try.ntmps31
    go_wp2_with (first | ((with_reducible refine listN F ?_); clear F; intro wN F) | ((with_reducible refine at_load rfl ?_); first | (with_reducible refine wpList_load1 F rfl rfl rfl (by first | exact m0) (f := 0) (v := v0) rfl ukindRingSI ?_) | (with_reducible refine wpList_load1 F rfl rfl rfl (by first | exact m0) (f := 1) (v := v1) rfl ukindRingSI ?_) | (with_reducible refine wpList_load1 F rfl rfl rfl (by first | exact m0) (f := 2) (v := v2) rfl ukindFloat32S ?_) | (with_reducible refine wpList_loadGP F rfl rfl rfl (by first | exact m0) Try.underlying47 rfl [.int .i64 k, .float .f32 a, .float .f32 b, .float .f32 c, .float .f32 x, .float .f32 y] (partPipe_End (v0) (v1) (v2) (.int .i64 k) (.float .f32 a) (.float .f32 b) (.float .f32 c) (.float .f32 x) (.float .f32 y) (.bool op) (.float .f32 l) (.float .f32 r) (.float .f32 s)) uinfoFilterI rfl ?_) | (with_reducible refine wpList_load1 F rfl rfl rfl (by first | exact m0) (f := 9) (v := .bool op) rfl ukindBool ?_) | (with_reducible refine wpList_load1 F rfl rfl rfl (by first | exact m0) (f := 10) (v := .float .f32 l) rfl ukindFloat32 ?_) | (with_reducible refine wpList_load1 F rfl rfl rfl (by first | exact m0) (f := 11) (v := .float .f32 r) rfl ukindFloat32 ?_) | (with_reducible refine wpList_load1 F rfl rfl rfl (by first | exact m0) (f := 12) (v := .float .f32 s) rfl ukindFloat32 ?_) | (with_reducible refine wpList_load1 F rfl rfl rfl m0 (f := 3) (v := .int .i64 k) rfl ukindInt64 ?_)) | (with_reducible refine wpList_lenC rfl rfl rfl Try.underlying46 L0.out ?_) | (with_reducible refine wpList_lenC rfl rfl rfl Try.underlying46 L1.out ?_) | (with_reducible refine wpList_lenR rfl rfl rfl Try.underlying30 L2.out ?_) | (go_at_call 67; ((with_reducible refine (HV.out _).mono ?_); rintro e w1 ⟨rfl, hl⟩; replace F := F.le hl; clear hl)) | (go_at_call 54; first | ((with_reducible refine (HL.out _).mono ?_); rintro e w1 ⟨rfl, rfl⟩) | ((with_reducible refine (HR.out _).mono ?_); rintro e w1 ⟨rfl, rfl⟩) | ((with_reducible refine (HS.out _).mono ?_); rintro e w1 ⟨rfl, rfl⟩)))
    go_ret
    exact ⟨rfl, F.below⟩
  rw [g8] at HR
  have G8 := hid g8; clear g8
  cases g9 : fin s
  · have E : okP nL nL nS xR xL yS k a b c x y l r s = false := by unfold okP; rw [g9]; simp
    rw [g9] at HS
    rw [E]
    clear E h0 h1 p0 p1 g9
    go_enter Try.func31, Try.ntmps31
    go_wp2_with (first | ((with_reducible refine listN F ?_); clear F; intro wN F) | ((with_reducible refine at_load rfl ?_); first | (with_reducible refine wpList_load1 F rfl rfl rfl (by first | exact m0) (f := 0) (v := v0) rfl ukindRingSI ?_) | (with_reducible refine wpList_load1 F rfl rfl rfl (by first | exact m0) (f := 1) (v := v1) rfl ukindRingSI ?_) | (with_reducible refine wpList_load1 F rfl rfl rfl (by first | exact m0) (f := 2) (v := v2) rfl ukindFloat32S ?_) | (with_reducible refine wpList_loadGP F rfl rfl rfl (by first | exact m0) Try.underlying47 rfl [.int .i64 k, .float .f32 a, .float .f32 b, .float .f32 c, .float .f32 x, .float .f32 y] (partPipe_End (v0) (v1) (v2) (.int .i64 k) (.float .f32 a) (.float .f32 b) (.float .f32 c) (.float .f32 x) (.float .f32 y) (.bool op) (.float .f32 l) (.float .f32 r) (.float .f32 s)) uinfoFilterI rfl ?_) | (with_reducible refine wpList_load1 F rfl rfl rfl (by first | exact m0) (f := 9) (v := .bool op) rfl ukindBool ?_) | (with_reducible refine wpList_load1 F rfl rfl rfl (by first | exact m0) (f := 10) (v := .float .f32 l) rfl ukindFloat32 ?_) | (with_reducible refine wpList_load1 F rfl rfl rfl (by first | exact m0) (f := 11) (v := .float .f32 r) rfl ukindFloat32 ?_) | (with_reducible refine wpList_load1 F rfl rfl rfl (by first | exact m0) (f := 12) (v := .float .f32 s) rfl ukindFloat32 ?_) | (with_reducible refine wpList_load1 F rfl rfl rfl m0 (f := 3) (v := .int .i64 k) rfl ukindInt64 ?_)) | (with_reducible refine wpList_lenC rfl rfl rfl Try.underlying46 L0.out ?_) | (with_reducible refine wpList_lenC rfl rfl rfl Try.underlying46 L1.out ?_) | (with_reducible refine wpList_lenR rfl rfl rfl Try.underlying30 L2.out ?_) | (go_at_call 67; ((with_reducible refine (HV.out _).mono ?_); rintro e w1 ⟨rfl, hl⟩; replace F := F.le hl; clear hl)) | (go_at_call 54; first | ((with_reducible refine (HL.out _).mono ?_); rintro e w1 ⟨rfl, rfl⟩) | ((with_reducible refine (HR.out _).mono ?_); rintro e w1 ⟨rfl, rfl⟩) | ((with_reducible refine (HS.out _).mono ?_); rintro e w1 ⟨rfl, rfl⟩)))
    go_ret
    exact ⟨rfl, F.below⟩
  rw [g9] at HS
  have G9 := hid g9; clear g9
  cases gA : scB yS nS
  · have E : okP nL nL nS xR xL yS k a b c x y l r s = false := by unfold okP; rw [gA]; simp
    rw [gA] at HC
    rw [E]
    clear E h0 h1 p0 p1 gA
    go_enter Try.func31, Try.ntmps31
    go_wp2_with (first | ((with_reducible refine listN F ?_); clear F; intro wN F) | ((with_reducible refine at_load rfl ?_); first | (with_reducible refine wpList_load1 F rfl rfl rfl (by first | exact m0) (f := 0) (v := v0) rfl ukindRingSI ?_) | (with_reducible refine wpList_load1 F rfl rfl rfl (by first | exact m0) (f := 1) (v := v1) rfl ukindRingSI ?_) | (with_reducible refine wpList_load1 F rfl rfl rfl (by first | exact m0) (f := 2) (v := v2) rfl ukindFloat32S ?_) | (with_reducible refine wpList_loadGP F rfl rfl rfl (by first | exact m0) Try.underlying47 rfl [.int .i64 k, .float .f32 a, .float .f32 b, .float .f32 c, .float .f32 x, .float .f32 y] (partPipe_End (v0) (v1) (v2) (.int .i64 k) (.float .f32 a) (.float .f32 b) (.float .f32 c) (.float .f32 x) (.float .f32 y) (.bool op) (.float .f32 l) (.float .f32 r) (.float .f32 s)) uinfoFilterI rfl ?_) | (with_reducible refine wpList_load1 F rfl rfl rfl (by first | exact m0) (f := 9) (v := .bool op) rfl ukindBool ?_) | (with_reducible refine wpList_load1 F rfl rfl rfl (by first | exact m0) (f := 10) (v := .float .f32 l) rfl ukindFloat32 ?_) | (with_reducible refine wpList_load1 F rfl rfl rfl (by first | exact m0) (f := 11) (v := .float .f32 r) rfl ukindFloat32 ?_) | (with_reducible refine wpList_load1 F rfl rfl rfl (by first | exact m0) (f := 12) (v := .float .f32 s) rfl ukindFloat32 ?_) | (with_reducible refine wpList_load1 F rfl rfl rfl m0 (f := 3) (v := .int .i64 k) rfl ukindInt64 ?_)) | (with_reducible refine wpList_lenC rfl rfl rfl Try.underlying46 L0.out ?_) | (with_reducible refine wpList_lenC rfl rfl rfl Try.underlying46 L1.out ?_) | (with_reducible refine wpList_lenR rfl rfl rfl Try.underlying30 L2.out ?_) | (go_at_call 67; ((with_reducible refine (HV.out _).mono ?_); rintro e w1 ⟨rfl, hl⟩; replace F := F.le hl; clear hl)) | (go_at_call 54; first | ((with_reducible refine (HL.out _).mono ?_); rintro e w1 ⟨rfl, rfl⟩) | ((with_reducible refine (HR.out _).mono ?_); rintro e w1 ⟨rfl, rfl⟩) | ((with_reducible refine (HS.out _).mono ?_); rintro e w1 ⟨rfl, rfl⟩)) | (go_at_call 68; ((with_reducible refine (HC.out _ F.below).mono ?_); rintro e w1 ⟨rfl, rfl⟩)))
    go_ret
    exact ⟨rfl, F.below⟩
  rw [gA] at HC
  have GA := hid gA; clear gA
  have HQ := hid (fun (w' : World) (hl : le w w') => i_areSections B B v0 v1 xR xL nL w' (h0.le hl) (h1.le hl) p0 p1)
  clear h0 h1 p0 p1
  cases gB : allB (secOk xR xL) nL
  · have E : okP nL nL nS xR xL yS k a b c x y l r s = false := okP_sec gB
    rw [gB] at HQ
    rw [E]
    clear E gB
    go_enter Try.func31, Try.ntmps31
    go_wp2_with (first | ((with_reducible refine listN F ?_); clear F; intro wN F) | ((with_reducible refine at_load rfl ?_); first | (with_reducible refine wpList_load1 F rfl rfl rfl (by first | exact m0) (f := 0) (v := v0) rfl ukindRingSI ?_) | (with_reducible refine wpList_load1 F rfl rfl rfl (by first | exact m0) (f := 1) (v := v1) rfl ukindRingSI ?_) | (with_reducible refine wpList_load1 F rfl rfl rfl (by first | exact m0) (f := 2) (v := v2) rfl ukindFloat32S ?_) | (with_reducible refine wpList_loadGP F rfl rfl rfl (by first | exact m0) Try.underlying47 rfl [.int .i64 k, .float .f32 a, .float .f32 b, .float .f32 c, .float .f32 x, .float .f32 y] (partPipe_End (v0) (v1) (v2) (.int .i64 k) (.float .f32 a) (.float .f32 b) (.float .f32 c) (.float .f32 x) (.float .f32 y) (.bool op) (.float .f32 l) (.float .f32 r) (.float .f32 s)) uinfoFilterI rfl ?_) | (with_reducible refine wpList_load1 F rfl rfl rfl (by first | exact m0) (f := 9) (v := .bool op) rfl ukindBool ?_) | (with_reducible refine wpList_load1 F rfl rfl rfl (by first | exact m0) (f := 10) (v := .float .f32 l) rfl ukindFloat32 ?_) | (with_reducible refine wpList_load1 F rfl rfl rfl (by first | exact m0) (f := 11) (v := .float .f32 r) rfl ukindFloat32 ?_) | (with_reducible refine wpList_load1 F rfl rfl rfl (by first | exact m0) (f := 12) (v := .float .f32 s) rfl ukindFloat32 ?_) | (with_reducible refine wpList_load1 F rfl rfl rfl m0 (f := 3) (v := .int .i64 k) rfl ukindInt64 ?_)) | (with_reducible refine wpList_lenC rfl rfl rfl Try.underlying46 L0.out ?_) | (with_reducible refine wpList_lenC rfl rfl rfl Try.underlying46 L1.out ?_) | (with_reducible refine wpList_lenR rfl rfl rfl Try.underlying30 L2.out ?_) | (go_at_call 67; ((with_reducible refine (HV.out _).mono ?_); rintro e w1 ⟨rfl, hl⟩; replace F := F.le hl; clear hl)) | (go_at_call 54; first | ((with_reducible refine (HL.out _).mono ?_); rintro e w1 ⟨rfl, rfl⟩) | ((with_reducible refine (HR.out _).mono ?_); rintro e w1 ⟨rfl, rfl⟩) | ((with_reducible refine (HS.out _).mono ?_); rintro e w1 ⟨rfl, rfl⟩)) | (go_at_call 68; ((with_reducible refine (HC.out _ F.below).mono ?_); rintro e w1 ⟨rfl, rfl⟩)) | (go_at_call 69; ((with_reducible refine (HQ.out _ F.below).mono ?_); rintro e w1 ⟨rfl, hl⟩; replace F := F.le hl; clear hl)))
    go_ret
    exact ⟨rfl, F.below⟩
  have E : okP nL nL nS xR xL yS k a b c x y l r s = true := by unfold okP; rw [gB, GA.out, G9.out, G8.out, G7.out, G6.out, G5.out, G4.out]; simp; omega
  rw [gB] at HQ
  rw [E]
  clear E gB
  go_enter Try.func31, Try.ntmps31
  go_wp2_with (first | ((with_reducible refine listN F ?_); clear F; intro wN F) | ((with_reducible refine at_load rfl ?_); first | (with_reducible refine wpList_load1 F rfl rfl rfl (by first | exact m0) (f := 0) (v := v0) rfl ukindRingSI ?_) | (with_reducible refine wpList_load1 F rfl rfl rfl (by first | exact m0) (f := 1) (v := v1) rfl ukindRingSI ?_) | (with_reducible refine wpList_load1 F rfl rfl rfl (by first | exact m0) (f := 2) (v := v2) rfl ukindFloat32S ?_) | (with_reducible refine wpList_loadGP F rfl rfl rfl (by first | exact m0) Try.underlying47 rfl [.int .i64 k, .float .f32 a, .float .f32 b, .float .f32 c, .float .f32 x, .float .f32 y] (partPipe_End (v0) (v1) (v2) (.int .i64 k) (.float .f32 a) (.float .f32 b) (.float .f32 c) (.float .f32 x) (.float .f32 y) (.bool op) (.float .f32 l) (.float .f32 r) (.float .f32 s)) uinfoFilterI rfl ?_) | (with_reducible refine wpList_load1 F rfl rfl rfl (by first | exact m0) (f := 9) (v := .bool op) rfl ukindBool ?_) | (with_reducible refine wpList_load1 F rfl rfl rfl (by first | exact m0) (f := 10) (v := .float .f32 l) rfl ukindFloat32 ?_) | (with_reducible refine wpList_load1 F rfl rfl rfl (by first | exact m0) (f := 11) (v := .float .f32 r) rfl ukindFloat32 ?_) | (with_reducible refine wpList_load1 F rfl rfl rfl (by first | exact m0) (f := 12) (v := .float .f32 s) rfl ukindFloat32 ?_) | (with_reducible refine wpList_load1 F rfl rfl rfl m0 (f := 3) (v := .int .i64 k) rfl ukindInt64 ?_)) | (with_reducible refine wpList_lenC rfl rfl rfl Try.underlying46 L0.out ?_) | (with_reducible refine wpList_lenC rfl rfl rfl Try.underlying46 L1.out ?_) | (with_reducible refine wpList_lenR rfl rfl rfl Try.underlying30 L2.out ?_) | (go_at_call 67; ((with_reducible refine (HV.out _).mono ?_); rintro e w1 ⟨rfl, hl⟩; replace F := F.le hl; clear hl)) | (go_at_call 54; first | ((with_reducible refine (HL.out _).mono ?_); rintro e w1 ⟨rfl, rfl⟩) | ((with_reducible refine (HR.out _).mono ?_); rintro e w1 ⟨rfl, rfl⟩) | ((with_reducible refine (HS.out _).mono ?_); rintro e w1 ⟨rfl, rfl⟩)) | (go_at_call 68; ((with_reducible refine (HC.out _ F.below).mono ?_); rintro e w1 ⟨rfl, rfl⟩)) | (go_at_call 69; ((with_reducible refine (HQ.out _ F.below).mono ?_); rintro e w1 ⟨rfl, hl⟩; replace F := F.le hl; clear hl)))
  go_ret
  exact ⟨rfl, F.below⟩
theorem l04_lens {xR xL : Nat → CD} {n : Nat} (hR : allB (rgOk xR) n = true) (hL : allB (rgOk xL) n = true) (h : ∀ i, i < n → rgN xR i = rgN xL i) : allB (secOk xR xL) n = true :=
  allB_yes (fun i hi => by unfold secOk; rw [allB_all hR i hi, allB_all hL i hi, h i hi]; simp)
theorem l04_noR {xR xL : Nat → CD} {n : Nat} (h : allB (rgOk xR) n = false) : allB (secOk xR xL) n = false := by
  obtain ⟨i, hi, hf⟩ := allB_ex h
  exact allB_no hi (by unfold secOk; rw [hf]; rfl)
theorem l04_noL {xR xL : Nat → CD} {n : Nat} (h : allB (rgOk xL) n = false) : allB (secOk xR xL) n = false := by
  obtain ⟨i, hi, hf⟩ := allB_ex h
  exact allB_no hi (by unfold secOk; rw [hf]; simp)
theorem l04_noN {xR xL : Nat → CD} {n i : Nat} (hi : i < n) (h : rgN xR i ≠ rgN xL i) : allB (secOk xR xL) n = false :=
  allB_no hi (by unfold secOk; simp [h])
def three (l r s : Nat) : Nat → Nat := fun i => match i with | 0 => can .f32 l | 1 => can .f32 r | _ => can .f32 s
theorem fin3 (l r s : Nat) : finB (three l r s) 3 = (fin l && fin r && fin s) := by
  have e : ∀ z, fin (can .f32 z) = fin z := fun z => fin_can (can_can _ _)
  simp [finB, three, List.range_succ, e, Bool.and_assoc]
set_option maxRecDepth 100000 in
set_option maxHeartbeats 4000000 in
theorem s_l04Ok (B : Nat) (v0 v1 v2 : Value) (nR nL nS : Nat) (xR xL : Nat → CD) (yS : Nat → Nat) (k : Int) (a b c x y : Nat) (op : Bool) (l r s : Nat) (g : Nat) (w : World) (R : Row w g 49 #[v0, v1, v2, .int .i64 k, .float .f32 a, .float .f32 b, .float .f32 c, .float .f32 x, .float .f32 y, .bool op, .float .f32 l, .float .f32 r, .float .f32 s]) (h0 : (CD.sl 2 nR xR).RdN w B v0) (h1 : (CD.sl 2 nL xL).RdN w B v1) (h2 : RdS w B v2 yS nS) (p0 : RgsOk xR nR) (p1 : RgsOk xL nL) (hf : fits .f32 a ∧ fits .f32 b ∧ fits .f32 c ∧ fits .f32 x ∧ fits .f32 y) (hg : fits .f32 l ∧ fits .f32 r ∧ fits .f32 s) :
    Calls Try.prog 61 #[.pointer (some ⟨g, 0, none⟩)] w (Out_b (okP nR nL nS xR xL yS k a b c x y l r s) w) := by
  have HVR := hid (fun (w' : World) (hl : le w w') => s_l04Rings B v0 xR nR w' (h0.le hl) p0)
  have HVL := hid (fun (w' : World) (hl : le w w') => s_l04Rings B v1 xL nL w' (h1.le hl) p1)
  have S0 := h0.rd.small; have S1 := h1.rd.small; have S2 := h2.small
  have L0 := hid h0.rd; have L1 := hid h1.rd; have L2 := hid h2
  have c0 := R.cell? 0; have c1 := R.cell? 1; have c2 := R.cell? 2
  have HRow := hid R
  by_cases g1 : nR < 1
  · have E : okP nR nL nS xR xL yS k a b c x y l r s = false := by unfold okP; rw [decide_eq_false (by omega)]; rfl
    have q1 : (nR : Int) < 1 := by omega
    rw [E]
    clear E h0 h1 h2 p0 p1 R hf hg
    go_enter Try.func61, Try.ntmps61
    go_wp2_with (first | (with_reducible refine wpList_lenC rfl rfl rfl Try.underlying46 L0.out ?_))
    go_ret
    exact ⟨rfl, by first | exact le_refl _ | exact le_drewN _ _⟩
  have q1 : ¬ (nR : Int) < 1 := by omega
  by_cases g2 : 3 < nR
  · have E : okP nR nL nS xR xL yS k a b c x y l r s = false := by unfold okP; rw [decide_eq_false (p := nR ≤ 3) (by omega), Bool.and_false]; rfl
    have q2 : (3 : Int) < nR := by omega
    rw [E]
    clear E h0 h1 h2 p0 p1 R hf hg
    go_enter Try.func61, Try.ntmps61
    go_wp2_with (first | (with_reducible refine wpList_lenC rfl rfl rfl Try.underlying46 L0.out ?_))
    go_ret
    exact ⟨rfl, by first | exact le_refl _ | exact le_drewN _ _⟩
  have q2 : ¬ (3 : Int) < nR := by omega
  cases g3 : (nL == nR)
  · have E : okP nR nL nS xR xL yS k a b c x y l r s = false := by unfold okP; rw [g3]; simp
    have q3 : (((nL : Nat) : Int) != ((nR : Nat) : Int)) = true := by simp only [beq_eq_false_iff_ne] at g3; simp; omega
    rw [E]
    clear E h0 h1 h2 p0 p1 R hf hg g3
    go_enter Try.func61, Try.ntmps61
    go_wp2_with (first | (with_reducible refine wpList_lenC rfl rfl rfl Try.underlying46 L0.out ?_) | (with_reducible refine wpList_lenCG rfl rfl Try.underlying46 L1.out (by kernel_rfl) ?_))
    go_ret
    exact ⟨rfl, by first | exact le_refl _ | exact le_drewN _ _⟩
  obtain rfl : nL = nR := by simpa using g3
  have q3 : (((nL : Nat) : Int) != ((nL : Nat) : Int)) = false := by simp
  clear g3
  cases g4 : (nS + 1 == nL)
  · have E : okP nL nL nS xR xL yS k a b c x y l r s = false := by unfold okP; rw [g4]; simp
    have q4 : (((nS : Nat) : Int) != ((nL : Nat) : Int) - 1) = true := by simp only [beq_eq_false_iff_ne] at g4; simp; omega
    rw [E]
    clear E h0 h1 h2 p0 p1 R hf hg g4
    go_enter Try.func61, Try.ntmps61
    go_wp2_with (first | (with_reducible refine wpList_lenC rfl rfl rfl Try.underlying46 L0.out ?_) | (with_reducible refine wpList_lenCG rfl rfl Try.underlying46 L1.out (by kernel_rfl) ?_) | (with_reducible refine wpList_lenRG rfl rfl Try.underlying30 L2.out (by kernel_rfl) ?_))
    go_ret
    exact ⟨rfl, by first | exact le_refl _ | exact le_drewN _ _⟩
  have q4 : (((nS : Nat) : Int) != ((nL : Nat) : Int) - 1) = false := by simp only [beq_iff_eq] at g4; simp; omega
  have G4 := hid g4; clear g4
  cases g5 : allB (rgOk xR) nL
  · have E : okP nL nL nS xR xL yS k a b c x y l r s = false := okP_sec (l04_noR g5)
    rw [g5] at HVR
    rw [E]
    clear E h0 h1 h2 p0 p1 R hf hg g5
    go_enter Try.func61, Try.ntmps61
    go_wp2_with (first | (with_reducible refine wpList_lenC rfl rfl rfl Try.underlying46 L0.out ?_) | (with_reducible refine wpList_lenCG rfl rfl Try.underlying46 L1.out (by kernel_rfl) ?_) | (with_reducible refine wpList_lenRG rfl rfl Try.underlying30 L2.out (by kernel_rfl) ?_) | (go_at_call 100; first | ((with_reducible refine (HVR.out _ (le_drewN _ _)).mono ?_); rintro e w' ⟨rfl, q, rfl⟩) | ((with_reducible refine (HVR.out _ (le_refl _)).mono ?_); rintro e w' ⟨rfl, q, rfl⟩) | ((with_reducible refine (HVL.out _ (le_drewN _ _)).mono ?_); rintro e w' ⟨rfl, q2, rfl⟩)))
    go_ret
    exact ⟨rfl, by first | exact le_refl _ | exact le_drewN _ _⟩
  have G5 := hid g5; rw [g5] at HVR; clear g5
  cases g6 : allB (rgOk xL) nL
  · have E : okP nL nL nS xR xL yS k a b c x y l r s = false := okP_sec (l04_noL g6)
    rw [g6] at HVL
    rw [E]
    clear E h0 h1 h2 p0 p1 R hf hg g6
    go_enter Try.func61, Try.ntmps61
    go_wp2_with (first | (with_reducible refine wpList_lenC rfl rfl rfl Try.underlying46 L0.out ?_) | (with_reducible refine wpList_lenCG rfl rfl Try.underlying46 L1.out (by kernel_rfl) ?_) | (with_reducible refine wpList_lenRG rfl rfl Try.underlying30 L2.out (by kernel_rfl) ?_) | (go_at_call 100; first | ((with_reducible refine (HVR.out _ (le_drewN _ _)).mono ?_); rintro e w' ⟨rfl, q, rfl⟩) | ((with_reducible refine (HVR.out _ (le_refl _)).mono ?_); rintro e w' ⟨rfl, q, rfl⟩) | ((with_reducible refine (HVL.out _ (le_drewN _ _)).mono ?_); rintro e w' ⟨rfl, q2, rfl⟩)))
    go_ret
    exact ⟨rfl, by first | exact le_refl _ | exact le_drewN _ _⟩
  have G6 := hid g6; rw [g6] at HVL; clear g6
  obtain ⟨b0, o0, k0, e0, hc0, hm0⟩ := h0.form.resolve_left (fun h => by have := h.2; omega)
  obtain ⟨b1, o1, k1, e1, hc1, hm1⟩ := h1.form.resolve_left (fun h => by have := h.2; omega)
  subst e0; subst e1
  have HA := hid (fun j (hj : j < nL) => p0.at h0 hj)
  have HB := hid (fun j (hj : j < nL) => p1.at h1 hj)
  have HX := hid h2
  have HF3 := hid hg; have HFF := hid hf
  unfold maxLen at hm0 hm1
  clear h0 h1 p0 p1 R h2 hf hg
  go_enter Try.func61, Try.ntmps61
  go_wp2_with (first | (with_reducible refine wpList_lenC rfl rfl rfl Try.underlying46 L0.out ?_) | (with_reducible refine wpList_lenCG rfl rfl Try.underlying46 L1.out (by kernel_rfl) ?_) | (with_reducible refine wpList_lenRG rfl rfl Try.underlying30 L2.out (by kernel_rfl) ?_) | (go_at_call 100; first | ((with_reducible refine (HVR.out _ (le_drewN _ _)).mono ?_); rintro e w' ⟨rfl, q, rfl⟩) | ((with_reducible refine (HVR.out _ (le_refl _)).mono ?_); rintro e w' ⟨rfl, q, rfl⟩) | ((with_reducible refine (HVL.out _ (le_drewN _ _)).mono ?_); rintro e w' ⟨rfl, q2, rfl⟩)))
  go_loopw [4] (fun i wr => ∃ j : Nat, j ≤ nL ∧ i = .int .i64 j ∧ Hid (∀ i, i < j → rgN xR i = rgN xL i) ∧ Hid (le w wr)) (fun i _ => nL - (intOf i).toNat)
  case atStart => exact ⟨0, by omega, rfl, fun i hi => absurd hi (by omega), le_drewN _ _⟩
  case round =>
    obtain ⟨j, hj, rfl, HJ, HL⟩ := hrel
    clear c0 c1 c2
    rename_i wr _
    by_cases hlt : j < nL
    · obtain ⟨u, d0, d1, hwu, hr⟩ := HA.out j hlt
      obtain ⟨v, f0, f1, hwv, hq⟩ := HB.out j hlt
      go_wp2_with fail
      refine region_freeD (E := leX) (fun _ _ _ _ => True) (by kernel_rfl) (by kernel_rfl) ?_
      refine wpFreeD_one rfl (.pointer (some ⟨g, 0, none⟩)) (fun w1 _ => by kernel_rfl) ?_
      simp only [Act.put, List.setIfInBounds_toArray, List.set_cons_succ, List.set_cons_zero]
      refine wpFreeD_one rfl (.pointer (some ⟨g, 0, none⟩)) (fun w1 _ => by kernel_rfl) ?_
      simp only [Act.put, List.setIfInBounds_toArray, List.set_cons_succ, List.set_cons_zero]
      refine wpFreeD_one rfl (.pointer (some ⟨g, 0, none⟩)) (fun w1 _ => by kernel_rfl) ?_
      simp only [Act.put, List.setIfInBounds_toArray, List.set_cons_succ, List.set_cons_zero]
      refine wpFreeD_load1 rfl rfl rfl (p := ⟨g, 0, none⟩) (fun w1 h1 => (Row.le HRow.out (le_trans HL.out (le_trans (le_drewN _ _) h1))).cell? 0) ukindRingSI ?_
      simp only [Act.put, List.setIfInBounds_toArray, List.set_cons_succ, List.set_cons_zero]
      refine wpFreeD_one rfl (.int .i64 j) (fun w1 _ => by kernel_rfl) ?_
      simp only [Act.put, List.setIfInBounds_toArray, List.set_cons_succ, List.set_cons_zero]
      refine wpFreeD_indexW0 rfl rfl rfl rfl Try.underlying46 uinfoRingI hlt ?_
      simp only [Act.put, List.setIfInBounds_toArray, List.set_cons_succ, List.set_cons_zero]
      refine wpFreeD_one rfl (.pointer (some ⟨b0, o0 + j * 2, none⟩)) (fun w1 _ => by kernel_rfl) ?_
      simp only [Act.put, List.setIfInBounds_toArray, List.set_cons_succ, List.set_cons_zero]
      refine wpFreeD_load1 rfl rfl rfl (p := ⟨b0, o0 + j * 2, none⟩) (fun w1 h1 => (Below.cell (le_trans HL.out (le_trans (le_drewN _ _) h1)) (cell_lt' d0)).trans d0) ukindFloat32S ?_
      simp only [Act.put, List.setIfInBounds_toArray, List.set_cons_succ, List.set_cons_zero]
      refine wpFreeD_lenR rfl rfl rfl Try.underlying30 hr ?_
      simp only [Act.put, List.setIfInBounds_toArray, List.set_cons_succ, List.set_cons_zero]
      refine wpFreeD_one rfl (.pointer (some ⟨g, 0, none⟩)) (fun w1 _ => by kernel_rfl) ?_
      simp only [Act.put, List.setIfInBounds_toArray, List.set_cons_succ, List.set_cons_zero]
      refine wpFreeD_one rfl (.pointer (some ⟨g, 0, none⟩)) (fun w1 _ => by kernel_rfl) ?_
      simp only [Act.put, List.setIfInBounds_toArray, List.set_cons_succ, List.set_cons_zero]
      refine wpFreeD_one rfl (.pointer (some ⟨g, 1, none⟩)) (fun w1 _ => by kernel_rfl) ?_
      simp only [Act.put, List.setIfInBounds_toArray, List.set_cons_succ, List.set_cons_zero]
      refine wpFreeD_load1 rfl rfl rfl (p := ⟨g, 1, none⟩) (fun w1 h1 => (Row.le HRow.out (le_trans HL.out (le_trans (le_drewN _ _) h1))).cell? 1) ukindRingSI ?_
      simp only [Act.put, List.setIfInBounds_toArray, List.set_cons_succ, List.set_cons_zero]
      refine wpFreeD_one rfl (.int .i64 j) (fun w1 _ => by kernel_rfl) ?_
      simp only [Act.put, List.setIfInBounds_toArray, List.set_cons_succ, List.set_cons_zero]
      refine wpFreeD_indexW0 rfl rfl rfl rfl Try.underlying46 uinfoRingI hlt ?_
      simp only [Act.put, List.setIfInBounds_toArray, List.set_cons_succ, List.set_cons_zero]
      refine wpFreeD_one rfl (.pointer (some ⟨b1, o1 + j * 2, none⟩)) (fun w1 _ => by kernel_rfl) ?_
      simp only [Act.put, List.setIfInBounds_toArray, List.set_cons_succ, List.set_cons_zero]
      refine wpFreeD_load1 rfl rfl rfl (p := ⟨b1, o1 + j * 2, none⟩) (fun w1 h1 => (Below.cell (le_trans HL.out (le_trans (le_drewN _ _) h1)) (cell_lt' f0)).trans f0) ukindFloat32S ?_
      simp only [Act.put, List.setIfInBounds_toArray, List.set_cons_succ, List.set_cons_zero]
      refine wpFreeD_lenR rfl rfl rfl Try.underlying30 hq ?_
      simp only [Act.put, List.setIfInBounds_toArray, List.set_cons_succ, List.set_cons_zero]
      refine wpFreeD_one rfl (.bool (((rgN xR j : Nat) : Int) != ((rgN xL j : Nat) : Int))) (fun w1 _ => by kernel_rfl) ?_
      simp only [Act.put, List.setIfInBounds_toArray, List.set_cons_succ, List.set_cons_zero]
      refine wpFreeD_nil (fun wR hwR _ => ?_)
      have HL1 := hid (le_trans HL.out (le_trans (le_drewN _ _) hwR))
      clear hwR d0 d1 f0 f1 hwu hwv hr hq
      by_cases h3 : rgN xR j = rgN xL j
      · have h4 : (((rgN xR j : Nat) : Int) != ((rgN xL j : Nat) : Int)) = false := by simp [h3]
        replace h3 := hid h3
        go_wp2
        go_roundw
        case rel => exact ⟨j + 1, by omega, by go_num, fun i hi => by rcases Nat.lt_or_ge i j with h | h; exact HJ.out i h; rw [show i = j by omega]; exact h3.out, HL1.out⟩
        case measure => simp [intOf]; omega
      · have h4 : (((rgN xR j : Nat) : Int) != ((rgN xL j : Nat) : Int)) = true := by simp; omega
        have E : okP nL nL nS xR xL yS k a b c x y l r s = false := okP_sec (l04_noN hlt h3)
        replace h3 := hid h3
        replace E := hid E
        go_wp2
        go_ret
        exact ⟨ret_b E.out.symm, HL1.out⟩
    · obtain rfl : j = nL := by omega
      have c2 := (Row.le HRow.out HL.out).cell? 2
      go_wp2
      go_loop [5] (fun i => ∃ q : Nat, q ≤ nS ∧ i = .int .i64 q ∧ Hid (∀ i, i < q → withinB (yS i) 3212836864 1065353216 = true)) (fun i => nS - (intOf i).toNat)
      case atStart => exact ⟨0, by omega, rfl, fun i hi => absurd hi (by omega)⟩
      case round =>
        obtain ⟨q, hq, rfl, HQ⟩ := hrel
        have n1 : nS + 1 = j := by have := G4.out; simpa using this
        by_cases hlt : q < nS
        · have hlt' : (q : Int) < (j : Int) - 1 := by omega
          obtain ⟨aS, kS, zS, rfl, hcS, hmS, hzS⟩ := HX.out.raw (by omega)
          unfold maxLen at hmS
          obtain ⟨z1, z2, z3⟩ := hzS q hlt
          have cz := (Below.cell HL.out (cell_lt' z1)).trans z1
          have hfy := withinB_can (l := 3212836864) (g := 1065353216) z3
          replace n1 := hid n1
          clear z1 z2 z3 hzS
          obtain ⟨T, hT⟩ : ∃ T, T = withinB (yS q) 3212836864 1065353216 := ⟨_, rfl⟩
          rw [← hT] at hfy
          unfold withinB at hfy
          replace hT := hid hT
          rcases h5 : FloatKind.f32.format.order (zS q) 3212836864 with _ | (_ | _ | _) <;> rcases h6 : FloatKind.f32.format.order (zS q) 1065353216 with _ | (_ | _ | _)
          all_goals
            rw [h5, h6] at hfy
            first
            | (replace hfy : T = true := hfy.symm.trans (by decide)
               replace hT := hid (hT.out.symm.trans hfy)
               clear hfy
               go_wp2
               go_round
               case rel => exact ⟨q + 1, by omega, by go_num, fun i hi => by rcases Nat.lt_or_ge i q with h | h; exact HQ.out i h; rw [show i = q by omega]; exact hT.out⟩
               case measure => simp [intOf]; omega)
            | (replace hfy : T = false := hfy.symm.trans (by decide)
               replace hT := hid (hT.out.symm.trans hfy)
               clear hfy
               go_wp2
               go_ret
               exact ⟨ret_b (by unfold okP; rw [show scB yS nS = false from allB_no (p := fun i => withinB (yS i) 3212836864 1065353216) hlt hT.out]; simp), HL.out⟩)
        · obtain rfl : q = nS := by omega
          have GS := hid (show scB yS q = true from allB_yes HQ.out)
          have GN := hid (l04_lens G5.out G6.out HJ.out)
          have hRw : Hid (∀ w1, le wr w1 → Row w1 g 49 #[(.slice (some ⟨b0, o0, none⟩) j k0), (.slice (some ⟨b1, o1, none⟩) j k1), v2, .int .i64 k, .float .f32 a, .float .f32 b, .float .f32 c, .float .f32 x, .float .f32 y, .bool op, .float .f32 l, .float .f32 r, .float .f32 s]) := fun w1 h1 => Row.le HRow.out (le_trans HL.out h1)
          have HOK := hid (fun (w' : World) (hl : le wr w') => s_OkAt k a b c x y g 3 w' ⟨(hRw.out w' hl).cell? 3, fun i hi => by match i, hi with | 0, _ => exact (hRw.out w' hl).cell? 4 | 1, _ => exact (hRw.out w' hl).cell? 5 | 2, _ => exact (hRw.out w' hl).cell? 6, fun i hi => by match i, hi with | 0, _ => exact (hRw.out w' hl).cell? 7 | 1, _ => exact (hRw.out w' hl).cell? 8⟩)
          have HF := hid HF3.out
          clear c2
          cases gF : okF k a b c x y
          · have E := hid (show okP j j q xR xL yS k a b c x y l r s = false by unfold okP; rw [gF]; simp)
            rw [gF] at HOK
            clear gF
            go_wp2_with fail
            refine region_freeD (E := leX) (fun f _ _ v => v = .bool false) (by kernel_rfl) (by kernel_rfl) ?_
            refine wpFreeD_one rfl (.pointer (some ⟨g, 0, none⟩)) (fun w1 _ => by kernel_rfl) ?_
            simp only [Act.put, List.setIfInBounds_toArray, List.set_cons_succ, List.set_cons_zero]
            refine wpFreeD_one rfl (.pointer (some ⟨g, 0, none⟩)) (fun w1 _ => by kernel_rfl) ?_
            simp only [Act.put, List.setIfInBounds_toArray, List.set_cons_succ, List.set_cons_zero]
            refine wpFreeD_one rfl (.pointer (some ⟨g, 3, none⟩)) (fun w1 _ => by kernel_rfl) ?_
            simp only [Act.put, List.setIfInBounds_toArray, List.set_cons_succ, List.set_cons_zero]
            refine wpFreeD_callB rfl rfl Try.func101 (by kernel_rfl) (by kernel_rfl) (args := #[.pointer (some ⟨g, 3, none⟩)]) (by simp [Act.eval]) (fun v w1 w2 hw hv => hv) (fun w1 hw1 _ => (HOK.out w1 (le_trans (le_drewN _ _) hw1)).mono ?_) ?_
            · rintro e w2 ⟨rfl, m, rfl⟩
              exact ⟨_, rfl, le_drewN _ _, rfl⟩
            rintro v ⟨_, _, _, hv⟩
            skip --FF
            subst hv
            simp only [Act.put, List.setIfInBounds_toArray, List.set_cons_succ, List.set_cons_zero]
            refine wpFreeD_one rfl (.bool false) (fun w1 _ => by kernel_rfl) ?_
            simp only [Act.put, List.setIfInBounds_toArray, List.set_cons_succ, List.set_cons_zero]
            refine wpFreeD_skip (by kernel_rfl) ?_
            simp only [Act.put, List.setIfInBounds_toArray, List.set_cons_succ, List.set_cons_zero]
            refine wpFreeD_skip (by kernel_rfl) ?_
            simp only [Act.put, List.setIfInBounds_toArray, List.set_cons_succ, List.set_cons_zero]
            refine wpFreeD_skip (by kernel_rfl) ?_
            simp only [Act.put, List.setIfInBounds_toArray, List.set_cons_succ, List.set_cons_zero]
            refine wpFreeD_skip (by kernel_rfl) ?_
            simp only [Act.put, List.setIfInBounds_toArray, List.set_cons_succ, List.set_cons_zero]
            refine wpFreeD_skip (by kernel_rfl) ?_
            simp only [Act.put, List.setIfInBounds_toArray, List.set_cons_succ, List.set_cons_zero]
            refine wpFreeD_skip (by kernel_rfl) ?_
            simp only [Act.put, List.setIfInBounds_toArray, List.set_cons_succ, List.set_cons_zero]
            refine wpFreeD_one rfl (.bool false) (fun w1 _ => by kernel_rfl) ?_
            simp only [Act.put, List.setIfInBounds_toArray, List.set_cons_succ, List.set_cons_zero]
            refine wpFreeD_one rfl (.bool false) (fun w1 _ => by kernel_rfl) ?_
            simp only [Act.put, List.setIfInBounds_toArray, List.set_cons_succ, List.set_cons_zero]
            refine wpFreeD_skip (by kernel_rfl) ?_
            simp only [Act.put, List.setIfInBounds_toArray, List.set_cons_succ, List.set_cons_zero]
            refine wpFreeD_skip (by kernel_rfl) ?_
            simp only [Act.put, List.setIfInBounds_toArray, List.set_cons_succ, List.set_cons_zero]
            refine wpFreeD_skip (by kernel_rfl) ?_
            simp only [Act.put, List.setIfInBounds_toArray, List.set_cons_succ, List.set_cons_zero]
            refine wpFreeD_skip (by kernel_rfl) ?_
            simp only [Act.put, List.setIfInBounds_toArray, List.set_cons_succ, List.set_cons_zero]
            refine wpFreeD_skip (by kernel_rfl) ?_
            simp only [Act.put, List.setIfInBounds_toArray, List.set_cons_succ, List.set_cons_zero]
            refine wpFreeD_skip (by kernel_rfl) ?_
            simp only [Act.put, List.setIfInBounds_toArray, List.set_cons_succ, List.set_cons_zero]
            refine wpFreeD_skip (by kernel_rfl) ?_
            simp only [Act.put, List.setIfInBounds_toArray, List.set_cons_succ, List.set_cons_zero]
            refine wpFreeD_skip (by kernel_rfl) ?_
            simp only [Act.put, List.setIfInBounds_toArray, List.set_cons_succ, List.set_cons_zero]
            refine wpFreeD_skip (by kernel_rfl) ?_
            simp only [Act.put, List.setIfInBounds_toArray, List.set_cons_succ, List.set_cons_zero]
            refine wpFreeD_skip (by kernel_rfl) ?_
            simp only [Act.put, List.setIfInBounds_toArray, List.set_cons_succ, List.set_cons_zero]
            refine wpFreeD_skip (by kernel_rfl) ?_
            simp only [Act.put, List.setIfInBounds_toArray, List.set_cons_succ, List.set_cons_zero]
            refine wpFreeD_skip (by kernel_rfl) ?_
            simp only [Act.put, List.setIfInBounds_toArray, List.set_cons_succ, List.set_cons_zero]
            refine wpFreeD_skip (by kernel_rfl) ?_
            simp only [Act.put, List.setIfInBounds_toArray, List.set_cons_succ, List.set_cons_zero]
            refine wpFreeD_skip (by kernel_rfl) ?_
            simp only [Act.put, List.setIfInBounds_toArray, List.set_cons_succ, List.set_cons_zero]
            refine wpFreeD_one rfl (.bool false) (fun w1 _ => by kernel_rfl) ?_
            simp only [Act.put, List.setIfInBounds_toArray, List.set_cons_succ, List.set_cons_zero]
            refine wpFreeD_one rfl (.bool false) (fun w1 _ => by kernel_rfl) ?_
            simp only [Act.put, List.setIfInBounds_toArray, List.set_cons_succ, List.set_cons_zero]
            refine wpFreeD_nil (fun wR hwR _ => ?_)
            have HL1 := hid (le_trans HL.out (le_trans (le_drewN _ _) hwR))
            clear hwR
            go_wp2
            go_ret
            exact ⟨ret_b E.out.symm, HL1.out⟩
          cases gK : (k == 1)
          · have E := hid (show okP j j q xR xL yS k a b c x y l r s = false by unfold okP; rw [gK]; simp)
            rw [gF] at HOK
            clear gF
            go_wp2_with fail
            refine region_freeD (E := leX) (fun f _ _ v => v = .bool true) (by kernel_rfl) (by kernel_rfl) ?_
            refine wpFreeD_one rfl (.pointer (some ⟨g, 0, none⟩)) (fun w1 _ => by kernel_rfl) ?_
            simp only [Act.put, List.setIfInBounds_toArray, List.set_cons_succ, List.set_cons_zero]
            refine wpFreeD_one rfl (.pointer (some ⟨g, 0, none⟩)) (fun w1 _ => by kernel_rfl) ?_
            simp only [Act.put, List.setIfInBounds_toArray, List.set_cons_succ, List.set_cons_zero]
            refine wpFreeD_one rfl (.pointer (some ⟨g, 3, none⟩)) (fun w1 _ => by kernel_rfl) ?_
            simp only [Act.put, List.setIfInBounds_toArray, List.set_cons_succ, List.set_cons_zero]
            refine wpFreeD_callB rfl rfl Try.func101 (by kernel_rfl) (by kernel_rfl) (args := #[.pointer (some ⟨g, 3, none⟩)]) (by simp [Act.eval]) (fun v w1 w2 hw hv => hv) (fun w1 hw1 _ => (HOK.out w1 (le_trans (le_drewN _ _) hw1)).mono ?_) ?_
            · rintro e w2 ⟨rfl, m, rfl⟩
              exact ⟨_, rfl, le_drewN _ _, rfl⟩
            rintro v ⟨_, _, _, hv⟩
            skip
            subst hv
            simp only [Act.put, List.setIfInBounds_toArray, List.set_cons_succ, List.set_cons_zero]
            refine wpFreeD_one rfl (.bool true) (fun w1 _ => by kernel_rfl) ?_
            simp only [Act.put, List.setIfInBounds_toArray, List.set_cons_succ, List.set_cons_zero]
            refine wpFreeD_oneW (by kernel_rfl) (.pointer (some ⟨g, 0, none⟩)) (fun w1 _ => by kernel_rfl) ?_
            simp only [Act.put, List.setIfInBounds_toArray, List.set_cons_succ, List.set_cons_zero]
            refine wpFreeD_oneW (by kernel_rfl) (.pointer (some ⟨g, 0, none⟩)) (fun w1 _ => by kernel_rfl) ?_
            simp only [Act.put, List.setIfInBounds_toArray, List.set_cons_succ, List.set_cons_zero]
            refine wpFreeD_oneW (by kernel_rfl) (.pointer (some ⟨g, 3, none⟩)) (fun w1 _ => by kernel_rfl) ?_
            simp only [Act.put, List.setIfInBounds_toArray, List.set_cons_succ, List.set_cons_zero]
            refine wpFreeD_oneW (by kernel_rfl) (.pointer (some ⟨g, 3, none⟩)) (fun w1 _ => by kernel_rfl) ?_
            simp only [Act.put, List.setIfInBounds_toArray, List.set_cons_succ, List.set_cons_zero]
            refine wpFreeD_load1W (by kernel_rfl) rfl rfl (p := ⟨g, 3, none⟩) (fun w1 h1 => (hRw.out w1 (le_trans (le_drewN _ _) h1)).cell? 3) ukindInt64 ?_
            simp only [Act.put, List.setIfInBounds_toArray, List.set_cons_succ, List.set_cons_zero]
            refine wpFreeD_oneW (by kernel_rfl) (.bool (k == 1)) (fun w1 _ => by kernel_rfl) ?_
            simp only [Act.put, List.setIfInBounds_toArray, List.set_cons_succ, List.set_cons_zero]
            rw [gK]
            refine wpFreeD_one rfl (.bool false) (fun w1 _ => by kernel_rfl) ?_
            simp only [Act.put, List.setIfInBounds_toArray, List.set_cons_succ, List.set_cons_zero]
            refine wpFreeD_one rfl (.bool false) (fun w1 _ => by kernel_rfl) ?_
            simp only [Act.put, List.setIfInBounds_toArray, List.set_cons_succ, List.set_cons_zero]
            refine wpFreeD_skip (by kernel_rfl) ?_
            simp only [Act.put, List.setIfInBounds_toArray, List.set_cons_succ, List.set_cons_zero]
            refine wpFreeD_skip (by kernel_rfl) ?_
            simp only [Act.put, List.setIfInBounds_toArray, List.set_cons_succ, List.set_cons_zero]
            refine wpFreeD_skip (by kernel_rfl) ?_
            simp only [Act.put, List.setIfInBounds_toArray, List.set_cons_succ, List.set_cons_zero]
            refine wpFreeD_skip (by kernel_rfl) ?_
            simp only [Act.put, List.setIfInBounds_toArray, List.set_cons_succ, List.set_cons_zero]
            refine wpFreeD_skip (by kernel_rfl) ?_
            simp only [Act.put, List.setIfInBounds_toArray, List.set_cons_succ, List.set_cons_zero]
            refine wpFreeD_skip (by kernel_rfl) ?_
            simp only [Act.put, List.setIfInBounds_toArray, List.set_cons_succ, List.set_cons_zero]
            refine wpFreeD_skip (by kernel_rfl) ?_
            simp only [Act.put, List.setIfInBounds_toArray, List.set_cons_succ, List.set_cons_zero]
            refine wpFreeD_skip (by kernel_rfl) ?_
            simp only [Act.put, List.setIfInBounds_toArray, List.set_cons_succ, List.set_cons_zero]
            refine wpFreeD_skip (by kernel_rfl) ?_
            simp only [Act.put, List.setIfInBounds_toArray, List.set_cons_succ, List.set_cons_zero]
            refine wpFreeD_skip (by kernel_rfl) ?_
            simp only [Act.put, List.setIfInBounds_toArray, List.set_cons_succ, List.set_cons_zero]
            refine wpFreeD_skip (by kernel_rfl) ?_
            simp only [Act.put, List.setIfInBounds_toArray, List.set_cons_succ, List.set_cons_zero]
            refine wpFreeD_skip (by kernel_rfl) ?_
            simp only [Act.put, List.setIfInBounds_toArray, List.set_cons_succ, List.set_cons_zero]
            refine wpFreeD_skip (by kernel_rfl) ?_
            simp only [Act.put, List.setIfInBounds_toArray, List.set_cons_succ, List.set_cons_zero]
            refine wpFreeD_skip (by kernel_rfl) ?_
            simp only [Act.put, List.setIfInBounds_toArray, List.set_cons_succ, List.set_cons_zero]
            refine wpFreeD_one rfl (.bool false) (fun w1 _ => by kernel_rfl) ?_
            simp only [Act.put, List.setIfInBounds_toArray, List.set_cons_succ, List.set_cons_zero]
            refine wpFreeD_one rfl (.bool false) (fun w1 _ => by kernel_rfl) ?_
            simp only [Act.put, List.setIfInBounds_toArray, List.set_cons_succ, List.set_cons_zero]
            refine wpFreeD_nil (fun wR hwR _ => ?_)
            have HL1 := hid (le_trans HL.out (le_trans (le_drewN _ _) hwR))
            clear hwR
            go_wp2
            go_ret
            exact ⟨ret_b E.out.symm, HL1.out⟩
          · have hk1 : k = 1 := by simpa using gK
            subst hk1
            have E := hid (show okP j j q xR xL yS 1 a b c x y l r s = (fin l && fin r && fin s) by unfold okP; rw [gF, GS.out, GN.out, G4.out, decide_eq_true (show 1 ≤ j by omega), decide_eq_true (show j ≤ 3 by omega)]; simp)
            rw [gF] at HOK
            clear gF gK
            go_wp2_with fail
            refine region_freeD (E := leX) (fun f _ _ v => if f = 101 then v = .bool true else v = .bool (fin l && fin r && fin s)) (by kernel_rfl) (by kernel_rfl) ?_
            refine wpFreeD_one rfl (.pointer (some ⟨g, 0, none⟩)) (fun w1 _ => by kernel_rfl) ?_
            simp only [Act.put, List.setIfInBounds_toArray, List.set_cons_succ, List.set_cons_zero]
            refine wpFreeD_one rfl (.pointer (some ⟨g, 0, none⟩)) (fun w1 _ => by kernel_rfl) ?_
            simp only [Act.put, List.setIfInBounds_toArray, List.set_cons_succ, List.set_cons_zero]
            refine wpFreeD_one rfl (.pointer (some ⟨g, 3, none⟩)) (fun w1 _ => by kernel_rfl) ?_
            simp only [Act.put, List.setIfInBounds_toArray, List.set_cons_succ, List.set_cons_zero]
            refine wpFreeD_callB rfl rfl Try.func101 (by kernel_rfl) (by kernel_rfl) (args := #[.pointer (some ⟨g, 3, none⟩)]) (by simp [Act.eval]) (fun v w1 w2 hw hv => hv) (fun w1 hw1 _ => (HOK.out w1 (le_trans (le_drewN _ _) hw1)).mono ?_) ?_
            · rintro e w2 ⟨rfl, m, rfl⟩
              exact ⟨_, rfl, le_drewN _ _, by simp only [if_true]⟩
            rintro v ⟨_, _, _, hv⟩
            simp only [if_true] at hv
            subst hv
            simp only [Act.put, List.setIfInBounds_toArray, List.set_cons_succ, List.set_cons_zero]
            refine wpFreeD_one rfl (.bool true) (fun w1 _ => by kernel_rfl) ?_
            simp only [Act.put, List.setIfInBounds_toArray, List.set_cons_succ, List.set_cons_zero]
            refine wpFreeD_oneW (by kernel_rfl) (.pointer (some ⟨g, 0, none⟩)) (fun w1 _ => by kernel_rfl) ?_
            simp only [Act.put, List.setIfInBounds_toArray, List.set_cons_succ, List.set_cons_zero]
            refine wpFreeD_oneW (by kernel_rfl) (.pointer (some ⟨g, 0, none⟩)) (fun w1 _ => by kernel_rfl) ?_
            simp only [Act.put, List.setIfInBounds_toArray, List.set_cons_succ, List.set_cons_zero]
            refine wpFreeD_oneW (by kernel_rfl) (.pointer (some ⟨g, 3, none⟩)) (fun w1 _ => by kernel_rfl) ?_
            simp only [Act.put, List.setIfInBounds_toArray, List.set_cons_succ, List.set_cons_zero]
            refine wpFreeD_oneW (by kernel_rfl) (.pointer (some ⟨g, 3, none⟩)) (fun w1 _ => by kernel_rfl) ?_
            simp only [Act.put, List.setIfInBounds_toArray, List.set_cons_succ, List.set_cons_zero]
            refine wpFreeD_load1W (by kernel_rfl) rfl rfl (p := ⟨g, 3, none⟩) (fun w1 h1 => (hRw.out w1 (le_trans (le_drewN _ _) h1)).cell? 3) ukindInt64 ?_
            simp only [Act.put, List.setIfInBounds_toArray, List.set_cons_succ, List.set_cons_zero]
            refine wpFreeD_oneW (by kernel_rfl) (.bool true) (fun w1 _ => by kernel_rfl) ?_
            simp only [Act.put, List.setIfInBounds_toArray, List.set_cons_succ, List.set_cons_zero]
            refine wpFreeD_one rfl (.bool true) (fun w1 _ => by kernel_rfl) ?_
            simp only [Act.put, List.setIfInBounds_toArray, List.set_cons_succ, List.set_cons_zero]
            refine wpFreeD_one rfl (.bool true) (fun w1 _ => by kernel_rfl) ?_
            simp only [Act.put, List.setIfInBounds_toArray, List.set_cons_succ, List.set_cons_zero]
            refine wpFreeD_oneW (by kernel_rfl) (.pointer (some ⟨g, 0, none⟩)) (fun w1 _ => by kernel_rfl) ?_
            simp only [Act.put, List.setIfInBounds_toArray, List.set_cons_succ, List.set_cons_zero]
            refine wpFreeD_oneW (by kernel_rfl) (.pointer (some ⟨g, 0, none⟩)) (fun w1 _ => by kernel_rfl) ?_
            simp only [Act.put, List.setIfInBounds_toArray, List.set_cons_succ, List.set_cons_zero]
            refine wpFreeD_oneW (by kernel_rfl) (.pointer (some ⟨g, 10, none⟩)) (fun w1 _ => by kernel_rfl) ?_
            simp only [Act.put, List.setIfInBounds_toArray, List.set_cons_succ, List.set_cons_zero]
            refine wpFreeD_load1W (by kernel_rfl) rfl rfl (p := ⟨g, 10, none⟩) (fun w1 h1 => (hRw.out w1 (le_trans (le_drewN _ _) h1)).cell? 10) ukindFloat32 ?_
            simp only [Act.put, List.setIfInBounds_toArray, List.set_cons_succ, List.set_cons_zero]
            refine wpFreeD_oneW (by kernel_rfl) (.pointer (some ⟨g, 0, none⟩)) (fun w1 _ => by kernel_rfl) ?_
            simp only [Act.put, List.setIfInBounds_toArray, List.set_cons_succ, List.set_cons_zero]
            refine wpFreeD_oneW (by kernel_rfl) (.pointer (some ⟨g, 0, none⟩)) (fun w1 _ => by kernel_rfl) ?_
            simp only [Act.put, List.setIfInBounds_toArray, List.set_cons_succ, List.set_cons_zero]
            refine wpFreeD_oneW (by kernel_rfl) (.pointer (some ⟨g, 11, none⟩)) (fun w1 _ => by kernel_rfl) ?_
            simp only [Act.put, List.setIfInBounds_toArray, List.set_cons_succ, List.set_cons_zero]
            refine wpFreeD_load1W (by kernel_rfl) rfl rfl (p := ⟨g, 11, none⟩) (fun w1 h1 => (hRw.out w1 (le_trans (le_drewN _ _) h1)).cell? 11) ukindFloat32 ?_
            simp only [Act.put, List.setIfInBounds_toArray, List.set_cons_succ, List.set_cons_zero]
            refine wpFreeD_oneW (by kernel_rfl) (.pointer (some ⟨g, 0, none⟩)) (fun w1 _ => by kernel_rfl) ?_
            simp only [Act.put, List.setIfInBounds_toArray, List.set_cons_succ, List.set_cons_zero]
            refine wpFreeD_oneW (by kernel_rfl) (.pointer (some ⟨g, 0, none⟩)) (fun w1 _ => by kernel_rfl) ?_
            simp only [Act.put, List.setIfInBounds_toArray, List.set_cons_succ, List.set_cons_zero]
            refine wpFreeD_oneW (by kernel_rfl) (.pointer (some ⟨g, 12, none⟩)) (fun w1 _ => by kernel_rfl) ?_
            simp only [Act.put, List.setIfInBounds_toArray, List.set_cons_succ, List.set_cons_zero]
            refine wpFreeD_load1W (by kernel_rfl) rfl rfl (p := ⟨g, 12, none⟩) (fun w1 h1 => (hRw.out w1 (le_trans (le_drewN _ _) h1)).cell? 12) ukindFloat32 ?_
            simp only [Act.put, List.setIfInBounds_toArray, List.set_cons_succ, List.set_cons_zero]
            refine wpFreeD_madeW (by kernel_rfl) (fun b => .slice (some ⟨b, 0, none⟩) 3 3) 22 #[.float .f32 l, .float .f32 r, .float .f32 s] (fun w1 => by kernel_rfl) (fun bN => ?_)
            simp only [Act.put, List.setIfInBounds_toArray, List.set_cons_succ, List.set_cons_zero]
            refine wpFreeD_callW (by kernel_rfl) rfl Try.func102 (by kernel_rfl) (by kernel_rfl) (args := #[.slice (some ⟨bN, 0, none⟩) 3 3]) (by simp [Act.eval]) (fun v w1 w2 hw hv => by simp only [show ¬ (102 = 101) by decide, if_false] at hv ⊢; exact hv) (fun w1 hw1 hbe => ?_) ?_
            · obtain ⟨b', e1, hrow⟩ := (hbe ⟨25, Ground.data⟩ (by simp) (by kernel_rfl)).2 rfl
              obtain rfl : bN = b' := by simpa using e1
              have hq : RdS w1 (bN + 1) (.slice (some ⟨bN, 0, none⟩) 3 3) (three l r s) 3 := .inr ⟨⟨bN, 0, none⟩, 3, rfl, Nat.le_refl _, by decide, fun i hi => ⟨Nat.lt_succ_self _, by rw [add_none, Nat.zero_add]; match i, hi with
                | 0, _ => exact ⟨l, hrow.cell? 0, HF.out.1, rfl⟩
                | 1, _ => exact ⟨r, hrow.cell? 1, HF.out.2.1, rfl⟩
                | 2, _ => exact ⟨s, hrow.cell? 2, HF.out.2.2, rfl⟩⟩⟩
              refine (s_l04All _ _ _ _ w1 hq).mono ?_
              rintro e w2 ⟨rfl, m, rfl⟩
              exact ⟨_, rfl, le_drewN _ _, by simp only [show ¬ (102 = 101) by decide, if_false]; rw [fin3]⟩
            rintro v ⟨_, _, _, hv⟩
            simp only [show ¬ (102 = 101) by decide, if_false] at hv
            subst hv
            simp only [Act.put, List.setIfInBounds_toArray, List.set_cons_succ, List.set_cons_zero]
            refine wpFreeD_one rfl (.bool (fin l && fin r && fin s)) (fun w1 _ => by kernel_rfl) ?_
            simp only [Act.put, List.setIfInBounds_toArray, List.set_cons_succ, List.set_cons_zero]
            refine wpFreeD_one rfl (.bool (fin l && fin r && fin s)) (fun w1 _ => by kernel_rfl) ?_
            simp only [Act.put, List.setIfInBounds_toArray, List.set_cons_succ, List.set_cons_zero]
            refine wpFreeD_nil (fun wR hwR _ => ?_)
            have HL1 := hid (le_trans HL.out (le_trans (le_drewN _ _) hwR))
            clear hwR
            go_wp2
            go_ret
            exact ⟨ret_b E.out.symm, HL1.out⟩
set_option maxRecDepth 100000 in
set_option maxHeartbeats 4000000 in
theorem s_ValidPipe (B : Nat) (v0 v1 v2 : Value) (nR nL nS : Nat) (xR xL : Nat → CD) (yS : Nat → Nat) (k : Int) (a b c x y : Nat) (op : Bool) (l r s : Nat) (w : World) (h0 : (CD.sl 2 nR xR).RdN w B v0) (h1 : (CD.sl 2 nL xL).RdN w B v1) (h2 : RdS w B v2 yS nS) (p0 : RgsOk xR nR) (p1 : RgsOk xL nL) (hf : fits .f32 a ∧ fits .f32 b ∧ fits .f32 c ∧ fits .f32 x ∧ fits .f32 y) (hg : fits .f32 l ∧ fits .f32 r ∧ fits .f32 s) :
    Calls Try.prog 30 #[.agg #[v0, v1, v2, .int .i64 k, .float .f32 a, .float .f32 b, .float .f32 c, .float .f32 x, .float .f32 y, .bool op, .float .f32 l, .float .f32 r, .float .f32 s]] w (Out_b (okP nR nL nS xR xL yS k a b c x y l r s) w) := by
  have HV := hid (fun (g : Nat) (w' : World) (hl : le w w') (R : Row w' g 49 #[v0, v1, v2, .int .i64 k, .float .f32 a, .float .f32 b, .float .f32 c, .float .f32 x, .float .f32 y, .bool op, .float .f32 l, .float .f32 r, .float .f32 s]) => s_l04Ok B v0 v1 v2 nR nL nS xR xL yS k a b c x y op l r s g w' R (h0.le hl) (h1.le hl) (h2.le hl) p0 p1 hf hg)
  have F := (Frg.nil w).box 49 #[v0, v1, v2, .int .i64 k, .float .f32 a, .float .f32 b, .float .f32 c, .float .f32 x, .float .f32 y, .bool op, .float .f32 l, .float .f32 r, .float .f32 s]
  clear h0 h1 h2 p0 p1 hf hg
  go_enter Try.func30, Try.ntmps30
  go_wp2_with (go_at_call 61; ((with_reducible refine (HV.out _ _ F.below (F.row m0)).mono ?_); rintro e w1 ⟨rfl, hl⟩; replace F := F.le hl; clear hl))
  go_ret
  exact ⟨rfl, F.below⟩
theorem pipe_data {cs : List CD} (h : HasShL shPipe cs) : ∃ (nR nL nS : Nat) (xR xL xS : Nat → CD) (k : Int) (a b c x y : Nat) (op : Bool) (l r s : Nat), cs = [.sl 2 nR xR, .sl 2 nL xL, .sl 1 nS xS, .int .i64 k, .flt .f32 a, .flt .f32 b, .flt .f32 c, .flt .f32 x, .flt .f32 y, .bool op, .flt .f32 l, .flt .f32 r, .flt .f32 s] ∧ RgsOk (fun i => (xR i).cn) nR ∧ RgsOk (fun i => (xL i).cn) nL ∧ (∀ i, i < nS → (xS i).cn.flk = some .f32) := by
  obtain ⟨c0, cs, rfl, q0, h⟩ := h.inv
  obtain ⟨c1, cs, rfl, q1, h⟩ := h.inv
  obtain ⟨c2, cs, rfl, q2, h⟩ := h.inv
  obtain ⟨c3, cs, rfl, q3, h⟩ := h.inv
  obtain ⟨c4, cs, rfl, q4, h⟩ := h.inv
  obtain ⟨c5, cs, rfl, q5, h⟩ := h.inv
  obtain ⟨c6, cs, rfl, q6, h⟩ := h.inv
  obtain ⟨c7, cs, rfl, q7, h⟩ := h.inv
  obtain ⟨c8, cs, rfl, q8, h⟩ := h.inv
  obtain ⟨c9, cs, rfl, q9, h⟩ := h.inv
  obtain ⟨c10, cs, rfl, q10, h⟩ := h.inv
  obtain ⟨c11, cs, rfl, q11, h⟩ := h.inv
  obtain ⟨c12, cs, rfl, q12, h⟩ := h.inv
  obtain rfl := h.inv0
  obtain ⟨nR, xR, rfl, r0⟩ := q0
  obtain ⟨nL, xL, rfl, r1⟩ := q1
  obtain ⟨nS, xS, rfl, r2⟩ := q2
  obtain ⟨k, rfl⟩ := q3
  obtain ⟨a, rfl⟩ := q4
  obtain ⟨b, rfl⟩ := q5
  obtain ⟨c, rfl⟩ := q6
  obtain ⟨x, rfl⟩ := q7
  obtain ⟨y, rfl⟩ := q8
  obtain ⟨op, rfl⟩ := q9
  obtain ⟨l, rfl⟩ := q10
  obtain ⟨r, rfl⟩ := q11
  obtain ⟨s, rfl⟩ := q12
  refine ⟨nR, nL, nS, xR, xL, xS, k, a, b, c, x, y, op, l, r, s, rfl, rgs_ok (fun i hi j hj => (r0 i hi j hj).ok.cn) ⟨_, rfl, rfl⟩ rfl, rgs_ok (fun i hi j hj => (r1 i hi j hj).ok.cn) ⟨_, rfl, rfl⟩ rfl, fun i hi => ?_⟩
  rw [CD.flk_cn]
  exact ShOk.flts (fun i hi j hj => (r2 i hi j hj).ok) rfl i hi
theorem pipe_open {nR nL nS : Nat} {xR xL xS : Nat → CD} {k : Int} {a b c x y : Nat} {op : Bool} {l r s : Nat} {w : World} {B : Nat} {u : List Value} (h : RdLN w B (([.sl 2 nR xR, .sl 2 nL xL, .sl 1 nS xS, .int .i64 k, .flt .f32 a, .flt .f32 b, .flt .f32 c, .flt .f32 x, .flt .f32 y, .bool op, .flt .f32 l, .flt .f32 r, .flt .f32 s] : List CD).map CD.cp) u) (hS : ∀ i, i < nS → (xS i).cn.flk = some .f32) : ∃ v0 v1 v2 : Value, u = [v0, v1, v2, .int .i64 k, .float .f32 a, .float .f32 b, .float .f32 c, .float .f32 x, .float .f32 y, .bool op, .float .f32 l, .float .f32 r, .float .f32 s] ∧ (CD.sl 2 nR (fun i => (xR i).cn)).RdN w B v0 ∧ (CD.sl 2 nL (fun i => (xL i).cn)).RdN w B v1 ∧ RdS w B v2 (fun i => (xS i).cn.fx) nS ∧ (fits .f32 a ∧ fits .f32 b ∧ fits .f32 c ∧ fits .f32 x ∧ fits .f32 y) ∧ (fits .f32 l ∧ fits .f32 r ∧ fits .f32 s) := by
  simp only [List.map_cons, List.map_nil] at h
  obtain ⟨v0, u0, rfl, q0, hh0⟩ := h.inv
  obtain ⟨v1, u1, rfl, q1, hh1⟩ := hh0.inv
  obtain ⟨v2, u2, rfl, q2, hh2⟩ := hh1.inv
  obtain ⟨v3, u3, rfl, q3, hh3⟩ := hh2.inv
  obtain ⟨v4, u4, rfl, q4, hh4⟩ := hh3.inv
  obtain ⟨v5, u5, rfl, q5, hh5⟩ := hh4.inv
  obtain ⟨v6, u6, rfl, q6, hh6⟩ := hh5.inv
  obtain ⟨v7, u7, rfl, q7, hh7⟩ := hh6.inv
  obtain ⟨v8, u8, rfl, q8, hh8⟩ := hh7.inv
  obtain ⟨v9, u9, rfl, q9, hh9⟩ := hh8.inv
  obtain ⟨v10, u10, rfl, q10, hh10⟩ := hh9.inv
  obtain ⟨v11, u11, rfl, q11, hh11⟩ := hh10.inv
  obtain ⟨v12, u12, rfl, q12, hh12⟩ := hh11.inv
  obtain rfl := hh12.inv0
  obtain ⟨rfl, _⟩ := q3
  obtain ⟨rfl, f4⟩ := q4
  obtain ⟨rfl, f5⟩ := q5
  obtain ⟨rfl, f6⟩ := q6
  obtain ⟨rfl, f7⟩ := q7
  obtain ⟨rfl, f8⟩ := q8
  obtain ⟨rfl, f10⟩ := q10
  obtain ⟨rfl, f11⟩ := q11
  obtain ⟨rfl, f12⟩ := q12
  obtain rfl := q9
  exact ⟨v0, v1, v2, rfl, q0, q1, CD.Rd.rdf (CD.RdN.rd q2) hS, ⟨f4, f5, f6, f7, f8⟩, f10, f11, f12⟩
theorem both_ValidPipe (cs : List CD) (h : HasShL shPipe cs) : ∃ ar0 : Bool, (∀ (w : World) (B : Nat) (u : List Value), RdLN w B (cs.map CD.cp) u → Calls Try.prog 30 #[.agg u.toArray] w (Out_b ar0 w)) ∧ (∀ (w : World) (B : Nat) (u : List Value), RdLN w B (cs.map CD.cp) u → Calls Try.prog 31 #[.agg u.toArray] w (Out_b ar0 w)) := by
  obtain ⟨nR, nL, nS, xR, xL, xS, k, a, b, c, x, y, op, l, r, s, rfl, p0, p1, hS⟩ := pipe_data h
  refine ⟨okP nR nL nS (fun i => (xR i).cn) (fun i => (xL i).cn) (fun i => (xS i).cn.fx) k a b c x y l r s, fun w B u hu => ?_, fun w B u hu => ?_⟩
  · obtain ⟨v0, v1, v2, rfl, h0, h1, h2, hf, hg⟩ := pipe_open hu hS
    exact s_ValidPipe B v0 v1 v2 nR nL nS _ _ _ k a b c x y op l r s w h0 h1 h2 p0 p1 hf hg
  · obtain ⟨v0, v1, v2, rfl, h0, h1, h2, hf, hg⟩ := pipe_open hu hS
    exact i_ValidPipe B v0 v1 v2 nR nL nS _ _ _ k a b c x y op l r s w h0 h1 h2 p0 p1 hf hg
end Go.Proofs.Ytjcbolllohmjjaa

/- 'indicesAt'. -/
namespace Go.Proofs.Ytjcbolllohmjjaa
open Go.RowKit Go.Fk
set_option maxRecDepth 100000 in
set_option maxHeartbeats 1000000 in
theorem i_indicesAt (b0 o0 k0 b1 o1 k1 n t q N jR jL : Nat) (au av : Addr) (cu cv : Nat) (v2 : Value) (k : Int) (a b c x y : Nat) (op : Bool) (l r s : Nat) (w : World) (ht : t < n) (hN : N ≤ 1024) (hq : q < N) (hR : jR < N) (hL : jL < N)
    (hn : n ≤ 9223372036854775807)
    (d0 : w.cell? ⟨b0, o0 + t * 2, none⟩ = some (.slice (some au) N cu)) (d1 : w.cell? ⟨b0, o0 + t * 2 + 1, none⟩ = some (.int .i64 jR))
    (e0 : w.cell? ⟨b1, o1 + t * 2, none⟩ = some (.slice (some av) N cv)) (e1 : w.cell? ⟨b1, o1 + t * 2 + 1, none⟩ = some (.int .i64 jL)) :
    Calls Try.prog 79 #[.agg #[.slice (some ⟨b0, o0, none⟩) n k0, .slice (some ⟨b1, o1, none⟩) n k1, v2, .int .i64 k, .float .f32 a, .float .f32 b, .float .f32 c, .float .f32 x, .float .f32 y, .bool op, .float .f32 l, .float .f32 r, .float .f32 s], .int .i64 t, .int .i64 q] w
      (fun e w' => e = .returned (.tuple #[.int .i64 (((jR + N - 1 - q) % N : Nat) : Int), .int .i64 (((jL + q) % N : Nat) : Int)]) ∧ le w w') := by
  have F := (Frg.nil w).box 49 #[.slice (some ⟨b0, o0, none⟩) n k0, .slice (some ⟨b1, o1, none⟩) n k1, v2, .int .i64 k, .float .f32 a, .float .f32 b, .float .f32 c, .float .f32 x, .float .f32 y, .bool op, .float .f32 l, .float .f32 r, .float .f32 s]
  have c0 := (F.row m0).cell? 0
  have c1 := (F.row m0).cell? 1
  have hb0 := cell_lt' d0
  have hb1 := cell_lt' e0
  have hb00 : b0 < w.heap.size + 1 := Nat.lt_succ_of_lt hb0
  have hb10 : b1 < w.heap.size + 1 := Nat.lt_succ_of_lt hb1
  have hb01 : b0 < w.heap.size + 1 + 1 := Nat.lt_succ_of_lt hb00
  have hb11 : b1 < w.heap.size + 1 + 1 := Nat.lt_succ_of_lt hb10
  replace d0 := (Below.cell F.below (cell_lt' d0)).trans d0
  replace d1 := (Below.cell F.below (cell_lt' d1)).trans d1
  replace e0 := (Below.cell F.below (cell_lt' e0)).trans e0
  replace e1 := (Below.cell F.below (cell_lt' e1)).trans e1
  have HB := hid F.below
  clear F
  have eR : ((jR : Int) - 1 - q + N) % N = (((jR + N - 1 - q) % N : Nat) : Int) := by rw [Int.natCast_emod, Int.natCast_sub (by omega), Int.natCast_sub (by omega)]; congr 1; simp; omega
  have eL : ((jL : Int) + q) % N = (((jL + q) % N : Nat) : Int) := by rw [Int.natCast_emod]; rfl
  have ER := hid eR; have EL := hid eL; clear eR eL
  have ht' : (t : Int) < (n : Int) := by omega
  go_enter Try.func79, Try.ntmps79
  go_wp2_with fail
  go_big_region
  all_goals clear c0 c1 d0 d1 e0 e1 HB
  all_goals go_wp2_with fail
  all_goals go_quiet (fail)
  all_goals go_wp2
  all_goals go_ret2
  all_goals exact ⟨by rw [ER.out, EL.out]; rfl, by first | exact le_trans (le_alloc _ _) (le_trans (le_alloc _ _) (le_trans (le_alloc _ _) (le_drewN _ _))) | exact le_trans (le_alloc _ _) (le_trans (le_alloc _ _) (le_trans (le_alloc _ _) (le_trans (le_drewN _ 1) (le_drewN _ _))))⟩
set_option maxRecDepth 100000 in
set_option maxHeartbeats 1000000 in
theorem s_l04Index (b0 o0 k0 b1 o1 k1 n t q N jR jL g : Nat) (au av : Addr) (cu cv : Nat) (w : World) (ht : t < n) (hN : N ≤ 1024) (hq : q < N) (hR : jR < N) (hL : jL < N)
    (c0 : w.cell? ⟨g, 0, none⟩ = some (.slice (some ⟨b0, o0, none⟩) n k0)) (c1 : w.cell? ⟨g, 1, none⟩ = some (.slice (some ⟨b1, o1, none⟩) n k1))
    (d0 : w.cell? ⟨b0, o0 + t * 2, none⟩ = some (.slice (some au) N cu)) (d1 : w.cell? ⟨b0, o0 + t * 2 + 1, none⟩ = some (.int .i64 jR))
    (e0 : w.cell? ⟨b1, o1 + t * 2, none⟩ = some (.slice (some av) N cv)) (e1 : w.cell? ⟨b1, o1 + t * 2 + 1, none⟩ = some (.int .i64 jL)) :
    Calls Try.prog 77 #[.pointer (some ⟨g, 0, none⟩), .int .i64 t, .int .i64 q] w
      (fun e w' => e = .returned (.tuple #[.int .i64 (((jR + N - 1 - q) % N : Nat) : Int), .int .i64 (((jL + q) % N : Nat) : Int)]) ∧ le w w') := by
  have eR : ((jR : Int) + N - 1 - q) % N = (((jR + N - 1 - q) % N : Nat) : Int) := by rw [Int.natCast_emod, Int.natCast_sub (by omega), Int.natCast_sub (by omega)]; congr 1
  have eL : ((jL : Int) + q) % N = (((jL + q) % N : Nat) : Int) := by rw [Int.natCast_emod]; rfl
  have ER := hid eR; have EL := hid eL; clear eR eL
  have ht' : (t : Int) < (n : Int) := by omega
  go_enter Try.func77, Try.ntmps77
  go_wp2_with (with_reducible refine wpList_indexW0 rfl rfl rfl rfl Try.underlying46 uinfoRingI ht ?_)
  go_quiet (fail)
  go_wp2
  go_ret2
  exact ⟨by rw [ER.out, EL.out]; rfl, le_drewN _ _⟩
end Go.Proofs.Ytjcbolllohmjjaa

/- Places of pipes; 'PressureAt' of both. -/
namespace Go.Fk
open Go Go.RowKit
/-- Is there such a place? -/
def hasP (xR : Nat → CD) (n : Nat) (t p : Int) : Bool := decide (0 ≤ t) && decide (t < n) && decide (0 ≤ p) && decide (p < rgN xR t.toNat)
/-- The sum at a place. -/
def prsP (xR xL : Nat → CD) (t p : Nat) : Nat := fop .add .f32 (rgX xR t (((rgK xR t).toNat + rgN xR t - 1 - p) % rgN xR t)) (rgX xL t (((rgK xL t).toNat + p) % rgN xR t))
theorem ring_nat {n : Nat} {k : Int} (h : okRing n k = true) : 1 ≤ n ∧ n ≤ 1024 ∧ ∃ j : Nat, k = j ∧ j < n := by
  have := okRing_iff.1 h
  exact ⟨this.1, this.2.1, k.toNat, by omega, by omega⟩
set_option maxRecDepth 100000 in
set_option maxHeartbeats 2000000 in
theorem hasP_nat {xR : Nat → CD} {n : Nat} {t p : Int} (h : hasP xR n t p = true) : ∃ t' p' : Nat, t = t' ∧ p = p' ∧ t' < n ∧ p' < rgN xR t' := by
  unfold hasP at h
  simp only [Bool.and_eq_true, decide_eq_true_eq] at h
  obtain ⟨⟨⟨h1, h2⟩, h3⟩, h4⟩ := h
  exact ⟨t.toNat, p.toNat, by omega, by omega, by omega, by omega⟩
theorem okP_parts {nR nL nS : Nat} {xR xL : Nat → CD} {yS : Nat → Nat} {k : Int} {a b c x y l r s : Nat} (h : okP nR nL nS xR xL yS k a b c x y l r s = true) : 1 ≤ nR ∧ nR ≤ 3 ∧ nL = nR ∧ ∀ t, t < nR → rgN xL t = rgN xR t ∧ rgN xR t ≤ 1024 ∧ ∃ jR jL : Nat, rgK xR t = jR ∧ rgK xL t = jL ∧ jR < rgN xR t ∧ jL < rgN xR t := by
  unfold okP at h
  simp only [Bool.and_eq_true, decide_eq_true_eq, beq_iff_eq] at h
  obtain ⟨⟨⟨⟨⟨⟨⟨⟨⟨⟨x1, x2⟩, x3⟩, _⟩, _⟩, _⟩, _⟩, _⟩, _⟩, _⟩, hA⟩ := h
  refine ⟨x1, x2, x3, fun t ht => ?_⟩
  have hs := allB_all hA t ht
  unfold secOk rgOk at hs
  simp only [Bool.and_eq_true, beq_iff_eq] at hs
  obtain ⟨_, h2, jR, e1, h3⟩ := ring_nat hs.1.1.1
  obtain ⟨_, h5, jL, e2, h6⟩ := ring_nat hs.1.2.1
  exact ⟨hs.2.symm, h2, jR, jL, e1, e2, h3, by omega⟩
end Go.Fk
namespace Go.Proofs.Ytjcbolllohmjjaa
open Go.RowKit Go.Fk
set_option maxRecDepth 100000 in
set_option maxHeartbeats 4000000 in
theorem i_hasPlace (B b0 o0 k0 n : Nat) (v1 v2 : Value) (xR : Nat → CD) (k : Int) (a b c x y : Nat) (op : Bool) (l r s : Nat) (t p : Int) (w : World) (h0 : (CD.sl 2 n xR).RdN w B (.slice (some ⟨b0, o0, none⟩) n k0)) (p0 : RgsOk xR n) :
    Calls Try.prog 78 #[.agg #[.slice (some ⟨b0, o0, none⟩) n k0, v1, v2, .int .i64 k, .float .f32 a, .float .f32 b, .float .f32 c, .float .f32 x, .float .f32 y, .bool op, .float .f32 l, .float .f32 r, .float .f32 s], .int .i64 t, .int .i64 p] w (Out_b (hasP xR n t p) w) := by
  have S0 := h0.rd.small
  have F := (Frg.nil w).box 49 #[.slice (some ⟨b0, o0, none⟩) n k0, v1, v2, .int .i64 k, .float .f32 a, .float .f32 b, .float .f32 c, .float .f32 x, .float .f32 y, .bool op, .float .f32 l, .float .f32 r, .float .f32 s]
  have c0 := (F.row m0).cell? 0
  have HB := hid F.below
  by_cases g1 : 0 ≤ t
  rotate_left
  · have E : hasP xR n t p = false := by unfold hasP; rw [decide_eq_false g1]; rfl
    have q1 : (decide (t ≥ 0)) = false := decide_eq_false g1
    rw [E]; clear E F h0 p0
    go_enter Try.func78, Try.ntmps78
    go_wp2
    go_ret
    exact ⟨rfl, HB.out⟩
  obtain ⟨t, rfl⟩ : ∃ t' : Nat, t = t' := ⟨t.toNat, by omega⟩
  by_cases g2 : t < n
  rotate_left
  · have E : hasP xR n t p = false := by unfold hasP; rw [decide_eq_false (p := (t : Int) < n) (by omega)]; simp
    have q2 : ¬ (t : Int) < (n : Int) := by omega
    rw [E]; clear E F h0 p0
    go_enter Try.func78, Try.ntmps78
    go_wp2
    go_ret
    exact ⟨rfl, HB.out⟩
  have q2 : (t : Int) < (n : Int) := by omega
  by_cases g3 : 0 ≤ p
  rotate_left
  · have E : hasP xR n t p = false := by unfold hasP; rw [decide_eq_false g3]; simp
    rw [E]; clear E F h0 p0
    go_enter Try.func78, Try.ntmps78
    go_wp2
    go_ret
    exact ⟨rfl, HB.out⟩
  obtain ⟨u, d0, d1, hw, hr⟩ := p0.at h0 g2
  have HLN := hid hr
  replace d0 := (Below.cell F.below (cell_lt' d0)).trans d0
  have E : hasP xR n t p = decide (p < rgN xR t) := by unfold hasP; rw [decide_eq_true g1, decide_eq_true q2, decide_eq_true g3]; simp
  rw [E]; clear E F h0 p0 d1 hw hr
  by_cases g4 : p < rgN xR t
  all_goals
    go_enter Try.func78, Try.ntmps78
    go_wp2_with (first | (with_reducible refine wpList_indexW0G rfl rfl rfl Try.underlying46 uinfoRingI g2 (by kernel_rfl) ?_) | (with_reducible refine wpList_lenRG rfl rfl Try.underlying30 HLN.out (by kernel_rfl) ?_))
    go_ret
    exact ⟨ret_b (by simp [g4]), HB.out⟩
set_option maxRecDepth 100000 in
set_option maxHeartbeats 4000000 in
theorem s_l04Place (B b0 o0 k0 n g : Nat) (xR : Nat → CD) (t p : Int) (w : World) (c0 : w.cell? ⟨g, 0, none⟩ = some (.slice (some ⟨b0, o0, none⟩) n k0)) (h0 : (CD.sl 2 n xR).RdN w B (.slice (some ⟨b0, o0, none⟩) n k0)) (p0 : RgsOk xR n) :
    Calls Try.prog 76 #[.pointer (some ⟨g, 0, none⟩), .int .i64 t, .int .i64 p] w (Out_b (hasP xR n t p) w) := by
  have S0 := h0.rd.small
  have HI := hid (s_In t 0 ((n : Int) - 1))
  cases g1 : (decide (0 ≤ t) && decide (t ≤ (n : Int) - 1))
  · have E : hasP xR n t p = false := by
      unfold hasP
      rw [Bool.and_eq_false_iff] at g1
      simp only [decide_eq_false_iff_not] at g1
      rcases g1 with g | g
      · rw [decide_eq_false g]; rfl
      · rw [decide_eq_false (p := t < (n : Int)) (by omega)]; simp
    rw [E]; rw [g1] at HI; clear E h0 p0 g1
    go_enter Try.func76, Try.ntmps76
    go_wp2_with (go_at_call 57; refine (HI.out _).mono ?_; rintro e w' ⟨rfl, rfl⟩)
    go_ret
    exact ⟨rfl, le_refl _⟩
  rw [g1] at HI
  simp only [Bool.and_eq_true, decide_eq_true_eq] at g1
  obtain ⟨t, rfl⟩ : ∃ t' : Nat, t = t' := ⟨t.toNat, by omega⟩
  have g2 : t < n := by omega
  obtain ⟨u, d0, d1, hw, hr⟩ := p0.at h0 g2
  have HLN := hid hr
  have E : hasP xR n t p = (decide (0 ≤ p) && decide (p ≤ (rgN xR t : Int) - 1)) := by
    unfold hasP
    rw [decide_eq_true g1.1, decide_eq_true (p := (t : Int) < n) (by omega)]
    simp only [Bool.true_and, Int.toNat_natCast]
    congr 1
    exact decide_eq_decide.2 (by omega)
  have HJ := hid (s_In p 0 ((rgN xR t : Int) - 1))
  have SN := hr.small
  rw [E]; clear E h0 p0 d1 hw hr g1
  all_goals
    go_enter Try.func76, Try.ntmps76
    go_wp2_with (first | (with_reducible refine wpList_indexW0G rfl rfl rfl Try.underlying46 uinfoRingI g2 (by kernel_rfl) ?_) | (with_reducible refine wpList_lenRG rfl rfl Try.underlying30 HLN.out (by kernel_rfl) ?_) | (go_at_call 57; first | ((with_reducible refine (HI.out _).mono ?_); rintro e w' ⟨rfl, rfl⟩) | ((with_reducible refine (HJ.out _).mono ?_); rintro e w' ⟨rfl, rfl⟩)))
    go_ret
    exact ⟨rfl, le_refl _⟩
set_option maxRecDepth 100000 in
set_option maxHeartbeats 4000000 in
theorem s_PressureAt (B : Nat) (v0 v1 v2 : Value) (nR nL nS : Nat) (xR xL : Nat → CD) (yS : Nat → Nat) (k : Int) (a b c x y : Nat) (op : Bool) (l r s : Nat) (w : World) (h0 : (CD.sl 2 nR xR).RdN w B v0) (h1 : (CD.sl 2 nL xL).RdN w B v1) (h2 : RdS w B v2 yS nS) (p0 : RgsOk xR nR) (p1 : RgsOk xL nL) (hf : fits .f32 a ∧ fits .f32 b ∧ fits .f32 c ∧ fits .f32 x ∧ fits .f32 y) (hg : fits .f32 l ∧ fits .f32 r ∧ fits .f32 s) (t p : Int) (v : Nat) (d : Int) (h : (okP nR nL nS xR xL yS k a b c x y l r s = false ∧ v = 0 ∧ d = 1) ∨ (okP nR nL nS xR xL yS k a b c x y l r s = true ∧ hasP xR nR t p = false ∧ v = 0 ∧ d = 2) ∨ (okP nR nL nS xR xL yS k a b c x y l r s = true ∧ hasP xR nR t p = true ∧ v = prsP xR xL t.toNat p.toNat ∧ d = 0)) :
    Calls Try.prog 36 #[.agg #[v0, v1, v2, .int .i64 k, .float .f32 a, .float .f32 b, .float .f32 c, .float .f32 x, .float .f32 y, .bool op, .float .f32 l, .float .f32 r, .float .f32 s], .int .i64 t, .int .i64 p] w (Out_fi v d w) := by
  have HV := hid (fun (w' : World) (hl : le w w') (g : Nat) (R : Row w' g 49 #[v0, v1, v2, .int .i64 k, .float .f32 a, .float .f32 b, .float .f32 c, .float .f32 x, .float .f32 y, .bool op, .float .f32 l, .float .f32 r, .float .f32 s]) => s_l04Ok B v0 v1 v2 nR nL nS xR xL yS k a b c x y op l r s g w' R (h0.le hl) (h1.le hl) (h2.le hl) p0 p1 hf hg)
  have F := (Frg.nil w).box 49 #[v0, v1, v2, .int .i64 k, .float .f32 a, .float .f32 b, .float .f32 c, .float .f32 x, .float .f32 y, .bool op, .float .f32 l, .float .f32 r, .float .f32 s]
  rcases h with ⟨hv, rfl, rfl⟩ | ⟨hv, hr, rfl, rfl⟩ | ⟨hv, hr, rfl, rfl⟩
  · rw [hv] at HV
    clear h0 h1 h2 p0 p1 hf hg hv
    go_enter Try.func36, Try.ntmps36
    go_wp2_with (first | (go_at_call 61; ((with_reducible refine (HV.out _ F.below _ (F.row m0)).mono ?_); rintro e w1 ⟨rfl, hl⟩; replace F := F.le hl; clear hl; have c0 := (F.row m0).cell? 0)))
    go_ret2
    exact ⟨_, rfl, by decide, F.below⟩
  · obtain ⟨n1, n2, n3, n4⟩ := okP_parts hv
    rw [hv] at HV
    obtain ⟨b0, o0, k0, rfl, _, _⟩ := h0.form.resolve_left (fun h => by have := h.2; omega)
    have HP := hid (fun (w' : World) (g : Nat) (hl : le w w') (c0 : w'.cell? ⟨g, 0, none⟩ = some (.slice (some ⟨b0, o0, none⟩) nR k0)) => s_l04Place B b0 o0 k0 nR g xR t p w' c0 (h0.le hl) p0)
    rw [hr] at HP
    clear h0 h1 h2 p0 p1 hf hg hv hr n4
    go_enter Try.func36, Try.ntmps36
    go_wp2_with (first | (go_at_call 61; ((with_reducible refine (HV.out _ F.below _ (F.row m0)).mono ?_); rintro e w1 ⟨rfl, hl⟩; replace F := F.le hl; clear hl; have c0 := (F.row m0).cell? 0)) | (go_at_call 76; ((with_reducible refine (HP.out _ _ F.below ((F.row m0).cell? 0)).mono ?_); rintro e w2 ⟨rfl, hl⟩; replace F := F.le hl; clear hl)))
    go_ret2
    exact ⟨_, rfl, by decide, F.below⟩
  · obtain ⟨n1, n2, n3, n4⟩ := okP_parts hv
    rw [hv] at HV
    obtain ⟨b0, o0, k0, rfl, hk0, hm0⟩ := h0.form.resolve_left (fun h => by have := h.2; omega)
    have HP := hid (fun (w' : World) (g : Nat) (hl : le w w') (c0 : w'.cell? ⟨g, 0, none⟩ = some (.slice (some ⟨b0, o0, none⟩) nR k0)) => s_l04Place B b0 o0 k0 nR g xR t p w' c0 (h0.le hl) p0)
    obtain ⟨b1, o1, k1, rfl, hk1, hm1⟩ := h1.form.resolve_left (fun h => by have := h.2; omega)
    rw [hr] at HP
    obtain ⟨t, p, rfl, rfl, ht, hp⟩ := hasP_nat hr
    subst n3
    obtain ⟨e1, e2, jR, jL, e3, e4, e5, e6⟩ := n4 t ht
    obtain ⟨u, d0, d1, hwu, hru⟩ := p0.at h0 ht
    obtain ⟨v, f0, f1, hwv, hrv⟩ := p1.at h1 ht
    obtain ⟨au, cu, yu, rfl, hcu, hmu, hxu⟩ := hru.raw (by omega)
    obtain ⟨av, cv, yv, rfl, hcv, hmv, hxv⟩ := hrv.raw (by omega)
    unfold maxLen at hmu hmv hm0 hm1
    have EV : prsP xR xL t p = fop .add .f32 (yu ((jR + rgN xR t - 1 - p) % rgN xR t)) (yv ((jL + p) % rgN xR t)) := by
      unfold prsP
      rw [e3, e4]
      have a1 := (hxu _ (Nat.mod_lt (jR + rgN xR t - 1 - p) (show 0 < rgN xR t by omega))).2.2
      have a2 := (hxv ((jL + p) % rgN xR t) (by rw [e1]; exact Nat.mod_lt _ (by omega))).2.2
      exact fop_congr (by rw [Int.toNat_natCast, ← a1, can_can]) (by rw [Int.toNat_natCast, ← a2, can_can])
    have X0 := hid (hxu _ (Nat.mod_lt (jR + rgN xR t - 1 - p) (show 0 < rgN xR t by omega))).1
    have X1 := hid (hxv ((jL + p) % rgN xR t) (by rw [e1]; exact Nat.mod_lt _ (by omega))).1
    rw [e1] at f0 hcv
    rw [e3] at d1
    rw [e4] at f1
    have D0 := hid d0; have F0 := hid f0; have D1 := hid d1; have F1 := hid f1
    have hI : (jR + rgN xR t - 1 - p) % rgN xR t < rgN xR t := Nat.mod_lt _ (by omega)
    have hJ : (jL + p) % rgN xR t < rgN xR t := Nat.mod_lt _ (by omega)
    have HIX := hid (fun (w' : World) (g : Nat) (hl : le w w') (c0 : w'.cell? ⟨g, 0, none⟩ = some (.slice (some ⟨b0, o0, none⟩) nL k0)) (c1 : w'.cell? ⟨g, 1, none⟩ = some (.slice (some ⟨b1, o1, none⟩) nL k1)) => s_l04Index b0 o0 k0 b1 o1 k1 nL t p (rgN xR t) jR jL g au av cu cv w' ht e2 hp e5 e6 c0 c1 ((Below.cell hl (cell_lt' D0.out)).trans D0.out) ((Below.cell hl (cell_lt' D1.out)).trans D1.out) ((Below.cell hl (cell_lt' F0.out)).trans F0.out) ((Below.cell hl (cell_lt' F1.out)).trans F1.out))
    obtain ⟨iR, hiR⟩ : ∃ i, i = (jR + rgN xR t - 1 - p) % rgN xR t := ⟨_, rfl⟩
    obtain ⟨iL, hiL⟩ : ∃ i, i = (jL + p) % rgN xR t := ⟨_, rfl⟩
    rw [← hiR] at hI X0 HIX EV
    rw [← hiL] at hJ X1 HIX EV
    have ht' : (t : Int) < (nL : Int) := by omega
    have hI' : (iR : Int) < (rgN xR t : Int) := by omega
    have hJ' : (iL : Int) < (rgN xR t : Int) := by omega
    replace EV := hid EV
    clear h0 h1 h2 p0 p1 hf hg hv hr n4 hxu hxv hwu hwv hru hrv d0 d1 f0 f1 hiR hiL e1 e3 e4 e5 e6
    go_enter Try.func36, Try.ntmps36
    go_wp2_with (first | (go_at_call 61; ((with_reducible refine (HV.out _ F.below _ (F.row m0)).mono ?_); rintro e w1 ⟨rfl, hl⟩; replace F := F.le hl; clear hl; have c0 := (F.row m0).cell? 0)) | (go_at_call 76; ((with_reducible refine (HP.out _ _ F.below ((F.row m0).cell? 0)).mono ?_); rintro e w2 ⟨rfl, hl⟩; replace F := F.le hl; clear hl)) | (go_at_call 77; ((with_reducible refine (HIX.out _ _ F.below ((F.row m0).cell? 0) ((F.row m0).cell? 1)).mono ?_); rintro e w3 ⟨rfl, hl⟩; replace F := F.le hl; clear hl; clear c0; have c0 := (F.row m0).cell? 0; have c1 := (F.row m0).cell? 1; have z0 := (Below.cell F.below (cell_lt' D0.out)).trans D0.out; have z1 := (Below.cell F.below (cell_lt' F0.out)).trans F0.out; have z2 := (Below.cell F.below (cell_lt' X0.out)).trans X0.out; have z3 := (Below.cell F.below (cell_lt' X1.out)).trans X1.out)))
    have HL := hid F.below
    clear F HV HP HIX
    refine wp_region_tail (fun _ _ _ => True) 19 (by kernel_rfl) (by kernel_rfl) ?_; simp only [List.take_succ_cons, List.take_zero, List.drop_succ_cons, List.drop_zero]
    repeat (first | (with_reducible refine wpLoose_farith rfl rfl rfl rfl rfl ?_; intro rr hrr hff; simp only [Act.put, List.setIfInBounds_toArray, List.set_cons_succ, List.set_cons_zero]) | (refine wpLoose_quiet rfl ?_; go_big_quiet_step (fail); refine wpQuiet_nil ?_))
    refine wpLoose_nil (fun m1 => ?_)
    go_wp2
    go_ret2
    exact ⟨_, rfl, hrr.out.trans EV.out.symm, le_trans HL.out (le_drewN _ _)⟩
set_option maxRecDepth 100000 in
set_option maxHeartbeats 4000000 in
theorem i_PressureAt (B : Nat) (v0 v1 v2 : Value) (nR nL nS : Nat) (xR xL : Nat → CD) (yS : Nat → Nat) (k : Int) (a b c x y : Nat) (op : Bool) (l r s : Nat) (w : World) (h0 : (CD.sl 2 nR xR).RdN w B v0) (h1 : (CD.sl 2 nL xL).RdN w B v1) (h2 : RdS w B v2 yS nS) (p0 : RgsOk xR nR) (p1 : RgsOk xL nL) (hf : fits .f32 a ∧ fits .f32 b ∧ fits .f32 c ∧ fits .f32 x ∧ fits .f32 y) (hg : fits .f32 l ∧ fits .f32 r ∧ fits .f32 s) (t p : Int) (v : Nat) (d : Int) (h : (okP nR nL nS xR xL yS k a b c x y l r s = false ∧ v = 0 ∧ d = 1) ∨ (okP nR nL nS xR xL yS k a b c x y l r s = true ∧ hasP xR nR t p = false ∧ v = 0 ∧ d = 2) ∨ (okP nR nL nS xR xL yS k a b c x y l r s = true ∧ hasP xR nR t p = true ∧ v = prsP xR xL t.toNat p.toNat ∧ d = 0)) :
    Calls Try.prog 37 #[.agg #[v0, v1, v2, .int .i64 k, .float .f32 a, .float .f32 b, .float .f32 c, .float .f32 x, .float .f32 y, .bool op, .float .f32 l, .float .f32 r, .float .f32 s], .int .i64 t, .int .i64 p] w (Out_fi v d w) := by
  have HV := hid (fun (w' : World) (hl : le w w') => i_ValidPipe B v0 v1 v2 nR nL nS xR xL yS k a b c x y op l r s w' (h0.le hl) (h1.le hl) (h2.le hl) p0 p1 hf hg)
  have F := (Frg.nil w).box 49 #[v0, v1, v2, .int .i64 k, .float .f32 a, .float .f32 b, .float .f32 c, .float .f32 x, .float .f32 y, .bool op, .float .f32 l, .float .f32 r, .float .f32 s]
  rcases h with ⟨hv, rfl, rfl⟩ | ⟨hv, hr, rfl, rfl⟩ | ⟨hv, hr, rfl, rfl⟩
  · rw [hv] at HV
    clear h0 h1 h2 p0 p1 hf hg hv
    go_enter Try.func37, Try.ntmps37
    go_wp2_with (first | ((with_reducible refine at_loadU rfl rfl ?_); (with_reducible refine wpList_loadG F rfl rfl rfl m0 Try.underlying49 rfl uinfoPipeI rfl ?_)) | (go_at_call 31; ((with_reducible refine (HV.out _ F.below).mono ?_); rintro e w1 ⟨rfl, hl⟩; replace F := F.le hl; clear hl)))
    go_ret2
    exact ⟨_, rfl, by decide, F.below⟩
  · obtain ⟨n1, n2, n3, n4⟩ := okP_parts hv
    rw [hv] at HV
    obtain ⟨b0, o0, k0, rfl, _, _⟩ := h0.form.resolve_left (fun h => by have := h.2; omega)
    have HP := hid (fun (w' : World) (hl : le w w') => i_hasPlace B b0 o0 k0 nR v1 v2 xR k a b c x y op l r s t p w' (h0.le hl) p0)
    rw [hr] at HP
    clear h0 h1 h2 p0 p1 hf hg hv hr n4
    go_enter Try.func37, Try.ntmps37
    go_wp2_with (first | ((with_reducible refine at_loadU rfl rfl ?_); (with_reducible refine wpList_loadG F rfl rfl rfl m0 Try.underlying49 rfl uinfoPipeI rfl ?_)) | (go_at_call 31; ((with_reducible refine (HV.out _ F.below).mono ?_); rintro e w1 ⟨rfl, hl⟩; replace F := F.le hl; clear hl)) | (go_at_call 78; ((with_reducible refine (HP.out _ F.below).mono ?_); rintro e w2 ⟨rfl, hl⟩; replace F := F.le hl; clear hl)))
    go_ret2
    exact ⟨_, rfl, by decide, F.below⟩
  · obtain ⟨n1, n2, n3, n4⟩ := okP_parts hv
    rw [hv] at HV
    obtain ⟨b0, o0, k0, rfl, hk0, hm0⟩ := h0.form.resolve_left (fun h => by have := h.2; omega)
    have HP := hid (fun (w' : World) (hl : le w w') => i_hasPlace B b0 o0 k0 nR v1 v2 xR k a b c x y op l r s t p w' (h0.le hl) p0)
    obtain ⟨b1, o1, k1, rfl, hk1, hm1⟩ := h1.form.resolve_left (fun h => by have := h.2; omega)
    rw [hr] at HP
    obtain ⟨t, p, rfl, rfl, ht, hp⟩ := hasP_nat hr
    subst n3
    obtain ⟨e1, e2, jR, jL, e3, e4, e5, e6⟩ := n4 t ht
    obtain ⟨u, d0, d1, hwu, hru⟩ := p0.at h0 ht
    obtain ⟨v, f0, f1, hwv, hrv⟩ := p1.at h1 ht
    obtain ⟨au, cu, yu, rfl, hcu, hmu, hxu⟩ := hru.raw (by omega)
    obtain ⟨av, cv, yv, rfl, hcv, hmv, hxv⟩ := hrv.raw (by omega)
    unfold maxLen at hmu hmv hm0 hm1
    have EV : prsP xR xL t p = fop .add .f32 (yu ((jR + rgN xR t - 1 - p) % rgN xR t)) (yv ((jL + p) % rgN xR t)) := by
      unfold prsP
      rw [e3, e4]
      have a1 := (hxu _ (Nat.mod_lt (jR + rgN xR t - 1 - p) (show 0 < rgN xR t by omega))).2.2
      have a2 := (hxv ((jL + p) % rgN xR t) (by rw [e1]; exact Nat.mod_lt _ (by omega))).2.2
      exact fop_congr (by rw [Int.toNat_natCast, ← a1, can_can]) (by rw [Int.toNat_natCast, ← a2, can_can])
    have X0 := hid (hxu _ (Nat.mod_lt (jR + rgN xR t - 1 - p) (show 0 < rgN xR t by omega))).1
    have X1 := hid (hxv ((jL + p) % rgN xR t) (by rw [e1]; exact Nat.mod_lt _ (by omega))).1
    rw [e1] at f0 hcv
    rw [e3] at d1
    rw [e4] at f1
    have D0 := hid d0; have F0 := hid f0; have D1 := hid d1; have F1 := hid f1
    have hI : (jR + rgN xR t - 1 - p) % rgN xR t < rgN xR t := Nat.mod_lt _ (by omega)
    have hJ : (jL + p) % rgN xR t < rgN xR t := Nat.mod_lt _ (by omega)
    have HIX := hid (fun (w' : World) (hl : le w w') => i_indicesAt b0 o0 k0 b1 o1 k1 nL t p (rgN xR t) jR jL au av cu cv v2 k a b c x y op l r s w' ht e2 hp e5 e6 (by omega) ((Below.cell hl (cell_lt' D0.out)).trans D0.out) ((Below.cell hl (cell_lt' D1.out)).trans D1.out) ((Below.cell hl (cell_lt' F0.out)).trans F0.out) ((Below.cell hl (cell_lt' F1.out)).trans F1.out))
    obtain ⟨iR, hiR⟩ : ∃ i, i = (jR + rgN xR t - 1 - p) % rgN xR t := ⟨_, rfl⟩
    obtain ⟨iL, hiL⟩ : ∃ i, i = (jL + p) % rgN xR t := ⟨_, rfl⟩
    rw [← hiR] at hI X0 HIX EV
    rw [← hiL] at hJ X1 HIX EV
    have ht' : (t : Int) < (nL : Int) := by omega
    have hI' : (iR : Int) < (rgN xR t : Int) := by omega
    have hJ' : (iL : Int) < (rgN xR t : Int) := by omega
    replace EV := hid EV
    clear h0 h1 h2 p0 p1 hf hg hv hr n4 hxu hxv hwu hwv hru hrv d0 d1 f0 f1 hiR hiL e1 e3 e4 e5 e6
    go_enter Try.func37, Try.ntmps37
    go_wp2_with (first | ((with_reducible refine at_loadU rfl rfl ?_); (with_reducible refine wpList_loadG F rfl rfl rfl m0 Try.underlying49 rfl uinfoPipeI rfl ?_)) | (go_at_call 31; ((with_reducible refine (HV.out _ F.below).mono ?_); rintro e w1 ⟨rfl, hl⟩; replace F := F.le hl; clear hl)) | (go_at_call 78; ((with_reducible refine (HP.out _ F.below).mono ?_); rintro e w2 ⟨rfl, hl⟩; replace F := F.le hl; clear hl)) | (go_at_call 79; ((with_reducible refine (HIX.out _ F.below).mono ?_); rintro e w3 ⟨rfl, hl⟩; replace F := F.le hl; clear hl; have c0 := (F.row m0).cell? 0; have c1 := (F.row m0).cell? 1; have z0 := (Below.cell F.below (cell_lt' D0.out)).trans D0.out; have z1 := (Below.cell F.below (cell_lt' F0.out)).trans F0.out; have z2 := (Below.cell F.below (cell_lt' X0.out)).trans X0.out; have z3 := (Below.cell F.below (cell_lt' X1.out)).trans X1.out)))
    have HL := hid F.below
    clear F HV HP HIX
    refine wp_region_tail (fun _ _ _ => True) 19 (by kernel_rfl) (by kernel_rfl) ?_; simp only [List.take_succ_cons, List.take_zero, List.drop_succ_cons, List.drop_zero]
    repeat (first | (with_reducible refine wpLoose_farith rfl rfl rfl rfl rfl ?_; intro rr hrr hff; simp only [Act.put, List.setIfInBounds_toArray, List.set_cons_succ, List.set_cons_zero]) | (refine wpLoose_quiet rfl ?_; go_big_quiet_step (fail); refine wpQuiet_nil ?_))
    refine wpLoose_nil (fun m1 => ?_)
    go_wp2
    go_ret2
    exact ⟨_, rfl, hrr.out.trans EV.out.symm, le_trans HL.out (le_drewN _ _)⟩
theorem both_PressureAt (cs : List CD) (h : HasShL shPipe cs) (t p : Int) : ∃ (ar0 : Nat) (ar1 : Int), (∀ (w : World) (B : Nat) (u : List Value), RdLN w B (cs.map CD.cp) u → Calls Try.prog 36 #[.agg u.toArray, .int .i64 t, .int .i64 p] w (Out_fi ar0 ar1 w)) ∧ (∀ (w : World) (B : Nat) (u : List Value), RdLN w B (cs.map CD.cp) u → Calls Try.prog 37 #[.agg u.toArray, .int .i64 t, .int .i64 p] w (Out_fi ar0 ar1 w)) := by
  obtain ⟨nR, nL, nS, xR, xL, xS, k, a, b, c, x, y, op, l, r, s, rfl, p0, p1, hS⟩ := pipe_data h
  have key : ∃ (v : Nat) (d : Int), (okP nR nL nS (fun i => (xR i).cn) (fun i => (xL i).cn) (fun i => (xS i).cn.fx) k a b c x y l r s = false ∧ v = 0 ∧ d = 1) ∨ (okP nR nL nS (fun i => (xR i).cn) (fun i => (xL i).cn) (fun i => (xS i).cn.fx) k a b c x y l r s = true ∧ hasP (fun i => (xR i).cn) nR t p = false ∧ v = 0 ∧ d = 2) ∨ (okP nR nL nS (fun i => (xR i).cn) (fun i => (xL i).cn) (fun i => (xS i).cn.fx) k a b c x y l r s = true ∧ hasP (fun i => (xR i).cn) nR t p = true ∧ v = prsP (fun i => (xR i).cn) (fun i => (xL i).cn) t.toNat p.toNat ∧ d = 0) := by
    cases okP nR nL nS (fun i => (xR i).cn) (fun i => (xL i).cn) (fun i => (xS i).cn.fx) k a b c x y l r s
    · exact ⟨0, 1, .inl ⟨rfl, rfl, rfl⟩⟩
    · cases hasP (fun i => (xR i).cn) nR t p
      · exact ⟨0, 2, .inr (.inl ⟨rfl, rfl, rfl, rfl⟩)⟩
      · exact ⟨_, 0, .inr (.inr ⟨rfl, rfl, rfl, rfl⟩)⟩
  obtain ⟨v, d, hk⟩ := key
  refine ⟨v, d, fun w B u hu => ?_, fun w B u hu => ?_⟩
  · obtain ⟨v0, v1, v2, rfl, h0, h1, h2, hf, hg⟩ := pipe_open hu hS
    exact s_PressureAt B v0 v1 v2 nR nL nS _ _ _ k a b c x y op l r s w h0 h1 h2 p0 p1 hf hg t p v d hk
  · obtain ⟨v0, v1, v2, rfl, h0, h1, h2, hf, hg⟩ := pipe_open hu hS
    exact i_PressureAt B v0 v1 v2 nR nL nS _ _ _ k a b c x y op l r s w h0 h1 h2 p0 p1 hf hg t p v d hk
end Go.Proofs.Ytjcbolllohmjjaa
