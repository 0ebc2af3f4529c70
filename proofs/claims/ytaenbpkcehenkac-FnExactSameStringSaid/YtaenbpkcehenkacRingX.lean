/- Rings over facts of memory: 'ValidRing', 'SameRing' of both. -/
import Derived.Test.YtaenbpkcehenkacHRing
import Derived.Test.YtaenbpkcehenkacOwnRow
import Derived.Test.YtaenbpkcehenkacOut
import Derived.Test.YtaenbpkcehenkacSameF
namespace Go.Fk
open Go Go.RowKit
theorem RdS.form {w : World} {B : Nat} {s : Value} {x : Nat → Nat} {n : Nat} (h : RdS w B s x n) : (s = .slice none 0 0 ∧ n = 0) ∨ ∃ (a : Addr) (cap : Nat), s = .slice (some a) n cap ∧ n ≤ cap ∧ cap ≤ maxLen := by
  rcases h with h | ⟨a, cap, h1, h2, h3, _⟩
  · exact .inl h
  · exact .inr ⟨a, cap, h1, h2, h3⟩
section
variable {P : Program} {w : World} {ops : Array Oper} {rest : List Oper} {o : Oper} {a : Act} {Q : Exit → Act → World → Prop}
/-- The length of a slice that can be read. -/
theorem wpList_lenR (hg : o.guard = none) {x : Operand} {t : TypeId} (hop : o.op = Op.call { callee := Callee.builtin Builtin.len, args := #[x], argTypes := #[t] }) {v : Value} (hx : a.eval x = v) {e : TypeId} (hu : P.underlying t = some (.slice e)) {w1 : World} {B : Nat} {y : Nat → Nat} {n : Nat} (hv : RdS w1 B v y n)
    (h : wpList P ops Q rest (a.put o.dst (.int .i64 n)) w) : wpList P ops Q (o :: rest) a w := by
  refine wpList_plain hg fun K hK' => ?_
  unfold Oper.wp
  rcases hv.form with ⟨rfl, rfl⟩ | ⟨ad, cap, rfl, _, _⟩
  all_goals
    simp [execOp, hop, hx, Result.andThen, resolve, invoke, builtin, Builtin.len_, run_underlying hu]
    exact hK' _ _ h
end
theorem sameB_can (x y : Nat) : sameB (can .f32 x) (can .f32 y) = sameB x y := by unfold sameB; rw [can_can, can_can]
theorem okRing_iff {n : Nat} {k : Int} : okRing n k = true ↔ 1 ≤ n ∧ n ≤ 1024 ∧ 0 ≤ k ∧ k < n := by
  unfold okRing; simp only [Bool.and_eq_true, decide_eq_true_eq]; omega
/-- Two slices of floats, compared. -/
def sameS (x x' : Nat → Nat) (n n' : Nat) : Bool := (n == n') && eqRow x x' n
theorem sameS_ne {x x' : Nat → Nat} {n n' : Nat} (h : n ≠ n') : sameS x x' n n' = false := by simp [sameS, h]
theorem sameS_eq {x x' : Nat → Nat} {n : Nat} : sameS x x' n n = eqRow x x' n := by simp [sameS]
end Go.Fk
namespace Go.Proofs.Ytaenbpkcehenkac
open Go.RowKit Go.Fk
set_option maxHeartbeats 2000000 in
theorem i_ValidRingR (B : Nat) (s : Value) (x : Nat → Nat) (n : Nat) (k : Int) (w : World) (hs : RdS w B s x n) : Calls Try.prog 66 #[.agg #[s, .int .i64 k]] w fun e w' => e = .returned (.bool (okRing n k)) ∧ le w w' := by
  have HL := hid (le_alloc w (.cells #[s, .int .i64 k] 25))
  rcases hs.form with ⟨rfl, rfl⟩ | ⟨a, cap, rfl, hc, hm⟩
  · have HZ : Hid (okRing 0 k = false) := by unfold Hid okRing; simp
    clear hs
    go_enter Try.func66, Try.ntmps66
    go_wp2
    go_ret
    exact ⟨ret_b HZ.out.symm, HL.out⟩
  clear hs
  unfold maxLen at hm
  obtain ⟨z, hz⟩ : ∃ z, z = okRing n k := ⟨_, rfl⟩
  rw [← hz]
  unfold okRing at hz
  by_cases h1 : 1 ≤ (n : Int) <;> by_cases h2 : (n : Int) ≤ 1024 <;> by_cases h3 : 0 ≤ k <;> by_cases h4 : k < (n : Int)
  all_goals first | (exfalso; omega) | skip
  all_goals
    simp only [h1, h2, h3, h4, decide_true, decide_false, Bool.and_true, Bool.and_false, Bool.true_and, Bool.false_and] at hz
    have HZ := hid hz
    clear hz
    go_enter Try.func66, Try.ntmps66
    go_wp2
    go_ret
    exact ⟨ret_b HZ.out.symm, HL.out⟩
theorem s_l02RingR (B : Nat) (s : Value) (x : Nat → Nat) (n : Nat) (k : Int) (g f : Nat) (w : World) (hs : RdS w B s x n) (c0 : w.cell? ⟨g, f, none⟩ = some s) (c1 : w.cell? ⟨g, f + 1, none⟩ = some (.int .i64 k)) (hk : (Lit.int .i64 k).wf = true) :
    Calls Try.prog 97 #[.pointer (some ⟨g, f, none⟩)] w fun e w' => e = .returned (.bool (okRing n k)) ∧ w = w' := by
  rcases hs.form with ⟨rfl, rfl⟩ | ⟨a, cap, rfl, hc, hm⟩
  · have HZ : Hid (okRing 0 k = false) := by unfold Hid okRing; simp
    clear hs
    have HI : Hid (∀ w, Calls Try.prog 90 #[.int .i64 0, .int .i64 1, .int .i64 1024] w fun e w' => e = .returned (.bool false) ∧ w = w') := fun w => s_In 0 1 1024 w
    go_enter Try.func97, Try.ntmps97
    go_wp2_with (go_at_call 90; refine (HI.out _).mono ?_; rintro e w' ⟨rfl, rfl⟩)
    go_ret
    exact ⟨ret_b HZ.out.symm, rfl⟩
  clear hs hk
  unfold maxLen at hm
  obtain ⟨z, hz⟩ : ∃ z, z = okRing n k := ⟨_, rfl⟩
  rw [← hz]
  unfold okRing at hz
  by_cases h1 : 1 ≤ (n : Int) <;> by_cases h2 : (n : Int) ≤ 1024
  all_goals first | (exfalso; omega) | skip
  all_goals
    simp only [h1, h2, decide_true, decide_false, Bool.and_true, Bool.and_false, Bool.true_and, Bool.false_and] at hz
    have HZ := hid hz
    clear hz
    go_enter Try.func97, Try.ntmps97
    go_wp2_with (go_at_call 90; refine (s_In _ _ _ _).mono ?_; rintro e w' ⟨rfl, rfl⟩)
    go_ret
    refine ⟨ret_b ?_, rfl⟩
    first | (rw [HZ.out]; done) | (rw [HZ.out]; congr 1; exact decide_eq_decide.2 (by omega))
set_option maxHeartbeats 1000000 in
theorem i_EqualFuncR (B B' : Nat) (s s' : Value) (x x' : Nat → Nat) (n n' : Nat) (w : World) (hs : RdS w B s x n) (hs' : RdS w B' s' x' n') :
    Calls Try.prog 107 #[s, s', .func (.func 74) #[] #[]] w fun e w' => e = .returned (.bool (sameS x x' n n')) ∧ w = w' := by
  by_cases hne : n = n'
  · subst hne
    rw [sameS_eq]
    by_cases h0 : n = 0
    · subst h0
      rcases hs.form with ⟨rfl, _⟩ | ⟨a, cap, rfl, hc, hm⟩ <;> rcases hs'.form with ⟨rfl, _⟩ | ⟨a', cap', rfl, hc', hm'⟩
      all_goals
        clear hs hs'
        go_enter Try.func107, Try.ntmps107
        go_wp2
        go_loop [17] (fun i => i = .int .i64 0) (fun _ => 0)
        case atStart => rfl
        case round =>
          obtain rfl := hrel
          go_wp2
          go_ret
          exact ⟨rfl, rfl⟩
    obtain ⟨a, cap, y, rfl, hc, hm, hx⟩ := hs.raw (by omega)
    obtain ⟨a', cap', y', rfl, hc', hm', hx'⟩ := hs'.raw (by omega)
    have Hc := hid (fun i hi => (hx i hi).1); have Hc' := hid (fun i hi => (hx' i hi).1)
    have Hs : Hid (∀ i, i < n → sameB (y i) (y' i) = sameB (x i) (x' i)) := fun i hi => by rw [← (hx i hi).2.2, ← (hx' i hi).2.2, sameB_can]
    clear hx hx' hs hs' h0
    unfold maxLen at hm hm'
    go_enter Try.func107, Try.ntmps107
    go_wp2
    go_loop [17] (fun i => ∃ k : Nat, k ≤ n ∧ i = .int .i64 k ∧ Hid (∀ i, i < k → sameB (x i) (x' i) = true)) (fun i => n - (intOf i).toNat)
    case atStart => exact ⟨0, by omega, rfl, fun i hi => absurd hi (by omega)⟩
    case round =>
      obtain ⟨k, hk, rfl, HK⟩ := hrel
      by_cases hlt : k < n
      · have ck := Hc.out k hlt
        have ck' := Hc'.out k hlt
        have HE := hid (Hs.out k hlt)
        cases hb : sameB (y k) (y' k)
        · go_wp2_with (go_at_call 74; refine (i_SameSample _ _ _).mono ?_; rintro e w' ⟨rfl, rfl⟩)
          go_ret
          exact ⟨ret_b (eqRow_no hlt (HE.out.symm.trans hb)).symm, rfl⟩
        · go_wp2_with (go_at_call 74; refine (i_SameSample _ _ _).mono ?_; rintro e w' ⟨rfl, rfl⟩)
          go_round
          case rel => exact ⟨k + 1, by omega, by go_num, all_step (p := fun j => sameB (x j) (x' j) = true) HK.out (HE.out.symm.trans hb)⟩
          case measure => simp [intOf]; omega
      · obtain rfl : k = n := by omega
        go_wp2
        go_ret
        exact ⟨ret_b (eqRow_yes HK.out).symm, rfl⟩
  · rw [sameS_ne hne]
    have hne' : ¬ (n : Int) = (n' : Int) := by omega
    rcases hs.form with ⟨rfl, rfl⟩ | ⟨a, cap, rfl, hc, hm⟩ <;> rcases hs'.form with ⟨rfl, rfl⟩ | ⟨a', cap', rfl, hc', hm'⟩
    all_goals first | exact absurd rfl hne | skip
    all_goals
      clear hs hs'
      try unfold maxLen at hm
      try unfold maxLen at hm'
      go_enter Try.func107, Try.ntmps107
      go_wp2
      go_ret
      exact ⟨rfl, rfl⟩
theorem i_SameRingR (B B' : Nat) (s s' : Value) (x x' : Nat → Nat) (n n' : Nat) (k k' : Int) (w : World) (hs : RdS w B s x n) (hs' : RdS w B' s' x' n') :
    Calls Try.prog 72 #[.agg #[s, .int .i64 k], .agg #[s', .int .i64 k']] w fun e w' => e = .returned (.bool ((k == k') && sameS x x' n n')) ∧ le w w' := by
  have F := ((Frg.nil w).box 25 #[s, .int .i64 k]).box 25 #[s', .int .i64 k']
  have HL := hid F.below
  have HS := hid (hs.le F.below); have HS' := hid (hs'.le F.below)
  clear hs hs' F
  cases hk : (k == k')
  all_goals
    go_enter Try.func72, Try.ntmps72
    go_wp2_with (go_at_call 107; refine (i_EqualFuncR B B' s s' x x' n n' _ HS.out HS'.out).mono ?_; rintro e w' ⟨rfl, rfl⟩)
    go_ret
    exact ⟨ret_b (by first | rfl | simp), HL.out⟩
set_option maxHeartbeats 1000000 in
theorem s_l02SameListR (B B' : Nat) (s s' : Value) (x x' : Nat → Nat) (n n' : Nat) (w : World) (hs : RdS w B s x n) (hs' : RdS w B' s' x' n') :
    Calls Try.prog 105 #[s, s'] w fun e w' => e = .returned (.bool (sameS x x' n n')) ∧ ∃ m, w' = w.drewN m := by
  by_cases hne : n = n'
  · subst hne
    rw [sameS_eq]
    by_cases h0 : n = 0
    · subst h0
      rcases hs.form with ⟨rfl, _⟩ | ⟨a, cap, rfl, hc, hm⟩ <;> rcases hs'.form with ⟨rfl, _⟩ | ⟨a', cap', rfl, hc', hm'⟩
      all_goals
        clear hs hs'
        go_enter Try.func105, Try.ntmps105
        go_wp2
        go_loop [5] (fun i => i = .int .i64 0) (fun _ => 0)
        case atStart => rfl
        case round =>
          obtain rfl := hrel
          go_wp2
          go_ret
          exact ⟨rfl, 0, rfl⟩
    obtain ⟨a, cap, y, rfl, hc, hm, hx⟩ := hs.raw (by omega)
    obtain ⟨a', cap', y', rfl, hc', hm', hx'⟩ := hs'.raw (by omega)
    have Hc := hid (fun i hi => (hx i hi).1); have Hc' := hid (fun i hi => (hx' i hi).1)
    have Hs : Hid (∀ i, i < n → sameB (y i) (y' i) = sameB (x i) (x' i)) := fun i hi => by rw [← (hx i hi).2.2, ← (hx' i hi).2.2, sameB_can]
    clear hx hx' hs hs' h0
    unfold maxLen at hm hm'
    go_enter Try.func105, Try.ntmps105
    go_wp2
    go_loopw [5] (fun i wr => ∃ k : Nat, k ≤ n ∧ i = .int .i64 k ∧ (∃ m, wr = w.drewN m) ∧ Hid (∀ i, i < k → sameB (x i) (x' i) = true)) (fun i _ => n - (intOf i).toNat)
    case atStart => exact ⟨0, by omega, rfl, ⟨0, rfl⟩, fun i hi => absurd hi (by omega)⟩
    case round =>
      obtain ⟨k, hk, rfl, ⟨m, rfl⟩, HK⟩ := hrel
      by_cases hlt : k < n
      · have ck := Hc.out k hlt
        have ck' := Hc'.out k hlt
        have HE := hid (Hs.out k hlt)
        cases hb : sameB (y k) (y' k)
        · go_wp2_with fail
          refine wp_region_loose (fun _ _ v => v = .bool false) (by kernel_rfl) (by kernel_rfl) ?_
          repeat (refine wpLoose_quiet rfl ?_; go_big_quiet_step (fail); refine wpQuiet_nil ?_)
          refine wpLoose_any rfl (· = .bool false) (fun m0 => ?_) ?_
          · go_simp
            refine ((s_l01Same _ _ _).mono ?_)
            rintro e w2 ⟨rfl, rfl⟩
            exact ⟨_, ret_b hb, ⟨rfl, m0, by go_simp⟩⟩
          rintro v rfl
          simp only [Act.put, List.setIfInBounds_toArray, List.set_cons_succ, List.set_cons_zero]
          repeat (refine wpLoose_quiet rfl ?_; go_big_quiet_step (fail); refine wpQuiet_nil ?_)
          refine wpLoose_nil (fun m1 => ?_)
          go_wp2
          go_ret
          exact ⟨ret_b (eqRow_no hlt (HE.out.symm.trans hb)).symm, m + m1, by rw [World.drewN_drewN]⟩
        · go_wp2_with fail
          refine wp_region_loose (fun _ _ v => v = .bool true) (by kernel_rfl) (by kernel_rfl) ?_
          repeat (refine wpLoose_quiet rfl ?_; go_big_quiet_step (fail); refine wpQuiet_nil ?_)
          refine wpLoose_any rfl (· = .bool true) (fun m0 => ?_) ?_
          · go_simp
            refine ((s_l01Same _ _ _).mono ?_)
            rintro e w2 ⟨rfl, rfl⟩
            exact ⟨_, ret_b hb, ⟨rfl, m0, by go_simp⟩⟩
          rintro v rfl
          simp only [Act.put, List.setIfInBounds_toArray, List.set_cons_succ, List.set_cons_zero]
          repeat (refine wpLoose_quiet rfl ?_; go_big_quiet_step (fail); refine wpQuiet_nil ?_)
          refine wpLoose_nil (fun m1 => ?_)
          go_wp2
          go_roundw
          case rel => exact ⟨k + 1, by omega, by go_num, ⟨_, rfl⟩, all_step (p := fun j => sameB (x j) (x' j) = true) HK.out (HE.out.symm.trans hb)⟩
          case measure => simp [intOf]; omega
      · obtain rfl : k = n := by omega
        go_wp2
        go_ret
        exact ⟨ret_b (eqRow_yes HK.out).symm, _, rfl⟩
  · rw [sameS_ne hne]
    have hne' : ¬ (n : Int) = (n' : Int) := by omega
    rcases hs.form with ⟨rfl, rfl⟩ | ⟨a, cap, rfl, hc, hm⟩ <;> rcases hs'.form with ⟨rfl, rfl⟩ | ⟨a', cap', rfl, hc', hm'⟩
    all_goals first | exact absurd rfl hne | skip
    all_goals
      clear hs hs'
      try unfold maxLen at hm
      try unfold maxLen at hm'
      go_enter Try.func105, Try.ntmps105
      go_wp2
      go_ret
      exact ⟨rfl, 0, rfl⟩
theorem s_SameRingR (B B' : Nat) (s s' : Value) (x x' : Nat → Nat) (n n' : Nat) (k k' : Int) (w : World) (hs : RdS w B s x n) (hs' : RdS w B' s' x' n') :
    Calls Try.prog 69 #[.agg #[s, .int .i64 k], .agg #[s', .int .i64 k']] w fun e w' => e = .returned (.bool ((k == k') && sameS x x' n n')) ∧ le w w' := by
  have F := ((Frg.nil w).box 25 #[s, .int .i64 k]).box 25 #[s', .int .i64 k']
  have HL := hid F.below
  have HS := hid (hs.le F.below); have HS' := hid (hs'.le F.below)
  clear hs hs' F
  cases hk : (k == k')
  · go_enter Try.func69, Try.ntmps69
    go_wp2_with fail
    go_ret
    exact ⟨ret_b (by first | rfl | simp), HL.out⟩
  · go_enter Try.func69, Try.ntmps69
    go_wp2_with (go_at_call 105; refine (s_l02SameListR B B' s s' x x' n n' _ HS.out HS'.out).mono ?_; rintro e w' ⟨rfl, m, rfl⟩)
    go_ret
    exact ⟨ret_b (by first | rfl | simp), le_trans HL.out (le_drewN _ _)⟩
theorem infoRingL : (Try.prog.info? 37).map (·.size) = some 2 := by kernel_rfl
end Go.Proofs.Ytaenbpkcehenkac
