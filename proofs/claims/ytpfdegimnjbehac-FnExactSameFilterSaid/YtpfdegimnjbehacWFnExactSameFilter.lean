/- The walk of 'FnExactSameFilter'. -/
import Derived.Test.YtpfdegimnjbehacSameF
namespace Go.Proofs.Ytpfdegimnjbehac.fnExactSameFilter
open Go.RowKit Go.Fk
set_option maxRecDepth 100000 in
set_option maxHeartbeats 2000000 in
theorem walk (k0 : Int) (a0 b0 c0 x0 y0 : Nat) (k1 : Int) (a1 b1 c1 x1 y1 : Nat) (w : World) (w0 : (Lit.int .i64 k0).wf = true ∧ fits .f32 a0 ∧ fits .f32 b0 ∧ fits .f32 c0 ∧ fits .f32 x0 ∧ fits .f32 y0) (w1 : (Lit.int .i64 k1).wf = true ∧ fits .f32 a1 ∧ fits .f32 b1 ∧ fits .f32 c1 ∧ fits .f32 x1 ∧ fits .f32 y1) :
    Calls Try.prog 5 #[(.agg #[.int .i64 k0, .float .f32 a0, .float .f32 b0, .float .f32 c0, .float .f32 x0, .float .f32 y0]), (.agg #[.int .i64 k1, .float .f32 a1, .float .f32 b1, .float .f32 c1, .float .f32 x1, .float .f32 y1])] w fun e w' => e = .returned (.bool true) ∧ Below w.heap.size w w' := by
  clear w0 w1
  obtain ⟨B, hB⟩ : ∃ B, B = ((k0 == k1) && (eqRow (tri a0 b0 c0) (tri a1 b1 c1) 3 && eqRow (duo x0 y0) (duo x1 y1) 2)) := ⟨_, rfl⟩
  have HS : Hid (∀ w, Calls Try.prog 17 #[(.agg #[.int .i64 k0, .float .f32 a0, .float .f32 b0, .float .f32 c0, .float .f32 x0, .float .f32 y0]), (.agg #[.int .i64 k1, .float .f32 a1, .float .f32 b1, .float .f32 c1, .float .f32 x1, .float .f32 y1])] w fun e w' => e = .returned (.bool B) ∧ le w w') := by intro w; rw [hB]; exact s_SameFilter _ _ _ _ _ _ _ _ _ _ _ _ w
  have HI : Hid (∀ w, Calls Try.prog 18 #[(.agg #[.int .i64 k0, .float .f32 a0, .float .f32 b0, .float .f32 c0, .float .f32 x0, .float .f32 y0]), (.agg #[.int .i64 k1, .float .f32 a1, .float .f32 b1, .float .f32 c1, .float .f32 x1, .float .f32 y1])] w fun e w' => e = .returned (.bool B) ∧ le w w') := by intro w; rw [hB]; exact i_SameFilter _ _ _ _ _ _ _ _ _ _ _ _ w
  clear hB
  have F := ((Frm.nil w).box 30 (#[.int .i64 k0, .float .f32 a0, .float .f32 b0, .float .f32 c0, .float .f32 x0, .float .f32 y0] : Array Value)).box 30 (#[.int .i64 k1, .float .f32 a1, .float .f32 b1, .float .f32 c1, .float .f32 x1, .float .f32 y1] : Array Value)
  simp only [World.size_alloc] at F
  go_enter Try.func5, Try.ntmps5
  go_wp2_with fail
  refine region_free (fun f args _ v => (f = 15 ∧ args = #[v]) ∨ (f = 17 ∧ v = .bool B)) (by kernel_rfl) (by kernel_rfl) ?_
  refine wpFree_loadFr F (n := 1) rfl rfl rfl rfl (List.mem_cons_of_mem _ List.mem_cons_self) Try.underlying30 rfl infoFilL (by simp) ?_
  simp only [Act.put, List.setIfInBounds_toArray, List.set_cons_succ, List.set_cons_zero]
  refine wpFree_call rfl rfl Try.func15 (by kernel_rfl) (by kernel_rfl) (args := #[(.agg #[.int .i64 k0, .float .f32 a0, .float .f32 b0, .float .f32 c0, .float .f32 x0, .float .f32 y0])]) (by simp [Act.eval]) (fun _ _ _ _ h => h) (fun w1 _ => (toFil_any _ _ _ _ _ _ w1).mono ?_) ?_
  · rintro e w2 ⟨rfl, hb⟩
    exact ⟨_, rfl, hb, .inl ⟨rfl, rfl⟩⟩
  rintro v ⟨_, _, hv⟩
  simp at hv
  subst hv
  simp only [Act.put, List.setIfInBounds_toArray, List.set_cons_succ, List.set_cons_zero]
  refine wpFree_loadFr F (n := 1) rfl rfl rfl rfl List.mem_cons_self Try.underlying30 rfl infoFilL (by simp) ?_
  simp only [Act.put, List.setIfInBounds_toArray, List.set_cons_succ, List.set_cons_zero]
  refine wpFree_call rfl rfl Try.func15 (by kernel_rfl) (by kernel_rfl) (args := #[(.agg #[.int .i64 k1, .float .f32 a1, .float .f32 b1, .float .f32 c1, .float .f32 x1, .float .f32 y1])]) (by simp [Act.eval]) (fun _ _ _ _ h => h) (fun w1 _ => (toFil_any _ _ _ _ _ _ w1).mono ?_) ?_
  · rintro e w2 ⟨rfl, hb⟩
    exact ⟨_, rfl, hb, .inl ⟨rfl, rfl⟩⟩
  rintro v ⟨_, _, hv⟩
  simp at hv
  subst hv
  simp only [Act.put, List.setIfInBounds_toArray, List.set_cons_succ, List.set_cons_zero]
  refine wpFree_call rfl rfl Try.func17 (by kernel_rfl) (by kernel_rfl) (args := #[(.agg #[.int .i64 k0, .float .f32 a0, .float .f32 b0, .float .f32 c0, .float .f32 x0, .float .f32 y0]), (.agg #[.int .i64 k1, .float .f32 a1, .float .f32 b1, .float .f32 c1, .float .f32 x1, .float .f32 y1])]) (by simp [Act.eval]) (fun _ _ _ _ h => h) (fun w1 _ => (HS.out w1).mono ?_) ?_
  · rintro e w2 ⟨rfl, hb⟩
    exact ⟨_, rfl, hb, .inr ⟨rfl, rfl⟩⟩
  rintro v ⟨_, _, hv⟩
  simp at hv
  subst hv
  simp only [Act.put, List.setIfInBounds_toArray, List.set_cons_succ, List.set_cons_zero]
  refine wpFree_one rfl (.bool B) (fun w1 _ => by simp [execOp, Act.eval]) ?_
  simp only [Act.put, List.setIfInBounds_toArray, List.set_cons_succ, List.set_cons_zero]
  refine wpFree_nil (fun w3 hw3 _ => ?_)
  replace F := (F.drewN 1).le hw3
  clear hw3
  go_wp2_with fail
  refine region_free (fun f args _ v => (f = 15 ∧ args = #[v]) ∨ (f = 18 ∧ v = .bool B)) (by kernel_rfl) (by kernel_rfl) ?_
  refine wpFree_loadFr F (n := 1) rfl rfl rfl rfl (List.mem_cons_of_mem _ List.mem_cons_self) Try.underlying30 rfl infoFilL (by simp) ?_
  simp only [Act.put, List.setIfInBounds_toArray, List.set_cons_succ, List.set_cons_zero]
  refine wpFree_call rfl rfl Try.func15 (by kernel_rfl) (by kernel_rfl) (args := #[(.agg #[.int .i64 k0, .float .f32 a0, .float .f32 b0, .float .f32 c0, .float .f32 x0, .float .f32 y0])]) (by simp [Act.eval]) (fun _ _ _ _ h => h) (fun w1 _ => (toFil_any _ _ _ _ _ _ w1).mono ?_) ?_
  · rintro e w2 ⟨rfl, hb⟩
    exact ⟨_, rfl, hb, .inl ⟨rfl, rfl⟩⟩
  rintro v ⟨_, _, hv⟩
  simp at hv
  subst hv
  simp only [Act.put, List.setIfInBounds_toArray, List.set_cons_succ, List.set_cons_zero]
  refine wpFree_loadFr F (n := 1) rfl rfl rfl rfl List.mem_cons_self Try.underlying30 rfl infoFilL (by simp) ?_
  simp only [Act.put, List.setIfInBounds_toArray, List.set_cons_succ, List.set_cons_zero]
  refine wpFree_call rfl rfl Try.func15 (by kernel_rfl) (by kernel_rfl) (args := #[(.agg #[.int .i64 k1, .float .f32 a1, .float .f32 b1, .float .f32 c1, .float .f32 x1, .float .f32 y1])]) (by simp [Act.eval]) (fun _ _ _ _ h => h) (fun w1 _ => (toFil_any _ _ _ _ _ _ w1).mono ?_) ?_
  · rintro e w2 ⟨rfl, hb⟩
    exact ⟨_, rfl, hb, .inl ⟨rfl, rfl⟩⟩
  rintro v ⟨_, _, hv⟩
  simp at hv
  subst hv
  simp only [Act.put, List.setIfInBounds_toArray, List.set_cons_succ, List.set_cons_zero]
  refine wpFree_call rfl rfl Try.func18 (by kernel_rfl) (by kernel_rfl) (args := #[(.agg #[.int .i64 k0, .float .f32 a0, .float .f32 b0, .float .f32 c0, .float .f32 x0, .float .f32 y0]), (.agg #[.int .i64 k1, .float .f32 a1, .float .f32 b1, .float .f32 c1, .float .f32 x1, .float .f32 y1])]) (by simp [Act.eval]) (fun _ _ _ _ h => h) (fun w1 _ => (HI.out w1).mono ?_) ?_
  · rintro e w2 ⟨rfl, hb⟩
    exact ⟨_, rfl, hb, .inr ⟨rfl, rfl⟩⟩
  rintro v ⟨_, _, hv⟩
  simp at hv
  subst hv
  simp only [Act.put, List.setIfInBounds_toArray, List.set_cons_succ, List.set_cons_zero]
  refine wpFree_one rfl (.bool B) (fun w1 _ => by simp [execOp, Act.eval]) ?_
  simp only [Act.put, List.setIfInBounds_toArray, List.set_cons_succ, List.set_cons_zero]
  refine wpFree_nil (fun w3 hw3 _ => ?_)
  replace F := (F.drewN 1).le hw3
  clear hw3
  go_wp2
  go_ret
  exact ⟨rfl, F.below⟩
end Go.Proofs.Ytpfdegimnjbehac.fnExactSameFilter
