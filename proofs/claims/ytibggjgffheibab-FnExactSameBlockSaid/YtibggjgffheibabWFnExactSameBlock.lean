/- The walk of 'FnExactSameBlock'. -/
import Derived.Test.YtibggjgffheibabSameB
namespace Go.Proofs.Ytibggjgffheibab.fnExactSameBlock
open Go.RowKit Go.Fk

theorem walk (a0 : List Nat) (a1 : List Nat) (w : World) (l0 : a0.length = 16) (w0 : ∀ b ∈ a0, fits .f32 b) (l1 : a1.length = 16) (w1 : ∀ b ∈ a1, fits .f32 b) :
    Calls Try.prog 8 #[.agg (a0.map (Value.float .f32)).toArray, .agg (a1.map (Value.float .f32)).toArray] w fun e w' => e = .returned (.bool true) ∧ Below w.heap.size w w' := by
  rw [ftab_of_list, ftab_of_list, l0, l1]
  obtain ⟨x, hx⟩ : ∃ x : Nat → Nat, x = fun j => a0.getD j 0 := ⟨_, rfl⟩
  rw [← hx]
  clear hx
  obtain ⟨y, hy⟩ : ∃ x : Nat → Nat, x = fun j => a1.getD j 0 := ⟨_, rfl⟩
  rw [← hy]
  clear hy
  clear l0 l1 w0 w1
  have hsx : (Try.prog.info? 32).map (·.size) = some (ftab .f32 x 16).size := by rw [size_ftab]; kernel_rfl
  have hsy : (Try.prog.info? 32).map (·.size) = some (ftab .f32 y 16).size := by rw [size_ftab]; kernel_rfl
  go_enter Try.func8, Try.ntmps8
  go_wp2_with fail
  obtain ⟨W, hW⟩ : ∃ W, W = (w.alloc (.cells (ftab .f32 x 16) 32)).alloc (.cells (ftab .f32 y 16) 32) := ⟨_, rfl⟩
  rw [← hW]
  have rx : Row W (w.heap.size) 32 (ftab .f32 x 16) := by rw [hW]; exact (Row.new w _ _).alloc _
  have ry : Row W (w.heap.size + 1) 32 (ftab .f32 y 16) := by rw [hW]; exact Row.new' _ _ _ (by simp)
  have hb0 : le w W := by rw [hW]; exact le_trans (le_alloc _ _) (le_alloc _ _)
  clear hW
  have Rx := hid rx; clear rx
  have Ry := hid ry; clear ry
  have Hb := hid hb0; clear hb0
  refine region_free (fun f args _ v => (f = 17 ∧ args = #[v]) ∨ (f = 24 ∧ v = .bool (sameBlk x y))) (by kernel_rfl) (by kernel_rfl) ?_
  refine wpFree_loadA rfl rfl rfl (Rx.out.drewN 1) Try.underlying32 hsx ?_
  simp only [Act.put, List.setIfInBounds_toArray, List.set_cons_succ, List.set_cons_zero]
  refine wpFree_call rfl rfl Try.func17 (by kernel_rfl) (by kernel_rfl) (args := #[.agg (ftab .f32 x 16)]) (by simp [Act.eval]) (fun _ _ _ _ h => h) (fun w1 _ => (toBlock_any x w1).mono ?_) ?_
  · rintro e w2 ⟨rfl, hb⟩
    exact ⟨_, rfl, hb, .inl ⟨rfl, rfl⟩⟩
  rintro v ⟨_, _, hv⟩
  simp at hv
  subst hv
  simp only [Act.put, List.setIfInBounds_toArray, List.set_cons_succ, List.set_cons_zero]
  refine wpFree_loadA rfl rfl rfl (Ry.out.drewN 1) Try.underlying32 hsy ?_
  simp only [Act.put, List.setIfInBounds_toArray, List.set_cons_succ, List.set_cons_zero]
  refine wpFree_call rfl rfl Try.func17 (by kernel_rfl) (by kernel_rfl) (args := #[.agg (ftab .f32 y 16)]) (by simp [Act.eval]) (fun _ _ _ _ h => h) (fun w1 _ => (toBlock_any y w1).mono ?_) ?_
  · rintro e w2 ⟨rfl, hb⟩
    exact ⟨_, rfl, hb, .inl ⟨rfl, rfl⟩⟩
  rintro v ⟨_, _, hv⟩
  simp at hv
  subst hv
  simp only [Act.put, List.setIfInBounds_toArray, List.set_cons_succ, List.set_cons_zero]
  refine wpFree_call rfl rfl Try.func24 (by kernel_rfl) (by kernel_rfl) (args := #[.agg (ftab .f32 x 16), .agg (ftab .f32 y 16)]) (by simp [Act.eval]) (fun _ _ _ _ h => h) (fun w1 _ => (s_SameBlock x y w1).mono ?_) ?_
  · rintro e w2 ⟨rfl, hb⟩
    exact ⟨_, rfl, hb, .inr ⟨rfl, rfl⟩⟩
  rintro v ⟨_, _, hv⟩
  simp at hv
  subst hv
  simp only [Act.put, List.setIfInBounds_toArray, List.set_cons_succ, List.set_cons_zero]
  refine wpFree_one rfl (.bool (sameBlk x y)) (fun w1 _ => by simp [execOp, Act.eval]) ?_
  simp only [Act.put, List.setIfInBounds_toArray, List.set_cons_succ, List.set_cons_zero]
  refine wpFree_nil (fun w3 hw3 _ => ?_)
  have rx := (Rx.out.drewN 1).le hw3
  have ry := (Ry.out.drewN 1).le hw3
  have hb2 := le_trans Hb.out (le_trans (le_drewN W 1) hw3)
  clear hw3 Hb Rx Ry
  have Rx := hid rx; clear rx
  have Ry := hid ry; clear ry
  have Hb := hid hb2; clear hb2
  go_wp2_with fail
  refine region_free (fun f args _ v => (f = 17 ∧ args = #[v]) ∨ (f = 25 ∧ v = .bool (sameBlk x y))) (by kernel_rfl) (by kernel_rfl) ?_
  refine wpFree_loadA rfl rfl rfl (Rx.out.drewN 1) Try.underlying32 hsx ?_
  simp only [Act.put, List.setIfInBounds_toArray, List.set_cons_succ, List.set_cons_zero]
  refine wpFree_call rfl rfl Try.func17 (by kernel_rfl) (by kernel_rfl) (args := #[.agg (ftab .f32 x 16)]) (by simp [Act.eval]) (fun _ _ _ _ h => h) (fun w1 _ => (toBlock_any x w1).mono ?_) ?_
  · rintro e w2 ⟨rfl, hb⟩
    exact ⟨_, rfl, hb, .inl ⟨rfl, rfl⟩⟩
  rintro v ⟨_, _, hv⟩
  simp at hv
  subst hv
  simp only [Act.put, List.setIfInBounds_toArray, List.set_cons_succ, List.set_cons_zero]
  refine wpFree_loadA rfl rfl rfl (Ry.out.drewN 1) Try.underlying32 hsy ?_
  simp only [Act.put, List.setIfInBounds_toArray, List.set_cons_succ, List.set_cons_zero]
  refine wpFree_call rfl rfl Try.func17 (by kernel_rfl) (by kernel_rfl) (args := #[.agg (ftab .f32 y 16)]) (by simp [Act.eval]) (fun _ _ _ _ h => h) (fun w1 _ => (toBlock_any y w1).mono ?_) ?_
  · rintro e w2 ⟨rfl, hb⟩
    exact ⟨_, rfl, hb, .inl ⟨rfl, rfl⟩⟩
  rintro v ⟨_, _, hv⟩
  simp at hv
  subst hv
  simp only [Act.put, List.setIfInBounds_toArray, List.set_cons_succ, List.set_cons_zero]
  refine wpFree_call rfl rfl Try.func25 (by kernel_rfl) (by kernel_rfl) (args := #[.agg (ftab .f32 x 16), .agg (ftab .f32 y 16)]) (by simp [Act.eval]) (fun _ _ _ _ h => h) (fun w1 _ => (i_SameBlock x y w1).mono ?_) ?_
  · rintro e w2 ⟨rfl, hb⟩
    exact ⟨_, rfl, hb, .inr ⟨rfl, rfl⟩⟩
  rintro v ⟨_, _, hv⟩
  simp at hv
  subst hv
  simp only [Act.put, List.setIfInBounds_toArray, List.set_cons_succ, List.set_cons_zero]
  refine wpFree_one rfl (.bool (sameBlk x y)) (fun w1 _ => by simp [execOp, Act.eval]) ?_
  simp only [Act.put, List.setIfInBounds_toArray, List.set_cons_succ, List.set_cons_zero]
  refine wpFree_nil (fun w4 hw4 _ => ?_)
  have hb3 := hid (le_trans Hb.out (le_trans (le_drewN w3 1) hw4))
  clear hw4
  go_wp2
  go_ret
  exact ⟨rfl, hb3⟩
end Go.Proofs.Ytibggjgffheibab.fnExactSameBlock
