/- The walk of 'FnExactPeakOf'. -/
import Derived.Test.YtibggjgffheibacPeak
namespace Go.Proofs.Ytibggjgffheibac.fnExactPeakOf
open Go.RowKit Go.Fk

theorem walk (a0 : List Nat) (w : World) (l0 : a0.length = 16) (w0 : ∀ b ∈ a0, fits .f32 b) :
    Calls Try.prog 8 #[.agg (a0.map (Value.float .f32)).toArray] w fun e w' => e = .returned (.bool true) ∧ Below w.heap.size w w' := by
  rw [ftab_of_list, l0]
  obtain ⟨x, hx⟩ : ∃ x : Nat → Nat, x = fun j => a0.getD j 0 := ⟨_, rfl⟩
  rw [← hx]
  have Hx : ∀ j, j < 16 → fits .f32 (x j) := fun j hj => by rw [hx]; exact w0 _ (by simp only [List.getD, List.getElem?_eq_getElem (show j < a0.length by omega), Option.getD_some]; exact List.getElem_mem _)
  have Hx := hid Hx
  clear hx
  clear l0 w0
  have hsx : (Try.prog.info? 23).map (·.size) = some (ftab .f32 x 16).size := by rw [size_ftab]; kernel_rfl
  go_enter Try.func8, Try.ntmps8
  go_upto_region 1 with (fail)
  obtain ⟨W, hW⟩ : ∃ W, W = w.alloc (.cells (ftab .f32 x 16) 23) := ⟨_, rfl⟩
  rw [← hW]
  have rx : Row W (w.heap.size) 23 (ftab .f32 x 16) := by rw [hW]; exact Row.new w _ _
  have hb0 : le w W := by rw [hW]; exact le_alloc _ _
  clear hW
  have Rx := hid rx; clear rx
  have Hb := hid hb0; clear hb0
  refine region_line (fun f args _ v => (f = 10 ∧ args = #[v]) ∨ (f = 21 ∧ ∃ r, v = .float .f32 r ∧ can .f32 r = peakW x 16)) 4 ?_
  simp only [List.take_succ_cons, List.take_zero, List.drop_succ_cons, List.drop_zero]
  refine wpFree_loadA rfl rfl rfl (Rx.out.drewN 0) Try.underlying23 hsx ?_
  simp only [Act.put, List.setIfInBounds_toArray, List.set_cons_succ, List.set_cons_zero]
  refine wpFree_call rfl rfl Try.func10 (by kernel_rfl) (by kernel_rfl) (args := #[.agg (ftab .f32 x 16)]) (by simp [Act.eval]) (fun _ _ _ _ h => h) (fun w1 _ => (toBlock_any x w1).mono ?_) ?_
  · rintro e w2 ⟨rfl, hb⟩
    exact ⟨_, rfl, hb, .inl ⟨rfl, rfl⟩⟩
  rintro v ⟨_, _, hv⟩
  simp at hv
  subst hv
  simp only [Act.put, List.setIfInBounds_toArray, List.set_cons_succ, List.set_cons_zero]
  refine wpFree_call rfl rfl Try.func21 (by kernel_rfl) (by kernel_rfl) (args := #[.agg (ftab .f32 x 16)]) (by simp [Act.eval]) (fun _ _ _ _ h => h) (fun w1 _ => (s_PeakOf x w1 Hx).mono ?_) ?_
  · rintro e w2 ⟨r, rfl, hr, hb⟩
    exact ⟨_, rfl, hb, .inr ⟨rfl, r, rfl, hr⟩⟩
  rintro v ⟨_, _, hv⟩
  simp at hv
  obtain ⟨g, rfl, hg⟩ := hv
  have Hg := hid hg; clear hg
  simp only [Act.put, List.setIfInBounds_toArray, List.set_cons_succ, List.set_cons_zero]
  refine wpFree_one rfl (.float .f32 g) (fun w1 _ => by simp [execOp, Act.eval]) ?_
  simp only [Act.put, List.setIfInBounds_toArray, List.set_cons_succ, List.set_cons_zero]
  refine wpFree_nil (fun w3 hw3 _ => ?_)
  have rx := (Rx.out.drewN 0).le hw3
  have hb2 := le_trans Hb.out (le_trans (le_drewN W 0) hw3)
  clear hw3 Hb Rx
  have Rx := hid rx; clear rx
  have Hb := hid hb2; clear hb2
  go_upto_region 2 with (fail)
  refine region_line (fun f args _ v => (f = 10 ∧ args = #[v]) ∨ (f = 22 ∧ ∃ r, v = .float .f32 r ∧ can .f32 r = peakW x 16)) 4 ?_
  simp only [List.take_succ_cons, List.take_zero, List.drop_succ_cons, List.drop_zero]
  refine wpFree_loadA rfl rfl rfl (Rx.out.drewN 0) Try.underlying23 hsx ?_
  simp only [Act.put, List.setIfInBounds_toArray, List.set_cons_succ, List.set_cons_zero]
  refine wpFree_call rfl rfl Try.func10 (by kernel_rfl) (by kernel_rfl) (args := #[.agg (ftab .f32 x 16)]) (by simp [Act.eval]) (fun _ _ _ _ h => h) (fun w1 _ => (toBlock_any x w1).mono ?_) ?_
  · rintro e w2 ⟨rfl, hb⟩
    exact ⟨_, rfl, hb, .inl ⟨rfl, rfl⟩⟩
  rintro v ⟨_, _, hv⟩
  simp at hv
  subst hv
  simp only [Act.put, List.setIfInBounds_toArray, List.set_cons_succ, List.set_cons_zero]
  refine wpFree_call rfl rfl Try.func22 (by kernel_rfl) (by kernel_rfl) (args := #[.agg (ftab .f32 x 16)]) (by simp [Act.eval]) (fun _ _ _ _ h => h) (fun w1 _ => (i_PeakOf x w1 Hx).mono ?_) ?_
  · rintro e w2 ⟨r, rfl, hr, hb⟩
    exact ⟨_, rfl, hb, .inr ⟨rfl, r, rfl, hr⟩⟩
  rintro v ⟨_, _, hv⟩
  simp at hv
  obtain ⟨h, rfl, hh⟩ := hv
  have Hh := hid hh; clear hh
  simp only [Act.put, List.setIfInBounds_toArray, List.set_cons_succ, List.set_cons_zero]
  refine wpFree_one rfl (.float .f32 h) (fun w1 _ => by simp [execOp, Act.eval]) ?_
  simp only [Act.put, List.setIfInBounds_toArray, List.set_cons_succ, List.set_cons_zero]
  refine wpFree_nil (fun w4 hw4 _ => ?_)
  have hb3 := hid (le_trans Hb.out (le_trans (le_drewN w3 0) hw4))
  clear hw4
  go_wp2_with (with_reducible refine wpList_widen rfl rfl rfl Try.underlying22 Try.underlying38 ?_; intro r n hr hf)
  refine (sameFloat_yes _ _ _ ?_).mono ?_
  · have h1 := ‹Hid (can .f64 _ = can .f64 (widen h))›
    exact h1.out.trans ((congrArg (can .f64) (widen_congr (Hh.out.trans Hg.out.symm))).trans hr.out.symm)
  rintro e w5 ⟨rfl, n3, rfl⟩
  go_wp2
  go_ret
  exact ⟨rfl, below_drewN hb3.out _⟩
end Go.Proofs.Ytibggjgffheibac.fnExactPeakOf
