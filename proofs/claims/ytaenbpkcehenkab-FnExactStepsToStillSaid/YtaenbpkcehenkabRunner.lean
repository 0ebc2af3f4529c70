/- The program's runners of filters: 'newRunner', 'isStill', 'step'. -/
import Derived.Test.YtaenbpkcehenkabModel
namespace Go.Fk
open Go Go.RowKit
/-- A pointer to a new block that holds a row. -/
def OutP (t : TypeId) (cs : Array Value) (w : World) (e : Ending) (w' : World) : Prop := ∃ b, e = .returned (.pointer (some ⟨b, 0, none⟩)) ∧ w.heap.size ≤ b ∧ Row w' b t cs ∧ le w w'
end Go.Fk
namespace Go.Proofs.Ytaenbpkcehenkab
open Go.RowKit Go.Fk
set_option maxHeartbeats 1000000 in
theorem i_newRunnerT (k : Int) (T : TypeId) (a b c x y : Nat) (w : World) (hm : ∀ w, Calls Try.prog 44 #[(.agg #[.int .i64 k, .float .f32 a, .float .f32 b, .float .f32 c, .float .f32 x, .float .f32 y])] w fun e w' => e = .returned (.iface T (.agg #[.float .f32 a, .float .f32 b, .float .f32 c])) ∧ Below w.heap.size w w') : Calls Try.prog 48 #[(.agg #[.int .i64 k, .float .f32 a, .float .f32 b, .float .f32 c, .float .f32 x, .float .f32 y])] w (OutP 78 #[(.iface T (.agg #[.float .f32 a, .float .f32 b, .float .f32 c])), .float .f32 x, .float .f32 y] w) := by
  have HM := hid hm; clear hm
  have F := (Frm.nil w).box 33 (#[.int .i64 k, .float .f32 a, .float .f32 b, .float .f32 c, .float .f32 x, .float .f32 y] : Array Value)
  go_enter Try.func48, Try.ntmps48
  go_upto_region 1 with (fail)
  refine region_free (fun f args _ v => v = (.iface T (.agg #[.float .f32 a, .float .f32 b, .float .f32 c]))) (by kernel_rfl) (by kernel_rfl) ?_
  refine wpFree_loadFr F rfl rfl rfl rfl (List.mem_cons_self) Try.underlying33 rfl infoFil rfl ?_
  simp only [Act.put, List.setIfInBounds_toArray, List.set_cons_succ, List.set_cons_zero]
  refine wpFree_call rfl rfl Try.func44 (by kernel_rfl) (by kernel_rfl) (args := #[(.agg #[.int .i64 k, .float .f32 a, .float .f32 b, .float .f32 c, .float .f32 x, .float .f32 y])]) (by simp [Act.eval]) (fun _ _ _ _ h => h) (fun w1 _ => (HM.out w1).mono ?_) ?_
  · rintro e w2 ⟨rfl, hb⟩
    exact ⟨_, rfl, hb, rfl⟩
  rintro v ⟨_, _, rfl⟩
  simp only [Act.put, List.setIfInBounds_toArray, List.set_cons_succ, List.set_cons_zero]
  refine wpFree_one rfl (.pointer (some ⟨w.heap.size, 4, none⟩)) (fun w1 _ => by kernel_rfl) ?_
  simp only [Act.put, List.setIfInBounds_toArray, List.set_cons_succ, List.set_cons_zero]
  refine wpFree_loadPart F rfl rfl rfl rfl (List.mem_cons_self) Try.underlying29 rfl [.float .f32 x, .float .f32 y] (fun j hj => by match j, hj with | 0, _ => rfl | 1, _ => rfl) info2 ?_
  simp only [Act.put, List.setIfInBounds_toArray, List.set_cons_succ, List.set_cons_zero]
  refine wpFree_one rfl (.agg #[(.iface T (.agg #[.float .f32 a, .float .f32 b, .float .f32 c])), .float .f32 x, .float .f32 y]) (fun w1 _ => by kernel_rfl) ?_
  simp only [Act.put, List.setIfInBounds_toArray, List.set_cons_succ, List.set_cons_zero]
  refine wpFree_box rfl rfl #[(.iface T (.agg #[.float .f32 a, .float .f32 b, .float .f32 c])), .float .f32 x, .float .f32 y] (fun w1 => by kernel_rfl) (fun g hg => ?_)
  simp only [Act.put, List.setIfInBounds_toArray, List.set_cons_succ, List.set_cons_zero]
  refine wpFree_one rfl (.pointer (some ⟨g, 0, none⟩)) (fun w1 _ => by kernel_rfl) ?_
  simp only [Act.put, List.setIfInBounds_toArray, List.set_cons_succ, List.set_cons_zero]
  refine wpFree_nil (fun w3 hw3 hF => ?_)
  obtain ⟨_, b', hbb, hb2, hrow⟩ := hF
  obtain rfl : g = b' := by simpa using hbb
  have hz : w.heap.size ≤ g := by simp at hg; omega
  have hl : le w w3 := le_trans (le_trans F.below (le_drewN _ 1)) hw3
  clear hg hbb hb2 hw3 F
  replace hz := hid hz; replace hl := hid hl; replace hrow := hid hrow
  go_wp2
  go_ret
  exact ⟨_, rfl, hz.out, hrow.out, hl.out⟩
theorem i_newRunner (k : Int) (a b c x y : Nat) (w : World) (h : 1 ≤ k ∧ k ≤ 5) : Calls Try.prog 48 #[(.agg #[.int .i64 k, .float .f32 a, .float .f32 b, .float .f32 c, .float .f32 x, .float .f32 y])] w (OutP 78 #[mdl k a b c, .float .f32 x, .float .f32 y] w) := by
  rcases (show k = 1 ∨ k = 2 ∨ k = 3 ∨ k = 4 ∨ k = 5 by omega) with rfl | rfl | rfl | rfl | rfl
  · rw [mdl1]; exact i_newRunnerT 1 _ a b c x y w (fun w => i_modelOf1 a b c x y w)
  · rw [mdl2]; exact i_newRunnerT 2 _ a b c x y w (fun w => i_modelOf2 a b c x y w)
  · rw [mdl3]; exact i_newRunnerT 3 _ a b c x y w (fun w => i_modelOf3 a b c x y w)
  · rw [mdl4]; exact i_newRunnerT 4 _ a b c x y w (fun w => i_modelOf4 a b c x y w)
  · rw [mdl5]; exact i_newRunnerT 5 _ a b c x y w (fun w => i_modelOf5 a b c x y w)
end Go.Proofs.Ytaenbpkcehenkab
