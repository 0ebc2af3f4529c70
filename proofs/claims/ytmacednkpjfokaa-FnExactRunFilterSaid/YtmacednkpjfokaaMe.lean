/- Texts of the walk, laid in one file. -/
import Derived.Test.YtmacednkpjfokaaMd
set_option linter.unusedVariables false
set_option linter.unusedSimpArgs false
/- The walk of 'FnExactRunFilter'. -/
namespace Go.Proofs.Ytmacednkpjfokaa.fnExactRunFilter
open Go.RowKit Go.Fk
def OutFB (k : Int) (a b c x y : Nat) (d : Int) (o : Nat → Nat) (w : World) (e : Ending) (w' : World) : Prop := ∃ h : Nat → Nat, e = .returned (.tuple #[(.agg #[.int .i64 k, .float .f32 a, .float .f32 b, .float .f32 c, .float .f32 x, .float .f32 y]), .agg (ftab .f32 h 16), .int .i64 d]) ∧ (∀ j, j < 16 → can .f32 (h j) = o j) ∧ le w w'
theorem both (k a b c x y) (z : Nat → Nat) (hf : fits .f32 a ∧ fits .f32 b ∧ fits .f32 c ∧ fits .f32 x ∧ fits .f32 y) (hz : ∀ j, j < 16 → fits .f32 (z j)) : ∃ (k' : Int) (a' b' c' x' y' : Nat) (d : Int) (o : Nat → Nat),
    (∀ w, Calls Try.prog 13 #[(.agg #[.int .i64 k, .float .f32 a, .float .f32 b, .float .f32 c, .float .f32 x, .float .f32 y]), .agg (ftab .f32 z 16)] w (OutFB k' a' b' c' x' y' d o w)) ∧ (∀ w, Calls Try.prog 16 #[(.agg #[.int .i64 k, .float .f32 a, .float .f32 b, .float .f32 c, .float .f32 x, .float .f32 y]), .agg (ftab .f32 z 16)] w (OutFB k' a' b' c' x' y' d o w)) := by
  cases hv : okF k a b c x y
  · refine ⟨0, 0, 0, 0, 0, 0, 1, fun _ => 0, fun w => (s_RunFilter_no k a b c x y z w hv).mono ?_, fun w => (i_RunFilter_no k a b c x y z w hv hf).mono ?_⟩
    all_goals
      rintro e w' ⟨rfl, hl⟩
      exact ⟨_, rfl, fun j _ => (show can .f32 0 = 0 by decide), hl⟩
  · exact ⟨_, _, _, _, _, _, _, _, fun w => s_RunFilter_yes k a b c x y z w hv hf.2.2.2.1 hf.2.2.2.2 hz, fun w => i_RunFilter_yes k a b c x y z w hv hf hz⟩
theorem infoBlkL : (Try.prog.info? 27).map (·.size) = some 16 := by kernel_rfl
theorem allocFil (w : World) : (Instr.alloc 28 true (.tuple #[])).run Try.prog w = .ok (.pointer (some ⟨w.heap.size, 0, none⟩)) (w.alloc (.cells (#[.int .i64 0, .float .f32 0, .float .f32 0, .float .f32 0, .float .f32 0, .float .f32 0] : Array Value) 28)) := by kernel_rfl
set_option maxRecDepth 100000 in
set_option maxHeartbeats 2000000 in
theorem walk (k0 : Int) (a0 b0 c0 x0 y0 : Nat) (a1 : List Nat) (w : World) (w0 : (Lit.int .i64 k0).wf = true ∧ fits .f32 a0 ∧ fits .f32 b0 ∧ fits .f32 c0 ∧ fits .f32 x0 ∧ fits .f32 y0) (l1 : a1.length = 16) (w1 : ∀ b ∈ a1, fits .f32 b) :
    Calls Try.prog 3 #[(.agg #[.int .i64 k0, .float .f32 a0, .float .f32 b0, .float .f32 c0, .float .f32 x0, .float .f32 y0]), .agg (a1.map (Value.float .f32)).toArray] w fun e w' => e = .returned (.bool true) ∧ Below w.heap.size w w' := by
  rw [ftab_of_list, l1]
  obtain ⟨z, hz⟩ : ∃ z : Nat → Nat, z = fun j => a1.getD j 0 := ⟨_, rfl⟩
  rw [← hz]
  have Hz : ∀ j, j < 16 → fits .f32 (z j) := fun j hj => by rw [hz]; exact w1 _ (by simp only [List.getD, List.getElem?_eq_getElem (show j < a1.length by omega), Option.getD_some]; exact List.getElem_mem _)
  replace Hz := hid Hz
  clear hz l1 w1
  have W0 := hid w0.2; clear w0
  obtain ⟨k, a, b, c, x, y, d, o, hS, hI⟩ := both k0 a0 b0 c0 x0 y0 z W0.out Hz.out
  replace hS := hid hS; replace hI := hid hI
  have F := ((Frm.nil w).box 26 (#[.int .i64 k0, .float .f32 a0, .float .f32 b0, .float .f32 c0, .float .f32 x0, .float .f32 y0] : Array Value)).box 27 (ftab .f32 z 16)
  simp only [World.size_alloc] at F
  go_enter Try.func3, Try.ntmps3
  go_upto_region 1 with (fail)
  obtain ⟨T, hT⟩ : ∃ T : List (TypeId × Nat × (Array Value → Prop)), T = [(28, 6, (· = (#[.int .i64 k, .float .f32 a, .float .f32 b, .float .f32 c, .float .f32 x, .float .f32 y] : Array Value))), (29, 16, fun cs => ∃ h : Nat → Nat, cs = ftab .f32 h 16 ∧ ∀ j, j < 16 → can .f32 (h j) = o j)] := ⟨_, rfl⟩
  have hd : ∀ x ∈ T, ∀ y ∈ T, x.1 = y.1 → x = y := by
    rw [hT]; intro x hx y hy e
    simp only [List.mem_cons, List.not_mem_nil, or_false] at hx hy
    rcases hx with rfl | rfl <;> rcases hy with rfl | rfl <;> first | rfl | (simp at e; done) | exact absurd (show _ = _ from e) (by decide)
  have m1 : (28, 6, (· = (#[.int .i64 k, .float .f32 a, .float .f32 b, .float .f32 c, .float .f32 x, .float .f32 y] : Array Value))) ∈ T := by rw [hT]; exact List.mem_cons_self
  have m2 : (29, 16, fun cs => ∃ h : Nat → Nat, cs = ftab .f32 h 16 ∧ ∀ j, j < 16 → can .f32 (h j) = o j) ∈ T := by rw [hT]; exact List.mem_cons_of_mem _ List.mem_cons_self
  clear hT
  have F1 := F.drewN 1
  refine region_newD T (fun f args _ v => match f with | 14 => args = #[v] | 15 => args = #[v] | _ => ∃ h : Nat → Nat, v = .tuple #[(.agg #[.int .i64 k, .float .f32 a, .float .f32 b, .float .f32 c, .float .f32 x, .float .f32 y]), .agg (ftab .f32 h 16), .int .i64 d] ∧ ∀ j, j < 16 → can .f32 (h j) = o j) (by kernel_rfl) (by kernel_rfl) ?_
  refine wpFreeD_load rfl rfl rfl (F1.row (by first | exact List.mem_cons_self | exact List.mem_cons_of_mem _ (List.mem_cons_self) | exact List.mem_cons_of_mem _ (List.mem_cons_of_mem _ (List.mem_cons_self)) | exact List.mem_cons_of_mem _ (List.mem_cons_of_mem _ (List.mem_cons_of_mem _ (List.mem_cons_self))) | exact List.mem_cons_of_mem _ (List.mem_cons_of_mem _ (List.mem_cons_of_mem _ (List.mem_cons_of_mem _ (List.mem_cons_self)))) | exact List.mem_cons_of_mem _ (List.mem_cons_of_mem _ (List.mem_cons_of_mem _ (List.mem_cons_of_mem _ (List.mem_cons_of_mem _ (List.mem_cons_self))))) | exact List.mem_cons_of_mem _ (List.mem_cons_of_mem _ (List.mem_cons_of_mem _ (List.mem_cons_of_mem _ (List.mem_cons_of_mem _ (List.mem_cons_of_mem _ (List.mem_cons_self)))))))) (F1.lt (by first | exact List.mem_cons_self | exact List.mem_cons_of_mem _ (List.mem_cons_self) | exact List.mem_cons_of_mem _ (List.mem_cons_of_mem _ (List.mem_cons_self)) | exact List.mem_cons_of_mem _ (List.mem_cons_of_mem _ (List.mem_cons_of_mem _ (List.mem_cons_self))) | exact List.mem_cons_of_mem _ (List.mem_cons_of_mem _ (List.mem_cons_of_mem _ (List.mem_cons_of_mem _ (List.mem_cons_self)))) | exact List.mem_cons_of_mem _ (List.mem_cons_of_mem _ (List.mem_cons_of_mem _ (List.mem_cons_of_mem _ (List.mem_cons_of_mem _ (List.mem_cons_self))))) | exact List.mem_cons_of_mem _ (List.mem_cons_of_mem _ (List.mem_cons_of_mem _ (List.mem_cons_of_mem _ (List.mem_cons_of_mem _ (List.mem_cons_of_mem _ (List.mem_cons_self)))))))) Try.underlying26 rfl infoFilL rfl ?_
  simp only [Act.put, List.setIfInBounds_toArray, List.set_cons_succ, List.set_cons_zero]
  refine wpFreeD_call rfl rfl Try.func14 (by kernel_rfl) (by kernel_rfl) (args := #[(.agg #[.int .i64 k0, .float .f32 a0, .float .f32 b0, .float .f32 c0, .float .f32 x0, .float .f32 y0])]) (by simp [Act.eval]) (fun _ _ _ _ h => h) (fun w1 _ => (toFil_any _ _ _ _ _ _ w1).mono ?_) ?_
  · rintro e w2 ⟨rfl, hb⟩
    exact ⟨_, rfl, hb, rfl⟩
  rintro v ⟨_, hv⟩
  change #[(.agg #[.int .i64 k0, .float .f32 a0, .float .f32 b0, .float .f32 c0, .float .f32 x0, .float .f32 y0])] = #[v] at hv
  obtain rfl : (.agg #[.int .i64 k0, .float .f32 a0, .float .f32 b0, .float .f32 c0, .float .f32 x0, .float .f32 y0]) = v := by simpa using hv
  clear hv
  simp only [Act.put, List.setIfInBounds_toArray, List.set_cons_succ, List.set_cons_zero]
  refine wpFreeD_load rfl rfl rfl (F1.row (by first | exact List.mem_cons_self | exact List.mem_cons_of_mem _ (List.mem_cons_self) | exact List.mem_cons_of_mem _ (List.mem_cons_of_mem _ (List.mem_cons_self)) | exact List.mem_cons_of_mem _ (List.mem_cons_of_mem _ (List.mem_cons_of_mem _ (List.mem_cons_self))) | exact List.mem_cons_of_mem _ (List.mem_cons_of_mem _ (List.mem_cons_of_mem _ (List.mem_cons_of_mem _ (List.mem_cons_self)))) | exact List.mem_cons_of_mem _ (List.mem_cons_of_mem _ (List.mem_cons_of_mem _ (List.mem_cons_of_mem _ (List.mem_cons_of_mem _ (List.mem_cons_self))))) | exact List.mem_cons_of_mem _ (List.mem_cons_of_mem _ (List.mem_cons_of_mem _ (List.mem_cons_of_mem _ (List.mem_cons_of_mem _ (List.mem_cons_of_mem _ (List.mem_cons_self)))))))) (F1.lt (by first | exact List.mem_cons_self | exact List.mem_cons_of_mem _ (List.mem_cons_self) | exact List.mem_cons_of_mem _ (List.mem_cons_of_mem _ (List.mem_cons_self)) | exact List.mem_cons_of_mem _ (List.mem_cons_of_mem _ (List.mem_cons_of_mem _ (List.mem_cons_self))) | exact List.mem_cons_of_mem _ (List.mem_cons_of_mem _ (List.mem_cons_of_mem _ (List.mem_cons_of_mem _ (List.mem_cons_self)))) | exact List.mem_cons_of_mem _ (List.mem_cons_of_mem _ (List.mem_cons_of_mem _ (List.mem_cons_of_mem _ (List.mem_cons_of_mem _ (List.mem_cons_self))))) | exact List.mem_cons_of_mem _ (List.mem_cons_of_mem _ (List.mem_cons_of_mem _ (List.mem_cons_of_mem _ (List.mem_cons_of_mem _ (List.mem_cons_of_mem _ (List.mem_cons_self)))))))) Try.underlying27 rfl infoBlkL (size_ftab _ _ _) ?_
  simp only [Act.put, List.setIfInBounds_toArray, List.set_cons_succ, List.set_cons_zero]
  refine wpFreeD_call rfl rfl Try.func15 (by kernel_rfl) (by kernel_rfl) (args := #[.agg (ftab .f32 z 16)]) (by simp [Act.eval]) (fun _ _ _ _ h => h) (fun w1 _ => (toBlock_any z w1).mono ?_) ?_
  · rintro e w2 ⟨rfl, hb⟩
    exact ⟨_, rfl, hb, rfl⟩
  rintro v ⟨_, hv⟩
  change #[.agg (ftab .f32 z 16)] = #[v] at hv
  obtain rfl : .agg (ftab .f32 z 16) = v := by simpa using hv
  clear hv
  simp only [Act.put, List.setIfInBounds_toArray, List.set_cons_succ, List.set_cons_zero]
  refine wpFreeD_call rfl rfl Try.func13 (by kernel_rfl) (by kernel_rfl) (args := #[(.agg #[.int .i64 k0, .float .f32 a0, .float .f32 b0, .float .f32 c0, .float .f32 x0, .float .f32 y0]), .agg (ftab .f32 z 16)]) (by simp [Act.eval]) (fun _ _ _ _ h => h) (fun w1 _ => (hS.out w1).mono ?_) ?_
  · rintro e w2 ⟨h, rfl, hh, hb⟩
    exact ⟨_, rfl, hb, h, rfl, hh⟩
  rintro v ⟨_, h, rfl, hh⟩
  replace hh := hid hh
  simp only [Act.put, List.setIfInBounds_toArray, List.set_cons_succ, List.set_cons_zero]
  refine wpFreeD_one rfl (.tuple #[(.agg #[.int .i64 k, .float .f32 a, .float .f32 b, .float .f32 c, .float .f32 x, .float .f32 y]), .agg (ftab .f32 h 16), .int .i64 d]) (fun w1 _ => by kernel_rfl) ?_
  simp only [Act.put, List.setIfInBounds_toArray, List.set_cons_succ, List.set_cons_zero]
  refine wpFreeD_one rfl ((.agg #[.int .i64 k, .float .f32 a, .float .f32 b, .float .f32 c, .float .f32 x, .float .f32 y])) (fun w1 _ => by kernel_rfl) ?_
  simp only [Act.put, List.setIfInBounds_toArray, List.set_cons_succ, List.set_cons_zero]
  refine wpFreeD_one rfl (.agg (ftab .f32 h 16)) (fun w1 _ => by kernel_rfl) ?_
  simp only [Act.put, List.setIfInBounds_toArray, List.set_cons_succ, List.set_cons_zero]
  refine wpFreeD_one rfl (.int .i64 d) (fun w1 _ => by kernel_rfl) ?_
  simp only [Act.put, List.setIfInBounds_toArray, List.set_cons_succ, List.set_cons_zero]
  refine wpFreeD_alloc rfl rfl (#[.int .i64 0, .float .f32 0, .float .f32 0, .float .f32 0, .float .f32 0, .float .f32 0] : Array Value) allocFil m1 rfl rfl (fun p1 hg1 => ?_)
  simp only [Act.put, List.setIfInBounds_toArray, List.set_cons_succ, List.set_cons_zero]
  refine wpFreeD_alloc rfl rfl (ftab .f32 (fun _ => 0) 16) allocBlk m2 (size_ftab _ _ _) rfl (fun p2 hg2 => ?_)
  simp only [Act.put, List.setIfInBounds_toArray, List.set_cons_succ, List.set_cons_zero]
  refine wpFreeD_store rfl rfl rfl (cells := (#[.int .i64 k, .float .f32 a, .float .f32 b, .float .f32 c, .float .f32 x, .float .f32 y] : Array Value)) rfl m1 rfl hd hg1 (fun w1 hb => (hb ⟨9, Ground.data⟩ (by simp) (by kernel_rfl)).1.2 rfl) infoFil rfl (by simp [Value.oneCell']) ?_
  simp only [Act.put, List.setIfInBounds_toArray, List.set_cons_succ, List.set_cons_zero]
  refine wpFreeD_store rfl rfl rfl (cells := ftab .f32 h 16) rfl m2 ⟨h, rfl, hh.out⟩ hd hg2 (fun w1 hb => (hb ⟨10, Ground.data⟩ (by simp) (by kernel_rfl)).1.2 rfl) infoBlk (size_ftab _ _ _) (one_ftab _ _ _) ?_
  simp only [Act.put, List.setIfInBounds_toArray, List.set_cons_succ, List.set_cons_zero]
  refine wpFreeD_one rfl (.int .i64 d) (fun w1 _ => by kernel_rfl) ?_
  simp only [Act.put, List.setIfInBounds_toArray, List.set_cons_succ, List.set_cons_zero]
  refine wpFreeD_nil (fun w3 hw3 hF => ?_)
  obtain ⟨cs1, hr1, rfl⟩ := (hF 11).1.1.2 rfl
  obtain ⟨cs2, hr2, h', rfl, hh'⟩ := (hF 12).1.2 rfl
  have hne := hr1.ne_of hr2 (by decide)
  have hl3 := newX_le hw3 rfl
  replace F := ((F1.le hl3).sub (fun x hx => hx)).both hr1 hr2 hg1 hg2 F1.size
  replace hh := hid hh'
  clear hr1 hr2 hw3 hF hl3 hne hd m1 m2 hg1 hg2 F1 hh'
  go_upto_region 2 with (fail)
  obtain ⟨T, hT⟩ : ∃ T : List (TypeId × Nat × (Array Value → Prop)), T = [(28, 6, (· = (#[.int .i64 k, .float .f32 a, .float .f32 b, .float .f32 c, .float .f32 x, .float .f32 y] : Array Value))), (29, 16, fun cs => ∃ h : Nat → Nat, cs = ftab .f32 h 16 ∧ ∀ j, j < 16 → can .f32 (h j) = o j)] := ⟨_, rfl⟩
  have hd : ∀ x ∈ T, ∀ y ∈ T, x.1 = y.1 → x = y := by
    rw [hT]; intro x hx y hy e
    simp only [List.mem_cons, List.not_mem_nil, or_false] at hx hy
    rcases hx with rfl | rfl <;> rcases hy with rfl | rfl <;> first | rfl | (simp at e; done) | exact absurd (show _ = _ from e) (by decide)
  have m1 : (28, 6, (· = (#[.int .i64 k, .float .f32 a, .float .f32 b, .float .f32 c, .float .f32 x, .float .f32 y] : Array Value))) ∈ T := by rw [hT]; exact List.mem_cons_self
  have m2 : (29, 16, fun cs => ∃ h : Nat → Nat, cs = ftab .f32 h 16 ∧ ∀ j, j < 16 → can .f32 (h j) = o j) ∈ T := by rw [hT]; exact List.mem_cons_of_mem _ List.mem_cons_self
  clear hT
  have F1 := F.drewN 1
  refine region_newD T (fun f args _ v => match f with | 14 => args = #[v] | 15 => args = #[v] | _ => ∃ h : Nat → Nat, v = .tuple #[(.agg #[.int .i64 k, .float .f32 a, .float .f32 b, .float .f32 c, .float .f32 x, .float .f32 y]), .agg (ftab .f32 h 16), .int .i64 d] ∧ ∀ j, j < 16 → can .f32 (h j) = o j) (by kernel_rfl) (by kernel_rfl) ?_
  refine wpFreeD_load rfl rfl rfl (F1.row (by first | exact List.mem_cons_self | exact List.mem_cons_of_mem _ (List.mem_cons_self) | exact List.mem_cons_of_mem _ (List.mem_cons_of_mem _ (List.mem_cons_self)) | exact List.mem_cons_of_mem _ (List.mem_cons_of_mem _ (List.mem_cons_of_mem _ (List.mem_cons_self))) | exact List.mem_cons_of_mem _ (List.mem_cons_of_mem _ (List.mem_cons_of_mem _ (List.mem_cons_of_mem _ (List.mem_cons_self)))) | exact List.mem_cons_of_mem _ (List.mem_cons_of_mem _ (List.mem_cons_of_mem _ (List.mem_cons_of_mem _ (List.mem_cons_of_mem _ (List.mem_cons_self))))) | exact List.mem_cons_of_mem _ (List.mem_cons_of_mem _ (List.mem_cons_of_mem _ (List.mem_cons_of_mem _ (List.mem_cons_of_mem _ (List.mem_cons_of_mem _ (List.mem_cons_self)))))))) (F1.lt (by first | exact List.mem_cons_self | exact List.mem_cons_of_mem _ (List.mem_cons_self) | exact List.mem_cons_of_mem _ (List.mem_cons_of_mem _ (List.mem_cons_self)) | exact List.mem_cons_of_mem _ (List.mem_cons_of_mem _ (List.mem_cons_of_mem _ (List.mem_cons_self))) | exact List.mem_cons_of_mem _ (List.mem_cons_of_mem _ (List.mem_cons_of_mem _ (List.mem_cons_of_mem _ (List.mem_cons_self)))) | exact List.mem_cons_of_mem _ (List.mem_cons_of_mem _ (List.mem_cons_of_mem _ (List.mem_cons_of_mem _ (List.mem_cons_of_mem _ (List.mem_cons_self))))) | exact List.mem_cons_of_mem _ (List.mem_cons_of_mem _ (List.mem_cons_of_mem _ (List.mem_cons_of_mem _ (List.mem_cons_of_mem _ (List.mem_cons_of_mem _ (List.mem_cons_self)))))))) Try.underlying26 rfl infoFilL rfl ?_
  simp only [Act.put, List.setIfInBounds_toArray, List.set_cons_succ, List.set_cons_zero]
  refine wpFreeD_call rfl rfl Try.func14 (by kernel_rfl) (by kernel_rfl) (args := #[(.agg #[.int .i64 k0, .float .f32 a0, .float .f32 b0, .float .f32 c0, .float .f32 x0, .float .f32 y0])]) (by simp [Act.eval]) (fun _ _ _ _ h => h) (fun w1 _ => (toFil_any _ _ _ _ _ _ w1).mono ?_) ?_
  · rintro e w2 ⟨rfl, hb⟩
    exact ⟨_, rfl, hb, rfl⟩
  rintro v ⟨_, hv⟩
  change #[(.agg #[.int .i64 k0, .float .f32 a0, .float .f32 b0, .float .f32 c0, .float .f32 x0, .float .f32 y0])] = #[v] at hv
  obtain rfl : (.agg #[.int .i64 k0, .float .f32 a0, .float .f32 b0, .float .f32 c0, .float .f32 x0, .float .f32 y0]) = v := by simpa using hv
  clear hv
  simp only [Act.put, List.setIfInBounds_toArray, List.set_cons_succ, List.set_cons_zero]
  refine wpFreeD_load rfl rfl rfl (F1.row (by first | exact List.mem_cons_self | exact List.mem_cons_of_mem _ (List.mem_cons_self) | exact List.mem_cons_of_mem _ (List.mem_cons_of_mem _ (List.mem_cons_self)) | exact List.mem_cons_of_mem _ (List.mem_cons_of_mem _ (List.mem_cons_of_mem _ (List.mem_cons_self))) | exact List.mem_cons_of_mem _ (List.mem_cons_of_mem _ (List.mem_cons_of_mem _ (List.mem_cons_of_mem _ (List.mem_cons_self)))) | exact List.mem_cons_of_mem _ (List.mem_cons_of_mem _ (List.mem_cons_of_mem _ (List.mem_cons_of_mem _ (List.mem_cons_of_mem _ (List.mem_cons_self))))) | exact List.mem_cons_of_mem _ (List.mem_cons_of_mem _ (List.mem_cons_of_mem _ (List.mem_cons_of_mem _ (List.mem_cons_of_mem _ (List.mem_cons_of_mem _ (List.mem_cons_self)))))))) (F1.lt (by first | exact List.mem_cons_self | exact List.mem_cons_of_mem _ (List.mem_cons_self) | exact List.mem_cons_of_mem _ (List.mem_cons_of_mem _ (List.mem_cons_self)) | exact List.mem_cons_of_mem _ (List.mem_cons_of_mem _ (List.mem_cons_of_mem _ (List.mem_cons_self))) | exact List.mem_cons_of_mem _ (List.mem_cons_of_mem _ (List.mem_cons_of_mem _ (List.mem_cons_of_mem _ (List.mem_cons_self)))) | exact List.mem_cons_of_mem _ (List.mem_cons_of_mem _ (List.mem_cons_of_mem _ (List.mem_cons_of_mem _ (List.mem_cons_of_mem _ (List.mem_cons_self))))) | exact List.mem_cons_of_mem _ (List.mem_cons_of_mem _ (List.mem_cons_of_mem _ (List.mem_cons_of_mem _ (List.mem_cons_of_mem _ (List.mem_cons_of_mem _ (List.mem_cons_self)))))))) Try.underlying27 rfl infoBlkL (size_ftab _ _ _) ?_
  simp only [Act.put, List.setIfInBounds_toArray, List.set_cons_succ, List.set_cons_zero]
  refine wpFreeD_call rfl rfl Try.func15 (by kernel_rfl) (by kernel_rfl) (args := #[.agg (ftab .f32 z 16)]) (by simp [Act.eval]) (fun _ _ _ _ h => h) (fun w1 _ => (toBlock_any z w1).mono ?_) ?_
  · rintro e w2 ⟨rfl, hb⟩
    exact ⟨_, rfl, hb, rfl⟩
  rintro v ⟨_, hv⟩
  change #[.agg (ftab .f32 z 16)] = #[v] at hv
  obtain rfl : .agg (ftab .f32 z 16) = v := by simpa using hv
  clear hv
  simp only [Act.put, List.setIfInBounds_toArray, List.set_cons_succ, List.set_cons_zero]
  refine wpFreeD_call rfl rfl Try.func16 (by kernel_rfl) (by kernel_rfl) (args := #[(.agg #[.int .i64 k0, .float .f32 a0, .float .f32 b0, .float .f32 c0, .float .f32 x0, .float .f32 y0]), .agg (ftab .f32 z 16)]) (by simp [Act.eval]) (fun _ _ _ _ h => h) (fun w1 _ => (hI.out w1).mono ?_) ?_
  · rintro e w2 ⟨h, rfl, hh, hb⟩
    exact ⟨_, rfl, hb, h, rfl, hh⟩
  rintro v ⟨_, h2, rfl, hh2⟩
  replace hh2 := hid hh2
  simp only [Act.put, List.setIfInBounds_toArray, List.set_cons_succ, List.set_cons_zero]
  refine wpFreeD_one rfl (.tuple #[(.agg #[.int .i64 k, .float .f32 a, .float .f32 b, .float .f32 c, .float .f32 x, .float .f32 y]), .agg (ftab .f32 h2 16), .int .i64 d]) (fun w1 _ => by kernel_rfl) ?_
  simp only [Act.put, List.setIfInBounds_toArray, List.set_cons_succ, List.set_cons_zero]
  refine wpFreeD_one rfl ((.agg #[.int .i64 k, .float .f32 a, .float .f32 b, .float .f32 c, .float .f32 x, .float .f32 y])) (fun w1 _ => by kernel_rfl) ?_
  simp only [Act.put, List.setIfInBounds_toArray, List.set_cons_succ, List.set_cons_zero]
  refine wpFreeD_one rfl (.agg (ftab .f32 h2 16)) (fun w1 _ => by kernel_rfl) ?_
  simp only [Act.put, List.setIfInBounds_toArray, List.set_cons_succ, List.set_cons_zero]
  refine wpFreeD_one rfl (.int .i64 d) (fun w1 _ => by kernel_rfl) ?_
  simp only [Act.put, List.setIfInBounds_toArray, List.set_cons_succ, List.set_cons_zero]
  refine wpFreeD_alloc rfl rfl (#[.int .i64 0, .float .f32 0, .float .f32 0, .float .f32 0, .float .f32 0, .float .f32 0] : Array Value) allocFil m1 rfl rfl (fun q1 hg1 => ?_)
  simp only [Act.put, List.setIfInBounds_toArray, List.set_cons_succ, List.set_cons_zero]
  refine wpFreeD_alloc rfl rfl (ftab .f32 (fun _ => 0) 16) allocBlk m2 (size_ftab _ _ _) rfl (fun q2 hg2 => ?_)
  simp only [Act.put, List.setIfInBounds_toArray, List.set_cons_succ, List.set_cons_zero]
  refine wpFreeD_store rfl rfl rfl (cells := (#[.int .i64 k, .float .f32 a, .float .f32 b, .float .f32 c, .float .f32 x, .float .f32 y] : Array Value)) rfl m1 rfl hd hg1 (fun w1 hb => (hb ⟨9, Ground.data⟩ (by simp) (by kernel_rfl)).1.2 rfl) infoFil rfl (by simp [Value.oneCell']) ?_
  simp only [Act.put, List.setIfInBounds_toArray, List.set_cons_succ, List.set_cons_zero]
  refine wpFreeD_store rfl rfl rfl (cells := ftab .f32 h2 16) rfl m2 ⟨h2, rfl, hh2.out⟩ hd hg2 (fun w1 hb => (hb ⟨10, Ground.data⟩ (by simp) (by kernel_rfl)).1.2 rfl) infoBlk (size_ftab _ _ _) (one_ftab _ _ _) ?_
  simp only [Act.put, List.setIfInBounds_toArray, List.set_cons_succ, List.set_cons_zero]
  refine wpFreeD_one rfl (.int .i64 d) (fun w1 _ => by kernel_rfl) ?_
  simp only [Act.put, List.setIfInBounds_toArray, List.set_cons_succ, List.set_cons_zero]
  refine wpFreeD_nil (fun w3 hw3 hF => ?_)
  obtain ⟨cs1, hr1, rfl⟩ := (hF 11).1.1.2 rfl
  obtain ⟨cs2, hr2, h2', rfl, hh2'⟩ := (hF 12).1.2 rfl
  have hne := hr1.ne_of hr2 (by decide)
  have hl3 := newX_le hw3 rfl
  replace F := ((F1.le hl3).sub (fun x hx => hx)).both hr1 hr2 hg1 hg2 F1.size
  replace hh2 := hid hh2'
  clear hr1 hr2 hw3 hF hl3 hne hd m1 m2 hg1 hg2 F1 hh2'
  go_wp2_with (first | ((with_reducible refine at_load rfl ?_); first | (with_reducible refine wpList_loadFr F rfl rfl rfl (by first | exact List.mem_cons_self | exact List.mem_cons_of_mem _ (List.mem_cons_self) | exact List.mem_cons_of_mem _ (List.mem_cons_of_mem _ (List.mem_cons_self)) | exact List.mem_cons_of_mem _ (List.mem_cons_of_mem _ (List.mem_cons_of_mem _ (List.mem_cons_self))) | exact List.mem_cons_of_mem _ (List.mem_cons_of_mem _ (List.mem_cons_of_mem _ (List.mem_cons_of_mem _ (List.mem_cons_self)))) | exact List.mem_cons_of_mem _ (List.mem_cons_of_mem _ (List.mem_cons_of_mem _ (List.mem_cons_of_mem _ (List.mem_cons_of_mem _ (List.mem_cons_self))))) | exact List.mem_cons_of_mem _ (List.mem_cons_of_mem _ (List.mem_cons_of_mem _ (List.mem_cons_of_mem _ (List.mem_cons_of_mem _ (List.mem_cons_of_mem _ (List.mem_cons_self))))))) Try.underlying28 rfl infoFil (by simp [size_ftab]) ?_) | (with_reducible refine wpList_loadFrG F rfl rfl (by first | exact List.mem_cons_self | exact List.mem_cons_of_mem _ (List.mem_cons_self) | exact List.mem_cons_of_mem _ (List.mem_cons_of_mem _ (List.mem_cons_self)) | exact List.mem_cons_of_mem _ (List.mem_cons_of_mem _ (List.mem_cons_of_mem _ (List.mem_cons_self))) | exact List.mem_cons_of_mem _ (List.mem_cons_of_mem _ (List.mem_cons_of_mem _ (List.mem_cons_of_mem _ (List.mem_cons_self)))) | exact List.mem_cons_of_mem _ (List.mem_cons_of_mem _ (List.mem_cons_of_mem _ (List.mem_cons_of_mem _ (List.mem_cons_of_mem _ (List.mem_cons_self))))) | exact List.mem_cons_of_mem _ (List.mem_cons_of_mem _ (List.mem_cons_of_mem _ (List.mem_cons_of_mem _ (List.mem_cons_of_mem _ (List.mem_cons_of_mem _ (List.mem_cons_self))))))) Try.underlying28 rfl infoFil (by simp [size_ftab]) (by kernel_rfl) ?_) | (with_reducible refine wpList_loadFr (F.drewN _) rfl rfl rfl (by first | exact List.mem_cons_self | exact List.mem_cons_of_mem _ (List.mem_cons_self) | exact List.mem_cons_of_mem _ (List.mem_cons_of_mem _ (List.mem_cons_self)) | exact List.mem_cons_of_mem _ (List.mem_cons_of_mem _ (List.mem_cons_of_mem _ (List.mem_cons_self))) | exact List.mem_cons_of_mem _ (List.mem_cons_of_mem _ (List.mem_cons_of_mem _ (List.mem_cons_of_mem _ (List.mem_cons_self)))) | exact List.mem_cons_of_mem _ (List.mem_cons_of_mem _ (List.mem_cons_of_mem _ (List.mem_cons_of_mem _ (List.mem_cons_of_mem _ (List.mem_cons_self))))) | exact List.mem_cons_of_mem _ (List.mem_cons_of_mem _ (List.mem_cons_of_mem _ (List.mem_cons_of_mem _ (List.mem_cons_of_mem _ (List.mem_cons_of_mem _ (List.mem_cons_self))))))) Try.underlying28 rfl infoFil (by simp [size_ftab]) ?_) | (with_reducible refine wpList_loadFrG (F.drewN _) rfl rfl (by first | exact List.mem_cons_self | exact List.mem_cons_of_mem _ (List.mem_cons_self) | exact List.mem_cons_of_mem _ (List.mem_cons_of_mem _ (List.mem_cons_self)) | exact List.mem_cons_of_mem _ (List.mem_cons_of_mem _ (List.mem_cons_of_mem _ (List.mem_cons_self))) | exact List.mem_cons_of_mem _ (List.mem_cons_of_mem _ (List.mem_cons_of_mem _ (List.mem_cons_of_mem _ (List.mem_cons_self)))) | exact List.mem_cons_of_mem _ (List.mem_cons_of_mem _ (List.mem_cons_of_mem _ (List.mem_cons_of_mem _ (List.mem_cons_of_mem _ (List.mem_cons_self))))) | exact List.mem_cons_of_mem _ (List.mem_cons_of_mem _ (List.mem_cons_of_mem _ (List.mem_cons_of_mem _ (List.mem_cons_of_mem _ (List.mem_cons_of_mem _ (List.mem_cons_self))))))) Try.underlying28 rfl infoFil (by simp [size_ftab]) (by kernel_rfl) ?_) | (with_reducible refine wpList_loadFr F rfl rfl rfl (by first | exact List.mem_cons_self | exact List.mem_cons_of_mem _ (List.mem_cons_self) | exact List.mem_cons_of_mem _ (List.mem_cons_of_mem _ (List.mem_cons_self)) | exact List.mem_cons_of_mem _ (List.mem_cons_of_mem _ (List.mem_cons_of_mem _ (List.mem_cons_self))) | exact List.mem_cons_of_mem _ (List.mem_cons_of_mem _ (List.mem_cons_of_mem _ (List.mem_cons_of_mem _ (List.mem_cons_self)))) | exact List.mem_cons_of_mem _ (List.mem_cons_of_mem _ (List.mem_cons_of_mem _ (List.mem_cons_of_mem _ (List.mem_cons_of_mem _ (List.mem_cons_self))))) | exact List.mem_cons_of_mem _ (List.mem_cons_of_mem _ (List.mem_cons_of_mem _ (List.mem_cons_of_mem _ (List.mem_cons_of_mem _ (List.mem_cons_of_mem _ (List.mem_cons_self))))))) Try.underlying29 rfl infoBlk (by simp [size_ftab]) ?_) | (with_reducible refine wpList_loadFrG F rfl rfl (by first | exact List.mem_cons_self | exact List.mem_cons_of_mem _ (List.mem_cons_self) | exact List.mem_cons_of_mem _ (List.mem_cons_of_mem _ (List.mem_cons_self)) | exact List.mem_cons_of_mem _ (List.mem_cons_of_mem _ (List.mem_cons_of_mem _ (List.mem_cons_self))) | exact List.mem_cons_of_mem _ (List.mem_cons_of_mem _ (List.mem_cons_of_mem _ (List.mem_cons_of_mem _ (List.mem_cons_self)))) | exact List.mem_cons_of_mem _ (List.mem_cons_of_mem _ (List.mem_cons_of_mem _ (List.mem_cons_of_mem _ (List.mem_cons_of_mem _ (List.mem_cons_self))))) | exact List.mem_cons_of_mem _ (List.mem_cons_of_mem _ (List.mem_cons_of_mem _ (List.mem_cons_of_mem _ (List.mem_cons_of_mem _ (List.mem_cons_of_mem _ (List.mem_cons_self))))))) Try.underlying29 rfl infoBlk (by simp [size_ftab]) (by kernel_rfl) ?_) | (with_reducible refine wpList_loadFr (F.drewN _) rfl rfl rfl (by first | exact List.mem_cons_self | exact List.mem_cons_of_mem _ (List.mem_cons_self) | exact List.mem_cons_of_mem _ (List.mem_cons_of_mem _ (List.mem_cons_self)) | exact List.mem_cons_of_mem _ (List.mem_cons_of_mem _ (List.mem_cons_of_mem _ (List.mem_cons_self))) | exact List.mem_cons_of_mem _ (List.mem_cons_of_mem _ (List.mem_cons_of_mem _ (List.mem_cons_of_mem _ (List.mem_cons_self)))) | exact List.mem_cons_of_mem _ (List.mem_cons_of_mem _ (List.mem_cons_of_mem _ (List.mem_cons_of_mem _ (List.mem_cons_of_mem _ (List.mem_cons_self))))) | exact List.mem_cons_of_mem _ (List.mem_cons_of_mem _ (List.mem_cons_of_mem _ (List.mem_cons_of_mem _ (List.mem_cons_of_mem _ (List.mem_cons_of_mem _ (List.mem_cons_self))))))) Try.underlying29 rfl infoBlk (by simp [size_ftab]) ?_) | (with_reducible refine wpList_loadFrG (F.drewN _) rfl rfl (by first | exact List.mem_cons_self | exact List.mem_cons_of_mem _ (List.mem_cons_self) | exact List.mem_cons_of_mem _ (List.mem_cons_of_mem _ (List.mem_cons_self)) | exact List.mem_cons_of_mem _ (List.mem_cons_of_mem _ (List.mem_cons_of_mem _ (List.mem_cons_self))) | exact List.mem_cons_of_mem _ (List.mem_cons_of_mem _ (List.mem_cons_of_mem _ (List.mem_cons_of_mem _ (List.mem_cons_self)))) | exact List.mem_cons_of_mem _ (List.mem_cons_of_mem _ (List.mem_cons_of_mem _ (List.mem_cons_of_mem _ (List.mem_cons_of_mem _ (List.mem_cons_self))))) | exact List.mem_cons_of_mem _ (List.mem_cons_of_mem _ (List.mem_cons_of_mem _ (List.mem_cons_of_mem _ (List.mem_cons_of_mem _ (List.mem_cons_of_mem _ (List.mem_cons_self))))))) Try.underlying29 rfl infoBlk (by simp [size_ftab]) (by kernel_rfl) ?_)) | (go_at_call 17; ((with_reducible refine (eqFil_yes _ _ _ _ _ _ _ _ _ _ _ _ rfl rfl rfl rfl rfl).mono ?_); rintro e w6 ⟨rfl, hb6⟩; (first | replace F := F.le hb6 | replace F := (F.box _ _).le hb6 | replace F := ((F.box _ _).box _ _).le hb6 | replace F := (F.drewN _).le hb6 | replace F := ((F.box _ _).drewN _).le hb6))) | (go_at_call 18; ((with_reducible refine (eqBlock_yes _ _ _ (fun j hj => (hh2.out j hj).trans (hh.out j hj).symm)).mono ?_); rintro e w7 ⟨rfl, hb7⟩; (first | replace F := F.le hb7 | replace F := (F.box _ _).le hb7 | replace F := ((F.box _ _).box _ _).le hb7 | replace F := (F.drewN _).le hb7 | replace F := ((F.box _ _).drewN _).le hb7))))
  go_ret
  first | exact ⟨rfl, F.below⟩ | exact ⟨rfl, below_drewN F.below _⟩
end Go.Proofs.Ytmacednkpjfokaa.fnExactRunFilter
