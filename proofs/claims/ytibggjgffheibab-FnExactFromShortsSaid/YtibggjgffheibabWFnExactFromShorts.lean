/- The walk of 'FnExactFromShorts'. -/
import Derived.Test.YtibggjgffheibabShorts
namespace Go.Proofs.Ytibggjgffheibab.fnExactFromShorts
open Go.RowKit Go.Fk

theorem walk (a0 : List Int) (w : World) (l0 : a0.length = 16) (w0 : ∀ b ∈ a0, (Lit.int .i16 b).wf = true) :
    Calls Try.prog 7 #[.agg (a0.map (Value.int .i16)).toArray] w fun e w' => e = .returned (.bool true) ∧ Below w.heap.size w w' := by
  rw [itab_of_list, l0]
  obtain ⟨x, hx⟩ : ∃ x : Nat → Int, x = fun j => a0.getD j 0 := ⟨_, rfl⟩
  rw [← hx]
  clear hx
  clear l0 w0
  have hsx : (Try.prog.info? 33).map (·.size) = some (itab .i16 x 16).size := by rw [size_itab]; kernel_rfl
  go_enter Try.func7, Try.ntmps7
  go_upto_region 1 with (fail)
  obtain ⟨W, hW⟩ : ∃ W, W = w.alloc (.cells (itab .i16 x 16) 33) := ⟨_, rfl⟩
  rw [← hW]
  have rx : Row W (w.heap.size) 33 (itab .i16 x 16) := by rw [hW]; exact Row.new w _ _
  have hb0 : le w W := by rw [hW]; exact le_alloc _ _
  have hsz0 : w.heap.size + 1 ≤ W.heap.size := by rw [hW]; simp
  clear hW
  have Rx := hid rx; clear rx
  have Hb0 := hid hb0; clear hb0
  have Hsz0 := hid hsz0; clear hsz0
  refine region_line (fun f args _ v => (f = 21 ∧ args = #[v]) ∨ (f = 20 ∧ ∃ g, v = .agg (ftab .f32 g 16) ∧ ∀ j, j < 16 → can .f32 (g j) = fromShort (x j))) 4 ?_
  simp only [List.take_succ_cons, List.take_zero, List.drop_succ_cons, List.drop_zero]
  refine wpFree_loadA rfl rfl rfl (Rx.out.drewN 0) Try.underlying33 hsx ?_
  simp only [Act.put, List.setIfInBounds_toArray, List.set_cons_succ, List.set_cons_zero]
  refine wpFree_call rfl rfl Try.func21 (by kernel_rfl) (by kernel_rfl) (args := #[.agg (itab .i16 x 16)]) (by simp [Act.eval]) (fun _ _ _ _ h => h) (fun w1 _ => (toInt16A16_any x w1).mono ?_) ?_
  · rintro e w2 ⟨rfl, hb⟩
    exact ⟨_, rfl, hb, .inl ⟨rfl, rfl⟩⟩
  rintro v ⟨_, _, hv⟩
  simp at hv
  subst hv
  simp only [Act.put, List.setIfInBounds_toArray, List.set_cons_succ, List.set_cons_zero]
  refine wpFree_call rfl rfl Try.func20 (by kernel_rfl) (by kernel_rfl) (args := #[.agg (itab .i16 x 16)]) (by simp [Act.eval]) (fun _ _ _ _ h => h) (fun w1 _ => (s_FromShorts x w1).mono ?_) ?_
  · rintro e w2 ⟨g, rfl, hg, hb⟩
    exact ⟨_, rfl, hb, .inr ⟨rfl, g, rfl, fun j hj => (hg j hj).1⟩⟩
  rintro v ⟨_, _, hv⟩
  simp at hv
  obtain ⟨g, rfl, hg⟩ := hv
  have Hg := hid hg; clear hg
  simp only [Act.put, List.setIfInBounds_toArray, List.set_cons_succ, List.set_cons_zero]
  refine wpFree_alloc rfl rfl (ftab .f32 (fun _ => 0) 16) allocBlk (fun bg hb => ?_)
  simp only [Act.put, List.setIfInBounds_toArray, List.set_cons_succ, List.set_cons_zero]
  refine wpFree_nil (fun w3 hw3 hF => ?_)
  obtain ⟨_, b', hbb, _, hrow⟩ := hF
  obtain rfl : bg = b' := by simpa using hbb
  have hsz : (Try.prog.info? 35).map (·.size) = some (ftab .f32 g 16).size := by rw [size_ftab]; exact infoBlk
  refine wpList_storeA rfl rfl rfl rfl hrow hsz (by rw [size_ftab, size_ftab]) (one_ftab _ _ _) ?_
  clear hsz
  have hbg : W.heap.size ≤ bg := hb
  have nx := Hsz0.out
  obtain ⟨W2, hW2⟩ : ∃ W2, W2 = w3.setRow bg (ftab .f32 g 16) := ⟨_, rfl⟩
  have rg : Row W2 bg 35 (ftab .f32 g 16) := by rw [hW2]; exact hrow.setRow _
  have rx : Row W2 (w.heap.size) 33 (itab .i16 x 16) := by rw [hW2]; exact ((Rx.out.drewN 0).le hw3).setRow_other (by omega) _
  have hb2 : le w W2 := by rw [hW2]; exact below_setRow (le_trans Hb0.out (le_trans (le_drewN W _) hw3)) (by omega) _
  have hsz2 : bg < W2.heap.size := rg.lt
  rw [← hW2]
  clear hW2 hrow hbb hw3 hb Rx Hb0
  have Rg := hid rg; have Hb2 := hid hb2; have Hsz2 := hid hsz2; have Hbg := hid hbg; have Nx := hid nx; clear rg hb2 hsz2 hbg nx
  have Rx := hid rx; clear rx
  go_upto_region 2 with (fail)
  refine region_line (fun f args _ v => (f = 21 ∧ args = #[v]) ∨ (f = 22 ∧ ∃ g, v = .agg (ftab .f32 g 16) ∧ ∀ j, j < 16 → can .f32 (g j) = fromShort (x j))) 4 ?_
  simp only [List.take_succ_cons, List.take_zero, List.drop_succ_cons, List.drop_zero]
  refine wpFree_loadA rfl rfl rfl (Rx.out.drewN 0) Try.underlying33 hsx ?_
  simp only [Act.put, List.setIfInBounds_toArray, List.set_cons_succ, List.set_cons_zero]
  refine wpFree_call rfl rfl Try.func21 (by kernel_rfl) (by kernel_rfl) (args := #[.agg (itab .i16 x 16)]) (by simp [Act.eval]) (fun _ _ _ _ h => h) (fun w1 _ => (toInt16A16_any x w1).mono ?_) ?_
  · rintro e w2 ⟨rfl, hb⟩
    exact ⟨_, rfl, hb, .inl ⟨rfl, rfl⟩⟩
  rintro v ⟨_, _, hv⟩
  simp at hv
  subst hv
  simp only [Act.put, List.setIfInBounds_toArray, List.set_cons_succ, List.set_cons_zero]
  refine wpFree_call rfl rfl Try.func22 (by kernel_rfl) (by kernel_rfl) (args := #[.agg (itab .i16 x 16)]) (by simp [Act.eval]) (fun _ _ _ _ h => h) (fun w1 _ => (i_FromShorts x w1).mono ?_) ?_
  · rintro e w2 ⟨g, rfl, hg, hb⟩
    exact ⟨_, rfl, hb, .inr ⟨rfl, g, rfl, fun j hj => (hg j hj).1⟩⟩
  rintro v ⟨_, _, hv⟩
  simp at hv
  obtain ⟨h, rfl, hh⟩ := hv
  have Hh := hid hh; clear hh
  simp only [Act.put, List.setIfInBounds_toArray, List.set_cons_succ, List.set_cons_zero]
  refine wpFree_alloc rfl rfl (ftab .f32 (fun _ => 0) 16) allocBlk (fun bh hb => ?_)
  simp only [Act.put, List.setIfInBounds_toArray, List.set_cons_succ, List.set_cons_zero]
  refine wpFree_nil (fun w3 hw3 hF => ?_)
  obtain ⟨_, b', hbb, _, hrow⟩ := hF
  obtain rfl : bh = b' := by simpa using hbb
  have hsz : (Try.prog.info? 35).map (·.size) = some (ftab .f32 h 16).size := by rw [size_ftab]; exact infoBlk
  refine wpList_storeA rfl rfl rfl rfl hrow hsz (by rw [size_ftab, size_ftab]) (one_ftab _ _ _) ?_
  clear hsz
  have hbh : W2.heap.size ≤ bh := hb
  have n2 := Hsz2.out
  obtain ⟨W3, hW3⟩ : ∃ W3, W3 = w3.setRow bh (ftab .f32 h 16) := ⟨_, rfl⟩
  have rh : Row W3 bh 35 (ftab .f32 h 16) := by rw [hW3]; exact hrow.setRow _
  have rg : Row W3 bg 35 (ftab .f32 g 16) := by rw [hW3]; exact ((Rg.out.drewN _).le hw3).setRow_other (by omega) _
  have nb := Hbg.out
  have nx := Nx.out
  have hb3 : le w W3 := by rw [hW3]; exact below_setRow (le_trans Hb2.out (le_trans (le_drewN W2 _) hw3)) (by omega) _
  rw [← hW3]
  have hsh : (Try.prog.info? 35).map (·.size) = some (ftab .f32 h 16).size := by rw [size_ftab]; exact infoBlk
  have hsg : (Try.prog.info? 35).map (·.size) = some (ftab .f32 g 16).size := by rw [size_ftab]; exact infoBlk
  clear hW3 hrow hbb hw3 hb Rg Hb2
  go_wp2_with (first | (with_reducible refine wpList_loadA rfl rfl rfl rh Try.underlying35 hsh ?_) | (with_reducible refine wpList_loadA rfl rfl rfl rg Try.underlying35 hsg ?_) | (go_at_call 23; refine (eqBlock_yes _ _ _ (fun j hj => (Hh.out j hj).trans (Hg.out j hj).symm)).mono ?_; rintro e w5 ⟨rfl, hb5⟩))
  go_ret
  exact ⟨rfl, le_trans hb3 hb5⟩
end Go.Proofs.Ytibggjgffheibab.fnExactFromShorts
