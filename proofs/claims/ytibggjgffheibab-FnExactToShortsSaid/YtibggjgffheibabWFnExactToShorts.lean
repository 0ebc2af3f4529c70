/- The walk of 'FnExactToShorts'. -/
import Derived.Test.YtibggjgffheibabShorts
namespace Go.Proofs.Ytibggjgffheibab.fnExactToShorts
open Go.RowKit Go.Fk

theorem walk (a0 : List Nat) (w : World) (l0 : a0.length = 16) (w0 : ∀ b ∈ a0, fits .f32 b) :
    Calls Try.prog 6 #[.agg (a0.map (Value.float .f32)).toArray] w fun e w' => e = .returned (.bool true) ∧ Below w.heap.size w w' := by
  rw [ftab_of_list, l0]
  obtain ⟨x, hx⟩ : ∃ x : Nat → Nat, x = fun j => a0.getD j 0 := ⟨_, rfl⟩
  rw [← hx]
  clear hx
  clear l0 w0
  have hsx : (Try.prog.info? 32).map (·.size) = some (ftab .f32 x 16).size := by rw [size_ftab]; kernel_rfl
  go_enter Try.func6, Try.ntmps6
  go_upto_region 1 with (fail)
  obtain ⟨W, hW⟩ : ∃ W, W = w.alloc (.cells (ftab .f32 x 16) 32) := ⟨_, rfl⟩
  rw [← hW]
  have rx : Row W (w.heap.size) 32 (ftab .f32 x 16) := by rw [hW]; exact Row.new w _ _
  have hb0 : le w W := by rw [hW]; exact le_alloc _ _
  have hsz0 : w.heap.size + 1 ≤ W.heap.size := by rw [hW]; simp
  clear hW
  have Rx := hid rx; clear rx
  have Hb0 := hid hb0; clear hb0
  have Hsz0 := hid hsz0; clear hsz0
  refine region_line (fun f args _ v => (f = 17 ∧ args = #[v]) ∨ (f = 16 ∧ v = .agg (itab .i16 (fun j => toShort (x j)) 16))) 4 ?_
  simp only [List.take_succ_cons, List.take_zero, List.drop_succ_cons, List.drop_zero]
  refine wpFree_loadA rfl rfl rfl (Rx.out.drewN 0) Try.underlying32 hsx ?_
  simp only [Act.put, List.setIfInBounds_toArray, List.set_cons_succ, List.set_cons_zero]
  refine wpFree_call rfl rfl Try.func17 (by kernel_rfl) (by kernel_rfl) (args := #[.agg (ftab .f32 x 16)]) (by simp [Act.eval]) (fun _ _ _ _ h => h) (fun w1 _ => (toBlock_any x w1).mono ?_) ?_
  · rintro e w2 ⟨rfl, hb⟩
    exact ⟨_, rfl, hb, .inl ⟨rfl, rfl⟩⟩
  rintro v ⟨_, _, hv⟩
  simp at hv
  subst hv
  simp only [Act.put, List.setIfInBounds_toArray, List.set_cons_succ, List.set_cons_zero]
  refine wpFree_call rfl rfl Try.func16 (by kernel_rfl) (by kernel_rfl) (args := #[.agg (ftab .f32 x 16)]) (by simp [Act.eval]) (fun _ _ _ _ h => h) (fun w1 _ => (s_ToShorts x w1).mono ?_) ?_
  · rintro e w2 ⟨rfl, hb⟩
    exact ⟨_, rfl, hb, .inr ⟨rfl, rfl⟩⟩
  rintro v ⟨_, _, hv⟩
  simp at hv
  subst hv
  simp only [Act.put, List.setIfInBounds_toArray, List.set_cons_succ, List.set_cons_zero]
  refine wpFree_alloc rfl rfl (itab .i16 (fun _ => 0) 16) allocArr (fun bg hb => ?_)
  simp only [Act.put, List.setIfInBounds_toArray, List.set_cons_succ, List.set_cons_zero]
  refine wpFree_nil (fun w3 hw3 hF => ?_)
  obtain ⟨_, b', hbb, _, hrow⟩ := hF
  obtain rfl : bg = b' := by simpa using hbb
  have hsz : (Try.prog.info? 33).map (·.size) = some (itab .i16 (fun j => toShort (x j)) 16).size := by rw [size_itab]; exact infoArr
  refine wpList_storeA rfl rfl rfl rfl hrow hsz (by rw [size_itab, size_itab]) (one_itab _ _ _) ?_
  clear hsz
  have hbg : W.heap.size ≤ bg := hb
  have nx := Hsz0.out
  obtain ⟨W2, hW2⟩ : ∃ W2, W2 = w3.setRow bg (itab .i16 (fun j => toShort (x j)) 16) := ⟨_, rfl⟩
  have rg : Row W2 bg 33 (itab .i16 (fun j => toShort (x j)) 16) := by rw [hW2]; exact hrow.setRow _
  have rx : Row W2 (w.heap.size) 32 (ftab .f32 x 16) := by rw [hW2]; exact ((Rx.out.drewN 0).le hw3).setRow_other (by omega) _
  have hb2 : le w W2 := by rw [hW2]; exact below_setRow (le_trans Hb0.out (le_trans (le_drewN W _) hw3)) (by omega) _
  have hsz2 : bg < W2.heap.size := rg.lt
  rw [← hW2]
  clear hW2 hrow hbb hw3 hb Rx Hb0
  have Rg := hid rg; have Hb2 := hid hb2; have Hsz2 := hid hsz2; have Hbg := hid hbg; have Nx := hid nx; clear rg hb2 hsz2 hbg nx
  have Rx := hid rx; clear rx
  go_upto_region 2 with (fail)
  refine region_line (fun f args _ v => (f = 17 ∧ args = #[v]) ∨ (f = 18 ∧ v = .agg (itab .i16 (fun j => toShort (x j)) 16))) 4 ?_
  simp only [List.take_succ_cons, List.take_zero, List.drop_succ_cons, List.drop_zero]
  refine wpFree_loadA rfl rfl rfl (Rx.out.drewN 0) Try.underlying32 hsx ?_
  simp only [Act.put, List.setIfInBounds_toArray, List.set_cons_succ, List.set_cons_zero]
  refine wpFree_call rfl rfl Try.func17 (by kernel_rfl) (by kernel_rfl) (args := #[.agg (ftab .f32 x 16)]) (by simp [Act.eval]) (fun _ _ _ _ h => h) (fun w1 _ => (toBlock_any x w1).mono ?_) ?_
  · rintro e w2 ⟨rfl, hb⟩
    exact ⟨_, rfl, hb, .inl ⟨rfl, rfl⟩⟩
  rintro v ⟨_, _, hv⟩
  simp at hv
  subst hv
  simp only [Act.put, List.setIfInBounds_toArray, List.set_cons_succ, List.set_cons_zero]
  refine wpFree_call rfl rfl Try.func18 (by kernel_rfl) (by kernel_rfl) (args := #[.agg (ftab .f32 x 16)]) (by simp [Act.eval]) (fun _ _ _ _ h => h) (fun w1 _ => (i_ToShorts x w1).mono ?_) ?_
  · rintro e w2 ⟨rfl, hb⟩
    exact ⟨_, rfl, hb, .inr ⟨rfl, rfl⟩⟩
  rintro v ⟨_, _, hv⟩
  simp at hv
  subst hv
  simp only [Act.put, List.setIfInBounds_toArray, List.set_cons_succ, List.set_cons_zero]
  refine wpFree_alloc rfl rfl (itab .i16 (fun _ => 0) 16) allocArr (fun bh hb => ?_)
  simp only [Act.put, List.setIfInBounds_toArray, List.set_cons_succ, List.set_cons_zero]
  refine wpFree_nil (fun w3 hw3 hF => ?_)
  obtain ⟨_, b', hbb, _, hrow⟩ := hF
  obtain rfl : bh = b' := by simpa using hbb
  have hsz : (Try.prog.info? 33).map (·.size) = some (itab .i16 (fun j => toShort (x j)) 16).size := by rw [size_itab]; exact infoArr
  refine wpList_storeA rfl rfl rfl rfl hrow hsz (by rw [size_itab, size_itab]) (one_itab _ _ _) ?_
  clear hsz
  have hbh : W2.heap.size ≤ bh := hb
  have n2 := Hsz2.out
  obtain ⟨W3, hW3⟩ : ∃ W3, W3 = w3.setRow bh (itab .i16 (fun j => toShort (x j)) 16) := ⟨_, rfl⟩
  have rh : Row W3 bh 33 (itab .i16 (fun j => toShort (x j)) 16) := by rw [hW3]; exact hrow.setRow _
  have rg : Row W3 bg 33 (itab .i16 (fun j => toShort (x j)) 16) := by rw [hW3]; exact ((Rg.out.drewN _).le hw3).setRow_other (by omega) _
  have nb := Hbg.out
  have nx := Nx.out
  have hb3 : le w W3 := by rw [hW3]; exact below_setRow (le_trans Hb2.out (le_trans (le_drewN W2 _) hw3)) (by omega) _
  rw [← hW3]
  have hsh : (Try.prog.info? 33).map (·.size) = some (itab .i16 (fun j => toShort (x j)) 16).size := by rw [size_itab]; exact infoArr
  have hsg : (Try.prog.info? 33).map (·.size) = some (itab .i16 (fun j => toShort (x j)) 16).size := by rw [size_itab]; exact infoArr
  clear hW3 hrow hbb hw3 hb Rg Hb2
  go_wp2_with (first | (with_reducible refine wpList_loadA rfl rfl rfl rh Try.underlying33 hsh ?_) | (with_reducible refine wpList_loadA rfl rfl rfl rg Try.underlying33 hsg ?_) | (go_at_call 19; refine (eqInt16A16_yes _ _).mono ?_; rintro e w5 ⟨rfl, hb5⟩))
  go_ret
  exact ⟨rfl, le_trans hb3 hb5⟩
end Go.Proofs.Ytibggjgffheibab.fnExactToShorts
