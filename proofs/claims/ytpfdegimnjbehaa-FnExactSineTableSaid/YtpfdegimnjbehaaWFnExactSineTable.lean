/- The walk of 'FnExactSineTable'. -/
import Derived.Test.YtpfdegimnjbehaaSTab
namespace Go.Proofs.Ytpfdegimnjbehaa.fnExactSineTable
open Go.RowKit Go.Fk
set_option maxRecDepth 100000 in
set_option maxHeartbeats 2000000 in
theorem walk (w : World) :
    Calls Try.prog 8 #[] w fun e w' => e = .returned (.bool true) ∧ Below w.heap.size w w' := by
  have F := Frm.nil w
  go_enter Try.func8, Try.ntmps8
  go_wp2_with (first | ((with_reducible refine at_load rfl ?_); first | (with_reducible refine wpList_loadFr F rfl rfl rfl (by first | exact List.mem_cons_self | exact List.mem_cons_of_mem _ (List.mem_cons_self) | exact List.mem_cons_of_mem _ (List.mem_cons_of_mem _ (List.mem_cons_self)) | exact List.mem_cons_of_mem _ (List.mem_cons_of_mem _ (List.mem_cons_of_mem _ (List.mem_cons_self))) | exact List.mem_cons_of_mem _ (List.mem_cons_of_mem _ (List.mem_cons_of_mem _ (List.mem_cons_of_mem _ (List.mem_cons_self)))) | exact List.mem_cons_of_mem _ (List.mem_cons_of_mem _ (List.mem_cons_of_mem _ (List.mem_cons_of_mem _ (List.mem_cons_of_mem _ (List.mem_cons_self))))) | exact List.mem_cons_of_mem _ (List.mem_cons_of_mem _ (List.mem_cons_of_mem _ (List.mem_cons_of_mem _ (List.mem_cons_of_mem _ (List.mem_cons_of_mem _ (List.mem_cons_self))))))) Try.underlying34 rfl infoTab (by simp [size_ftab]) ?_)) | (go_at_call 43; ((with_reducible refine (s_SineTable _).mono ?_); rintro e w1 ⟨p, rfl, hp, hb⟩; replace hp := hid hp; (first | replace F := F.le hb | replace F := (F.box _ _).le hb | replace F := ((F.box _ _).box _ _).le hb | replace F := (F.drewN _).le hb | replace F := ((F.box _ _).drewN _).le hb))) | (go_at_call 23; ((with_reducible refine (i_SineTable _).mono ?_); rintro e w1 ⟨q, rfl, hq, hb⟩; replace hq := hid hq; (first | replace F := F.le hb | replace F := (F.box _ _).le hb | replace F := ((F.box _ _).box _ _).le hb | replace F := (F.drewN _).le hb | replace F := ((F.box _ _).drewN _).le hb))) | (refine wpList_storeFr F rfl rfl rfl rfl rfl (by rw [size_ftab]; exact infoTab) (by rw [size_ftab]; rfl) (one_ftab _ _ _) ?_; clear F; intro W F) | (go_at_call 44; ((with_reducible refine (eqTab_yes _ _ _ (fun j hj => (hq.out j hj).trans (hp.out j hj).symm)).mono ?_); rintro e w7 ⟨rfl, hb7⟩; (first | replace F := F.le hb7 | replace F := (F.box _ _).le hb7 | replace F := ((F.box _ _).box _ _).le hb7 | replace F := (F.drewN _).le hb7 | replace F := ((F.box _ _).drewN _).le hb7))))
  go_ret
  first | exact ⟨rfl, F.below⟩ | exact ⟨rfl, below_drewN F.below _⟩
end Go.Proofs.Ytpfdegimnjbehaa.fnExactSineTable
