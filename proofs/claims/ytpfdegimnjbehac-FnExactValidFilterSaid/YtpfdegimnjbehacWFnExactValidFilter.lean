/- The walk of 'FnExactValidFilter'. -/
import Derived.Test.YtpfdegimnjbehacModel
namespace Go.Proofs.Ytpfdegimnjbehac.fnExactValidFilter
open Go.RowKit Go.Fk
set_option maxHeartbeats 2000000 in
theorem walk (k0 : Int) (a0 b0 c0 x0 y0 : Nat) (w : World) (w0 : (Lit.int .i64 k0).wf = true ∧ fits .f32 a0 ∧ fits .f32 b0 ∧ fits .f32 c0 ∧ fits .f32 x0 ∧ fits .f32 y0) :
    Calls Try.prog 4 #[(.agg #[.int .i64 k0, .float .f32 a0, .float .f32 b0, .float .f32 c0, .float .f32 x0, .float .f32 y0])] w fun e w' => e = .returned (.bool true) ∧ Below w.heap.size w w' := by
  have F := (Frm.nil w).box 30 #[.int .i64 k0, .float .f32 a0, .float .f32 b0, .float .f32 c0, .float .f32 x0, .float .f32 y0]
  have W0 := hid w0.2; clear w0
  go_enter Try.func4, Try.ntmps4
  go_wp2_with (first | (with_reducible refine wpList_loadFr F rfl rfl rfl (by first | exact List.mem_cons_self | exact List.mem_cons_of_mem _ (List.mem_cons_self) | exact List.mem_cons_of_mem _ (List.mem_cons_of_mem _ (List.mem_cons_self)) | exact List.mem_cons_of_mem _ (List.mem_cons_of_mem _ (List.mem_cons_of_mem _ (List.mem_cons_self))) | exact List.mem_cons_of_mem _ (List.mem_cons_of_mem _ (List.mem_cons_of_mem _ (List.mem_cons_of_mem _ (List.mem_cons_self)))) | exact List.mem_cons_of_mem _ (List.mem_cons_of_mem _ (List.mem_cons_of_mem _ (List.mem_cons_of_mem _ (List.mem_cons_of_mem _ (List.mem_cons_self))))) | exact List.mem_cons_of_mem _ (List.mem_cons_of_mem _ (List.mem_cons_of_mem _ (List.mem_cons_of_mem _ (List.mem_cons_of_mem _ (List.mem_cons_of_mem _ (List.mem_cons_self))))))) Try.underlying30 rfl infoFilL (by simp) ?_) | (go_at_call 15; ((with_reducible refine (toFil_any _ _ _ _ _ _ _).mono ?_); rintro e w1 ⟨rfl, hb1⟩; (first | replace F := F.le hb1 | replace F := (F.box _ _).le hb1 | replace F := ((F.box _ _).box _ _).le hb1 | replace F := (F.drewN _).le hb1 | replace F := ((F.box _ _).drewN _).le hb1))) | (go_at_call 14; ((with_reducible refine (s_ValidFilter _ _ _ _ _ _ _).mono ?_); rintro e w2 ⟨rfl, hb2⟩; (first | replace F := F.le hb2 | replace F := (F.box _ _).le hb2 | replace F := ((F.box _ _).box _ _).le hb2 | replace F := (F.drewN _).le hb2 | replace F := ((F.box _ _).drewN _).le hb2))) | (go_at_call 16; ((with_reducible refine (i_ValidFilter _ _ _ _ _ _ _ W0.out).mono ?_); rintro e w3 ⟨rfl, hb3⟩; (first | replace F := F.le hb3 | replace F := (F.box _ _).le hb3 | replace F := ((F.box _ _).box _ _).le hb3 | replace F := (F.drewN _).le hb3 | replace F := ((F.box _ _).drewN _).le hb3))))
  go_ret
  exact ⟨rfl, F.below⟩
end Go.Proofs.Ytpfdegimnjbehac.fnExactValidFilter
