/- The walk of 'FnExactCodeName'. -/
import Derived.Test.YtibggjgffheibaaCodeName
import Derived.Below
namespace Go.Proofs.Ytibggjgffheibaa.fnExactCodeName
open Go.RowKit Go.Fk

theorem walk (a0 : Int) (w : World) (w0 : (Lit.int .i64 a0).wf = true) :
    Calls Try.prog 5 #[.int .i64 a0] w fun e w' => e = .returned (.bool true) ∧ Below w.heap.size w w' := by
  by_cases h : a0 < 0 ∨ 8 < a0
  · have H := hid h; clear h
    go_enter Try.func5, Try.ntmps5
    go_wp2_with (first | (go_at_call 22; refine (s_CodeName_out _ _ H).mono ?_; rintro e w1 ⟨rfl, hb1⟩) | (go_at_call 23; refine (i_CodeName_out _ _ H).mono ?_; rintro e w2 ⟨rfl, hb2⟩))
    go_ret
    exact ⟨rfl, hb1.trans (hb2.mono hb1.size)⟩
  · have h0 : 0 ≤ a0 := by omega
    have h8 : a0 ≤ 8 := by omega
    clear h
    go_enter Try.func5, Try.ntmps5
    go_wp2_with (first | (go_at_call 22; refine (s_CodeName_in _ _ h0 h8).mono ?_; rintro e w1 ⟨rfl, hb1⟩) | (go_at_call 23; refine (i_CodeName_in _ _ h0 h8).mono ?_; rintro e w2 ⟨rfl, hb2⟩))
    go_ret
    exact ⟨rfl, hb1.trans (hb2.mono hb1.size)⟩
end Go.Proofs.Ytibggjgffheibaa.fnExactCodeName
