import Derived.Test.YtibggjgffheibaaNaN
import Derived.Handy
import Derived.Below
namespace Go.Proofs.Ytibggjgffheibaa.fnExactSameSample
open Go.RowKit Go.Fk

theorem s_SameSample (x y : Nat) (w : World) : Calls Try.prog 24 #[.float .f32 x, .float .f32 y] w fun e w' => e = .returned (.bool (sameB x y)) ∧ w = w' := by
  go_enter Try.func24, Try.ntmps24
  go_wp2_with (go_at_call 41; refine (s_l01Same _ _ _).mono ?_; rintro e w' ⟨rfl, rfl⟩)
  go_ret
  exact ⟨rfl, rfl⟩
theorem walk (a0 : Nat) (a1 : Nat) (w : World) (w0 : fits .f32 a0) (w1 : fits .f32 a1) :
    Calls Try.prog 6 #[.float .f32 a0, .float .f32 a1] w fun e w' => e = .returned (.bool true) ∧ Below w.heap.size w w' := by
  go_enter Try.func6, Try.ntmps6
  go_wp2_with (first | (go_at_call 24; refine (s_SameSample _ _ _).mono ?_; rintro e w' ⟨rfl, rfl⟩) | (go_at_call 15; refine (i_SameSample _ _ _).mono ?_; rintro e w' ⟨rfl, rfl⟩))
  go_ret
  exact ⟨rfl, by go_grown⟩
end Go.Proofs.Ytibggjgffheibaa.fnExactSameSample
