/- The walk of 'FnExactToShort'. -/
import Derived.Test.YtibggjgffheibabToShort
import Derived.Below
namespace Go.Proofs.Ytibggjgffheibab.fnExactToShort
open Go.RowKit Go.Fk

theorem walk (a0 : Nat) (w : World) (w0 : fits .f32 a0) :
    Calls Try.prog 4 #[.float .f32 a0] w fun e w' => e = .returned (.bool true) ∧ Below w.heap.size w w' := by
  go_enter Try.func4, Try.ntmps4
  go_wp2_with (first | (go_at_call 12; refine (s_ToShort _ _).mono ?_; rintro e w' ⟨rfl, n, rfl⟩) | (go_at_call 13; refine (i_ToShort _ _).mono ?_; rintro e w' ⟨rfl, n, rfl⟩))
  go_ret
  exact ⟨rfl, by repeat' (first | (with_reducible exact Below.refl _ _) | (with_reducible assumption) | (with_reducible refine below_drewN ?_ _) | (with_reducible refine Below.alloc ?_ ?_ _) | (with_reducible refine Below.drew ?_) | (with_reducible refine Below.setCell ?_ ?_ _) | go_size)⟩
end Go.Proofs.Ytibggjgffheibab.fnExactToShort
