/- The walk of 'FnExactClampSample'. -/
import Derived.Test.YtibggjgffheibabClamp
import Derived.Test.YtibggjgffheibabSame
import Derived.Test.YtibggjgffheibabConv
import Derived.Below
namespace Go.Proofs.Ytibggjgffheibab.fnExactClampSample
open Go.RowKit Go.Fk

theorem walk (a0 : Nat) (a1 : Nat) (w : World) (w0 : fits .f32 a0) (w1 : fits .f32 a1) :
    Calls Try.prog 3 #[.float .f32 a0, .float .f32 a1] w fun e w' => e = .returned (.bool true) ∧ Below w.heap.size w w' := by
  go_enter Try.func3, Try.ntmps3
  go_wp2_with (first | (with_reducible refine wpList_widen rfl rfl rfl Try.underlying22 Try.underlying25 ?_; intro r n hr hf) | (go_at_call 9; refine (s_ClampSample _ _ _).mono ?_; rintro e w' ⟨rfl, rfl⟩) | (go_at_call 10; refine (i_ClampSample _ _ _).mono ?_; rintro e w' ⟨rfl, rfl⟩))
  rename_i h1 _ _ _
  refine (sameFloat_yes _ _ _ (h1.trans hr.symm)).mono ?_
  rintro e w' ⟨rfl, n3, rfl⟩
  go_wp2
  go_ret
  exact ⟨rfl, by repeat' (first | (with_reducible exact Below.refl _ _) | (with_reducible assumption) | (with_reducible refine below_drewN ?_ _) | (with_reducible refine Below.alloc ?_ ?_ _) | (with_reducible refine Below.drew ?_) | (with_reducible refine Below.setCell ?_ ?_ _) | go_size)⟩
end Go.Proofs.Ytibggjgffheibab.fnExactClampSample
