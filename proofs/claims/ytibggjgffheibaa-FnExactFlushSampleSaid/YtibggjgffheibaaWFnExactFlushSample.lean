/- The walk of 'FnExactFlushSample'. -/
import Derived.Test.YtibggjgffheibaaFlush
import Derived.Test.YtibggjgffheibaaSame
import Derived.Test.YtibggjgffheibaaConv
import Derived.Below
namespace Go.Proofs.Ytibggjgffheibaa.fnExactFlushSample
open Go.RowKit Go.Fk

theorem s_FlushSample (x : Nat) (w : World) (hx : fits .f32 x) : Calls Try.prog 25 #[.float .f32 x] w fun e w' => e = .returned (.float .f32 (flush x)) ∧ w = w' := by
  go_enter Try.func25, Try.ntmps25
  go_wp2_with (go_at_call 42; refine (s_l01Flush _ _ hx).mono ?_; rintro e w' ⟨rfl, rfl⟩)
  go_ret
  exact ⟨rfl, rfl⟩
theorem walk (a0 : Nat) (w : World) (w0 : fits .f32 a0) :
    Calls Try.prog 7 #[.float .f32 a0] w fun e w' => e = .returned (.bool true) ∧ Below w.heap.size w w' := by
  go_enter Try.func7, Try.ntmps7
  go_wp2_with (first | (with_reducible refine wpList_widen rfl rfl rfl Try.underlying26 Try.underlying48 ?_; intro r n hr hf) | (go_at_call 25; refine (s_FlushSample _ _ w0).mono ?_; rintro e w' ⟨rfl, rfl⟩) | (go_at_call 13; refine (i_FlushSample _ _ w0).mono ?_; rintro e w' ⟨rfl, rfl⟩))
  rename_i h1 _ _ _
  refine (sameFloat_yes _ _ _ (h1.trans hr.symm)).mono ?_
  rintro e w' ⟨rfl, n3, rfl⟩
  go_wp2
  go_ret
  exact ⟨rfl, by repeat' (first | (with_reducible exact Below.refl _ _) | (with_reducible assumption) | (with_reducible refine below_drewN ?_ _) | (with_reducible refine Below.alloc ?_ ?_ _) | (with_reducible refine Below.drew ?_) | (with_reducible refine Below.setCell ?_ ?_ _) | go_size)⟩
end Go.Proofs.Ytibggjgffheibaa.fnExactFlushSample
