/- The walk of 'FnExactFromShort'. -/
import Derived.Test.YtibggjgffheibabFromShort
import Derived.Test.YtibggjgffheibabSame
import Derived.Test.YtibggjgffheibabConv
import Derived.Below
namespace Go.Proofs.Ytibggjgffheibab.fnExactFromShort
open Go.RowKit Go.Fk

theorem walk (a0 : Int) (w : World) (w0 : (Lit.int .i16 a0).wf = true) :
    Calls Try.prog 5 #[.int .i16 a0] w fun e w' => e = .returned (.bool true) ∧ Below w.heap.size w w' := by
  go_enter Try.func5, Try.ntmps5
  go_wp2_with fail
  refine (s_FromShort _ _).mono ?_; rintro e w' ⟨x, n1, rfl, hx, _, rfl⟩; have Hx := hid hx; clear hx
  go_wp2_with fail
  refine (i_FromShort _ _).mono ?_; rintro e w' ⟨y, n2, rfl, hy, _, rfl⟩; have Hy := hid hy; clear hy
  go_wp2_with (with_reducible refine wpList_widen rfl rfl rfl Try.underlying22 Try.underlying25 ?_; intro r n hr hf)
  rename_i h1 _ _ _
  refine (sameFloat_yes _ _ _ (h1.trans (Eq.trans (congrArg (can .f64) (widen_congr (Hy.trans Hx.symm))) hr.symm))).mono ?_
  rintro e w' ⟨rfl, n3, rfl⟩
  go_wp2
  go_ret
  exact ⟨rfl, by repeat' (first | (with_reducible exact Below.refl _ _) | (with_reducible assumption) | (with_reducible refine below_drewN ?_ _) | (with_reducible refine Below.alloc ?_ ?_ _) | (with_reducible refine Below.drew ?_) | (with_reducible refine Below.setCell ?_ ?_ _) | go_size)⟩
end Go.Proofs.Ytibggjgffheibab.fnExactFromShort
