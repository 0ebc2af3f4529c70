/- 'laws.sameFloat': true of two words that are one up to the bits of NaN. -/
import Derived.Test.YtaenbpkcehenkacRows
import Derived.Test.YtaenbpkcehenkacFlt
import Derived.Handy
namespace Go.Proofs.Ytaenbpkcehenkac
open Go.RowKit Go.Fk

theorem sameFloat_nan (x y : Nat) (w : World) (hx : isNan .f64 x = true) (hy : isNan .f64 y = true) :
    Calls Try.prog 37 #[.float .f64 x, .float .f64 y] w fun e w' => e = .returned (.bool true) ∧ ∃ n, w' = w.drewN n := by
  have h1 : FloatKind.f64.format.order x x = none := order_of_nan_l hx
  have h2 : FloatKind.f64.format.order y y = none := order_of_nan_l hy
  go_enter Try.func37, Try.ntmps37
  go_wp2
  go_ret
  exact ⟨rfl, 0, rfl⟩

theorem sameFloat_num (x : Nat) (w : World) (hx : isNan .f64 x = false) :
    Calls Try.prog 37 #[.float .f64 x, .float .f64 x] w fun e w' => e = .returned (.bool true) ∧ ∃ n, w' = w.drewN n := by
  have h1 : FloatKind.f64.format.order x x = some .eq := order_self hx
  cases h0 : (FloatKind.f64.format.order x 0 == some .eq)
  · go_enter Try.func37, Try.ntmps37
    go_wp2
    go_ret
    exact ⟨rfl, 0, rfl⟩
  · go_enter Try.func37, Try.ntmps37
    go_wp2_with (with_reducible refine wpList_farith rfl rfl rfl rfl rfl ?_; intro r n hr hf)
    rename_i r1 n1 hr1 _
    go_ret
    refine ⟨?_, _, rfl⟩
    rw [show FloatKind.f64.format.order r1 0 = FloatKind.f64.format.order r 0 from order_congr (hr1.trans hr.symm) rfl]
    simp

theorem sameFloat_yes (x y : Nat) (w : World) (h : can .f64 x = can .f64 y) :
    Calls Try.prog 37 #[.float .f64 x, .float .f64 y] w fun e w' => e = .returned (.bool true) ∧ ∃ n, w' = w.drewN n := by
  cases hx : isNan .f64 x
  · obtain rfl := eq_of_can h hx
    exact sameFloat_num x w hx
  · exact sameFloat_nan x y w hx (by rw [← isNan_of_can h, hx])
end Go.Proofs.Ytaenbpkcehenkac
