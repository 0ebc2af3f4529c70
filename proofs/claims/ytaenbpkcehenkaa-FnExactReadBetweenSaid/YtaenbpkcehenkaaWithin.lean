/- 'isWithin'. -/
import Derived.Test.YtaenbpkcehenkaaRows
import Derived.Test.YtaenbpkcehenkaaFlt
import Derived.Handy
namespace Go.Fk
open Go Go.RowKit
/-- Is a number from one to another? Not NaN. -/
def withinB (a l g : Nat) : Bool := (FloatKind.f32.format.order a l == some .gt || FloatKind.f32.format.order a l == some .eq) && (FloatKind.f32.format.order a g == some .lt || FloatKind.f32.format.order a g == some .eq)
end Go.Fk
namespace Go.Proofs.Ytaenbpkcehenkaa
open Go.RowKit Go.Fk
theorem i_isWithin (a l g : Nat) (w : World) : Calls Try.prog 77 #[.float .f32 a, .float .f32 l, .float .f32 g] w fun e w' => e = .returned (.bool (withinB a l g)) ∧ w = w' := by
  rcases h0 : FloatKind.f32.format.order a l with _ | (_ | _ | _) <;> rcases h1 : FloatKind.f32.format.order a g with _ | (_ | _ | _)
  all_goals
    go_enter Try.func77, Try.ntmps77
    go_wp2
    go_ret
    exact ⟨ret_b (by unfold withinB; rw [h0, h1]; rfl), rfl⟩
end Go.Proofs.Ytaenbpkcehenkaa
