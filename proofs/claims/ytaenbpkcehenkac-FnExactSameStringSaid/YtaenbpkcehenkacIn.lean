/- 'l00In' of the model. -/
import Derived.Test.YtaenbpkcehenkacRows
import Derived.Test.YtaenbpkcehenkacFlt
import Derived.Handy
namespace Go.Proofs.Ytaenbpkcehenkac
open Go.RowKit Go.Fk
theorem s_In (v a b : Int) (w : World) : Calls Try.prog 90 #[.int .i64 v, .int .i64 a, .int .i64 b] w fun e w' => e = .returned (.bool (decide (a ≤ v) && decide (v ≤ b))) ∧ w = w' := by
  by_cases h1 : a ≤ v <;> by_cases h2 : v ≤ b
  all_goals
    go_enter Try.func90, Try.ntmps90
    go_wp2
    go_ret
    exact ⟨ret_b (by simp [h1, h2]), rfl⟩
end Go.Proofs.Ytaenbpkcehenkac
