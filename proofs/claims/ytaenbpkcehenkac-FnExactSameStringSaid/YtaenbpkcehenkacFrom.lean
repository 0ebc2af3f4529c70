/- What math.Float32frombits gives. -/
import Derived.Test.YtaenbpkcehenkacRows
import Derived.Test.YtaenbpkcehenkacFlt
namespace Go.Proofs.Ytaenbpkcehenkac
open Go.RowKit Go.Fk

@[go_sem] theorem run_f32from (x : Int) (w : World) : (callFunc 128 #[.int .u32 x]).run Try.prog w = .ok (.value (.float .f32 x.toNat)) w := by
  rw [run_callFunc_extern (e := Extern.MathFloatBits.float32frombits) Try.func128 (by kernel_rfl) (by kernel_rfl) (by kernel_rfl) (by kernel_rfl)]; rfl
end Go.Proofs.Ytaenbpkcehenkac
