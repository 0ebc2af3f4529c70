/- What math.Float32frombits gives. -/
import Derived.Test.YtaenbpkcehenkabRows
import Derived.Test.YtaenbpkcehenkabFlt
namespace Go.Proofs.Ytaenbpkcehenkab
open Go.RowKit Go.Fk

@[go_sem] theorem run_f32from (x : Int) (w : World) : (callFunc 76 #[.int .u32 x]).run Try.prog w = .ok (.value (.float .f32 x.toNat)) w := by
  rw [run_callFunc_extern (e := Extern.MathFloatBits.float32frombits) Try.func76 (by kernel_rfl) (by kernel_rfl) (by kernel_rfl) (by kernel_rfl)]; rfl
end Go.Proofs.Ytaenbpkcehenkab
