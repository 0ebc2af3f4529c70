/- What math.Float32bits and math.Float32frombits give. -/
import Derived.Test.YtaenbpkcehenkabRows
import Derived.Test.YtaenbpkcehenkabFlt
namespace Go.Proofs.Ytaenbpkcehenkab
open Go.RowKit Go.Fk

@[go_sem] theorem run_f32bits (x : Nat) (w : World) : (callFunc 62 #[.float .f32 x]).run Try.prog w = .ok (.value (.int .u32 x)) w := by
  rw [run_callFunc_extern (e := Extern.MathFloatBits.float32bits) Try.func62 (by kernel_rfl) (by kernel_rfl) (by kernel_rfl) (by kernel_rfl)]; rfl
end Go.Proofs.Ytaenbpkcehenkab
