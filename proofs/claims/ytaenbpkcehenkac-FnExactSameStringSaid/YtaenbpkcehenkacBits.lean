/- What math.Float32bits and math.Float32frombits give. -/
import Derived.Test.YtaenbpkcehenkacRows
import Derived.Test.YtaenbpkcehenkacFlt
namespace Go.Proofs.Ytaenbpkcehenkac
open Go.RowKit Go.Fk

@[go_sem] theorem run_f32bits (x : Nat) (w : World) : (callFunc 104 #[.float .f32 x]).run Try.prog w = .ok (.value (.int .u32 x)) w := by
  rw [run_callFunc_extern (e := Extern.MathFloatBits.float32bits) Try.func104 (by kernel_rfl) (by kernel_rfl) (by kernel_rfl) (by kernel_rfl)]; rfl
end Go.Proofs.Ytaenbpkcehenkac
