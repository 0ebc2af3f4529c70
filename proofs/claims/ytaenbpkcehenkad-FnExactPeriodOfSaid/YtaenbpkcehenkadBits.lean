/- What math.Float32bits and math.Float32frombits give. -/
import Derived.Test.YtaenbpkcehenkadRows
import Derived.Test.YtaenbpkcehenkadFlt
namespace Go.Proofs.Ytaenbpkcehenkad
open Go.RowKit Go.Fk

@[go_sem] theorem run_f32bits (x : Nat) (w : World) : (callFunc 113 #[.float .f32 x]).run Try.prog w = .ok (.value (.int .u32 x)) w := by
  rw [run_callFunc_extern (e := Extern.MathFloatBits.float32bits) Try.func113 (by kernel_rfl) (by kernel_rfl) (by kernel_rfl) (by kernel_rfl)]; rfl
end Go.Proofs.Ytaenbpkcehenkad
