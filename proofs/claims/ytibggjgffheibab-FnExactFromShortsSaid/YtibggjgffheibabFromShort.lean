/- The contracts of 'FromShort'. -/
import Derived.Test.YtibggjgffheibabRows
import Derived.Test.YtibggjgffheibabFlt
import Derived.Handy
namespace Go.Fk
/-- The sample of an integer, up to the bits of NaN. -/
def fromShort (n : Int) : Nat := fop .quo .f32 (floatOfInt .f32 n) 1191182336
end Go.Fk
namespace Go.Proofs.Ytibggjgffheibab
open Go.RowKit Go.Fk
theorem i_FromShort (n : Int) (w : World) : Calls Try.prog 15 #[.int .i16 n] w fun e w' => ∃ r m, e = .returned (.float .f32 r) ∧ can .f32 r = fromShort n ∧ fits .f32 r ∧ w' = w.drewN m := by
  go_enter Try.func15, Try.ntmps15
  go_wp2_with (with_reducible refine wpList_farith rfl rfl rfl rfl rfl ?_; intro r n hr hf)
  go_ret
  exact ⟨_, _, rfl, hr, hf, rfl⟩
theorem s_FromShort (n : Int) (w : World) : Calls Try.prog 14 #[.int .i16 n] w fun e w' => ∃ r m, e = .returned (.float .f32 r) ∧ can .f32 r = fromShort n ∧ fits .f32 r ∧ w' = w.drewN m := by
  go_enter Try.func14, Try.ntmps14
  go_wp2_with (with_reducible refine wpList_farith rfl rfl rfl rfl rfl ?_; intro r n hr hf)
  go_ret
  exact ⟨_, _, rfl, hr, hf, rfl⟩
end Go.Proofs.Ytibggjgffheibab
