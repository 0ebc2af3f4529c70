/- The contracts of 'NextNoise'. -/
import Derived.Test.YtibggjgffheibaeSame
import Derived.Test.YtibggjgffheibaeConv
import Derived.Below
namespace Go.Fk
open Go Go.RowKit
def nextOf (s : Int) : Int := (1974033781 * s + 907633385) % 4294967296
def noiseOf (s : Int) : Nat := fop .quo .f32 (floatOfInt .f32 (nextOf s / 256 - 8388608)) 1258291200
def OutN (s : Int) (w : World) (e : Ending) (w' : World) : Prop := ∃ r n, e = .returned (.tuple #[.float .f32 r, .int .u32 (nextOf s)]) ∧ can .f32 r = noiseOf s ∧ fits .f32 r ∧ w' = w.drewN n
theorem nextOf_range (s : Int) : 0 ≤ nextOf s ∧ nextOf s < 4294967296 := by unfold nextOf; omega
end Go.Fk
namespace Go.Proofs.Ytibggjgffheibae
open Go.RowKit Go.Fk
theorem s_l01Noise (s : Int) (w : World) (h0 : 0 ≤ s) (h1 : s < 4294967296) : Calls Try.prog 20 #[.int .u32 s] w (OutN s w) := by
  go_enter Try.func20, Try.ntmps20
  go_wp2_with (with_reducible refine wpList_farith rfl rfl rfl rfl rfl ?_; intro r n hr hf)
  go_ret2
  exact ⟨r, n, rfl, hr.out, hf.out, rfl⟩
theorem s_NextNoise (s : Int) (w : World) (h0 : 0 ≤ s) (h1 : s < 4294967296) : Calls Try.prog 11 #[.int .u32 s] w (OutN s w) := by
  go_enter Try.func11, Try.ntmps11
  go_wp2_with fail
  refine (s_l01Noise _ _ h0 h1).mono ?_
  rintro e w' ⟨r, n, rfl, hr, hf, rfl⟩
  have hr := hid hr
  go_wp2
  go_ret2
  exact ⟨r, n, rfl, hr.out, hf, rfl⟩
theorem i_NextNoise (s : Int) (w : World) (h0 : 0 ≤ s) (h1 : s < 4294967296) : Calls Try.prog 12 #[.int .u32 s] w (OutN s w) := by
  go_enter Try.func12, Try.ntmps12
  go_wp2_with (with_reducible refine wpList_farith rfl rfl rfl rfl rfl ?_; intro r n hr hf)
  go_ret2
  exact ⟨r, n, rfl, hr.out, hf.out, rfl⟩
end Go.Proofs.Ytibggjgffheibae
