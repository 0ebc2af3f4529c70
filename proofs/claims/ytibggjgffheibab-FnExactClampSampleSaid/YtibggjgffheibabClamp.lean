/- The contracts of 'ClampSample' and of its like in the model. -/
import Derived.Test.YtibggjgffheibabRows
import Derived.Test.YtibggjgffheibabFlt
import Derived.Handy
namespace Go.Fk
/-- A sample within limits. -/
def clamp (x l : Nat) : Nat := if (FloatKind.f32.format.order x l == some .gt) = true then l else if (FloatKind.f32.format.order x (neg .f32 l) == some .lt) = true then neg .f32 l else x
theorem fits_clamp {x l : Nat} (hx : fits .f32 x) (hl : fits .f32 l) : fits .f32 (clamp x l) := by
  unfold clamp; split
  · exact hl
  · split
    · exact fits_neg hl
    · exact hx
theorem clamp_congr {x x' l l' : Nat} (hx : can .f32 x = can .f32 x') (hl : can .f32 l = can .f32 l') : can .f32 (clamp x l) = can .f32 (clamp x' l') := by
  unfold clamp
  rw [order_congr hx hl, order_congr hx (neg_congr hl)]
  split
  · exact hl
  · split
    · exact neg_congr hl
    · exact hx
end Go.Fk
namespace Go.Proofs.Ytibggjgffheibab
open Go.RowKit Go.Fk
theorem i_ClampSample (x l : Nat) (w : World) : Calls Try.prog 10 #[.float .f32 x, .float .f32 l] w fun e w' => e = .returned (.float .f32 (clamp x l)) ∧ w = w' := by
  cases h1 : (FloatKind.f32.format.order x l == some .gt) <;> cases h2 : (FloatKind.f32.format.order x (neg .f32 l) == some .lt)
  all_goals
    go_enter Try.func10, Try.ntmps10
    go_wp2
    go_ret
    exact ⟨ret_f (by simp [clamp, h1, h2]), rfl⟩
theorem s_l01Clamp (x l : Nat) (w : World) : Calls Try.prog 26 #[.float .f32 x, .float .f32 l] w fun e w' => e = .returned (.float .f32 (clamp x l)) ∧ w = w' := by
  cases h1 : (FloatKind.f32.format.order x l == some .gt) <;> cases h2 : (FloatKind.f32.format.order x (neg .f32 l) == some .lt)
  all_goals
    go_enter Try.func26, Try.ntmps26
    go_wp2
    go_ret
    exact ⟨ret_f (by simp [clamp, h1, h2]), rfl⟩
theorem s_ClampSample (x l : Nat) (w : World) : Calls Try.prog 9 #[.float .f32 x, .float .f32 l] w fun e w' => e = .returned (.float .f32 (clamp x l)) ∧ w = w' := by
  go_enter Try.func9, Try.ntmps9
  go_wp2_with (go_at_call 26; refine (s_l01Clamp _ _ _).mono ?_; rintro e w' ⟨rfl, rfl⟩)
  go_ret
  exact ⟨rfl, rfl⟩
end Go.Proofs.Ytibggjgffheibab
