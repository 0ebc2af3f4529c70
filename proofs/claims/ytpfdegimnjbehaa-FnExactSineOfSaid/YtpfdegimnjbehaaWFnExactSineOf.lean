/- The walk of 'FnExactSineOf'. -/
import Derived.Test.YtpfdegimnjbehaaSine
import Derived.Test.YtpfdegimnjbehaaSame
import Derived.Test.YtpfdegimnjbehaaFrm
namespace Go.Proofs.Ytpfdegimnjbehaa.fnExactSineOf
open Go.RowKit Go.Fk
theorem s_SineOf (x : Nat) (w : World) : Calls Try.prog 22 #[.float .f32 x] w (fun e w' => ∃ r n, e = .returned (.float .f32 r) ∧ can .f32 r = sineW x ∧ w' = w.drewN n) := by
  go_enter Try.func22, Try.ntmps22
  go_wp2_with (go_at_call 75; refine (s_Sine _ _).mono ?_; rintro e w' ⟨r, n, rfl, h, rfl⟩)
  go_ret
  exact ⟨_, _, rfl, h, rfl⟩
set_option maxRecDepth 100000 in
set_option maxHeartbeats 2000000 in
theorem walk (a0 : Nat) (w : World) (w0 : fits .f32 a0) :
    Calls Try.prog 7 #[.float .f32 a0] w fun e w' => e = .returned (.bool true) ∧ Below w.heap.size w w' := by
  have F := Frm.nil w
  go_enter Try.func7, Try.ntmps7
  go_wp2_with (first | ((with_reducible refine at_convert rfl ?_); first | (with_reducible refine wpList_widen rfl rfl rfl Try.underlying26 Try.underlying70 ?_; intro s1 n1 h1 f1)) | (go_at_call 22; ((with_reducible refine (s_SineOf _ _).mono ?_); rintro e w1 ⟨r, n, rfl, hr, rfl⟩; replace hr := hid hr; replace F := F.drewN n)) | (go_at_call 21; ((with_reducible refine (i_Sine _ _).mono ?_); rintro e w2 ⟨q, rfl, hq, hb⟩; replace hq := hid hq; (first | replace F := F.le hb | replace F := (F.box _ _).le hb | replace F := ((F.box _ _).box _ _).le hb | replace F := (F.drewN _).le hb | replace F := ((F.box _ _).drewN _).le hb))) | (go_at_call 42; refine (sameFloat_yes _ _ _ (Eq.trans (Hid.out (by assumption)) ((congrArg (can .f64) (widen_congr (hq.out.trans hr.out.symm))).trans h1.out.symm))).mono ?_; rintro e w7 ⟨rfl, n7, rfl⟩; skip))
  go_ret
  first | exact ⟨rfl, F.below⟩ | exact ⟨rfl, below_drewN F.below _⟩
end Go.Proofs.Ytpfdegimnjbehaa.fnExactSineOf
