/- The walk of 'FnExactNextNoise'. -/
import Derived.Test.YtibggjgffheibaeNoise
namespace Go.Proofs.Ytibggjgffheibae.fnExactNextNoise
open Go.RowKit Go.Fk
theorem u32_range {a : Int} (h : (Lit.int .u32 a).wf = true) : 0 ≤ a ∧ a < 4294967296 := by
  simp [Lit.wf, IntKind.min, IntKind.max, IntKind.signed, IntKind.bits] at h; omega
theorem walk (a0 : Int) (w : World) (w0 : (Lit.int .u32 a0).wf = true) :
    Calls Try.prog 4 #[.int .u32 a0] w fun e w' => e = .returned (.bool true) ∧ Below w.heap.size w w' := by
  obtain ⟨h0, h1⟩ := u32_range w0
  clear w0
  go_enter Try.func4, Try.ntmps4
  go_wp2_with fail
  refine (s_NextNoise _ _ h0 h1).mono ?_
  rintro e w' ⟨g, n1, rfl, hg, _, rfl⟩
  have Hg := hid hg; clear hg
  go_wp2_with fail
  refine (i_NextNoise _ _ h0 h1).mono ?_
  rintro e w' ⟨h, n2, rfl, hh, _, rfl⟩
  have Hh := hid hh; clear hh
  go_wp2_with (with_reducible refine wpList_widen rfl rfl rfl Try.underlying22 Try.underlying29 ?_; intro r n hr hf)
  refine (sameFloat_yes _ _ _ ?_).mono ?_
  · have h1 := ‹Hid (can .f64 _ = can .f64 (widen h))›
    exact h1.out.trans ((congrArg (can .f64) (widen_congr (Hh.out.trans Hg.out.symm))).trans hr.out.symm)
  rintro e w5 ⟨rfl, n3, rfl⟩
  go_wp2
  go_ret
  exact ⟨rfl, below_drewN (Below.refl _ _) _⟩
end Go.Proofs.Ytibggjgffheibae.fnExactNextNoise
