/- The walk of 'FnExactReadBetween'. -/
import Derived.Test.YtaenbpkcehenkaaRingX
import Derived.Test.YtaenbpkcehenkaaOut
import Derived.Test.YtaenbpkcehenkaaSame
import Derived.Test.YtaenbpkcehenkaaGuard
import Derived.Test.YtaenbpkcehenkaaBetw
namespace Go.Proofs.Ytaenbpkcehenkaa.fnExactReadBetween
open Go.RowKit Go.Fk
set_option maxRecDepth 100000 in
set_option maxHeartbeats 4000000 in
theorem core (s0 : Value) (x0 : Nat → Nat) (n0 : Nat) (k0 : Int) (a1 : Nat) (ar0 : Nat) (ar1 : Int) (w : World) (z0 : RdS w w.heap.size s0 x0 n0) (hn0 : n0 ≤ 1048576) 
    (hS : ∀ (w : World) (B0 : Nat) (u0 : Value), RdS w B0 u0 x0 n0 → Calls Try.prog 29 #[.agg #[u0, .int .i64 k0], .float .f32 a1] w (Out_fi ar0 ar1 w))
    (hI : ∀ (w : World) (B0 : Nat) (u0 : Value), RdS w B0 u0 x0 n0 → Calls Try.prog 30 #[.agg #[u0, .int .i64 k0], .float .f32 a1] w (Out_fi ar0 ar1 w)) :
    Calls Try.prog 7 #[.agg #[s0, .int .i64 k0], .float .f32 a1] w fun e w' => e = .returned (.bool true) ∧ Below w.heap.size w w' := by
  have Z0 := hid z0; clear z0
  have hm0 : ¬ (1048576 : Int) - n0 < 0 := by omega
  have HS := hid hS; have HI := hid hI; clear hS hI
  have F := Frg.nil w
  replace F := F.box 24 (#[s0, .int .i64 k0])
  go_enter Try.func7, Try.ntmps7
  go_wp2_with (first | (((with_reducible refine listN F ?_); clear F; intro wN F)) | ((with_reducible refine at_loadU rfl rfl ?_); first | (with_reducible refine wpList_loadG F rfl rfl rfl (by first | exact m0 | exact m1 | exact m2 | exact m3 | exact m4 | exact m5 | exact m6 | exact m7 | exact m8) Try.underlying27 rfl infoRing (by first | rfl | simp [size_ftab]) ?_) | (with_reducible refine wpList_loadG F rfl rfl rfl (by first | exact m0 | exact m1 | exact m2 | exact m3 | exact m4 | exact m5 | exact m6 | exact m7 | exact m8) Try.underlying24 rfl infoRingL (by first | rfl | simp [size_ftab]) ?_)) | ((with_reducible refine at_loadV rfl rfl ?_); first | (with_reducible refine wpList_loadGG F rfl rfl (by first | exact m0 | exact m1 | exact m2 | exact m3 | exact m4 | exact m5 | exact m6 | exact m7 | exact m8) Try.underlying27 rfl infoRing (by first | rfl | simp [size_ftab]) (by kernel_rfl) ?_) | (with_reducible refine wpList_loadGG F rfl rfl (by first | exact m0 | exact m1 | exact m2 | exact m3 | exact m4 | exact m5 | exact m6 | exact m7 | exact m8) Try.underlying24 rfl infoRingL (by first | rfl | simp [size_ftab]) (by kernel_rfl) ?_)) | (go_at_call 15; ((with_reducible refine (szRingR_yes _ s0 x0 n0 k0 _ (Z0.out.le (by first | exact F.below)) hn0).mono ?_); rintro e w1 ⟨rfl, hb1⟩; (replace F := F.le hb1))) | (go_at_call 17; ((with_reducible refine (toRingR _ s0 x0 n0 k0 _ (Z0.out.le (by first | exact F.below)) hn0).mono ?_); rintro e w1 ⟨tA0, rfl, ho1, hl1⟩; have oc := hid (OwnS.one ho1); (first | replace F := F.own1 hl1 ho1); clear hl1 ho1)))
  first | ((with_reducible refine callAt0 F ?_); clear F; intro wN F) | ((with_reducible refine callAtN F ?_); clear F; intro wN F)
  refine (HS.out _ _ _ (by first | exact (F.own (by first | exact m0 | exact m1 | exact m2 | exact m3 | exact m4 | exact m5 | exact m6 | exact m7 | exact m8)).rd)).mono ?_
  rintro e wS ⟨vS0, rfl, cS0, hlS⟩
  replace cS0 := hid cS0
  (replace F := F.le hlS)
  go_wp2_with (first | (((with_reducible refine listN F ?_); clear F; intro wN F)) | ((with_reducible refine at_store rfl ?_); first | (refine wpList_storeG F rfl rfl rfl rfl rfl infoRing rfl (by first | exact one_head (Hid.out (by assumption)) rfl | (simp [Value.oneCell']; done)) ?_; clear F; intro W F zW; clear zW)) | ((with_reducible refine at_loadU rfl rfl ?_); first | (with_reducible refine wpList_loadG F rfl rfl rfl (by first | exact m0 | exact m1 | exact m2 | exact m3 | exact m4 | exact m5 | exact m6 | exact m7 | exact m8) Try.underlying27 rfl infoRing (by first | rfl | simp [size_ftab]) ?_) | (with_reducible refine wpList_loadG F rfl rfl rfl (by first | exact m0 | exact m1 | exact m2 | exact m3 | exact m4 | exact m5 | exact m6 | exact m7 | exact m8) Try.underlying24 rfl infoRingL (by first | rfl | simp [size_ftab]) ?_)) | ((with_reducible refine at_loadV rfl rfl ?_); first | (with_reducible refine wpList_loadGG F rfl rfl (by first | exact m0 | exact m1 | exact m2 | exact m3 | exact m4 | exact m5 | exact m6 | exact m7 | exact m8) Try.underlying27 rfl infoRing (by first | rfl | simp [size_ftab]) (by kernel_rfl) ?_) | (with_reducible refine wpList_loadGG F rfl rfl (by first | exact m0 | exact m1 | exact m2 | exact m3 | exact m4 | exact m5 | exact m6 | exact m7 | exact m8) Try.underlying24 rfl infoRingL (by first | rfl | simp [size_ftab]) (by kernel_rfl) ?_)) | (go_at_call 17; ((with_reducible refine (toRingR _ s0 x0 n0 k0 _ (Z0.out.le (by first | exact F.below)) hn0).mono ?_); rintro e w1 ⟨tB0, rfl, ho1, hl1⟩; have oc := hid (OwnS.one ho1); (first | replace F := F.own1 hl1 ho1); clear hl1 ho1)))
  first | ((with_reducible refine callAt0 F ?_); clear F; intro wN F) | ((with_reducible refine callAtN F ?_); clear F; intro wN F)
  refine (HI.out _ _ _ (by first | exact (F.own (by first | exact m0 | exact m1 | exact m2 | exact m3 | exact m4 | exact m5 | exact m6 | exact m7 | exact m8)).rd)).mono ?_
  rintro e wI ⟨vI0, rfl, cI0, hlI⟩
  replace cI0 := hid cI0
  (replace F := F.le hlI)
  go_wp2_with (first | (((with_reducible refine listN F ?_); clear F; intro wN F)) | ((with_reducible refine at_store rfl ?_); first | (refine wpList_storeG F rfl rfl rfl rfl rfl infoRing rfl (by first | exact one_head (Hid.out (by assumption)) rfl | (simp [Value.oneCell']; done)) ?_; clear F; intro W F zW; clear zW)) | ((with_reducible refine at_loadU rfl rfl ?_); first | (with_reducible refine wpList_loadG F rfl rfl rfl (by first | exact m0 | exact m1 | exact m2 | exact m3 | exact m4 | exact m5 | exact m6 | exact m7 | exact m8) Try.underlying27 rfl infoRing (by first | rfl | simp [size_ftab]) ?_) | (with_reducible refine wpList_loadG F rfl rfl rfl (by first | exact m0 | exact m1 | exact m2 | exact m3 | exact m4 | exact m5 | exact m6 | exact m7 | exact m8) Try.underlying24 rfl infoRingL (by first | rfl | simp [size_ftab]) ?_)) | ((with_reducible refine at_loadV rfl rfl ?_); first | (with_reducible refine wpList_loadGG F rfl rfl (by first | exact m0 | exact m1 | exact m2 | exact m3 | exact m4 | exact m5 | exact m6 | exact m7 | exact m8) Try.underlying27 rfl infoRing (by first | rfl | simp [size_ftab]) (by kernel_rfl) ?_) | (with_reducible refine wpList_loadGG F rfl rfl (by first | exact m0 | exact m1 | exact m2 | exact m3 | exact m4 | exact m5 | exact m6 | exact m7 | exact m8) Try.underlying24 rfl infoRingL (by first | rfl | simp [size_ftab]) (by kernel_rfl) ?_)) | ((with_reducible refine at_convert rfl ?_); first | (with_reducible refine wpList_widen rfl rfl rfl Try.underlying32 Try.underlying36 ?_; intro s1 n1 h1 f1) | (with_reducible refine wpList_widenG rfl rfl Try.underlying32 Try.underlying36 (by kernel_rfl) ?_; intro s1 n1 h1 f1)) | (go_at_call 24; ((with_reducible refine (sameFloat_yes _ _ _ (by exact ((Hid.out ‹Hid (can .f64 _ = can .f64 (widen vI0))›).trans ((congrArg (can .f64) (widen_congr (cI0.out.trans cS0.out.symm))).trans (Hid.out ‹Hid (can .f64 _ = can .f64 (widen vS0))›).symm)))).mono ?_); rintro e w7 ⟨rfl, dq7, rfl⟩; skip)))
  first | (refine wpAt0 F ?_; clear F; intro wN F) | (refine wpAtN F ?_; clear F; intro wN F)
  refine region_freeD (E := leX) (fun f _ w v => if f = 17 then ∃ (s' : Value) (B : Nat), v = .agg #[s', .int .i64 k0] ∧ RdS w B s' x0 n0 else v = .bool true) (by kernel_rfl) (by kernel_rfl) ?_
  refine wpFreeD_loadG F rfl rfl rfl rfl (by first | exact m0 | exact m1 | exact m2 | exact m3 | exact m4 | exact m5 | exact m6 | exact m7 | exact m8) Try.underlying27 rfl infoRing rfl ?_
  simp only [Act.put, List.setIfInBounds_toArray, List.set_cons_succ, List.set_cons_zero]
  refine wpFreeD_loadG F rfl rfl rfl rfl (by first | exact m0 | exact m1 | exact m2 | exact m3 | exact m4 | exact m5 | exact m6 | exact m7 | exact m8) Try.underlying24 rfl infoRingL rfl ?_
  simp only [Act.put, List.setIfInBounds_toArray, List.set_cons_succ, List.set_cons_zero]
  refine wpFreeD_callB rfl rfl Try.func17 (by kernel_rfl) (by kernel_rfl) (args := #[.agg #[s0, .int .i64 k0]]) (by simp [Act.eval]) (fun v w1 w2 hw hv => by simp only [if_true] at hv ⊢; obtain ⟨u, B, h1, h2⟩ := hv; exact ⟨u, B, h1, h2.le hw⟩) (fun w1 hw1 _ => (toRingR _ s0 x0 n0 k0 w1 (Z0.out.le (le_trans (F.drewN _).below hw1)) hn0).mono ?_) ?_
  · rintro e w2 ⟨u, rfl, ho, hl⟩
    exact ⟨_, rfl, hl, by simp only [if_true]; exact ⟨u, _, rfl, ho.rd⟩⟩
  rintro v ⟨_, _, _, hv⟩
  simp only [if_true] at hv
  obtain ⟨u0, Bu0, rfl, _⟩ := hv
  simp only [Act.put, List.setIfInBounds_toArray, List.set_cons_succ, List.set_cons_zero]
  refine wpFreeD_callB rfl rfl Try.func19 (by kernel_rfl) (by kernel_rfl) (args := #[.agg #[tB0, .int .i64 k0], .agg #[u0, .int .i64 k0]]) (by simp [Act.eval]) (fun v w1 w2 hw hv => by simp only [show ¬ (19 = 17) by decide, if_false] at hv ⊢; exact hv) (fun w1 hw1 hbe => ?_) ?_
  · have hk := (hbe ⟨2, Ground.data⟩ (by simp) (by kernel_rfl)).2 rfl
    simp only [if_true] at hk
    obtain ⟨u', B', he, hr⟩ := hk
    obtain rfl : u0 = u' := by simpa using he
    refine (eqRingR _ _ _ _ x0 n0 k0 _ hn0 (((F.drewN 1).le hw1).own (by first | exact m0 | exact m1 | exact m2 | exact m3 | exact m4 | exact m5 | exact m6 | exact m7 | exact m8)).rd hr).mono ?_
    rintro e w2 ⟨rfl, hl⟩
    exact ⟨_, rfl, hl, by simp only [show ¬ (19 = 17) by decide, if_false]⟩
  rintro v ⟨_, _, _, hv⟩
  simp only [show ¬ (19 = 17) by decide, if_false] at hv
  subst hv
  simp only [Act.put, List.setIfInBounds_toArray, List.set_cons_succ, List.set_cons_zero]
  refine wpFreeD_one rfl (.bool false) (fun w1 _ => by kernel_rfl) ?_
  simp only [Act.put, List.setIfInBounds_toArray, List.set_cons_succ, List.set_cons_zero]
  refine wpFreeD_nil (fun wR hwR _ => ?_)
  replace F := (F.drewN 1).le hwR
  clear hwR
  go_wp2_with (first | (((with_reducible refine listN F ?_); clear F; intro wN F)) | ((with_reducible refine at_loadU rfl rfl ?_); first | (with_reducible refine wpList_loadG F rfl rfl rfl (by first | exact m0 | exact m1 | exact m2 | exact m3 | exact m4 | exact m5 | exact m6 | exact m7 | exact m8) Try.underlying27 rfl infoRing (by first | rfl | simp [size_ftab]) ?_) | (with_reducible refine wpList_loadG F rfl rfl rfl (by first | exact m0 | exact m1 | exact m2 | exact m3 | exact m4 | exact m5 | exact m6 | exact m7 | exact m8) Try.underlying24 rfl infoRingL (by first | rfl | simp [size_ftab]) ?_)) | ((with_reducible refine at_loadV rfl rfl ?_); first | (with_reducible refine wpList_loadGG F rfl rfl (by first | exact m0 | exact m1 | exact m2 | exact m3 | exact m4 | exact m5 | exact m6 | exact m7 | exact m8) Try.underlying27 rfl infoRing (by first | rfl | simp [size_ftab]) (by kernel_rfl) ?_) | (with_reducible refine wpList_loadGG F rfl rfl (by first | exact m0 | exact m1 | exact m2 | exact m3 | exact m4 | exact m5 | exact m6 | exact m7 | exact m8) Try.underlying24 rfl infoRingL (by first | rfl | simp [size_ftab]) (by kernel_rfl) ?_)))
  go_ret
  first | exact ⟨rfl, F.below⟩ | exact ⟨rfl, below_drewN F.below _⟩
set_option maxRecDepth 100000 in
set_option maxHeartbeats 2000000 in
theorem large0 (s0 : Value) (x0 : Nat → Nat) (n0 : Nat) (k0 : Int) (a1 : Nat) (w : World) (z0 : RdS w w.heap.size s0 x0 n0)  (hl : ¬ n0 ≤ 1048576) :
    Calls Try.prog 7 #[.agg #[s0, .int .i64 k0], .float .f32 a1] w fun e w' => e = .returned (.bool true) ∧ Below w.heap.size w w' := by
  have Z0 := hid z0; have hs0 := z0.small; clear z0
  have F := Frg.nil w
  replace F := F.box 24 (#[s0, .int .i64 k0])
  go_enter Try.func7, Try.ntmps7
  go_wp2_with (first | (((with_reducible refine listN F ?_); clear F; intro wN F)) | ((with_reducible refine at_loadU rfl rfl ?_); first | (with_reducible refine wpList_loadG F rfl rfl rfl (by first | exact m0 | exact m1 | exact m2 | exact m3 | exact m4 | exact m5 | exact m6 | exact m7 | exact m8) Try.underlying27 rfl infoRing (by first | rfl | simp [size_ftab]) ?_) | (with_reducible refine wpList_loadG F rfl rfl rfl (by first | exact m0 | exact m1 | exact m2 | exact m3 | exact m4 | exact m5 | exact m6 | exact m7 | exact m8) Try.underlying24 rfl infoRingL (by first | rfl | simp [size_ftab]) ?_)) | ((with_reducible refine at_loadV rfl rfl ?_); first | (with_reducible refine wpList_loadGG F rfl rfl (by first | exact m0 | exact m1 | exact m2 | exact m3 | exact m4 | exact m5 | exact m6 | exact m7 | exact m8) Try.underlying27 rfl infoRing (by first | rfl | simp [size_ftab]) (by kernel_rfl) ?_) | (with_reducible refine wpList_loadGG F rfl rfl (by first | exact m0 | exact m1 | exact m2 | exact m3 | exact m4 | exact m5 | exact m6 | exact m7 | exact m8) Try.underlying24 rfl infoRingL (by first | rfl | simp [size_ftab]) (by kernel_rfl) ?_)) | (go_at_call 15; ((with_reducible refine (szRingRM_no _ s0 x0 n0 k0 (1048576 : Int) _ (Z0.out.le (by first | exact F.below)) (by omega) (by omega) (by omega)).mono ?_); rintro e w1 ⟨rfl, hb1⟩; (replace F := F.le hb1))))
  go_ret
  first | exact ⟨rfl, F.below⟩ | exact ⟨rfl, below_drewN F.below _⟩
theorem walk (s0 : Value) (y0 : Nat → Nat) (n0 : Nat) (k0 : Int) (a1 : Nat) (w : World) (w0 : (Lit.int .i64 k0).wf = true) (z0 : SlIn w s0 y0 n0) (w1 : fits .f32 a1) :
    Calls Try.prog 7 #[.agg #[s0, .int .i64 k0], .float .f32 a1] w fun e w' => e = .returned (.bool true) ∧ Below w.heap.size w w' := by
  by_cases h0 : n0 ≤ 1048576
  · skip
    obtain ⟨ar0, ar1, hS, hI⟩ := both_ReadBetween (fun i => can .f32 (y0 i)) n0 k0 a1 w0
    exact core s0 (fun i => can .f32 (y0 i)) n0 k0 a1 ar0 ar1 w z0.rd (by omega)  hS hI
  · exact large0 s0 (fun i => can .f32 (y0 i)) n0 k0 a1 w z0.rd  h0
end Go.Proofs.Ytaenbpkcehenkaa.fnExactReadBetween
