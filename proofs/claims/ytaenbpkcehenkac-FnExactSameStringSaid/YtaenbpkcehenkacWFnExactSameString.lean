/- The walk of 'FnExactSameString'. -/
import Derived.Test.YtaenbpkcehenkacHStr
import Derived.Test.YtaenbpkcehenkacRingX
import Derived.Test.YtaenbpkcehenkacOut
import Derived.Test.YtaenbpkcehenkacSame
import Derived.Test.YtaenbpkcehenkacGuard
import Derived.Test.YtaenbpkcehenkacStrV
import Derived.Test.YtaenbpkcehenkacStrE
namespace Go.Proofs.Ytaenbpkcehenkac.fnExactSameString
open Go.RowKit Go.Fk
set_option maxRecDepth 100000 in
set_option maxHeartbeats 4000000 in
theorem core (s0 : Value) (x0 : Nat → Nat) (n0 : Nat) (k0 : Int) (tk0 : Int) (ta0 : Nat) (tb0 : Nat) (tc0 : Nat) (tx0 : Nat) (ty0 : Nat) (dk0 : Int) (da0 : Nat) (db0 : Nat) (dc0 : Nat) (dx0 : Nat) (dy0 : Nat) (l0 : Nat) (s1 : Value) (x1 : Nat → Nat) (n1 : Nat) (k1 : Int) (tk1 : Int) (ta1 : Nat) (tb1 : Nat) (tc1 : Nat) (tx1 : Nat) (ty1 : Nat) (dk1 : Int) (da1 : Nat) (db1 : Nat) (dc1 : Nat) (dx1 : Nat) (dy1 : Nat) (l1 : Nat) (ar0 : Bool) (w : World) (z0 : RdS w w.heap.size s0 x0 n0) (hn0 : n0 ≤ 1048576) (z1 : RdS w w.heap.size s1 x1 n1) (hn1 : n1 ≤ 1048576) (hsum : n0 + n1 ≤ 1048576) 
    (hS : ∀ (w : World) (B0 : Nat) (u0 : Value) (B1 : Nat) (u1 : Value), RdS w B0 u0 x0 n0 → RdS w B1 u1 x1 n1 → Calls Try.prog 24 #[.agg #[u0, .int .i64 k0, .int .i64 tk0, .float .f32 ta0, .float .f32 tb0, .float .f32 tc0, .float .f32 tx0, .float .f32 ty0, .int .i64 dk0, .float .f32 da0, .float .f32 db0, .float .f32 dc0, .float .f32 dx0, .float .f32 dy0, .float .f32 l0], .agg #[u1, .int .i64 k1, .int .i64 tk1, .float .f32 ta1, .float .f32 tb1, .float .f32 tc1, .float .f32 tx1, .float .f32 ty1, .int .i64 dk1, .float .f32 da1, .float .f32 db1, .float .f32 dc1, .float .f32 dx1, .float .f32 dy1, .float .f32 l1]] w (Out_b ar0 w))
    (hI : ∀ (w : World) (B0 : Nat) (u0 : Value) (B1 : Nat) (u1 : Value), RdS w B0 u0 x0 n0 → RdS w B1 u1 x1 n1 → Calls Try.prog 25 #[.agg #[u0, .int .i64 k0, .int .i64 tk0, .float .f32 ta0, .float .f32 tb0, .float .f32 tc0, .float .f32 tx0, .float .f32 ty0, .int .i64 dk0, .float .f32 da0, .float .f32 db0, .float .f32 dc0, .float .f32 dx0, .float .f32 dy0, .float .f32 l0], .agg #[u1, .int .i64 k1, .int .i64 tk1, .float .f32 ta1, .float .f32 tb1, .float .f32 tc1, .float .f32 tx1, .float .f32 ty1, .int .i64 dk1, .float .f32 da1, .float .f32 db1, .float .f32 dc1, .float .f32 dx1, .float .f32 dy1, .float .f32 l1]] w (Out_b ar0 w)) :
    Calls Try.prog 5 #[.agg #[s0, .int .i64 k0, .int .i64 tk0, .float .f32 ta0, .float .f32 tb0, .float .f32 tc0, .float .f32 tx0, .float .f32 ty0, .int .i64 dk0, .float .f32 da0, .float .f32 db0, .float .f32 dc0, .float .f32 dx0, .float .f32 dy0, .float .f32 l0], .agg #[s1, .int .i64 k1, .int .i64 tk1, .float .f32 ta1, .float .f32 tb1, .float .f32 tc1, .float .f32 tx1, .float .f32 ty1, .int .i64 dk1, .float .f32 da1, .float .f32 db1, .float .f32 dc1, .float .f32 dx1, .float .f32 dy1, .float .f32 l1]] w fun e w' => e = .returned (.bool true) ∧ Below w.heap.size w w' := by
  have Z0 := hid z0; clear z0
  have hm0 : ¬ (1048576 : Int) - n0 < 0 := by omega
  have Z1 := hid z1; clear z1
  have hm1 : ¬ ((1048576 : Int) - n0) - n1 < 0 := by omega
  have HS := hid hS; have HI := hid hI; clear hS hI
  have F := Frg.nil w
  replace F := F.box 40 (#[s0, .int .i64 k0, .int .i64 tk0, .float .f32 ta0, .float .f32 tb0, .float .f32 tc0, .float .f32 tx0, .float .f32 ty0, .int .i64 dk0, .float .f32 da0, .float .f32 db0, .float .f32 dc0, .float .f32 dx0, .float .f32 dy0, .float .f32 l0])
  replace F := F.box 40 (#[s1, .int .i64 k1, .int .i64 tk1, .float .f32 ta1, .float .f32 tb1, .float .f32 tc1, .float .f32 tx1, .float .f32 ty1, .int .i64 dk1, .float .f32 da1, .float .f32 db1, .float .f32 dc1, .float .f32 dx1, .float .f32 dy1, .float .f32 l1])
  simp only [World.size_alloc] at F
  go_enter Try.func5, Try.ntmps5
  go_wp2_with (first | (((with_reducible refine listN F ?_); clear F; intro wN F)) | ((with_reducible refine at_loadU rfl rfl ?_); first | (with_reducible refine wpList_loadG F rfl rfl rfl (by first | exact m0 | exact m1 | exact m2 | exact m3 | exact m4 | exact m5 | exact m6 | exact m7 | exact m8) Try.underlying31 rfl infoStr (by first | rfl | simp [size_ftab]) ?_) | (with_reducible refine wpList_loadG F rfl rfl rfl (by first | exact m0 | exact m1 | exact m2 | exact m3 | exact m4 | exact m5 | exact m6 | exact m7 | exact m8) Try.underlying40 rfl infoStrL (by first | rfl | simp [size_ftab]) ?_)) | ((with_reducible refine at_loadV rfl rfl ?_); first | (with_reducible refine wpList_loadGG F rfl rfl (by first | exact m0 | exact m1 | exact m2 | exact m3 | exact m4 | exact m5 | exact m6 | exact m7 | exact m8) Try.underlying31 rfl infoStr (by first | rfl | simp [size_ftab]) (by kernel_rfl) ?_) | (with_reducible refine wpList_loadGG F rfl rfl (by first | exact m0 | exact m1 | exact m2 | exact m3 | exact m4 | exact m5 | exact m6 | exact m7 | exact m8) Try.underlying40 rfl infoStrL (by first | rfl | simp [size_ftab]) (by kernel_rfl) ?_)) | (go_at_call 20; ((with_reducible refine (szStringRM_yes _ s0 x0 n0 k0 tk0 ta0 tb0 tc0 tx0 ty0 dk0 da0 db0 dc0 dx0 dy0 l0 (1048576 : Int) _ (Z0.out.le (by first | exact F.below)) (by omega) (by omega) (by omega)).mono ?_); rintro e w1 ⟨rfl, hb1⟩; (replace F := F.le hb1))) | (go_at_call 20; ((with_reducible refine (szStringRM_yes _ s1 x1 n1 k1 tk1 ta1 tb1 tc1 tx1 ty1 dk1 da1 db1 dc1 dx1 dy1 l1 ((1048576 : Int) - n0) _ (Z1.out.le (by first | exact F.below)) (by omega) (by omega) (by omega)).mono ?_); rintro e w1 ⟨rfl, hb1⟩; (replace F := F.le hb1))))
  first | (refine wpAt0 F ?_; clear F; intro wN F) | (refine wpAtN F ?_; clear F; intro wN F)
  refine region_freeD (E := leX) (fun f args w v => if f = 22 then KStr wN args w v else v = .bool ar0) (by kernel_rfl) (by kernel_rfl) ?_
  refine wpFreeD_loadG F rfl rfl rfl rfl (by first | exact m0 | exact m1 | exact m2 | exact m3 | exact m4 | exact m5 | exact m6 | exact m7 | exact m8) Try.underlying40 rfl infoStrL rfl ?_
  simp only [Act.put, List.setIfInBounds_toArray, List.set_cons_succ, List.set_cons_zero]
  refine wpFreeD_callB rfl rfl Try.func22 (by kernel_rfl) (by kernel_rfl) (args := #[.agg #[s0, .int .i64 k0, .int .i64 tk0, .float .f32 ta0, .float .f32 tb0, .float .f32 tc0, .float .f32 tx0, .float .f32 ty0, .int .i64 dk0, .float .f32 da0, .float .f32 db0, .float .f32 dc0, .float .f32 dx0, .float .f32 dy0, .float .f32 l0]]) (by simp [Act.eval]) (fun v w1 w2 hw hv => by simp only [if_true] at hv ⊢; exact hv.le hw) (fun w1 hw1 _ => (toStringK wN _ s0 x0 n0 k0 tk0 ta0 tb0 tc0 tx0 ty0 dk0 da0 db0 dc0 dx0 dy0 l0 w1 (le_trans (le_drewN _ _) hw1) (Z0.out.le F.below) hn0).mono ?_) ?_
  · rintro e w2 ⟨v, rfl, hl, hk⟩
    exact ⟨_, rfl, hl, by simp only [if_true]; exact hk⟩
  rintro v ⟨_, _, _, hv⟩
  simp only [if_true] at hv
  obtain ⟨u0, Bu0, rfl, _⟩ := hv _ _ _ _ _ _ _ _ _ _ _ _ _ _ _ _ _ _ rfl (Z0.out.le F.below)
  simp only [Act.put, List.setIfInBounds_toArray, List.set_cons_succ, List.set_cons_zero]
  refine wpFreeD_loadG F rfl rfl rfl rfl (by first | exact m0 | exact m1 | exact m2 | exact m3 | exact m4 | exact m5 | exact m6 | exact m7 | exact m8) Try.underlying40 rfl infoStrL rfl ?_
  simp only [Act.put, List.setIfInBounds_toArray, List.set_cons_succ, List.set_cons_zero]
  refine wpFreeD_callB rfl rfl Try.func22 (by kernel_rfl) (by kernel_rfl) (args := #[.agg #[s1, .int .i64 k1, .int .i64 tk1, .float .f32 ta1, .float .f32 tb1, .float .f32 tc1, .float .f32 tx1, .float .f32 ty1, .int .i64 dk1, .float .f32 da1, .float .f32 db1, .float .f32 dc1, .float .f32 dx1, .float .f32 dy1, .float .f32 l1]]) (by simp [Act.eval]) (fun v w1 w2 hw hv => by simp only [if_true] at hv ⊢; exact hv.le hw) (fun w1 hw1 _ => (toStringK wN _ s1 x1 n1 k1 tk1 ta1 tb1 tc1 tx1 ty1 dk1 da1 db1 dc1 dx1 dy1 l1 w1 (le_trans (le_drewN _ _) hw1) (Z1.out.le F.below) hn1).mono ?_) ?_
  · rintro e w2 ⟨v, rfl, hl, hk⟩
    exact ⟨_, rfl, hl, by simp only [if_true]; exact hk⟩
  rintro v ⟨_, _, _, hv⟩
  simp only [if_true] at hv
  obtain ⟨u1, Bu1, rfl, _⟩ := hv _ _ _ _ _ _ _ _ _ _ _ _ _ _ _ _ _ _ rfl (Z1.out.le F.below)
  simp only [Act.put, List.setIfInBounds_toArray, List.set_cons_succ, List.set_cons_zero]
  refine wpFreeD_callB rfl rfl Try.func24 (by kernel_rfl) (by kernel_rfl) (args := #[.agg #[u0, .int .i64 k0, .int .i64 tk0, .float .f32 ta0, .float .f32 tb0, .float .f32 tc0, .float .f32 tx0, .float .f32 ty0, .int .i64 dk0, .float .f32 da0, .float .f32 db0, .float .f32 dc0, .float .f32 dx0, .float .f32 dy0, .float .f32 l0], .agg #[u1, .int .i64 k1, .int .i64 tk1, .float .f32 ta1, .float .f32 tb1, .float .f32 tc1, .float .f32 tx1, .float .f32 ty1, .int .i64 dk1, .float .f32 da1, .float .f32 db1, .float .f32 dc1, .float .f32 dx1, .float .f32 dy1, .float .f32 l1]]) (by simp [Act.eval]) (fun v w1 w2 hw hv => by simp only [show ¬ (24 = 22) by decide, if_false] at hv ⊢; exact hv) (fun w1 hw1 hbe => ?_) ?_
  · skip
    have hk0 := (hbe ⟨1, Ground.data⟩ (by simp) (by kernel_rfl)).1.1.2 rfl
    simp only [if_true] at hk0
    obtain ⟨v0, B0, he0, hr0⟩ := hk0 _ _ _ _ _ _ _ _ _ _ _ _ _ _ _ _ _ _ rfl (Z0.out.le F.below)
    obtain rfl : u0 = v0 := by simpa using he0
    have hk1 := (hbe ⟨3, Ground.data⟩ (by simp) (by kernel_rfl)).2 rfl
    simp only [if_true] at hk1
    obtain ⟨v1, B1, he1, hr1⟩ := hk1 _ _ _ _ _ _ _ _ _ _ _ _ _ _ _ _ _ _ rfl (Z1.out.le F.below)
    obtain rfl : u1 = v1 := by simpa using he1
    refine (HS.out _ _ _ _ _ hr0 hr1).mono ?_
    rintro e w2 ⟨rfl, hl⟩
    exact ⟨_, rfl, hl, by simp only [show ¬ (24 = 22) by decide, if_false]⟩
  rintro v ⟨_, _, _, hv⟩
  simp only [show ¬ (24 = 22) by decide, if_false] at hv
  subst hv
  simp only [Act.put, List.setIfInBounds_toArray, List.set_cons_succ, List.set_cons_zero]
  refine wpFreeD_one rfl (.bool ar0) (fun w1 _ => by kernel_rfl) ?_
  simp only [Act.put, List.setIfInBounds_toArray, List.set_cons_succ, List.set_cons_zero]
  refine wpFreeD_nil (fun wR hwR _ => ?_)
  replace F := (F.drewN 1).le hwR
  clear hwR
  go_wp2_with (first | (((with_reducible refine listN F ?_); clear F; intro wN F)) | ((with_reducible refine at_store rfl ?_); first | (refine wpList_storeG F rfl rfl rfl rfl rfl infoStr rfl (by first | exact one_head (Hid.out (by assumption)) rfl | (simp [Value.oneCell']; done)) ?_; clear F; intro W F zW; clear zW)) | ((with_reducible refine at_loadU rfl rfl ?_); first | (with_reducible refine wpList_loadG F rfl rfl rfl (by first | exact m0 | exact m1 | exact m2 | exact m3 | exact m4 | exact m5 | exact m6 | exact m7 | exact m8) Try.underlying31 rfl infoStr (by first | rfl | simp [size_ftab]) ?_) | (with_reducible refine wpList_loadG F rfl rfl rfl (by first | exact m0 | exact m1 | exact m2 | exact m3 | exact m4 | exact m5 | exact m6 | exact m7 | exact m8) Try.underlying40 rfl infoStrL (by first | rfl | simp [size_ftab]) ?_)) | ((with_reducible refine at_loadV rfl rfl ?_); first | (with_reducible refine wpList_loadGG F rfl rfl (by first | exact m0 | exact m1 | exact m2 | exact m3 | exact m4 | exact m5 | exact m6 | exact m7 | exact m8) Try.underlying31 rfl infoStr (by first | rfl | simp [size_ftab]) (by kernel_rfl) ?_) | (with_reducible refine wpList_loadGG F rfl rfl (by first | exact m0 | exact m1 | exact m2 | exact m3 | exact m4 | exact m5 | exact m6 | exact m7 | exact m8) Try.underlying40 rfl infoStrL (by first | rfl | simp [size_ftab]) (by kernel_rfl) ?_)) | (go_at_call 22; ((with_reducible refine (toStringR _ s0 x0 n0 k0 tk0 ta0 tb0 tc0 tx0 ty0 dk0 da0 db0 dc0 dx0 dy0 l0 _ (Z0.out.le (by first | exact F.below)) hn0).mono ?_); rintro e w1 ⟨tB0, rfl, ho1, hl1⟩; have oc := hid (OwnS.one ho1); (first | replace F := F.own1 hl1 ho1); clear hl1 ho1)) | (go_at_call 22; ((with_reducible refine (toStringR _ s1 x1 n1 k1 tk1 ta1 tb1 tc1 tx1 ty1 dk1 da1 db1 dc1 dx1 dy1 l1 _ (Z1.out.le (by first | exact F.below)) hn1).mono ?_); rintro e w1 ⟨tB1, rfl, ho1, hl1⟩; have oc := hid (OwnS.one ho1); (first | replace F := F.own1 hl1 ho1); clear hl1 ho1)))
  first | ((with_reducible refine callAt0 F ?_); clear F; intro wN F) | ((with_reducible refine callAtN F ?_); clear F; intro wN F)
  refine (HI.out _ _ _ _ _ (by first | exact (F.own (by first | exact m0 | exact m1 | exact m2 | exact m3 | exact m4 | exact m5 | exact m6 | exact m7 | exact m8)).rd) (by first | exact (F.own (by first | exact m0 | exact m1 | exact m2 | exact m3 | exact m4 | exact m5 | exact m6 | exact m7 | exact m8)).rd)).mono ?_
  rintro e wI ⟨rfl, hlI⟩
  (replace F := F.le hlI)
  go_wp2_with (first | (((with_reducible refine listN F ?_); clear F; intro wN F)) | ((with_reducible refine at_store rfl ?_); first | (refine wpList_storeG F rfl rfl rfl rfl rfl infoStr rfl (by first | exact one_head (Hid.out (by assumption)) rfl | (simp [Value.oneCell']; done)) ?_; clear F; intro W F zW; clear zW)) | ((with_reducible refine at_loadU rfl rfl ?_); first | (with_reducible refine wpList_loadG F rfl rfl rfl (by first | exact m0 | exact m1 | exact m2 | exact m3 | exact m4 | exact m5 | exact m6 | exact m7 | exact m8) Try.underlying31 rfl infoStr (by first | rfl | simp [size_ftab]) ?_) | (with_reducible refine wpList_loadG F rfl rfl rfl (by first | exact m0 | exact m1 | exact m2 | exact m3 | exact m4 | exact m5 | exact m6 | exact m7 | exact m8) Try.underlying40 rfl infoStrL (by first | rfl | simp [size_ftab]) ?_)) | ((with_reducible refine at_loadV rfl rfl ?_); first | (with_reducible refine wpList_loadGG F rfl rfl (by first | exact m0 | exact m1 | exact m2 | exact m3 | exact m4 | exact m5 | exact m6 | exact m7 | exact m8) Try.underlying31 rfl infoStr (by first | rfl | simp [size_ftab]) (by kernel_rfl) ?_) | (with_reducible refine wpList_loadGG F rfl rfl (by first | exact m0 | exact m1 | exact m2 | exact m3 | exact m4 | exact m5 | exact m6 | exact m7 | exact m8) Try.underlying40 rfl infoStrL (by first | rfl | simp [size_ftab]) (by kernel_rfl) ?_)))
  first | (refine wpAt0 F ?_; clear F; intro wN F) | (refine wpAtN F ?_; clear F; intro wN F)
  refine region_freeD (E := leX) (fun f _ w v => if f = 22 then ∃ (s' : Value) (B : Nat), v = .agg #[s', .int .i64 k0, .int .i64 tk0, .float .f32 ta0, .float .f32 tb0, .float .f32 tc0, .float .f32 tx0, .float .f32 ty0, .int .i64 dk0, .float .f32 da0, .float .f32 db0, .float .f32 dc0, .float .f32 dx0, .float .f32 dy0, .float .f32 l0] ∧ RdS w B s' x0 n0 else v = .bool true) (by kernel_rfl) (by kernel_rfl) ?_
  refine wpFreeD_loadG F rfl rfl rfl rfl (by first | exact m0 | exact m1 | exact m2 | exact m3 | exact m4 | exact m5 | exact m6 | exact m7 | exact m8) Try.underlying31 rfl infoStr rfl ?_
  simp only [Act.put, List.setIfInBounds_toArray, List.set_cons_succ, List.set_cons_zero]
  refine wpFreeD_loadG F rfl rfl rfl rfl (by first | exact m0 | exact m1 | exact m2 | exact m3 | exact m4 | exact m5 | exact m6 | exact m7 | exact m8) Try.underlying40 rfl infoStrL rfl ?_
  simp only [Act.put, List.setIfInBounds_toArray, List.set_cons_succ, List.set_cons_zero]
  refine wpFreeD_callB rfl rfl Try.func22 (by kernel_rfl) (by kernel_rfl) (args := #[.agg #[s0, .int .i64 k0, .int .i64 tk0, .float .f32 ta0, .float .f32 tb0, .float .f32 tc0, .float .f32 tx0, .float .f32 ty0, .int .i64 dk0, .float .f32 da0, .float .f32 db0, .float .f32 dc0, .float .f32 dx0, .float .f32 dy0, .float .f32 l0]]) (by simp [Act.eval]) (fun v w1 w2 hw hv => by simp only [if_true] at hv ⊢; obtain ⟨u, B, h1, h2⟩ := hv; exact ⟨u, B, h1, h2.le hw⟩) (fun w1 hw1 _ => (toStringR _ s0 x0 n0 k0 tk0 ta0 tb0 tc0 tx0 ty0 dk0 da0 db0 dc0 dx0 dy0 l0 w1 (Z0.out.le (le_trans (F.drewN _).below hw1)) hn0).mono ?_) ?_
  · rintro e w2 ⟨u, rfl, ho, hl⟩
    exact ⟨_, rfl, hl, by simp only [if_true]; exact ⟨u, _, rfl, ho.rd⟩⟩
  rintro v ⟨_, _, _, hv⟩
  simp only [if_true] at hv
  obtain ⟨u0, Bu0, rfl, _⟩ := hv
  simp only [Act.put, List.setIfInBounds_toArray, List.set_cons_succ, List.set_cons_zero]
  refine wpFreeD_callB rfl rfl Try.func17 (by kernel_rfl) (by kernel_rfl) (args := #[.agg #[tB0, .int .i64 k0, .int .i64 tk0, .float .f32 ta0, .float .f32 tb0, .float .f32 tc0, .float .f32 tx0, .float .f32 ty0, .int .i64 dk0, .float .f32 da0, .float .f32 db0, .float .f32 dc0, .float .f32 dx0, .float .f32 dy0, .float .f32 l0], .agg #[u0, .int .i64 k0, .int .i64 tk0, .float .f32 ta0, .float .f32 tb0, .float .f32 tc0, .float .f32 tx0, .float .f32 ty0, .int .i64 dk0, .float .f32 da0, .float .f32 db0, .float .f32 dc0, .float .f32 dx0, .float .f32 dy0, .float .f32 l0]]) (by simp [Act.eval]) (fun v w1 w2 hw hv => by simp only [show ¬ (17 = 22) by decide, if_false] at hv ⊢; exact hv) (fun w1 hw1 hbe => ?_) ?_
  · have hk := (hbe ⟨2, Ground.data⟩ (by simp) (by kernel_rfl)).2 rfl
    simp only [if_true] at hk
    obtain ⟨u', B', he, hr⟩ := hk
    obtain rfl : u0 = u' := by simpa using he
    refine (eqStringR _ _ _ _ x0 n0 k0 tk0 ta0 tb0 tc0 tx0 ty0 dk0 da0 db0 dc0 dx0 dy0 l0 _ hn0 (((F.drewN 1).le hw1).own (by first | exact m0 | exact m1 | exact m2 | exact m3 | exact m4 | exact m5 | exact m6 | exact m7 | exact m8)).rd hr).mono ?_
    rintro e w2 ⟨rfl, hl⟩
    exact ⟨_, rfl, hl, by simp only [show ¬ (17 = 22) by decide, if_false]⟩
  rintro v ⟨_, _, _, hv⟩
  simp only [show ¬ (17 = 22) by decide, if_false] at hv
  subst hv
  simp only [Act.put, List.setIfInBounds_toArray, List.set_cons_succ, List.set_cons_zero]
  refine wpFreeD_one rfl (.bool false) (fun w1 _ => by kernel_rfl) ?_
  simp only [Act.put, List.setIfInBounds_toArray, List.set_cons_succ, List.set_cons_zero]
  refine wpFreeD_nil (fun wR hwR _ => ?_)
  replace F := (F.drewN 1).le hwR
  clear hwR
  go_wp2_with (first | (((with_reducible refine listN F ?_); clear F; intro wN F)) | ((with_reducible refine at_loadU rfl rfl ?_); first | (with_reducible refine wpList_loadG F rfl rfl rfl (by first | exact m0 | exact m1 | exact m2 | exact m3 | exact m4 | exact m5 | exact m6 | exact m7 | exact m8) Try.underlying31 rfl infoStr (by first | rfl | simp [size_ftab]) ?_) | (with_reducible refine wpList_loadG F rfl rfl rfl (by first | exact m0 | exact m1 | exact m2 | exact m3 | exact m4 | exact m5 | exact m6 | exact m7 | exact m8) Try.underlying40 rfl infoStrL (by first | rfl | simp [size_ftab]) ?_)) | ((with_reducible refine at_loadV rfl rfl ?_); first | (with_reducible refine wpList_loadGG F rfl rfl (by first | exact m0 | exact m1 | exact m2 | exact m3 | exact m4 | exact m5 | exact m6 | exact m7 | exact m8) Try.underlying31 rfl infoStr (by first | rfl | simp [size_ftab]) (by kernel_rfl) ?_) | (with_reducible refine wpList_loadGG F rfl rfl (by first | exact m0 | exact m1 | exact m2 | exact m3 | exact m4 | exact m5 | exact m6 | exact m7 | exact m8) Try.underlying40 rfl infoStrL (by first | rfl | simp [size_ftab]) (by kernel_rfl) ?_)))
  first | (refine wpAt0 F ?_; clear F; intro wN F) | (refine wpAtN F ?_; clear F; intro wN F)
  refine region_freeD (E := leX) (fun f _ w v => if f = 22 then ∃ (s' : Value) (B : Nat), v = .agg #[s', .int .i64 k1, .int .i64 tk1, .float .f32 ta1, .float .f32 tb1, .float .f32 tc1, .float .f32 tx1, .float .f32 ty1, .int .i64 dk1, .float .f32 da1, .float .f32 db1, .float .f32 dc1, .float .f32 dx1, .float .f32 dy1, .float .f32 l1] ∧ RdS w B s' x1 n1 else v = .bool true) (by kernel_rfl) (by kernel_rfl) ?_
  refine wpFreeD_loadG F rfl rfl rfl rfl (by first | exact m0 | exact m1 | exact m2 | exact m3 | exact m4 | exact m5 | exact m6 | exact m7 | exact m8) Try.underlying31 rfl infoStr rfl ?_
  simp only [Act.put, List.setIfInBounds_toArray, List.set_cons_succ, List.set_cons_zero]
  refine wpFreeD_loadG F rfl rfl rfl rfl (by first | exact m0 | exact m1 | exact m2 | exact m3 | exact m4 | exact m5 | exact m6 | exact m7 | exact m8) Try.underlying40 rfl infoStrL rfl ?_
  simp only [Act.put, List.setIfInBounds_toArray, List.set_cons_succ, List.set_cons_zero]
  refine wpFreeD_callB rfl rfl Try.func22 (by kernel_rfl) (by kernel_rfl) (args := #[.agg #[s1, .int .i64 k1, .int .i64 tk1, .float .f32 ta1, .float .f32 tb1, .float .f32 tc1, .float .f32 tx1, .float .f32 ty1, .int .i64 dk1, .float .f32 da1, .float .f32 db1, .float .f32 dc1, .float .f32 dx1, .float .f32 dy1, .float .f32 l1]]) (by simp [Act.eval]) (fun v w1 w2 hw hv => by simp only [if_true] at hv ⊢; obtain ⟨u, B, h1, h2⟩ := hv; exact ⟨u, B, h1, h2.le hw⟩) (fun w1 hw1 _ => (toStringR _ s1 x1 n1 k1 tk1 ta1 tb1 tc1 tx1 ty1 dk1 da1 db1 dc1 dx1 dy1 l1 w1 (Z1.out.le (le_trans (F.drewN _).below hw1)) hn1).mono ?_) ?_
  · rintro e w2 ⟨u, rfl, ho, hl⟩
    exact ⟨_, rfl, hl, by simp only [if_true]; exact ⟨u, _, rfl, ho.rd⟩⟩
  rintro v ⟨_, _, _, hv⟩
  simp only [if_true] at hv
  obtain ⟨u1, Bu1, rfl, _⟩ := hv
  simp only [Act.put, List.setIfInBounds_toArray, List.set_cons_succ, List.set_cons_zero]
  refine wpFreeD_callB rfl rfl Try.func17 (by kernel_rfl) (by kernel_rfl) (args := #[.agg #[tB1, .int .i64 k1, .int .i64 tk1, .float .f32 ta1, .float .f32 tb1, .float .f32 tc1, .float .f32 tx1, .float .f32 ty1, .int .i64 dk1, .float .f32 da1, .float .f32 db1, .float .f32 dc1, .float .f32 dx1, .float .f32 dy1, .float .f32 l1], .agg #[u1, .int .i64 k1, .int .i64 tk1, .float .f32 ta1, .float .f32 tb1, .float .f32 tc1, .float .f32 tx1, .float .f32 ty1, .int .i64 dk1, .float .f32 da1, .float .f32 db1, .float .f32 dc1, .float .f32 dx1, .float .f32 dy1, .float .f32 l1]]) (by simp [Act.eval]) (fun v w1 w2 hw hv => by simp only [show ¬ (17 = 22) by decide, if_false] at hv ⊢; exact hv) (fun w1 hw1 hbe => ?_) ?_
  · have hk := (hbe ⟨2, Ground.data⟩ (by simp) (by kernel_rfl)).2 rfl
    simp only [if_true] at hk
    obtain ⟨u', B', he, hr⟩ := hk
    obtain rfl : u1 = u' := by simpa using he
    refine (eqStringR _ _ _ _ x1 n1 k1 tk1 ta1 tb1 tc1 tx1 ty1 dk1 da1 db1 dc1 dx1 dy1 l1 _ hn1 (((F.drewN 1).le hw1).own (by first | exact m0 | exact m1 | exact m2 | exact m3 | exact m4 | exact m5 | exact m6 | exact m7 | exact m8)).rd hr).mono ?_
    rintro e w2 ⟨rfl, hl⟩
    exact ⟨_, rfl, hl, by simp only [show ¬ (17 = 22) by decide, if_false]⟩
  rintro v ⟨_, _, _, hv⟩
  simp only [show ¬ (17 = 22) by decide, if_false] at hv
  subst hv
  simp only [Act.put, List.setIfInBounds_toArray, List.set_cons_succ, List.set_cons_zero]
  refine wpFreeD_one rfl (.bool false) (fun w1 _ => by kernel_rfl) ?_
  simp only [Act.put, List.setIfInBounds_toArray, List.set_cons_succ, List.set_cons_zero]
  refine wpFreeD_nil (fun wR hwR _ => ?_)
  replace F := (F.drewN 1).le hwR
  clear hwR
  go_wp2_with (first | (((with_reducible refine listN F ?_); clear F; intro wN F)) | ((with_reducible refine at_loadU rfl rfl ?_); first | (with_reducible refine wpList_loadG F rfl rfl rfl (by first | exact m0 | exact m1 | exact m2 | exact m3 | exact m4 | exact m5 | exact m6 | exact m7 | exact m8) Try.underlying31 rfl infoStr (by first | rfl | simp [size_ftab]) ?_) | (with_reducible refine wpList_loadG F rfl rfl rfl (by first | exact m0 | exact m1 | exact m2 | exact m3 | exact m4 | exact m5 | exact m6 | exact m7 | exact m8) Try.underlying40 rfl infoStrL (by first | rfl | simp [size_ftab]) ?_)) | ((with_reducible refine at_loadV rfl rfl ?_); first | (with_reducible refine wpList_loadGG F rfl rfl (by first | exact m0 | exact m1 | exact m2 | exact m3 | exact m4 | exact m5 | exact m6 | exact m7 | exact m8) Try.underlying31 rfl infoStr (by first | rfl | simp [size_ftab]) (by kernel_rfl) ?_) | (with_reducible refine wpList_loadGG F rfl rfl (by first | exact m0 | exact m1 | exact m2 | exact m3 | exact m4 | exact m5 | exact m6 | exact m7 | exact m8) Try.underlying40 rfl infoStrL (by first | rfl | simp [size_ftab]) (by kernel_rfl) ?_)))
  go_ret
  first | exact ⟨rfl, F.below⟩ | exact ⟨rfl, below_drewN F.below _⟩
set_option maxRecDepth 100000 in
set_option maxHeartbeats 2000000 in
theorem large0 (s0 : Value) (x0 : Nat → Nat) (n0 : Nat) (k0 : Int) (tk0 : Int) (ta0 : Nat) (tb0 : Nat) (tc0 : Nat) (tx0 : Nat) (ty0 : Nat) (dk0 : Int) (da0 : Nat) (db0 : Nat) (dc0 : Nat) (dx0 : Nat) (dy0 : Nat) (l0 : Nat) (s1 : Value) (x1 : Nat → Nat) (n1 : Nat) (k1 : Int) (tk1 : Int) (ta1 : Nat) (tb1 : Nat) (tc1 : Nat) (tx1 : Nat) (ty1 : Nat) (dk1 : Int) (da1 : Nat) (db1 : Nat) (dc1 : Nat) (dx1 : Nat) (dy1 : Nat) (l1 : Nat) (w : World) (z0 : RdS w w.heap.size s0 x0 n0) (z1 : RdS w w.heap.size s1 x1 n1)  (hl : ¬ n0 ≤ 1048576) :
    Calls Try.prog 5 #[.agg #[s0, .int .i64 k0, .int .i64 tk0, .float .f32 ta0, .float .f32 tb0, .float .f32 tc0, .float .f32 tx0, .float .f32 ty0, .int .i64 dk0, .float .f32 da0, .float .f32 db0, .float .f32 dc0, .float .f32 dx0, .float .f32 dy0, .float .f32 l0], .agg #[s1, .int .i64 k1, .int .i64 tk1, .float .f32 ta1, .float .f32 tb1, .float .f32 tc1, .float .f32 tx1, .float .f32 ty1, .int .i64 dk1, .float .f32 da1, .float .f32 db1, .float .f32 dc1, .float .f32 dx1, .float .f32 dy1, .float .f32 l1]] w fun e w' => e = .returned (.bool true) ∧ Below w.heap.size w w' := by
  have Z0 := hid z0; have hs0 := z0.small; clear z0
  have Z1 := hid z1; have hs1 := z1.small; clear z1
  have F := Frg.nil w
  replace F := F.box 40 (#[s0, .int .i64 k0, .int .i64 tk0, .float .f32 ta0, .float .f32 tb0, .float .f32 tc0, .float .f32 tx0, .float .f32 ty0, .int .i64 dk0, .float .f32 da0, .float .f32 db0, .float .f32 dc0, .float .f32 dx0, .float .f32 dy0, .float .f32 l0])
  replace F := F.box 40 (#[s1, .int .i64 k1, .int .i64 tk1, .float .f32 ta1, .float .f32 tb1, .float .f32 tc1, .float .f32 tx1, .float .f32 ty1, .int .i64 dk1, .float .f32 da1, .float .f32 db1, .float .f32 dc1, .float .f32 dx1, .float .f32 dy1, .float .f32 l1])
  simp only [World.size_alloc] at F
  go_enter Try.func5, Try.ntmps5
  go_wp2_with (first | (((with_reducible refine listN F ?_); clear F; intro wN F)) | ((with_reducible refine at_loadU rfl rfl ?_); first | (with_reducible refine wpList_loadG F rfl rfl rfl (by first | exact m0 | exact m1 | exact m2 | exact m3 | exact m4 | exact m5 | exact m6 | exact m7 | exact m8) Try.underlying31 rfl infoStr (by first | rfl | simp [size_ftab]) ?_) | (with_reducible refine wpList_loadG F rfl rfl rfl (by first | exact m0 | exact m1 | exact m2 | exact m3 | exact m4 | exact m5 | exact m6 | exact m7 | exact m8) Try.underlying40 rfl infoStrL (by first | rfl | simp [size_ftab]) ?_)) | ((with_reducible refine at_loadV rfl rfl ?_); first | (with_reducible refine wpList_loadGG F rfl rfl (by first | exact m0 | exact m1 | exact m2 | exact m3 | exact m4 | exact m5 | exact m6 | exact m7 | exact m8) Try.underlying31 rfl infoStr (by first | rfl | simp [size_ftab]) (by kernel_rfl) ?_) | (with_reducible refine wpList_loadGG F rfl rfl (by first | exact m0 | exact m1 | exact m2 | exact m3 | exact m4 | exact m5 | exact m6 | exact m7 | exact m8) Try.underlying40 rfl infoStrL (by first | rfl | simp [size_ftab]) (by kernel_rfl) ?_)) | (go_at_call 20; ((with_reducible refine (szStringRM_no _ s0 x0 n0 k0 tk0 ta0 tb0 tc0 tx0 ty0 dk0 da0 db0 dc0 dx0 dy0 l0 (1048576 : Int) _ (Z0.out.le (by first | exact F.below)) (by omega) (by omega) (by omega)).mono ?_); rintro e w1 ⟨rfl, hb1⟩; (replace F := F.le hb1))))
  go_ret
  first | exact ⟨rfl, F.below⟩ | exact ⟨rfl, below_drewN F.below _⟩
set_option maxRecDepth 100000 in
set_option maxHeartbeats 2000000 in
theorem large1 (s0 : Value) (x0 : Nat → Nat) (n0 : Nat) (k0 : Int) (tk0 : Int) (ta0 : Nat) (tb0 : Nat) (tc0 : Nat) (tx0 : Nat) (ty0 : Nat) (dk0 : Int) (da0 : Nat) (db0 : Nat) (dc0 : Nat) (dx0 : Nat) (dy0 : Nat) (l0 : Nat) (s1 : Value) (x1 : Nat → Nat) (n1 : Nat) (k1 : Int) (tk1 : Int) (ta1 : Nat) (tb1 : Nat) (tc1 : Nat) (tx1 : Nat) (ty1 : Nat) (dk1 : Int) (da1 : Nat) (db1 : Nat) (dc1 : Nat) (dx1 : Nat) (dy1 : Nat) (l1 : Nat) (w : World) (z0 : RdS w w.heap.size s0 x0 n0) (z1 : RdS w w.heap.size s1 x1 n1) (h0 : n0 ≤ 1048576) (hl : ¬ n0 + n1 ≤ 1048576) :
    Calls Try.prog 5 #[.agg #[s0, .int .i64 k0, .int .i64 tk0, .float .f32 ta0, .float .f32 tb0, .float .f32 tc0, .float .f32 tx0, .float .f32 ty0, .int .i64 dk0, .float .f32 da0, .float .f32 db0, .float .f32 dc0, .float .f32 dx0, .float .f32 dy0, .float .f32 l0], .agg #[s1, .int .i64 k1, .int .i64 tk1, .float .f32 ta1, .float .f32 tb1, .float .f32 tc1, .float .f32 tx1, .float .f32 ty1, .int .i64 dk1, .float .f32 da1, .float .f32 db1, .float .f32 dc1, .float .f32 dx1, .float .f32 dy1, .float .f32 l1]] w fun e w' => e = .returned (.bool true) ∧ Below w.heap.size w w' := by
  have Z0 := hid z0; have hs0 := z0.small; clear z0
  have Z1 := hid z1; have hs1 := z1.small; clear z1
  have hm0 : ¬ (1048576 : Int) - n0 < 0 := by omega
  have F := Frg.nil w
  replace F := F.box 40 (#[s0, .int .i64 k0, .int .i64 tk0, .float .f32 ta0, .float .f32 tb0, .float .f32 tc0, .float .f32 tx0, .float .f32 ty0, .int .i64 dk0, .float .f32 da0, .float .f32 db0, .float .f32 dc0, .float .f32 dx0, .float .f32 dy0, .float .f32 l0])
  replace F := F.box 40 (#[s1, .int .i64 k1, .int .i64 tk1, .float .f32 ta1, .float .f32 tb1, .float .f32 tc1, .float .f32 tx1, .float .f32 ty1, .int .i64 dk1, .float .f32 da1, .float .f32 db1, .float .f32 dc1, .float .f32 dx1, .float .f32 dy1, .float .f32 l1])
  simp only [World.size_alloc] at F
  go_enter Try.func5, Try.ntmps5
  go_wp2_with (first | (((with_reducible refine listN F ?_); clear F; intro wN F)) | ((with_reducible refine at_loadU rfl rfl ?_); first | (with_reducible refine wpList_loadG F rfl rfl rfl (by first | exact m0 | exact m1 | exact m2 | exact m3 | exact m4 | exact m5 | exact m6 | exact m7 | exact m8) Try.underlying31 rfl infoStr (by first | rfl | simp [size_ftab]) ?_) | (with_reducible refine wpList_loadG F rfl rfl rfl (by first | exact m0 | exact m1 | exact m2 | exact m3 | exact m4 | exact m5 | exact m6 | exact m7 | exact m8) Try.underlying40 rfl infoStrL (by first | rfl | simp [size_ftab]) ?_)) | ((with_reducible refine at_loadV rfl rfl ?_); first | (with_reducible refine wpList_loadGG F rfl rfl (by first | exact m0 | exact m1 | exact m2 | exact m3 | exact m4 | exact m5 | exact m6 | exact m7 | exact m8) Try.underlying31 rfl infoStr (by first | rfl | simp [size_ftab]) (by kernel_rfl) ?_) | (with_reducible refine wpList_loadGG F rfl rfl (by first | exact m0 | exact m1 | exact m2 | exact m3 | exact m4 | exact m5 | exact m6 | exact m7 | exact m8) Try.underlying40 rfl infoStrL (by first | rfl | simp [size_ftab]) (by kernel_rfl) ?_)) | (go_at_call 20; ((with_reducible refine (szStringRM_yes _ s0 x0 n0 k0 tk0 ta0 tb0 tc0 tx0 ty0 dk0 da0 db0 dc0 dx0 dy0 l0 (1048576 : Int) _ (Z0.out.le (by first | exact F.below)) (by omega) (by omega) (by omega)).mono ?_); rintro e w1 ⟨rfl, hb1⟩; (replace F := F.le hb1))) | (go_at_call 20; ((with_reducible refine (szStringRM_no _ s1 x1 n1 k1 tk1 ta1 tb1 tc1 tx1 ty1 dk1 da1 db1 dc1 dx1 dy1 l1 ((1048576 : Int) - n0) _ (Z1.out.le (by first | exact F.below)) (by omega) (by omega) (by omega)).mono ?_); rintro e w1 ⟨rfl, hb1⟩; (replace F := F.le hb1))))
  go_ret
  first | exact ⟨rfl, F.below⟩ | exact ⟨rfl, below_drewN F.below _⟩
theorem walk (s0 : Value) (y0 : Nat → Nat) (n0 : Nat) (k0 : Int) (tk0 : Int) (ta0 : Nat) (tb0 : Nat) (tc0 : Nat) (tx0 : Nat) (ty0 : Nat) (dk0 : Int) (da0 : Nat) (db0 : Nat) (dc0 : Nat) (dx0 : Nat) (dy0 : Nat) (l0 : Nat) (s1 : Value) (y1 : Nat → Nat) (n1 : Nat) (k1 : Int) (tk1 : Int) (ta1 : Nat) (tb1 : Nat) (tc1 : Nat) (tx1 : Nat) (ty1 : Nat) (dk1 : Int) (da1 : Nat) (db1 : Nat) (dc1 : Nat) (dx1 : Nat) (dy1 : Nat) (l1 : Nat) (w : World) (w0 : (Lit.int .i64 k0).wf = true ∧ (Lit.int .i64 tk0).wf = true ∧ fits .f32 ta0 ∧ fits .f32 tb0 ∧ fits .f32 tc0 ∧ fits .f32 tx0 ∧ fits .f32 ty0 ∧ (Lit.int .i64 dk0).wf = true ∧ fits .f32 da0 ∧ fits .f32 db0 ∧ fits .f32 dc0 ∧ fits .f32 dx0 ∧ fits .f32 dy0 ∧ fits .f32 l0) (z0 : SlIn w s0 y0 n0) (w1 : (Lit.int .i64 k1).wf = true ∧ (Lit.int .i64 tk1).wf = true ∧ fits .f32 ta1 ∧ fits .f32 tb1 ∧ fits .f32 tc1 ∧ fits .f32 tx1 ∧ fits .f32 ty1 ∧ (Lit.int .i64 dk1).wf = true ∧ fits .f32 da1 ∧ fits .f32 db1 ∧ fits .f32 dc1 ∧ fits .f32 dx1 ∧ fits .f32 dy1 ∧ fits .f32 l1) (z1 : SlIn w s1 y1 n1) :
    Calls Try.prog 5 #[.agg #[s0, .int .i64 k0, .int .i64 tk0, .float .f32 ta0, .float .f32 tb0, .float .f32 tc0, .float .f32 tx0, .float .f32 ty0, .int .i64 dk0, .float .f32 da0, .float .f32 db0, .float .f32 dc0, .float .f32 dx0, .float .f32 dy0, .float .f32 l0], .agg #[s1, .int .i64 k1, .int .i64 tk1, .float .f32 ta1, .float .f32 tb1, .float .f32 tc1, .float .f32 tx1, .float .f32 ty1, .int .i64 dk1, .float .f32 da1, .float .f32 db1, .float .f32 dc1, .float .f32 dx1, .float .f32 dy1, .float .f32 l1]] w fun e w' => e = .returned (.bool true) ∧ Below w.heap.size w w' := by
  by_cases h0 : n0 ≤ 1048576
  · skip
    by_cases h1 : n0 + n1 ≤ 1048576
    · skip
      obtain ⟨ar0, hS, hI⟩ := both_SameString (fun i => can .f32 (y0 i)) n0 k0 tk0 ta0 tb0 tc0 tx0 ty0 dk0 da0 db0 dc0 dx0 dy0 l0 (fun i => can .f32 (y1 i)) n1 k1 tk1 ta1 tb1 tc1 tx1 ty1 dk1 da1 db1 dc1 dx1 dy1 l1
      exact core s0 (fun i => can .f32 (y0 i)) n0 k0 tk0 ta0 tb0 tc0 tx0 ty0 dk0 da0 db0 dc0 dx0 dy0 l0 s1 (fun i => can .f32 (y1 i)) n1 k1 tk1 ta1 tb1 tc1 tx1 ty1 dk1 da1 db1 dc1 dx1 dy1 l1 ar0 w z0.rd (by omega) z1.rd (by omega) (by omega)  hS hI
    · exact large1 s0 (fun i => can .f32 (y0 i)) n0 k0 tk0 ta0 tb0 tc0 tx0 ty0 dk0 da0 db0 dc0 dx0 dy0 l0 s1 (fun i => can .f32 (y1 i)) n1 k1 tk1 ta1 tb1 tc1 tx1 ty1 dk1 da1 db1 dc1 dx1 dy1 l1 w z0.rd z1.rd h0 h1
  · exact large0 s0 (fun i => can .f32 (y0 i)) n0 k0 tk0 ta0 tb0 tc0 tx0 ty0 dk0 da0 db0 dc0 dx0 dy0 l0 s1 (fun i => can .f32 (y1 i)) n1 k1 tk1 ta1 tb1 tc1 tx1 ty1 dk1 da1 db1 dc1 dx1 dy1 l1 w z0.rd z1.rd  h0
end Go.Proofs.Ytaenbpkcehenkac.fnExactSameString
