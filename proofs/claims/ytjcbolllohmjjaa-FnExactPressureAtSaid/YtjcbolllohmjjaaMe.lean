/- Texts of the walk, laid in one file. -/
import Derived.Test.YtjcbolllohmjjaaMd
set_option linter.unusedVariables false
set_option linter.unusedSimpArgs false
/- The walk of 'FnExactPressureAt'. -/
namespace Go.Proofs.Ytjcbolllohmjjaa.fnExactPressureAt
open Go.RowKit Go.Fk
set_option maxRecDepth 100000 in
set_option maxHeartbeats 4000000 in
theorem core (cs0 : List CD) (vs0 : List Value) (a1 : Int) (a2 : Int) (ar0 : Nat) (ar1 : Int) (w : World) (z0 : RdL w w.heap.size cs0 vs0) (k0 : ShOkL shPipe cs0) (hz : szL cs0 ≤ 1048576)
    (hS : ∀ (w : World) (B0 : Nat) (u0 : List Value), RdLN w B0 (cs0.map CD.cp) u0 → Calls Try.prog 36 #[.agg u0.toArray, .int .i64 a1, .int .i64 a2] w (Out_fi ar0 ar1 w))
    (hI : ∀ (w : World) (B0 : Nat) (u0 : List Value), RdLN w B0 (cs0.map CD.cp) u0 → Calls Try.prog 37 #[.agg u0.toArray, .int .i64 a1, .int .i64 a2] w (Out_fi ar0 ar1 w)) :
    Calls Try.prog 10 #[.agg vs0.toArray, .int .i64 a1, .int .i64 a2] w fun e w' => e = .returned (.bool true) ∧ Below w.heap.size w w' := by
  have Z0 := hid z0; have K0 := hid k0; have hl0 : Hid (vs0.length = 13) := z0.1.trans k0.1; clear z0 k0
  have hz0 : szL cs0 ≤ 1048576 := by omega
  have hm0 : ¬ (1048576 : Int) - (szL cs0 : Nat) < 0 := by omega
  have HS := hid hS; have HI := hid hI; clear hS hI
  have F := Frg.nil w
  replace F := F.box 42 vs0.toArray
  go_enter Try.func10, Try.ntmps10
  go_wp2_with (first | (((with_reducible refine listN F ?_); clear F; intro wN F)) | ((with_reducible refine at_loadU rfl rfl ?_); first | (with_reducible refine wpList_loadG F rfl rfl rfl (by first | exact m0 | exact m1 | exact m2 | exact m3 | exact m4 | exact m5 | exact m6 | exact m7 | exact m8) Try.underlying49 rfl uinfoPipeI (by simp only [List.size_toArray]; first | exact hl0.out | exact hl1.out | exact hu0.out | exact hu1.out) ?_) | (with_reducible refine wpList_loadG F rfl rfl rfl (by first | exact m0 | exact m1 | exact m2 | exact m3 | exact m4 | exact m5 | exact m6 | exact m7 | exact m8) Try.underlying42 rfl uinfoPipeL (by simp only [List.size_toArray]; first | exact hl0.out | exact hl1.out | exact hu0.out | exact hu1.out) ?_)) | (go_at_call 25; ((with_reducible refine (szU_Pipe _ cs0 vs0 (1048576 : Int) ((1048576 : Int) - (szL cs0 : Nat)) _ (Z0.out.le F.below) K0.out (by omega) (by omega) (lessBy_pos hm0)).mono ?_); rintro e w1 ⟨rfl, hb1⟩; replace F := F.le hb1)) | (go_at_call 27; ((with_reducible refine (toU_Pipe _ cs0 vs0 _ (Z0.out.le F.below) K0.out hz0).mono ?_); rintro e w1 ⟨usA0, rfl, ho, hl⟩; have hu0 : Hid (usA0.length = 13) := ho.1.trans ((List.length_map ..).trans K0.out.1); have ho0 := hid ho.all_one; replace F := F.lay1 hl ho; clear ho hl)))
  first | ((with_reducible refine callAt0 F ?_); clear F; intro wN F) | ((with_reducible refine callAtN F ?_); clear F; intro wN F)
  refine (HS.out _ _ _ (F.layN (by first | exact m0 | exact m1 | exact m2 | exact m3 | exact m4 | exact m5 | exact m6 | exact m7 | exact m8))).mono ?_
  rintro e wS ⟨vS0, rfl, cS0, hlS⟩
  replace cS0 := hid cS0
  replace F := F.le hlS
  go_wp2_with (first | (((with_reducible refine listN F ?_); clear F; intro wN F)) | ((with_reducible refine at_store rfl ?_); first | (refine wpList_storeG F rfl rfl rfl rfl rfl (by simp only [List.size_toArray]; first | (rw [hu0.out]; exact uinfoPipeI) | (rw [hu1.out]; exact uinfoPipeI)) (by simp only [List.size_toArray]; first | (rw [hu0.out]; rfl) | (rw [hu1.out]; rfl)) (by first | exact ho0.out | exact ho1.out) ?_; clear F; intro W F zW; clear zW)) | ((with_reducible refine at_loadU rfl rfl ?_); first | (with_reducible refine wpList_loadG F rfl rfl rfl (by first | exact m0 | exact m1 | exact m2 | exact m3 | exact m4 | exact m5 | exact m6 | exact m7 | exact m8) Try.underlying49 rfl uinfoPipeI (by simp only [List.size_toArray]; first | exact hl0.out | exact hl1.out | exact hu0.out | exact hu1.out) ?_) | (with_reducible refine wpList_loadG F rfl rfl rfl (by first | exact m0 | exact m1 | exact m2 | exact m3 | exact m4 | exact m5 | exact m6 | exact m7 | exact m8) Try.underlying42 rfl uinfoPipeL (by simp only [List.size_toArray]; first | exact hl0.out | exact hl1.out | exact hu0.out | exact hu1.out) ?_)) | (go_at_call 27; ((with_reducible refine (toU_Pipe _ cs0 vs0 _ (Z0.out.le F.below) K0.out hz0).mono ?_); rintro e w1 ⟨usB0, rfl, ho, hl⟩; have hu0 : Hid (usB0.length = 13) := ho.1.trans ((List.length_map ..).trans K0.out.1); have ho0 := hid ho.all_one; replace F := F.lay1 hl ho; clear ho hl)))
  first | ((with_reducible refine callAt0 F ?_); clear F; intro wN F) | ((with_reducible refine callAtN F ?_); clear F; intro wN F)
  refine (HI.out _ _ _ (F.layN (by first | exact m0 | exact m1 | exact m2 | exact m3 | exact m4 | exact m5 | exact m6 | exact m7 | exact m8))).mono ?_
  rintro e wI ⟨vI0, rfl, cI0, hlI⟩
  replace cI0 := hid cI0
  replace F := F.le hlI
  go_wp2_with (first | (((with_reducible refine listN F ?_); clear F; intro wN F)) | ((with_reducible refine at_store rfl ?_); first | (refine wpList_storeG F rfl rfl rfl rfl rfl (by simp only [List.size_toArray]; first | (rw [hu0.out]; exact uinfoPipeI) | (rw [hu1.out]; exact uinfoPipeI)) (by simp only [List.size_toArray]; first | (rw [hu0.out]; rfl) | (rw [hu1.out]; rfl)) (by first | exact ho0.out | exact ho1.out) ?_; clear F; intro W F zW; clear zW)) | ((with_reducible refine at_loadU rfl rfl ?_); first | (with_reducible refine wpList_loadG F rfl rfl rfl (by first | exact m0 | exact m1 | exact m2 | exact m3 | exact m4 | exact m5 | exact m6 | exact m7 | exact m8) Try.underlying49 rfl uinfoPipeI (by simp only [List.size_toArray]; first | exact hl0.out | exact hl1.out | exact hu0.out | exact hu1.out) ?_) | (with_reducible refine wpList_loadG F rfl rfl rfl (by first | exact m0 | exact m1 | exact m2 | exact m3 | exact m4 | exact m5 | exact m6 | exact m7 | exact m8) Try.underlying42 rfl uinfoPipeL (by simp only [List.size_toArray]; first | exact hl0.out | exact hl1.out | exact hu0.out | exact hu1.out) ?_)) | ((with_reducible refine at_convert rfl ?_); first | (with_reducible refine wpList_widen rfl rfl rfl Try.underlying22 Try.underlying26 ?_; intro s1 n1 h1 f1) | (with_reducible refine wpList_widenG rfl rfl Try.underlying22 Try.underlying26 (by kernel_rfl) ?_; intro s1 n1 h1 f1)) | (go_at_call 17; ((with_reducible refine (sameFloat_yes _ _ _ (by exact ((Hid.out ‹Hid (can .f64 _ = can .f64 (widen vI0))›).trans ((congrArg (can .f64) (widen_congr (cI0.out.trans cS0.out.symm))).trans (Hid.out ‹Hid (can .f64 _ = can .f64 (widen vS0))›).symm)))).mono ?_); rintro e w7 ⟨rfl, dq7, rfl⟩; skip)))
  first | (refine wpAt0 F ?_; clear F; intro wN F) | (refine wpAtN F ?_; clear F; intro wN F)
  refine region_freeD (E := leX) (fun f _ w v => if f = 27 then ∃ (us : List Value) (B : Nat), v = .agg us.toArray ∧ RdL w B (cs0.map CD.cp) us else v = .bool true) (by kernel_rfl) (by kernel_rfl) ?_
  refine wpFreeD_loadG F rfl rfl rfl rfl (by first | exact m0 | exact m1 | exact m2 | exact m3 | exact m4 | exact m5 | exact m6 | exact m7 | exact m8) Try.underlying49 rfl uinfoPipeI (by simp only [List.size_toArray]; exact hu0.out) ?_
  simp only [Act.put, List.setIfInBounds_toArray, List.set_cons_succ, List.set_cons_zero]
  refine wpFreeD_loadG F rfl rfl rfl rfl (by first | exact m0 | exact m1 | exact m2 | exact m3 | exact m4 | exact m5 | exact m6 | exact m7 | exact m8) Try.underlying42 rfl uinfoPipeL (by simp only [List.size_toArray]; exact hl0.out) ?_
  simp only [Act.put, List.setIfInBounds_toArray, List.set_cons_succ, List.set_cons_zero]
  refine wpFreeD_callB rfl rfl Try.func27 (by kernel_rfl) (by kernel_rfl) (args := #[.agg vs0.toArray]) (by simp [Act.eval]) (fun v w1 w2 hw hv => by simp only [if_true] at hv ⊢; obtain ⟨u, B, h1, h2⟩ := hv; exact ⟨u, B, h1, h2.le hw⟩) (fun w1 hw1 _ => (toU_Pipe _ cs0 vs0 w1 (Z0.out.le (le_trans (F.drewN _).below hw1)) K0.out hz0).mono ?_) ?_
  · rintro e w2 ⟨u, rfl, ho, hl⟩
    exact ⟨_, rfl, hl, by simp only [if_true]; exact ⟨u, _, rfl, ho.rd (fun _ hj => hj.2)⟩⟩
  rintro v ⟨_, _, _, hv⟩
  simp only [if_true] at hv
  obtain ⟨u0, Bu0, rfl, _⟩ := hv
  simp only [Act.put, List.setIfInBounds_toArray, List.set_cons_succ, List.set_cons_zero]
  refine wpFreeD_callB rfl rfl Try.func29 (by kernel_rfl) (by kernel_rfl) (args := #[.agg usB0.toArray, .agg u0.toArray]) (by simp [Act.eval]) (fun v w1 w2 hw hv => by simp only [show ¬ (29 = 27) by decide, if_false] at hv ⊢; exact hv) (fun w1 hw1 hbe => ?_) ?_
  · have hk := (hbe ⟨2, Ground.data⟩ (by simp) (by kernel_rfl)).2 rfl
    simp only [if_true] at hk
    obtain ⟨u', B', he, hr⟩ := hk
    obtain rfl : u0 = u' := by simpa using he
    refine (eqU_Pipe _ _ (cs0.map CD.cp) _ _ _ (((F.drewN 1).le hw1).layR (by first | exact m0 | exact m1 | exact m2 | exact m3 | exact m4 | exact m5 | exact m6 | exact m7 | exact m8)) hr K0.out.cp (by rw [szL_cp]; exact hz0)).mono ?_
    rintro e w2 ⟨rfl, hl⟩
    exact ⟨_, rfl, hl, by simp only [show ¬ (29 = 27) by decide, if_false]⟩
  rintro v ⟨_, _, _, hv⟩
  simp only [show ¬ (29 = 27) by decide, if_false] at hv
  subst hv
  simp only [Act.put, List.setIfInBounds_toArray, List.set_cons_succ, List.set_cons_zero]
  refine wpFreeD_one rfl (.bool false) (fun w1 _ => by kernel_rfl) ?_
  simp only [Act.put, List.setIfInBounds_toArray, List.set_cons_succ, List.set_cons_zero]
  refine wpFreeD_nil (fun wR hwR _ => ?_)
  replace F := (F.drewN 1).le hwR
  clear hwR
  go_wp2_with (first | (((with_reducible refine listN F ?_); clear F; intro wN F)) | ((with_reducible refine at_loadU rfl rfl ?_); first | (with_reducible refine wpList_loadG F rfl rfl rfl (by first | exact m0 | exact m1 | exact m2 | exact m3 | exact m4 | exact m5 | exact m6 | exact m7 | exact m8) Try.underlying49 rfl uinfoPipeI (by simp only [List.size_toArray]; first | exact hl0.out | exact hl1.out | exact hu0.out | exact hu1.out) ?_) | (with_reducible refine wpList_loadG F rfl rfl rfl (by first | exact m0 | exact m1 | exact m2 | exact m3 | exact m4 | exact m5 | exact m6 | exact m7 | exact m8) Try.underlying42 rfl uinfoPipeL (by simp only [List.size_toArray]; first | exact hl0.out | exact hl1.out | exact hu0.out | exact hu1.out) ?_)))
  go_ret
  first | exact ⟨rfl, F.below⟩ | exact ⟨rfl, below_drewN F.below _⟩
set_option maxRecDepth 100000 in
set_option maxHeartbeats 4000000 in
theorem large0 (cs0 : List CD) (vs0 : List Value) (a1 : Int) (a2 : Int) (w : World) (z0 : RdL w w.heap.size cs0 vs0) (k0 : ShOkL shPipe cs0)  (hg : ¬ szL cs0 ≤ 1048576) :
    Calls Try.prog 10 #[.agg vs0.toArray, .int .i64 a1, .int .i64 a2] w fun e w' => e = .returned (.bool true) ∧ Below w.heap.size w w' := by
  have Z0 := hid z0; have K0 := hid k0; have hl0 : Hid (vs0.length = 13) := z0.1.trans k0.1; clear z0 k0
  have hn0 : (1048576 : Int) - (szL cs0 : Nat) < 0 := by omega
  have F := Frg.nil w
  replace F := F.box 42 vs0.toArray
  go_enter Try.func10, Try.ntmps10
  go_wp2_with (first | (((with_reducible refine listN F ?_); clear F; intro wN F)) | ((with_reducible refine at_loadU rfl rfl ?_); first | (with_reducible refine wpList_loadG F rfl rfl rfl (by first | exact m0 | exact m1 | exact m2 | exact m3 | exact m4 | exact m5 | exact m6 | exact m7 | exact m8) Try.underlying49 rfl uinfoPipeI (by simp only [List.size_toArray]; first | exact hl0.out | exact hl1.out | exact hu0.out | exact hu1.out) ?_) | (with_reducible refine wpList_loadG F rfl rfl rfl (by first | exact m0 | exact m1 | exact m2 | exact m3 | exact m4 | exact m5 | exact m6 | exact m7 | exact m8) Try.underlying42 rfl uinfoPipeL (by simp only [List.size_toArray]; first | exact hl0.out | exact hl1.out | exact hu0.out | exact hu1.out) ?_)) | (go_at_call 25; ((with_reducible refine (szU_Pipe _ cs0 vs0 (1048576 : Int) (-1 : Int) _ (Z0.out.le F.below) K0.out (by omega) (by omega) (lessBy_neg hn0)).mono ?_); rintro e w1 ⟨rfl, hb1⟩; replace F := F.le hb1)))
  go_ret
  first | exact ⟨rfl, F.below⟩ | exact ⟨rfl, below_drewN F.below _⟩
theorem walk (cs0 : List CD) (vs0 : List Value) (a1 : Int) (a2 : Int) (w : World) (k0 : HasShL shPipe cs0) (z0 : RdL w w.heap.size cs0 vs0) (w1 : (Lit.int .i64 a1).wf = true) (w2 : (Lit.int .i64 a2).wf = true) :
    Calls Try.prog 10 #[.agg vs0.toArray, .int .i64 a1, .int .i64 a2] w fun e w' => e = .returned (.bool true) ∧ Below w.heap.size w w' := by
  by_cases g0 : szL cs0 ≤ 1048576
  · skip
    obtain ⟨ar0, ar1, hS, hI⟩ := both_PressureAt cs0 k0 a1 a2
    exact core cs0 vs0 a1 a2 ar0 ar1 w z0 k0.ok g0 hS hI
  · exact large0 cs0 vs0 a1 a2 w z0 k0.ok  g0
end Go.Proofs.Ytjcbolllohmjjaa.fnExactPressureAt
