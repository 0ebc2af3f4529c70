/- Texts of the walk, laid in one file. -/
import Derived.Test.YtnkjmgadnejdladMg
set_option linter.unusedVariables false
set_option linter.unusedSimpArgs false
/- 'EndOfScore' of both. -/
namespace Go.Proofs.Ytnkjmgadnejdlad
open Go.RowKit Go.Fk
/-- When the last event happens. -/
def eoE (x : Nat → CD) : Nat → Int | 0 => 0 | k + 1 => evA x k
set_option maxRecDepth 100000 in
set_option maxHeartbeats 4000000 in
theorem i_end (B : Nat) (r b o : Nat) (sD : Value) (pI : Option Addr) (nI capI : Nat) (pE : Option Addr) (nE capE : Nat) (xE : Nat → CD) (w : World) (hE : (CD.sl 6 nE xE).RdN w B (.slice pE nE capE)) (kE : EvsOk xE nE) : Calls Try.prog 34 #[.agg #[.float .f32 r, .float .f32 b, .float .f32 o, sD, .slice pI nI capI, .slice pE nE capE]] w fun e w' => e = .returned (.int .i64 (eoE xE nE)) ∧ le w w' := by
  rcases hE.form with ⟨e9, e0⟩ | ⟨b8, o8, cap8, e8, hc8, hm8⟩
  · subst e0
    clear hE kE
    have F := (Frg.nil w).box 36 #[.float .f32 r, .float .f32 b, .float .f32 o, sD, .slice pI nI capI, .slice pE 0 capE]
    go_enter Try.func34, Try.ntmps34
    go_wp2_with (first | ((with_reducible refine listN F ?_); clear F; intro wN F) | ((with_reducible refine at_load rfl ?_); (with_reducible refine wpList_load1C rfl (g := w.heap.size) (f := 5) rfl (v := .slice _ _ _) (by kernel_rfl) (F.row m0) rfl ukindEventSI ?_)))
    go_ret
    exact ⟨rfl, F.below⟩
  simp only [Value.slice.injEq] at e8
  obtain ⟨rfl, _, rfl⟩ := e8
  rcases Nat.eq_zero_or_pos nE with h0 | h0
  · subst h0
    clear hE kE
    have F := (Frg.nil w).box 36 #[.float .f32 r, .float .f32 b, .float .f32 o, sD, .slice pI nI capI, .slice (some ⟨b8, o8, none⟩) 0 capE]
    go_enter Try.func34, Try.ntmps34
    go_wp2_with (first | ((with_reducible refine listN F ?_); clear F; intro wN F) | ((with_reducible refine at_load rfl ?_); (with_reducible refine wpList_load1C rfl (g := w.heap.size) (f := 5) rfl (v := .slice _ _ _) (by kernel_rfl) (F.row m0) rfl ukindEventSI ?_)))
    go_ret
    exact ⟨rfl, F.below⟩
  obtain ⟨k, rfl⟩ : ∃ k, nE = k + 1 := ⟨nE - 1, by omega⟩
  obtain ⟨_, _, _, _, cu⟩ := kE.vals hE (Nat.lt_succ_self k)
  have C0 := hid (fun (w' : World) (hl : le w w') => show w'.cell? ⟨b8, o8 + k * 6, none⟩ = some (.int .i64 (evA xE k)) by have h := cu 0 _ rfl; rw [add_none] at h; exact (Below.cell hl (cell_lt' h)).trans h)
  have e1 := hid (show eoE xE (k + 1) = evA xE k from rfl)
  clear hE kE cu h0
  unfold maxLen at hm8
  have F := (Frg.nil w).box 36 #[.float .f32 r, .float .f32 b, .float .f32 o, sD, .slice pI nI capI, .slice (some ⟨b8, o8, none⟩) (k + 1) capE]
  go_enter Try.func34, Try.ntmps34
  go_wp2_with (first | ((with_reducible refine listN F ?_); clear F; intro wN F) | ((with_reducible refine at_load rfl ?_); first | (with_reducible refine wpList_load1C rfl (g := w.heap.size) (f := 5) rfl (v := .slice _ _ _) (by kernel_rfl) (F.row m0) rfl ukindEventSI ?_) | (with_reducible refine wpList_load1G rfl (p := ⟨b8, o8 + k * 6, none⟩) rfl (v := .int .i64 (evA xE k)) (by kernel_rfl) (C0.out _ F.below) ukindInt64 ?_)) | (with_reducible refine wpList_indexW0 rfl rfl (b := b8) (off := o8) (n := k + 1) (cap := capE) (i := k) rfl rfl Try.underlying34 uinfoEventI (Nat.lt_succ_self k) ?_))
  go_ret
  exact ⟨by rw [e1.out]; rfl, F.below⟩
set_option maxRecDepth 100000 in
set_option maxHeartbeats 4000000 in
theorem i_EndOfScore (B : Nat) (sD : Value) (pI : Option Addr) (capI : Nat) (pE : Option Addr) (capE : Nat) (r b o : Nat) (xD : Nat → Nat) (nD : Nat) (xI : Nat → CD) (nI : Nat) (xE : Nat → CD) (nE : Nat) (w : World) (hD : (slT xD nD).RdN w B sD) (hI : (CD.sl 5 nI xI).RdN w B (.slice pI nI capI)) (hE : (CD.sl 6 nE xE).RdN w B (.slice pE nE capE)) (kI : InsOk xI nI) (kE : EvsOk xE nE) : Calls Try.prog 15 #[.agg #[.float .f32 r, .float .f32 b, .float .f32 o, sD, .slice pI nI capI, .slice pE nE capE]] w (Out_ii (if okSc r b o xD nD xI nI xE nE then eoE xE nE else 0) (if okSc r b o xD nD xI nI xE nE then 0 else 1) w) := by
  have HV := hid (fun (w1 : World) (hl : le w w1) => i_ValidScore B sD pI capI pE capE r b o xD nD xI nI xE nE w1 (hD.le hl) (hI.le hl) (hE.le hl) kI kE)
  have HM := hid (fun (w1 : World) (hl : le w w1) => i_end B r b o sD pI nI capI pE nE capE xE w1 (hE.le hl) kE)
  clear hD hI hE kI kE
  have F := (Frg.nil w).box 36 #[.float .f32 r, .float .f32 b, .float .f32 o, sD, .slice pI nI capI, .slice pE nE capE]
  generalize okSc r b o xD nD xI nI xE nE = ok at *
  cases ok
  all_goals
    go_enter Try.func15, Try.ntmps15
    go_wp2_with (first | ((with_reducible refine listN F ?_); clear F; intro wN F) | ((with_reducible refine at_load rfl ?_); (with_reducible refine wpList_loadG F rfl rfl rfl m0 Try.underlying36 rfl uinfoScoreI rfl ?_)) | (go_at_call 10; ((with_reducible refine (HV.out _ F.below).mono ?_); rintro e w1 ⟨rfl, hl⟩; replace F := F.le hl; clear hl)) | (go_at_call 34; ((with_reducible refine (HM.out _ F.below).mono ?_); rintro e w1 ⟨rfl, hl⟩; replace F := F.le hl; clear hl)))
    go_ret2
    exact ⟨rfl, F.below⟩
set_option maxRecDepth 100000 in
set_option maxHeartbeats 4000000 in
theorem s_EndOfScore (B : Nat) (sD : Value) (pI : Option Addr) (capI : Nat) (pE : Option Addr) (capE : Nat) (r b o : Nat) (xD : Nat → Nat) (nD : Nat) (xI : Nat → CD) (nI : Nat) (xE : Nat → CD) (nE : Nat) (w : World) (hD : (slT xD nD).RdN w B sD) (hI : (CD.sl 5 nI xI).RdN w B (.slice pI nI capI)) (hE : (CD.sl 6 nE xE).RdN w B (.slice pE nE capE)) (kI : InsOk xI nI) (kE : EvsOk xE nE) : Calls Try.prog 14 #[.agg #[.float .f32 r, .float .f32 b, .float .f32 o, sD, .slice pI nI capI, .slice pE nE capE]] w (Out_ii (if okSc r b o xD nD xI nI xE nE then eoE xE nE else 0) (if okSc r b o xD nD xI nI xE nE then 0 else 1) w) := by
  have HV := hid (fun (g : Nat) (w1 : World) (hl : le w w1) (R : Row w1 g 36 #[.float .f32 r, .float .f32 b, .float .f32 o, sD, .slice pI nI capI, .slice pE nE capE]) => s_l08Ok g B sD pI capI pE capE r b o xD nD xI nI xE nE w1 R (hD.le hl) (hI.le hl) (hE.le hl) kI kE)
  clear hD hI kI
  generalize okSc r b o xD nD xI nI xE nE = ok at *
  rcases hE.form with ⟨e9, e0⟩ | ⟨b8, o8, cap8, e8, hc8, hm8⟩
  · subst e0
    clear hE kE
    have F := (Frg.nil w).box 36 #[.float .f32 r, .float .f32 b, .float .f32 o, sD, .slice pI nI capI, .slice pE 0 capE]
    cases ok
    all_goals
      go_enter Try.func14, Try.ntmps14
      go_wp2_with (first | ((with_reducible refine listN F ?_); clear F; intro wN F) | ((with_reducible refine at_load rfl ?_); (with_reducible refine wpList_load1C rfl (g := w.heap.size) (f := 5) rfl (v := .slice _ _ _) (by kernel_rfl) (F.row m0) rfl ukindEventSI ?_)) | (go_at_call 21; ((with_reducible refine (HV.out _ _ F.below (F.row m0)).mono ?_); rintro e w1 ⟨rfl, hl⟩; replace F := F.le hl; clear hl)))
      go_ret2
      exact ⟨rfl, F.below⟩
  simp only [Value.slice.injEq] at e8
  obtain ⟨rfl, _, rfl⟩ := e8
  rcases Nat.eq_zero_or_pos nE with h0 | h0
  · subst h0
    clear hE kE
    have F := (Frg.nil w).box 36 #[.float .f32 r, .float .f32 b, .float .f32 o, sD, .slice pI nI capI, .slice (some ⟨b8, o8, none⟩) 0 capE]
    cases ok
    all_goals
      go_enter Try.func14, Try.ntmps14
      go_wp2_with (first | ((with_reducible refine listN F ?_); clear F; intro wN F) | ((with_reducible refine at_load rfl ?_); (with_reducible refine wpList_load1C rfl (g := w.heap.size) (f := 5) rfl (v := .slice _ _ _) (by kernel_rfl) (F.row m0) rfl ukindEventSI ?_)) | (go_at_call 21; ((with_reducible refine (HV.out _ _ F.below (F.row m0)).mono ?_); rintro e w1 ⟨rfl, hl⟩; replace F := F.le hl; clear hl)))
      go_ret2
      exact ⟨rfl, F.below⟩
  obtain ⟨k, rfl⟩ : ∃ k, nE = k + 1 := ⟨nE - 1, by omega⟩
  obtain ⟨_, _, _, _, cu⟩ := kE.vals hE (Nat.lt_succ_self k)
  have C0 := hid (fun (w' : World) (hl : le w w') => show w'.cell? ⟨b8, o8 + k * 6, none⟩ = some (.int .i64 (evA xE k)) by have h := cu 0 _ rfl; rw [add_none] at h; exact (Below.cell hl (cell_lt' h)).trans h)
  have e1 := hid (show eoE xE (k + 1) = evA xE k from rfl)
  clear hE kE cu h0
  unfold maxLen at hm8
  have F := (Frg.nil w).box 36 #[.float .f32 r, .float .f32 b, .float .f32 o, sD, .slice pI nI capI, .slice (some ⟨b8, o8, none⟩) (k + 1) capE]
  rw [e1.out]
  cases ok
  all_goals
    go_enter Try.func14, Try.ntmps14
    go_wp2_with (first | ((with_reducible refine listN F ?_); clear F; intro wN F) | ((with_reducible refine at_load rfl ?_); first | (with_reducible refine wpList_load1C rfl (g := w.heap.size) (f := 5) rfl (v := .slice _ _ _) (by kernel_rfl) (F.row m0) rfl ukindEventSI ?_) | (with_reducible refine wpList_load1G rfl (p := ⟨b8, o8 + k * 6, none⟩) rfl (v := .int .i64 (evA xE k)) (by kernel_rfl) (C0.out _ F.below) ukindInt64 ?_)) | (with_reducible refine wpList_indexW0 rfl rfl (b := b8) (off := o8) (n := k + 1) (cap := capE) (i := k) rfl rfl Try.underlying34 uinfoEventI (Nat.lt_succ_self k) ?_) | (go_at_call 21; ((with_reducible refine (HV.out _ _ F.below (F.row m0)).mono ?_); rintro e w1 ⟨rfl, hl⟩; replace F := F.le hl; clear hl)))
    go_ret2
    exact ⟨rfl, F.below⟩
theorem both_EndOfScore (cs : List CD) (h : HasShL shScore cs) : ∃ ar0 ar1 : Int, (∀ (w : World) (B : Nat) (u : List Value), RdLN w B (cs.map CD.cp) u → Calls Try.prog 14 #[.agg u.toArray] w (Out_ii ar0 ar1 w)) ∧ (∀ (w : World) (B : Nat) (u : List Value), RdLN w B (cs.map CD.cp) u → Calls Try.prog 15 #[.agg u.toArray] w (Out_ii ar0 ar1 w)) := by
  obtain ⟨r, b, o, xD, nD, xI, nI, xE, nE, rfl, hx, kI, kE⟩ := score_data h
  refine ⟨if okSc r b o (fun i => (xD i).fx) nD (fun i => (xI i).cn) nI (fun i => (xE i).cn) nE then eoE (fun i => (xE i).cn) nE else 0, if okSc r b o (fun i => (xD i).fx) nD (fun i => (xI i).cn) nI (fun i => (xE i).cn) nE then 0 else 1, fun w B u hu => ?_, fun w B u hu => ?_⟩
  · obtain ⟨sD, pI, cI, pE, cE, rfl, hD, hI, hE⟩ := score_parts hu hx
    exact s_EndOfScore B sD pI cI pE cE r b o (fun i => (xD i).fx) nD (fun i => (xI i).cn) nI (fun i => (xE i).cn) nE w hD hI hE kI kE
  · obtain ⟨sD, pI, cI, pE, cE, rfl, hD, hI, hE⟩ := score_parts hu hx
    exact i_EndOfScore B sD pI cI pE cE r b o (fun i => (xD i).fx) nD (fun i => (xI i).cn) nI (fun i => (xE i).cn) nE w hD hI hE kI kE
end Go.Proofs.Ytnkjmgadnejdlad

/- The walk of 'FnExactEndOfScore'. -/
namespace Go.Proofs.Ytnkjmgadnejdlad.fnExactEndOfScore
open Go.RowKit Go.Fk
set_option maxRecDepth 100000 in
set_option maxHeartbeats 4000000 in
theorem core (cs0 : List CD) (vs0 : List Value) (ar0 : Int) (ar1 : Int) (w : World) (z0 : RdL w w.heap.size cs0 vs0) (k0 : ShOkL shScore cs0) (hz : szL cs0 ≤ 1048576)
    (hS : ∀ (w : World) (B0 : Nat) (u0 : List Value), RdLN w B0 (cs0.map CD.cp) u0 → Calls Try.prog 14 #[.agg u0.toArray] w (Out_ii ar0 ar1 w))
    (hI : ∀ (w : World) (B0 : Nat) (u0 : List Value), RdLN w B0 (cs0.map CD.cp) u0 → Calls Try.prog 15 #[.agg u0.toArray] w (Out_ii ar0 ar1 w)) :
    Calls Try.prog 5 #[.agg vs0.toArray] w fun e w' => e = .returned (.bool true) ∧ Below w.heap.size w w' := by
  have Z0 := hid z0; have K0 := hid k0; have hl0 : Hid (vs0.length = 6) := z0.1.trans k0.1; clear z0 k0
  have hz0 : szL cs0 ≤ 1048576 := by omega
  have hm0 : ¬ (1048576 : Int) - (szL cs0 : Nat) < 0 := by omega
  have HS := hid hS; have HI := hid hI; clear hS hI
  have F := Frg.nil w
  replace F := F.box 29 vs0.toArray
  go_enter Try.func5, Try.ntmps5
  go_wp2_with (first | (((with_reducible refine listN F ?_); clear F; intro wN F)) | ((with_reducible refine at_loadU rfl rfl ?_); first | (with_reducible refine wpList_loadG F rfl rfl rfl (by first | exact m0 | exact m1 | exact m2 | exact m3 | exact m4 | exact m5 | exact m6 | exact m7 | exact m8) Try.underlying36 rfl uinfoScoreI (by simp only [List.size_toArray]; first | exact hl0.out | exact hl1.out | exact hu0.out | exact hu1.out) ?_) | (with_reducible refine wpList_loadG F rfl rfl rfl (by first | exact m0 | exact m1 | exact m2 | exact m3 | exact m4 | exact m5 | exact m6 | exact m7 | exact m8) Try.underlying29 rfl uinfoScoreL (by simp only [List.size_toArray]; first | exact hl0.out | exact hl1.out | exact hu0.out | exact hu1.out) ?_)) | (go_at_call 7; ((with_reducible refine (szU_Score _ cs0 vs0 (1048576 : Int) ((1048576 : Int) - (szL cs0 : Nat)) _ (Z0.out.le F.below) K0.out (by omega) (by omega) (lessBy_pos hm0)).mono ?_); rintro e w1 ⟨rfl, hb1⟩; replace F := F.le hb1)) | (go_at_call 9; ((with_reducible refine (toU_Score _ cs0 vs0 _ (Z0.out.le F.below) K0.out hz0).mono ?_); rintro e w1 ⟨usA0, rfl, ho, hl⟩; have hu0 : Hid (usA0.length = 6) := ho.1.trans ((List.length_map ..).trans K0.out.1); have ho0 := hid ho.all_one; replace F := F.lay1 hl ho; clear ho hl)))
  first | ((with_reducible refine callAt0 F ?_); clear F; intro wN F) | ((with_reducible refine callAtN F ?_); clear F; intro wN F)
  refine (HS.out _ _ _ (F.layN (by first | exact m0 | exact m1 | exact m2 | exact m3 | exact m4 | exact m5 | exact m6 | exact m7 | exact m8))).mono ?_
  rintro e wS ⟨rfl, hlS⟩
  replace F := F.le hlS
  go_wp2_with (first | (((with_reducible refine listN F ?_); clear F; intro wN F)) | ((with_reducible refine at_store rfl ?_); first | (refine wpList_storeG F rfl rfl rfl rfl rfl (by simp only [List.size_toArray]; first | (rw [hu0.out]; exact uinfoScoreI) | (rw [hu1.out]; exact uinfoScoreI)) (by simp only [List.size_toArray]; first | (rw [hu0.out]; rfl) | (rw [hu1.out]; rfl)) (by first | exact ho0.out | exact ho1.out) ?_; clear F; intro W F zW; clear zW)) | ((with_reducible refine at_loadU rfl rfl ?_); first | (with_reducible refine wpList_loadG F rfl rfl rfl (by first | exact m0 | exact m1 | exact m2 | exact m3 | exact m4 | exact m5 | exact m6 | exact m7 | exact m8) Try.underlying36 rfl uinfoScoreI (by simp only [List.size_toArray]; first | exact hl0.out | exact hl1.out | exact hu0.out | exact hu1.out) ?_) | (with_reducible refine wpList_loadG F rfl rfl rfl (by first | exact m0 | exact m1 | exact m2 | exact m3 | exact m4 | exact m5 | exact m6 | exact m7 | exact m8) Try.underlying29 rfl uinfoScoreL (by simp only [List.size_toArray]; first | exact hl0.out | exact hl1.out | exact hu0.out | exact hu1.out) ?_)) | (go_at_call 9; ((with_reducible refine (toU_Score _ cs0 vs0 _ (Z0.out.le F.below) K0.out hz0).mono ?_); rintro e w1 ⟨usB0, rfl, ho, hl⟩; have hu0 : Hid (usB0.length = 6) := ho.1.trans ((List.length_map ..).trans K0.out.1); have ho0 := hid ho.all_one; replace F := F.lay1 hl ho; clear ho hl)))
  first | ((with_reducible refine callAt0 F ?_); clear F; intro wN F) | ((with_reducible refine callAtN F ?_); clear F; intro wN F)
  refine (HI.out _ _ _ (F.layN (by first | exact m0 | exact m1 | exact m2 | exact m3 | exact m4 | exact m5 | exact m6 | exact m7 | exact m8))).mono ?_
  rintro e wI ⟨rfl, hlI⟩
  replace F := F.le hlI
  go_wp2_with (first | (((with_reducible refine listN F ?_); clear F; intro wN F)) | ((with_reducible refine at_store rfl ?_); first | (refine wpList_storeG F rfl rfl rfl rfl rfl (by simp only [List.size_toArray]; first | (rw [hu0.out]; exact uinfoScoreI) | (rw [hu1.out]; exact uinfoScoreI)) (by simp only [List.size_toArray]; first | (rw [hu0.out]; rfl) | (rw [hu1.out]; rfl)) (by first | exact ho0.out | exact ho1.out) ?_; clear F; intro W F zW; clear zW)) | ((with_reducible refine at_loadU rfl rfl ?_); first | (with_reducible refine wpList_loadG F rfl rfl rfl (by first | exact m0 | exact m1 | exact m2 | exact m3 | exact m4 | exact m5 | exact m6 | exact m7 | exact m8) Try.underlying36 rfl uinfoScoreI (by simp only [List.size_toArray]; first | exact hl0.out | exact hl1.out | exact hu0.out | exact hu1.out) ?_) | (with_reducible refine wpList_loadG F rfl rfl rfl (by first | exact m0 | exact m1 | exact m2 | exact m3 | exact m4 | exact m5 | exact m6 | exact m7 | exact m8) Try.underlying29 rfl uinfoScoreL (by simp only [List.size_toArray]; first | exact hl0.out | exact hl1.out | exact hu0.out | exact hu1.out) ?_)))
  first | (refine wpAt0 F ?_; clear F; intro wN F) | (refine wpAtN F ?_; clear F; intro wN F)
  refine region_freeD (E := leX) (fun f _ w v => if f = 9 then ∃ (us : List Value) (B : Nat), v = .agg us.toArray ∧ RdL w B (cs0.map CD.cp) us else v = .bool true) (by kernel_rfl) (by kernel_rfl) ?_
  refine wpFreeD_loadG F rfl rfl rfl rfl (by first | exact m0 | exact m1 | exact m2 | exact m3 | exact m4 | exact m5 | exact m6 | exact m7 | exact m8) Try.underlying36 rfl uinfoScoreI (by simp only [List.size_toArray]; exact hu0.out) ?_
  simp only [Act.put, List.setIfInBounds_toArray, List.set_cons_succ, List.set_cons_zero]
  refine wpFreeD_loadG F rfl rfl rfl rfl (by first | exact m0 | exact m1 | exact m2 | exact m3 | exact m4 | exact m5 | exact m6 | exact m7 | exact m8) Try.underlying29 rfl uinfoScoreL (by simp only [List.size_toArray]; exact hl0.out) ?_
  simp only [Act.put, List.setIfInBounds_toArray, List.set_cons_succ, List.set_cons_zero]
  refine wpFreeD_callB rfl rfl Try.func9 (by kernel_rfl) (by kernel_rfl) (args := #[.agg vs0.toArray]) (by simp [Act.eval]) (fun v w1 w2 hw hv => by simp only [if_true] at hv ⊢; obtain ⟨u, B, h1, h2⟩ := hv; exact ⟨u, B, h1, h2.le hw⟩) (fun w1 hw1 _ => (toU_Score _ cs0 vs0 w1 (Z0.out.le (le_trans (F.drewN _).below hw1)) K0.out hz0).mono ?_) ?_
  · rintro e w2 ⟨u, rfl, ho, hl⟩
    exact ⟨_, rfl, hl, by simp only [if_true]; exact ⟨u, _, rfl, ho.rd (fun _ hj => hj.2)⟩⟩
  rintro v ⟨_, _, _, hv⟩
  simp only [if_true] at hv
  obtain ⟨u0, Bu0, rfl, _⟩ := hv
  simp only [Act.put, List.setIfInBounds_toArray, List.set_cons_succ, List.set_cons_zero]
  refine wpFreeD_callB rfl rfl Try.func11 (by kernel_rfl) (by kernel_rfl) (args := #[.agg usB0.toArray, .agg u0.toArray]) (by simp [Act.eval]) (fun v w1 w2 hw hv => by simp only [show ¬ (11 = 9) by decide, if_false] at hv ⊢; exact hv) (fun w1 hw1 hbe => ?_) ?_
  · have hk := (hbe ⟨2, Ground.data⟩ (by simp) (by kernel_rfl)).2 rfl
    simp only [if_true] at hk
    obtain ⟨u', B', he, hr⟩ := hk
    obtain rfl : u0 = u' := by simpa using he
    refine (eqU_Score _ _ (cs0.map CD.cp) _ _ _ (((F.drewN 1).le hw1).layR (by first | exact m0 | exact m1 | exact m2 | exact m3 | exact m4 | exact m5 | exact m6 | exact m7 | exact m8)) hr K0.out.cp (by rw [szL_cp]; exact hz0)).mono ?_
    rintro e w2 ⟨rfl, hl⟩
    exact ⟨_, rfl, hl, by simp only [show ¬ (11 = 9) by decide, if_false]⟩
  rintro v ⟨_, _, _, hv⟩
  simp only [show ¬ (11 = 9) by decide, if_false] at hv
  subst hv
  simp only [Act.put, List.setIfInBounds_toArray, List.set_cons_succ, List.set_cons_zero]
  refine wpFreeD_one rfl (.bool false) (fun w1 _ => by kernel_rfl) ?_
  simp only [Act.put, List.setIfInBounds_toArray, List.set_cons_succ, List.set_cons_zero]
  refine wpFreeD_nil (fun wR hwR _ => ?_)
  replace F := (F.drewN 1).le hwR
  clear hwR
  go_wp2_with (first | (((with_reducible refine listN F ?_); clear F; intro wN F)) | ((with_reducible refine at_loadU rfl rfl ?_); first | (with_reducible refine wpList_loadG F rfl rfl rfl (by first | exact m0 | exact m1 | exact m2 | exact m3 | exact m4 | exact m5 | exact m6 | exact m7 | exact m8) Try.underlying36 rfl uinfoScoreI (by simp only [List.size_toArray]; first | exact hl0.out | exact hl1.out | exact hu0.out | exact hu1.out) ?_) | (with_reducible refine wpList_loadG F rfl rfl rfl (by first | exact m0 | exact m1 | exact m2 | exact m3 | exact m4 | exact m5 | exact m6 | exact m7 | exact m8) Try.underlying29 rfl uinfoScoreL (by simp only [List.size_toArray]; first | exact hl0.out | exact hl1.out | exact hu0.out | exact hu1.out) ?_)))
  go_ret
  first | exact ⟨rfl, F.below⟩ | exact ⟨rfl, below_drewN F.below _⟩
set_option maxRecDepth 100000 in
set_option maxHeartbeats 4000000 in
theorem large0 (cs0 : List CD) (vs0 : List Value) (w : World) (z0 : RdL w w.heap.size cs0 vs0) (k0 : ShOkL shScore cs0)  (hg : ¬ szL cs0 ≤ 1048576) :
    Calls Try.prog 5 #[.agg vs0.toArray] w fun e w' => e = .returned (.bool true) ∧ Below w.heap.size w w' := by
  have Z0 := hid z0; have K0 := hid k0; have hl0 : Hid (vs0.length = 6) := z0.1.trans k0.1; clear z0 k0
  have hn0 : (1048576 : Int) - (szL cs0 : Nat) < 0 := by omega
  have F := Frg.nil w
  replace F := F.box 29 vs0.toArray
  go_enter Try.func5, Try.ntmps5
  go_wp2_with (first | (((with_reducible refine listN F ?_); clear F; intro wN F)) | ((with_reducible refine at_loadU rfl rfl ?_); first | (with_reducible refine wpList_loadG F rfl rfl rfl (by first | exact m0 | exact m1 | exact m2 | exact m3 | exact m4 | exact m5 | exact m6 | exact m7 | exact m8) Try.underlying36 rfl uinfoScoreI (by simp only [List.size_toArray]; first | exact hl0.out | exact hl1.out | exact hu0.out | exact hu1.out) ?_) | (with_reducible refine wpList_loadG F rfl rfl rfl (by first | exact m0 | exact m1 | exact m2 | exact m3 | exact m4 | exact m5 | exact m6 | exact m7 | exact m8) Try.underlying29 rfl uinfoScoreL (by simp only [List.size_toArray]; first | exact hl0.out | exact hl1.out | exact hu0.out | exact hu1.out) ?_)) | (go_at_call 7; ((with_reducible refine (szU_Score _ cs0 vs0 (1048576 : Int) (-1 : Int) _ (Z0.out.le F.below) K0.out (by omega) (by omega) (lessBy_neg hn0)).mono ?_); rintro e w1 ⟨rfl, hb1⟩; replace F := F.le hb1)))
  go_ret
  first | exact ⟨rfl, F.below⟩ | exact ⟨rfl, below_drewN F.below _⟩
theorem walk (cs0 : List CD) (vs0 : List Value) (w : World) (k0 : HasShL shScore cs0) (z0 : RdL w w.heap.size cs0 vs0) :
    Calls Try.prog 5 #[.agg vs0.toArray] w fun e w' => e = .returned (.bool true) ∧ Below w.heap.size w w' := by
  by_cases g0 : szL cs0 ≤ 1048576
  · skip
    obtain ⟨ar0, ar1, hS, hI⟩ := both_EndOfScore cs0 k0
    exact core cs0 vs0 ar0 ar1 w z0 k0.ok g0 hS hI
  · exact large0 cs0 vs0 w z0 k0.ok  g0
end Go.Proofs.Ytnkjmgadnejdlad.fnExactEndOfScore
