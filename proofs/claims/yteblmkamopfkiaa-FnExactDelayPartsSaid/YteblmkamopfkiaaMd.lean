/- Texts of the walk, laid in one file. -/
import Derived.Test.YteblmkamopfkiaaMc
set_option linter.unusedVariables false
set_option linter.unusedSimpArgs false
/- 'ReadBetween' of both. -/
namespace Go.Fk
open Go Go.RowKit
/-- Is a number from 1 to a length? In two parts. -/
def ge1 (d : Nat) : Bool := FloatKind.f32.format.order d 1065353216 == some .gt || FloatKind.f32.format.order d 1065353216 == some .eq
def leN (d n : Nat) : Bool := FloatKind.f32.format.order d (floatOfInt .f32 (n : Int)) == some .lt || FloatKind.f32.format.order d (floatOfInt .f32 (n : Int)) == some .eq
def inTo (d n : Nat) : Bool := withinB d 1065353216 (floatOfInt .f32 (n : Int))
/-- What lies between two samples. -/
def betwR (x : Nat → Nat) (n j d : Nat) : Nat :=
  if (FloatKind.f32.format.order (shareW d) 0 == some .eq) = true then x (backJ n j (wholeW d))
  else fop .add .f32 (x (backJ n j (wholeW d))) (fop .mul .f32 (shareW d) (fop .sub .f32 (x (backJ n j (wholeW d + 1))) (x (backJ n j (wholeW d)))))
def BetwC (x : Nat → Nat) (n : Nat) (k : Int) (d v : Nat) (c : Int) : Prop :=
  (okRing n k = false ∧ v = 0 ∧ c = 1) ∨ (okRing n k = true ∧ inTo d n = false ∧ v = 0 ∧ c = 2) ∨ (okRing n k = true ∧ inTo d n = true ∧ v = betwR x n k.toNat d ∧ c = 0)
theorem betw_val {x : Nat → Nat} {n j d p y1 y2 r1 r2 r : Nat} (hz : (FloatKind.f32.format.order (shareW d) 0 == some .eq) = false) (hp : p = shareW d) (h1 : can .f32 y1 = x (backJ n j (wholeW d))) (h2 : can .f32 y2 = x (backJ n j (wholeW d + 1)))
    (e1 : can .f32 r1 = fop .sub .f32 y2 y1) (e2 : can .f32 r2 = fop .mul .f32 p r1) (e3 : can .f32 r = fop .add .f32 y1 r2) : can .f32 r = betwR x n j d := by
  unfold betwR
  rw [if_neg (by rw [hz]; decide), ← h1, ← h2, fop_can_l, fop_can_l .sub, fop_can_r .sub, ← hp, e3, ← fop_can_r .add .f32 y1 r2, e2, ← fop_can_r .mul .f32 p r1, e1]
end Go.Fk
namespace Go.Proofs.Yteblmkamopfkiaa
open Go.RowKit Go.Fk
theorem toI64 {d k : Nat} (h : floatToIntVal .f32 d .i64 = some (k : Int)) : ∀ w, (convert 22 2 (.float .f32 d)).run Try.prog w = .ok (.int .i64 (k : Int)) w := by
  intro w
  exact run_convert_float_int (P := Try.prog) w _ _ .f32 .i64 _ _ (by rw [Try.underlying22]; rfl) Try.underlying2 h
end Go.Proofs.Yteblmkamopfkiaa

/- 'DelayParts' of both. -/
namespace Go.Fk
open Go Go.RowKit
def Out_ifi (ar0 : Int) (ar1 : Nat) (ar2 : Int) (w : World) (e : Ending) (w' : World) : Prop := ∃ (v1 : Nat), e = .returned (.tuple #[.int .i64 ar0, .float .f32 v1, .int .i64 ar2]) ∧ can .f32 v1 = ar1 ∧ le w w'
def okDP (d : Nat) : Bool := withinB d 1073741824 1148846080
/-- The whole part of a delay, at least a quarter below it. -/
def nDP (d : Nat) : Nat := if FloatKind.f32.format.order (shareW d) 1048576000 == some .lt then wholeW d - 1 else wholeW d
def frDP (d : Nat) : Nat := fop .sub .f32 d (floatOfInt .f32 (nDP d : Int))
theorem val_1000f : val .f32 1148846080 = 1000 * one32 ∧ isNan .f32 1148846080 = false := by decide +kernel
theorem val_2f : val .f32 1073741824 = 2 * one32 ∧ isNan .f32 1073741824 = false := by decide +kernel
theorem dp_int {d : Nat} (h : okDP d = true) : floatToIntVal .f32 d .i64 = some (wholeW d : Int) ∧ 2 ≤ wholeW d ∧ wholeW d ≤ 1000 ∧ (∀ r, can .f64 r = can .f64 (integ .down (widen d)) → floatToIntVal .f64 r .i64 = some (wholeW d : Int)) := by
  obtain ⟨hn, h1, h2⟩ := within_val val_2f.2 val_1000f.2 h
  rw [val_2f.1] at h1
  rw [val_1000f.1] at h2
  have hU := one32_pos
  have q1 := Int.tdiv_le_tdiv hU h1
  have q2 := Int.tdiv_le_tdiv hU h2
  rw [Int.mul_tdiv_cancel _ (by omega)] at q1 q2
  refine ⟨?_, ?_, ?_, fun r hr => floor_int hn (by omega) (by omega) hr⟩
  · rw [floatToInt_val32 hn (by omega) (by omega)]
    unfold wholeW
    rw [Int.toNat_of_nonneg (by omega)]
  · unfold wholeW; omega
  · unfold wholeW; omega
end Go.Fk
namespace Go.Proofs.Yteblmkamopfkiaa
open Go.RowKit Go.Fk
set_option maxRecDepth 100000 in
set_option maxHeartbeats 4000000 in
theorem i_wholeD (d : Nat) (w : World) (h : okDP d = true) :
    Calls Try.prog 73 #[.float .f32 d] w fun e w' => ∃ r, e = .returned (.tuple #[.int .i64 (nDP d : Nat), .float .f32 r]) ∧ can .f32 r = frDP d ∧ ∃ m, w' = w.drewN m := by
  obtain ⟨hi, h1, h2, _⟩ := dp_int h
  have HN : Hid (nDP d = if (FloatKind.f32.format.order (shareW d) 1048576000 == some .lt) = true then wholeW d - 1 else wholeW d) := rfl
  have HF : Hid (frDP d = fop .sub .f32 d (floatOfInt .f32 (nDP d : Int))) := rfl
  have HS : Hid (shareW d = fop .sub .f32 d (floatOfInt .f32 (wholeW d : Int))) := rfl
  have HI := hid (toI64 hi)
  clear hi h
  generalize nDP d = n at *
  generalize frDP d = fr at *
  generalize shareW d = sh at *
  generalize wholeW d = k at *
  have HC := hid (fun (q : Nat) (hq : Hid (can .f32 q = fop .sub .f32 d (floatOfInt .f32 (k : Int)))) => (show FloatKind.f32.format.order q 1048576000 = FloatKind.f32.format.order sh 1048576000 by rw [HS.out, ← hq.out, order_can_l]))
  cases hb : (FloatKind.f32.format.order sh 1048576000 == some .lt)
  · have hn : n = k := by rw [HN.out, hb]; rfl
    subst hn
    have HB := hid hb
    clear hb
    go_enter Try.func73, Try.ntmps73
    go_wp2_with (first | (with_reducible refine wpList_toInt rfl rfl rfl HI.out ?_) | (with_reducible refine wpList_farith (op := .sub) rfl rfl rfl rfl rfl ?_; intro q n1 hq fq; (try have hcq : (FloatKind.f32.format.order q 1048576000 == some .lt) = false := (congrArg (· == some .lt) (HC.out q hq)).trans HB.out)))
    go_ret2
    exact ⟨_, rfl, hq.out.trans HF.out.symm, _, rfl⟩
  · obtain ⟨k', rfl⟩ : ∃ k', k = k' + 1 := ⟨k - 1, by omega⟩
    have hn : n = k' := by rw [HN.out, hb]; rfl
    subst hn
    have HC2 := hid (fun (q : Nat) (hq : Hid (can .f32 q = fop .sub .f32 d (floatOfInt .f32 ((n : Int) + 1)))) => HC.out q (show Hid (can .f32 q = fop .sub .f32 d (floatOfInt .f32 ((n + 1 : Nat) : Int))) from by rw [Int.natCast_add]; exact hq))
    clear HC
    have HB := hid hb
    clear hb
    go_enter Try.func73, Try.ntmps73
    go_wp2_with (first | (with_reducible refine wpList_toInt rfl rfl rfl HI.out ?_) | (with_reducible refine wpList_farith (op := .sub) rfl rfl rfl rfl rfl ?_; intro q n1 hq fq; (try have hcq : (FloatKind.f32.format.order q 1048576000 == some .lt) = true := (congrArg (· == some .lt) (HC2.out q hq)).trans HB.out)))
    go_ret2
    exact ⟨_, rfl, hq.out.trans HF.out.symm, _, rfl⟩
set_option maxRecDepth 100000 in
set_option maxHeartbeats 4000000 in
theorem i_DelayParts (d : Nat) (w : World) : Calls Try.prog 40 #[.float .f32 d] w (Out_ifi (if okDP d then (nDP d : Nat) else 0) (if okDP d then frDP d else 0) (if okDP d then 0 else 2) w) := by
  have HW := hid (fun w' => i_isWithin d 1073741824 1148846080 w')
  cases h : okDP d
  · rw [show withinB d 1073741824 1148846080 = false from h] at HW
    clear h
    go_enter Try.func40, Try.ntmps40
    go_wp2_with (go_at_call 49; ((with_reducible refine (HW.out _).mono ?_); rintro e w1 ⟨rfl, rfl⟩))
    refine bodyPost_ret (v := .tuple #[.int .i64 0, .float .f32 0, .int .i64 2]) (by simp [results, Try.results40, go_sem]) rfl ?_
    exact ⟨_, rfl, by decide, le_refl _⟩
  · rw [show withinB d 1073741824 1148846080 = true from h] at HW
    have HF := hid (fun w' => i_wholeD d w' h)
    clear h
    go_enter Try.func40, Try.ntmps40
    go_wp2_with (first | (go_at_call 49; ((with_reducible refine (HW.out _).mono ?_); rintro e w1 ⟨rfl, rfl⟩)) | (go_at_call 73; ((with_reducible refine (HF.out _).mono ?_); rintro e w2 ⟨r, rfl, hr, m2, rfl⟩; have HR := hid hr; clear hr)))
    refine bodyPost_ret (v := .tuple #[.int .i64 (nDP d : Nat), .float .f32 r, .int .i64 0]) (by simp [results, Try.results40, go_sem]) rfl ?_
    exact ⟨_, rfl, HR.out, le_drewN _ _⟩
set_option maxRecDepth 100000 in
set_option maxHeartbeats 4000000 in
theorem s_DelayParts (d : Nat) (w : World) : Calls Try.prog 39 #[.float .f32 d] w (Out_ifi (if okDP d then (nDP d : Nat) else 0) (if okDP d then frDP d else 0) (if okDP d then 0 else 2) w) := by
  cases w1 : (FloatKind.f32.format.order d 1073741824 == some .gt || FloatKind.f32.format.order d 1073741824 == some .eq)
  · have h : okDP d = false := by unfold okDP withinB; rw [w1, Bool.false_and]
    rw [h]
    clear h
    go_enter Try.func39, Try.ntmps39
    go_wp2
    refine bodyPost_ret (v := .tuple #[.int .i64 0, .float .f32 0, .int .i64 2]) (by simp [results, Try.results39, go_sem]) rfl ?_
    exact ⟨_, rfl, by decide, le_refl _⟩
  cases w2 : (FloatKind.f32.format.order d 1148846080 == some .lt || FloatKind.f32.format.order d 1148846080 == some .eq)
  · have h : okDP d = false := by unfold okDP withinB; rw [w1, w2, Bool.true_and]
    rw [h]
    clear h
    go_enter Try.func39, Try.ntmps39
    go_wp2
    refine bodyPost_ret (v := .tuple #[.int .i64 0, .float .f32 0, .int .i64 2]) (by simp [results, Try.results39, go_sem]) rfl ?_
    exact ⟨_, rfl, by decide, le_refl _⟩
  have h : okDP d = true := by unfold okDP withinB; rw [w1, w2, Bool.true_and]
  rw [h, if_pos rfl, if_pos rfl, if_pos rfl]
  obtain ⟨_, h1, h2, hi⟩ := dp_int h
  have HN : Hid (nDP d = if (FloatKind.f32.format.order (shareW d) 1048576000 == some .lt) = true then wholeW d - 1 else wholeW d) := rfl
  have HF : Hid (frDP d = fop .sub .f32 d (floatOfInt .f32 (nDP d : Int))) := rfl
  have HS : Hid (shareW d = fop .sub .f32 d (floatOfInt .f32 (wholeW d : Int))) := rfl
  have HFL := hid hi
  clear hi h
  generalize nDP d = n at *
  generalize frDP d = fr0 at *
  generalize shareW d = sh at *
  generalize wholeW d = k at *
  have HC := hid (fun (q : Nat) (hq : Hid (can .f32 q = fop .sub .f32 d (floatOfInt .f32 (k : Int)))) => (show FloatKind.f32.format.order q 1048576000 = FloatKind.f32.format.order sh 1048576000 by rw [HS.out, ← hq.out, order_can_l]))
  cases hb : (FloatKind.f32.format.order sh 1048576000 == some .lt)
  · have hn : n = k := by rw [HN.out, hb]; rfl
    subst hn
    have HB := hid hb
    clear hb
    go_enter Try.func39, Try.ntmps39
    go_wp2_with (first | (with_reducible refine wpList_widen rfl rfl rfl Try.underlying22 Try.underlying26 ?_; intro s1 ns1 es1 fs1) | (go_at_call 50; refine (floor_any _ _ (by assumption)).mono ?_; rintro e w' ⟨fr, fn, rfl, hfr, rfl⟩; have HI := hid (toI64Z (HFL.out fr (hfr.out.1.trans (congrArg (can .f64) (integ_congr es1.out)))))) | (with_reducible refine wpList_toIntD rfl rfl rfl HI.out ?_) | (with_reducible refine wpList_farith (op := .sub) rfl rfl rfl rfl rfl ?_; intro q n1 hq fq; (try have hcq : (FloatKind.f32.format.order q 1048576000 == some .lt) = false := (congrArg (· == some .lt) (HC.out q hq)).trans HB.out)))
    refine bodyPost_ret (v := .tuple #[.int .i64 (n : Nat), .float .f32 q, .int .i64 0]) (by simp [results, Try.results39, go_sem]) rfl ?_
    exact ⟨_, rfl, hq.out.trans HF.out.symm, le_drewN _ _⟩
  · obtain ⟨k', rfl⟩ : ∃ k', k = k' + 1 := ⟨k - 1, by omega⟩
    have hn : n = k' := by rw [HN.out, hb]; rfl
    subst hn
    have HC2 := hid (fun (q : Nat) (hq : Hid (can .f32 q = fop .sub .f32 d (floatOfInt .f32 ((n : Int) + 1)))) => HC.out q (show Hid (can .f32 q = fop .sub .f32 d (floatOfInt .f32 ((n + 1 : Nat) : Int))) from by rw [Int.natCast_add]; exact hq))
    clear HC
    have HB := hid hb
    clear hb
    go_enter Try.func39, Try.ntmps39
    go_wp2_with (first | (with_reducible refine wpList_widen rfl rfl rfl Try.underlying22 Try.underlying26 ?_; intro s1 ns1 es1 fs1) | (go_at_call 50; refine (floor_any _ _ (by assumption)).mono ?_; rintro e w' ⟨fr, fn, rfl, hfr, rfl⟩; have HI := hid (toI64Z (HFL.out fr (hfr.out.1.trans (congrArg (can .f64) (integ_congr es1.out)))))) | (with_reducible refine wpList_toIntD rfl rfl rfl HI.out ?_) | (with_reducible refine wpList_farith (op := .sub) rfl rfl rfl rfl rfl ?_; intro q n1 hq fq; (try have hcq : (FloatKind.f32.format.order q 1048576000 == some .lt) = true := (congrArg (· == some .lt) (HC2.out q hq)).trans HB.out)))
    refine bodyPost_ret (v := .tuple #[.int .i64 (n : Nat), .float .f32 q, .int .i64 0]) (by simp [results, Try.results39, go_sem]) rfl ?_
    exact ⟨_, rfl, hq.out.trans HF.out.symm, le_drewN _ _⟩
theorem both_DelayParts (a : Nat) : ∃ (ar0 : Int) (ar1 : Nat) (ar2 : Int), (∀ w : World, Calls Try.prog 39 #[.float .f32 a] w (Out_ifi ar0 ar1 ar2 w)) ∧ (∀ w : World, Calls Try.prog 40 #[.float .f32 a] w (Out_ifi ar0 ar1 ar2 w)) :=
  ⟨_, _, _, s_DelayParts a, i_DelayParts a⟩
end Go.Proofs.Yteblmkamopfkiaa

/- The walk of 'FnExactDelayParts'. -/
namespace Go.Proofs.Yteblmkamopfkiaa.fnExactDelayParts
open Go.RowKit Go.Fk
set_option maxRecDepth 100000 in
set_option maxHeartbeats 4000000 in
theorem core (a0 : Nat) (ar0 : Int) (ar1 : Nat) (ar2 : Int) (w : World)  
    (hS : ∀ (w : World), Calls Try.prog 39 #[.float .f32 a0] w (Out_ifi ar0 ar1 ar2 w))
    (hI : ∀ (w : World), Calls Try.prog 40 #[.float .f32 a0] w (Out_ifi ar0 ar1 ar2 w)) :
    Calls Try.prog 12 #[.float .f32 a0] w fun e w' => e = .returned (.bool true) ∧ Below w.heap.size w w' := by
  have HS := hid hS; have HI := hid hI; clear hS hI
  have F := Frg.nil w
  go_enter Try.func12, Try.ntmps12
  go_wp2_with (first | (((with_reducible refine listN F ?_); clear F; intro wN F)) | fail)
  first | ((with_reducible refine callAt0 F ?_); clear F; intro wN F) | ((with_reducible refine callAtN F ?_); clear F; intro wN F)
  refine (HS.out _  ).mono ?_
  rintro e wS ⟨vS1, rfl, cS1, hlS⟩
  replace cS1 := hid cS1
  (replace F := F.le hlS)
  go_wp2_with (first | (((with_reducible refine listN F ?_); clear F; intro wN F)) | fail)
  first | ((with_reducible refine callAt0 F ?_); clear F; intro wN F) | ((with_reducible refine callAtN F ?_); clear F; intro wN F)
  refine (HI.out _  ).mono ?_
  rintro e wI ⟨vI1, rfl, cI1, hlI⟩
  replace cI1 := hid cI1
  (replace F := F.le hlI)
  go_wp2_with (first | (((with_reducible refine listN F ?_); clear F; intro wN F)) | ((with_reducible refine at_convert rfl ?_); first | (with_reducible refine wpList_widen rfl rfl rfl Try.underlying22 Try.underlying26 ?_; intro s1 n1 h1 f1) | (with_reducible refine wpList_widenG rfl rfl Try.underlying22 Try.underlying26 (by kernel_rfl) ?_; intro s1 n1 h1 f1)) | (go_at_call 17; ((with_reducible refine (sameFloat_yes _ _ _ (by exact ((Hid.out ‹Hid (can .f64 _ = can .f64 (widen vI1))›).trans ((congrArg (can .f64) (widen_congr (cI1.out.trans cS1.out.symm))).trans (Hid.out ‹Hid (can .f64 _ = can .f64 (widen vS1))›).symm)))).mono ?_); rintro e w7 ⟨rfl, dq7, rfl⟩; skip)))
  go_ret
  first | exact ⟨rfl, F.below⟩ | exact ⟨rfl, below_drewN F.below _⟩
theorem walk (a0 : Nat) (w : World) (w0 : fits .f32 a0) :
    Calls Try.prog 12 #[.float .f32 a0] w fun e w' => e = .returned (.bool true) ∧ Below w.heap.size w w' := by
  obtain ⟨ar0, ar1, ar2, hS, hI⟩ := both_DelayParts a0
  exact core a0 ar0 ar1 ar2 w   hS hI
end Go.Proofs.Yteblmkamopfkiaa.fnExactDelayParts
