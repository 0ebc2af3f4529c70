/- Texts of the walk, laid in one file. -/
import Derived.Test.YteblmkamopfkiaaMc
set_option linter.unusedVariables false
set_option linter.unusedSimpArgs false
/- 'TwoTo' of both. -/
namespace Go.Fk
open Go Go.RowKit
/-- A power that is asked, or 0. -/
def okTw (x : Nat) : Bool := withinB x 3270508544 1123024896
def twV (x : Nat) : Nat := if okTw x then pwV x else 0
theorem withinB_congr {x y a b : Nat} (h : can .f32 x = can .f32 y) : withinB x a b = withinB y a b := by unfold withinB; rw [order_congr h rfl, order_congr h rfl]
theorem okTw_congr {x y : Nat} (h : can .f32 x = can .f32 y) : okTw x = okTw y := withinB_congr h
theorem twV_congr {x y : Nat} (h : can .f32 x = can .f32 y) : twV x = twV y := by unfold twV; rw [okTw_congr h, (pw_congr h).2.2]
theorem integ_congr {way : Ieee.Toward} {a b : Nat} (h : can .f64 a = can .f64 b) : integ way a = integ way b := by rw [← integ_can way a, h, integ_can]
theorem pwY_of {x s1 s2 fr d y : Nat} (h1 : can .f64 s1 = can .f64 (widen x)) (hf : can .f64 fr = can .f64 (integ .down s1)) (h2 : can .f64 s2 = can .f64 (widen x)) (hd : can .f64 d = fop .sub .f64 s2 fr) (hy : can .f64 y = fop .mul .f64 d 4604418534313441775) : can .f64 y = can .f64 (pwY x) := by
  rw [hy]
  unfold pwY pwD
  rw [can_fop]
  refine fop_congr (hd.trans ?_) rfl
  rw [can_fop]
  exact fop_congr h2 (by rw [hf, integ_congr h1])
theorem pwK_of {x s1 fr : Nat} (h : okTw x = true) (h1 : can .f64 s1 = can .f64 (widen x)) (hf : can .f64 fr = can .f64 (integ .down s1)) : floatToIntVal .f64 fr .i64 = some (pwQ x) := by
  obtain ⟨_, _, _, hn, hi⟩ := pw_ok h
  rw [integ_congr h1] at hf
  rw [(eq_of_can hf.symm hn).symm]
  exact hi
theorem pwS_of {y y' : Nat} (h : can .f64 y = can .f64 y') {j : Nat} {s q p r : Nat} (hs : can .f64 s = can .f64 (pwS y' j)) (hq : can .f64 q = fop .quo .f64 y (floatOfInt .f64 (14 - (j : Int)))) (hp : can .f64 p = fop .mul .f64 q s) (hr : can .f64 r = fop .add .f64 4607182418800017408 p) : can .f64 r = can .f64 (pwS y' (j + 1)) := by
  rw [hr]
  show _ = can .f64 (fop .add .f64 4607182418800017408 (fop .mul .f64 (fop .quo .f64 y' (floatOfInt .f64 (14 - (j : Int)))) (pwS y' j)))
  rw [can_fop]
  refine fop_congr rfl (hp.trans ?_)
  rw [can_fop]
  refine fop_congr (hq.trans ?_) hs
  rw [can_fop]
  exact fop_congr h rfl
theorem wpList_toIntD {P : Program} {w : World} {ops : Array Oper} {rest : List Oper} {o : Oper} {a : Act} {Q : Exit → Act → World → Prop} (hg : o.guard = none) {src dst : TypeId} {x : Operand} (hop : o.op = Op.convert src dst x) {b : Nat} (hx : a.eval x = .float .f64 b) {v : Value}
    (hr : ∀ w, (convert src dst (.float .f64 b)).run P w = .ok v w) (hK : wpList P ops Q rest (a.put o.dst v) w) : wpList P ops Q (o :: rest) a w := by
  refine wpList_plain hg fun K hK' => ?_
  unfold Oper.wp
  simp [execOp, hop, hx, hr, Result.andThen]
  exact hK' _ _ hK
end Go.Fk
namespace Go.Proofs.Yteblmkamopfkiaa
open Go.RowKit Go.Fk
set_option maxRecDepth 100000 in
set_option maxHeartbeats 2000000 in
theorem s_l07PowerP (K : Nat) (w : World) (h2 : K ≤ 1000) : Calls Try.prog 78 #[.int .i64 (K : Int)] w fun e w' => e = .returned (.float .f64 (nrm (1023 + K) 0)) ∧ le w w' := by
  go_enter Try.func78, Try.ntmps78
  go_wp2
  go_loopw [0, 3] (fun i p wr => ∃ j : Nat, j ≤ K ∧ i = .int .i64 ((K : Int) - j) ∧ p = .float .f64 (nrm (1023 + j) 0) ∧ Hid (le w wr)) (fun i _ _ => (intOf i).toNat)
  case atStart => exact ⟨0, by omega, by simp, congrArg (Value.float .f64) one_nrm, le_refl _⟩
  case round =>
    obtain ⟨j, hj, rfl, rfl, hl⟩ := hrel
    by_cases hlt : j < K
    · have HM := hid (nrm_mul (E := 1023 + j) (f := 0) (G := 1024) (by omega) (by omega) (by omega) (by omega) (by omega) (by omega) (by omega)).1
      have HN := hid (nrm_nan (E := 1023 + (j + 1)) (f := 0) (by omega) (by omega) (by omega))
      go_wp2_with (first | (with_reducible refine wpList_farith rfl rfl rfl rfl rfl ?_; intro r n hr hrf))
      go_roundw
      case rel =>
        refine ⟨j + 1, by omega, by rw [show (K : Int) - j - 1 = (K : Int) - ((j + 1 : Nat) : Int) by omega], ?_, le_trans hl (le_drewN _ _)⟩
        have h := hr.out
        rw [show (4611686018427387904 : Nat) = nrm 1024 0 by decide, HM.out, show 1023 + j + 1024 - 1023 = 1023 + (j + 1) by omega] at h
        rw [of_canK h HN.out]
      case measure => simp [intOf]; omega
    · obtain rfl : j = K := by omega
      have hz : (j : Int) - j = 0 := by omega
      rw [hz]
      go_wp2
      go_loopw [0, 3] (fun i p wr => i = .int .i64 0 ∧ p = .float .f64 (nrm (1023 + j) 0) ∧ Hid (le w wr)) (fun i _ _ => 0)
      case atStart => exact ⟨rfl, rfl, hl⟩
      case round =>
        obtain ⟨rfl, rfl, hl⟩ := hrel
        go_wp2
        go_ret
        exact ⟨rfl, hl⟩
set_option maxRecDepth 100000 in
set_option maxHeartbeats 2000000 in
theorem s_l07PowerN (K : Nat) (w : World) (h2 : K ≤ 1000) : Calls Try.prog 78 #[.int .i64 (-(K : Int))] w fun e w' => e = .returned (.float .f64 (nrm (1023 - K) 0)) ∧ le w w' := by
  go_enter Try.func78, Try.ntmps78
  go_wp2
  go_loopw [0, 3] (fun i p wr => i = .int .i64 (-(K : Int)) ∧ p = .float .f64 (nrm 1023 0) ∧ Hid (le w wr)) (fun i _ _ => 0)
  case atStart => exact ⟨rfl, congrArg (Value.float .f64) one_nrm, le_refl _⟩
  case round =>
    obtain ⟨rfl, rfl, hl⟩ := hrel
    go_wp2
    go_loopw [0, 3] (fun i p wr => ∃ j : Nat, j ≤ K ∧ i = .int .i64 (-((K : Int) - j)) ∧ p = .float .f64 (nrm (1023 - j) 0) ∧ Hid (le w wr)) (fun i _ _ => (-(intOf i)).toNat)
    case atStart => exact ⟨0, by omega, by simp, rfl, hl⟩
    case round =>
      obtain ⟨j, hj, rfl, rfl, hl⟩ := hrel
      by_cases hlt : j < K
      · have HM := hid (nrm_half (E := 1023 - j) (f := 0) (by omega) (by omega) (by omega))
        have HN := hid (nrm_nan (E := 1023 - (j + 1)) (f := 0) (by omega) (by omega) (by omega))
        go_wp2_with (first | (with_reducible refine wpList_farith rfl rfl rfl rfl rfl ?_; intro r n hr hrf))
        go_roundw
        case rel =>
          refine ⟨j + 1, by omega, by rw [show -((K : Int) - j) + 1 = -((K : Int) - ((j + 1 : Nat) : Int)) by omega], ?_, le_trans hl (le_drewN _ _)⟩
          have h := hr.out
          rw [HM.out, show 1023 - j - 1 = 1023 - (j + 1) by omega] at h
          rw [of_canK h HN.out]
        case measure => simp [intOf]; omega
      · obtain rfl : j = K := by omega
        have hz : -((j : Int) - j) = 0 := by omega
        rw [hz]
        go_wp2
        go_ret
        exact ⟨rfl, hl⟩
theorem s_l07Power (k : Int) (w : World) (h1 : -1000 ≤ k) (h2 : k ≤ 1000) : Calls Try.prog 78 #[.int .i64 k] w fun e w' => e = .returned (.float .f64 (nrm (1023 + k).toNat 0)) ∧ le w w' := by
  by_cases h : k < 0
  · obtain ⟨K, rfl⟩ : ∃ K : Nat, k = -(K : Int) := ⟨(-k).toNat, by omega⟩
    rw [show (1023 + -(K : Int)).toNat = 1023 - K by omega]
    exact s_l07PowerN K w (by omega)
  · obtain ⟨K, rfl⟩ : ∃ K : Nat, k = (K : Int) := ⟨k.toNat, by omega⟩
    rw [show (1023 + (K : Int)).toNat = 1023 + K by omega]
    exact s_l07PowerP K w (by omega)
theorem toI64Z {d : Nat} {k : Int} (h : floatToIntVal .f64 d .i64 = some k) : ∀ w, (convert 26 2 (.float .f64 d)).run Try.prog w = .ok (.int .i64 k) w := by
  intro w
  exact run_convert_float_int (P := Try.prog) w _ _ .f64 .i64 _ _ (by rw [Try.underlying26]; rfl) Try.underlying2 h
theorem toIntZ {d : Nat} {k : Int} (h : floatToIntVal .f64 d .i64 = some k) : ∀ w, (convert 26 3 (.float .f64 d)).run Try.prog w = .ok (.int .i64 k) w := by
  intro w
  exact run_convert_float_int (P := Try.prog) w _ _ .f64 .i64 _ _ (by rw [Try.underlying26]; rfl) Try.underlying3 h
set_option maxRecDepth 100000 in
set_option maxHeartbeats 4000000 in
theorem s_l07Two_no (x : Nat) (w : World) (h : okTw x = false) : Calls Try.prog 48 #[.float .f32 x] w fun e w' => e = .returned (.tuple #[.float .f32 0, .bool false]) ∧ le w w' := by
  unfold okTw withinB at h
  cases e1 : (FloatKind.f32.format.order x 3270508544 == some .gt || FloatKind.f32.format.order x 3270508544 == some .eq)
  · clear h
    go_enter Try.func48, Try.ntmps48
    go_wp2
    go_ret2
    exact ⟨rfl, le_refl _⟩
  · rw [e1, Bool.true_and] at h
    go_enter Try.func48, Try.ntmps48
    go_wp2
    go_ret2
    exact ⟨rfl, le_refl _⟩
set_option maxRecDepth 100000 in
set_option maxHeartbeats 4000000 in
theorem s_l07Two (x : Nat) (w : World) (h : okTw x = true) : Calls Try.prog 48 #[.float .f32 x] w fun e w' => ∃ r, e = .returned (.tuple #[.float .f32 r, .bool true]) ∧ can .f32 r = pwV x ∧ le w w' := by
  have HX := hid h
  obtain ⟨⟨E, f, hS, hf, hE1, hE2⟩, q1, q2, _, _⟩ := pw_ok h
  unfold okTw withinB at h
  rw [Bool.and_eq_true] at h
  obtain ⟨e1, e2⟩ := h
  have HS := hid hS
  have HM := hid (nrm_mul (E := E) (f := f) (G := (1023 + pwQ x).toNat) (by omega) (by omega) hf (by omega) (by omega) (by omega) (by omega)).1
  have HN := hid (nrm_nan (E := (E + pwQ x).toNat) (f := f) (by omega) (by omega) hf)
  have HR := hid (nrm_narrowable (E := (E + pwQ x).toNat) (f := f) (by omega) (by omega) hf)
  have HV := hid (pwV_eq hS (by omega))
  have HE := hid (nrm_nan (E := E) (f := f) (by omega) (by omega) hf)
  have HG : Hid (E + (1023 + pwQ x).toNat - 1023 = (E + pwQ x).toNat) := by show E + (1023 + pwQ x).toNat - 1023 = (E + pwQ x).toNat; omega
  have HP := hid (fun w' => s_l07Power (pwQ x) w' (by omega) (by omega))
  clear hS
  go_enter Try.func48, Try.ntmps48
  go_wp2_with (first | (with_reducible refine wpList_widen rfl rfl rfl Try.underlying22 Try.underlying26 ?_; intro s1 ns1 es1 fs1) | (go_at_call 50; refine (floor_any _ _ (by assumption)).mono ?_; rintro e w' ⟨fr, fn, rfl, hfr, rfl⟩) | (with_reducible refine wpList_farith (op := .sub) rfl rfl rfl rfl rfl ?_; intro d nd ed fd) | (with_reducible refine wpList_farith (op := .mul) rfl rfl rfl rfl rfl ?_; intro y ny ey fy))
  have HY := hid (pwY_of (Hid.out (by assumption)) hfr.out.1 (Hid.out (by assumption)) ed.out ey.out)
  have HK := hid (toI64Z (pwK_of HX.out (Hid.out (by assumption)) hfr.out.1))
  go_loopw [6, 7] (fun sv i wr => ∃ (j : Nat) (s : Nat), j ≤ 14 ∧ i = .int .i64 (14 - (j : Int)) ∧ sv = .float .f64 s ∧ Hid (can .f64 s = can .f64 (pwS (pwY x) j)) ∧ Hid (le w wr)) (fun _ i _ => (intOf i).toNat)
  case atStart => exact ⟨0, _, by omega, rfl, rfl, rfl, le_drewN _ _⟩
  case round =>
    obtain ⟨j, s, hj, rfl, rfl, HSj, hl⟩ := hrel
    by_cases hlt : j < 14
    · go_wp2_with (first | (with_reducible refine wpList_farith (op := .quo) rfl rfl rfl rfl rfl ?_; intro q nq eq fq) | (with_reducible refine wpList_farith (op := .mul) rfl rfl rfl rfl rfl ?_; intro p np ep fp) | (with_reducible refine wpList_farith (op := .add) rfl rfl rfl rfl rfl ?_; intro r nr er fr2))
      go_roundw
      case rel => exact ⟨j + 1, r, by omega, by rw [show (14 : Int) - j - 1 = 14 - ((j + 1 : Nat) : Int) by omega], rfl, pwS_of HY.out HSj.out eq.out ep.out er.out, le_trans hl (le_drewN _ _)⟩
      case measure => simp [intOf]; omega
    · obtain rfl : j = 14 := by omega
      rw [HS.out, can_of_not HE.out] at HSj
      obtain rfl : s = nrm E f := of_canK HSj.out HE.out
      go_wp2_with (first | (with_reducible refine wpList_toIntD rfl rfl rfl HK.out ?_) | (go_at_call 78; ((with_reducible refine (HP.out _).mono ?_); rintro e w1 ⟨rfl, hl2⟩)) | (with_reducible refine wpList_farith (op := .mul) rfl rfl rfl rfl rfl ?_; intro p np ep fp; have hpz := of_canK (ep.out.trans HM.out) (by rw [HG.out]; exact HN.out); rw [HG.out] at hpz; subst hpz) | ((with_reducible refine wpList_narrow rfl rfl rfl Try.underlying26 Try.underlying22 (by exact HR.out) ?_); intro q nq hq fq))
      go_ret2
      exact ⟨_, rfl, hq.out.trans HV.out.symm, le_trans hl (le_trans (by assumption) (le_drewN _ _))⟩
set_option maxRecDepth 100000 in
set_option maxHeartbeats 4000000 in
theorem s_TwoTo (x : Nat) (w : World) : Calls Try.prog 15 #[.float .f32 x] w (Out_fi (twV x) (if okTw x then 0 else 2) w) := by
  unfold twV
  cases h : okTw x
  · have HT := hid (fun w' => s_l07Two_no x w' h)
    clear h
    go_enter Try.func15, Try.ntmps15
    go_wp2_with (go_at_call 48; ((with_reducible refine (HT.out _).mono ?_); rintro e w1 ⟨rfl, hl⟩))
    go_ret2
    exact ⟨_, rfl, by decide, by assumption⟩
  · have HT := hid (fun w' => s_l07Two x w' h)
    clear h
    go_enter Try.func15, Try.ntmps15
    go_wp2_with (go_at_call 48; ((with_reducible refine (HT.out _).mono ?_); rintro e w1 ⟨r, rfl, hr, hl⟩; have HR := hid hr; clear hr))
    go_ret2
    exact ⟨_, rfl, HR.out, by assumption⟩
set_option maxRecDepth 100000 in
set_option maxHeartbeats 4000000 in
theorem i_TwoTo (x : Nat) (w : World) : Calls Try.prog 16 #[.float .f32 x] w (Out_fi (twV x) (if okTw x then 0 else 2) w) := by
  unfold twV
  have HW := hid (fun w' => i_isWithin x 3270508544 1123024896 w')
  cases h : okTw x
  · have h' : withinB x 3270508544 1123024896 = false := h
    rw [h'] at HW
    clear h h'
    go_enter Try.func16, Try.ntmps16
    go_wp2_with (go_at_call 49; ((with_reducible refine (HW.out _).mono ?_); rintro e w1 ⟨rfl, rfl⟩))
    go_ret2
    exact ⟨_, rfl, by decide, le_refl _⟩
  · have h' : withinB x 3270508544 1123024896 = true := h
    rw [h'] at HW
    clear h'
    have HX := hid h
    obtain ⟨⟨E, f, hS, hf, hE1, hE2⟩, q1, q2, _, _⟩ := pw_ok h
    clear h
    have HS := hid hS
    have HN := hid (nrm_nan (E := (E + pwQ x).toNat) (f := f) (by omega) (by omega) hf)
    have HR := hid (nrm_narrowable (E := (E + pwQ x).toNat) (f := f) (by omega) (by omega) hf)
    have HV := hid (pwV_eq hS (by omega))
    have HE := hid (nrm_nan (E := E) (f := f) (by omega) (by omega) hf)
    have HP := c_Ldexp E f (E + pwQ x).toNat
    rw [show (((E + pwQ x).toNat : Nat) : Int) - E = pwQ x by omega] at HP
    have HL := hid (fun w' => HP w' (by omega) (by omega) hf (by omega) (by omega))
    clear hS HP
    go_enter Try.func16, Try.ntmps16
    go_wp2_with (first | (go_at_call 49; ((with_reducible refine (HW.out _).mono ?_); rintro e w1 ⟨rfl, rfl⟩)) | (with_reducible refine wpList_widen rfl rfl rfl Try.underlying22 Try.underlying26 ?_; intro s1 ns1 es1 fs1) | (go_at_call 50; refine (floor_any _ _ (by assumption)).mono ?_; rintro e w' ⟨fr, fn, rfl, hfr, rfl⟩) | (with_reducible refine wpList_farith (op := .sub) rfl rfl rfl rfl rfl ?_; intro d nd ed fd) | (with_reducible refine wpList_farith (op := .mul) rfl rfl rfl rfl rfl ?_; intro y ny ey fy))
    have HY := hid (pwY_of (Hid.out (by assumption)) hfr.out.1 (Hid.out (by assumption)) ed.out ey.out)
    have HK := hid (toIntZ (pwK_of HX.out (Hid.out (by assumption)) hfr.out.1))
    go_loopw [6, 7] (fun sv i wr => ∃ (j : Nat) (s : Nat), j ≤ 14 ∧ i = .int .i64 (14 - (j : Int)) ∧ sv = .float .f64 s ∧ Hid (can .f64 s = can .f64 (pwS (pwY x) j)) ∧ Hid (le w wr)) (fun _ i _ => (intOf i).toNat)
    case atStart => exact ⟨0, _, by omega, rfl, rfl, rfl, le_drewN _ _⟩
    case round =>
      obtain ⟨j, s, hj, rfl, rfl, HSj, hl⟩ := hrel
      by_cases hlt : j < 14
      · go_wp2_with (first | (with_reducible refine wpList_farith (op := .quo) rfl rfl rfl rfl rfl ?_; intro q nq eq fq) | (with_reducible refine wpList_farith (op := .mul) rfl rfl rfl rfl rfl ?_; intro p np ep fp) | (with_reducible refine wpList_farith (op := .add) rfl rfl rfl rfl rfl ?_; intro r nr er fr2))
        go_roundw
        case rel => exact ⟨j + 1, r, by omega, by rw [show (14 : Int) - j - 1 = 14 - ((j + 1 : Nat) : Int) by omega], rfl, pwS_of HY.out HSj.out eq.out ep.out er.out, le_trans hl (le_drewN _ _)⟩
        case measure => simp [intOf]; omega
      · obtain rfl : j = 14 := by omega
        rw [HS.out, can_of_not HE.out] at HSj
        obtain rfl : s = nrm E f := of_canK HSj.out HE.out
        go_wp2_with (first | (with_reducible refine wpList_toIntD rfl rfl rfl HK.out ?_) | (go_at_call 51; ((with_reducible refine (HL.out _).mono ?_); rintro e w1 ⟨rfl, hl2⟩)) | ((with_reducible refine wpList_narrow rfl rfl rfl Try.underlying26 Try.underlying22 (by exact HR.out) ?_); intro q nq hq fq))
        go_ret2
        exact ⟨_, rfl, hq.out.trans HV.out.symm, le_trans hl (le_trans (by assumption) (le_drewN _ _))⟩
theorem both_TwoTo (a : Nat) : ∃ (ar0 : Nat) (ar1 : Int), (∀ w : World, Calls Try.prog 15 #[.float .f32 a] w (Out_fi ar0 ar1 w)) ∧ (∀ w : World, Calls Try.prog 16 #[.float .f32 a] w (Out_fi ar0 ar1 w)) :=
  ⟨_, _, s_TwoTo a, i_TwoTo a⟩
end Go.Proofs.Yteblmkamopfkiaa

/- 'LogTwo' of both. -/
namespace Go.Proofs.Yteblmkamopfkiaa
open Go.RowKit Go.Fk
theorem i_isPositive (x : Nat) (w : World) (hx : fits .f32 x) : Calls Try.prog 53 #[.float .f32 x] w fun e w' => e = .returned (.bool (okLg x)) ∧ w = w' := by
  have HF := hid (fun w' => i_isFinite x w' hx)
  clear hx
  unfold okLg
  cases h : fin x
  all_goals
    rw [h] at HF
    clear h
    go_enter Try.func53, Try.ntmps53
    go_wp2_with (go_at_call 83; ((with_reducible refine (HF.out _).mono ?_); rintro e w1 ⟨rfl, rfl⟩))
    go_ret
    exact ⟨rfl, rfl⟩
set_option maxRecDepth 100000 in
set_option maxHeartbeats 2000000 in
theorem c_frexp (E f : Nat) (w : World) (h1 : 1 ≤ E) (h2 : E ≤ 2046) (hf : f < 4503599627370496) :
    Calls Try.prog 85 #[.float .f64 (nrm E f)] w fun e w' => e = .returned (.tuple #[.float .f64 (nrm 1022 f), .int .i64 ((E : Int) - 1022)]) ∧ w = w' := by
  have hw := nrm_fits h2 hf
  have hn := nrm_nan h1 h2 hf
  have hm := nrm_mod h2 hf
  have HI : Hid (∀ w', Calls Try.prog 94 #[.float .f64 (nrm E f), .int .i64 0] w' fun e w'' => e = .returned (.bool false) ∧ w' = w'') := fun w' => c_IsInf0 (nrm E f) w' hw (by rw [hm]; exact nrm_max h1 h2 hf)
  have HN : Hid (∀ w', Calls Try.prog 96 #[.float .f64 (nrm E f)] w' fun e w'' => e = .returned (.tuple #[.float .f64 (nrm E f), .int .i64 0]) ∧ w' = w'') := fun w' => c_normalize (nrm E f) w' hw (by rw [hm]; exact nrm_min h1 h2 hf)
  have HQ := hid (fun w' => c_IsNaN (nrm E f) w')
  rw [hn] at HQ
  have h0 := nrm_ne0 h1 h2 hf
  have g1 : (nrm E f : Int) / 4503599627370496 = (E : Int) := by unfold nrm; omega
  have g3 : bits .and .u64 (E : Int) 2047 = (E : Int) := by
    have := u64_and_nat E 2047 (by omega) (by omega)
    rw [show ((2047 : Nat) : Int) = 2047 by rfl] at this
    rw [this, show (2047 : Nat) = 2 ^ 11 - 1 by decide, Nat.and_two_pow_sub_one_eq_mod, Nat.mod_eq_of_lt (by omega)]
  have g2 : wrap64 (E : Int) = (E : Int) := IntWalk.wrap64_in _ (by omega)
  have g6 : bits .andNot .u64 (nrm E f : Int) 9218868437227405312 = (f : Int) := by
    rw [andNot_exp (nrm_lt h2 hf)]
    congr 1
    unfold nrm; omega
  have g7 := or_exp (show 1022 ≤ 2047 by omega) hf
  rw [show ((1022 : Nat) : Int) * 4503599627370496 = 4602678819172646912 by decide] at g7
  have hE2 : (E : Int) ≤ 2046 := by omega
  have hE1 : (1 : Int) ≤ (E : Int) := by omega
  clear hw hn hm
  go_enter Try.func85, Try.ntmps85
  go_wp2_with (first | (go_at_call 94; ((with_reducible refine (HI.out _).mono ?_); rintro e w1 ⟨rfl, rfl⟩)) | (go_at_call 93; ((with_reducible refine (HQ.out _).mono ?_); rintro e w1 ⟨rfl, rfl⟩)) | (go_at_call 96; ((with_reducible refine (HN.out _).mono ?_); rintro e w1 ⟨rfl, rfl⟩)))
  go_ret2
  refine ⟨?_, rfl⟩
  rw [show (E : Int) - 1022 = (E : Int) - 1023 + 1 by omega]
  rfl
theorem c_Frexp (E f : Nat) (w : World) (h1 : 1 ≤ E) (h2 : E ≤ 2046) (hf : f < 4503599627370496) :
    Calls Try.prog 54 #[.float .f64 (nrm E f)] w fun e w' => e = .returned (.tuple #[.float .f64 (nrm 1022 f), .int .i64 ((E : Int) - 1022)]) ∧ w = w' := by
  have HL := hid (fun w' => c_frexp E f w' h1 h2 hf)
  clear h1 h2 hf
  go_enter Try.func54, Try.ntmps54
  go_wp2_with (go_at_call 85; ((with_reducible refine (HL.out _).mono ?_); rintro e w1 ⟨rfl, rfl⟩))
  go_ret2
  exact ⟨rfl, rfl⟩
set_option maxRecDepth 100000 in
theorem c_ldexp0 (k : Int) (w : World) : Calls Try.prog 82 #[.float .f64 0, .int .i64 k] w fun e w' => e = .returned (.float .f64 0) ∧ le w w' := by
  go_enter Try.func82, Try.ntmps82
  go_wp2
  go_ret
  exact ⟨rfl, le_refl _⟩
theorem c_Ldexp0 (k : Int) (w : World) : Calls Try.prog 51 #[.float .f64 0, .int .i64 k] w fun e w' => e = .returned (.float .f64 0) ∧ le w w' := by
  go_enter Try.func51, Try.ntmps51
  go_wp2_with (go_at_call 82; ((with_reducible refine (c_ldexp0 _ _).mono ?_); rintro e w1 ⟨rfl, hl⟩))
  go_ret
  exact ⟨rfl, by assumption⟩
/-- Digits behind the point. -/
theorem c_LdexpD (D : Nat) (w : World) (h : D < 1073741824) : Calls Try.prog 51 #[.float .f64 (floatOfInt .f64 (D : Int)), .int .i64 (-30)] w fun e w' => e = .returned (.float .f64 (flN (D : Int))) ∧ le w w' := by
  by_cases h0 : D = 0
  · subst h0
    rw [show floatOfInt .f64 ((0 : Nat) : Int) = 0 by decide +kernel, show flN ((0 : Nat) : Int) = 0 from fl_zero.symm]
    exact c_Ldexp0 _ w
  · obtain ⟨E, f, he, hf, h1, h2, h3⟩ := fl_ldexp h0 h
    have HP := c_Ldexp E f (E - 30) w (by omega) (by omega) hf (by omega) (by omega)
    rw [show ((E - 30 : Nat) : Int) - E = -30 by omega, h3, ← he] at HP
    exact HP
set_option maxRecDepth 100000 in
set_option maxHeartbeats 4000000 in
theorem i_LogTwo (x : Nat) (w : World) (hx : fits .f32 x) : Calls Try.prog 19 #[.float .f32 x] w (Out_fi (lgR x) (if okLg x then 0 else 2) w) := by
  unfold lgR
  have HP := hid (fun w' => i_isPositive x w' hx)
  clear hx
  cases h : okLg x
  · rw [h] at HP
    clear h
    go_enter Try.func19, Try.ntmps19
    go_wp2_with (go_at_call 53; ((with_reducible refine (HP.out _).mono ?_); rintro e w1 ⟨rfl, rfl⟩))
    go_ret2
    exact ⟨_, rfl, by decide, le_refl _⟩
  · rw [h] at HP
    obtain ⟨E, f, hw, hf, h1, h2⟩ := lg_wide h
    clear h
    have HV := hid (lgV_eq hw hf)
    have HW := hid hw
    have HN := hid (nrm_nan (E := E) (f := f) (by omega) (by omega) hf)
    have HF := hid (fun w' => c_Frexp E f w' (by omega) (by omega) hf)
    have HM := hid (nrm_mul (E := 1022) (f := f) (G := 1024) (by omega) (by omega) hf (by omega) (by omega) (by omega) (by omega)).2
    have HN2 := hid (nrm_nan (E := 1023) (f := f) (by omega) (by omega) hf)
    clear hw
    go_enter Try.func19, Try.ntmps19
    go_wp2_with (first | (go_at_call 53; ((with_reducible refine (HP.out _).mono ?_); rintro e w1 ⟨rfl, rfl⟩)) | (with_reducible refine wpList_widen rfl rfl rfl Try.underlying22 Try.underlying26 ?_; intro s1 ns1 es1 fs1; have es2 := es1.out; rw [HW.out, can_of_not HN.out] at es2; have es3 := of_canK es2 HN.out; clear es1 fs1 es2; subst es3) | (go_at_call 54; ((with_reducible refine (HF.out _).mono ?_); rintro e w2 ⟨rfl, rfl⟩)) | (with_reducible refine wpList_farith (op := .mul) rfl rfl rfl rfl rfl ?_; intro z nz ez fz))
    have hz : can .f64 z = can .f64 (lgZ f 0) := by
      have e1 := ez.out
      rw [show (4611686018427387904 : Nat) = nrm 1024 0 by decide, HM.out] at e1
      rw [e1]
      exact (can_of_not HN2.out).symm
    have HZ0 := hid hz
    clear hz
    go_loopw [6, 7, 19] (fun zv d i wr => ∃ (j z : Nat), j ≤ 30 ∧ i = .int .i64 (j : Int) ∧ d = .int .i64 (lgD f j : Int) ∧ zv = .float .f64 z ∧ Hid (can .f64 z = can .f64 (lgZ f j)) ∧ Hid (le w wr)) (fun _ _ i _ => 30 - (intOf i).toNat)
    case atStart => exact ⟨0, _, by omega, rfl, rfl, rfl, HZ0.out, le_drewN _ _⟩
    case round =>
      obtain ⟨j, z, hj, rfl, rfl, rfl, HZ, hl⟩ := hrel
      by_cases hlt : j < 30
      · have hd : (lgD f j : Int) ≤ 536870912 := by
          have a := lgD_lt f j
          have b : 2 ^ j ≤ 2 ^ 29 := Nat.pow_le_pow_right (by omega) (by omega)
          have c : (2 : Nat) ^ 29 = 536870912 := by decide
          omega
        have hd0 : (0 : Int) ≤ (lgD f j : Int) := by omega
        cases hb : lgB f j
        · have HB := hid hb
          have HDD := hid (lgD_no hb)
          clear hb
          go_wp2_with (first | (with_reducible refine wpList_farith (op := .mul) rfl rfl rfl rfl rfl ?_; intro p np ep fp; have hbit := (lg_bit HZ.out ep.out).trans HB.out) | (with_reducible refine wpList_farith (op := .quo) rfl rfl rfl rfl rfl ?_; intro q nq eq fq))
          go_roundw
          case rel => exact ⟨j + 1, p, by omega, by go_num, by rw [HDD.out]; congr 1; omega, rfl, lg_no HZ.out ep.out HB.out, le_trans hl (by first | exact le_drewN _ _ | assumption)⟩
          case measure => simp [intOf]; omega
        · have HB := hid hb
          have HDD := hid (lgD_yes hb)
          clear hb
          go_wp2_with (first | (with_reducible refine wpList_farith (op := .mul) rfl rfl rfl rfl rfl ?_; intro p np ep fp; have hbit := (lg_bit HZ.out ep.out).trans HB.out) | (with_reducible refine wpList_farith (op := .quo) rfl rfl rfl rfl rfl ?_; intro q nq eq fq))
          go_roundw
          case rel => exact ⟨j + 1, q, by omega, by go_num, by rw [HDD.out]; congr 1; omega, rfl, lg_yes HZ.out ep.out eq.out HB.out, le_trans hl (by first | exact le_drewN _ _ | assumption)⟩
          case measure => simp [intOf]; omega
      · obtain rfl : j = 30 := by omega
        have hD := lgD_lt f 30
        have e30 : (2 : Nat) ^ 30 = 1073741824 := by decide
        rw [e30] at hD
        have HL := hid (fun w' => c_LdexpD (lgD f 30) w' hD)
        have HA := hid (fl_add (a := ((E : Int) - 1023) * 1073741824) (b := (lgD f 30 : Int)) (by omega) (by omega))
        have HI := hid (fl_int ((E : Int) - 1023))
        have HNR := hid (fl_lt (a := ((E : Int) - 1023) * 1073741824 + (lgD f 30 : Int)) (by omega))
        have HNN := hid (isNan_flN (((E : Int) - 1023) * 1073741824 + (lgD f 30 : Int)))
        have hEE : (E : Int) - 1022 - 1 = (E : Int) - 1023 := by omega
        generalize lgD f 30 = D at *
        go_wp2_with (first | (go_at_call 51; ((with_reducible refine (HL.out _).mono ?_); rintro e w3 ⟨rfl, hl3⟩)) | (with_reducible refine wpList_farith (op := .add) rfl rfl rfl rfl rfl ?_; intro r nr er fr; have hr := er.out; rw [HI.out, HA.out] at hr; have hr2 := of_canK hr HNN.out; clear er fr hr; subst hr2) | ((with_reducible refine wpList_narrow rfl rfl rfl Try.underlying26 Try.underlying22 (by exact HNR.out) ?_); intro q nq hq fq))
        go_ret2
        exact ⟨_, rfl, hq.out.trans HV.out.symm, le_trans hl (le_trans (by assumption) (le_drewN _ _))⟩
set_option maxRecDepth 100000 in
set_option maxHeartbeats 4000000 in
theorem s_l07Log_no (x : Nat) (w : World) (h : okLg x = false) : Calls Try.prog 52 #[.float .f32 x] w fun e w' => e = .returned (.tuple #[.float .f32 0, .bool false]) ∧ le w w' := by
  have HF := hid (fun w' => s_l01Finite x w')
  unfold okLg at h
  cases hf : fin x
  · rw [hf] at HF
    clear h hf
    go_enter Try.func52, Try.ntmps52
    go_wp2_with (go_at_call 74; ((with_reducible refine (HF.out _).mono ?_); rintro e w1 ⟨rfl, m1, rfl⟩))
    go_ret2
    exact ⟨rfl, le_drewN _ _⟩
  · rw [hf] at HF
    rw [hf, Bool.true_and] at h
    clear hf
    go_enter Try.func52, Try.ntmps52
    go_wp2_with (go_at_call 74; ((with_reducible refine (HF.out _).mono ?_); rintro e w1 ⟨rfl, m1, rfl⟩))
    go_ret2
    exact ⟨rfl, le_drewN _ _⟩
theorem nrm_ge2 {E f : Nat} (h1 : 1 ≤ E) (h2 : E ≤ 2046) (hf : f < 4503599627370496) : (FloatKind.f64.format.order (nrm E f) 4611686018427387904 == some .gt || FloatKind.f64.format.order (nrm E f) 4611686018427387904 == some .eq) = decide (1024 ≤ E) := by
  have h := nrm_order (E' := 1024) (f' := 0) h1 h2 hf (by omega) (by omega) (by omega)
  rw [show nrm 1024 0 = 4611686018427387904 by decide] at h
  rw [h]
  rcases Nat.lt_trichotomy (nrm E f) 4611686018427387904 with c | c | c
  · rw [Nat.compare_eq_lt.2 c, decide_eq_false (by unfold nrm at c; omega)]; rfl
  · rw [Nat.compare_eq_eq.2 c, decide_eq_true (by unfold nrm at c; omega)]; rfl
  · rw [Nat.compare_eq_gt.2 c, decide_eq_true (by unfold nrm at c; omega)]; rfl
theorem nrm_lt1 {E f : Nat} (h1 : 1 ≤ E) (h2 : E ≤ 2046) (hf : f < 4503599627370496) : (FloatKind.f64.format.order (nrm E f) 4607182418800017408 == some .lt) = decide (E < 1023) := by
  have h := nrm_order (E' := 1023) (f' := 0) h1 h2 hf (by omega) (by omega) (by omega)
  rw [show nrm 1023 0 = 4607182418800017408 by decide] at h
  rw [h]
  rcases Nat.lt_trichotomy (nrm E f) 4607182418800017408 with c | c | c
  · rw [Nat.compare_eq_lt.2 c, decide_eq_true (by unfold nrm at c; omega)]; rfl
  · rw [Nat.compare_eq_eq.2 c, decide_eq_false (by unfold nrm at c; omega)]; rfl
  · rw [Nat.compare_eq_gt.2 c, decide_eq_false (by unfold nrm at c; omega)]; rfl
set_option maxRecDepth 100000 in
set_option maxHeartbeats 4000000 in
theorem s_l07Log (x : Nat) (w : World) (h : okLg x = true) : Calls Try.prog 52 #[.float .f32 x] w fun e w' => ∃ r, e = .returned (.tuple #[.float .f32 r, .bool true]) ∧ can .f32 r = lgV x ∧ le w w' := by
  have HF := hid (fun w' => s_l01Finite x w')
  obtain ⟨E, f, hw, hf, h1, h2⟩ := lg_wide h
  unfold okLg at h
  rw [Bool.and_eq_true] at h
  obtain ⟨hfin, hgt⟩ := h
  rw [hfin] at HF
  have HV := hid (lgV_eq hw hf)
  have HW := hid hw
  have HN := hid (nrm_nan (E := E) (f := f) (by omega) (by omega) hf)
  have HFF := hid hf
  clear hw hfin
  go_enter Try.func52, Try.ntmps52
  go_wp2_with (first | (go_at_call 74; ((with_reducible refine (HF.out _).mono ?_); rintro e w1 ⟨rfl, m1, rfl⟩)) | (with_reducible refine wpList_widen rfl rfl rfl Try.underlying22 Try.underlying26 ?_; intro s1 ns1 es1 fs1; have es2 := es1.out; rw [HW.out, can_of_not HN.out] at es2; have es3 := of_canK es2 HN.out; clear es1 fs1 es2; subst es3))
  have hl0 := le_drewN w (m1 + ns1)
  have HL0 := hid hl0
  clear hl0
  -- down to 2
  go_loopw [4, 5] (fun zv sv wr => ∃ j : Nat, (j = 0 ∨ 1023 + j ≤ E) ∧ zv = .float .f64 (nrm (E - j) f) ∧ sv = .float .f64 (flN ((j : Int) * 1073741824)) ∧ Hid (le w wr)) (fun zv _ _ => match zv with | .float _ b => b | _ => 0)
  case atStart => exact ⟨0, .inl rfl, rfl, by rw [Int.natCast_zero, Int.zero_mul]; exact congrArg (Value.float .f64) fl_zero, HL0.out⟩
  case round =>
    obtain ⟨j, hj, rfl, rfl, hl⟩ := hrel
    have hc := nrm_ge2 (E := E - j) (f := f) (by omega) (by omega) hf
    by_cases hlt : 1024 ≤ E - j
    · rw [decide_eq_true hlt] at hc
      have HH := hid (nrm_half (E := E - j) (f := f) (by omega) (by omega) hf)
      have HHN := hid (nrm_nan (E := E - (j + 1)) (f := f) (by omega) (by omega) hf)
      have HA := hid (fl_add (a := (j : Int) * 1073741824) (b := 1073741824) (by omega) (by decide))
      have HAN := hid (isNan_flN ((j : Int) * 1073741824 + 1073741824))
      go_wp2_with (first | (with_reducible refine wpList_farith (op := .quo) rfl rfl rfl rfl rfl ?_; intro q nq eq fq) | (with_reducible refine wpList_farith (op := .add) rfl rfl rfl rfl rfl ?_; intro r nr er fr))
      go_roundw
      case rel =>
        have e1 := eq.out
        rw [HH.out, show E - j - 1 = E - (j + 1) by omega] at e1
        have e2 := er.out
        rw [fl_one, HA.out] at e2
        exact ⟨j + 1, .inr (by omega), by rw [of_canK e1 HHN.out], by rw [of_canK e2 HAN.out, Int.natCast_add, Int.add_mul]; rfl, le_trans hl (by first | exact le_drewN _ _ | assumption)⟩
      case measure =>
        have e1 := eq.out
        rw [HH.out, show E - j - 1 = E - (j + 1) by omega] at e1
        rw [of_canK e1 HHN.out]
        show nrm (E - (j + 1)) f < nrm (E - j) f
        unfold nrm; omega
    · rw [decide_eq_false hlt] at hc
      have hE : E - j ≤ 1023 := by omega
      have hj2 : j = 0 ∨ E - j = 1023 := by omega
      go_wp2
      -- up to 1
      obtain ⟨E1, hE1⟩ : ∃ E1, E1 = E - j := ⟨_, rfl⟩
      rw [← hE1] at hE hj2 ⊢
      have hE2 : 874 ≤ E1 := by omega
      have hE3a : j + E1 ≤ E := by omega
      have hE3b : E ≤ j + E1 := by omega
      clear hc hlt hj hE1
      go_loopw [4, 5] (fun zv sv wr => ∃ i : Nat, (i = 0 ∨ E1 + i ≤ 1023) ∧ zv = .float .f64 (nrm (E1 + i) f) ∧ sv = .float .f64 (flN (((j : Int) - i) * 1073741824)) ∧ Hid (le w wr)) (fun zv _ _ => match zv with | .float _ b => 9223372036854775808 - b | _ => 0)
      case atStart => exact ⟨0, .inl rfl, rfl, by rw [Int.natCast_zero, Int.sub_zero], hl⟩
      case round =>
        obtain ⟨i, hi, rfl, rfl, hl⟩ := hrel
        have hc := nrm_lt1 (E := E1 + i) (f := f) (by omega) (by omega) hf
        by_cases hlt : E1 + i < 1023
        · rw [decide_eq_true hlt] at hc
          have HH := hid (nrm_mul (E := E1 + i) (f := f) (G := 1024) (by omega) (by omega) hf (by omega) (by omega) (by omega) (by omega)).1
          have HHN := hid (nrm_nan (E := E1 + (i + 1)) (f := f) (by omega) (by omega) hf)
          have HA := hid (fl_sub (a := ((j : Int) - i) * 1073741824) (b := 1073741824) (by omega) (by decide))
          have HAN := hid (isNan_flN (((j : Int) - i) * 1073741824 - 1073741824))
          go_wp2_with (first | (with_reducible refine wpList_farith (op := .mul) rfl rfl rfl rfl rfl ?_; intro q nq eq fq) | (with_reducible refine wpList_farith (op := .sub) rfl rfl rfl rfl rfl ?_; intro r nr er fr))
          go_roundw
          case rel =>
            have e1 := eq.out
            rw [show (4611686018427387904 : Nat) = nrm 1024 0 by decide, HH.out, show E1 + i + 1024 - 1023 = E1 + (i + 1) by omega] at e1
            have e2 := er.out
            rw [fl_one, HA.out] at e2
            exact ⟨i + 1, .inr (by omega), by rw [of_canK e1 HHN.out], by rw [of_canK e2 HAN.out]; congr 2; omega, le_trans hl (by first | exact le_drewN _ _ | assumption)⟩
          case measure =>
            have e1 := eq.out
            rw [show (4611686018427387904 : Nat) = nrm 1024 0 by decide, HH.out, show E1 + i + 1024 - 1023 = E1 + (i + 1) by omega] at e1
            rw [of_canK e1 HHN.out]
            show 9223372036854775808 - nrm (E1 + (i + 1)) f < 9223372036854775808 - nrm (E1 + i) f
            unfold nrm; omega
        · rw [decide_eq_false hlt] at hc
          have hEi : E1 + i = 1023 := by omega
          have hS : (j : Int) - i = (E : Int) - 1023 := by omega
          rw [hEi, hS]
          rw [hEi] at hc
          clear hi hlt hE3a hE3b hj2 hE hEi hS hE2
          go_wp2
          go_loopw [4, 5, 6, 7] (fun zv sv pv iv wr => ∃ (i z : Nat), i ≤ 30 ∧ iv = .int .i64 (i : Int) ∧ pv = .float .f64 (nrm (1023 - i) 0) ∧ zv = .float .f64 z ∧ Hid (can .f64 z = can .f64 (lgZ f i)) ∧ sv = .float .f64 (flN (((E : Int) - 1023) * 1073741824 + (lgD f i * 2 ^ (30 - i) : Nat))) ∧ Hid (le w wr)) (fun _ _ _ iv _ => 30 - (intOf iv).toNat)
          case atStart => exact ⟨0, _, by omega, rfl, congrArg (Value.float .f64) one_nrm, rfl, rfl, by rw [show lgD f 0 = 0 from rfl, Nat.zero_mul, Int.natCast_zero, Int.add_zero], hl⟩
          case round =>
            obtain ⟨i, z, hi, rfl, rfl, rfl, HZ, rfl, hl⟩ := hrel
            by_cases hlt : i < 30
            · have HPH := hid (nrm_half (E := 1023 - i) (f := 0) (by omega) (by omega) (by omega))
              rw [show 1023 - i - 1 = 1022 - i by omega] at HPH
              have HPN := hid (nrm_nan (E := 1022 - i) (f := 0) (by omega) (by omega) (by omega))
              have hdl := lgD_lt f i
              have hpw : 2 ^ (30 - i) = 2 * 2 ^ (30 - (i + 1)) := by rw [show 30 - i = 30 - (i + 1) + 1 by omega, Nat.pow_succ, Nat.mul_comm]
              have hm : lgD f i * 2 ^ (30 - i) < 1073741824 := by
                have a : lgD f i * 2 ^ (30 - i) < 2 ^ i * 2 ^ (30 - i) := Nat.mul_lt_mul_of_pos_right hdl (Nat.two_pow_pos _)
                rw [← Nat.pow_add, show i + (30 - i) = 30 by omega] at a
                exact a
              have hp1 : 2 ^ (30 - (i + 1)) ≤ 1073741824 := Nat.le_trans (Nat.pow_le_pow_right (by omega) (by omega : 30 - (i + 1) ≤ 30)) (by decide)
              have hno : lgB f i = false → lgD f (i + 1) * 2 ^ (30 - (i + 1)) = lgD f i * 2 ^ (30 - i) := fun h => by rw [lgD_no h, hpw, Nat.mul_comm 2 (lgD f i), Nat.mul_assoc]
              have hyes : lgB f i = true → lgD f (i + 1) * 2 ^ (30 - (i + 1)) = lgD f i * 2 ^ (30 - i) + 2 ^ (30 - (i + 1)) := fun h => by rw [lgD_yes h, hpw, Nat.add_mul, Nat.one_mul, Nat.mul_comm 2 (lgD f i), Nat.mul_assoc]
              have hfp := fl_part (i := i + 1) (by omega)
              rw [show 1023 - (i + 1) = 1022 - i by omega] at hfp
              clear hpw hdl
              generalize lgD f i * 2 ^ (30 - i) = M at *
              generalize hP : 2 ^ (30 - (i + 1)) = P at *
              have HPE := hid hP
              clear hP
              have HA := hid (fl_add (a := ((E : Int) - 1023) * 1073741824 + (M : Int)) (b := (P : Int)) (by omega) (by omega))
              have HAN := hid (isNan_flN (((E : Int) - 1023) * 1073741824 + (M : Int) + (P : Int)))
              have HFP := hid hfp
              have HNO := hid hno
              have HYES := hid hyes
              clear hm hp1 hfp hno hyes
              cases hb : lgB f i
              · have HB := hid hb
                clear hb
                go_wp2_with (first | (with_reducible refine wpList_farith (op := .quo) (p := p) rfl rfl rfl rfl rfl ?_; intro q nq eq fq) | (with_reducible refine wpList_farith (op := .quo) rfl rfl rfl rfl rfl ?_; intro g ng eg fg; have eg2 := eg.out; rw [HPH.out] at eg2; have eg3 := of_canK eg2 HPN.out; clear eg fg eg2; subst eg3) | (with_reducible refine wpList_farith (op := .mul) rfl rfl rfl rfl rfl ?_; intro p np ep fp; have hbit := (lg_bit HZ.out ep.out).trans HB.out) | (with_reducible refine wpList_farith (op := .add) rfl rfl rfl rfl rfl ?_; intro r nr er fr))
                go_roundw
                case rel => exact ⟨i + 1, p, by omega, by go_num, by rw [show 1023 - (i + 1) = 1022 - i by omega], rfl, lg_no HZ.out ep.out HB.out, by rw [HPE.out, HNO.out HB.out], le_trans hl (by first | exact le_drewN _ _ | assumption)⟩
                case measure => simp [intOf]; omega
              · have HB := hid hb
                clear hb
                go_wp2_with (first | (with_reducible refine wpList_farith (op := .quo) (p := p) rfl rfl rfl rfl rfl ?_; intro q nq eq fq) | (with_reducible refine wpList_farith (op := .quo) rfl rfl rfl rfl rfl ?_; intro g ng eg fg; have eg2 := eg.out; rw [HPH.out] at eg2; have eg3 := of_canK eg2 HPN.out; clear eg fg eg2; subst eg3) | (with_reducible refine wpList_farith (op := .mul) rfl rfl rfl rfl rfl ?_; intro p np ep fp; have hbit := (lg_bit HZ.out ep.out).trans HB.out) | (with_reducible refine wpList_farith (op := .add) rfl rfl rfl rfl rfl ?_; intro r nr er fr))
                go_roundw
                case rel =>
                  have e2 := er.out
                  rw [HFP.out, HA.out] at e2
                  refine ⟨i + 1, q, by omega, by go_num, by rw [show 1023 - (i + 1) = 1022 - i by omega], rfl, lg_yes HZ.out ep.out eq.out HB.out, ?_, le_trans hl (by first | exact le_drewN _ _ | assumption)⟩
                  rw [of_canK e2 HAN.out, HPE.out, HYES.out HB.out, Int.add_assoc, ← Int.natCast_add]
                case measure => simp [intOf]; omega
            · obtain rfl : i = 30 := by omega
              have hD := lgD_lt f 30
              have e30 : (2 : Nat) ^ 30 = 1073741824 := by decide
              rw [e30] at hD
              have e0 : lgD f 30 * 2 ^ (30 - 30) = lgD f 30 := by rw [Nat.sub_self, Nat.pow_zero, Nat.mul_one]
              rw [e0]
              have HNR := hid (fl_lt (a := ((E : Int) - 1023) * 1073741824 + (lgD f 30 : Int)) (by omega))
              clear e0 e30 hD
              generalize lgD f 30 = D at *
              go_wp2_with ((with_reducible refine wpList_narrow rfl rfl rfl Try.underlying26 Try.underlying22 (by exact HNR.out) ?_); intro q nq hq fq)
              go_ret2
              exact ⟨_, rfl, hq.out.trans HV.out.symm, le_trans hl (le_drewN _ _)⟩
set_option maxRecDepth 100000 in
set_option maxHeartbeats 4000000 in
theorem s_LogTwo (x : Nat) (w : World) : Calls Try.prog 18 #[.float .f32 x] w (Out_fi (lgR x) (if okLg x then 0 else 2) w) := by
  unfold lgR
  cases h : okLg x
  · have HT := hid (fun w' => s_l07Log_no x w' h)
    clear h
    go_enter Try.func18, Try.ntmps18
    go_wp2_with (go_at_call 52; ((with_reducible refine (HT.out _).mono ?_); rintro e w1 ⟨rfl, hl⟩))
    go_ret2
    exact ⟨_, rfl, by decide, by assumption⟩
  · have HT := hid (fun w' => s_l07Log x w' h)
    clear h
    go_enter Try.func18, Try.ntmps18
    go_wp2_with (go_at_call 52; ((with_reducible refine (HT.out _).mono ?_); rintro e w1 ⟨r, rfl, hr, hl⟩; have HR := hid hr; clear hr))
    go_ret2
    exact ⟨_, rfl, HR.out, by assumption⟩
theorem both_LogTwo (a : Nat) (ha : fits .f32 a) : ∃ (ar0 : Nat) (ar1 : Int), (∀ w : World, Calls Try.prog 18 #[.float .f32 a] w (Out_fi ar0 ar1 w)) ∧ (∀ w : World, Calls Try.prog 19 #[.float .f32 a] w (Out_fi ar0 ar1 w)) :=
  ⟨_, _, s_LogTwo a, fun w => i_LogTwo a w ha⟩
end Go.Proofs.Yteblmkamopfkiaa

/- 'CentsOf' of both. -/
namespace Go.Fk
open Go Go.RowKit
theorem int32_read {q : Nat} (h1 : 1 ≤ q) (h2 : q ≤ 4096) : ∃ m e, FloatKind.f32.format.read (floatOfInt .f32 (q : Int)) = .number false m e ∧ m ≠ 0 ∧ (0 : Int) ≤ e + m.log2 ∧ e + m.log2 + 1 ≤ 13 ∧ m.log2 ≤ 23 := by
  have hl : q.log2 < 13 := (Nat.log2_lt (by omega)).2 (Nat.lt_of_le_of_lt h2 (by decide))
  have e1 : floatOfInt .f32 (q : Int) = FloatKind.f32.format.nearest false q 0 := by
    show FloatKind.f32.encode (.number (decide ((q : Int) < 0)) (q : Int).natAbs 0) = _
    rw [decide_eq_false (by omega), Int.natAbs_natCast]
    rfl
  obtain ⟨h5, _⟩ := read_nearest FloatKind.f32.format false q 0 (by omega) (by rw [bits32.2.1]; omega) (by decide) (by rw [bits32.1, bits32.2.1, bits32.2.2.1]; omega) (by decide)
  rw [e1]
  have h6 : lastOf FloatKind.f32.format q 0 = (q.log2 : Int) - 23 := by unfold lastOf; rw [bits32.2.1, bits32.2.2.1]; omega
  rw [h6] at h5
  have h7 : q * 2 ^ (0 - ((q.log2 : Int) - 23)).toNat ≠ 0 := Nat.mul_ne_zero (by omega) (Nat.ne_of_gt (Nat.two_pow_pos _))
  have h8 : (q * 2 ^ (0 - ((q.log2 : Int) - 23)).toNat).log2 = 23 := by rw [log2_scale (by omega)]; omega
  exact ⟨_, _, h5, h7, by rw [h8]; omega, by rw [h8]; omega, by rw [h8]; omega⟩
/-- A quotient of two positive numbers, neither too small nor too great: finite and above 0. -/
theorem quo_pos {x y : Nat} {m n : Nat} {i j : Int} (hx : FloatKind.f32.format.read x = .number false m i) (hy : FloatKind.f32.format.read y = .number false n j) (m0 : m ≠ 0) (n0 : n ≠ 0) (ml : m.log2 ≤ 23) (lo : -120 ≤ (i + m.log2) - (j + n.log2)) (hi : (i + m.log2) - (j + n.log2) ≤ 120) : okLg (fop .quo .f32 x y) = true := by
  have hb : floatBits .quo .f32 x y = some (FloatKind.f32.format.nearest (false ^^ false) (2 * (m <<< (23 + 2 + n.log2 - m.log2) / n) + (m <<< (23 + 2 + n.log2 - m.log2) % n != 0).toNat) (i - j - ((23 + 2 + n.log2 - m.log2 : Nat) : Int) - 1)) := by
    simp only [floatBits, Ieee.Format.div, hx, hy, Ieee.Datum.quotient, if_neg n0, Option.map_some, bits32.2.1]; rfl
  generalize hmore : 23 + 2 + n.log2 - m.log2 = more at *
  have hbb : ∀ b : Bool, b.toNat ≤ 1 := by intro b; cases b <;> decide
  have h0 : 0 < n := by omega
  have a1 : 2 ^ (m.log2 + more) ≤ m <<< more := by
    rw [Nat.shiftLeft_eq, Nat.pow_add]; exact Nat.mul_le_mul_right _ (Nat.log2_self_le m0)
  have a2 : m <<< more < 2 ^ (m.log2 + 1 + more) := by
    rw [Nat.shiftLeft_eq, Nat.pow_add]; exact Nat.mul_lt_mul_of_pos_right Nat.lt_log2_self (Nat.two_pow_pos _)
  have q1 : 2 ^ 24 ≤ m <<< more / n := by
    rw [Nat.le_div_iff_mul_le h0]
    refine Nat.le_trans ?_ a1
    calc 2 ^ 24 * n ≤ 2 ^ 24 * 2 ^ (n.log2 + 1) := Nat.mul_le_mul_left _ (Nat.le_of_lt Nat.lt_log2_self)
      _ = 2 ^ (m.log2 + more) := by rw [← Nat.pow_add]; congr 1; omega
  have q2 : m <<< more / n < 2 ^ 26 := by
    rw [Nat.div_lt_iff_lt_mul h0]
    refine Nat.lt_of_lt_of_le a2 ?_
    calc 2 ^ (m.log2 + 1 + more) = 2 ^ 26 * 2 ^ n.log2 := by rw [← Nat.pow_add]; congr 1; omega
      _ ≤ 2 ^ 26 * n := Nat.mul_le_mul_left _ (Nat.log2_self_le n0)
  have hb1 := hbb (m <<< more % n != 0)
  generalize m <<< more / n = Q at *
  generalize (m <<< more % n != 0).toNat = st at *
  have e24 : (2 : Nat) ^ 24 = 16777216 := by decide
  have e26 : (2 : Nat) ^ 26 = 67108864 := by decide
  have M0 : 2 * Q + st ≠ 0 := by omega
  have e25 : (2 : Nat) ^ 25 = 33554432 := by decide
  have e27 : (2 : Nat) ^ 27 = 134217728 := by decide
  have l1 : 25 ≤ (2 * Q + st).log2 := (Nat.le_log2 M0).2 (by omega)
  have l2 : (2 * Q + st).log2 < 27 := (Nat.log2_lt M0).2 (by omega)
  obtain ⟨v, hv, _, hge⟩ := near_ge (e := i - j - (more : Int) - 1) (A := 122) (C := -122) (false ^^ false) M0 (by omega) (by omega) (by omega) (by omega)
  have hn := isNan_nearest .f32 (false ^^ false) (2 * Q + st) (i - j - (more : Int) - 1)
  have hl := lt_nearest .f32 (false ^^ false) (2 * Q + st) (i - j - (more : Int) - 1) 122 (fun _ => by omega) (fine32 (by decide) (by decide)).1 (fine32 (by decide) (by decide)).2
  rw [fop_some hb hn]
  have hvp : 0 < v := Nat.lt_of_lt_of_le (Nat.two_pow_pos _) hge
  unfold okLg
  rw [order_val hn (by decide), hv, show val .f32 0 = 0 by decide +kernel]
  simp only [Bool.xor_self, Bool.false_eq_true, if_false]
  rw [Int.compare_eq_gt.2 (show (0 : Int) < (v : Int) by omega)]
  obtain ⟨s', m', e', hr', _⟩ := hl
  simp only [Bool.xor_self] at hr'
  simp [fin, hr']
def okCn (p q : Int) : Bool := (decide (1 ≤ p) && decide (p ≤ 1000)) && (decide (1 ≤ q) && decide (q ≤ 1000))
def cnQ (p q : Int) : Nat := fop .quo .f32 (floatOfInt .f32 p) (floatOfInt .f32 q)
def cnV (p q : Int) : Nat := fop .mul .f32 1150681088 (lgR (cnQ p q))
theorem cn_ok {p q : Int} (h : okCn p q = true) : okLg (cnQ p q) = true := by
  simp only [okCn, Bool.and_eq_true, decide_eq_true_eq] at h
  obtain ⟨⟨h1, h2⟩, h3, h4⟩ := h
  obtain ⟨P, rfl⟩ : ∃ P : Nat, p = P := ⟨p.toNat, by omega⟩
  obtain ⟨Q, rfl⟩ : ∃ Q : Nat, q = Q := ⟨q.toNat, by omega⟩
  obtain ⟨m, e, hr, m0, a1, a2, a3⟩ := int32_read (q := P) (by omega) (by omega)
  obtain ⟨n, j, hr2, n0, b1, b2, _⟩ := int32_read (q := Q) (by omega) (by omega)
  exact quo_pos hr hr2 m0 n0 a3 (by omega) (by omega)
end Go.Fk
namespace Go.Proofs.Yteblmkamopfkiaa
open Go.RowKit Go.Fk
set_option maxRecDepth 100000 in
set_option maxHeartbeats 4000000 in
theorem i_CentsOf (p q : Int) (w : World) : Calls Try.prog 21 #[.int .i64 p, .int .i64 q] w (Out_fi (if okCn p q then cnV p q else 0) (if okCn p q then 0 else 2) w) := by
  cases h : okCn p q
  · have h' : ¬ (1 ≤ p ∧ p ≤ 1000 ∧ 1 ≤ q ∧ q ≤ 1000) := fun ⟨a, b, c, d⟩ => by simp [okCn, a, b, c, d] at h
    clear h
    by_cases h1 : 1 ≤ p <;> by_cases h2 : p ≤ 1000 <;> by_cases h3 : 1 ≤ q <;> by_cases h4 : q ≤ 1000
    all_goals first
      | (exfalso; omega)
      | (clear h'
         go_enter Try.func21, Try.ntmps21
         go_wp2
         go_ret2
         exact ⟨_, rfl, by decide, le_refl _⟩)
  · have HO := hid (cn_ok h)
    simp only [okCn, Bool.and_eq_true, decide_eq_true_eq] at h
    obtain ⟨⟨h1, h2⟩, h3, h4⟩ := h
    have HT := hid (fun (r : Nat) (w' : World) (hr : can .f32 r = cnQ p q) (hf : fits .f32 r) => (show Calls Try.prog 19 #[.float .f32 r] w' (Out_fi (lgR (cnQ p q)) 0 w') from by
      have e : can .f32 r = can .f32 (cnQ p q) := by rw [hr]; unfold cnQ; rw [can_fop]
      have k := i_LogTwo r w' hf
      rw [(lg_congr e).2.2, (lg_congr e).2.1, HO.out] at k
      exact k))
    have HV : Hid (cnV p q = fop .mul .f32 1150681088 (lgR (cnQ p q))) := rfl
    have HQ : Hid (cnQ p q = fop .quo .f32 (floatOfInt .f32 p) (floatOfInt .f32 q)) := rfl
    go_enter Try.func21, Try.ntmps21
    go_wp2_with (first | (with_reducible refine wpList_farith (op := .quo) rfl rfl rfl rfl rfl ?_; intro r nr er fr) | (go_at_call 19; ((with_reducible refine (HT.out r _ (er.out.trans HQ.out.symm) fr.out).mono ?_); rintro e w2 ⟨v, rfl, hv, hl⟩; have HVV := hid hv; have HL := hid hl; clear hl hv)) | (with_reducible refine wpList_farith (op := .mul) rfl rfl rfl rfl rfl ?_; intro z nz ez fz))
    go_ret2
    refine ⟨_, rfl, ?_, le_trans (le_drewN _ _) (le_trans HL.out (le_drewN _ _))⟩
    show can .f32 z = cnV p q
    rw [ez.out, HV.out]
    exact fop_congr rfl (by rw [← HVV.out, can_can])
set_option maxRecDepth 100000 in
set_option maxHeartbeats 4000000 in
theorem s_l07Cents_no (p q : Int) (w : World) (h : okCn p q = false) : Calls Try.prog 55 #[.int .i64 p, .int .i64 q] w fun e w' => e = .returned (.tuple #[.float .f32 0, .bool false]) ∧ le w w' := by
  have H1 := hid (fun w' => s_In p 1 1000 w')
  have H2 := hid (fun w' => s_In q 1 1000 w')
  unfold okCn at h
  cases h1 : (decide (1 ≤ p) && decide (p ≤ 1000))
  · rw [h1] at H1
    clear h h1
    go_enter Try.func55, Try.ntmps55
    go_wp2_with (go_at_call 65; ((first | with_reducible refine (H1.out _).mono ?_ | with_reducible refine (H2.out _).mono ?_); rintro e w1 ⟨rfl, rfl⟩))
    go_ret2
    exact ⟨rfl, le_refl _⟩
  · rw [h1, Bool.true_and] at h
    rw [h1] at H1; rw [h] at H2
    clear h h1
    go_enter Try.func55, Try.ntmps55
    go_wp2_with (go_at_call 65; ((first | with_reducible refine (H1.out _).mono ?_ | with_reducible refine (H2.out _).mono ?_); rintro e w1 ⟨rfl, rfl⟩))
    go_ret2
    exact ⟨rfl, le_refl _⟩
set_option maxRecDepth 100000 in
set_option maxHeartbeats 4000000 in
theorem s_l07Cents (p q : Int) (w : World) (h : okCn p q = true) : Calls Try.prog 55 #[.int .i64 p, .int .i64 q] w fun e w' => ∃ r, e = .returned (.tuple #[.float .f32 r, .bool true]) ∧ can .f32 r = cnV p q ∧ le w w' := by
  have HO := cn_ok h
  unfold okCn at h
  rw [Bool.and_eq_true] at h
  have H1 := hid (fun w' => s_In p 1 1000 w')
  have H2 := hid (fun w' => s_In q 1 1000 w')
  rw [h.1] at H1
  rw [h.2] at H2
  clear h
  have HT := hid (fun (r : Nat) (w' : World) (hr : can .f32 r = cnQ p q) => (show Calls Try.prog 52 #[.float .f32 r] w' (fun e w'' => ∃ v, e = .returned (.tuple #[.float .f32 v, .bool true]) ∧ can .f32 v = can .f32 (lgR (cnQ p q)) ∧ le w' w'') from by
    have e : can .f32 r = can .f32 (cnQ p q) := by rw [hr]; unfold cnQ; rw [can_fop]
    refine (s_l07Log r w' ((lg_congr e).2.1.trans HO)).mono ?_
    rintro e2 w2 ⟨v, rfl, hv, hl⟩
    refine ⟨v, rfl, ?_, hl⟩
    rw [hv, (lg_congr e).1]
    unfold lgR
    rw [HO, if_pos rfl]
    unfold lgV
    rw [can_can]))
  have HV : Hid (cnV p q = fop .mul .f32 1150681088 (lgR (cnQ p q))) := rfl
  have HQ : Hid (cnQ p q = fop .quo .f32 (floatOfInt .f32 p) (floatOfInt .f32 q)) := rfl
  clear HO
  go_enter Try.func55, Try.ntmps55
  go_wp2_with (first | (go_at_call 65; ((first | with_reducible refine (H1.out _).mono ?_ | with_reducible refine (H2.out _).mono ?_); rintro e w1 ⟨rfl, rfl⟩)) | (with_reducible refine wpList_farith (op := .quo) rfl rfl rfl rfl rfl ?_; intro r nr er fr) | (go_at_call 52; ((with_reducible refine (HT.out r _ (er.out.trans HQ.out.symm)).mono ?_); rintro e w2 ⟨v, rfl, hv, hl⟩; have HVV := hid hv; have HL := hid hl; clear hl hv)) | (with_reducible refine wpList_farith (op := .mul) rfl rfl rfl rfl rfl ?_; intro z nz ez fz))
  go_ret2
  refine ⟨_, rfl, ?_, le_trans (le_drewN _ _) (le_trans HL.out (le_drewN _ _))⟩
  rw [ez.out, HV.out]
  exact fop_congr rfl HVV.out
set_option maxRecDepth 100000 in
set_option maxHeartbeats 4000000 in
theorem s_CentsOf (p q : Int) (w : World) : Calls Try.prog 20 #[.int .i64 p, .int .i64 q] w (Out_fi (if okCn p q then cnV p q else 0) (if okCn p q then 0 else 2) w) := by
  cases h : okCn p q
  · have HT := hid (fun w' => s_l07Cents_no p q w' h)
    clear h
    go_enter Try.func20, Try.ntmps20
    go_wp2_with (go_at_call 55; ((with_reducible refine (HT.out _).mono ?_); rintro e w1 ⟨rfl, hl⟩))
    go_ret2
    exact ⟨_, rfl, by decide, by assumption⟩
  · have HT := hid (fun w' => s_l07Cents p q w' h)
    clear h
    go_enter Try.func20, Try.ntmps20
    go_wp2_with (go_at_call 55; ((with_reducible refine (HT.out _).mono ?_); rintro e w1 ⟨r, rfl, hr, hl⟩; have HR := hid hr; clear hr))
    go_ret2
    exact ⟨_, rfl, HR.out, by assumption⟩
theorem both_CentsOf (a b : Int) : ∃ (ar0 : Nat) (ar1 : Int), (∀ w : World, Calls Try.prog 20 #[.int .i64 a, .int .i64 b] w (Out_fi ar0 ar1 w)) ∧ (∀ w : World, Calls Try.prog 21 #[.int .i64 a, .int .i64 b] w (Out_fi ar0 ar1 w)) :=
  ⟨_, _, s_CentsOf a b, i_CentsOf a b⟩
end Go.Proofs.Yteblmkamopfkiaa

/- The walk of 'FnExactCentsOf'. -/
namespace Go.Proofs.Yteblmkamopfkiaa.fnExactCentsOf
open Go.RowKit Go.Fk
set_option maxRecDepth 100000 in
set_option maxHeartbeats 4000000 in
theorem core (a0 : Int) (a1 : Int) (ar0 : Nat) (ar1 : Int) (w : World)  
    (hS : ∀ (w : World), Calls Try.prog 20 #[.int .i64 a0, .int .i64 a1] w (Out_fi ar0 ar1 w))
    (hI : ∀ (w : World), Calls Try.prog 21 #[.int .i64 a0, .int .i64 a1] w (Out_fi ar0 ar1 w)) :
    Calls Try.prog 5 #[.int .i64 a0, .int .i64 a1] w fun e w' => e = .returned (.bool true) ∧ Below w.heap.size w w' := by
  have HS := hid hS; have HI := hid hI; clear hS hI
  have F := Frg.nil w
  go_enter Try.func5, Try.ntmps5
  go_wp2_with (first | (((with_reducible refine listN F ?_); clear F; intro wN F)) | fail)
  first | ((with_reducible refine callAt0 F ?_); clear F; intro wN F) | ((with_reducible refine callAtN F ?_); clear F; intro wN F)
  refine (HS.out _  ).mono ?_
  rintro e wS ⟨vS0, rfl, cS0, hlS⟩
  replace cS0 := hid cS0
  (replace F := F.le hlS)
  go_wp2_with (first | (((with_reducible refine listN F ?_); clear F; intro wN F)) | fail)
  first | ((with_reducible refine callAt0 F ?_); clear F; intro wN F) | ((with_reducible refine callAtN F ?_); clear F; intro wN F)
  refine (HI.out _  ).mono ?_
  rintro e wI ⟨vI0, rfl, cI0, hlI⟩
  replace cI0 := hid cI0
  (replace F := F.le hlI)
  go_wp2_with (first | (((with_reducible refine listN F ?_); clear F; intro wN F)) | ((with_reducible refine at_convert rfl ?_); first | (with_reducible refine wpList_widen rfl rfl rfl Try.underlying22 Try.underlying26 ?_; intro s1 n1 h1 f1) | (with_reducible refine wpList_widenG rfl rfl Try.underlying22 Try.underlying26 (by kernel_rfl) ?_; intro s1 n1 h1 f1)) | (go_at_call 17; ((with_reducible refine (sameFloat_yes _ _ _ (by exact ((Hid.out ‹Hid (can .f64 _ = can .f64 (widen vI0))›).trans ((congrArg (can .f64) (widen_congr (cI0.out.trans cS0.out.symm))).trans (Hid.out ‹Hid (can .f64 _ = can .f64 (widen vS0))›).symm)))).mono ?_); rintro e w7 ⟨rfl, dq7, rfl⟩; skip)))
  go_ret
  first | exact ⟨rfl, F.below⟩ | exact ⟨rfl, below_drewN F.below _⟩
theorem walk (a0 : Int) (a1 : Int) (w : World) (w0 : (Lit.int .i64 a0).wf = true) (w1 : (Lit.int .i64 a1).wf = true) :
    Calls Try.prog 5 #[.int .i64 a0, .int .i64 a1] w fun e w' => e = .returned (.bool true) ∧ Below w.heap.size w w' := by
  obtain ⟨ar0, ar1, hS, hI⟩ := both_CentsOf a0 a1
  exact core a0 a1 ar0 ar1 w   hS hI
end Go.Proofs.Yteblmkamopfkiaa.fnExactCentsOf
