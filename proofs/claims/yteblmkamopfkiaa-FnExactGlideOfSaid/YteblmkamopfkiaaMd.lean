/- Texts of the walk, laid in one file. -/
import Derived.OwnWalk
import Derived.Test.YteblmkamopfkiaaMc
set_option linter.unusedVariables false
set_option linter.unusedSimpArgs false
/- 'TwoTo' of both. -/
namespace Go.Fk
open Go Go.RowKit
/-- A power that is asked, or 0. -/
def okTw (x : Nat) : Bool := withinB x 3270508544 1123024896
def twV (x : Nat) : Nat := if okTw x then pwV x else 0
theorem withinB_congr {x y a b : Nat} (h : can .f32 x = can .f32 y) : withinB x a b = withinB y a b := by unfold withinB; rw [order_congr h rfl, order_congr h rfl]
theorem okTw_congr {x y : Nat} (h : can .f32 x = can .f32 y) : okTw x = okTw y := withinB_congr h
theorem twV_congr {x y : Nat} (h : can .f32 x = can .f32 y) : twV x = twV y := by unfold twV; rw [okTw_congr h, (pw_congr h).2.2]
theorem integ_congr {way : Ieee.Toward} {a b : Nat} (h : can .f64 a = can .f64 b) : integ way a = integ way b := by rw [← integ_can way a, h, integ_can]
theorem pwY_of {x s1 s2 fr d y : Nat} (h1 : can .f64 s1 = can .f64 (widen x)) (hf : can .f64 fr = can .f64 (integ .down s1)) (h2 : can .f64 s2 = can .f64 (widen x)) (hd : can .f64 d = fop .sub .f64 s2 fr) (hy : can .f64 y = fop .mul .f64 d 4604418534313441775) : can .f64 y = can .f64 (pwY x) := by
  rw [hy]
  unfold pwY pwD
  rw [can_fop]
  refine fop_congr (hd.trans ?_) rfl
  rw [can_fop]
  exact fop_congr h2 (by rw [hf, integ_congr h1])
theorem pwK_of {x s1 fr : Nat} (h : okTw x = true) (h1 : can .f64 s1 = can .f64 (widen x)) (hf : can .f64 fr = can .f64 (integ .down s1)) : floatToIntVal .f64 fr .i64 = some (pwQ x) := by
  obtain ⟨_, _, _, hn, hi⟩ := pw_ok h
  rw [integ_congr h1] at hf
  rw [(eq_of_can hf.symm hn).symm]
  exact hi
theorem pwS_of {y y' : Nat} (h : can .f64 y = can .f64 y') {j : Nat} {s q p r : Nat} (hs : can .f64 s = can .f64 (pwS y' j)) (hq : can .f64 q = fop .quo .f64 y (floatOfInt .f64 (14 - (j : Int)))) (hp : can .f64 p = fop .mul .f64 q s) (hr : can .f64 r = fop .add .f64 4607182418800017408 p) : can .f64 r = can .f64 (pwS y' (j + 1)) := by
  rw [hr]
  show _ = can .f64 (fop .add .f64 4607182418800017408 (fop .mul .f64 (fop .quo .f64 y' (floatOfInt .f64 (14 - (j : Int)))) (pwS y' j)))
  rw [can_fop]
  refine fop_congr rfl (hp.trans ?_)
  rw [can_fop]
  refine fop_congr (hq.trans ?_) hs
  rw [can_fop]
  exact fop_congr h rfl
theorem wpList_toIntD {P : Program} {w : World} {ops : Array Oper} {rest : List Oper} {o : Oper} {a : Act} {Q : Exit → Act → World → Prop} (hg : o.guard = none) {src dst : TypeId} {x : Operand} (hop : o.op = Op.convert src dst x) {b : Nat} (hx : a.eval x = .float .f64 b) {v : Value}
    (hr : ∀ w, (convert src dst (.float .f64 b)).run P w = .ok v w) (hK : wpList P ops Q rest (a.put o.dst v) w) : wpList P ops Q (o :: rest) a w := by
  refine wpList_plain hg fun K hK' => ?_
  unfold Oper.wp
  simp [execOp, hop, hx, hr, Result.andThen]
  exact hK' _ _ hK
end Go.Fk
namespace Go.Proofs.Yteblmkamopfkiaa
open Go.RowKit Go.Fk
set_option maxRecDepth 100000 in
set_option maxHeartbeats 2000000 in
theorem s_l07PowerP (K : Nat) (w : World) (h2 : K ≤ 1000) : Calls Try.prog 78 #[.int .i64 (K : Int)] w fun e w' => e = .returned (.float .f64 (nrm (1023 + K) 0)) ∧ le w w' := by
  go_enter Try.func78, Try.ntmps78
  go_wp2
  go_loopw [0, 3] (fun i p wr => ∃ j : Nat, j ≤ K ∧ i = .int .i64 ((K : Int) - j) ∧ p = .float .f64 (nrm (1023 + j) 0) ∧ Hid (le w wr)) (fun i _ _ => (intOf i).toNat)
  case atStart => exact ⟨0, by omega, by simp, congrArg (Value.float .f64) one_nrm, le_refl _⟩
  case round =>
    obtain ⟨j, hj, rfl, rfl, hl⟩ := hrel
    by_cases hlt : j < K
    · have HM := hid (nrm_mul (E := 1023 + j) (f := 0) (G := 1024) (by omega) (by omega) (by omega) (by omega) (by omega) (by omega) (by omega)).1
      have HN := hid (nrm_nan (E := 1023 + (j + 1)) (f := 0) (by omega) (by omega) (by omega))
      go_wp2_with (first | (with_reducible refine wpList_farith rfl rfl rfl rfl rfl ?_; intro r n hr hrf))
      go_roundw
      case rel =>
        refine ⟨j + 1, by omega, by rw [show (K : Int) - j - 1 = (K : Int) - ((j + 1 : Nat) : Int) by omega], ?_, le_trans hl (le_drewN _ _)⟩
        have h := hr.out
        rw [show (4611686018427387904 : Nat) = nrm 1024 0 by decide, HM.out, show 1023 + j + 1024 - 1023 = 1023 + (j + 1) by omega] at h
        rw [of_canK h HN.out]
      case measure => simp [intOf]; omega
    · obtain rfl : j = K := by omega
      have hz : (j : Int) - j = 0 := by omega
      rw [hz]
      go_wp2
      go_loopw [0, 3] (fun i p wr => i = .int .i64 0 ∧ p = .float .f64 (nrm (1023 + j) 0) ∧ Hid (le w wr)) (fun i _ _ => 0)
      case atStart => exact ⟨rfl, rfl, hl⟩
      case round =>
        obtain ⟨rfl, rfl, hl⟩ := hrel
        go_wp2
        go_ret
        exact ⟨rfl, hl⟩
set_option maxRecDepth 100000 in
set_option maxHeartbeats 2000000 in
theorem s_l07PowerN (K : Nat) (w : World) (h2 : K ≤ 1000) : Calls Try.prog 78 #[.int .i64 (-(K : Int))] w fun e w' => e = .returned (.float .f64 (nrm (1023 - K) 0)) ∧ le w w' := by
  go_enter Try.func78, Try.ntmps78
  go_wp2
  go_loopw [0, 3] (fun i p wr => i = .int .i64 (-(K : Int)) ∧ p = .float .f64 (nrm 1023 0) ∧ Hid (le w wr)) (fun i _ _ => 0)
  case atStart => exact ⟨rfl, congrArg (Value.float .f64) one_nrm, le_refl _⟩
  case round =>
    obtain ⟨rfl, rfl, hl⟩ := hrel
    go_wp2
    go_loopw [0, 3] (fun i p wr => ∃ j : Nat, j ≤ K ∧ i = .int .i64 (-((K : Int) - j)) ∧ p = .float .f64 (nrm (1023 - j) 0) ∧ Hid (le w wr)) (fun i _ _ => (-(intOf i)).toNat)
    case atStart => exact ⟨0, by omega, by simp, rfl, hl⟩
    case round =>
      obtain ⟨j, hj, rfl, rfl, hl⟩ := hrel
      by_cases hlt : j < K
      · have HM := hid (nrm_half (E := 1023 - j) (f := 0) (by omega) (by omega) (by omega))
        have HN := hid (nrm_nan (E := 1023 - (j + 1)) (f := 0) (by omega) (by omega) (by omega))
        go_wp2_with (first | (with_reducible refine wpList_farith rfl rfl rfl rfl rfl ?_; intro r n hr hrf))
        go_roundw
        case rel =>
          refine ⟨j + 1, by omega, by rw [show -((K : Int) - j) + 1 = -((K : Int) - ((j + 1 : Nat) : Int)) by omega], ?_, le_trans hl (le_drewN _ _)⟩
          have h := hr.out
          rw [HM.out, show 1023 - j - 1 = 1023 - (j + 1) by omega] at h
          rw [of_canK h HN.out]
        case measure => simp [intOf]; omega
      · obtain rfl : j = K := by omega
        have hz : -((j : Int) - j) = 0 := by omega
        rw [hz]
        go_wp2
        go_ret
        exact ⟨rfl, hl⟩
theorem s_l07Power (k : Int) (w : World) (h1 : -1000 ≤ k) (h2 : k ≤ 1000) : Calls Try.prog 78 #[.int .i64 k] w fun e w' => e = .returned (.float .f64 (nrm (1023 + k).toNat 0)) ∧ le w w' := by
  by_cases h : k < 0
  · obtain ⟨K, rfl⟩ : ∃ K : Nat, k = -(K : Int) := ⟨(-k).toNat, by omega⟩
    rw [show (1023 + -(K : Int)).toNat = 1023 - K by omega]
    exact s_l07PowerN K w (by omega)
  · obtain ⟨K, rfl⟩ : ∃ K : Nat, k = (K : Int) := ⟨k.toNat, by omega⟩
    rw [show (1023 + (K : Int)).toNat = 1023 + K by omega]
    exact s_l07PowerP K w (by omega)
theorem toI64Z {d : Nat} {k : Int} (h : floatToIntVal .f64 d .i64 = some k) : ∀ w, (convert 26 2 (.float .f64 d)).run Try.prog w = .ok (.int .i64 k) w := by
  intro w
  exact run_convert_float_int (P := Try.prog) w _ _ .f64 .i64 _ _ (by rw [Try.underlying26]; rfl) Try.underlying2 h
theorem toIntZ {d : Nat} {k : Int} (h : floatToIntVal .f64 d .i64 = some k) : ∀ w, (convert 26 3 (.float .f64 d)).run Try.prog w = .ok (.int .i64 k) w := by
  intro w
  exact run_convert_float_int (P := Try.prog) w _ _ .f64 .i64 _ _ (by rw [Try.underlying26]; rfl) Try.underlying3 h
set_option maxRecDepth 100000 in
set_option maxHeartbeats 4000000 in
theorem s_l07Two_no (x : Nat) (w : World) (h : okTw x = false) : Calls Try.prog 48 #[.float .f32 x] w fun e w' => e = .returned (.tuple #[.float .f32 0, .bool false]) ∧ le w w' := by
  unfold okTw withinB at h
  cases e1 : (FloatKind.f32.format.order x 3270508544 == some .gt || FloatKind.f32.format.order x 3270508544 == some .eq)
  · clear h
    go_enter Try.func48, Try.ntmps48
    go_wp2
    go_ret2
    exact ⟨rfl, le_refl _⟩
  · rw [e1, Bool.true_and] at h
    go_enter Try.func48, Try.ntmps48
    go_wp2
    go_ret2
    exact ⟨rfl, le_refl _⟩
set_option maxRecDepth 100000 in
set_option maxHeartbeats 4000000 in
theorem s_l07Two (x : Nat) (w : World) (h : okTw x = true) : Calls Try.prog 48 #[.float .f32 x] w fun e w' => ∃ r, e = .returned (.tuple #[.float .f32 r, .bool true]) ∧ can .f32 r = pwV x ∧ le w w' := by
  have HX := hid h
  obtain ⟨⟨E, f, hS, hf, hE1, hE2⟩, q1, q2, _, _⟩ := pw_ok h
  unfold okTw withinB at h
  rw [Bool.and_eq_true] at h
  obtain ⟨e1, e2⟩ := h
  have HS := hid hS
  have HM := hid (nrm_mul (E := E) (f := f) (G := (1023 + pwQ x).toNat) (by omega) (by omega) hf (by omega) (by omega) (by omega) (by omega)).1
  have HN := hid (nrm_nan (E := (E + pwQ x).toNat) (f := f) (by omega) (by omega) hf)
  have HR := hid (nrm_narrowable (E := (E + pwQ x).toNat) (f := f) (by omega) (by omega) hf)
  have HV := hid (pwV_eq hS (by omega))
  have HE := hid (nrm_nan (E := E) (f := f) (by omega) (by omega) hf)
  have HG : Hid (E + (1023 + pwQ x).toNat - 1023 = (E + pwQ x).toNat) := by show E + (1023 + pwQ x).toNat - 1023 = (E + pwQ x).toNat; omega
  have HP := hid (fun w' => s_l07Power (pwQ x) w' (by omega) (by omega))
  clear hS
  go_enter Try.func48, Try.ntmps48
  go_wp2_with (first | (with_reducible refine wpList_widen rfl rfl rfl Try.underlying22 Try.underlying26 ?_; intro s1 ns1 es1 fs1) | (go_at_call 50; refine (floor_any _ _ (by assumption)).mono ?_; rintro e w' ⟨fr, fn, rfl, hfr, rfl⟩) | (with_reducible refine wpList_farith (op := .sub) rfl rfl rfl rfl rfl ?_; intro d nd ed fd) | (with_reducible refine wpList_farith (op := .mul) rfl rfl rfl rfl rfl ?_; intro y ny ey fy))
  have HY := hid (pwY_of (Hid.out (by assumption)) hfr.out.1 (Hid.out (by assumption)) ed.out ey.out)
  have HK := hid (toI64Z (pwK_of HX.out (Hid.out (by assumption)) hfr.out.1))
  go_loopw [6, 7] (fun sv i wr => ∃ (j : Nat) (s : Nat), j ≤ 14 ∧ i = .int .i64 (14 - (j : Int)) ∧ sv = .float .f64 s ∧ Hid (can .f64 s = can .f64 (pwS (pwY x) j)) ∧ Hid (le w wr)) (fun _ i _ => (intOf i).toNat)
  case atStart => exact ⟨0, _, by omega, rfl, rfl, rfl, le_drewN _ _⟩
  case round =>
    obtain ⟨j, s, hj, rfl, rfl, HSj, hl⟩ := hrel
    by_cases hlt : j < 14
    · go_wp2_with (first | (with_reducible refine wpList_farith (op := .quo) rfl rfl rfl rfl rfl ?_; intro q nq eq fq) | (with_reducible refine wpList_farith (op := .mul) rfl rfl rfl rfl rfl ?_; intro p np ep fp) | (with_reducible refine wpList_farith (op := .add) rfl rfl rfl rfl rfl ?_; intro r nr er fr2))
      go_roundw
      case rel => exact ⟨j + 1, r, by omega, by rw [show (14 : Int) - j - 1 = 14 - ((j + 1 : Nat) : Int) by omega], rfl, pwS_of HY.out HSj.out eq.out ep.out er.out, le_trans hl (le_drewN _ _)⟩
      case measure => simp [intOf]; omega
    · obtain rfl : j = 14 := by omega
      rw [HS.out, can_of_not HE.out] at HSj
      obtain rfl : s = nrm E f := of_canK HSj.out HE.out
      go_wp2_with (first | (with_reducible refine wpList_toIntD rfl rfl rfl HK.out ?_) | (go_at_call 78; ((with_reducible refine (HP.out _).mono ?_); rintro e w1 ⟨rfl, hl2⟩)) | (with_reducible refine wpList_farith (op := .mul) rfl rfl rfl rfl rfl ?_; intro p np ep fp; have hpz := of_canK (ep.out.trans HM.out) (by rw [HG.out]; exact HN.out); rw [HG.out] at hpz; subst hpz) | ((with_reducible refine wpList_narrow rfl rfl rfl Try.underlying26 Try.underlying22 (by exact HR.out) ?_); intro q nq hq fq))
      go_ret2
      exact ⟨_, rfl, hq.out.trans HV.out.symm, le_trans hl (le_trans (by assumption) (le_drewN _ _))⟩
set_option maxRecDepth 100000 in
set_option maxHeartbeats 4000000 in
theorem s_TwoTo (x : Nat) (w : World) : Calls Try.prog 15 #[.float .f32 x] w (Out_fi (twV x) (if okTw x then 0 else 2) w) := by
  unfold twV
  cases h : okTw x
  · have HT := hid (fun w' => s_l07Two_no x w' h)
    clear h
    go_enter Try.func15, Try.ntmps15
    go_wp2_with (go_at_call 48; ((with_reducible refine (HT.out _).mono ?_); rintro e w1 ⟨rfl, hl⟩))
    go_ret2
    exact ⟨_, rfl, by decide, by assumption⟩
  · have HT := hid (fun w' => s_l07Two x w' h)
    clear h
    go_enter Try.func15, Try.ntmps15
    go_wp2_with (go_at_call 48; ((with_reducible refine (HT.out _).mono ?_); rintro e w1 ⟨r, rfl, hr, hl⟩; have HR := hid hr; clear hr))
    go_ret2
    exact ⟨_, rfl, HR.out, by assumption⟩
set_option maxRecDepth 100000 in
set_option maxHeartbeats 4000000 in
theorem i_TwoTo (x : Nat) (w : World) : Calls Try.prog 16 #[.float .f32 x] w (Out_fi (twV x) (if okTw x then 0 else 2) w) := by
  unfold twV
  have HW := hid (fun w' => i_isWithin x 3270508544 1123024896 w')
  cases h : okTw x
  · have h' : withinB x 3270508544 1123024896 = false := h
    rw [h'] at HW
    clear h h'
    go_enter Try.func16, Try.ntmps16
    go_wp2_with (go_at_call 49; ((with_reducible refine (HW.out _).mono ?_); rintro e w1 ⟨rfl, rfl⟩))
    go_ret2
    exact ⟨_, rfl, by decide, le_refl _⟩
  · have h' : withinB x 3270508544 1123024896 = true := h
    rw [h'] at HW
    clear h'
    have HX := hid h
    obtain ⟨⟨E, f, hS, hf, hE1, hE2⟩, q1, q2, _, _⟩ := pw_ok h
    clear h
    have HS := hid hS
    have HN := hid (nrm_nan (E := (E + pwQ x).toNat) (f := f) (by omega) (by omega) hf)
    have HR := hid (nrm_narrowable (E := (E + pwQ x).toNat) (f := f) (by omega) (by omega) hf)
    have HV := hid (pwV_eq hS (by omega))
    have HE := hid (nrm_nan (E := E) (f := f) (by omega) (by omega) hf)
    have HP := c_Ldexp E f (E + pwQ x).toNat
    rw [show (((E + pwQ x).toNat : Nat) : Int) - E = pwQ x by omega] at HP
    have HL := hid (fun w' => HP w' (by omega) (by omega) hf (by omega) (by omega))
    clear hS HP
    go_enter Try.func16, Try.ntmps16
    go_wp2_with (first | (go_at_call 49; ((with_reducible refine (HW.out _).mono ?_); rintro e w1 ⟨rfl, rfl⟩)) | (with_reducible refine wpList_widen rfl rfl rfl Try.underlying22 Try.underlying26 ?_; intro s1 ns1 es1 fs1) | (go_at_call 50; refine (floor_any _ _ (by assumption)).mono ?_; rintro e w' ⟨fr, fn, rfl, hfr, rfl⟩) | (with_reducible refine wpList_farith (op := .sub) rfl rfl rfl rfl rfl ?_; intro d nd ed fd) | (with_reducible refine wpList_farith (op := .mul) rfl rfl rfl rfl rfl ?_; intro y ny ey fy))
    have HY := hid (pwY_of (Hid.out (by assumption)) hfr.out.1 (Hid.out (by assumption)) ed.out ey.out)
    have HK := hid (toIntZ (pwK_of HX.out (Hid.out (by assumption)) hfr.out.1))
    go_loopw [6, 7] (fun sv i wr => ∃ (j : Nat) (s : Nat), j ≤ 14 ∧ i = .int .i64 (14 - (j : Int)) ∧ sv = .float .f64 s ∧ Hid (can .f64 s = can .f64 (pwS (pwY x) j)) ∧ Hid (le w wr)) (fun _ i _ => (intOf i).toNat)
    case atStart => exact ⟨0, _, by omega, rfl, rfl, rfl, le_drewN _ _⟩
    case round =>
      obtain ⟨j, s, hj, rfl, rfl, HSj, hl⟩ := hrel
      by_cases hlt : j < 14
      · go_wp2_with (first | (with_reducible refine wpList_farith (op := .quo) rfl rfl rfl rfl rfl ?_; intro q nq eq fq) | (with_reducible refine wpList_farith (op := .mul) rfl rfl rfl rfl rfl ?_; intro p np ep fp) | (with_reducible refine wpList_farith (op := .add) rfl rfl rfl rfl rfl ?_; intro r nr er fr2))
        go_roundw
        case rel => exact ⟨j + 1, r, by omega, by rw [show (14 : Int) - j - 1 = 14 - ((j + 1 : Nat) : Int) by omega], rfl, pwS_of HY.out HSj.out eq.out ep.out er.out, le_trans hl (le_drewN _ _)⟩
        case measure => simp [intOf]; omega
      · obtain rfl : j = 14 := by omega
        rw [HS.out, can_of_not HE.out] at HSj
        obtain rfl : s = nrm E f := of_canK HSj.out HE.out
        go_wp2_with (first | (with_reducible refine wpList_toIntD rfl rfl rfl HK.out ?_) | (go_at_call 51; ((with_reducible refine (HL.out _).mono ?_); rintro e w1 ⟨rfl, hl2⟩)) | ((with_reducible refine wpList_narrow rfl rfl rfl Try.underlying26 Try.underlying22 (by exact HR.out) ?_); intro q nq hq fq))
        go_ret2
        exact ⟨_, rfl, hq.out.trans HV.out.symm, le_trans hl (le_trans (by assumption) (le_drewN _ _))⟩
theorem both_TwoTo (a : Nat) : ∃ (ar0 : Nat) (ar1 : Int), (∀ w : World, Calls Try.prog 15 #[.float .f32 a] w (Out_fi ar0 ar1 w)) ∧ (∀ w : World, Calls Try.prog 16 #[.float .f32 a] w (Out_fi ar0 ar1 w)) :=
  ⟨_, _, s_TwoTo a, i_TwoTo a⟩
end Go.Proofs.Yteblmkamopfkiaa

/- 'LogTwo' of both. -/
namespace Go.Proofs.Yteblmkamopfkiaa
open Go.RowKit Go.Fk
theorem i_isPositive (x : Nat) (w : World) (hx : fits .f32 x) : Calls Try.prog 53 #[.float .f32 x] w fun e w' => e = .returned (.bool (okLg x)) ∧ w = w' := by
  have HF := hid (fun w' => i_isFinite x w' hx)
  clear hx
  unfold okLg
  cases h : fin x
  all_goals
    rw [h] at HF
    clear h
    go_enter Try.func53, Try.ntmps53
    go_wp2_with (go_at_call 83; ((with_reducible refine (HF.out _).mono ?_); rintro e w1 ⟨rfl, rfl⟩))
    go_ret
    exact ⟨rfl, rfl⟩
set_option maxRecDepth 100000 in
set_option maxHeartbeats 2000000 in
theorem c_frexp (E f : Nat) (w : World) (h1 : 1 ≤ E) (h2 : E ≤ 2046) (hf : f < 4503599627370496) :
    Calls Try.prog 85 #[.float .f64 (nrm E f)] w fun e w' => e = .returned (.tuple #[.float .f64 (nrm 1022 f), .int .i64 ((E : Int) - 1022)]) ∧ w = w' := by
  have hw := nrm_fits h2 hf
  have hn := nrm_nan h1 h2 hf
  have hm := nrm_mod h2 hf
  have HI : Hid (∀ w', Calls Try.prog 94 #[.float .f64 (nrm E f), .int .i64 0] w' fun e w'' => e = .returned (.bool false) ∧ w' = w'') := fun w' => c_IsInf0 (nrm E f) w' hw (by rw [hm]; exact nrm_max h1 h2 hf)
  have HN : Hid (∀ w', Calls Try.prog 96 #[.float .f64 (nrm E f)] w' fun e w'' => e = .returned (.tuple #[.float .f64 (nrm E f), .int .i64 0]) ∧ w' = w'') := fun w' => c_normalize (nrm E f) w' hw (by rw [hm]; exact nrm_min h1 h2 hf)
  have HQ := hid (fun w' => c_IsNaN (nrm E f) w')
  rw [hn] at HQ
  have h0 := nrm_ne0 h1 h2 hf
  have g1 : (nrm E f : Int) / 4503599627370496 = (E : Int) := by unfold nrm; omega
  have g3 : bits .and .u64 (E : Int) 2047 = (E : Int) := by
    have := u64_and_nat E 2047 (by omega) (by omega)
    rw [show ((2047 : Nat) : Int) = 2047 by rfl] at this
    rw [this, show (2047 : Nat) = 2 ^ 11 - 1 by decide, Nat.and_two_pow_sub_one_eq_mod, Nat.mod_eq_of_lt (by omega)]
  have g2 : wrap64 (E : Int) = (E : Int) := IntWalk.wrap64_in _ (by omega)
  have g6 : bits .andNot .u64 (nrm E f : Int) 9218868437227405312 = (f : Int) := by
    rw [andNot_exp (nrm_lt h2 hf)]
    congr 1
    unfold nrm; omega
  have g7 := or_exp (show 1022 ≤ 2047 by omega) hf
  rw [show ((1022 : Nat) : Int) * 4503599627370496 = 4602678819172646912 by decide] at g7
  have hE2 : (E : Int) ≤ 2046 := by omega
  have hE1 : (1 : Int) ≤ (E : Int) := by omega
  clear hw hn hm
  go_enter Try.func85, Try.ntmps85
  go_wp2_with (first | (go_at_call 94; ((with_reducible refine (HI.out _).mono ?_); rintro e w1 ⟨rfl, rfl⟩)) | (go_at_call 93; ((with_reducible refine (HQ.out _).mono ?_); rintro e w1 ⟨rfl, rfl⟩)) | (go_at_call 96; ((with_reducible refine (HN.out _).mono ?_); rintro e w1 ⟨rfl, rfl⟩)))
  go_ret2
  refine ⟨?_, rfl⟩
  rw [show (E : Int) - 1022 = (E : Int) - 1023 + 1 by omega]
  rfl
theorem c_Frexp (E f : Nat) (w : World) (h1 : 1 ≤ E) (h2 : E ≤ 2046) (hf : f < 4503599627370496) :
    Calls Try.prog 54 #[.float .f64 (nrm E f)] w fun e w' => e = .returned (.tuple #[.float .f64 (nrm 1022 f), .int .i64 ((E : Int) - 1022)]) ∧ w = w' := by
  have HL := hid (fun w' => c_frexp E f w' h1 h2 hf)
  clear h1 h2 hf
  go_enter Try.func54, Try.ntmps54
  go_wp2_with (go_at_call 85; ((with_reducible refine (HL.out _).mono ?_); rintro e w1 ⟨rfl, rfl⟩))
  go_ret2
  exact ⟨rfl, rfl⟩
set_option maxRecDepth 100000 in
theorem c_ldexp0 (k : Int) (w : World) : Calls Try.prog 82 #[.float .f64 0, .int .i64 k] w fun e w' => e = .returned (.float .f64 0) ∧ le w w' := by
  go_enter Try.func82, Try.ntmps82
  go_wp2
  go_ret
  exact ⟨rfl, le_refl _⟩
theorem c_Ldexp0 (k : Int) (w : World) : Calls Try.prog 51 #[.float .f64 0, .int .i64 k] w fun e w' => e = .returned (.float .f64 0) ∧ le w w' := by
  go_enter Try.func51, Try.ntmps51
  go_wp2_with (go_at_call 82; ((with_reducible refine (c_ldexp0 _ _).mono ?_); rintro e w1 ⟨rfl, hl⟩))
  go_ret
  exact ⟨rfl, by assumption⟩
/-- Digits behind the point. -/
theorem c_LdexpD (D : Nat) (w : World) (h : D < 1073741824) : Calls Try.prog 51 #[.float .f64 (floatOfInt .f64 (D : Int)), .int .i64 (-30)] w fun e w' => e = .returned (.float .f64 (flN (D : Int))) ∧ le w w' := by
  by_cases h0 : D = 0
  · subst h0
    rw [show floatOfInt .f64 ((0 : Nat) : Int) = 0 by decide +kernel, show flN ((0 : Nat) : Int) = 0 from fl_zero.symm]
    exact c_Ldexp0 _ w
  · obtain ⟨E, f, he, hf, h1, h2, h3⟩ := fl_ldexp h0 h
    have HP := c_Ldexp E f (E - 30) w (by omega) (by omega) hf (by omega) (by omega)
    rw [show ((E - 30 : Nat) : Int) - E = -30 by omega, h3, ← he] at HP
    exact HP
set_option maxRecDepth 100000 in
set_option maxHeartbeats 4000000 in
theorem i_LogTwo (x : Nat) (w : World) (hx : fits .f32 x) : Calls Try.prog 19 #[.float .f32 x] w (Out_fi (lgR x) (if okLg x then 0 else 2) w) := by
  unfold lgR
  have HP := hid (fun w' => i_isPositive x w' hx)
  clear hx
  cases h : okLg x
  · rw [h] at HP
    clear h
    go_enter Try.func19, Try.ntmps19
    go_wp2_with (go_at_call 53; ((with_reducible refine (HP.out _).mono ?_); rintro e w1 ⟨rfl, rfl⟩))
    go_ret2
    exact ⟨_, rfl, by decide, le_refl _⟩
  · rw [h] at HP
    obtain ⟨E, f, hw, hf, h1, h2⟩ := lg_wide h
    clear h
    have HV := hid (lgV_eq hw hf)
    have HW := hid hw
    have HN := hid (nrm_nan (E := E) (f := f) (by omega) (by omega) hf)
    have HF := hid (fun w' => c_Frexp E f w' (by omega) (by omega) hf)
    have HM := hid (nrm_mul (E := 1022) (f := f) (G := 1024) (by omega) (by omega) hf (by omega) (by omega) (by omega) (by omega)).2
    have HN2 := hid (nrm_nan (E := 1023) (f := f) (by omega) (by omega) hf)
    clear hw
    go_enter Try.func19, Try.ntmps19
    go_wp2_with (first | (go_at_call 53; ((with_reducible refine (HP.out _).mono ?_); rintro e w1 ⟨rfl, rfl⟩)) | (with_reducible refine wpList_widen rfl rfl rfl Try.underlying22 Try.underlying26 ?_; intro s1 ns1 es1 fs1; have es2 := es1.out; rw [HW.out, can_of_not HN.out] at es2; have es3 := of_canK es2 HN.out; clear es1 fs1 es2; subst es3) | (go_at_call 54; ((with_reducible refine (HF.out _).mono ?_); rintro e w2 ⟨rfl, rfl⟩)) | (with_reducible refine wpList_farith (op := .mul) rfl rfl rfl rfl rfl ?_; intro z nz ez fz))
    have hz : can .f64 z = can .f64 (lgZ f 0) := by
      have e1 := ez.out
      rw [show (4611686018427387904 : Nat) = nrm 1024 0 by decide, HM.out] at e1
      rw [e1]
      exact (can_of_not HN2.out).symm
    have HZ0 := hid hz
    clear hz
    go_loopw [6, 7, 19] (fun zv d i wr => ∃ (j z : Nat), j ≤ 30 ∧ i = .int .i64 (j : Int) ∧ d = .int .i64 (lgD f j : Int) ∧ zv = .float .f64 z ∧ Hid (can .f64 z = can .f64 (lgZ f j)) ∧ Hid (le w wr)) (fun _ _ i _ => 30 - (intOf i).toNat)
    case atStart => exact ⟨0, _, by omega, rfl, rfl, rfl, HZ0.out, le_drewN _ _⟩
    case round =>
      obtain ⟨j, z, hj, rfl, rfl, rfl, HZ, hl⟩ := hrel
      by_cases hlt : j < 30
      · have hd : (lgD f j : Int) ≤ 536870912 := by
          have a := lgD_lt f j
          have b : 2 ^ j ≤ 2 ^ 29 := Nat.pow_le_pow_right (by omega) (by omega)
          have c : (2 : Nat) ^ 29 = 536870912 := by decide
          omega
        have hd0 : (0 : Int) ≤ (lgD f j : Int) := by omega
        cases hb : lgB f j
        · have HB := hid hb
          have HDD := hid (lgD_no hb)
          clear hb
          go_wp2_with (first | (with_reducible refine wpList_farith (op := .mul) rfl rfl rfl rfl rfl ?_; intro p np ep fp; have hbit := (lg_bit HZ.out ep.out).trans HB.out) | (with_reducible refine wpList_farith (op := .quo) rfl rfl rfl rfl rfl ?_; intro q nq eq fq))
          go_roundw
          case rel => exact ⟨j + 1, p, by omega, by go_num, by rw [HDD.out]; congr 1; omega, rfl, lg_no HZ.out ep.out HB.out, le_trans hl (by first | exact le_drewN _ _ | assumption)⟩
          case measure => simp [intOf]; omega
        · have HB := hid hb
          have HDD := hid (lgD_yes hb)
          clear hb
          go_wp2_with (first | (with_reducible refine wpList_farith (op := .mul) rfl rfl rfl rfl rfl ?_; intro p np ep fp; have hbit := (lg_bit HZ.out ep.out).trans HB.out) | (with_reducible refine wpList_farith (op := .quo) rfl rfl rfl rfl rfl ?_; intro q nq eq fq))
          go_roundw
          case rel => exact ⟨j + 1, q, by omega, by go_num, by rw [HDD.out]; congr 1; omega, rfl, lg_yes HZ.out ep.out eq.out HB.out, le_trans hl (by first | exact le_drewN _ _ | assumption)⟩
          case measure => simp [intOf]; omega
      · obtain rfl : j = 30 := by omega
        have hD := lgD_lt f 30
        have e30 : (2 : Nat) ^ 30 = 1073741824 := by decide
        rw [e30] at hD
        have HL := hid (fun w' => c_LdexpD (lgD f 30) w' hD)
        have HA := hid (fl_add (a := ((E : Int) - 1023) * 1073741824) (b := (lgD f 30 : Int)) (by omega) (by omega))
        have HI := hid (fl_int ((E : Int) - 1023))
        have HNR := hid (fl_lt (a := ((E : Int) - 1023) * 1073741824 + (lgD f 30 : Int)) (by omega))
        have HNN := hid (isNan_flN (((E : Int) - 1023) * 1073741824 + (lgD f 30 : Int)))
        have hEE : (E : Int) - 1022 - 1 = (E : Int) - 1023 := by omega
        generalize lgD f 30 = D at *
        go_wp2_with (first | (go_at_call 51; ((with_reducible refine (HL.out _).mono ?_); rintro e w3 ⟨rfl, hl3⟩)) | (with_reducible refine wpList_farith (op := .add) rfl rfl rfl rfl rfl ?_; intro r nr er fr; have hr := er.out; rw [HI.out, HA.out] at hr; have hr2 := of_canK hr HNN.out; clear er fr hr; subst hr2) | ((with_reducible refine wpList_narrow rfl rfl rfl Try.underlying26 Try.underlying22 (by exact HNR.out) ?_); intro q nq hq fq))
        go_ret2
        exact ⟨_, rfl, hq.out.trans HV.out.symm, le_trans hl (le_trans (by assumption) (le_drewN _ _))⟩
set_option maxRecDepth 100000 in
set_option maxHeartbeats 4000000 in
theorem s_l07Log_no (x : Nat) (w : World) (h : okLg x = false) : Calls Try.prog 52 #[.float .f32 x] w fun e w' => e = .returned (.tuple #[.float .f32 0, .bool false]) ∧ le w w' := by
  have HF := hid (fun w' => s_l01Finite x w')
  unfold okLg at h
  cases hf : fin x
  · rw [hf] at HF
    clear h hf
    go_enter Try.func52, Try.ntmps52
    go_wp2_with (go_at_call 74; ((with_reducible refine (HF.out _).mono ?_); rintro e w1 ⟨rfl, m1, rfl⟩))
    go_ret2
    exact ⟨rfl, le_drewN _ _⟩
  · rw [hf] at HF
    rw [hf, Bool.true_and] at h
    clear hf
    go_enter Try.func52, Try.ntmps52
    go_wp2_with (go_at_call 74; ((with_reducible refine (HF.out _).mono ?_); rintro e w1 ⟨rfl, m1, rfl⟩))
    go_ret2
    exact ⟨rfl, le_drewN _ _⟩
theorem nrm_ge2 {E f : Nat} (h1 : 1 ≤ E) (h2 : E ≤ 2046) (hf : f < 4503599627370496) : (FloatKind.f64.format.order (nrm E f) 4611686018427387904 == some .gt || FloatKind.f64.format.order (nrm E f) 4611686018427387904 == some .eq) = decide (1024 ≤ E) := by
  have h := nrm_order (E' := 1024) (f' := 0) h1 h2 hf (by omega) (by omega) (by omega)
  rw [show nrm 1024 0 = 4611686018427387904 by decide] at h
  rw [h]
  rcases Nat.lt_trichotomy (nrm E f) 4611686018427387904 with c | c | c
  · rw [Nat.compare_eq_lt.2 c, decide_eq_false (by unfold nrm at c; omega)]; rfl
  · rw [Nat.compare_eq_eq.2 c, decide_eq_true (by unfold nrm at c; omega)]; rfl
  · rw [Nat.compare_eq_gt.2 c, decide_eq_true (by unfold nrm at c; omega)]; rfl
theorem nrm_lt1 {E f : Nat} (h1 : 1 ≤ E) (h2 : E ≤ 2046) (hf : f < 4503599627370496) : (FloatKind.f64.format.order (nrm E f) 4607182418800017408 == some .lt) = decide (E < 1023) := by
  have h := nrm_order (E' := 1023) (f' := 0) h1 h2 hf (by omega) (by omega) (by omega)
  rw [show nrm 1023 0 = 4607182418800017408 by decide] at h
  rw [h]
  rcases Nat.lt_trichotomy (nrm E f) 4607182418800017408 with c | c | c
  · rw [Nat.compare_eq_lt.2 c, decide_eq_true (by unfold nrm at c; omega)]; rfl
  · rw [Nat.compare_eq_eq.2 c, decide_eq_false (by unfold nrm at c; omega)]; rfl
  · rw [Nat.compare_eq_gt.2 c, decide_eq_false (by unfold nrm at c; omega)]; rfl
set_option maxRecDepth 100000 in
set_option maxHeartbeats 4000000 in
theorem s_l07Log (x : Nat) (w : World) (h : okLg x = true) : Calls Try.prog 52 #[.float .f32 x] w fun e w' => ∃ r, e = .returned (.tuple #[.float .f32 r, .bool true]) ∧ can .f32 r = lgV x ∧ le w w' := by
  have HF := hid (fun w' => s_l01Finite x w')
  obtain ⟨E, f, hw, hf, h1, h2⟩ := lg_wide h
  unfold okLg at h
  rw [Bool.and_eq_true] at h
  obtain ⟨hfin, hgt⟩ := h
  rw [hfin] at HF
  have HV := hid (lgV_eq hw hf)
  have HW := hid hw
  have HN := hid (nrm_nan (E := E) (f := f) (by omega) (by omega) hf)
  have HFF := hid hf
  clear hw hfin
  go_enter Try.func52, Try.ntmps52
  go_wp2_with (first | (go_at_call 74; ((with_reducible refine (HF.out _).mono ?_); rintro e w1 ⟨rfl, m1, rfl⟩)) | (with_reducible refine wpList_widen rfl rfl rfl Try.underlying22 Try.underlying26 ?_; intro s1 ns1 es1 fs1; have es2 := es1.out; rw [HW.out, can_of_not HN.out] at es2; have es3 := of_canK es2 HN.out; clear es1 fs1 es2; subst es3))
  have hl0 := le_drewN w (m1 + ns1)
  have HL0 := hid hl0
  clear hl0
  -- down to 2
  go_loopw [4, 5] (fun zv sv wr => ∃ j : Nat, (j = 0 ∨ 1023 + j ≤ E) ∧ zv = .float .f64 (nrm (E - j) f) ∧ sv = .float .f64 (flN ((j : Int) * 1073741824)) ∧ Hid (le w wr)) (fun zv _ _ => match zv with | .float _ b => b | _ => 0)
  case atStart => exact ⟨0, .inl rfl, rfl, by rw [Int.natCast_zero, Int.zero_mul]; exact congrArg (Value.float .f64) fl_zero, HL0.out⟩
  case round =>
    obtain ⟨j, hj, rfl, rfl, hl⟩ := hrel
    have hc := nrm_ge2 (E := E - j) (f := f) (by omega) (by omega) hf
    by_cases hlt : 1024 ≤ E - j
    · rw [decide_eq_true hlt] at hc
      have HH := hid (nrm_half (E := E - j) (f := f) (by omega) (by omega) hf)
      have HHN := hid (nrm_nan (E := E - (j + 1)) (f := f) (by omega) (by omega) hf)
      have HA := hid (fl_add (a := (j : Int) * 1073741824) (b := 1073741824) (by omega) (by decide))
      have HAN := hid (isNan_flN ((j : Int) * 1073741824 + 1073741824))
      go_wp2_with (first | (with_reducible refine wpList_farith (op := .quo) rfl rfl rfl rfl rfl ?_; intro q nq eq fq) | (with_reducible refine wpList_farith (op := .add) rfl rfl rfl rfl rfl ?_; intro r nr er fr))
      go_roundw
      case rel =>
        have e1 := eq.out
        rw [HH.out, show E - j - 1 = E - (j + 1) by omega] at e1
        have e2 := er.out
        rw [fl_one, HA.out] at e2
        exact ⟨j + 1, .inr (by omega), by rw [of_canK e1 HHN.out], by rw [of_canK e2 HAN.out, Int.natCast_add, Int.add_mul]; rfl, le_trans hl (by first | exact le_drewN _ _ | assumption)⟩
      case measure =>
        have e1 := eq.out
        rw [HH.out, show E - j - 1 = E - (j + 1) by omega] at e1
        rw [of_canK e1 HHN.out]
        show nrm (E - (j + 1)) f < nrm (E - j) f
        unfold nrm; omega
    · rw [decide_eq_false hlt] at hc
      have hE : E - j ≤ 1023 := by omega
      have hj2 : j = 0 ∨ E - j = 1023 := by omega
      go_wp2
      -- up to 1
      obtain ⟨E1, hE1⟩ : ∃ E1, E1 = E - j := ⟨_, rfl⟩
      rw [← hE1] at hE hj2 ⊢
      have hE2 : 874 ≤ E1 := by omega
      have hE3a : j + E1 ≤ E := by omega
      have hE3b : E ≤ j + E1 := by omega
      clear hc hlt hj hE1
      go_loopw [4, 5] (fun zv sv wr => ∃ i : Nat, (i = 0 ∨ E1 + i ≤ 1023) ∧ zv = .float .f64 (nrm (E1 + i) f) ∧ sv = .float .f64 (flN (((j : Int) - i) * 1073741824)) ∧ Hid (le w wr)) (fun zv _ _ => match zv with | .float _ b => 9223372036854775808 - b | _ => 0)
      case atStart => exact ⟨0, .inl rfl, rfl, by rw [Int.natCast_zero, Int.sub_zero], hl⟩
      case round =>
        obtain ⟨i, hi, rfl, rfl, hl⟩ := hrel
        have hc := nrm_lt1 (E := E1 + i) (f := f) (by omega) (by omega) hf
        by_cases hlt : E1 + i < 1023
        · rw [decide_eq_true hlt] at hc
          have HH := hid (nrm_mul (E := E1 + i) (f := f) (G := 1024) (by omega) (by omega) hf (by omega) (by omega) (by omega) (by omega)).1
          have HHN := hid (nrm_nan (E := E1 + (i + 1)) (f := f) (by omega) (by omega) hf)
          have HA := hid (fl_sub (a := ((j : Int) - i) * 1073741824) (b := 1073741824) (by omega) (by decide))
          have HAN := hid (isNan_flN (((j : Int) - i) * 1073741824 - 1073741824))
          go_wp2_with (first | (with_reducible refine wpList_farith (op := .mul) rfl rfl rfl rfl rfl ?_; intro q nq eq fq) | (with_reducible refine wpList_farith (op := .sub) rfl rfl rfl rfl rfl ?_; intro r nr er fr))
          go_roundw
          case rel =>
            have e1 := eq.out
            rw [show (4611686018427387904 : Nat) = nrm 1024 0 by decide, HH.out, show E1 + i + 1024 - 1023 = E1 + (i + 1) by omega] at e1
            have e2 := er.out
            rw [fl_one, HA.out] at e2
            exact ⟨i + 1, .inr (by omega), by rw [of_canK e1 HHN.out], by rw [of_canK e2 HAN.out]; congr 2; omega, le_trans hl (by first | exact le_drewN _ _ | assumption)⟩
          case measure =>
            have e1 := eq.out
            rw [show (4611686018427387904 : Nat) = nrm 1024 0 by decide, HH.out, show E1 + i + 1024 - 1023 = E1 + (i + 1) by omega] at e1
            rw [of_canK e1 HHN.out]
            show 9223372036854775808 - nrm (E1 + (i + 1)) f < 9223372036854775808 - nrm (E1 + i) f
            unfold nrm; omega
        · rw [decide_eq_false hlt] at hc
          have hEi : E1 + i = 1023 := by omega
          have hS : (j : Int) - i = (E : Int) - 1023 := by omega
          rw [hEi, hS]
          rw [hEi] at hc
          clear hi hlt hE3a hE3b hj2 hE hEi hS hE2
          go_wp2
          go_loopw [4, 5, 6, 7] (fun zv sv pv iv wr => ∃ (i z : Nat), i ≤ 30 ∧ iv = .int .i64 (i : Int) ∧ pv = .float .f64 (nrm (1023 - i) 0) ∧ zv = .float .f64 z ∧ Hid (can .f64 z = can .f64 (lgZ f i)) ∧ sv = .float .f64 (flN (((E : Int) - 1023) * 1073741824 + (lgD f i * 2 ^ (30 - i) : Nat))) ∧ Hid (le w wr)) (fun _ _ _ iv _ => 30 - (intOf iv).toNat)
          case atStart => exact ⟨0, _, by omega, rfl, congrArg (Value.float .f64) one_nrm, rfl, rfl, by rw [show lgD f 0 = 0 from rfl, Nat.zero_mul, Int.natCast_zero, Int.add_zero], hl⟩
          case round =>
            obtain ⟨i, z, hi, rfl, rfl, rfl, HZ, rfl, hl⟩ := hrel
            by_cases hlt : i < 30
            · have HPH := hid (nrm_half (E := 1023 - i) (f := 0) (by omega) (by omega) (by omega))
              rw [show 1023 - i - 1 = 1022 - i by omega] at HPH
              have HPN := hid (nrm_nan (E := 1022 - i) (f := 0) (by omega) (by omega) (by omega))
              have hdl := lgD_lt f i
              have hpw : 2 ^ (30 - i) = 2 * 2 ^ (30 - (i + 1)) := by rw [show 30 - i = 30 - (i + 1) + 1 by omega, Nat.pow_succ, Nat.mul_comm]
              have hm : lgD f i * 2 ^ (30 - i) < 1073741824 := by
                have a : lgD f i * 2 ^ (30 - i) < 2 ^ i * 2 ^ (30 - i) := Nat.mul_lt_mul_of_pos_right hdl (Nat.two_pow_pos _)
                rw [← Nat.pow_add, show i + (30 - i) = 30 by omega] at a
                exact a
              have hp1 : 2 ^ (30 - (i + 1)) ≤ 1073741824 := Nat.le_trans (Nat.pow_le_pow_right (by omega) (by omega : 30 - (i + 1) ≤ 30)) (by decide)
              have hno : lgB f i = false → lgD f (i + 1) * 2 ^ (30 - (i + 1)) = lgD f i * 2 ^ (30 - i) := fun h => by rw [lgD_no h, hpw, Nat.mul_comm 2 (lgD f i), Nat.mul_assoc]
              have hyes : lgB f i = true → lgD f (i + 1) * 2 ^ (30 - (i + 1)) = lgD f i * 2 ^ (30 - i) + 2 ^ (30 - (i + 1)) := fun h => by rw [lgD_yes h, hpw, Nat.add_mul, Nat.one_mul, Nat.mul_comm 2 (lgD f i), Nat.mul_assoc]
              have hfp := fl_part (i := i + 1) (by omega)
              rw [show 1023 - (i + 1) = 1022 - i by omega] at hfp
              clear hpw hdl
              generalize lgD f i * 2 ^ (30 - i) = M at *
              generalize hP : 2 ^ (30 - (i + 1)) = P at *
              have HPE := hid hP
              clear hP
              have HA := hid (fl_add (a := ((E : Int) - 1023) * 1073741824 + (M : Int)) (b := (P : Int)) (by omega) (by omega))
              have HAN := hid (isNan_flN (((E : Int) - 1023) * 1073741824 + (M : Int) + (P : Int)))
              have HFP := hid hfp
              have HNO := hid hno
              have HYES := hid hyes
              clear hm hp1 hfp hno hyes
              cases hb : lgB f i
              · have HB := hid hb
                clear hb
                go_wp2_with (first | (with_reducible refine wpList_farith (op := .quo) (p := p) rfl rfl rfl rfl rfl ?_; intro q nq eq fq) | (with_reducible refine wpList_farith (op := .quo) rfl rfl rfl rfl rfl ?_; intro g ng eg fg; have eg2 := eg.out; rw [HPH.out] at eg2; have eg3 := of_canK eg2 HPN.out; clear eg fg eg2; subst eg3) | (with_reducible refine wpList_farith (op := .mul) rfl rfl rfl rfl rfl ?_; intro p np ep fp; have hbit := (lg_bit HZ.out ep.out).trans HB.out) | (with_reducible refine wpList_farith (op := .add) rfl rfl rfl rfl rfl ?_; intro r nr er fr))
                go_roundw
                case rel => exact ⟨i + 1, p, by omega, by go_num, by rw [show 1023 - (i + 1) = 1022 - i by omega], rfl, lg_no HZ.out ep.out HB.out, by rw [HPE.out, HNO.out HB.out], le_trans hl (by first | exact le_drewN _ _ | assumption)⟩
                case measure => simp [intOf]; omega
              · have HB := hid hb
                clear hb
                go_wp2_with (first | (with_reducible refine wpList_farith (op := .quo) (p := p) rfl rfl rfl rfl rfl ?_; intro q nq eq fq) | (with_reducible refine wpList_farith (op := .quo) rfl rfl rfl rfl rfl ?_; intro g ng eg fg; have eg2 := eg.out; rw [HPH.out] at eg2; have eg3 := of_canK eg2 HPN.out; clear eg fg eg2; subst eg3) | (with_reducible refine wpList_farith (op := .mul) rfl rfl rfl rfl rfl ?_; intro p np ep fp; have hbit := (lg_bit HZ.out ep.out).trans HB.out) | (with_reducible refine wpList_farith (op := .add) rfl rfl rfl rfl rfl ?_; intro r nr er fr))
                go_roundw
                case rel =>
                  have e2 := er.out
                  rw [HFP.out, HA.out] at e2
                  refine ⟨i + 1, q, by omega, by go_num, by rw [show 1023 - (i + 1) = 1022 - i by omega], rfl, lg_yes HZ.out ep.out eq.out HB.out, ?_, le_trans hl (by first | exact le_drewN _ _ | assumption)⟩
                  rw [of_canK e2 HAN.out, HPE.out, HYES.out HB.out, Int.add_assoc, ← Int.natCast_add]
                case measure => simp [intOf]; omega
            · obtain rfl : i = 30 := by omega
              have hD := lgD_lt f 30
              have e30 : (2 : Nat) ^ 30 = 1073741824 := by decide
              rw [e30] at hD
              have e0 : lgD f 30 * 2 ^ (30 - 30) = lgD f 30 := by rw [Nat.sub_self, Nat.pow_zero, Nat.mul_one]
              rw [e0]
              have HNR := hid (fl_lt (a := ((E : Int) - 1023) * 1073741824 + (lgD f 30 : Int)) (by omega))
              clear e0 e30 hD
              generalize lgD f 30 = D at *
              go_wp2_with ((with_reducible refine wpList_narrow rfl rfl rfl Try.underlying26 Try.underlying22 (by exact HNR.out) ?_); intro q nq hq fq)
              go_ret2
              exact ⟨_, rfl, hq.out.trans HV.out.symm, le_trans hl (le_drewN _ _)⟩
set_option maxRecDepth 100000 in
set_option maxHeartbeats 4000000 in
theorem s_LogTwo (x : Nat) (w : World) : Calls Try.prog 18 #[.float .f32 x] w (Out_fi (lgR x) (if okLg x then 0 else 2) w) := by
  unfold lgR
  cases h : okLg x
  · have HT := hid (fun w' => s_l07Log_no x w' h)
    clear h
    go_enter Try.func18, Try.ntmps18
    go_wp2_with (go_at_call 52; ((with_reducible refine (HT.out _).mono ?_); rintro e w1 ⟨rfl, hl⟩))
    go_ret2
    exact ⟨_, rfl, by decide, by assumption⟩
  · have HT := hid (fun w' => s_l07Log x w' h)
    clear h
    go_enter Try.func18, Try.ntmps18
    go_wp2_with (go_at_call 52; ((with_reducible refine (HT.out _).mono ?_); rintro e w1 ⟨r, rfl, hr, hl⟩; have HR := hid hr; clear hr))
    go_ret2
    exact ⟨_, rfl, HR.out, by assumption⟩
theorem both_LogTwo (a : Nat) (ha : fits .f32 a) : ∃ (ar0 : Nat) (ar1 : Int), (∀ w : World, Calls Try.prog 18 #[.float .f32 a] w (Out_fi ar0 ar1 w)) ∧ (∀ w : World, Calls Try.prog 19 #[.float .f32 a] w (Out_fi ar0 ar1 w)) :=
  ⟨_, _, s_LogTwo a, fun w => i_LogTwo a w ha⟩
end Go.Proofs.Yteblmkamopfkiaa

/- What grows by append, beside facts of memory. Nothing here names a program. -/
namespace Go.Fk
open Go Go.RowKit
theorem ownsRow_chS {S : Nat → Prop} {w w' : World} {e : TypeId} {n B : Nat} {xs : List Value} {v : Value} (hw : Chg S w w') (h : w.ownsRow B e 1 v n xs) (hS : ∀ i, S i → i < B) : w'.ownsRow B e 1 v n xs := by
  obtain ⟨h1, h2⟩ := h
  refine ⟨h1, ?_⟩
  rcases h2 with h2 | ⟨q, cap, cur, e1, e2, e3, e4⟩
  · exact .inl h2
  · exact .inr ⟨q, cap, cur, e1, e2, by have := hw.row (g := q) (t := e) (cs := cur) e3 (fun hq => by have := hS q hq; omega); exact this, e4⟩
theorem ownBlock_ge {w : World} {B : Nat} {e : TypeId} {z : Nat} {v : Value} {n : Nat} {xs : List Value} (h : w.ownsRow B e z v n xs) : ∀ k, v.ownBlock = some k → B ≤ k := by
  rcases h.2 with ⟨rfl, _⟩ | ⟨q, cap, cur, rfl, hb, _⟩
  · intro k hk; cases hk
  · intro k hk; simp only [Value.ownBlock, Option.some.injEq] at hk; omega
theorem chg_grown {w w' : World} {row : Option Nat} {B : Nat} (h : w.grownBy w' row) (hr : ∀ k, row = some k → B ≤ k) : Chg (B ≤ ·) w w' :=
  ⟨h.os, h.tape, h.output, h.size, fun k hk hn => h.block k hk (fun e => hn (hr k e.symm))⟩
theorem Frg.up {w0 w w' : World} {L : List Fact} {B : Nat} (h : Frg w0 w L) (k : Chg (B ≤ ·) w w') (hB : ∀ e ∈ L, e.hi ≤ B) (h0 : w0.heap.size ≤ B) : Frg w0 w' L :=
  ⟨h.below.trans (k.below (fun i hi => Nat.le_trans h0 hi) h.size), fun e he => by
    obtain ⟨h1, h2, h3⟩ := h.facts e he
    exact ⟨h1, Nat.le_trans h2 k.size, e.ok w w' h3 (fun i _ hi => k.block i (by omega) (fun hb => by have := hB e he; omega))⟩, h.apart⟩
theorem flist_snoc (y : Nat → Nat) (n a : Nat) : flist y n ++ [.float .f32 a] = flist (fun j => if j = n then a else y j) (n + 1) := by
  have h := flist_app y (fun _ => a) n 1
  have h1 : flist (fun _ => a) 1 = [.float .f32 a] := by simp [flist]
  rw [h1] at h
  rw [h]
  apply List.ext_getElem?
  intro i
  by_cases hi : i < n + 1
  · rw [flist_get' _ hi, flist_get' _ hi]
    by_cases e : i = n
    · simp [e]
    · simp [e, show i < n by omega]
  · rw [List.getElem?_eq_none (by rw [flist_length]; omega), List.getElem?_eq_none (by rw [flist_length]; omega)]
theorem Frg.own2 {w0 w w' : World} {L : List Fact} {q n n' : Nat} {s s' : Value} {x x' : Nat → Nat} (h : Frg w0 w L) (k : Below w.heap.size w w') (h1 : w.heap.size ≤ q) (h2 : q ≤ w'.heap.size) (o1 : OwnS w' w.heap.size q s x n) (o2 : OwnS w' q w'.heap.size s' x' n') :
    Frg w0 w' (ownF q w'.heap.size s' x' n' :: ownF w.heap.size q s x n :: L) := by
  refine ⟨(h.le k).below, fun e he => ?_, .cons (fun e he => ?_) (.cons (fun e he => (h.facts e he).2.1) h.apart)⟩
  · rcases List.mem_cons.1 he with rfl | he
    · exact ⟨Nat.le_trans h.size h1, Nat.le_refl _, o2⟩
    · rcases List.mem_cons.1 he with rfl | he
      · exact ⟨h.size, h2, o1⟩
      · exact (h.le k).facts e he
  · rcases List.mem_cons.1 he with rfl | he
    · exact Nat.le_refl q
    · exact Nat.le_trans (h.facts e he).2.1 h1
theorem m12 {b0 b1 b2 b3 b4 b5 b6 b7 b8 b9 b10 b11 a : Fact} {l : List Fact} : a ∈ b0 :: b1 :: b2 :: b3 :: b4 :: b5 :: b6 :: b7 :: b8 :: b9 :: b10 :: b11 :: a :: l := List.mem_cons_of_mem _ (List.mem_cons_of_mem _ (List.mem_cons_of_mem _ (List.mem_cons_of_mem _ (List.mem_cons_of_mem _ (List.mem_cons_of_mem _ (List.mem_cons_of_mem _ (List.mem_cons_of_mem _ (List.mem_cons_of_mem _ (List.mem_cons_of_mem _ (List.mem_cons_of_mem _ (List.mem_cons_of_mem _ (List.mem_cons_self))))))))))))
theorem m13 {b0 b1 b2 b3 b4 b5 b6 b7 b8 b9 b10 b11 b12 a : Fact} {l : List Fact} : a ∈ b0 :: b1 :: b2 :: b3 :: b4 :: b5 :: b6 :: b7 :: b8 :: b9 :: b10 :: b11 :: b12 :: a :: l := List.mem_cons_of_mem _ (List.mem_cons_of_mem _ (List.mem_cons_of_mem _ (List.mem_cons_of_mem _ (List.mem_cons_of_mem _ (List.mem_cons_of_mem _ (List.mem_cons_of_mem _ (List.mem_cons_of_mem _ (List.mem_cons_of_mem _ (List.mem_cons_of_mem _ (List.mem_cons_of_mem _ (List.mem_cons_of_mem _ (List.mem_cons_of_mem _ (List.mem_cons_self)))))))))))))
theorem m14 {b0 b1 b2 b3 b4 b5 b6 b7 b8 b9 b10 b11 b12 b13 a : Fact} {l : List Fact} : a ∈ b0 :: b1 :: b2 :: b3 :: b4 :: b5 :: b6 :: b7 :: b8 :: b9 :: b10 :: b11 :: b12 :: b13 :: a :: l := List.mem_cons_of_mem _ (List.mem_cons_of_mem _ (List.mem_cons_of_mem _ (List.mem_cons_of_mem _ (List.mem_cons_of_mem _ (List.mem_cons_of_mem _ (List.mem_cons_of_mem _ (List.mem_cons_of_mem _ (List.mem_cons_of_mem _ (List.mem_cons_of_mem _ (List.mem_cons_of_mem _ (List.mem_cons_of_mem _ (List.mem_cons_of_mem _ (List.mem_cons_of_mem _ (List.mem_cons_self))))))))))))))
theorem m15 {b0 b1 b2 b3 b4 b5 b6 b7 b8 b9 b10 b11 b12 b13 b14 a : Fact} {l : List Fact} : a ∈ b0 :: b1 :: b2 :: b3 :: b4 :: b5 :: b6 :: b7 :: b8 :: b9 :: b10 :: b11 :: b12 :: b13 :: b14 :: a :: l := List.mem_cons_of_mem _ (List.mem_cons_of_mem _ (List.mem_cons_of_mem _ (List.mem_cons_of_mem _ (List.mem_cons_of_mem _ (List.mem_cons_of_mem _ (List.mem_cons_of_mem _ (List.mem_cons_of_mem _ (List.mem_cons_of_mem _ (List.mem_cons_of_mem _ (List.mem_cons_of_mem _ (List.mem_cons_of_mem _ (List.mem_cons_of_mem _ (List.mem_cons_of_mem _ (List.mem_cons_of_mem _ (List.mem_cons_self)))))))))))))))
theorem m16 {b0 b1 b2 b3 b4 b5 b6 b7 b8 b9 b10 b11 b12 b13 b14 b15 a : Fact} {l : List Fact} : a ∈ b0 :: b1 :: b2 :: b3 :: b4 :: b5 :: b6 :: b7 :: b8 :: b9 :: b10 :: b11 :: b12 :: b13 :: b14 :: b15 :: a :: l := List.mem_cons_of_mem _ (List.mem_cons_of_mem _ (List.mem_cons_of_mem _ (List.mem_cons_of_mem _ (List.mem_cons_of_mem _ (List.mem_cons_of_mem _ (List.mem_cons_of_mem _ (List.mem_cons_of_mem _ (List.mem_cons_of_mem _ (List.mem_cons_of_mem _ (List.mem_cons_of_mem _ (List.mem_cons_of_mem _ (List.mem_cons_of_mem _ (List.mem_cons_of_mem _ (List.mem_cons_of_mem _ (List.mem_cons_of_mem _ (List.mem_cons_self))))))))))))))))
theorem m17 {b0 b1 b2 b3 b4 b5 b6 b7 b8 b9 b10 b11 b12 b13 b14 b15 b16 a : Fact} {l : List Fact} : a ∈ b0 :: b1 :: b2 :: b3 :: b4 :: b5 :: b6 :: b7 :: b8 :: b9 :: b10 :: b11 :: b12 :: b13 :: b14 :: b15 :: b16 :: a :: l := List.mem_cons_of_mem _ (List.mem_cons_of_mem _ (List.mem_cons_of_mem _ (List.mem_cons_of_mem _ (List.mem_cons_of_mem _ (List.mem_cons_of_mem _ (List.mem_cons_of_mem _ (List.mem_cons_of_mem _ (List.mem_cons_of_mem _ (List.mem_cons_of_mem _ (List.mem_cons_of_mem _ (List.mem_cons_of_mem _ (List.mem_cons_of_mem _ (List.mem_cons_of_mem _ (List.mem_cons_of_mem _ (List.mem_cons_of_mem _ (List.mem_cons_of_mem _ (List.mem_cons_self)))))))))))))))))
theorem m18 {b0 b1 b2 b3 b4 b5 b6 b7 b8 b9 b10 b11 b12 b13 b14 b15 b16 b17 a : Fact} {l : List Fact} : a ∈ b0 :: b1 :: b2 :: b3 :: b4 :: b5 :: b6 :: b7 :: b8 :: b9 :: b10 :: b11 :: b12 :: b13 :: b14 :: b15 :: b16 :: b17 :: a :: l := List.mem_cons_of_mem _ (List.mem_cons_of_mem _ (List.mem_cons_of_mem _ (List.mem_cons_of_mem _ (List.mem_cons_of_mem _ (List.mem_cons_of_mem _ (List.mem_cons_of_mem _ (List.mem_cons_of_mem _ (List.mem_cons_of_mem _ (List.mem_cons_of_mem _ (List.mem_cons_of_mem _ (List.mem_cons_of_mem _ (List.mem_cons_of_mem _ (List.mem_cons_of_mem _ (List.mem_cons_of_mem _ (List.mem_cons_of_mem _ (List.mem_cons_of_mem _ (List.mem_cons_of_mem _ (List.mem_cons_self))))))))))))))))))
theorem m19 {b0 b1 b2 b3 b4 b5 b6 b7 b8 b9 b10 b11 b12 b13 b14 b15 b16 b17 b18 a : Fact} {l : List Fact} : a ∈ b0 :: b1 :: b2 :: b3 :: b4 :: b5 :: b6 :: b7 :: b8 :: b9 :: b10 :: b11 :: b12 :: b13 :: b14 :: b15 :: b16 :: b17 :: b18 :: a :: l := List.mem_cons_of_mem _ (List.mem_cons_of_mem _ (List.mem_cons_of_mem _ (List.mem_cons_of_mem _ (List.mem_cons_of_mem _ (List.mem_cons_of_mem _ (List.mem_cons_of_mem _ (List.mem_cons_of_mem _ (List.mem_cons_of_mem _ (List.mem_cons_of_mem _ (List.mem_cons_of_mem _ (List.mem_cons_of_mem _ (List.mem_cons_of_mem _ (List.mem_cons_of_mem _ (List.mem_cons_of_mem _ (List.mem_cons_of_mem _ (List.mem_cons_of_mem _ (List.mem_cons_of_mem _ (List.mem_cons_of_mem _ (List.mem_cons_self)))))))))))))))))))
theorem Frg.mark10 {w0 w w' : World} {lo hi n : Nat} {s : Value} {x x' : Nat → Nat} {l : List Fact} {b0 b1 b2 b3 b4 b5 b6 b7 b8 b9 : Fact} (h : Frg w0 w (b0 :: b1 :: b2 :: b3 :: b4 :: b5 :: b6 :: b7 :: b8 :: b9 :: ownF lo hi s x n :: l)) (hp : OwnS w' lo hi s x' n) (k : Chg (rng lo hi) w w') : Frg w0 w' (b0 :: b1 :: b2 :: b3 :: b4 :: b5 :: b6 :: b7 :: b8 :: b9 :: ownF lo hi s x' n :: l) :=
  Frg.chg [b0, b1, b2, b3, b4, b5, b6, b7, b8, b9] (e := ownF lo hi s x n) (e' := ownF lo hi s x' n) h k hp rfl rfl
theorem Frg.mark11 {w0 w w' : World} {lo hi n : Nat} {s : Value} {x x' : Nat → Nat} {l : List Fact} {b0 b1 b2 b3 b4 b5 b6 b7 b8 b9 b10 : Fact} (h : Frg w0 w (b0 :: b1 :: b2 :: b3 :: b4 :: b5 :: b6 :: b7 :: b8 :: b9 :: b10 :: ownF lo hi s x n :: l)) (hp : OwnS w' lo hi s x' n) (k : Chg (rng lo hi) w w') : Frg w0 w' (b0 :: b1 :: b2 :: b3 :: b4 :: b5 :: b6 :: b7 :: b8 :: b9 :: b10 :: ownF lo hi s x' n :: l) :=
  Frg.chg [b0, b1, b2, b3, b4, b5, b6, b7, b8, b9, b10] (e := ownF lo hi s x n) (e' := ownF lo hi s x' n) h k hp rfl rfl
theorem Frg.mark12 {w0 w w' : World} {lo hi n : Nat} {s : Value} {x x' : Nat → Nat} {l : List Fact} {b0 b1 b2 b3 b4 b5 b6 b7 b8 b9 b10 b11 : Fact} (h : Frg w0 w (b0 :: b1 :: b2 :: b3 :: b4 :: b5 :: b6 :: b7 :: b8 :: b9 :: b10 :: b11 :: ownF lo hi s x n :: l)) (hp : OwnS w' lo hi s x' n) (k : Chg (rng lo hi) w w') : Frg w0 w' (b0 :: b1 :: b2 :: b3 :: b4 :: b5 :: b6 :: b7 :: b8 :: b9 :: b10 :: b11 :: ownF lo hi s x' n :: l) :=
  Frg.chg [b0, b1, b2, b3, b4, b5, b6, b7, b8, b9, b10, b11] (e := ownF lo hi s x n) (e' := ownF lo hi s x' n) h k hp rfl rfl
theorem Frg.mark13 {w0 w w' : World} {lo hi n : Nat} {s : Value} {x x' : Nat → Nat} {l : List Fact} {b0 b1 b2 b3 b4 b5 b6 b7 b8 b9 b10 b11 b12 : Fact} (h : Frg w0 w (b0 :: b1 :: b2 :: b3 :: b4 :: b5 :: b6 :: b7 :: b8 :: b9 :: b10 :: b11 :: b12 :: ownF lo hi s x n :: l)) (hp : OwnS w' lo hi s x' n) (k : Chg (rng lo hi) w w') : Frg w0 w' (b0 :: b1 :: b2 :: b3 :: b4 :: b5 :: b6 :: b7 :: b8 :: b9 :: b10 :: b11 :: b12 :: ownF lo hi s x' n :: l) :=
  Frg.chg [b0, b1, b2, b3, b4, b5, b6, b7, b8, b9, b10, b11, b12] (e := ownF lo hi s x n) (e' := ownF lo hi s x' n) h k hp rfl rfl
theorem Frg.mark14 {w0 w w' : World} {lo hi n : Nat} {s : Value} {x x' : Nat → Nat} {l : List Fact} {b0 b1 b2 b3 b4 b5 b6 b7 b8 b9 b10 b11 b12 b13 : Fact} (h : Frg w0 w (b0 :: b1 :: b2 :: b3 :: b4 :: b5 :: b6 :: b7 :: b8 :: b9 :: b10 :: b11 :: b12 :: b13 :: ownF lo hi s x n :: l)) (hp : OwnS w' lo hi s x' n) (k : Chg (rng lo hi) w w') : Frg w0 w' (b0 :: b1 :: b2 :: b3 :: b4 :: b5 :: b6 :: b7 :: b8 :: b9 :: b10 :: b11 :: b12 :: b13 :: ownF lo hi s x' n :: l) :=
  Frg.chg [b0, b1, b2, b3, b4, b5, b6, b7, b8, b9, b10, b11, b12, b13] (e := ownF lo hi s x n) (e' := ownF lo hi s x' n) h k hp rfl rfl
theorem Frg.mark15 {w0 w w' : World} {lo hi n : Nat} {s : Value} {x x' : Nat → Nat} {l : List Fact} {b0 b1 b2 b3 b4 b5 b6 b7 b8 b9 b10 b11 b12 b13 b14 : Fact} (h : Frg w0 w (b0 :: b1 :: b2 :: b3 :: b4 :: b5 :: b6 :: b7 :: b8 :: b9 :: b10 :: b11 :: b12 :: b13 :: b14 :: ownF lo hi s x n :: l)) (hp : OwnS w' lo hi s x' n) (k : Chg (rng lo hi) w w') : Frg w0 w' (b0 :: b1 :: b2 :: b3 :: b4 :: b5 :: b6 :: b7 :: b8 :: b9 :: b10 :: b11 :: b12 :: b13 :: b14 :: ownF lo hi s x' n :: l) :=
  Frg.chg [b0, b1, b2, b3, b4, b5, b6, b7, b8, b9, b10, b11, b12, b13, b14] (e := ownF lo hi s x n) (e' := ownF lo hi s x' n) h k hp rfl rfl
theorem Frg.mark16 {w0 w w' : World} {lo hi n : Nat} {s : Value} {x x' : Nat → Nat} {l : List Fact} {b0 b1 b2 b3 b4 b5 b6 b7 b8 b9 b10 b11 b12 b13 b14 b15 : Fact} (h : Frg w0 w (b0 :: b1 :: b2 :: b3 :: b4 :: b5 :: b6 :: b7 :: b8 :: b9 :: b10 :: b11 :: b12 :: b13 :: b14 :: b15 :: ownF lo hi s x n :: l)) (hp : OwnS w' lo hi s x' n) (k : Chg (rng lo hi) w w') : Frg w0 w' (b0 :: b1 :: b2 :: b3 :: b4 :: b5 :: b6 :: b7 :: b8 :: b9 :: b10 :: b11 :: b12 :: b13 :: b14 :: b15 :: ownF lo hi s x' n :: l) :=
  Frg.chg [b0, b1, b2, b3, b4, b5, b6, b7, b8, b9, b10, b11, b12, b13, b14, b15] (e := ownF lo hi s x n) (e' := ownF lo hi s x' n) h k hp rfl rfl
end Go.Fk

/- Filling a list, one by one. Nothing here names a program. -/
namespace Go.Fk
open Go Go.RowKit
/-- So many outputs, then the inputs. -/
def upto (j : Nat) (h z : Nat → Nat) : Nat → Nat := fun i => if i < j then h i else z i
theorem upto_zero (h z : Nat → Nat) : upto 0 h z = z := by funext i; simp [upto]
theorem upto_set (j : Nat) (h z : Nat → Nat) (r : Nat) : (fun i => if i = j then r else upto j h z i) = upto (j + 1) (fun i => if i = j then r else h i) z := by
  funext i
  unfold upto
  by_cases e : i = j
  · subst e; simp
  · by_cases l : i < j
    · simp [e, l, show i < j + 1 by omega]
    · simp [e, l, show ¬ i < j + 1 by omega]
theorem upto_full (h z : Nat → Nat) : ftab .f32 (upto 16 h z) 16 = ftab .f32 h 16 := ftab_congr (fun j hj => if_pos hj)
end Go.Fk

/- 'BreathRamp' of both; 'between'. -/
namespace Go.Fk
open Go Go.RowKit
/-- A number that lies behind a share of the way. -/
def betwV (p q s : Nat) : Nat := fop .add .f32 p (fop .mul .f32 (fop .sub .f32 q p) s)
theorem betw_of {p q s d m r : Nat} (hd : can .f32 d = fop .sub .f32 q p) (hm : can .f32 m = fop .mul .f32 d s) (hr : can .f32 r = fop .add .f32 p m) : can .f32 r = betwV p q s := by
  rw [hr, betwV]
  refine fop_congr rfl (hm.trans ?_)
  rw [can_fop]
  exact fop_congr (hd.trans (can_fop _ _ _ _).symm) rfl
theorem betw_congr {p q s s' : Nat} (h : can .f32 s = can .f32 s') : betwV p q s = betwV p q s' := fop_congr rfl (by rw [can_fop, can_fop]; exact fop_congr rfl h)
def OutFd (v : Nat) (w : World) (e : Ending) (w' : World) : Prop := ∃ y, e = .returned (.float .f32 y) ∧ can .f32 y = v ∧ fits .f32 y ∧ ∃ n, w' = w.drewN n
theorem ownsRow_drewN {w : World} {e : TypeId} {n B : Nat} {xs : List Value} {v : Value} (h : w.ownsRow B e 1 v n xs) (m : Nat) : (w.drewN m).ownsRow B e 1 v n xs := ownsRow_chS (S := fun _ => False) (Chg.of_le (le_drewN w m)) h (fun _ k => k.elim)
def rampV (p q K j : Nat) : Nat := betwV p q (fop .quo .f32 (floatOfInt .f32 (j : Int)) (floatOfInt .f32 (K : Int)))
end Go.Fk
namespace Go.Proofs.Yteblmkamopfkiaa
open Go.RowKit Go.Fk
end Go.Proofs.Yteblmkamopfkiaa

/- 'GlideOf' of both. -/
namespace Go.Fk
open Go Go.RowKit
def glQ (p q : Nat) : Nat := fop .quo .f32 q p
def glT (p q : Nat) (c : Int) : Nat := fop .quo .f32 (lgR (glQ p q)) (floatOfInt .f32 c)
def ok1G (p q : Nat) (c : Int) : Bool := (decide (1 ≤ c) && decide (c ≤ 4096)) && (okLg p && okLg q)
/-- The numbers of a glide. -/
def glV (p f : Nat) : Nat → Nat
  | 0 => can .f32 p
  | j + 1 => fop .mul .f32 (glV p f j) f
theorem can_glV (p f j : Nat) : can .f32 (glV p f j) = glV p f j := by
  cases j with
  | zero => exact can_can _ _
  | succ j => exact can_fop _ _ _ _
theorem glV_of {p f j y v r : Nat} (hy : can .f32 y = glV p f j) (hv : can .f32 v = can .f32 f) (hr : can .f32 r = fop .mul .f32 y v) : can .f32 r = glV p f (j + 1) := by
  rw [hr]
  exact fop_congr (hy.trans (can_glV p f j).symm) hv
theorem can_lgR (x : Nat) : can .f32 (lgR x) = lgR x := by
  unfold lgR; split
  · unfold lgV; exact can_can _ _
  · decide
theorem can_twV (x : Nat) : can .f32 (twV x) = twV x := by
  unfold twV; split
  · unfold pwV; exact can_can _ _
  · decide
end Go.Fk
namespace Go.Proofs.Yteblmkamopfkiaa
open Go.RowKit Go.Fk
theorem i_LogG (p q r : Nat) (w : World) (hr : can .f32 r = glQ p q) (hf : fits .f32 r) : Calls Try.prog 19 #[.float .f32 r] w (Out_fi (lgR (glQ p q)) (if okLg (glQ p q) then 0 else 2) w) := by
  have e : can .f32 r = can .f32 (glQ p q) := by rw [hr]; unfold glQ; rw [can_fop]
  have k := i_LogTwo r w hf
  rw [(lg_congr e).2.2, (lg_congr e).2.1] at k
  exact k
theorem i_TwoG (p q : Nat) (c : Int) (l r : Nat) (w : World) (hl : can .f32 l = lgR (glQ p q)) (hr : can .f32 r = fop .quo .f32 l (floatOfInt .f32 c)) : Calls Try.prog 16 #[.float .f32 r] w (Out_fi (twV (glT p q c)) (if okTw (glT p q c) then 0 else 2) w) := by
  have e : can .f32 r = can .f32 (glT p q c) := by
    rw [hr]; unfold glT; rw [can_fop]; exact fop_congr (hl.trans (can_lgR _).symm) rfl
  have k := i_TwoTo r w
  rw [twV_congr e, okTw_congr e] at k
  exact k
set_option maxRecDepth 100000 in
set_option maxHeartbeats 4000000 in
theorem i_GlideOf_no1 (p q : Nat) (c : Int) (w : World) (hp : fits .f32 p) (hq : fits .f32 q) (h : ok1G p q c = false) : Calls Try.prog 42 #[.float .f32 p, .float .f32 q, .int .i64 c] w (Out_li (fun _ => 0) 0 2 w) := by
  have HP := hid (fun w' => i_isPositive p w' hp)
  have HQ := hid (fun w' => i_isPositive q w' hq)
  clear hp hq
  by_cases h1 : 1 ≤ c
  · by_cases h2 : c ≤ 4096
    · cases hA : okLg p
      · rw [hA] at HP
        clear h hA
        go_enter Try.func42, Try.ntmps42
        go_wp2_with (first | (go_at_call 53; ((first | with_reducible refine (HP.out _).mono ?_ | with_reducible refine (HQ.out _).mono ?_); rintro e w1 ⟨rfl, rfl⟩)))
        go_ret2
        exact ⟨_, rfl, .inl ⟨rfl, rfl⟩, le_refl _⟩
      · cases hB : okLg q
        · rw [hA] at HP; rw [hB] at HQ
          clear h hA hB
          go_enter Try.func42, Try.ntmps42
          go_wp2_with (first | (go_at_call 53; ((first | with_reducible refine (HP.out _).mono ?_ | with_reducible refine (HQ.out _).mono ?_); rintro e w1 ⟨rfl, rfl⟩)))
          go_ret2
          exact ⟨_, rfl, .inl ⟨rfl, rfl⟩, le_refl _⟩
        · exfalso; simp [ok1G, h1, h2, hA, hB] at h
    · clear h
      go_enter Try.func42, Try.ntmps42
      go_wp2_with (first | (go_at_call 53; ((first | with_reducible refine (HP.out _).mono ?_ | with_reducible refine (HQ.out _).mono ?_); rintro e w1 ⟨rfl, rfl⟩)))
      go_ret2
      exact ⟨_, rfl, .inl ⟨rfl, rfl⟩, le_refl _⟩
  · clear h
    go_enter Try.func42, Try.ntmps42
    go_wp2_with (first | (go_at_call 53; ((first | with_reducible refine (HP.out _).mono ?_ | with_reducible refine (HQ.out _).mono ?_); rintro e w1 ⟨rfl, rfl⟩)))
    go_ret2
    exact ⟨_, rfl, .inl ⟨rfl, rfl⟩, le_refl _⟩
set_option maxRecDepth 100000 in
set_option maxHeartbeats 4000000 in
theorem i_GlideOf_no2 (p q : Nat) (c : Int) (w : World) (hp : fits .f32 p) (hq : fits .f32 q) (h : ok1G p q c = true) (h3 : (okLg (glQ p q) && okTw (glT p q c)) = false) : Calls Try.prog 42 #[.float .f32 p, .float .f32 q, .int .i64 c] w (Out_li (fun _ => 0) 0 2 w) := by
  have HP := hid (fun w' => i_isPositive p w' hp)
  have HQ := hid (fun w' => i_isPositive q w' hq)
  have HL := hid (fun (r : Nat) (w' : World) (hr : can .f32 r = fop .quo .f32 q p) (hf : fits .f32 r) => i_LogG p q r w' hr hf)
  have HT := hid (fun (l r : Nat) (w' : World) (hl : can .f32 l = lgR (glQ p q)) (hr : can .f32 r = fop .quo .f32 l (floatOfInt .f32 c)) => i_TwoG p q c l r w' hl hr)
  clear hp hq
  simp only [ok1G, Bool.and_eq_true, decide_eq_true_eq] at h
  obtain ⟨⟨h1, h2⟩, hA, hB⟩ := h
  rw [hA] at HP; rw [hB] at HQ
  clear hA hB
  cases hC : okLg (glQ p q)
  · rw [hC] at HL
    clear h3 hC
    go_enter Try.func42, Try.ntmps42
    go_wp2_with (first | (go_at_call 53; ((first | with_reducible refine (HP.out _).mono ?_ | with_reducible refine (HQ.out _).mono ?_); rintro e w1 ⟨rfl, rfl⟩)) | (with_reducible refine wpList_farith (op := .quo) (p := q) (q := p) rfl rfl rfl rfl rfl ?_; intro d nd ed fd) | (go_at_call 19; ((with_reducible refine (HL.out d _ ed.out fd.out).mono ?_); rintro e w2 ⟨l, rfl, hl, hle⟩; have HLL := hid hl; have HE1 := hid hle; clear hl hle)))
    go_ret2
    exact ⟨_, rfl, .inl ⟨rfl, rfl⟩, le_trans (le_drewN _ _) HE1.out⟩
  · rw [hC, Bool.true_and] at h3
    rw [hC] at HL; rw [h3] at HT
    clear h3 hC
    go_enter Try.func42, Try.ntmps42
    go_wp2_with (first | (go_at_call 53; ((first | with_reducible refine (HP.out _).mono ?_ | with_reducible refine (HQ.out _).mono ?_); rintro e w1 ⟨rfl, rfl⟩)) | (with_reducible refine wpList_farith (op := .quo) (p := q) (q := p) rfl rfl rfl rfl rfl ?_; intro d nd ed fd) | (go_at_call 19; ((with_reducible refine (HL.out d _ ed.out fd.out).mono ?_); rintro e w2 ⟨l, rfl, hl, hle⟩; have HLL := hid hl; have HE1 := hid hle; clear hl hle)) | (with_reducible refine wpList_farith (op := .quo) rfl rfl rfl rfl rfl ?_; intro t nt et ft) | (go_at_call 16; ((with_reducible refine (HT.out l t _ HLL.out et.out).mono ?_); rintro e w3 ⟨v, rfl, hv, hle⟩; have HVV := hid hv; have HE2 := hid hle; clear hv hle)))
    go_ret2
    exact ⟨_, rfl, .inl ⟨rfl, rfl⟩, le_trans (le_drewN _ _) (le_trans HE1.out (le_trans (le_drewN _ _) HE2.out))⟩
set_option maxRecDepth 100000 in
set_option maxHeartbeats 4000000 in
theorem i_GlideOf_yes (p q : Nat) (K : Nat) (w : World) (hp : fits .f32 p) (hq : fits .f32 q) (h : ok1G p q (K : Int) = true) (h3 : okLg (glQ p q) = true) (h4 : okTw (glT p q (K : Int)) = true) : Calls Try.prog 42 #[.float .f32 p, .float .f32 q, .int .i64 (K : Int)] w (Out_li (glV p (twV (glT p q (K : Int)))) K 0 w) := by
  have HFP := hid hp
  have HP := hid (fun w' => i_isPositive p w' hp)
  have HQ := hid (fun w' => i_isPositive q w' hq)
  have HL := hid (fun (r : Nat) (w' : World) (hr : can .f32 r = fop .quo .f32 q p) (hf : fits .f32 r) => i_LogG p q r w' hr hf)
  have HT := hid (fun (l r : Nat) (w' : World) (hl : can .f32 l = lgR (glQ p q)) (hr : can .f32 r = fop .quo .f32 l (floatOfInt .f32 (K : Int))) => i_TwoG p q (K : Int) l r w' hl hr)
  clear hp hq
  simp only [ok1G, Bool.and_eq_true, decide_eq_true_eq] at h
  obtain ⟨⟨h1, h2⟩, hA, hB⟩ := h
  rw [hA] at HP; rw [hB] at HQ; rw [h3] at HL; rw [h4] at HT
  clear hA hB h3 h4
  have HFC := hid (can_twV (glT p q (K : Int)))
  generalize twV (glT p q (K : Int)) = fac at *
  have HM := fun w => makeF K (by omega) w
  have hK0 : 0 ≤ (K : Int) := by omega
  have F := Frg.nil w
  go_enter Try.func42, Try.ntmps42
  go_wp2_with (first | (go_at_call 53; ((first | with_reducible refine (HP.out _).mono ?_ | with_reducible refine (HQ.out _).mono ?_); rintro e w1 ⟨rfl, rfl⟩)) | (with_reducible refine wpList_farith (op := .quo) (p := q) (q := p) rfl rfl rfl rfl rfl ?_; intro d nd ed fd) | (go_at_call 19; ((with_reducible refine (HL.out d _ ed.out fd.out).mono ?_); rintro e w2 ⟨l, rfl, hl, hle⟩; have HLL := hid hl; have HE1 := hid hle; clear hl hle)) | (with_reducible refine wpList_farith (op := .quo) rfl rfl rfl rfl rfl ?_; intro t nt et ft) | (go_at_call 16; ((with_reducible refine (HT.out l t _ HLL.out et.out).mono ?_); rintro e w3 ⟨v, rfl, hv, hle⟩; have HVV := hid hv; have HE2 := hid hle; clear hv hle)))
  have F := (((((Frg.nil w).le (le_drewN _ nd)).le HE1.out).le (le_drewN _ nt)).le HE2.out).box 22 (ftab .f32 (fun _ => 0) K)
  have F0 := hid F
  clear F
  go_loopw [0, 54] (fun a i wr => ∃ j : Nat, j ≤ K ∧ i = .int .i64 j ∧ ∃ (y : Nat → Nat) (u : Nat), a = .float .f32 u ∧ Hid (can .f32 u = glV p fac j ∧ fits .f32 u) ∧ Hid (∀ i, i < j → fits .f32 (y i) ∧ can .f32 (y i) = glV p fac i) ∧ Hid (Frg w wr [rowF w3.heap.size 22 (ftab .f32 (upto j y (fun _ => 0)) K)])) (fun _ i _ => K - (intOf i).toNat)
  case atStart => exact ⟨0, by omega, rfl, fun _ => 0, p, rfl, ⟨rfl, HFP.out⟩, fun m hm => absurd hm (by omega), by rw [upto_zero]; exact F0.out⟩
  case round =>
    obtain ⟨j, hj, rfl, y, u, rfl, HU, HJ, FJ⟩ := hrel
    by_cases hlt : j < K
    · have cc := (FJ.out.row m0).ftab hlt
      have ff := (FJ.out.row m0).frozen j
      go_wp2_with (first | (with_reducible refine wpList_farith (op := .mul) rfl rfl rfl rfl rfl ?_; intro z nz ez fz))
      go_roundw
      case rel =>
        refine ⟨j + 1, by omega, by go_num, fun i => if i = j then u else y i, z, rfl, ⟨glV_of HU.out.1 (by rw [HVV.out]; exact HFC.out.symm) ez.out, fz.out⟩, fill_step (p := fun i v => fits .f32 v ∧ can .f32 v = glV p fac i) HJ.out ⟨HU.out.2, HU.out.1⟩, ?_⟩
        have F4 := ((FJ.out).set0 j (.float .f32 u))
        rw [set_ftab, upto_set] at F4
        exact F4.drewN nz
      case measure => simp [intOf]; omega
    · obtain rfl : j = K := by omega
      rw [show (ftab .f32 (upto j y (fun _ => 0)) j) = ftab .f32 y j from ftab_congr (fun i hi => if_pos hi)] at FJ
      have hw2 := hid (FJ.out.facts (rowF w3.heap.size 22 (ftab .f32 y j)) m0)
      go_wp2
      go_ret2
      exact ⟨_, rfl, .inr ⟨w3.heap.size, 0, j, _, rfl, Nat.le_refl _, by unfold maxLen; omega, hw2.out.1, hw2.out.2.1, hw2.out.2.2, fun i hi => ⟨y i, by rw [Nat.zero_add]; exact get_ftab .f32 y j i hi, (HJ.out i hi).1, (HJ.out i hi).2⟩⟩, FJ.out.below⟩
theorem s_LogG (p q r : Nat) (w : World) (hr : can .f32 r = fop .quo .f32 q p) : Calls Try.prog 52 #[.float .f32 r] w fun e w' => ∃ v, e = .returned (.tuple #[.float .f32 v, .bool (okLg (glQ p q))]) ∧ can .f32 v = lgR (glQ p q) ∧ le w w' := by
  have e : can .f32 r = can .f32 (glQ p q) := by rw [hr]; unfold glQ; rw [can_fop]
  cases h : okLg (glQ p q)
  · refine (s_l07Log_no r w ((lg_congr e).2.1.trans h)).mono ?_
    rintro e2 w2 ⟨rfl, hl⟩
    exact ⟨_, rfl, by unfold lgR; rw [h, if_neg (by decide)]; decide, hl⟩
  · refine (s_l07Log r w ((lg_congr e).2.1.trans h)).mono ?_
    rintro e2 w2 ⟨v, rfl, hv, hl⟩
    refine ⟨_, rfl, ?_, hl⟩
    rw [hv, (lg_congr e).1]; unfold lgR; rw [h, if_pos rfl]
theorem s_TwoG (p q : Nat) (c : Int) (l r : Nat) (w : World) (hl : can .f32 l = lgR (glQ p q)) (hr : can .f32 r = fop .quo .f32 l (floatOfInt .f32 c)) : Calls Try.prog 48 #[.float .f32 r] w fun e w' => ∃ v, e = .returned (.tuple #[.float .f32 v, .bool (okTw (glT p q c))]) ∧ can .f32 v = twV (glT p q c) ∧ le w w' := by
  have e : can .f32 r = can .f32 (glT p q c) := by
    rw [hr]; unfold glT; rw [can_fop]; exact fop_congr (hl.trans (can_lgR _).symm) rfl
  cases h : okTw (glT p q c)
  · refine (s_l07Two_no r w ((okTw_congr e).trans h)).mono ?_
    rintro e2 w2 ⟨rfl, hl⟩
    exact ⟨_, rfl, by unfold twV; rw [h, if_neg (by decide)]; decide, hl⟩
  · refine (s_l07Two r w ((okTw_congr e).trans h)).mono ?_
    rintro e2 w2 ⟨v, rfl, hv, hl⟩
    refine ⟨_, rfl, ?_, hl⟩
    rw [hv, (pw_congr e).2.2]; unfold twV; rw [h, if_pos rfl]
theorem own_empty {w W : World} (hl : le w W) : OwnS (W.alloc (.cells #[] 22)) w.heap.size (W.alloc (.cells #[] 22)).heap.size (.slice (some ⟨W.heap.size, 0, none⟩) 0 0) (fun _ => 0) 0 := by
  have F := (Frg.nil W).box 22 #[]
  have R1 := F.facts _ m0
  exact .inr ⟨W.heap.size, 0, 0, _, rfl, Nat.le_refl _, by decide, hl.size, R1.2.1, R1.2.2, fun i hi => absurd hi (by omega)⟩
set_option maxRecDepth 100000 in
set_option maxHeartbeats 4000000 in
theorem s_GlideOf_no1 (p q : Nat) (c : Int) (w : World) (h : ok1G p q c = false) : Calls Try.prog 41 #[.float .f32 p, .float .f32 q, .int .i64 c] w (Out_li (fun _ => 0) 0 2 w) := by
  have HI := hid (fun w' => s_In c 1 4096 w')
  have HP := hid (fun w' => s_l01Finite p w')
  have HQ := hid (fun w' => s_l01Finite q w')
  have HL := hid (fun (r : Nat) (w' : World) (hr : can .f32 r = fop .quo .f32 q p) => s_LogG p q r w' hr)
  have HT := hid (fun (l r : Nat) (w' : World) (hl : can .f32 l = lgR (glQ p q)) (hr : can .f32 r = fop .quo .f32 l (floatOfInt .f32 c)) => s_TwoG p q c l r w' hl hr)
  clear HL HT
  cases hI : (decide (1 ≤ c) && decide (c ≤ 4096))
  · rw [hI] at HI
    clear h hI
    go_enter Try.func41, Try.ntmps41
    go_wp2_with (first | (go_at_call 65; ((with_reducible refine (HI.out _).mono ?_); rintro e w1 ⟨rfl, rfl⟩)) | (go_at_call 74; ((first | with_reducible refine (HP.out _).mono ?_ | with_reducible refine (HQ.out _).mono ?_); rintro e w1 ⟨rfl, mf, rfl⟩)))
    go_ret2
    first | exact ⟨_, rfl, own_empty (le_refl w), le_alloc _ _⟩ | exact ⟨_, rfl, own_empty (le_drewN w _), le_trans (le_drewN w _) (le_alloc _ _)⟩
  · unfold ok1G okLg at h
    rw [hI, Bool.true_and] at h
    rw [hI] at HI
    clear hI
    cases hA : fin p
    · rw [hA] at HP
      clear h hA
      go_enter Try.func41, Try.ntmps41
      go_wp2_with (first | (go_at_call 65; ((with_reducible refine (HI.out _).mono ?_); rintro e w1 ⟨rfl, rfl⟩)) | (go_at_call 74; ((first | with_reducible refine (HP.out _).mono ?_ | with_reducible refine (HQ.out _).mono ?_); rintro e w1 ⟨rfl, mf, rfl⟩)))
      go_ret2
      first | exact ⟨_, rfl, own_empty (le_refl w), le_alloc _ _⟩ | exact ⟨_, rfl, own_empty (le_drewN w _), le_trans (le_drewN w _) (le_alloc _ _)⟩
    · rw [hA] at HP
      rw [hA, Bool.true_and] at h
      clear hA
      cases hB : fin q
      · rw [hB] at HQ
        clear h hB
        go_enter Try.func41, Try.ntmps41
        go_wp2_with (first | (go_at_call 65; ((with_reducible refine (HI.out _).mono ?_); rintro e w1 ⟨rfl, rfl⟩)) | (go_at_call 74; ((first | with_reducible refine (HP.out _).mono ?_ | with_reducible refine (HQ.out _).mono ?_); rintro e w1 ⟨rfl, mf, rfl⟩)))
        go_ret2
        first | exact ⟨_, rfl, own_empty (le_refl w), le_alloc _ _⟩ | exact ⟨_, rfl, own_empty (le_drewN w _), le_trans (le_drewN w _) (le_alloc _ _)⟩
      · rw [hB] at HQ
        rw [hB, Bool.true_and] at h
        clear hB
        cases hC : (FloatKind.f32.format.order p 0 == some .gt)
        · clear h
          go_enter Try.func41, Try.ntmps41
          go_wp2_with (first | (go_at_call 65; ((with_reducible refine (HI.out _).mono ?_); rintro e w1 ⟨rfl, rfl⟩)) | (go_at_call 74; ((first | with_reducible refine (HP.out _).mono ?_ | with_reducible refine (HQ.out _).mono ?_); rintro e w1 ⟨rfl, mf, rfl⟩)))
          go_ret2
          first | exact ⟨_, rfl, own_empty (le_refl w), le_alloc _ _⟩ | exact ⟨_, rfl, own_empty (le_drewN w _), le_trans (le_drewN w _) (le_alloc _ _)⟩
        · rw [hC, Bool.true_and] at h
          go_enter Try.func41, Try.ntmps41
          go_wp2_with (first | (go_at_call 65; ((with_reducible refine (HI.out _).mono ?_); rintro e w1 ⟨rfl, rfl⟩)) | (go_at_call 74; ((first | with_reducible refine (HP.out _).mono ?_ | with_reducible refine (HQ.out _).mono ?_); rintro e w1 ⟨rfl, mf, rfl⟩)))
          go_ret2
          first | exact ⟨_, rfl, own_empty (le_refl w), le_alloc _ _⟩ | exact ⟨_, rfl, own_empty (le_drewN w _), le_trans (le_drewN w _) (le_alloc _ _)⟩
set_option maxRecDepth 100000 in
set_option maxHeartbeats 4000000 in
theorem s_GlideOf_no2 (p q : Nat) (c : Int) (w : World) (h : ok1G p q c = true) (h3 : (okLg (glQ p q) && okTw (glT p q c)) = false) : Calls Try.prog 41 #[.float .f32 p, .float .f32 q, .int .i64 c] w (Out_li (fun _ => 0) 0 2 w) := by
  have HI := hid (fun w' => s_In c 1 4096 w')
  have HP := hid (fun w' => s_l01Finite p w')
  have HQ := hid (fun w' => s_l01Finite q w')
  have HL := hid (fun (r : Nat) (w' : World) (hr : can .f32 r = fop .quo .f32 q p) => s_LogG p q r w' hr)
  have HT := hid (fun (l r : Nat) (w' : World) (hl : can .f32 l = lgR (glQ p q)) (hr : can .f32 r = fop .quo .f32 l (floatOfInt .f32 c)) => s_TwoG p q c l r w' hl hr)
  unfold ok1G okLg at h
  simp only [Bool.and_eq_true] at h
  obtain ⟨hI, ⟨hA, hC⟩, hB, hD⟩ := h
  rw [show (decide (1 ≤ c) && decide (c ≤ 4096)) = true by rw [hI.1, hI.2]; rfl] at HI
  rw [hA] at HP; rw [hB] at HQ
  clear hI hA hB
  cases hE : okLg (glQ p q)
  · rw [hE] at HL
    clear h3 hE
    go_enter Try.func41, Try.ntmps41
    go_wp2_with (first | (go_at_call 65; ((with_reducible refine (HI.out _).mono ?_); rintro e w1 ⟨rfl, rfl⟩)) | (go_at_call 74; ((first | with_reducible refine (HP.out _).mono ?_ | with_reducible refine (HQ.out _).mono ?_); rintro e w1 ⟨rfl, mf, rfl⟩)) | (with_reducible refine wpList_farith (op := .quo) (p := q) (q := p) rfl rfl rfl rfl rfl ?_; intro d nd ed fd) | (go_at_call 52; ((with_reducible refine (HL.out d _ ed.out).mono ?_); rintro e w2 ⟨l, rfl, hl, hle⟩; have HLL := hid hl; have HE1 := hid hle; clear hl hle)))
    go_ret2
    have HB := le_trans (le_drewN _ _) HE1.out
    exact ⟨_, rfl, own_empty HB, le_trans HB (le_alloc _ _)⟩
  · rw [hE, Bool.true_and] at h3
    rw [hE] at HL; rw [h3] at HT
    clear h3 hE
    go_enter Try.func41, Try.ntmps41
    go_wp2_with (first | (go_at_call 65; ((with_reducible refine (HI.out _).mono ?_); rintro e w1 ⟨rfl, rfl⟩)) | (go_at_call 74; ((first | with_reducible refine (HP.out _).mono ?_ | with_reducible refine (HQ.out _).mono ?_); rintro e w1 ⟨rfl, mf, rfl⟩)) | (with_reducible refine wpList_farith (op := .quo) (p := q) (q := p) rfl rfl rfl rfl rfl ?_; intro d nd ed fd) | (go_at_call 52; ((with_reducible refine (HL.out d _ ed.out).mono ?_); rintro e w2 ⟨l, rfl, hl, hle⟩; have HLL := hid hl; have HE1 := hid hle; clear hl hle)) | (with_reducible refine wpList_farith (op := .quo) rfl rfl rfl rfl rfl ?_; intro t nt et ft) | (go_at_call 48; ((with_reducible refine (HT.out l t _ HLL.out et.out).mono ?_); rintro e w3 ⟨v, rfl, hv, hle⟩; have HVV := hid hv; have HE2 := hid hle; clear hv hle)))
    go_ret2
    have HB := le_trans (le_drewN _ _) (le_trans HE1.out (le_trans (le_drewN _ _) HE2.out))
    exact ⟨_, rfl, own_empty HB, le_trans HB (le_alloc _ _)⟩
set_option maxRecDepth 100000 in
set_option maxHeartbeats 4000000 in
theorem s_GlideOf_yes (p q : Nat) (K : Nat) (w : World) (hp : fits .f32 p) (h : ok1G p q (K : Int) = true) (h3 : okLg (glQ p q) = true) (h4 : okTw (glT p q (K : Int)) = true) : Calls Try.prog 41 #[.float .f32 p, .float .f32 q, .int .i64 (K : Int)] w (Out_li (glV p (twV (glT p q (K : Int)))) K 0 w) := by
  have HFP := hid hp
  have HI := hid (fun w' => s_In (K : Int) 1 4096 w')
  have HP := hid (fun w' => s_l01Finite p w')
  have HQ := hid (fun w' => s_l01Finite q w')
  have HL := hid (fun (r : Nat) (w' : World) (hr : can .f32 r = fop .quo .f32 q p) => s_LogG p q r w' hr)
  have HT := hid (fun (l r : Nat) (w' : World) (hl : can .f32 l = lgR (glQ p q)) (hr : can .f32 r = fop .quo .f32 l (floatOfInt .f32 (K : Int))) => s_TwoG p q (K : Int) l r w' hl hr)
  unfold ok1G okLg at h
  simp only [Bool.and_eq_true] at h
  obtain ⟨hI, ⟨hA, hC⟩, hB, hD⟩ := h
  rw [show (decide (1 ≤ (K : Int)) && decide ((K : Int) ≤ 4096)) = true by rw [hI.1, hI.2]; rfl] at HI
  have hK1 : (K : Int) ≤ 4096 := of_decide_eq_true hI.2
  rw [hA] at HP; rw [hB] at HQ; rw [h3] at HL; rw [h4] at HT
  have HFC := hid (can_twV (glT p q (K : Int)))
  generalize twV (glT p q (K : Int)) = fac at *
  have hK0 : 0 ≤ (K : Int) := by omega
  have HIN : Hid (∃ i, Try.prog.info? 22 = some i ∧ i.zero = some (.float .f32 0) ∧ i.size = 1 ∧ i.bytes = 4) := info36
  obtain ⟨i0, HIN⟩ := HIN
  replace HIN := hid HIN
  clear hI hA hB h3 h4 hp
  go_enter Try.func41, Try.ntmps41
  go_wp2_with (first | (go_at_call 65; ((with_reducible refine (HI.out _).mono ?_); rintro e w1 ⟨rfl, rfl⟩)) | (go_at_call 74; ((first | with_reducible refine (HP.out _).mono ?_ | with_reducible refine (HQ.out _).mono ?_); rintro e w1 ⟨rfl, mf, rfl⟩)) | (with_reducible refine wpList_farith (op := .quo) (p := q) (q := p) rfl rfl rfl rfl rfl ?_; intro d nd ed fd) | (go_at_call 52; ((with_reducible refine (HL.out d _ ed.out).mono ?_); rintro e w2 ⟨l, rfl, hl, hle⟩; have HLL := hid hl; have HE1 := hid hle; clear hl hle)) | (with_reducible refine wpList_farith (op := .quo) rfl rfl rfl rfl rfl ?_; intro t nt et ft) | (go_at_call 48; ((with_reducible refine (HT.out l t _ HLL.out et.out).mono ?_); rintro e w3 ⟨v, rfl, hv, hle⟩; have HVV := hid hv; have HE2 := hid hle; clear hv hle)))
  have HBB := hid (le_trans (le_drewN _ _) (le_trans HE1.out (le_trans (le_drewN _ _) HE2.out)))
  have hz3 := hid HBB.out.size
  have OR : Hid ((w3.alloc (.cells #[] 22)).ownsRow w3.heap.size 22 1 (.slice (some ⟨w3.heap.size, 0, none⟩) 0 0) 0 (flist (fun _ => 0) 0)) := ⟨rfl, .inr ⟨w3.heap.size, 0, #[], rfl, Nat.le_refl _, by have := Row.new w3 22 #[]; exact this, Nat.le_refl _, by decide, rfl, rfl⟩⟩
  have F := hid ((Frg.nil w3).alloc (.cells #[] 22))
  go_loopw [12, 13, 14] (fun v a i wr => ∃ j : Nat, j ≤ K ∧ i = .int .i64 j ∧ ∃ (y : Nat → Nat) (u : Nat), a = .float .f32 u ∧ Hid (can .f32 u = glV p fac j ∧ fits .f32 u) ∧ Hid (∀ i, i < j → fits .f32 (y i) ∧ can .f32 (y i) = glV p fac i) ∧ Hid (wr.ownsRow w3.heap.size 22 1 v j (flist y j)) ∧ Hid (Frg w3 wr [])) (fun _ _ i _ => K - (intOf i).toNat)
  case atStart => exact ⟨0, by omega, rfl, fun _ => 0, p, rfl, ⟨rfl, HFP.out⟩, fun m hm => absurd hm (by omega), OR.out, F.out⟩
  case round =>
    obtain ⟨j, hj, rfl, y, u, rfl, HU, HJ, HW, FJ⟩ := hrel
    clear F OR
    by_cases hlt : j < K
    · have hjK : (j : Int) < (K : Int) := by omega
      rename_i wr _
      have HS := hid FJ.out.size
      go_wp2_with (first | (with_reducible refine wpList_farith (op := .mul) rfl rfl rfl rfl rfl ?_; intro z nz ez fz) | (at_builtin; refine wpList_append_own _ rfl _ _ 30 rfl w3.heap.size 22 i0 (.float .f32 0) 1 4 Try.underlying30 HIN.out.1 HIN.out.2.1 HIN.out.2.2.1 HIN.out.2.2.2 rfl (by decide) _ _ _ rfl (HW.out.alloc _) ⟨wr.heap.size, 0, none⟩ 1 1 [.float .f32 u] rfl rfl (fun j x hj => by match j, hj with | 0, hj => simp at hj; subst hj; exact (Row.new wr 22 #[.float .f32 u]).cell? 0) (fun x hx => by simp at hx; subst hx; rfl) (by unfold maxLen; omega) (by omega) (by have := HS.out; simp; omega) ?_; intro v' w5 hown hgr _; have HOWN := hid hown; have HGR := hid hgr; clear hown hgr))
      go_roundw
      case rel =>
        refine ⟨j + 1, by omega, by go_num, fun i => if i = j then u else y i, z, rfl, ⟨glV_of HU.out.1 (by rw [HVV.out]; exact HFC.out.symm) ez.out, fz.out⟩, fill_step (p := fun i v => fits .f32 v ∧ can .f32 v = glV p fac i) HJ.out ⟨HU.out.2, HU.out.1⟩, ?_, ?_⟩
        · have := HOWN.out
          rw [flist_snoc] at this
          exact ownsRow_drewN this _
        · have hch : Chg (w3.heap.size ≤ ·) wr w5 := (Chg.of_le (le_alloc _ _)).trans (chg_grown HGR.out (ownBlock_ge HW.out))
          exact (FJ.out.up hch (by simp) (Nat.le_refl _)).drewN nz
      case measure => simp [intOf]; omega
    · obtain rfl : j = K := by omega
      have OW := hid (own_of_row HW.out HJ.out)
      go_wp2
      go_ret2
      exact ⟨_, rfl, OW.out.mono HBB.out.size (Nat.le_refl _), le_trans HBB.out FJ.out.below⟩
theorem both_GlideOf (p q : Nat) (c : Int) (hp : fits .f32 p) (hq : fits .f32 q) : ∃ (xr0 : Nat → Nat) (nr0 : Nat) (ar1 : Int), nr0 ≤ 1048576 ∧ (∀ w : World, Calls Try.prog 41 #[.float .f32 p, .float .f32 q, .int .i64 c] w (Out_li xr0 nr0 ar1 w)) ∧ (∀ w : World, Calls Try.prog 42 #[.float .f32 p, .float .f32 q, .int .i64 c] w (Out_li xr0 nr0 ar1 w)) := by
  cases h : ok1G p q c
  · exact ⟨_, _, _, by omega, fun w => s_GlideOf_no1 p q c w h, fun w => i_GlideOf_no1 p q c w hp hq h⟩
  · cases h3 : (okLg (glQ p q) && okTw (glT p q c))
    · exact ⟨_, _, _, by omega, fun w => s_GlideOf_no2 p q c w h h3, fun w => i_GlideOf_no2 p q c w hp hq h h3⟩
    · rw [Bool.and_eq_true] at h3
      have hc : 1 ≤ c ∧ c ≤ 4096 := by
        have := h
        simp only [ok1G, Bool.and_eq_true, decide_eq_true_eq] at this
        exact this.1
      obtain ⟨K, rfl⟩ : ∃ K : Nat, c = K := ⟨c.toNat, by omega⟩
      exact ⟨_, K, _, by omega, fun w => s_GlideOf_yes p q K w hp h h3.1 h3.2, fun w => i_GlideOf_yes p q K w hp hq h h3.1 h3.2⟩
end Go.Proofs.Yteblmkamopfkiaa

/- The walk of 'FnExactGlideOf'. -/
namespace Go.Proofs.Yteblmkamopfkiaa.fnExactGlideOf
open Go.RowKit Go.Fk
set_option maxRecDepth 100000 in
set_option maxHeartbeats 4000000 in
theorem core (a0 : Nat) (a1 : Nat) (a2 : Int) (xr0 : Nat → Nat) (nr0 : Nat) (ar1 : Int) (w : World)  (hr0 : nr0 ≤ 1048576)
    (hS : ∀ (w : World), Calls Try.prog 41 #[.float .f32 a0, .float .f32 a1, .int .i64 a2] w (Out_li xr0 nr0 ar1 w))
    (hI : ∀ (w : World), Calls Try.prog 42 #[.float .f32 a0, .float .f32 a1, .int .i64 a2] w (Out_li xr0 nr0 ar1 w)) :
    Calls Try.prog 13 #[.float .f32 a0, .float .f32 a1, .int .i64 a2] w fun e w' => e = .returned (.bool true) ∧ Below w.heap.size w w' := by
  have HS := hid hS; have HI := hid hI; clear hS hI
  have F := Frg.nil w
  go_enter Try.func13, Try.ntmps13
  go_wp2_with (first | (((with_reducible refine listN F ?_); clear F; intro wN F)) | fail)
  first | ((with_reducible refine callAt0 F ?_); clear F; intro wN F) | ((with_reducible refine callAtN F ?_); clear F; intro wN F)
  refine (HS.out _  ).mono ?_
  rintro e wS ⟨vS0, rfl, oS0, hlS⟩
  have oc := hid (OwnS.one oS0); (first | replace F := F.own1 hlS oS0); clear hlS oS0
  go_wp2_with (first | (((with_reducible refine listN F ?_); clear F; intro wN F)) | fail)
  first | ((with_reducible refine callAt0 F ?_); clear F; intro wN F) | ((with_reducible refine callAtN F ?_); clear F; intro wN F)
  refine (HI.out _  ).mono ?_
  rintro e wI ⟨vI0, rfl, oI0, hlI⟩
  have oc := hid (OwnS.one oI0); (first | replace F := F.own1 hlI oI0); clear hlI oI0
  go_wp2_with (first | (((with_reducible refine listN F ?_); clear F; intro wN F)) | (go_at_call 43; ((with_reducible refine (eqR _ _ _ _ xr0 nr0 _ hr0 (by first | exact (F.own (by first | exact m0 | exact m1 | exact m2 | exact m3 | exact m4 | exact m5 | exact m6 | exact m7 | exact m8)).rd) (by first | exact (F.own (by first | exact m0 | exact m1 | exact m2 | exact m3 | exact m4 | exact m5 | exact m6 | exact m7 | exact m8)).rd)).mono ?_); rintro e w7 ⟨rfl, dq7, rfl⟩; replace F := F.drewN dq7)))
  go_wp2_with (first | (((with_reducible refine listN F ?_); clear F; intro wN F)) | (go_at_call 43; ((with_reducible refine (eqR _ _ _ _ xr0 nr0 _ hr0 (by first | exact (F.own (by first | exact m0 | exact m1 | exact m2 | exact m3 | exact m4 | exact m5 | exact m6 | exact m7 | exact m8)).rd) (by first | exact (F.own (by first | exact m0 | exact m1 | exact m2 | exact m3 | exact m4 | exact m5 | exact m6 | exact m7 | exact m8)).rd)).mono ?_); rintro e w7 ⟨rfl, dq7, rfl⟩; replace F := F.drewN dq7)))
  first | ((with_reducible refine callAt0 F ?_); clear F; intro wN F) | ((with_reducible refine callAtN F ?_); clear F; intro wN F)
  refine (markR _ _ _ xr0 nr0 1 _ hr0 (by omega) (by omega) (F.own (by first | exact m0 | exact m1 | exact m2 | exact m3 | exact m4 | exact m5 | exact m6 | exact m7 | exact m8))).mono ?_
  rintro e w5 ⟨rfl, hR, hU, _⟩
  (first | replace F := F.mark0 hR hU | replace F := F.mark1 hR hU | replace F := F.mark2 hR hU | replace F := F.mark3 hR hU | replace F := F.mark4 hR hU | replace F := F.mark5 hR hU | replace F := F.mark6 hR hU | replace F := F.mark7 hR hU | replace F := F.mark8 hR hU | replace F := F.mark9 hR hU); clear hR hU
  go_wp2_with (first | (((with_reducible refine listN F ?_); clear F; intro wN F)) | fail | (go_at_call 45; ((with_reducible refine (heldR _ _ nr0 1 _ hr0 (by omega) (by omega) (F.own (by first | exact m0 | exact m1 | exact m2 | exact m3 | exact m4 | exact m5 | exact m6 | exact m7 | exact m8)).rd).mono ?_); rintro e w6 ⟨rfl, rfl⟩; skip)))
  first | ((with_reducible refine callAt0 F ?_); clear F; intro wN F) | ((with_reducible refine callAtN F ?_); clear F; intro wN F)
  refine (HI.out _  ).mono ?_
  rintro e wH ⟨vH0, rfl, oH0, hlH⟩
  have oc := hid (OwnS.one oH0); (first | replace F := F.own1 hlH oH0); clear hlH oH0
  go_wp2_with (first | (((with_reducible refine listN F ?_); clear F; intro wN F)) | fail | fail | (go_at_call 43; ((with_reducible refine (eqR _ _ _ _ xr0 nr0 _ hr0 (by first | exact (F.own (by first | exact m0 | exact m1 | exact m2 | exact m3 | exact m4 | exact m5 | exact m6 | exact m7 | exact m8)).rd) (by first | exact (F.own (by first | exact m0 | exact m1 | exact m2 | exact m3 | exact m4 | exact m5 | exact m6 | exact m7 | exact m8)).rd)).mono ?_); rintro e w7 ⟨rfl, dq7, rfl⟩; replace F := F.drewN dq7)) | (go_at_call 45; ((with_reducible refine (heldR _ _ nr0 1 _ hr0 (by omega) (by omega) (F.own (by first | exact m0 | exact m1 | exact m2 | exact m3 | exact m4 | exact m5 | exact m6 | exact m7 | exact m8)).rd).mono ?_); rintro e w6 ⟨rfl, rfl⟩; skip)))
  go_ret
  first | exact ⟨rfl, F.below⟩ | exact ⟨rfl, below_drewN F.below _⟩
theorem walk (a0 : Nat) (a1 : Nat) (a2 : Int) (w : World) (w0 : fits .f32 a0) (w1 : fits .f32 a1) (w2 : (Lit.int .i64 a2).wf = true) :
    Calls Try.prog 13 #[.float .f32 a0, .float .f32 a1, .int .i64 a2] w fun e w' => e = .returned (.bool true) ∧ Below w.heap.size w w' := by
  obtain ⟨xr0, nr0, ar1, hr0, hS, hI⟩ := both_GlideOf a0 a1 a2 w0 w1
  exact core a0 a1 a2 xr0 nr0 ar1 w  hr0 hS hI
end Go.Proofs.Yteblmkamopfkiaa.fnExactGlideOf
