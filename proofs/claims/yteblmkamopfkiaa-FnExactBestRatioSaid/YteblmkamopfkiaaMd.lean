/- Texts of the walk, laid in one file. -/
import Derived.Test.YteblmkamopfkiaaMc
set_option linter.unusedVariables false
set_option linter.unusedSimpArgs false
/- 'TwoTo' of both. -/
namespace Go.Fk
open Go Go.RowKit
/-- A power that is asked, or 0. -/
def okTw (x : Nat) : Bool := withinB x 3270508544 1123024896
def twV (x : Nat) : Nat := if okTw x then pwV x else 0
theorem withinB_congr {x y a b : Nat} (h : can .f32 x = can .f32 y) : withinB x a b = withinB y a b := by unfold withinB; rw [order_congr h rfl, order_congr h rfl]
theorem okTw_congr {x y : Nat} (h : can .f32 x = can .f32 y) : okTw x = okTw y := withinB_congr h
theorem twV_congr {x y : Nat} (h : can .f32 x = can .f32 y) : twV x = twV y := by unfold twV; rw [okTw_congr h, (pw_congr h).2.2]
theorem integ_congr {way : Ieee.Toward} {a b : Nat} (h : can .f64 a = can .f64 b) : integ way a = integ way b := by rw [← integ_can way a, h, integ_can]
theorem pwY_of {x s1 s2 fr d y : Nat} (h1 : can .f64 s1 = can .f64 (widen x)) (hf : can .f64 fr = can .f64 (integ .down s1)) (h2 : can .f64 s2 = can .f64 (widen x)) (hd : can .f64 d = fop .sub .f64 s2 fr) (hy : can .f64 y = fop .mul .f64 d 4604418534313441775) : can .f64 y = can .f64 (pwY x) := by
  rw [hy]
  unfold pwY pwD
  rw [can_fop]
  refine fop_congr (hd.trans ?_) rfl
  rw [can_fop]
  exact fop_congr h2 (by rw [hf, integ_congr h1])
theorem pwK_of {x s1 fr : Nat} (h : okTw x = true) (h1 : can .f64 s1 = can .f64 (widen x)) (hf : can .f64 fr = can .f64 (integ .down s1)) : floatToIntVal .f64 fr .i64 = some (pwQ x) := by
  obtain ⟨_, _, _, hn, hi⟩ := pw_ok h
  rw [integ_congr h1] at hf
  rw [(eq_of_can hf.symm hn).symm]
  exact hi
theorem pwS_of {y y' : Nat} (h : can .f64 y = can .f64 y') {j : Nat} {s q p r : Nat} (hs : can .f64 s = can .f64 (pwS y' j)) (hq : can .f64 q = fop .quo .f64 y (floatOfInt .f64 (14 - (j : Int)))) (hp : can .f64 p = fop .mul .f64 q s) (hr : can .f64 r = fop .add .f64 4607182418800017408 p) : can .f64 r = can .f64 (pwS y' (j + 1)) := by
  rw [hr]
  show _ = can .f64 (fop .add .f64 4607182418800017408 (fop .mul .f64 (fop .quo .f64 y' (floatOfInt .f64 (14 - (j : Int)))) (pwS y' j)))
  rw [can_fop]
  refine fop_congr rfl (hp.trans ?_)
  rw [can_fop]
  refine fop_congr (hq.trans ?_) hs
  rw [can_fop]
  exact fop_congr h rfl
theorem wpList_toIntD {P : Program} {w : World} {ops : Array Oper} {rest : List Oper} {o : Oper} {a : Act} {Q : Exit → Act → World → Prop} (hg : o.guard = none) {src dst : TypeId} {x : Operand} (hop : o.op = Op.convert src dst x) {b : Nat} (hx : a.eval x = .float .f64 b) {v : Value}
    (hr : ∀ w, (convert src dst (.float .f64 b)).run P w = .ok v w) (hK : wpList P ops Q rest (a.put o.dst v) w) : wpList P ops Q (o :: rest) a w := by
  refine wpList_plain hg fun K hK' => ?_
  unfold Oper.wp
  simp [execOp, hop, hx, hr, Result.andThen]
  exact hK' _ _ hK
end Go.Fk
namespace Go.Proofs.Yteblmkamopfkiaa
open Go.RowKit Go.Fk
set_option maxRecDepth 100000 in
set_option maxHeartbeats 2000000 in
theorem s_l07PowerP (K : Nat) (w : World) (h2 : K ≤ 1000) : Calls Try.prog 78 #[.int .i64 (K : Int)] w fun e w' => e = .returned (.float .f64 (nrm (1023 + K) 0)) ∧ le w w' := by
  go_enter Try.func78, Try.ntmps78
  go_wp2
  go_loopw [0, 3] (fun i p wr => ∃ j : Nat, j ≤ K ∧ i = .int .i64 ((K : Int) - j) ∧ p = .float .f64 (nrm (1023 + j) 0) ∧ Hid (le w wr)) (fun i _ _ => (intOf i).toNat)
  case atStart => exact ⟨0, by omega, by simp, congrArg (Value.float .f64) one_nrm, le_refl _⟩
  case round =>
    obtain ⟨j, hj, rfl, rfl, hl⟩ := hrel
    by_cases hlt : j < K
    · have HM := hid (nrm_mul (E := 1023 + j) (f := 0) (G := 1024) (by omega) (by omega) (by omega) (by omega) (by omega) (by omega) (by omega)).1
      have HN := hid (nrm_nan (E := 1023 + (j + 1)) (f := 0) (by omega) (by omega) (by omega))
      go_wp2_with (first | (with_reducible refine wpList_farith rfl rfl rfl rfl rfl ?_; intro r n hr hrf))
      go_roundw
      case rel =>
        refine ⟨j + 1, by omega, by rw [show (K : Int) - j - 1 = (K : Int) - ((j + 1 : Nat) : Int) by omega], ?_, le_trans hl (le_drewN _ _)⟩
        have h := hr.out
        rw [show (4611686018427387904 : Nat) = nrm 1024 0 by decide, HM.out, show 1023 + j + 1024 - 1023 = 1023 + (j + 1) by omega] at h
        rw [of_canK h HN.out]
      case measure => simp [intOf]; omega
    · obtain rfl : j = K := by omega
      have hz : (j : Int) - j = 0 := by omega
      rw [hz]
      go_wp2
      go_loopw [0, 3] (fun i p wr => i = .int .i64 0 ∧ p = .float .f64 (nrm (1023 + j) 0) ∧ Hid (le w wr)) (fun i _ _ => 0)
      case atStart => exact ⟨rfl, rfl, hl⟩
      case round =>
        obtain ⟨rfl, rfl, hl⟩ := hrel
        go_wp2
        go_ret
        exact ⟨rfl, hl⟩
set_option maxRecDepth 100000 in
set_option maxHeartbeats 2000000 in
theorem s_l07PowerN (K : Nat) (w : World) (h2 : K ≤ 1000) : Calls Try.prog 78 #[.int .i64 (-(K : Int))] w fun e w' => e = .returned (.float .f64 (nrm (1023 - K) 0)) ∧ le w w' := by
  go_enter Try.func78, Try.ntmps78
  go_wp2
  go_loopw [0, 3] (fun i p wr => i = .int .i64 (-(K : Int)) ∧ p = .float .f64 (nrm 1023 0) ∧ Hid (le w wr)) (fun i _ _ => 0)
  case atStart => exact ⟨rfl, congrArg (Value.float .f64) one_nrm, le_refl _⟩
  case round =>
    obtain ⟨rfl, rfl, hl⟩ := hrel
    go_wp2
    go_loopw [0, 3] (fun i p wr => ∃ j : Nat, j ≤ K ∧ i = .int .i64 (-((K : Int) - j)) ∧ p = .float .f64 (nrm (1023 - j) 0) ∧ Hid (le w wr)) (fun i _ _ => (-(intOf i)).toNat)
    case atStart => exact ⟨0, by omega, by simp, rfl, hl⟩
    case round =>
      obtain ⟨j, hj, rfl, rfl, hl⟩ := hrel
      by_cases hlt : j < K
      · have HM := hid (nrm_half (E := 1023 - j) (f := 0) (by omega) (by omega) (by omega))
        have HN := hid (nrm_nan (E := 1023 - (j + 1)) (f := 0) (by omega) (by omega) (by omega))
        go_wp2_with (first | (with_reducible refine wpList_farith rfl rfl rfl rfl rfl ?_; intro r n hr hrf))
        go_roundw
        case rel =>
          refine ⟨j + 1, by omega, by rw [show -((K : Int) - j) + 1 = -((K : Int) - ((j + 1 : Nat) : Int)) by omega], ?_, le_trans hl (le_drewN _ _)⟩
          have h := hr.out
          rw [HM.out, show 1023 - j - 1 = 1023 - (j + 1) by omega] at h
          rw [of_canK h HN.out]
        case measure => simp [intOf]; omega
      · obtain rfl : j = K := by omega
        have hz : -((j : Int) - j) = 0 := by omega
        rw [hz]
        go_wp2
        go_ret
        exact ⟨rfl, hl⟩
theorem s_l07Power (k : Int) (w : World) (h1 : -1000 ≤ k) (h2 : k ≤ 1000) : Calls Try.prog 78 #[.int .i64 k] w fun e w' => e = .returned (.float .f64 (nrm (1023 + k).toNat 0)) ∧ le w w' := by
  by_cases h : k < 0
  · obtain ⟨K, rfl⟩ : ∃ K : Nat, k = -(K : Int) := ⟨(-k).toNat, by omega⟩
    rw [show (1023 + -(K : Int)).toNat = 1023 - K by omega]
    exact s_l07PowerN K w (by omega)
  · obtain ⟨K, rfl⟩ : ∃ K : Nat, k = (K : Int) := ⟨k.toNat, by omega⟩
    rw [show (1023 + (K : Int)).toNat = 1023 + K by omega]
    exact s_l07PowerP K w (by omega)
theorem toI64Z {d : Nat} {k : Int} (h : floatToIntVal .f64 d .i64 = some k) : ∀ w, (convert 26 2 (.float .f64 d)).run Try.prog w = .ok (.int .i64 k) w := by
  intro w
  exact run_convert_float_int (P := Try.prog) w _ _ .f64 .i64 _ _ (by rw [Try.underlying26]; rfl) Try.underlying2 h
theorem toIntZ {d : Nat} {k : Int} (h : floatToIntVal .f64 d .i64 = some k) : ∀ w, (convert 26 3 (.float .f64 d)).run Try.prog w = .ok (.int .i64 k) w := by
  intro w
  exact run_convert_float_int (P := Try.prog) w _ _ .f64 .i64 _ _ (by rw [Try.underlying26]; rfl) Try.underlying3 h
set_option maxRecDepth 100000 in
set_option maxHeartbeats 4000000 in
theorem s_l07Two_no (x : Nat) (w : World) (h : okTw x = false) : Calls Try.prog 48 #[.float .f32 x] w fun e w' => e = .returned (.tuple #[.float .f32 0, .bool false]) ∧ le w w' := by
  unfold okTw withinB at h
  cases e1 : (FloatKind.f32.format.order x 3270508544 == some .gt || FloatKind.f32.format.order x 3270508544 == some .eq)
  · clear h
    go_enter Try.func48, Try.ntmps48
    go_wp2
    go_ret2
    exact ⟨rfl, le_refl _⟩
  · rw [e1, Bool.true_and] at h
    go_enter Try.func48, Try.ntmps48
    go_wp2
    go_ret2
    exact ⟨rfl, le_refl _⟩
set_option maxRecDepth 100000 in
set_option maxHeartbeats 4000000 in
theorem s_l07Two (x : Nat) (w : World) (h : okTw x = true) : Calls Try.prog 48 #[.float .f32 x] w fun e w' => ∃ r, e = .returned (.tuple #[.float .f32 r, .bool true]) ∧ can .f32 r = pwV x ∧ le w w' := by
  have HX := hid h
  obtain ⟨⟨E, f, hS, hf, hE1, hE2⟩, q1, q2, _, _⟩ := pw_ok h
  unfold okTw withinB at h
  rw [Bool.and_eq_true] at h
  obtain ⟨e1, e2⟩ := h
  have HS := hid hS
  have HM := hid (nrm_mul (E := E) (f := f) (G := (1023 + pwQ x).toNat) (by omega) (by omega) hf (by omega) (by omega) (by omega) (by omega)).1
  have HN := hid (nrm_nan (E := (E + pwQ x).toNat) (f := f) (by omega) (by omega) hf)
  have HR := hid (nrm_narrowable (E := (E + pwQ x).toNat) (f := f) (by omega) (by omega) hf)
  have HV := hid (pwV_eq hS (by omega))
  have HE := hid (nrm_nan (E := E) (f := f) (by omega) (by omega) hf)
  have HG : Hid (E + (1023 + pwQ x).toNat - 1023 = (E + pwQ x).toNat) := by show E + (1023 + pwQ x).toNat - 1023 = (E + pwQ x).toNat; omega
  have HP := hid (fun w' => s_l07Power (pwQ x) w' (by omega) (by omega))
  clear hS
  go_enter Try.func48, Try.ntmps48
  go_wp2_with (first | (with_reducible refine wpList_widen rfl rfl rfl Try.underlying22 Try.underlying26 ?_; intro s1 ns1 es1 fs1) | (go_at_call 50; refine (floor_any _ _ (by assumption)).mono ?_; rintro e w' ⟨fr, fn, rfl, hfr, rfl⟩) | (with_reducible refine wpList_farith (op := .sub) rfl rfl rfl rfl rfl ?_; intro d nd ed fd) | (with_reducible refine wpList_farith (op := .mul) rfl rfl rfl rfl rfl ?_; intro y ny ey fy))
  have HY := hid (pwY_of (Hid.out (by assumption)) hfr.out.1 (Hid.out (by assumption)) ed.out ey.out)
  have HK := hid (toI64Z (pwK_of HX.out (Hid.out (by assumption)) hfr.out.1))
  go_loopw [6, 7] (fun sv i wr => ∃ (j : Nat) (s : Nat), j ≤ 14 ∧ i = .int .i64 (14 - (j : Int)) ∧ sv = .float .f64 s ∧ Hid (can .f64 s = can .f64 (pwS (pwY x) j)) ∧ Hid (le w wr)) (fun _ i _ => (intOf i).toNat)
  case atStart => exact ⟨0, _, by omega, rfl, rfl, rfl, le_drewN _ _⟩
  case round =>
    obtain ⟨j, s, hj, rfl, rfl, HSj, hl⟩ := hrel
    by_cases hlt : j < 14
    · go_wp2_with (first | (with_reducible refine wpList_farith (op := .quo) rfl rfl rfl rfl rfl ?_; intro q nq eq fq) | (with_reducible refine wpList_farith (op := .mul) rfl rfl rfl rfl rfl ?_; intro p np ep fp) | (with_reducible refine wpList_farith (op := .add) rfl rfl rfl rfl rfl ?_; intro r nr er fr2))
      go_roundw
      case rel => exact ⟨j + 1, r, by omega, by rw [show (14 : Int) - j - 1 = 14 - ((j + 1 : Nat) : Int) by omega], rfl, pwS_of HY.out HSj.out eq.out ep.out er.out, le_trans hl (le_drewN _ _)⟩
      case measure => simp [intOf]; omega
    · obtain rfl : j = 14 := by omega
      rw [HS.out, can_of_not HE.out] at HSj
      obtain rfl : s = nrm E f := of_canK HSj.out HE.out
      go_wp2_with (first | (with_reducible refine wpList_toIntD rfl rfl rfl HK.out ?_) | (go_at_call 78; ((with_reducible refine (HP.out _).mono ?_); rintro e w1 ⟨rfl, hl2⟩)) | (with_reducible refine wpList_farith (op := .mul) rfl rfl rfl rfl rfl ?_; intro p np ep fp; have hpz := of_canK (ep.out.trans HM.out) (by rw [HG.out]; exact HN.out); rw [HG.out] at hpz; subst hpz) | ((with_reducible refine wpList_narrow rfl rfl rfl Try.underlying26 Try.underlying22 (by exact HR.out) ?_); intro q nq hq fq))
      go_ret2
      exact ⟨_, rfl, hq.out.trans HV.out.symm, le_trans hl (le_trans (by assumption) (le_drewN _ _))⟩
set_option maxRecDepth 100000 in
set_option maxHeartbeats 4000000 in
theorem s_TwoTo (x : Nat) (w : World) : Calls Try.prog 15 #[.float .f32 x] w (Out_fi (twV x) (if okTw x then 0 else 2) w) := by
  unfold twV
  cases h : okTw x
  · have HT := hid (fun w' => s_l07Two_no x w' h)
    clear h
    go_enter Try.func15, Try.ntmps15
    go_wp2_with (go_at_call 48; ((with_reducible refine (HT.out _).mono ?_); rintro e w1 ⟨rfl, hl⟩))
    go_ret2
    exact ⟨_, rfl, by decide, by assumption⟩
  · have HT := hid (fun w' => s_l07Two x w' h)
    clear h
    go_enter Try.func15, Try.ntmps15
    go_wp2_with (go_at_call 48; ((with_reducible refine (HT.out _).mono ?_); rintro e w1 ⟨r, rfl, hr, hl⟩; have HR := hid hr; clear hr))
    go_ret2
    exact ⟨_, rfl, HR.out, by assumption⟩
set_option maxRecDepth 100000 in
set_option maxHeartbeats 4000000 in
theorem i_TwoTo (x : Nat) (w : World) : Calls Try.prog 16 #[.float .f32 x] w (Out_fi (twV x) (if okTw x then 0 else 2) w) := by
  unfold twV
  have HW := hid (fun w' => i_isWithin x 3270508544 1123024896 w')
  cases h : okTw x
  · have h' : withinB x 3270508544 1123024896 = false := h
    rw [h'] at HW
    clear h h'
    go_enter Try.func16, Try.ntmps16
    go_wp2_with (go_at_call 49; ((with_reducible refine (HW.out _).mono ?_); rintro e w1 ⟨rfl, rfl⟩))
    go_ret2
    exact ⟨_, rfl, by decide, le_refl _⟩
  · have h' : withinB x 3270508544 1123024896 = true := h
    rw [h'] at HW
    clear h'
    have HX := hid h
    obtain ⟨⟨E, f, hS, hf, hE1, hE2⟩, q1, q2, _, _⟩ := pw_ok h
    clear h
    have HS := hid hS
    have HN := hid (nrm_nan (E := (E + pwQ x).toNat) (f := f) (by omega) (by omega) hf)
    have HR := hid (nrm_narrowable (E := (E + pwQ x).toNat) (f := f) (by omega) (by omega) hf)
    have HV := hid (pwV_eq hS (by omega))
    have HE := hid (nrm_nan (E := E) (f := f) (by omega) (by omega) hf)
    have HP := c_Ldexp E f (E + pwQ x).toNat
    rw [show (((E + pwQ x).toNat : Nat) : Int) - E = pwQ x by omega] at HP
    have HL := hid (fun w' => HP w' (by omega) (by omega) hf (by omega) (by omega))
    clear hS HP
    go_enter Try.func16, Try.ntmps16
    go_wp2_with (first | (go_at_call 49; ((with_reducible refine (HW.out _).mono ?_); rintro e w1 ⟨rfl, rfl⟩)) | (with_reducible refine wpList_widen rfl rfl rfl Try.underlying22 Try.underlying26 ?_; intro s1 ns1 es1 fs1) | (go_at_call 50; refine (floor_any _ _ (by assumption)).mono ?_; rintro e w' ⟨fr, fn, rfl, hfr, rfl⟩) | (with_reducible refine wpList_farith (op := .sub) rfl rfl rfl rfl rfl ?_; intro d nd ed fd) | (with_reducible refine wpList_farith (op := .mul) rfl rfl rfl rfl rfl ?_; intro y ny ey fy))
    have HY := hid (pwY_of (Hid.out (by assumption)) hfr.out.1 (Hid.out (by assumption)) ed.out ey.out)
    have HK := hid (toIntZ (pwK_of HX.out (Hid.out (by assumption)) hfr.out.1))
    go_loopw [6, 7] (fun sv i wr => ∃ (j : Nat) (s : Nat), j ≤ 14 ∧ i = .int .i64 (14 - (j : Int)) ∧ sv = .float .f64 s ∧ Hid (can .f64 s = can .f64 (pwS (pwY x) j)) ∧ Hid (le w wr)) (fun _ i _ => (intOf i).toNat)
    case atStart => exact ⟨0, _, by omega, rfl, rfl, rfl, le_drewN _ _⟩
    case round =>
      obtain ⟨j, s, hj, rfl, rfl, HSj, hl⟩ := hrel
      by_cases hlt : j < 14
      · go_wp2_with (first | (with_reducible refine wpList_farith (op := .quo) rfl rfl rfl rfl rfl ?_; intro q nq eq fq) | (with_reducible refine wpList_farith (op := .mul) rfl rfl rfl rfl rfl ?_; intro p np ep fp) | (with_reducible refine wpList_farith (op := .add) rfl rfl rfl rfl rfl ?_; intro r nr er fr2))
        go_roundw
        case rel => exact ⟨j + 1, r, by omega, by rw [show (14 : Int) - j - 1 = 14 - ((j + 1 : Nat) : Int) by omega], rfl, pwS_of HY.out HSj.out eq.out ep.out er.out, le_trans hl (le_drewN _ _)⟩
        case measure => simp [intOf]; omega
      · obtain rfl : j = 14 := by omega
        rw [HS.out, can_of_not HE.out] at HSj
        obtain rfl : s = nrm E f := of_canK HSj.out HE.out
        go_wp2_with (first | (with_reducible refine wpList_toIntD rfl rfl rfl HK.out ?_) | (go_at_call 51; ((with_reducible refine (HL.out _).mono ?_); rintro e w1 ⟨rfl, hl2⟩)) | ((with_reducible refine wpList_narrow rfl rfl rfl Try.underlying26 Try.underlying22 (by exact HR.out) ?_); intro q nq hq fq))
        go_ret2
        exact ⟨_, rfl, hq.out.trans HV.out.symm, le_trans hl (le_trans (by assumption) (le_drewN _ _))⟩
theorem both_TwoTo (a : Nat) : ∃ (ar0 : Nat) (ar1 : Int), (∀ w : World, Calls Try.prog 15 #[.float .f32 a] w (Out_fi ar0 ar1 w)) ∧ (∀ w : World, Calls Try.prog 16 #[.float .f32 a] w (Out_fi ar0 ar1 w)) :=
  ⟨_, _, s_TwoTo a, i_TwoTo a⟩
end Go.Proofs.Yteblmkamopfkiaa

/- 'BestRatio' of both. -/
namespace Go.Fk
open Go Go.RowKit
def Out_iii (a b c : Int) (w : World) (e : Ending) (w' : World) : Prop := e = .returned (.tuple #[.int .i64 a, .int .i64 b, .int .i64 c]) ∧ le w w'
def rtR (x : Nat) (m : Int) : Int × Int × Int := if okBR x m then ((rtB x m.toNat).1, ((rtB x m.toNat).2.1 : Int), 0) else (0, 0, 2)
end Go.Fk
namespace Go.Proofs.Yteblmkamopfkiaa
open Go.RowKit Go.Fk
theorem c_Inf1 (w : World) : Calls Try.prog 77 #[.int .i64 1] w fun e w' => e = .returned (.float .f64 9218868437227405312) ∧ w = w' := by
  go_enter Try.func77, Try.ntmps77
  go_wp2
  go_ret
  exact ⟨rfl, rfl⟩
set_option maxRecDepth 100000 in
set_option maxHeartbeats 4000000 in
theorem i_BestRatio_no (x : Nat) (m : Int) (w : World) (h : okBR x m = false) : Calls Try.prog 47 #[.float .f32 x, .int .i64 m] w (Out_iii 0 0 2 w) := by
  have HW := hid (fun w' => i_isWithin x 0 1148846080 w')
  cases hx : withinB x 0 1148846080
  · rw [hx] at HW
    clear h hx
    go_enter Try.func47, Try.ntmps47
    go_wp2_with (go_at_call 49; ((with_reducible refine (HW.out _).mono ?_); rintro e w1 ⟨rfl, rfl⟩))
    refine bodyPost_ret (v := .tuple #[.int .i64 0, .int .i64 0, .int .i64 2]) (by simp [results, Try.results47, go_sem]) rfl ?_
    exact ⟨rfl, le_refl _⟩
  · rw [hx] at HW
    unfold okBR at h
    rw [hx, Bool.true_and] at h
    by_cases h1 : 1 ≤ m
    · have h2 : 1000 < m := by simp [h1] at h; omega
      clear h hx
      go_enter Try.func47, Try.ntmps47
      go_wp2_with (go_at_call 49; ((with_reducible refine (HW.out _).mono ?_); rintro e w1 ⟨rfl, rfl⟩))
      refine bodyPost_ret (v := .tuple #[.int .i64 0, .int .i64 0, .int .i64 2]) (by simp [results, Try.results47, go_sem]) rfl ?_
      exact ⟨rfl, le_refl _⟩
    · clear h hx
      go_enter Try.func47, Try.ntmps47
      go_wp2_with (go_at_call 49; ((with_reducible refine (HW.out _).mono ?_); rintro e w1 ⟨rfl, rfl⟩))
      refine bodyPost_ret (v := .tuple #[.int .i64 0, .int .i64 0, .int .i64 2]) (by simp [results, Try.results47, go_sem]) rfl ?_
      exact ⟨rfl, le_refl _⟩
set_option maxRecDepth 100000 in
set_option maxHeartbeats 4000000 in
theorem i_BestRatio_yes (x : Nat) (M : Nat) (w : World) (hx : withinB x 0 1148846080 = true) (h1 : 1 ≤ M) (h2 : M ≤ 1000) : Calls Try.prog 47 #[.float .f32 x, .int .i64 (M : Int)] w (Out_iii (rtB x M).1 ((rtB x M).2.1 : Int) 0 w) := by
  have HW := hid (fun w' => i_isWithin x 0 1148846080 w')
  rw [hx] at HW
  have HX := hid (fun (q : Nat) (a : 1 ≤ q) (b : q ≤ 1000) => rt_facts hx a b)
  have HA := hid (fun (b : Nat) (w' : World) (hb : fits .f64 b) => abs64 b w' hb)
  clear hx
  go_enter Try.func47, Try.ntmps47
  go_wp2_with (first | (go_at_call 49; ((with_reducible refine (HW.out _).mono ?_); rintro e w1 ⟨rfl, rfl⟩)) | (with_reducible refine wpList_widen rfl rfl rfl Try.underlying22 Try.underlying26 ?_; intro s1 ns1 es1 fs1) | (go_at_call 77; ((with_reducible refine (c_Inf1 _).mono ?_); rintro e w2 ⟨rfl, rfl⟩)))
  go_loopw [8, 9, 10, 11] (fun p q l d wr => ∃ j : Nat, j ≤ M ∧ d = .int .i64 ((j : Int) + 1) ∧ p = .int .i64 (rtB x j).1 ∧ q = .int .i64 ((rtB x j).2.1 : Int) ∧ l = .float .f64 (rtB x j).2.2 ∧ Hid (le w wr)) (fun _ _ _ d _ => M + 1 - (intOf d).toNat)
  case atStart => exact ⟨0, by omega, rfl, rfl, rfl, rfl, le_drewN _ _⟩
  case round =>
    obtain ⟨j, hj, rfl, rfl, rfl, rfl, hl⟩ := hrel
    by_cases hlt : j < M
    · obtain ⟨f1, f2, f3, f4, _⟩ := HX.out (j + 1) (by omega) (by omega)
      have F2 := hid f2; have F4 := hid f4
      have F3 := hid (toI64Z f3)
      have HM := hid (fun (p : Nat) (hp : Hid (can .f64 p = fop .mul .f64 s1 (floatOfInt .f64 ((j : Int) + 1)))) => (rtM_of (q := j + 1) es1.out hp.out : can .f64 p = can .f64 (rtM x (j + 1))))
      have HD := hid (fun (t u : Nat) (ht : Hid (can .f64 t = fop .quo .f64 (rtN x (j + 1)) (floatOfInt .f64 ((j : Int) + 1)))) (hu : Hid (can .f64 u = fop .sub .f64 t s1)) => (rtD_of (q := j + 1) es1.out ht.out hu.out F4.out : u = rtD x (j + 1)))
      clear f1 f2 f3 f4
      have HAF := hid (fun (w' : World) (hb : fits .f64 (rtD x (j + 1))) => show Calls Try.prog 76 #[.float .f64 (rtD x (j + 1))] w' fun e w'' => e = .returned (.float .f64 (rtF x (j + 1))) ∧ w' = w'' from abs64 (rtD x (j + 1)) w' hb)
      cases hb : (FloatKind.f64.format.order (rtF x (j + 1)) (rtB x j).2.2 == some .lt)
      · have HB := hid (rtB_no hb)
        go_wp2_with (first | (with_reducible refine wpList_farith (op := .mul) rfl rfl rfl rfl rfl ?_; intro p np ep fp) | (refine wpList_extern rfl rfl rfl _ (rte_any _ (by assumption)) ?_; intro fr fn hfr; have efr := rtN_of (HM.out p ep) hfr.out.1 F2.out; subst efr) | (with_reducible refine wpList_farith (op := .quo) rfl rfl rfl rfl rfl ?_; intro t nt et ft) | (with_reducible refine wpList_farith (op := .sub) rfl rfl rfl rfl rfl ?_; intro u nu eu fu; have euu := HD.out t u et eu; subst euu) | (go_at_call 76; ((with_reducible refine (HAF.out _ fu.out).mono ?_); rintro e w3 ⟨rfl, rfl⟩)) | (with_reducible refine wpList_toIntD rfl rfl rfl F3.out ?_))
        go_roundw
        case rel => exact ⟨j + 1, by omega, by go_num, by rw [HB.out], by rw [HB.out], by rw [HB.out], le_trans hl (by first | exact le_drewN _ _ | assumption)⟩
        case measure => simp [intOf]; omega
      · have HB := hid (rtB_yes hb)
        go_wp2_with (first | (with_reducible refine wpList_farith (op := .mul) rfl rfl rfl rfl rfl ?_; intro p np ep fp) | (refine wpList_extern rfl rfl rfl _ (rte_any _ (by assumption)) ?_; intro fr fn hfr; have efr := rtN_of (HM.out p ep) hfr.out.1 F2.out; subst efr) | (with_reducible refine wpList_farith (op := .quo) rfl rfl rfl rfl rfl ?_; intro t nt et ft) | (with_reducible refine wpList_farith (op := .sub) rfl rfl rfl rfl rfl ?_; intro u nu eu fu; have euu := HD.out t u et eu; subst euu) | (go_at_call 76; ((with_reducible refine (HAF.out _ fu.out).mono ?_); rintro e w3 ⟨rfl, rfl⟩)) | (with_reducible refine wpList_toIntD rfl rfl rfl F3.out ?_))
        go_roundw
        case rel => exact ⟨j + 1, by omega, by go_num, by rw [HB.out], by rw [HB.out]; go_num, by rw [HB.out], le_trans hl (by first | exact le_drewN _ _ | assumption)⟩
        case measure => simp [intOf]; omega
    · obtain rfl : j = M := by omega
      go_wp2
      refine bodyPost_ret (v := .tuple #[.int .i64 (rtB x j).1, .int .i64 ((rtB x j).2.1 : Int), .int .i64 0]) (by simp [results, Try.results47, go_sem]) rfl ?_
      exact ⟨rfl, hl⟩
theorem i_BestRatio (x : Nat) (m : Int) (w : World) : Calls Try.prog 47 #[.float .f32 x, .int .i64 m] w (Out_iii (rtR x m).1 (rtR x m).2.1 (rtR x m).2.2 w) := by
  cases h : okBR x m
  · unfold rtR; rw [h]
    exact i_BestRatio_no x m w h
  · have e : rtR x m = ((rtB x m.toNat).1, ((rtB x m.toNat).2.1 : Int), 0) := by unfold rtR; rw [h]; rfl
    rw [e]
    simp only [okBR, Bool.and_eq_true, decide_eq_true_eq] at h
    obtain ⟨hx, h1, h2⟩ := h
    obtain ⟨M, rfl⟩ : ∃ M : Nat, m = M := ⟨m.toNat, by omega⟩
    rw [Int.toNat_natCast]
    exact i_BestRatio_yes x M w hx (by omega) (by omega)
set_option maxRecDepth 100000 in
set_option maxHeartbeats 4000000 in
theorem s_BestRatio_no (x : Nat) (m : Int) (w : World) (h : okBR x m = false) : Calls Try.prog 46 #[.float .f32 x, .int .i64 m] w (Out_iii 0 0 2 w) := by
  have HI := hid (fun w' => s_In m 1 1000 w')
  cases w1 : (FloatKind.f32.format.order x 0 == some .gt || FloatKind.f32.format.order x 0 == some .eq)
  · clear h
    go_enter Try.func46, Try.ntmps46
    go_wp2_with (go_at_call 65; ((with_reducible refine (HI.out _).mono ?_); rintro e w1 ⟨rfl, rfl⟩))
    refine bodyPost_ret (v := .tuple #[.int .i64 0, .int .i64 0, .int .i64 2]) (by simp [results, Try.results46, go_sem]) rfl ?_
    exact ⟨rfl, le_refl _⟩
  cases w2 : (FloatKind.f32.format.order x 1148846080 == some .lt || FloatKind.f32.format.order x 1148846080 == some .eq)
  · clear h
    go_enter Try.func46, Try.ntmps46
    go_wp2_with (go_at_call 65; ((with_reducible refine (HI.out _).mono ?_); rintro e w1 ⟨rfl, rfl⟩))
    refine bodyPost_ret (v := .tuple #[.int .i64 0, .int .i64 0, .int .i64 2]) (by simp [results, Try.results46, go_sem]) rfl ?_
    exact ⟨rfl, le_refl _⟩
  have hx : withinB x 0 1148846080 = true := by unfold withinB; rw [w1, w2, Bool.true_and]
  unfold okBR at h
  rw [hx, Bool.true_and] at h
  rw [h] at HI
  clear h hx
  go_enter Try.func46, Try.ntmps46
  go_wp2_with (go_at_call 65; ((with_reducible refine (HI.out _).mono ?_); rintro e w1 ⟨rfl, rfl⟩))
  refine bodyPost_ret (v := .tuple #[.int .i64 0, .int .i64 0, .int .i64 2]) (by simp [results, Try.results46, go_sem]) rfl ?_
  exact ⟨rfl, le_refl _⟩
/-- What the model knows behind j denominators. -/
def rtS (x : Nat) (j : Nat) : Int × Nat × Nat := if j = 0 then (0, 0, 0) else rtB x j
set_option maxRecDepth 100000 in
set_option maxHeartbeats 4000000 in
theorem s_BestRatio_yes (x : Nat) (M : Nat) (w : World) (hx : withinB x 0 1148846080 = true) (h1 : 1 ≤ M) (h2 : M ≤ 1000) : Calls Try.prog 46 #[.float .f32 x, .int .i64 (M : Int)] w (Out_iii (rtB x M).1 ((rtB x M).2.1 : Int) 0 w) := by
  have HI := hid (fun w' => s_In (M : Int) 1 1000 w')
  rw [show (decide ((1 : Int) ≤ (M : Int)) && decide ((M : Int) ≤ 1000)) = true by simp; omega] at HI
  have HX := hid (fun (q : Nat) (a : 1 ≤ q) (b : q ≤ 1000) => rt_facts hx a b)
  have HB1 := hid (rtB_one hx)
  have hxx := hx
  unfold withinB at hx
  rw [Bool.and_eq_true] at hx
  obtain ⟨w1, w2⟩ := hx
  clear hxx
  go_enter Try.func46, Try.ntmps46
  go_wp2_with (go_at_call 65; ((with_reducible refine (HI.out _).mono ?_); rintro e w1 ⟨rfl, rfl⟩))
  go_loopw [7, 8, 9, 10] (fun p q l d wr => ∃ j : Nat, j ≤ M ∧ d = .int .i64 ((j : Int) + 1) ∧ p = .int .i64 (rtS x j).1 ∧ q = .int .i64 ((rtS x j).2.1 : Int) ∧ l = .float .f64 (rtS x j).2.2 ∧ Hid (le w wr)) (fun _ _ _ d _ => M + 1 - (intOf d).toNat)
  case atStart => exact ⟨0, by omega, rfl, rfl, rfl, rfl, le_refl _⟩
  case round =>
    obtain ⟨j, hj, rfl, rfl, rfl, rfl, hl⟩ := hrel
    by_cases hlt : j < M
    · obtain ⟨f1, f2, f3, f4, _⟩ := HX.out (j + 1) (by omega) (by omega)
      have F2 := hid f2; have F4 := hid f4
      have F3 := hid (toI64Z f3)
      have HM := hid (fun (s1 p : Nat) (hs : Hid (can .f64 s1 = can .f64 (widen x))) (hp : Hid (can .f64 p = fop .mul .f64 s1 (floatOfInt .f64 ((j : Int) + 1)))) => (show can .f64 p = can .f64 (rtM x (j + 1)) from rtM_of (q := j + 1) hs.out hp.out))
      have HD := hid (fun (s1 t u : Nat) (hs : Hid (can .f64 s1 = can .f64 (widen x))) (ht : Hid (can .f64 t = fop .quo .f64 (rtN x (j + 1)) (floatOfInt .f64 ((j : Int) + 1)))) (hu : Hid (can .f64 u = fop .sub .f64 t s1)) => (show u = rtD x (j + 1) from rtD_of (q := j + 1) hs.out ht.out hu.out F4.out))
      clear f1 f2 f3 f4
      have HAF := hid (fun (w' : World) (hb : fits .f64 (rtD x (j + 1))) => show Calls Try.prog 76 #[.float .f64 (rtD x (j + 1))] w' fun e w'' => e = .returned (.float .f64 (rtF x (j + 1))) ∧ w' = w'' from abs64 (rtD x (j + 1)) w' hb)
      by_cases h0 : j = 0
      · subst h0
        rw [show ((0 : Nat) : Int) + 1 = 1 from rfl] at HM HD
        have HB : Hid (rtS x (0 + 1) = (rtP x (0 + 1), 0 + 1, rtF x (0 + 1))) := HB1.out
        go_wp2_with (first | (with_reducible refine wpList_widen rfl rfl rfl Try.underlying22 Try.underlying26 ?_; intro s1 ns1 es1 fs1) | (with_reducible refine wpList_farith (op := .mul) rfl rfl rfl rfl rfl ?_; intro p np ep fp) | (refine wpList_extern rfl rfl rfl _ (rte_any _ (by assumption)) ?_; intro fr fn hfr; have efr := rtN_of (HM.out _ p es1 ep) hfr.out.1 F2.out; subst efr) | (with_reducible refine wpList_farith (op := .quo) rfl rfl rfl rfl rfl ?_; intro t nt et ft) | (with_reducible refine wpList_farith (op := .sub) rfl rfl rfl rfl rfl ?_; intro u nu eu fu; have euu := HD.out _ t u (by assumption) et eu; subst euu) | (go_at_call 76; ((with_reducible refine (HAF.out _ fu.out).mono ?_); rintro e w3 ⟨rfl, rfl⟩)) | (with_reducible refine wpList_toIntD rfl rfl rfl F3.out ?_))
        go_roundw
        case rel => exact ⟨0 + 1, by omega, by go_num, by rw [HB.out], by rw [HB.out]; go_num, by rw [HB.out], le_trans hl (by first | exact le_drewN _ _ | assumption)⟩
        case measure => simp [intOf]; omega
      · have eS : rtS x j = rtB x j := if_neg h0
        have eS1 : rtS x (j + 1) = rtB x (j + 1) := if_neg (by omega)
        rw [eS]
        have h01 : ¬ (j : Int) = 0 := by omega
        have h02 : decide ((j : Int) + 1 = 1) = false := decide_eq_false (by omega)
        have h03 : ((j : Int) + 1 == 1) = false := beq_eq_false_iff_ne.2 (by omega)
        cases hb : (FloatKind.f64.format.order (rtF x (j + 1)) (rtB x j).2.2 == some .lt)
        · have HB := hid (eS1.trans (rtB_no hb))
          clear eS eS1
          go_wp2_with (first | (with_reducible refine wpList_widen rfl rfl rfl Try.underlying22 Try.underlying26 ?_; intro s1 ns1 es1 fs1) | (with_reducible refine wpList_farith (op := .mul) rfl rfl rfl rfl rfl ?_; intro p np ep fp) | (refine wpList_extern rfl rfl rfl _ (rte_any _ (by assumption)) ?_; intro fr fn hfr; have efr := rtN_of (HM.out _ p es1 ep) hfr.out.1 F2.out; subst efr) | (with_reducible refine wpList_farith (op := .quo) rfl rfl rfl rfl rfl ?_; intro t nt et ft) | (with_reducible refine wpList_farith (op := .sub) rfl rfl rfl rfl rfl ?_; intro u nu eu fu; have euu := HD.out _ t u (by assumption) et eu; subst euu) | (go_at_call 76; ((with_reducible refine (HAF.out _ fu.out).mono ?_); rintro e w3 ⟨rfl, rfl⟩)) | (with_reducible refine wpList_toIntD rfl rfl rfl F3.out ?_))
          go_roundw
          case rel => exact ⟨j + 1, by omega, by go_num, by rw [HB.out], by rw [HB.out], by rw [HB.out], le_trans hl (by first | exact le_drewN _ _ | assumption)⟩
          case measure => simp [intOf]; omega
        · have HB := hid (eS1.trans (rtB_yes hb))
          clear eS eS1
          go_wp2_with (first | (with_reducible refine wpList_widen rfl rfl rfl Try.underlying22 Try.underlying26 ?_; intro s1 ns1 es1 fs1) | (with_reducible refine wpList_farith (op := .mul) rfl rfl rfl rfl rfl ?_; intro p np ep fp) | (refine wpList_extern rfl rfl rfl _ (rte_any _ (by assumption)) ?_; intro fr fn hfr; have efr := rtN_of (HM.out _ p es1 ep) hfr.out.1 F2.out; subst efr) | (with_reducible refine wpList_farith (op := .quo) rfl rfl rfl rfl rfl ?_; intro t nt et ft) | (with_reducible refine wpList_farith (op := .sub) rfl rfl rfl rfl rfl ?_; intro u nu eu fu; have euu := HD.out _ t u (by assumption) et eu; subst euu) | (go_at_call 76; ((with_reducible refine (HAF.out _ fu.out).mono ?_); rintro e w3 ⟨rfl, rfl⟩)) | (with_reducible refine wpList_toIntD rfl rfl rfl F3.out ?_))
          go_roundw
          case rel => exact ⟨j + 1, by omega, by go_num, by rw [HB.out], by rw [HB.out]; go_num, by rw [HB.out], le_trans hl (by first | exact le_drewN _ _ | assumption)⟩
          case measure => simp [intOf]; omega
    · obtain rfl : j = M := by omega
      have eS : rtS x j = rtB x j := if_neg (by omega)
      rw [eS]
      clear eS
      go_wp2
      refine bodyPost_ret (v := .tuple #[.int .i64 (rtB x j).1, .int .i64 ((rtB x j).2.1 : Int), .int .i64 0]) (by simp [results, Try.results46, go_sem]) rfl ?_
      exact ⟨rfl, hl⟩
theorem s_BestRatio (x : Nat) (m : Int) (w : World) : Calls Try.prog 46 #[.float .f32 x, .int .i64 m] w (Out_iii (rtR x m).1 (rtR x m).2.1 (rtR x m).2.2 w) := by
  cases h : okBR x m
  · unfold rtR; rw [h]
    exact s_BestRatio_no x m w h
  · have e : rtR x m = ((rtB x m.toNat).1, ((rtB x m.toNat).2.1 : Int), 0) := by unfold rtR; rw [h]; rfl
    rw [e]
    simp only [okBR, Bool.and_eq_true, decide_eq_true_eq] at h
    obtain ⟨hx, h1, h2⟩ := h
    obtain ⟨M, rfl⟩ : ∃ M : Nat, m = M := ⟨m.toNat, by omega⟩
    rw [Int.toNat_natCast]
    exact s_BestRatio_yes x M w hx (by omega) (by omega)
theorem both_BestRatio (a : Nat) (b : Int) : ∃ (ar0 ar1 ar2 : Int), (∀ w : World, Calls Try.prog 46 #[.float .f32 a, .int .i64 b] w (Out_iii ar0 ar1 ar2 w)) ∧ (∀ w : World, Calls Try.prog 47 #[.float .f32 a, .int .i64 b] w (Out_iii ar0 ar1 ar2 w)) :=
  ⟨_, _, _, s_BestRatio a b, i_BestRatio a b⟩
end Go.Proofs.Yteblmkamopfkiaa

/- The walk of 'FnExactBestRatio'. -/
namespace Go.Proofs.Yteblmkamopfkiaa.fnExactBestRatio
open Go.RowKit Go.Fk
set_option maxRecDepth 100000 in
set_option maxHeartbeats 4000000 in
theorem core (a0 : Nat) (a1 : Int) (ar0 : Int) (ar1 : Int) (ar2 : Int) (w : World)  
    (hS : ∀ (w : World), Calls Try.prog 46 #[.float .f32 a0, .int .i64 a1] w (Out_iii ar0 ar1 ar2 w))
    (hI : ∀ (w : World), Calls Try.prog 47 #[.float .f32 a0, .int .i64 a1] w (Out_iii ar0 ar1 ar2 w)) :
    Calls Try.prog 14 #[.float .f32 a0, .int .i64 a1] w fun e w' => e = .returned (.bool true) ∧ Below w.heap.size w w' := by
  have HS := hid hS; have HI := hid hI; clear hS hI
  have F := Frg.nil w
  go_enter Try.func14, Try.ntmps14
  go_wp2_with (first | (((with_reducible refine listN F ?_); clear F; intro wN F)) | fail)
  first | ((with_reducible refine callAt0 F ?_); clear F; intro wN F) | ((with_reducible refine callAtN F ?_); clear F; intro wN F)
  refine (HS.out _  ).mono ?_
  rintro e wS ⟨rfl, hlS⟩
  (replace F := F.le hlS)
  go_wp2_with (first | (((with_reducible refine listN F ?_); clear F; intro wN F)) | fail)
  first | ((with_reducible refine callAt0 F ?_); clear F; intro wN F) | ((with_reducible refine callAtN F ?_); clear F; intro wN F)
  refine (HI.out _  ).mono ?_
  rintro e wI ⟨rfl, hlI⟩
  (replace F := F.le hlI)
  go_wp2_with (first | (((with_reducible refine listN F ?_); clear F; intro wN F)) | fail)
  go_ret
  first | exact ⟨rfl, F.below⟩ | exact ⟨rfl, below_drewN F.below _⟩
theorem walk (a0 : Nat) (a1 : Int) (w : World) (w0 : fits .f32 a0) (w1 : (Lit.int .i64 a1).wf = true) :
    Calls Try.prog 14 #[.float .f32 a0, .int .i64 a1] w fun e w' => e = .returned (.bool true) ∧ Below w.heap.size w w' := by
  obtain ⟨ar0, ar1, ar2, hS, hI⟩ := both_BestRatio a0 a1
  exact core a0 a1 ar0 ar1 ar2 w   hS hI
end Go.Proofs.Yteblmkamopfkiaa.fnExactBestRatio
