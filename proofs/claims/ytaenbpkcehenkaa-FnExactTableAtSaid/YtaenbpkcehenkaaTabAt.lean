/- 'TableAt' of both. -/
import Derived.Test.YtaenbpkcehenkaaTAt
import Derived.Test.YtaenbpkcehenkaaTab
import Derived.Test.YtaenbpkcehenkaaWithin
import Derived.Test.YtaenbpkcehenkaaFrm
namespace Go.Fk
open Go Go.RowKit
def geB (x : Nat) : Bool := FloatKind.f32.format.order x 0 == some .gt || FloatKind.f32.format.order x 0 == some .eq
def leB (x : Nat) : Bool := FloatKind.f32.format.order x 1065353216 == some .lt || FloatKind.f32.format.order x 1065353216 == some .eq
/-- Between two values of a table. -/
def betwW (t : Nat → Nat) (x k : Nat) : Nat := fop .add .f32 (t k) (fop .mul .f32 (fop .sub .f32 (placeW x) (floatOfInt .f32 (k : Int))) (fop .sub .f32 (t (k + 1)) (t k)))
def atW (t : Nat → Nat) (x : Nat) : Nat := if inUnit x = true then (if indexW x = 256 then can .f32 (t 256) else betwW t x (indexW x)) else 0
def atC (x : Nat) : Int := if inUnit x = true then 0 else 2
theorem betw_of {t : Nat → Nat} {x k p d r1 r2 r : Nat} (hx : inUnit x = true) (hX : indexW x = k) (hN : ¬k = 256) (hp : can .f32 p = placeW x) (hd : can .f32 d = fop .sub .f32 p (floatOfInt .f32 (k : Int)))
    (h1 : can .f32 r1 = fop .sub .f32 (t (k + 1)) (t k)) (h2 : can .f32 r2 = fop .mul .f32 d r1) (h3 : can .f32 r = fop .add .f32 (t k) r2) : can .f32 r = atW t x := by
  unfold atW
  rw [if_pos hx, hX, if_neg hN]
  unfold betwW
  rw [h3, ← fop_can_r .add .f32 (t k) r2, h2, ← fop_can_l .mul .f32 d, hd, ← fop_can_r .mul .f32 _ r1, h1, ← fop_can_l .sub .f32 p, hp]
theorem indexW_lt {x : Nat} (hx : inUnit x = true) (h256 : ¬indexW x = 256) : indexW x < 256 := by
  unfold indexW at *
  obtain ⟨_, h0, h1⟩ := inUnit_val hx
  have hU := one32_pos
  have h : (val .f32 x * 256).tdiv one32 ≤ (256 * one32).tdiv one32 := Int.tdiv_le_tdiv hU (by omega)
  rw [Int.mul_tdiv_cancel _ (by omega)] at h
  omega
def OutA (t : Nat → Nat) (x : Nat) (w : World) (e : Ending) (w' : World) : Prop := ∃ r, e = .returned (.tuple #[.float .f32 r, .int .i64 (atC x)]) ∧ can .f32 r = atW t x ∧ le w w'
section
variable {P : Program} {w : World} {ops : Array Oper} {rest : List Oper} {o : Oper} {a : Act} {Q : Exit → Act → World → Prop}
theorem wpList_toInt (hg : o.guard = none) {src dst : TypeId} {x : Operand} (hop : o.op = Op.convert src dst x) {b : Nat} (hx : a.eval x = .float .f32 b) {v : Value}
    (hr : ∀ w, (convert src dst (.float .f32 b)).run P w = .ok v w) (hK : wpList P ops Q rest (a.put o.dst v) w) : wpList P ops Q (o :: rest) a w := by
  refine wpList_plain hg fun K hK' => ?_
  unfold Oper.wp
  simp [execOp, hop, hx, hr w, Result.andThen]
  exact hK' _ _ hK
end
section
variable {P : Program} {ops : Array Oper} {w : World} {K : FuncId → Array Value → Value → Prop} {Q : Act → Prop} {o : Oper} {rest : List Oper} {a : Act}
theorem wpLoose_nil' (hg : o.guard = none) {x : Operand} (hop : o.op = Op.nilCheck x) {ad : Addr} (hx : a.eval x = .pointer (some ad))
    (hK : wpLoose P ops (fun w' => ∃ m, w' = w.drewN m) K Q rest (a.put o.dst (.pointer (some ad)))) : wpLoose P ops (fun w' => ∃ m, w' = w.drewN m) K Q (o :: rest) a := by
  refine wpLoose_any hg (· = .pointer (some ad)) (fun n => ?_) (by rintro v rfl; exact hK)
  simp [execOp, hop, hx, within, Result.andThen]
  exact ⟨_, rfl⟩
end
end Go.Fk
namespace Go.Proofs.Ytaenbpkcehenkaa
open Go.RowKit Go.Fk
theorem toInt_run {x p k : Nat} (hx : inUnit x = true) (hk : Hid (indexW x = k)) (hp : Hid (can .f32 p = placeW x)) : ∀ w, (convert 32 2 (.float .f32 p)).run Try.prog w = .ok (.int .i64 (k : Int)) w := by
  intro w
  have h := (place_int hx hp.out).2.1
  rw [hk.out] at h
  exact run_convert_float_int (P := Try.prog) w _ _ .f32 .i64 _ _ (by rw [Try.underlying32]; rfl) Try.underlying2 h
theorem toInt_run' {x p k : Nat} (hx : inUnit x = true) (hk : Hid (indexW x = k)) (hp : Hid (can .f32 p = placeW x)) : ∀ w, (convert 32 3 (.float .f32 p)).run Try.prog w = .ok (.int .i64 (k : Int)) w := by
  intro w
  have h := (place_int hx hp.out).2.1
  rw [hk.out] at h
  exact run_convert_float_int (P := Try.prog) w _ _ .f32 .i64 _ _ (by rw [Try.underlying32]; rfl) Try.underlying3 h
set_option maxRecDepth 100000 in
set_option maxHeartbeats 1000000 in
theorem s_l01At (t : Nat → Nat) (x g : Nat) (w : World) (hx : inUnit x = true) (hT : Row w g 89 (ftab .f32 t 257)) : Calls Try.prog 91 #[.pointer (some ⟨g, 0, none⟩), .float .f32 x] w fun e w' => ∃ r, e = .returned (.float .f32 r) ∧ can .f32 r = atW t x ∧ ∃ n, w' = w.drewN n := by
  by_cases h256 : indexW x = 256
  · have HX := hid h256
    have c := hT.ftab (i := 256) (by omega)
    replace hT := hid hT
    clear h256
    go_enter Try.func91, Try.ntmps91
    go_wp2_with (first | (with_reducible refine wpList_farith (op := .mul) rfl rfl rfl rfl rfl ?_; intro p n1 hp fp) | (with_reducible refine wpList_toInt rfl rfl rfl (toInt_run hx HX hp) ?_))
    go_ret
    exact ⟨_, rfl, by unfold atW; rw [if_pos hx, if_pos HX.out], _, rfl⟩
  · have HN := hid h256
    have hlt := indexW_lt hx h256
    clear h256
    generalize hk : indexW x = k at *
    have HX := hid hk
    clear hk
    have c1 := hT.ftab (i := k) (by omega)
    have c2 := hT.ftab (i := k + 1) (by omega)
    replace hT := hid hT
    go_enter Try.func91, Try.ntmps91
    go_wp2_with (first | (with_reducible refine wpList_farith (op := .mul) rfl rfl rfl rfl rfl ?_; intro p n1 hp fp) | (with_reducible refine wpList_farith (op := .sub) rfl rfl rfl rfl rfl ?_; intro d n2 hd fd) | (with_reducible refine wpList_toInt rfl rfl rfl (toInt_run hx HX hp) ?_))
    refine wp_region_loose (fun _ _ _ => True) (by kernel_rfl) (by kernel_rfl) ?_
    repeat (first | (with_reducible refine wpLoose_farith rfl rfl rfl rfl rfl ?_; intro r hr hf; simp only [Act.put, List.setIfInBounds_toArray, List.set_cons_succ, List.set_cons_zero]) | (with_reducible refine wpLoose_nil' rfl rfl rfl ?_; simp only [Act.put, List.setIfInBounds_toArray, List.set_cons_succ, List.set_cons_zero]) | (refine wpLoose_quiet rfl ?_; go_big_quiet_step (fail); refine wpQuiet_nil ?_))
    refine wpLoose_nil (fun m => ?_)
    have h1 := ‹Hid (can .f32 _ = fop .sub .f32 (t (k + 1)) (t k))›
    have h2 := ‹Hid (can .f32 _ = fop .mul .f32 d _)›
    have HR := hid (betw_of hx HX.out HN.out hp.out hd.out h1.out h2.out hr.out)
    go_wp2
    go_ret
    exact ⟨_, rfl, HR.out, n1 + n2 + m, by go_simp⟩
set_option maxRecDepth 100000 in
set_option maxHeartbeats 1000000 in
theorem s_TableAt (t : Nat → Nat) (x : Nat) (w : World) : Calls Try.prog 63 #[.agg (ftab .f32 t 257), .float .f32 x] w (OutA t x w) := by
  have F := (Frm.nil w).box 89 (ftab .f32 t 257)
  cases hg : geB x <;> cases hl : leB x
  case true.true =>
    have hx : inUnit x = true := by unfold inUnit; unfold geB at hg; unfold leB at hl; rw [hg, hl]; rfl
    have hg' := hid hg
    have hl' := hid hl
    unfold geB at hg
    unfold leB at hl
    go_enter Try.func63, Try.ntmps63
    go_wp2_with (go_at_call 91; ((with_reducible refine (s_l01At _ _ _ _ hx (F.row List.mem_cons_self)).mono ?_); rintro e w2 ⟨r, rfl, hr, n, rfl⟩; replace hr := hid hr))
    go_ret2
    exact ⟨_, by unfold atC; rw [if_pos hx]; rfl, hr.out, (F.drewN _).below⟩
  all_goals
    have hx : inUnit x = false := by unfold inUnit; unfold geB at hg; unfold leB at hl; rw [hg, hl]; rfl
    have HX := hid hx; clear hx
    unfold geB at hg
    unfold leB at hl
    go_enter Try.func63, Try.ntmps63
    go_wp2
    go_ret2
    exact ⟨_, by unfold atC; rw [HX.out]; rfl, by unfold atW; rw [HX.out]; rfl, F.below⟩
set_option maxRecDepth 100000 in
set_option maxHeartbeats 1000000 in
theorem i_TableAt (t : Nat → Nat) (x : Nat) (w : World) : Calls Try.prog 65 #[.agg (ftab .f32 t 257), .float .f32 x] w (OutA t x w) := by
  have F := (Frm.nil w).box 89 (ftab .f32 t 257)
  have hT := F.row List.mem_cons_self
  cases hx : inUnit x
  case true =>
    have HW := hid (fun w : World => (show withinB x 0 1065353216 = true from hx) ▸ i_isWithin x 0 1065353216 w)
    by_cases h256 : indexW x = 256
    · have HX := hid h256
      have c := hT.ftab (i := 256) (by omega)
      clear h256 hT
      go_enter Try.func65, Try.ntmps65
      go_wp2_with (first | (go_at_call 77; refine (HW.out _).mono ?_; rintro e w' ⟨rfl, rfl⟩) | (with_reducible refine wpList_farith (op := .mul) rfl rfl rfl rfl rfl ?_; intro p n1 hp fp) | (with_reducible refine wpList_toInt rfl rfl rfl (toInt_run' hx HX hp) ?_))
      go_ret2
      exact ⟨_, by unfold atC; rw [if_pos hx]; rfl, by unfold atW; rw [if_pos hx, if_pos HX.out], (F.drewN _).below⟩
    · have HN := hid h256
      have hlt := indexW_lt hx h256
      clear h256
      generalize hk : indexW x = k at *
      have HX := hid hk
      clear hk
      have c1 := hT.ftab (i := k) (by omega)
      have c2 := hT.ftab (i := k + 1) (by omega)
      clear hT
      go_enter Try.func65, Try.ntmps65
      go_wp2_with (first | (go_at_call 77; refine (HW.out _).mono ?_; rintro e w' ⟨rfl, rfl⟩) | (with_reducible refine wpList_farith (op := .mul) rfl rfl rfl rfl rfl ?_; intro p n1 hp fp) | (with_reducible refine wpList_farith (op := .sub) rfl rfl rfl rfl rfl ?_; intro d n2 hd fd) | (with_reducible refine wpList_toInt rfl rfl rfl (toInt_run' hx HX hp) ?_))
      refine wp_region_loose (fun _ _ _ => True) (by kernel_rfl) (by kernel_rfl) ?_
      repeat (first | (with_reducible refine wpLoose_farith rfl rfl rfl rfl rfl ?_; intro r hr hf; simp only [Act.put, List.setIfInBounds_toArray, List.set_cons_succ, List.set_cons_zero]) | (with_reducible refine wpLoose_nil' rfl rfl rfl ?_; simp only [Act.put, List.setIfInBounds_toArray, List.set_cons_succ, List.set_cons_zero]) | (refine wpLoose_quiet rfl ?_; go_big_quiet_step (fail); refine wpQuiet_nil ?_))
      refine wpLoose_nil (fun m => ?_)
      have h1 := ‹Hid (can .f32 _ = fop .sub .f32 (t (k + 1)) (t k))›
      have h2 := ‹Hid (can .f32 _ = fop .mul .f32 d _)›
      have HR := hid (betw_of hx HX.out HN.out hp.out hd.out h1.out h2.out hr.out)
      go_wp2
      go_ret2
      exact ⟨_, by unfold atC; rw [if_pos hx]; rfl, HR.out, ((F.drewN _).drewN _).below⟩
  case false =>
    have HW := hid (fun w : World => (show withinB x 0 1065353216 = false from hx) ▸ i_isWithin x 0 1065353216 w)
    have HX := hid hx; clear hx hT
    go_enter Try.func65, Try.ntmps65
    go_wp2_with (go_at_call 77; refine (HW.out _).mono ?_; rintro e w' ⟨rfl, rfl⟩)
    go_ret2
    exact ⟨_, by unfold atC; rw [HX.out]; rfl, by unfold atW; rw [HX.out]; rfl, F.below⟩
end Go.Proofs.Ytaenbpkcehenkaa
