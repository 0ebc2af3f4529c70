/- Texts of the walk, laid in one file. -/
import Derived.Test.YtaenbpkcehenkacMe
set_option linter.unusedVariables false
set_option linter.unusedSimpArgs false
/- 'TableAt' of both. -/
namespace Go.Fk
open Go Go.RowKit
def geB (x : Nat) : Bool := FloatKind.f32.format.order x 0 == some .gt || FloatKind.f32.format.order x 0 == some .eq
def leB (x : Nat) : Bool := FloatKind.f32.format.order x 1065353216 == some .lt || FloatKind.f32.format.order x 1065353216 == some .eq
/-- Between two values of a table. -/
def betwW (t : Nat → Nat) (x k : Nat) : Nat := fop .add .f32 (t k) (fop .mul .f32 (fop .sub .f32 (placeW x) (floatOfInt .f32 (k : Int))) (fop .sub .f32 (t (k + 1)) (t k)))
def atW (t : Nat → Nat) (x : Nat) : Nat := if inUnit x = true then (if indexW x = 256 then can .f32 (t 256) else betwW t x (indexW x)) else 0
def atC (x : Nat) : Int := if inUnit x = true then 0 else 2
theorem betw_of {t : Nat → Nat} {x k p d r1 r2 r : Nat} (hx : inUnit x = true) (hX : indexW x = k) (hN : ¬k = 256) (hp : can .f32 p = placeW x) (hd : can .f32 d = fop .sub .f32 p (floatOfInt .f32 (k : Int)))
    (h1 : can .f32 r1 = fop .sub .f32 (t (k + 1)) (t k)) (h2 : can .f32 r2 = fop .mul .f32 d r1) (h3 : can .f32 r = fop .add .f32 (t k) r2) : can .f32 r = atW t x := by
  unfold atW
  rw [if_pos hx, hX, if_neg hN]
  unfold betwW
  rw [h3, ← fop_can_r .add .f32 (t k) r2, h2, ← fop_can_l .mul .f32 d, hd, ← fop_can_r .mul .f32 _ r1, h1, ← fop_can_l .sub .f32 p, hp]
theorem indexW_lt {x : Nat} (hx : inUnit x = true) (h256 : ¬indexW x = 256) : indexW x < 256 := by
  unfold indexW at *
  obtain ⟨_, h0, h1⟩ := inUnit_val hx
  have hU := one32_pos
  have h : (val .f32 x * 256).tdiv one32 ≤ (256 * one32).tdiv one32 := Int.tdiv_le_tdiv hU (by omega)
  rw [Int.mul_tdiv_cancel _ (by omega)] at h
  omega
def OutTa (t : Nat → Nat) (x : Nat) (w : World) (e : Ending) (w' : World) : Prop := ∃ r, e = .returned (.tuple #[.float .f32 r, .int .i64 (atC x)]) ∧ can .f32 r = atW t x ∧ le w w'
section
variable {P : Program} {w : World} {ops : Array Oper} {rest : List Oper} {o : Oper} {a : Act} {Q : Exit → Act → World → Prop}
theorem wpList_toInt (hg : o.guard = none) {src dst : TypeId} {x : Operand} (hop : o.op = Op.convert src dst x) {b : Nat} (hx : a.eval x = .float .f32 b) {v : Value}
    (hr : ∀ w, (convert src dst (.float .f32 b)).run P w = .ok v w) (hK : wpList P ops Q rest (a.put o.dst v) w) : wpList P ops Q (o :: rest) a w := by
  refine wpList_plain hg fun K hK' => ?_
  unfold Oper.wp
  simp [execOp, hop, hx, hr w, Result.andThen]
  exact hK' _ _ hK
end
section
variable {P : Program} {ops : Array Oper} {w : World} {K : FuncId → Array Value → Value → Prop} {Q : Act → Prop} {o : Oper} {rest : List Oper} {a : Act}
theorem wpLoose_nil' (hg : o.guard = none) {x : Operand} (hop : o.op = Op.nilCheck x) {ad : Addr} (hx : a.eval x = .pointer (some ad))
    (hK : wpLoose P ops (fun w' => ∃ m, w' = w.drewN m) K Q rest (a.put o.dst (.pointer (some ad)))) : wpLoose P ops (fun w' => ∃ m, w' = w.drewN m) K Q (o :: rest) a := by
  refine wpLoose_any hg (· = .pointer (some ad)) (fun n => ?_) (by rintro v rfl; exact hK)
  simp [execOp, hop, hx, within, Result.andThen]
  exact ⟨_, rfl⟩
end
end Go.Fk
namespace Go.Proofs.Ytaenbpkcehenkac
open Go.RowKit Go.Fk
theorem toInt_run {x p k : Nat} (hx : inUnit x = true) (hk : Hid (indexW x = k)) (hp : Hid (can .f32 p = placeW x)) : ∀ w, (convert 22 2 (.float .f32 p)).run Try.prog w = .ok (.int .i64 (k : Int)) w := by
  intro w
  have h := (place_int hx hp.out).2.1
  rw [hk.out] at h
  exact run_convert_float_int (P := Try.prog) w _ _ .f32 .i64 _ _ (by rw [Try.underlying22]; rfl) Try.underlying2 h
theorem toInt_run' {x p k : Nat} (hx : inUnit x = true) (hk : Hid (indexW x = k)) (hp : Hid (can .f32 p = placeW x)) : ∀ w, (convert 22 3 (.float .f32 p)).run Try.prog w = .ok (.int .i64 (k : Int)) w := by
  intro w
  have h := (place_int hx hp.out).2.1
  rw [hk.out] at h
  exact run_convert_float_int (P := Try.prog) w _ _ .f32 .i64 _ _ (by rw [Try.underlying22]; rfl) Try.underlying3 h
end Go.Proofs.Ytaenbpkcehenkac

/- 'ReadBetween' of both. -/
namespace Go.Fk
open Go Go.RowKit
/-- Is a number from 1 to a length? In two parts. -/
def ge1 (d : Nat) : Bool := FloatKind.f32.format.order d 1065353216 == some .gt || FloatKind.f32.format.order d 1065353216 == some .eq
def leN (d n : Nat) : Bool := FloatKind.f32.format.order d (floatOfInt .f32 (n : Int)) == some .lt || FloatKind.f32.format.order d (floatOfInt .f32 (n : Int)) == some .eq
def inTo (d n : Nat) : Bool := withinB d 1065353216 (floatOfInt .f32 (n : Int))
/-- What lies between two samples. -/
def betwR (x : Nat → Nat) (n j d : Nat) : Nat :=
  if (FloatKind.f32.format.order (shareW d) 0 == some .eq) = true then x (backJ n j (wholeW d))
  else fop .add .f32 (x (backJ n j (wholeW d))) (fop .mul .f32 (shareW d) (fop .sub .f32 (x (backJ n j (wholeW d + 1))) (x (backJ n j (wholeW d)))))
def BetwC (x : Nat → Nat) (n : Nat) (k : Int) (d v : Nat) (c : Int) : Prop :=
  (okRing n k = false ∧ v = 0 ∧ c = 1) ∨ (okRing n k = true ∧ inTo d n = false ∧ v = 0 ∧ c = 2) ∨ (okRing n k = true ∧ inTo d n = true ∧ v = betwR x n k.toNat d ∧ c = 0)
theorem betw_val {x : Nat → Nat} {n j d p y1 y2 r1 r2 r : Nat} (hz : (FloatKind.f32.format.order (shareW d) 0 == some .eq) = false) (hp : p = shareW d) (h1 : can .f32 y1 = x (backJ n j (wholeW d))) (h2 : can .f32 y2 = x (backJ n j (wholeW d + 1)))
    (e1 : can .f32 r1 = fop .sub .f32 y2 y1) (e2 : can .f32 r2 = fop .mul .f32 p r1) (e3 : can .f32 r = fop .add .f32 y1 r2) : can .f32 r = betwR x n j d := by
  unfold betwR
  rw [if_neg (by rw [hz]; decide), ← h1, ← h2, fop_can_l, fop_can_l .sub, fop_can_r .sub, ← hp, e3, ← fop_can_r .add .f32 y1 r2, e2, ← fop_can_r .mul .f32 p r1, e1]
end Go.Fk
namespace Go.Proofs.Ytaenbpkcehenkac
open Go.RowKit Go.Fk
theorem toI64 {d k : Nat} (h : floatToIntVal .f32 d .i64 = some (k : Int)) : ∀ w, (convert 22 2 (.float .f32 d)).run Try.prog w = .ok (.int .i64 (k : Int)) w := by
  intro w
  exact run_convert_float_int (P := Try.prog) w _ _ .f32 .i64 _ _ (by rw [Try.underlying22]; rfl) Try.underlying2 h
end Go.Proofs.Ytaenbpkcehenkac

/- 'NewString' of both. -/
namespace Go.Fk
end Go.Fk
namespace Go.Fk
open Go Go.RowKit
/-- How many samples the ring of a new string has, and what is left over. -/
def nNS (p x : Nat) : Nat := if (FloatKind.f32.format.order (shareW (fop .sub .f32 p x)) 1048576000 == some .lt) = true then wholeW (fop .sub .f32 p x) - 1 else wholeW (fop .sub .f32 p x)
def frNS (p x : Nat) : Nat := fop .sub .f32 (fop .sub .f32 p x) (floatOfInt .f32 (nNS p x : Int))
def okNS (p x l : Nat) : Bool := withinB p 1077936128 1149239296 && (withinB x 0 1056964608 && withinB l 0 1065353216)
def tkNS (p x : Nat) : Int := if to2 (frNS p x) = true then 3 else 0
def taNS (p x : Nat) : Nat := if to2 (frNS p x) = true then quoA (frNS p x) else 0
theorem to2_can (q : Nat) : to2 (can .f32 q) = to2 q := by unfold to2; rw [order_can_l, order_can_l]
theorem nNS_in {p x : Nat} (hp : withinB p 1077936128 1149239296 = true) (hx : withinB x 0 1056964608 = true) : 1 ≤ nNS p x ∧ nNS p x ≤ 1024 := by
  obtain ⟨_, _, _, h1, h2⟩ := period_int hp hx (can_fop _ _ _ _ : can .f32 (fop .sub .f32 p x) = fop .sub .f32 p x)
  unfold nNS
  split <;> omega
end Go.Fk
namespace Go.Proofs.Ytaenbpkcehenkac
open Go.RowKit Go.Fk
theorem i_AllNS (p x r : Nat) (hr : can .f32 r = frNS p x) (w : World) : Calls Try.prog 56 #[.float .f32 r] w fun e w' => ∃ c, e = .returned (.tuple #[.agg #[.int .i64 (tkNS p x), .float .f32 (taNS p x), .float .f32 0, .float .f32 0, .float .f32 0, .float .f32 0], .int .i64 c]) ∧ le w w' := by
  refine (i_AllpassFor r w).mono ?_
  rintro e w' ⟨h1, h2, h3⟩
  have ht : to2 r = to2 (frNS p x) := by rw [← hr, to2_can]
  have hq : quoA r = quoA (frNS p x) := by unfold quoA; rw [← hr, fop_can_r, fop_can_r]
  cases h : to2 (frNS p x)
  · rw [show tkNS p x = 0 by unfold tkNS; rw [if_neg (by rw [h]; decide)], show taNS p x = 0 by unfold taNS; rw [if_neg (by rw [h]; decide)]]
    exact ⟨2, h2 (ht.trans h), h3⟩
  · rw [show tkNS p x = 3 by unfold tkNS; rw [if_pos h], show taNS p x = quoA (frNS p x) by unfold taNS; rw [if_pos h]]
    obtain ⟨a, e1, e2⟩ := h1 (ht.trans h)
    obtain rfl : a = quoA (frNS p x) := of_can (e2.trans hq) (quoA_num h)
    exact ⟨0, e1, h3⟩
theorem i_OneNS (x : Nat) (hx : withinB x 0 1056964608 = true) (w : World) : Calls Try.prog 57 #[.float .f32 x] w fun e w' => e = .returned (.agg #[.int .i64 2, .float .f32 (fop .sub .f32 1065353216 x), .float .f32 x, .float .f32 0, .float .f32 0, .float .f32 0]) ∧ le w w' := by
  refine (i_OneZero x w).mono ?_
  rintro e w' ⟨a, b, c, y, z, rfl, ⟨h1, h2, h3, h4, h5⟩, hl⟩
  have n0 : isNan .f32 0 = false := by decide
  obtain ⟨hn, hm⟩ := mix_num hx
  obtain rfl := of_can h1 hm
  obtain rfl : b = x := of_can (h2.trans (can_of_not hn)) hn
  obtain rfl := of_can h3 n0
  obtain rfl := of_can h4 n0
  obtain rfl := of_can h5 n0
  exact ⟨rfl, hl⟩
theorem s_AllNS (p x r : Nat) (hr : can .f32 r = frNS p x) (w : World) : Calls Try.prog 51 #[.float .f32 r] w fun e w' => ∃ c, e = .returned (.tuple #[.agg #[.int .i64 (tkNS p x), .float .f32 (taNS p x), .float .f32 0, .float .f32 0, .float .f32 0, .float .f32 0], .int .i64 c]) ∧ le w w' := by
  refine (s_AllpassFor r w).mono ?_
  rintro e w' ⟨h1, h2, h3⟩
  have ht : to2 r = to2 (frNS p x) := by rw [← hr, to2_can]
  have hq : quoA r = quoA (frNS p x) := by unfold quoA; rw [← hr, fop_can_r, fop_can_r]
  cases h : to2 (frNS p x)
  · rw [show tkNS p x = 0 by unfold tkNS; rw [if_neg (by rw [h]; decide)], show taNS p x = 0 by unfold taNS; rw [if_neg (by rw [h]; decide)]]
    exact ⟨2, h2 (ht.trans h), h3⟩
  · rw [show tkNS p x = 3 by unfold tkNS; rw [if_pos h], show taNS p x = quoA (frNS p x) by unfold taNS; rw [if_pos h]]
    obtain ⟨a, e1, e2⟩ := h1 (ht.trans h)
    obtain rfl : a = quoA (frNS p x) := of_can (e2.trans hq) (quoA_num h)
    exact ⟨0, e1, h3⟩
theorem s_OneNS (x : Nat) (hx : withinB x 0 1056964608 = true) (w : World) : Calls Try.prog 52 #[.float .f32 x] w fun e w' => e = .returned (.agg #[.int .i64 2, .float .f32 (fop .sub .f32 1065353216 x), .float .f32 x, .float .f32 0, .float .f32 0, .float .f32 0]) ∧ le w w' := by
  refine (s_OneZero x w).mono ?_
  rintro e w' ⟨a, b, c, y, z, rfl, ⟨h1, h2, h3, h4, h5⟩, hl⟩
  have n0 : isNan .f32 0 = false := by decide
  obtain ⟨hn, hm⟩ := mix_num hx
  obtain rfl := of_can h1 hm
  obtain rfl : b = x := of_can (h2.trans (can_of_not hn)) hn
  obtain rfl := of_can h3 n0
  obtain rfl := of_can h4 n0
  obtain rfl := of_can h5 n0
  exact ⟨rfl, hl⟩
set_option maxRecDepth 100000 in
set_option maxHeartbeats 4000000 in
theorem i_whole (p x : Nat) (w : World) (hp : withinB p 1077936128 1149239296 = true) (hx : withinB x 0 1056964608 = true) :
    Calls Try.prog 54 #[.float .f32 (fop .sub .f32 p x)] w fun e w' => ∃ r, e = .returned (.tuple #[.int .i64 (nNS p x : Nat), .float .f32 r]) ∧ can .f32 r = frNS p x ∧ ∃ m, w' = w.drewN m := by
  obtain ⟨_, hdn, hi, h1, h2⟩ := period_int hp hx (can_fop _ _ _ _ : can .f32 (fop .sub .f32 p x) = fop .sub .f32 p x)
  have HN : Hid (nNS p x = if (FloatKind.f32.format.order (shareW (fop .sub .f32 p x)) 1048576000 == some .lt) = true then wholeW (fop .sub .f32 p x) - 1 else wholeW (fop .sub .f32 p x)) := rfl
  have HF : Hid (frNS p x = fop .sub .f32 (fop .sub .f32 p x) (floatOfInt .f32 (nNS p x : Int))) := rfl
  have HS : Hid (shareW (fop .sub .f32 p x) = fop .sub .f32 (fop .sub .f32 p x) (floatOfInt .f32 (wholeW (fop .sub .f32 p x) : Int))) := rfl
  have HI := hid (toI64 hi)
  clear hi hdn hp hx
  generalize nNS p x = n at *
  generalize frNS p x = fr at *
  generalize shareW (fop .sub .f32 p x) = sh at *
  generalize wholeW (fop .sub .f32 p x) = k at *
  generalize fop .sub .f32 p x = d at *
  have HC := hid (fun (q : Nat) (hq : Hid (can .f32 q = fop .sub .f32 d (floatOfInt .f32 (k : Int)))) => (show FloatKind.f32.format.order q 1048576000 = FloatKind.f32.format.order sh 1048576000 by rw [HS.out, ← hq.out, order_can_l]))
  cases hb : (FloatKind.f32.format.order sh 1048576000 == some .lt)
  · have hn : n = k := by rw [HN.out, hb]; rfl
    subst hn
    have HB := hid hb
    clear hb
    go_enter Try.func54, Try.ntmps54
    go_wp2_with (first | (with_reducible refine wpList_toInt rfl rfl rfl HI.out ?_) | (with_reducible refine wpList_farith (op := .sub) rfl rfl rfl rfl rfl ?_; intro q n1 hq fq; (try have hcq : (FloatKind.f32.format.order q 1048576000 == some .lt) = false := (congrArg (· == some .lt) (HC.out q hq)).trans HB.out)))
    go_ret2
    exact ⟨_, rfl, hq.out.trans HF.out.symm, _, rfl⟩
  · obtain ⟨k', rfl⟩ : ∃ k', k = k' + 1 := ⟨k - 1, by omega⟩
    have hn : n = k' := by rw [HN.out, hb]; rfl
    subst hn
    have HC2 := hid (fun (q : Nat) (hq : Hid (can .f32 q = fop .sub .f32 d (floatOfInt .f32 ((n : Int) + 1)))) => HC.out q (show Hid (can .f32 q = fop .sub .f32 d (floatOfInt .f32 ((n + 1 : Nat) : Int))) from by rw [Int.natCast_add]; exact hq))
    clear HC
    have HB := hid hb
    clear hb
    go_enter Try.func54, Try.ntmps54
    go_wp2_with (first | (with_reducible refine wpList_toInt rfl rfl rfl HI.out ?_) | (with_reducible refine wpList_farith (op := .sub) rfl rfl rfl rfl rfl ?_; intro q n1 hq fq; (try have hcq : (FloatKind.f32.format.order q 1048576000 == some .lt) = true := (congrArg (· == some .lt) (HC2.out q hq)).trans HB.out)))
    go_ret2
    exact ⟨_, rfl, hq.out.trans HF.out.symm, _, rfl⟩
set_option maxRecDepth 100000 in
set_option maxHeartbeats 4000000 in
theorem i_NewString_no (p x l : Nat) (w : World) (h : okNS p x l = false) :
    Calls Try.prog 16 #[.float .f32 p, .float .f32 x, .float .f32 l] w (Out_si (fun _ => 0) 0 0 0 0 0 0 0 0 0 0 0 0 0 0 0 2 w) := by
  have HW1 := hid (fun w => i_isWithin p 1077936128 1149239296 w)
  have HW2 := hid (fun w => i_isWithin x 0 1056964608 w)
  have HW3 := hid (fun w => i_isWithin l 0 1065353216 w)
  unfold okNS at h
  cases h1 : withinB p 1077936128 1149239296
  · rw [h1] at HW1
    clear h h1 HW2 HW3
    have F := (Frg.nil w).box 31 #[.slice none 0 0, .int .i64 0, .int .i64 0, .float .f32 0, .float .f32 0, .float .f32 0, .float .f32 0, .float .f32 0, .int .i64 0, .float .f32 0, .float .f32 0, .float .f32 0, .float .f32 0, .float .f32 0, .float .f32 0]
    go_enter Try.func16, Try.ntmps16
    go_wp2_with (first | (go_at_call 53; first | ((with_reducible refine (HW1.out _).mono ?_); rintro e w8 ⟨rfl, rfl⟩) | ((with_reducible refine (HW2.out _).mono ?_); rintro e w8 ⟨rfl, rfl⟩) | ((with_reducible refine (HW3.out _).mono ?_); rintro e w8 ⟨rfl, rfl⟩)) | ((with_reducible refine stop_store rfl ?_)))
    show wpList _ _ _ _ _ _
    refine wpList_storeD rfl rfl rfl (cells := #[.slice none 0 0, .int .i64 0, .int .i64 0, .float .f32 0, .float .f32 0, .float .f32 0, .float .f32 0, .float .f32 0, .int .i64 0, .float .f32 0, .float .f32 0, .float .f32 0, .float .f32 0, .float .f32 0, .float .f32 0]) rfl (F.row m0) infoStr rfl (by simp [Value.oneCell']) (fun w4 K => ?_)
    have R := hid K.row
    have L := hid (F.wr0 K).below
    clear K F
    go_wp2
    exact bodyPost_ret (results_row2 rfl _ _ _ _ _ rfl R.out Try.underlying31 rfl infoStr) rfl ⟨_, rfl, .inl ⟨rfl, rfl⟩, L.out⟩
  · cases h2 : withinB x 0 1056964608
    · rw [h1] at HW1
      rw [h2] at HW2
      clear h h1 h2 HW3
      have F := (Frg.nil w).box 31 #[.slice none 0 0, .int .i64 0, .int .i64 0, .float .f32 0, .float .f32 0, .float .f32 0, .float .f32 0, .float .f32 0, .int .i64 0, .float .f32 0, .float .f32 0, .float .f32 0, .float .f32 0, .float .f32 0, .float .f32 0]
      go_enter Try.func16, Try.ntmps16
      go_wp2_with (first | (go_at_call 53; first | ((with_reducible refine (HW1.out _).mono ?_); rintro e w8 ⟨rfl, rfl⟩) | ((with_reducible refine (HW2.out _).mono ?_); rintro e w8 ⟨rfl, rfl⟩) | ((with_reducible refine (HW3.out _).mono ?_); rintro e w8 ⟨rfl, rfl⟩)) | ((with_reducible refine stop_store rfl ?_)))
      show wpList _ _ _ _ _ _
      refine wpList_storeD rfl rfl rfl (cells := #[.slice none 0 0, .int .i64 0, .int .i64 0, .float .f32 0, .float .f32 0, .float .f32 0, .float .f32 0, .float .f32 0, .int .i64 0, .float .f32 0, .float .f32 0, .float .f32 0, .float .f32 0, .float .f32 0, .float .f32 0]) rfl (F.row m0) infoStr rfl (by simp [Value.oneCell']) (fun w4 K => ?_)
      have R := hid K.row
      have L := hid (F.wr0 K).below
      clear K F
      go_wp2
      exact bodyPost_ret (results_row2 rfl _ _ _ _ _ rfl R.out Try.underlying31 rfl infoStr) rfl ⟨_, rfl, .inl ⟨rfl, rfl⟩, L.out⟩
    · have h3 : withinB l 0 1065353216 = false := by rw [h1, h2] at h; simpa using h
      rw [h1] at HW1
      rw [h2] at HW2
      rw [h3] at HW3
      clear h h1 h2 h3
      have F := (Frg.nil w).box 31 #[.slice none 0 0, .int .i64 0, .int .i64 0, .float .f32 0, .float .f32 0, .float .f32 0, .float .f32 0, .float .f32 0, .int .i64 0, .float .f32 0, .float .f32 0, .float .f32 0, .float .f32 0, .float .f32 0, .float .f32 0]
      go_enter Try.func16, Try.ntmps16
      go_wp2_with (first | (go_at_call 53; first | ((with_reducible refine (HW1.out _).mono ?_); rintro e w8 ⟨rfl, rfl⟩) | ((with_reducible refine (HW2.out _).mono ?_); rintro e w8 ⟨rfl, rfl⟩) | ((with_reducible refine (HW3.out _).mono ?_); rintro e w8 ⟨rfl, rfl⟩)) | ((with_reducible refine stop_store rfl ?_)))
      show wpList _ _ _ _ _ _
      refine wpList_storeD rfl rfl rfl (cells := #[.slice none 0 0, .int .i64 0, .int .i64 0, .float .f32 0, .float .f32 0, .float .f32 0, .float .f32 0, .float .f32 0, .int .i64 0, .float .f32 0, .float .f32 0, .float .f32 0, .float .f32 0, .float .f32 0, .float .f32 0]) rfl (F.row m0) infoStr rfl (by simp [Value.oneCell']) (fun w4 K => ?_)
      have R := hid K.row
      have L := hid (F.wr0 K).below
      clear K F
      go_wp2
      exact bodyPost_ret (results_row2 rfl _ _ _ _ _ rfl R.out Try.underlying31 rfl infoStr) rfl ⟨_, rfl, .inl ⟨rfl, rfl⟩, L.out⟩
set_option maxRecDepth 100000 in
set_option maxHeartbeats 4000000 in
theorem i_NewString_yes (p x l : Nat) (w : World) (h : okNS p x l = true) :
    Calls Try.prog 16 #[.float .f32 p, .float .f32 x, .float .f32 l] w (Out_si (fun _ => 0) (nNS p x) 0 (tkNS p x) (taNS p x) 0 0 0 0 2 (fop .sub .f32 1065353216 x) x 0 0 0 l 0 w) := by
  have HW1 := hid (fun w => i_isWithin p 1077936128 1149239296 w)
  have HW2 := hid (fun w => i_isWithin x 0 1056964608 w)
  have HW3 := hid (fun w => i_isWithin l 0 1065353216 w)
  unfold okNS at h
  rw [Bool.and_eq_true, Bool.and_eq_true] at h
  obtain ⟨h1, h2, h3⟩ := h
  obtain ⟨b1, b2⟩ := nNS_in h1 h2
  have HD := hid (fun (d : Nat) (hd : Hid (can .f32 d = fop .sub .f32 p x)) => (period_int h1 h2 hd.out).1)
  have HF := hid (fun w => i_whole p x w h1 h2)
  have HR := hid (fun w => i_NewRing (nNS p x) w b1 b2)
  have HA := hid (fun w r hr => i_AllNS p x r hr w)
  have HO := hid (fun w => i_OneNS x h2 w)
  rw [h1] at HW1
  rw [h2] at HW2
  rw [h3] at HW3
  clear h1 h2 h3
  have F := (Frg.nil w).box 31 #[.slice none 0 0, .int .i64 0, .int .i64 0, .float .f32 0, .float .f32 0, .float .f32 0, .float .f32 0, .float .f32 0, .int .i64 0, .float .f32 0, .float .f32 0, .float .f32 0, .float .f32 0, .float .f32 0, .float .f32 0]
  go_enter Try.func16, Try.ntmps16
  go_wp2_with (first | (go_at_call 53; first | ((with_reducible refine (HW1.out _).mono ?_); rintro e w8 ⟨rfl, rfl⟩) | ((with_reducible refine (HW2.out _).mono ?_); rintro e w8 ⟨rfl, rfl⟩) | ((with_reducible refine (HW3.out _).mono ?_); rintro e w8 ⟨rfl, rfl⟩)) | (with_reducible refine wpList_farith (op := .sub) rfl rfl rfl rfl rfl ?_; intro d n1' hd fd; rw [HD.out d hd]; replace F := F.drewN n1'; (try simp only [World.drewN_drewN] at F)) | (go_at_call 54; ((with_reducible refine (HF.out _).mono ?_); rintro e w2 ⟨r, rfl, hr, m2, rfl⟩; have HRR := hid hr; replace F := F.drewN m2; (try simp only [World.drewN_drewN] at F); clear hr)) | (go_at_call 55; ((with_reducible refine (HR.out _).mono ?_); rintro e w3 ⟨b, rfl, hb, hl3, t3, hrow⟩; replace F := F.own1 (s := (.slice (some ⟨b, 0, none⟩) (nNS p x) (nNS p x))) (x := fun _ => 0) (n := nNS p x) hl3 (.inr ⟨b, 0, nNS p x, t3, _, rfl, Nat.le_refl _, by unfold maxLen; omega, hb, hrow.lt, hrow, fun i hi => ⟨0, by rw [Nat.zero_add]; exact get_ftab .f32 (fun _ => 0) _ i hi, fits_zero, show can .f32 0 = 0 by decide⟩⟩); clear hb hl3 hrow)) | (refine wpList_storeG F rfl rfl rfl rfl rfl infoRing rfl (by simp [Value.oneCell']) ?_; clear F; intro W5 F zW; clear zW) | (go_at_call 56; ((with_reducible refine (HA.out _ _ HRR.out).mono ?_); rintro e w4 ⟨c, rfl, hl4⟩; replace F := F.le hl4; clear hl4)) | (refine wpList_storeG F rfl rfl rfl rfl rfl infoFil rfl (by simp [Value.oneCell']) ?_; clear F; intro W6 F zW; clear zW))
  have G := F.drewN 1
  have hz := hid ((F.drewN 1).facts (rowF w.heap.size 31 #[.slice none 0 0, .int .i64 0, .int .i64 0, .float .f32 0, .float .f32 0, .float .f32 0, .float .f32 0, .float .f32 0, .int .i64 0, .float .f32 0, .float .f32 0, .float .f32 0, .float .f32 0, .float .f32 0, .float .f32 0]) m3).2.1
  have f1 := hid ((F.drewN 1).facts (rowF w3.heap.size 25 #[(.slice (some ⟨b, 0, none⟩) (nNS p x) (nNS p x)), .int .i64 0]) m1)
  have ap := List.pairwise_cons.1 (List.pairwise_cons.1 (List.pairwise_cons.1 G.apart).2).2
  have aw := hid (ap.1 (rowF w.heap.size 31 #[.slice none 0 0, .int .i64 0, .int .i64 0, .float .f32 0, .float .f32 0, .float .f32 0, .float .f32 0, .float .f32 0, .int .i64 0, .float .f32 0, .float .f32 0, .float .f32 0, .float .f32 0, .float .f32 0, .float .f32 0]) (by simp))
  have g3 : w.heap.size < w3.heap.size := by
    have h0 := (List.pairwise_cons.1 (List.pairwise_cons.1 G.apart).2).1 (rowF w.heap.size 31 #[.slice none 0 0, .int .i64 0, .int .i64 0, .float .f32 0, .float .f32 0, .float .f32 0, .float .f32 0, .float .f32 0, .int .i64 0, .float .f32 0, .float .f32 0, .float .f32 0, .float .f32 0, .float .f32 0, .float .f32 0]) (by simp)
    simp only [rowF] at h0
    omega
  have g4 : w.heap.size < w4.heap.size := by
    have h0 := (List.pairwise_cons.1 G.apart).1 (rowF w.heap.size 31 #[.slice none 0 0, .int .i64 0, .int .i64 0, .float .f32 0, .float .f32 0, .float .f32 0, .float .f32 0, .float .f32 0, .int .i64 0, .float .f32 0, .float .f32 0, .float .f32 0, .float .f32 0, .float .f32 0, .float .f32 0]) (by simp)
    simp only [rowF] at h0
    omega
  clear ap F
  refine region_freeD (E := outX w.heap.size 31 15 (FinS (w.heap.size + 1) (fun u => #[u, .int .i64 0, .int .i64 (tkNS p x), .float .f32 (taNS p x), .float .f32 0, .float .f32 0, .float .f32 0, .float .f32 0, .int .i64 2, .float .f32 (fop .sub .f32 1065353216 x), .float .f32 x, .float .f32 0, .float .f32 0, .float .f32 0, .float .f32 l]) (fun _ => 0) (nNS p x)) (FinS_le _ _ _ _)) (fun _ _ _ v => v = .agg #[.int .i64 2, .float .f32 (fop .sub .f32 1065353216 x), .float .f32 x, .float .f32 0, .float .f32 0, .float .f32 0]) (by kernel_rfl) (by kernel_rfl) ?_
  refine wpFreeD_loadX (G.row m1) (by omega) rfl rfl rfl Try.underlying25 rfl infoRing rfl ?_
  simp only [Act.put, List.setIfInBounds_toArray, List.set_cons_succ, List.set_cons_zero]
  refine wpFreeD_loadX (G.row m0) (by omega) rfl rfl rfl Try.underlying29 rfl infoFil rfl ?_
  simp only [Act.put, List.setIfInBounds_toArray, List.set_cons_succ, List.set_cons_zero]
  refine wpFreeD_one rfl (.float .f32 x) (fun w1 _ => by kernel_rfl) ?_
  simp only [Act.put, List.setIfInBounds_toArray, List.set_cons_succ, List.set_cons_zero]
  refine wpFreeD_callB rfl rfl Try.func57 (by kernel_rfl) (by kernel_rfl) (args := #[.float .f32 x]) (by simp [Act.eval]) (fun v w1 w2 _ hv => hv) (fun w1 _ _ => (HO.out w1).mono ?_) ?_
  · rintro e w2 ⟨rfl, hl⟩
    exact ⟨_, rfl, hl, rfl⟩
  rintro v ⟨_, _, _, rfl⟩
  simp only [Act.put, List.setIfInBounds_toArray, List.set_cons_succ, List.set_cons_zero]
  refine wpFreeD_one rfl (.float .f32 l) (fun w1 _ => by kernel_rfl) ?_
  simp only [Act.put, List.setIfInBounds_toArray, List.set_cons_succ, List.set_cons_zero]
  refine wpFreeD_one rfl (.agg #[(.slice (some ⟨b, 0, none⟩) (nNS p x) (nNS p x)), .int .i64 0, .int .i64 (tkNS p x), .float .f32 (taNS p x), .float .f32 0, .float .f32 0, .float .f32 0, .float .f32 0, .int .i64 2, .float .f32 (fop .sub .f32 1065353216 x), .float .f32 x, .float .f32 0, .float .f32 0, .float .f32 0, .float .f32 l]) (fun w1 _ => by kernel_rfl) ?_
  simp only [Act.put, List.setIfInBounds_toArray, List.set_cons_succ, List.set_cons_zero]
  refine wpFreeD_out rfl rfl rfl (cells := #[(.slice (some ⟨b, 0, none⟩) (nNS p x) (nNS p x)), .int .i64 0, .int .i64 (tkNS p x), .float .f32 (taNS p x), .float .f32 0, .float .f32 0, .float .f32 0, .float .f32 0, .int .i64 2, .float .f32 (fop .sub .f32 1065353216 x), .float .f32 x, .float .f32 0, .float .f32 0, .float .f32 0, .float .f32 l]) rfl rfl (G.row m3) rfl (fun w1 w2 hw hb hch => ?_) infoStr rfl (by simp [Value.oneCell']) ?_
  · have O := G.facts _ Go.Fk.m2
    exact FinS_ch ⟨_, rfl, _, _, aw.out, Nat.le_trans O.2.1 hw.1.size, OwnS.chgS O.2.2 hw.1 (fun i a b e => by have e' : i = w.heap.size := e; have := aw.out; simp only [rowF, ownF] at this a b; omega)⟩ hch (by omega)
  simp only [Act.put, List.setIfInBounds_toArray, List.set_cons_succ, List.set_cons_zero]
  refine wpFreeD_one rfl (.int .i64 0) (fun w1 _ => by kernel_rfl) ?_
  simp only [Act.put, List.setIfInBounds_toArray, List.set_cons_succ, List.set_cons_zero]
  refine wpFreeD_nil (fun w7 hw7 hF => ?_)
  obtain ⟨cs, hrw, s', rfl, lo, hi, q1, q2, ho⟩ := (hF 6).1.2 rfl
  have hle : le w w7 := G.below.trans (hw7.1.below (B := w.heap.size) (fun k e => by have e' : k = w.heap.size := e; omega) G.size)
  go_wp2
  exact bodyPost_ret (results_row2 rfl _ _ _ _ _ rfl hrw Try.underlying31 rfl infoStr) rfl ⟨s', rfl, ho.mono (by omega) q2, hle⟩
set_option maxRecDepth 100000 in
set_option maxHeartbeats 4000000 in
theorem s_NewString_no (p x l : Nat) (w : World) (h : okNS p x l = false) :
    Calls Try.prog 15 #[.float .f32 p, .float .f32 x, .float .f32 l] w (Out_si (fun _ => 0) 0 0 0 0 0 0 0 0 0 0 0 0 0 0 0 2 w) := by
  unfold okNS withinB at h
  cases g1 : (FloatKind.f32.format.order p 1077936128 == some .gt || FloatKind.f32.format.order p 1077936128 == some .eq)
  · clear h
    have F := (Frg.nil w).box 31 #[.slice none 0 0, .int .i64 0, .int .i64 0, .float .f32 0, .float .f32 0, .float .f32 0, .float .f32 0, .float .f32 0, .int .i64 0, .float .f32 0, .float .f32 0, .float .f32 0, .float .f32 0, .float .f32 0, .float .f32 0]
    go_enter Try.func15, Try.ntmps15
    go_wp2_with (first | fail | ((with_reducible refine stop_store rfl ?_)))
    show wpList _ _ _ _ _ _
    refine wpList_storeD rfl rfl rfl (cells := #[.slice none 0 0, .int .i64 0, .int .i64 0, .float .f32 0, .float .f32 0, .float .f32 0, .float .f32 0, .float .f32 0, .int .i64 0, .float .f32 0, .float .f32 0, .float .f32 0, .float .f32 0, .float .f32 0, .float .f32 0]) rfl (F.row m0) infoStr rfl (by simp [Value.oneCell']) (fun w4 K => ?_)
    have R := hid K.row
    have L := hid (F.wr0 K).below
    clear K F
    go_wp2
    exact bodyPost_ret (results_row2 rfl _ _ _ _ _ rfl R.out Try.underlying31 rfl infoStr) rfl ⟨_, rfl, .inl ⟨rfl, rfl⟩, L.out⟩
  · skip
    cases g2 : (FloatKind.f32.format.order p 1149239296 == some .lt || FloatKind.f32.format.order p 1149239296 == some .eq)
    · clear h
      have F := (Frg.nil w).box 31 #[.slice none 0 0, .int .i64 0, .int .i64 0, .float .f32 0, .float .f32 0, .float .f32 0, .float .f32 0, .float .f32 0, .int .i64 0, .float .f32 0, .float .f32 0, .float .f32 0, .float .f32 0, .float .f32 0, .float .f32 0]
      go_enter Try.func15, Try.ntmps15
      go_wp2_with (first | fail | ((with_reducible refine stop_store rfl ?_)))
      show wpList _ _ _ _ _ _
      refine wpList_storeD rfl rfl rfl (cells := #[.slice none 0 0, .int .i64 0, .int .i64 0, .float .f32 0, .float .f32 0, .float .f32 0, .float .f32 0, .float .f32 0, .int .i64 0, .float .f32 0, .float .f32 0, .float .f32 0, .float .f32 0, .float .f32 0, .float .f32 0]) rfl (F.row m0) infoStr rfl (by simp [Value.oneCell']) (fun w4 K => ?_)
      have R := hid K.row
      have L := hid (F.wr0 K).below
      clear K F
      go_wp2
      exact bodyPost_ret (results_row2 rfl _ _ _ _ _ rfl R.out Try.underlying31 rfl infoStr) rfl ⟨_, rfl, .inl ⟨rfl, rfl⟩, L.out⟩
    · skip
      cases g3 : (FloatKind.f32.format.order x 0 == some .gt || FloatKind.f32.format.order x 0 == some .eq)
      · clear h
        have F := (Frg.nil w).box 31 #[.slice none 0 0, .int .i64 0, .int .i64 0, .float .f32 0, .float .f32 0, .float .f32 0, .float .f32 0, .float .f32 0, .int .i64 0, .float .f32 0, .float .f32 0, .float .f32 0, .float .f32 0, .float .f32 0, .float .f32 0]
        go_enter Try.func15, Try.ntmps15
        go_wp2_with (first | fail | ((with_reducible refine stop_store rfl ?_)))
        show wpList _ _ _ _ _ _
        refine wpList_storeD rfl rfl rfl (cells := #[.slice none 0 0, .int .i64 0, .int .i64 0, .float .f32 0, .float .f32 0, .float .f32 0, .float .f32 0, .float .f32 0, .int .i64 0, .float .f32 0, .float .f32 0, .float .f32 0, .float .f32 0, .float .f32 0, .float .f32 0]) rfl (F.row m0) infoStr rfl (by simp [Value.oneCell']) (fun w4 K => ?_)
        have R := hid K.row
        have L := hid (F.wr0 K).below
        clear K F
        go_wp2
        exact bodyPost_ret (results_row2 rfl _ _ _ _ _ rfl R.out Try.underlying31 rfl infoStr) rfl ⟨_, rfl, .inl ⟨rfl, rfl⟩, L.out⟩
      · skip
        cases g4 : (FloatKind.f32.format.order x 1056964608 == some .lt || FloatKind.f32.format.order x 1056964608 == some .eq)
        · clear h
          have F := (Frg.nil w).box 31 #[.slice none 0 0, .int .i64 0, .int .i64 0, .float .f32 0, .float .f32 0, .float .f32 0, .float .f32 0, .float .f32 0, .int .i64 0, .float .f32 0, .float .f32 0, .float .f32 0, .float .f32 0, .float .f32 0, .float .f32 0]
          go_enter Try.func15, Try.ntmps15
          go_wp2_with (first | fail | ((with_reducible refine stop_store rfl ?_)))
          show wpList _ _ _ _ _ _
          refine wpList_storeD rfl rfl rfl (cells := #[.slice none 0 0, .int .i64 0, .int .i64 0, .float .f32 0, .float .f32 0, .float .f32 0, .float .f32 0, .float .f32 0, .int .i64 0, .float .f32 0, .float .f32 0, .float .f32 0, .float .f32 0, .float .f32 0, .float .f32 0]) rfl (F.row m0) infoStr rfl (by simp [Value.oneCell']) (fun w4 K => ?_)
          have R := hid K.row
          have L := hid (F.wr0 K).below
          clear K F
          go_wp2
          exact bodyPost_ret (results_row2 rfl _ _ _ _ _ rfl R.out Try.underlying31 rfl infoStr) rfl ⟨_, rfl, .inl ⟨rfl, rfl⟩, L.out⟩
        · skip
          cases g5 : (FloatKind.f32.format.order l 0 == some .gt || FloatKind.f32.format.order l 0 == some .eq)
          · clear h
            have F := (Frg.nil w).box 31 #[.slice none 0 0, .int .i64 0, .int .i64 0, .float .f32 0, .float .f32 0, .float .f32 0, .float .f32 0, .float .f32 0, .int .i64 0, .float .f32 0, .float .f32 0, .float .f32 0, .float .f32 0, .float .f32 0, .float .f32 0]
            go_enter Try.func15, Try.ntmps15
            go_wp2_with (first | fail | ((with_reducible refine stop_store rfl ?_)))
            show wpList _ _ _ _ _ _
            refine wpList_storeD rfl rfl rfl (cells := #[.slice none 0 0, .int .i64 0, .int .i64 0, .float .f32 0, .float .f32 0, .float .f32 0, .float .f32 0, .float .f32 0, .int .i64 0, .float .f32 0, .float .f32 0, .float .f32 0, .float .f32 0, .float .f32 0, .float .f32 0]) rfl (F.row m0) infoStr rfl (by simp [Value.oneCell']) (fun w4 K => ?_)
            have R := hid K.row
            have L := hid (F.wr0 K).below
            clear K F
            go_wp2
            exact bodyPost_ret (results_row2 rfl _ _ _ _ _ rfl R.out Try.underlying31 rfl infoStr) rfl ⟨_, rfl, .inl ⟨rfl, rfl⟩, L.out⟩
          · skip
            have g6 : (FloatKind.f32.format.order l 1065353216 == some .lt || FloatKind.f32.format.order l 1065353216 == some .eq) = false := by rw [g1, g2, g3, g4, g5] at h; simpa using h
            clear h
            have F := (Frg.nil w).box 31 #[.slice none 0 0, .int .i64 0, .int .i64 0, .float .f32 0, .float .f32 0, .float .f32 0, .float .f32 0, .float .f32 0, .int .i64 0, .float .f32 0, .float .f32 0, .float .f32 0, .float .f32 0, .float .f32 0, .float .f32 0]
            go_enter Try.func15, Try.ntmps15
            go_wp2_with (first | fail | ((with_reducible refine stop_store rfl ?_)))
            show wpList _ _ _ _ _ _
            refine wpList_storeD rfl rfl rfl (cells := #[.slice none 0 0, .int .i64 0, .int .i64 0, .float .f32 0, .float .f32 0, .float .f32 0, .float .f32 0, .float .f32 0, .int .i64 0, .float .f32 0, .float .f32 0, .float .f32 0, .float .f32 0, .float .f32 0, .float .f32 0]) rfl (F.row m0) infoStr rfl (by simp [Value.oneCell']) (fun w4 K => ?_)
            have R := hid K.row
            have L := hid (F.wr0 K).below
            clear K F
            go_wp2
            exact bodyPost_ret (results_row2 rfl _ _ _ _ _ rfl R.out Try.underlying31 rfl infoStr) rfl ⟨_, rfl, .inl ⟨rfl, rfl⟩, L.out⟩
set_option maxRecDepth 100000 in
set_option maxHeartbeats 4000000 in
theorem s_NewString_yes (p x l : Nat) (w : World) (h : okNS p x l = true) :
    Calls Try.prog 15 #[.float .f32 p, .float .f32 x, .float .f32 l] w (Out_si (fun _ => 0) (nNS p x) 0 (tkNS p x) (taNS p x) 0 0 0 0 2 (fop .sub .f32 1065353216 x) x 0 0 0 l 0 w) := by
  unfold okNS at h
  rw [Bool.and_eq_true, Bool.and_eq_true] at h
  obtain ⟨h1, h2, h3⟩ := h
  obtain ⟨b1, b2⟩ := nNS_in h1 h2
  obtain ⟨_, _, hi, _, k2⟩ := period_int h1 h2 (can_fop _ _ _ _ : can .f32 (fop .sub .f32 p x) = fop .sub .f32 p x)
  have HN : Hid (nNS p x = if (FloatKind.f32.format.order (shareW (fop .sub .f32 p x)) 1048576000 == some .lt) = true then wholeW (fop .sub .f32 p x) - 1 else wholeW (fop .sub .f32 p x)) := rfl
  have HFR : Hid (frNS p x = fop .sub .f32 (fop .sub .f32 p x) (floatOfInt .f32 (nNS p x : Int))) := rfl
  have HS : Hid (shareW (fop .sub .f32 p x) = fop .sub .f32 (fop .sub .f32 p x) (floatOfInt .f32 (wholeW (fop .sub .f32 p x) : Int))) := rfl
  have HD := hid (fun (d : Nat) (hd : Hid (can .f32 d = fop .sub .f32 p x)) => (period_int h1 h2 hd.out).1)
  have HI := hid (toI64 hi)
  have HA := hid (fun w r hr => s_AllNS p x r hr w)
  have HO := hid (fun w => s_OneNS x h2 w)
  have HM := hid (fun w => makeF (nNS p x) (by omega) w)
  have w1 : (FloatKind.f32.format.order p 1077936128 == some .gt || FloatKind.f32.format.order p 1077936128 == some .eq) = true ∧ (FloatKind.f32.format.order p 1149239296 == some .lt || FloatKind.f32.format.order p 1149239296 == some .eq) = true := Bool.and_eq_true_iff.1 h1
  have w2 : (FloatKind.f32.format.order x 0 == some .gt || FloatKind.f32.format.order x 0 == some .eq) = true ∧ (FloatKind.f32.format.order x 1056964608 == some .lt || FloatKind.f32.format.order x 1056964608 == some .eq) = true := Bool.and_eq_true_iff.1 h2
  have w3 : (FloatKind.f32.format.order l 0 == some .gt || FloatKind.f32.format.order l 0 == some .eq) = true ∧ (FloatKind.f32.format.order l 1065353216 == some .lt || FloatKind.f32.format.order l 1065353216 == some .eq) = true := Bool.and_eq_true_iff.1 h3
  obtain ⟨v1, v2⟩ := w1
  obtain ⟨v3, v4⟩ := w2
  obtain ⟨v5, v6⟩ := w3
  clear hi h1 h2 h3
  generalize nNS p x = n at *
  generalize frNS p x = fr at *
  generalize shareW (fop .sub .f32 p x) = sh at *
  generalize wholeW (fop .sub .f32 p x) = k at *
  have HC := hid (fun (q : Nat) (hq : Hid (can .f32 q = fop .sub .f32 (fop .sub .f32 p x) (floatOfInt .f32 (k : Int)))) => (show FloatKind.f32.format.order q 1048576000 = FloatKind.f32.format.order sh 1048576000 by rw [HS.out, ← hq.out, order_can_l]))
  have F := (Frg.nil w).box 31 #[.slice none 0 0, .int .i64 0, .int .i64 0, .float .f32 0, .float .f32 0, .float .f32 0, .float .f32 0, .float .f32 0, .int .i64 0, .float .f32 0, .float .f32 0, .float .f32 0, .float .f32 0, .float .f32 0, .float .f32 0]
  cases hb : (FloatKind.f32.format.order sh 1048576000 == some .lt)
  · have hn : n = k := by rw [HN.out, hb]; rfl
    subst hn
    have HB := hid hb
    have HCC := HC
    clear hb HC
    go_enter Try.func15, Try.ntmps15
    go_wp2_with (first | (with_reducible refine wpList_toInt rfl rfl rfl HI.out ?_) | (with_reducible refine wpList_farith (op := .sub) rfl rfl rfl rfl rfl ?_; intro d n1' hd fd; first | (rw [HD.out d hd]; clear HD; replace F := F.drewN n1'; (try simp only [World.drewN_drewN] at F)) | (have hcq : (FloatKind.f32.format.order d 1048576000 == some .lt) = false := (congrArg (· == some .lt) (HCC.out d hd)).trans HB.out; clear HCC; replace F := F.drewN n1'; (try simp only [World.drewN_drewN] at F)) | (have hfr := hid (hd.out.trans HFR.out.symm); replace F := F.drewN n1'; (try simp only [World.drewN_drewN] at F))) | (go_at_call 51; ((with_reducible refine (HA.out _ _ hfr.out).mono ?_); rintro e w4 ⟨c, rfl, hl4⟩; replace F := F.le hl4; clear hl4)) | (refine wpList_storeG F rfl rfl rfl rfl rfl infoFil rfl (by simp [Value.oneCell']) ?_; clear F; intro W6 F zW; clear zW))
    have G := F.drewN 1
    have hz := hid ((F.drewN 1).facts (rowF w.heap.size 31 #[.slice none 0 0, .int .i64 0, .int .i64 0, .float .f32 0, .float .f32 0, .float .f32 0, .float .f32 0, .float .f32 0, .int .i64 0, .float .f32 0, .float .f32 0, .float .f32 0, .float .f32 0, .float .f32 0, .float .f32 0]) m1).2.1
    have g4 : w.heap.size < w4.heap.size := by
      have h0 := (List.pairwise_cons.1 G.apart).1 (rowF w.heap.size 31 #[.slice none 0 0, .int .i64 0, .int .i64 0, .float .f32 0, .float .f32 0, .float .f32 0, .float .f32 0, .float .f32 0, .int .i64 0, .float .f32 0, .float .f32 0, .float .f32 0, .float .f32 0, .float .f32 0, .float .f32 0]) (by simp)
      simp only [rowF] at h0
      omega
    clear F
    refine region_freeD (E := outX w.heap.size 31 15 (FinS (w.heap.size + 1) (fun u => #[u, .int .i64 0, .int .i64 (tkNS p x), .float .f32 (taNS p x), .float .f32 0, .float .f32 0, .float .f32 0, .float .f32 0, .int .i64 2, .float .f32 (fop .sub .f32 1065353216 x), .float .f32 x, .float .f32 0, .float .f32 0, .float .f32 0, .float .f32 l]) (fun _ => 0) n) (FinS_le _ _ _ _)) (fun _ _ _ v => v = .agg #[.int .i64 2, .float .f32 (fop .sub .f32 1065353216 x), .float .f32 x, .float .f32 0, .float .f32 0, .float .f32 0]) (by kernel_rfl) (by kernel_rfl) ?_
    refine wpFreeD_one rfl (.int .i64 (n : Nat)) (fun w1 _ => by kernel_rfl) ?_
    simp only [Act.put, List.setIfInBounds_toArray, List.set_cons_succ, List.set_cons_zero]
    refine wpFreeD_made hz.out rfl (fun b => .slice (some ⟨b, 0, none⟩) n n) 22 (ftab .f32 (fun _ => 0) n) (fun w1 => by simp [execOp, Act.eval, HM.out, Result.andThen]) (fun b => ?_)
    simp only [Act.put, List.setIfInBounds_toArray, List.set_cons_succ, List.set_cons_zero]
    refine wpFreeD_carry rfl (.agg #[.slice (some ⟨b, 0, none⟩) n n, .int .i64 0]) (fun w1 _ => by kernel_rfl) (fun w1 => w.heap.size + 1 ≤ b ∧ Row w1 b 22 (ftab .f32 (fun _ => 0) n)) (fun w1 w2 hw hv => ⟨hv.1, hw.1.row hv.2 (fun e => by have e' : b = w.heap.size := e; omega)⟩) (fun w1 hw hb => by
      obtain ⟨b', e, h1, h2⟩ := (hb ⟨1, Ground.data⟩ (by simp) (by kernel_rfl)).2 rfl
      obtain rfl : b = b' := by simpa using e
      exact ⟨Nat.le_trans hz.out h1, h2⟩) ?_
    simp only [Act.put, List.setIfInBounds_toArray, List.set_cons_succ, List.set_cons_zero]
    refine wpFreeD_loadX (G.row m0) (by omega) rfl rfl rfl Try.underlying29 rfl infoFil rfl ?_
    simp only [Act.put, List.setIfInBounds_toArray, List.set_cons_succ, List.set_cons_zero]
    refine wpFreeD_one rfl (.float .f32 x) (fun w1 _ => by kernel_rfl) ?_
    simp only [Act.put, List.setIfInBounds_toArray, List.set_cons_succ, List.set_cons_zero]
    refine wpFreeD_callB rfl rfl Try.func52 (by kernel_rfl) (by kernel_rfl) (args := #[.float .f32 x]) (by simp [Act.eval]) (fun v w1 w2 _ hv => hv) (fun w1 _ _ => (HO.out w1).mono ?_) ?_
    · rintro e w2 ⟨rfl, hl⟩
      exact ⟨_, rfl, hl, rfl⟩
    rintro v ⟨_, _, _, rfl⟩
    simp only [Act.put, List.setIfInBounds_toArray, List.set_cons_succ, List.set_cons_zero]
    refine wpFreeD_one rfl (.float .f32 l) (fun w1 _ => by kernel_rfl) ?_
    simp only [Act.put, List.setIfInBounds_toArray, List.set_cons_succ, List.set_cons_zero]
    refine wpFreeD_carry rfl (.agg #[(.slice (some ⟨b, 0, none⟩) n n), .int .i64 0, .int .i64 (tkNS p x), .float .f32 (taNS p x), .float .f32 0, .float .f32 0, .float .f32 0, .float .f32 0, .int .i64 2, .float .f32 (fop .sub .f32 1065353216 x), .float .f32 x, .float .f32 0, .float .f32 0, .float .f32 0, .float .f32 l]) (fun w1 _ => by kernel_rfl) (fun w1 => w.heap.size + 1 ≤ b ∧ Row w1 b 22 (ftab .f32 (fun _ => 0) n)) (fun w1 w2 hw hv => ⟨hv.1, hw.1.row hv.2 (fun e => by have e' : b = w.heap.size := e; omega)⟩) (fun w1 hw hb => (hb ⟨2, Ground.data⟩ (by simp) (by kernel_rfl)).1.1.1.1.2 rfl) ?_
    simp only [Act.put, List.setIfInBounds_toArray, List.set_cons_succ, List.set_cons_zero]
    refine wpFreeD_out rfl rfl rfl (cells := #[(.slice (some ⟨b, 0, none⟩) n n), .int .i64 0, .int .i64 (tkNS p x), .float .f32 (taNS p x), .float .f32 0, .float .f32 0, .float .f32 0, .float .f32 0, .int .i64 2, .float .f32 (fop .sub .f32 1065353216 x), .float .f32 x, .float .f32 0, .float .f32 0, .float .f32 0, .float .f32 l]) rfl rfl (G.row m1) rfl (fun w1 w2 hw hb hch => ?_) infoStr rfl (by simp [Value.oneCell']) ?_
    · obtain ⟨q1, q2⟩ := (hb ⟨7, Ground.data⟩ (by simp) (by kernel_rfl)).2 rfl
      exact FinS_ch ⟨_, rfl, w.heap.size + 1, w1.heap.size, Nat.le_refl _, Nat.le_refl _, .inr ⟨b, 0, n, _, _, rfl, Nat.le_refl _, by unfold maxLen; omega, q1, q2.lt, q2, fun i hi => ⟨0, by rw [Nat.zero_add]; exact get_ftab .f32 (fun _ => 0) n i hi, fits_zero, show can .f32 0 = 0 by decide⟩⟩⟩ hch (by omega)
    simp only [Act.put, List.setIfInBounds_toArray, List.set_cons_succ, List.set_cons_zero]
    refine wpFreeD_one rfl (.int .i64 0) (fun w1 _ => by kernel_rfl) ?_
    simp only [Act.put, List.setIfInBounds_toArray, List.set_cons_succ, List.set_cons_zero]
    refine wpFreeD_nil (fun w7 hw7 hF => ?_)
    obtain ⟨cs, hrw, s', rfl, lo, hi, q1, q2, ho⟩ := (hF 8).1.2 rfl
    have hle : le w w7 := G.below.trans (hw7.1.below (B := w.heap.size) (fun k e => by have e' : k = w.heap.size := e; omega) G.size)
    go_wp2
    exact bodyPost_ret (results_row2 rfl _ _ _ _ _ rfl hrw Try.underlying31 rfl infoStr) rfl ⟨s', rfl, ho.mono (by omega) q2, hle⟩
  · obtain ⟨k', rfl⟩ : ∃ k', k = k' + 1 := ⟨k - 1, by have := HN.out; rw [hb] at this; simp at this; omega⟩
    have hn : n = k' := by rw [HN.out, hb]; rfl
    subst hn
    have HCC := hid (fun (q : Nat) (hq : Hid (can .f32 q = fop .sub .f32 (fop .sub .f32 p x) (floatOfInt .f32 ((n : Int) + 1)))) => HC.out q (show Hid (can .f32 q = fop .sub .f32 (fop .sub .f32 p x) (floatOfInt .f32 ((n + 1 : Nat) : Int))) from by rw [Int.natCast_add]; exact hq))
    have HB := hid hb
    clear hb HC
    go_enter Try.func15, Try.ntmps15
    go_wp2_with (first | (with_reducible refine wpList_toInt rfl rfl rfl HI.out ?_) | (with_reducible refine wpList_farith (op := .sub) rfl rfl rfl rfl rfl ?_; intro d n1' hd fd; first | (rw [HD.out d hd]; clear HD; replace F := F.drewN n1'; (try simp only [World.drewN_drewN] at F)) | (have hcq : (FloatKind.f32.format.order d 1048576000 == some .lt) = true := (congrArg (· == some .lt) (HCC.out d hd)).trans HB.out; clear HCC; replace F := F.drewN n1'; (try simp only [World.drewN_drewN] at F)) | (have hfr := hid (hd.out.trans HFR.out.symm); replace F := F.drewN n1'; (try simp only [World.drewN_drewN] at F))) | (go_at_call 51; ((with_reducible refine (HA.out _ _ hfr.out).mono ?_); rintro e w4 ⟨c, rfl, hl4⟩; replace F := F.le hl4; clear hl4)) | (refine wpList_storeG F rfl rfl rfl rfl rfl infoFil rfl (by simp [Value.oneCell']) ?_; clear F; intro W6 F zW; clear zW))
    have G := F.drewN 1
    have hz := hid ((F.drewN 1).facts (rowF w.heap.size 31 #[.slice none 0 0, .int .i64 0, .int .i64 0, .float .f32 0, .float .f32 0, .float .f32 0, .float .f32 0, .float .f32 0, .int .i64 0, .float .f32 0, .float .f32 0, .float .f32 0, .float .f32 0, .float .f32 0, .float .f32 0]) m1).2.1
    have g4 : w.heap.size < w4.heap.size := by
      have h0 := (List.pairwise_cons.1 G.apart).1 (rowF w.heap.size 31 #[.slice none 0 0, .int .i64 0, .int .i64 0, .float .f32 0, .float .f32 0, .float .f32 0, .float .f32 0, .float .f32 0, .int .i64 0, .float .f32 0, .float .f32 0, .float .f32 0, .float .f32 0, .float .f32 0, .float .f32 0]) (by simp)
      simp only [rowF] at h0
      omega
    clear F
    refine region_freeD (E := outX w.heap.size 31 15 (FinS (w.heap.size + 1) (fun u => #[u, .int .i64 0, .int .i64 (tkNS p x), .float .f32 (taNS p x), .float .f32 0, .float .f32 0, .float .f32 0, .float .f32 0, .int .i64 2, .float .f32 (fop .sub .f32 1065353216 x), .float .f32 x, .float .f32 0, .float .f32 0, .float .f32 0, .float .f32 l]) (fun _ => 0) n) (FinS_le _ _ _ _)) (fun _ _ _ v => v = .agg #[.int .i64 2, .float .f32 (fop .sub .f32 1065353216 x), .float .f32 x, .float .f32 0, .float .f32 0, .float .f32 0]) (by kernel_rfl) (by kernel_rfl) ?_
    refine wpFreeD_one rfl (.int .i64 (n : Nat)) (fun w1 _ => by kernel_rfl) ?_
    simp only [Act.put, List.setIfInBounds_toArray, List.set_cons_succ, List.set_cons_zero]
    refine wpFreeD_made hz.out rfl (fun b => .slice (some ⟨b, 0, none⟩) n n) 22 (ftab .f32 (fun _ => 0) n) (fun w1 => by simp [execOp, Act.eval, HM.out, Result.andThen]) (fun b => ?_)
    simp only [Act.put, List.setIfInBounds_toArray, List.set_cons_succ, List.set_cons_zero]
    refine wpFreeD_carry rfl (.agg #[.slice (some ⟨b, 0, none⟩) n n, .int .i64 0]) (fun w1 _ => by kernel_rfl) (fun w1 => w.heap.size + 1 ≤ b ∧ Row w1 b 22 (ftab .f32 (fun _ => 0) n)) (fun w1 w2 hw hv => ⟨hv.1, hw.1.row hv.2 (fun e => by have e' : b = w.heap.size := e; omega)⟩) (fun w1 hw hb => by
      obtain ⟨b', e, h1, h2⟩ := (hb ⟨1, Ground.data⟩ (by simp) (by kernel_rfl)).2 rfl
      obtain rfl : b = b' := by simpa using e
      exact ⟨Nat.le_trans hz.out h1, h2⟩) ?_
    simp only [Act.put, List.setIfInBounds_toArray, List.set_cons_succ, List.set_cons_zero]
    refine wpFreeD_loadX (G.row m0) (by omega) rfl rfl rfl Try.underlying29 rfl infoFil rfl ?_
    simp only [Act.put, List.setIfInBounds_toArray, List.set_cons_succ, List.set_cons_zero]
    refine wpFreeD_one rfl (.float .f32 x) (fun w1 _ => by kernel_rfl) ?_
    simp only [Act.put, List.setIfInBounds_toArray, List.set_cons_succ, List.set_cons_zero]
    refine wpFreeD_callB rfl rfl Try.func52 (by kernel_rfl) (by kernel_rfl) (args := #[.float .f32 x]) (by simp [Act.eval]) (fun v w1 w2 _ hv => hv) (fun w1 _ _ => (HO.out w1).mono ?_) ?_
    · rintro e w2 ⟨rfl, hl⟩
      exact ⟨_, rfl, hl, rfl⟩
    rintro v ⟨_, _, _, rfl⟩
    simp only [Act.put, List.setIfInBounds_toArray, List.set_cons_succ, List.set_cons_zero]
    refine wpFreeD_one rfl (.float .f32 l) (fun w1 _ => by kernel_rfl) ?_
    simp only [Act.put, List.setIfInBounds_toArray, List.set_cons_succ, List.set_cons_zero]
    refine wpFreeD_carry rfl (.agg #[(.slice (some ⟨b, 0, none⟩) n n), .int .i64 0, .int .i64 (tkNS p x), .float .f32 (taNS p x), .float .f32 0, .float .f32 0, .float .f32 0, .float .f32 0, .int .i64 2, .float .f32 (fop .sub .f32 1065353216 x), .float .f32 x, .float .f32 0, .float .f32 0, .float .f32 0, .float .f32 l]) (fun w1 _ => by kernel_rfl) (fun w1 => w.heap.size + 1 ≤ b ∧ Row w1 b 22 (ftab .f32 (fun _ => 0) n)) (fun w1 w2 hw hv => ⟨hv.1, hw.1.row hv.2 (fun e => by have e' : b = w.heap.size := e; omega)⟩) (fun w1 hw hb => (hb ⟨2, Ground.data⟩ (by simp) (by kernel_rfl)).1.1.1.1.2 rfl) ?_
    simp only [Act.put, List.setIfInBounds_toArray, List.set_cons_succ, List.set_cons_zero]
    refine wpFreeD_out rfl rfl rfl (cells := #[(.slice (some ⟨b, 0, none⟩) n n), .int .i64 0, .int .i64 (tkNS p x), .float .f32 (taNS p x), .float .f32 0, .float .f32 0, .float .f32 0, .float .f32 0, .int .i64 2, .float .f32 (fop .sub .f32 1065353216 x), .float .f32 x, .float .f32 0, .float .f32 0, .float .f32 0, .float .f32 l]) rfl rfl (G.row m1) rfl (fun w1 w2 hw hb hch => ?_) infoStr rfl (by simp [Value.oneCell']) ?_
    · obtain ⟨q1, q2⟩ := (hb ⟨7, Ground.data⟩ (by simp) (by kernel_rfl)).2 rfl
      exact FinS_ch ⟨_, rfl, w.heap.size + 1, w1.heap.size, Nat.le_refl _, Nat.le_refl _, .inr ⟨b, 0, n, _, _, rfl, Nat.le_refl _, by unfold maxLen; omega, q1, q2.lt, q2, fun i hi => ⟨0, by rw [Nat.zero_add]; exact get_ftab .f32 (fun _ => 0) n i hi, fits_zero, show can .f32 0 = 0 by decide⟩⟩⟩ hch (by omega)
    simp only [Act.put, List.setIfInBounds_toArray, List.set_cons_succ, List.set_cons_zero]
    refine wpFreeD_one rfl (.int .i64 0) (fun w1 _ => by kernel_rfl) ?_
    simp only [Act.put, List.setIfInBounds_toArray, List.set_cons_succ, List.set_cons_zero]
    refine wpFreeD_nil (fun w7 hw7 hF => ?_)
    obtain ⟨cs, hrw, s', rfl, lo, hi, q1, q2, ho⟩ := (hF 8).1.2 rfl
    have hle : le w w7 := G.below.trans (hw7.1.below (B := w.heap.size) (fun k e => by have e' : k = w.heap.size := e; omega) G.size)
    go_wp2
    exact bodyPost_ret (results_row2 rfl _ _ _ _ _ rfl hrw Try.underlying31 rfl infoStr) rfl ⟨s', rfl, ho.mono (by omega) q2, hle⟩
theorem both_NewString (p x l : Nat) : ∃ (xr0 : Nat → Nat) (nr0 : Nat) (kr0 tkr0 : Int) (tar0 tbr0 tcr0 txr0 tyr0 : Nat) (dkr0 : Int) (dar0 dbr0 dcr0 dxr0 dyr0 lr0 : Nat) (ar1 : Int), nr0 ≤ 1048576 ∧ (∀ (w : World), Calls Try.prog 15 #[.float .f32 p, .float .f32 x, .float .f32 l] w (Out_si xr0 nr0 kr0 tkr0 tar0 tbr0 tcr0 txr0 tyr0 dkr0 dar0 dbr0 dcr0 dxr0 dyr0 lr0 ar1 w)) ∧ (∀ (w : World), Calls Try.prog 16 #[.float .f32 p, .float .f32 x, .float .f32 l] w (Out_si xr0 nr0 kr0 tkr0 tar0 tbr0 tcr0 txr0 tyr0 dkr0 dar0 dbr0 dcr0 dxr0 dyr0 lr0 ar1 w)) := by
  cases h : okNS p x l
  · exact ⟨(fun _ => 0), 0, 0, 0, 0, 0, 0, 0, 0, 0, 0, 0, 0, 0, 0, 0, 2, by omega, fun w => s_NewString_no p x l w h, fun w => i_NewString_no p x l w h⟩
  · refine ⟨_, _, _, _, _, _, _, _, _, _, _, _, _, _, _, _, _, ?_, fun w => s_NewString_yes p x l w h, fun w => i_NewString_yes p x l w h⟩
    unfold okNS at h
    rw [Bool.and_eq_true, Bool.and_eq_true] at h
    exact Nat.le_trans (nNS_in h.1 h.2.1).2 (by decide)
end Go.Proofs.Ytaenbpkcehenkac

/- The walk of 'FnExactNewString'. -/
namespace Go.Proofs.Ytaenbpkcehenkac.fnExactNewString
open Go.RowKit Go.Fk
set_option maxRecDepth 100000 in
set_option maxHeartbeats 4000000 in
theorem core (a0 : Nat) (a1 : Nat) (a2 : Nat) (xr0 : Nat → Nat) (nr0 : Nat) (kr0 : Int) (tkr0 : Int) (tar0 : Nat) (tbr0 : Nat) (tcr0 : Nat) (txr0 : Nat) (tyr0 : Nat) (dkr0 : Int) (dar0 : Nat) (dbr0 : Nat) (dcr0 : Nat) (dxr0 : Nat) (dyr0 : Nat) (lr0 : Nat) (ar1 : Int) (w : World)  (hr0 : nr0 ≤ 1048576)
    (hS : ∀ (w : World), Calls Try.prog 15 #[.float .f32 a0, .float .f32 a1, .float .f32 a2] w (Out_si xr0 nr0 kr0 tkr0 tar0 tbr0 tcr0 txr0 tyr0 dkr0 dar0 dbr0 dcr0 dxr0 dyr0 lr0 ar1 w))
    (hI : ∀ (w : World), Calls Try.prog 16 #[.float .f32 a0, .float .f32 a1, .float .f32 a2] w (Out_si xr0 nr0 kr0 tkr0 tar0 tbr0 tcr0 txr0 tyr0 dkr0 dar0 dbr0 dcr0 dxr0 dyr0 lr0 ar1 w)) :
    Calls Try.prog 3 #[.float .f32 a0, .float .f32 a1, .float .f32 a2] w fun e w' => e = .returned (.bool true) ∧ Below w.heap.size w w' := by
  have HS := hid hS; have HI := hid hI; clear hS hI
  have F := Frg.nil w
  go_enter Try.func3, Try.ntmps3
  go_wp2_with (first | (((with_reducible refine listN F ?_); clear F; intro wN F)) | ((with_reducible refine at_loadU rfl rfl ?_); first | (with_reducible refine wpList_loadG F rfl rfl rfl (by first | exact m0 | exact m1 | exact m2 | exact m3 | exact m4 | exact m5 | exact m6 | exact m7 | exact m8) Try.underlying31 rfl infoStr (by first | rfl | simp [size_ftab]) ?_)) | ((with_reducible refine at_loadV rfl rfl ?_); first | (with_reducible refine wpList_loadGG F rfl rfl (by first | exact m0 | exact m1 | exact m2 | exact m3 | exact m4 | exact m5 | exact m6 | exact m7 | exact m8) Try.underlying31 rfl infoStr (by first | rfl | simp [size_ftab]) (by kernel_rfl) ?_)))
  first | ((with_reducible refine callAt0 F ?_); clear F; intro wN F) | ((with_reducible refine callAtN F ?_); clear F; intro wN F)
  refine (HS.out _  ).mono ?_
  rintro e wS ⟨vS0, rfl, oS0, hlS⟩
  have oc := hid (OwnS.one oS0); (first | replace F := F.own1 hlS oS0); clear hlS oS0
  go_wp2_with (first | (((with_reducible refine listN F ?_); clear F; intro wN F)) | ((with_reducible refine at_store rfl ?_); first | (refine wpList_storeG F rfl rfl rfl rfl rfl infoStr rfl (by first | exact one_head (Hid.out (by assumption)) rfl | (simp [Value.oneCell']; done)) ?_; clear F; intro W F zW; clear zW)) | ((with_reducible refine at_loadU rfl rfl ?_); first | (with_reducible refine wpList_loadG F rfl rfl rfl (by first | exact m0 | exact m1 | exact m2 | exact m3 | exact m4 | exact m5 | exact m6 | exact m7 | exact m8) Try.underlying31 rfl infoStr (by first | rfl | simp [size_ftab]) ?_)) | ((with_reducible refine at_loadV rfl rfl ?_); first | (with_reducible refine wpList_loadGG F rfl rfl (by first | exact m0 | exact m1 | exact m2 | exact m3 | exact m4 | exact m5 | exact m6 | exact m7 | exact m8) Try.underlying31 rfl infoStr (by first | rfl | simp [size_ftab]) (by kernel_rfl) ?_)))
  first | ((with_reducible refine callAt0 F ?_); clear F; intro wN F) | ((with_reducible refine callAtN F ?_); clear F; intro wN F)
  refine (HI.out _  ).mono ?_
  rintro e wI ⟨vI0, rfl, oI0, hlI⟩
  have oc := hid (OwnS.one oI0); (first | replace F := F.own1 hlI oI0); clear hlI oI0
  go_wp2_with (first | (((with_reducible refine listN F ?_); clear F; intro wN F)) | ((with_reducible refine at_store rfl ?_); first | (refine wpList_storeG F rfl rfl rfl rfl rfl infoStr rfl (by first | exact one_head (Hid.out (by assumption)) rfl | (simp [Value.oneCell']; done)) ?_; clear F; intro W F zW; clear zW)) | ((with_reducible refine at_loadU rfl rfl ?_); first | (with_reducible refine wpList_loadG F rfl rfl rfl (by first | exact m0 | exact m1 | exact m2 | exact m3 | exact m4 | exact m5 | exact m6 | exact m7 | exact m8) Try.underlying31 rfl infoStr (by first | rfl | simp [size_ftab]) ?_)) | ((with_reducible refine at_loadV rfl rfl ?_); first | (with_reducible refine wpList_loadGG F rfl rfl (by first | exact m0 | exact m1 | exact m2 | exact m3 | exact m4 | exact m5 | exact m6 | exact m7 | exact m8) Try.underlying31 rfl infoStr (by first | rfl | simp [size_ftab]) (by kernel_rfl) ?_)) | (go_at_call 17; ((with_reducible refine (eqStringR _ _ _ _ xr0 nr0 kr0 tkr0 tar0 tbr0 tcr0 txr0 tyr0 dkr0 dar0 dbr0 dcr0 dxr0 dyr0 lr0 _ hr0 (by first | exact (F.own (by first | exact m0 | exact m1 | exact m2 | exact m3 | exact m4 | exact m5 | exact m6 | exact m7 | exact m8)).rd) (by first | exact (F.own (by first | exact m0 | exact m1 | exact m2 | exact m3 | exact m4 | exact m5 | exact m6 | exact m7 | exact m8)).rd)).mono ?_); rintro e w7 ⟨rfl, hb7⟩; (replace F := F.le hb7))))
  go_wp2_with (first | (((with_reducible refine listN F ?_); clear F; intro wN F)) | ((with_reducible refine at_store rfl ?_); first | (refine wpList_storeG F rfl rfl rfl rfl rfl infoStr rfl (by first | exact one_head (Hid.out (by assumption)) rfl | (simp [Value.oneCell']; done)) ?_; clear F; intro W F zW; clear zW)) | ((with_reducible refine at_loadU rfl rfl ?_); first | (with_reducible refine wpList_loadG F rfl rfl rfl (by first | exact m0 | exact m1 | exact m2 | exact m3 | exact m4 | exact m5 | exact m6 | exact m7 | exact m8) Try.underlying31 rfl infoStr (by first | rfl | simp [size_ftab]) ?_)) | ((with_reducible refine at_loadV rfl rfl ?_); first | (with_reducible refine wpList_loadGG F rfl rfl (by first | exact m0 | exact m1 | exact m2 | exact m3 | exact m4 | exact m5 | exact m6 | exact m7 | exact m8) Try.underlying31 rfl infoStr (by first | rfl | simp [size_ftab]) (by kernel_rfl) ?_)) | (go_at_call 17; ((with_reducible refine (eqStringR _ _ _ _ xr0 nr0 kr0 tkr0 tar0 tbr0 tcr0 txr0 tyr0 dkr0 dar0 dbr0 dcr0 dxr0 dyr0 lr0 _ hr0 (by first | exact (F.own (by first | exact m0 | exact m1 | exact m2 | exact m3 | exact m4 | exact m5 | exact m6 | exact m7 | exact m8)).rd) (by first | exact (F.own (by first | exact m0 | exact m1 | exact m2 | exact m3 | exact m4 | exact m5 | exact m6 | exact m7 | exact m8)).rd)).mono ?_); rintro e w7 ⟨rfl, hb7⟩; (replace F := F.le hb7))))
  first | ((with_reducible refine callAt0 F ?_); clear F; intro wN F) | ((with_reducible refine callAtN F ?_); clear F; intro wN F)
  refine (markStringR _ _ _ xr0 nr0 kr0 tkr0 tar0 tbr0 tcr0 txr0 tyr0 dkr0 dar0 dbr0 dcr0 dxr0 dyr0 lr0 1 _ hr0 (by omega) (by omega) (F.own (by first | exact m0 | exact m1 | exact m2 | exact m3 | exact m4 | exact m5 | exact m6 | exact m7 | exact m8))).mono ?_
  rintro e w5 ⟨rfl, hR, hU⟩
  (first | replace F := F.mark0 hR hU | replace F := F.mark1 hR hU | replace F := F.mark2 hR hU | replace F := F.mark3 hR hU | replace F := F.mark4 hR hU | replace F := F.mark5 hR hU | replace F := F.mark6 hR hU | replace F := F.mark7 hR hU | replace F := F.mark8 hR hU | replace F := F.mark9 hR hU); clear hR hU
  go_wp2_with (first | (((with_reducible refine listN F ?_); clear F; intro wN F)) | ((with_reducible refine at_loadU rfl rfl ?_); first | (with_reducible refine wpList_loadG F rfl rfl rfl (by first | exact m0 | exact m1 | exact m2 | exact m3 | exact m4 | exact m5 | exact m6 | exact m7 | exact m8) Try.underlying31 rfl infoStr (by first | rfl | simp [size_ftab]) ?_)) | ((with_reducible refine at_loadV rfl rfl ?_); first | (with_reducible refine wpList_loadGG F rfl rfl (by first | exact m0 | exact m1 | exact m2 | exact m3 | exact m4 | exact m5 | exact m6 | exact m7 | exact m8) Try.underlying31 rfl infoStr (by first | rfl | simp [size_ftab]) (by kernel_rfl) ?_)) | (go_at_call 19; ((with_reducible refine (heldStringR _ _ nr0 kr0 tkr0 tar0 tbr0 tcr0 txr0 tyr0 dkr0 dar0 dbr0 dcr0 dxr0 dyr0 lr0 1 _ hr0 (by omega) (by omega) (F.own (by first | exact m0 | exact m1 | exact m2 | exact m3 | exact m4 | exact m5 | exact m6 | exact m7 | exact m8)).rd).mono ?_); rintro e w6 ⟨rfl, hb6⟩; (replace F := F.le hb6))))
  first | ((with_reducible refine callAt0 F ?_); clear F; intro wN F) | ((with_reducible refine callAtN F ?_); clear F; intro wN F)
  refine (HI.out _  ).mono ?_
  rintro e wH ⟨vH0, rfl, oH0, hlH⟩
  have oc := hid (OwnS.one oH0); (first | replace F := F.own1 hlH oH0); clear hlH oH0
  go_wp2_with (first | (((with_reducible refine listN F ?_); clear F; intro wN F)) | ((with_reducible refine at_store rfl ?_); first | (refine wpList_storeG F rfl rfl rfl rfl rfl infoStr rfl (by first | exact one_head (Hid.out (by assumption)) rfl | (simp [Value.oneCell']; done)) ?_; clear F; intro W F zW; clear zW)) | ((with_reducible refine at_loadU rfl rfl ?_); first | (with_reducible refine wpList_loadG F rfl rfl rfl (by first | exact m0 | exact m1 | exact m2 | exact m3 | exact m4 | exact m5 | exact m6 | exact m7 | exact m8) Try.underlying31 rfl infoStr (by first | rfl | simp [size_ftab]) ?_)) | ((with_reducible refine at_loadV rfl rfl ?_); first | (with_reducible refine wpList_loadGG F rfl rfl (by first | exact m0 | exact m1 | exact m2 | exact m3 | exact m4 | exact m5 | exact m6 | exact m7 | exact m8) Try.underlying31 rfl infoStr (by first | rfl | simp [size_ftab]) (by kernel_rfl) ?_)) | (go_at_call 17; ((with_reducible refine (eqStringR _ _ _ _ xr0 nr0 kr0 tkr0 tar0 tbr0 tcr0 txr0 tyr0 dkr0 dar0 dbr0 dcr0 dxr0 dyr0 lr0 _ hr0 (by first | exact (F.own (by first | exact m0 | exact m1 | exact m2 | exact m3 | exact m4 | exact m5 | exact m6 | exact m7 | exact m8)).rd) (by first | exact (F.own (by first | exact m0 | exact m1 | exact m2 | exact m3 | exact m4 | exact m5 | exact m6 | exact m7 | exact m8)).rd)).mono ?_); rintro e w7 ⟨rfl, hb7⟩; (replace F := F.le hb7))) | (go_at_call 19; ((with_reducible refine (heldStringR _ _ nr0 kr0 tkr0 tar0 tbr0 tcr0 txr0 tyr0 dkr0 dar0 dbr0 dcr0 dxr0 dyr0 lr0 1 _ hr0 (by omega) (by omega) (F.own (by first | exact m0 | exact m1 | exact m2 | exact m3 | exact m4 | exact m5 | exact m6 | exact m7 | exact m8)).rd).mono ?_); rintro e w6 ⟨rfl, hb6⟩; (replace F := F.le hb6))))
  go_ret
  first | exact ⟨rfl, F.below⟩ | exact ⟨rfl, below_drewN F.below _⟩
theorem walk (a0 : Nat) (a1 : Nat) (a2 : Nat) (w : World) (w0 : fits .f32 a0) (w1 : fits .f32 a1) (w2 : fits .f32 a2) :
    Calls Try.prog 3 #[.float .f32 a0, .float .f32 a1, .float .f32 a2] w fun e w' => e = .returned (.bool true) ∧ Below w.heap.size w w' := by
  obtain ⟨xr0, nr0, kr0, tkr0, tar0, tbr0, tcr0, txr0, tyr0, dkr0, dar0, dbr0, dcr0, dxr0, dyr0, lr0, ar1, hr0, hS, hI⟩ := both_NewString a0 a1 a2
  exact core a0 a1 a2 xr0 nr0 kr0 tkr0 tar0 tbr0 tcr0 txr0 tyr0 dkr0 dar0 dbr0 dcr0 dxr0 dyr0 lr0 ar1 w  hr0 hS hI
end Go.Proofs.Ytaenbpkcehenkac.fnExactNewString
