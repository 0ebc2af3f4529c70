/- Floats up to the bits of NaN: canonical bits ('can'), the four operations on them ('fop'), and laws by which a walk takes a float operation whose NaN bits are drawn. Nothing here names a program. -/
import Derived.WalkKit
import Derived.WalkLawsBesides
import Derived.Deep.Draws
namespace Go.Fk
open Go Go.RowKit

theorem list16 {α : Type} {l : List α} (h : l.length = 16) : ∃ a0 a1 a2 a3 a4 a5 a6 a7 a8 a9 a10 a11 a12 a13 a14 a15, l = [a0, a1, a2, a3, a4, a5, a6, a7, a8, a9, a10, a11, a12, a13, a14, a15] := by
  match l, h with
  | [a0, a1, a2, a3, a4, a5, a6, a7, a8, a9, a10, a11, a12, a13, a14, a15], _ => exact ⟨a0, a1, a2, a3, a4, a5, a6, a7, a8, a9, a10, a11, a12, a13, a14, a15, rfl⟩

/-- Is this word a NaN? -/
def isNan (k : FloatKind) (b : Nat) : Bool := (k.format.read b).isNaN
def qnan : FloatKind → Nat
  | .f32 => 2143289344
  | .f64 => 9221120237041090560
/-- One word for each NaN. -/
def can (k : FloatKind) (b : Nat) : Nat := if isNan k b then qnan k else b

theorem isNan_qnan (k : FloatKind) : isNan k (qnan k) = true := by cases k <;> decide
theorem can_qnan (k : FloatKind) : can k (qnan k) = qnan k := by simp [can]
theorem can_of_nan {k : FloatKind} {b : Nat} (h : isNan k b = true) : can k b = qnan k := by simp [can, h]
theorem can_of_not {k : FloatKind} {b : Nat} (h : isNan k b = false) : can k b = b := by simp [can, h]
theorem isNan_can (k : FloatKind) (b : Nat) : isNan k (can k b) = isNan k b := by
  unfold can; split
  · rename_i h; rw [isNan_qnan, h]
  · rfl
theorem can_can (k : FloatKind) (b : Nat) : can k (can k b) = can k b := by
  cases h : isNan k b
  · rw [can_of_not h, can_of_not h]
  · rw [can_of_nan h, can_qnan]
theorem isNan_of_can {k : FloatKind} {a b : Nat} (h : can k a = can k b) : isNan k a = isNan k b := by
  rw [← isNan_can k a, h, isNan_can]
/-- Two words with one canonical word are one, or are both NaN. -/
theorem eq_of_can {k : FloatKind} {a b : Nat} (h : can k a = can k b) (ha : isNan k a = false) : a = b := by
  have hb : isNan k b = false := by rw [← isNan_of_can h, ha]
  rwa [can_of_not ha, can_of_not hb] at h

theorem read_nan {k : FloatKind} {b : Nat} (h : isNan k b = true) : ∃ s t, k.format.read b = .nan s t := by
  unfold isNan at h
  cases hr : k.format.read b <;> simp_all [Ieee.Datum.isNaN]

theorem sum_nan_l (s : Bool) (t : Nat) (d : Ieee.Datum) : Ieee.Datum.sum (.nan s t) d = none := by cases d <;> rfl
theorem sum_nan_r (s : Bool) (t : Nat) (d : Ieee.Datum) : Ieee.Datum.sum d (.nan s t) = none := by cases d <;> rfl
theorem product_nan_l (s : Bool) (t : Nat) (d : Ieee.Datum) : Ieee.Datum.product (.nan s t) d = none := by cases d <;> rfl
theorem product_nan_r (s : Bool) (t : Nat) (d : Ieee.Datum) : Ieee.Datum.product d (.nan s t) = none := by cases d <;> rfl
theorem quotient_nan_l (n : Nat) (s : Bool) (t : Nat) (d : Ieee.Datum) : Ieee.Datum.quotient n (.nan s t) d = none := by cases d <;> rfl
theorem quotient_nan_r (n : Nat) (s : Bool) (t : Nat) (d : Ieee.Datum) : Ieee.Datum.quotient n d (.nan s t) = none := by cases d <;> rfl
theorem order_nan_l (s : Bool) (t : Nat) (d : Ieee.Datum) : Ieee.Datum.order (.nan s t) d = none := by cases d <;> rfl
theorem order_nan_r (s : Bool) (t : Nat) (d : Ieee.Datum) : Ieee.Datum.order d (.nan s t) = none := by cases d <;> rfl

theorem floatBits_nan_l {op : BinOp} {k : FloatKind} {x y : Nat} (h : isNan k x = true) : floatBits op k x y = none := by
  obtain ⟨s, t, hr⟩ := read_nan h
  cases op <;> simp [floatBits, Ieee.Format.add, Ieee.Format.sub, Ieee.Format.mul, Ieee.Format.div, hr, sum_nan_l, product_nan_l, quotient_nan_l]
theorem floatBits_nan_r {op : BinOp} {k : FloatKind} {x y : Nat} (h : isNan k y = true) : floatBits op k x y = none := by
  obtain ⟨s, t, hr⟩ := read_nan h
  cases op <;> simp [floatBits, Ieee.Format.add, Ieee.Format.sub, Ieee.Format.mul, Ieee.Format.div, hr, Ieee.Datum.opposite, sum_nan_r, product_nan_r, quotient_nan_r]
theorem order_of_nan_l {k : FloatKind} {x y : Nat} (h : isNan k x = true) : k.format.order x y = none := by
  obtain ⟨s, t, hr⟩ := read_nan h
  simp [Ieee.Format.order, hr, order_nan_l]
theorem order_of_nan_r {k : FloatKind} {x y : Nat} (h : isNan k y = true) : k.format.order x y = none := by
  obtain ⟨s, t, hr⟩ := read_nan h
  simp [Ieee.Format.order, hr, order_nan_r]

/-- An operation up to the bits of NaN: 'qnan' where it is not valid. -/
def fop (op : BinOp) (k : FloatKind) (x y : Nat) : Nat := match floatBits op k x y with
  | some r => can k r
  | none => qnan k

theorem fop_can_l (op : BinOp) (k : FloatKind) (x y : Nat) : fop op k (can k x) y = fop op k x y := by
  cases h : isNan k x
  · rw [can_of_not h]
  · rw [can_of_nan h]; simp only [fop, floatBits_nan_l h, floatBits_nan_l (isNan_qnan k)]
theorem fop_can_r (op : BinOp) (k : FloatKind) (x y : Nat) : fop op k x (can k y) = fop op k x y := by
  cases h : isNan k y
  · rw [can_of_not h]
  · rw [can_of_nan h]; simp only [fop, floatBits_nan_r h, floatBits_nan_r (isNan_qnan k)]
theorem order_can_l (k : FloatKind) (x y : Nat) : k.format.order (can k x) y = k.format.order x y := by
  cases h : isNan k x
  · rw [can_of_not h]
  · rw [can_of_nan h, order_of_nan_l h, order_of_nan_l (isNan_qnan k)]
theorem order_can_r (k : FloatKind) (x y : Nat) : k.format.order x (can k y) = k.format.order x y := by
  cases h : isNan k y
  · rw [can_of_not h]
  · rw [can_of_nan h, order_of_nan_r h, order_of_nan_r (isNan_qnan k)]
theorem fop_congr {op : BinOp} {k : FloatKind} {x x' y y' : Nat} (hx : can k x = can k x') (hy : can k y = can k y') : fop op k x y = fop op k x' y' := by
  rw [← fop_can_l op k x, ← fop_can_r op k _ y, hx, hy, fop_can_l, fop_can_r]
theorem order_congr {k : FloatKind} {x x' y y' : Nat} (hx : can k x = can k x') (hy : can k y = can k y') : k.format.order x y = k.format.order x' y' := by
  rw [← order_can_l k x, ← order_can_r k _ y, hx, hy, order_can_l, order_can_r]
theorem can_fop (op : BinOp) (k : FloatKind) (x y : Nat) : can k (fop op k x y) = fop op k x y := by
  unfold fop; split
  · exact can_can _ _
  · exact can_qnan _

theorem order_self {k : FloatKind} {x : Nat} (h : isNan k x = false) : k.format.order x x = some .eq := by
  unfold isNan at h
  unfold Ieee.Format.order
  cases hr : k.format.read x with
  | nan s t => rw [hr] at h; simp [Ieee.Datum.isNaN] at h
  | infinity s => cases s <;> simp [Ieee.Datum.order]
  | number s m i => simp [Ieee.Datum.order]

theorem order_ne_nan {k : FloatKind} {x : Nat} (h : isNan k x = true) : k.format.order x x = none := order_of_nan_l h
@[go_sem] theorem order_ne (k : FloatKind) (x : Nat) : (k.format.order x x != some .eq) = isNan k x := by
  cases h : isNan k x
  · rw [order_self h]; rfl
  · rw [order_ne_nan h]; rfl
@[go_sem] theorem order_eq (k : FloatKind) (x : Nat) : (k.format.order x x == some .eq) = !isNan k x := by
  cases h : isNan k x
  · rw [order_self h]; rfl
  · rw [order_ne_nan h]; rfl

theorem ret_b {a b : Bool} (h : a = b) : Ending.returned (.bool a) = .returned (.bool b) := by rw [h]
theorem ret_i {k : IntKind} {a b : Int} (h : a = b) : Ending.returned (.int k a) = .returned (.int k b) := by rw [h]
theorem ret_f {k : FloatKind} {a b : Nat} (h : a = b) : Ending.returned (.float k a) = .returned (.float k b) := by rw [h]
/-- Are two samples the same? -/
def sameB (x y : Nat) : Bool := ((can .f32 x : Nat) : Int) == ((can .f32 y : Nat) : Int)
theorem sameB_num {x y : Nat} (hx : isNan .f32 x = false) (hy : isNan .f32 y = false) : sameB x y = ((x : Int) == (y : Int)) := by
  unfold sameB; rw [can_of_not hx, can_of_not hy]
theorem sameB_nan {x y : Nat} (hx : isNan .f32 x = true) (hy : isNan .f32 y = true) : sameB x y = true := by
  unfold sameB; rw [can_of_nan hx, can_of_nan hy]; simp
theorem sameB_mix {x y : Nat} (h : isNan .f32 x ≠ isNan .f32 y) : sameB x y = false := by
  unfold sameB
  rw [beq_eq_false_iff_ne]
  intro e
  exact h (isNan_of_can (Int.ofNat_inj.1 e))

/-- A word fits its kind. -/
def fits (k : FloatKind) (b : Nat) : Prop := (Lit.float k b).wf = true

def arith : BinOp → Bool
  | .add | .sub | .mul | .quo => true
  | _ => false

theorem isNan_f32 (b : Nat) : isNan .f32 b = decide (2139095040 < b % 2147483648) := by
  have e1 : Ieee.single.signWeight = 2147483648 := by decide
  have e2 : Ieee.single.infRung = 2139095040 := by decide
  have e3 : Ieee.single.binade = 8388608 := by decide
  simp only [isNan, FloatKind.format, Ieee.Format.read, e1, e2, e3]
  split
  · simp only [Ieee.Datum.isNaN]; symm; rw [decide_eq_false_iff_not]; omega
  · split
    · simp only [Ieee.Datum.isNaN]; symm; rw [decide_eq_false_iff_not]; omega
    · split
      · simp only [Ieee.Datum.isNaN]; symm; rw [decide_eq_false_iff_not]; omega
      · simp only [Ieee.Datum.isNaN]; symm; rw [decide_eq_true_iff]; omega
theorem isNan_f64 (b : Nat) : isNan .f64 b = decide (9218868437227405312 < b % 9223372036854775808) := by
  have e1 : Ieee.double.signWeight = 9223372036854775808 := by decide
  have e2 : Ieee.double.infRung = 9218868437227405312 := by decide
  have e3 : Ieee.double.binade = 4503599627370496 := by decide
  simp only [isNan, FloatKind.format, Ieee.Format.read, e1, e2, e3]
  split
  · simp only [Ieee.Datum.isNaN]; symm; rw [decide_eq_false_iff_not]; omega
  · split
    · simp only [Ieee.Datum.isNaN]; symm; rw [decide_eq_false_iff_not]; omega
    · split
      · simp only [Ieee.Datum.isNaN]; symm; rw [decide_eq_false_iff_not]; omega
      · simp only [Ieee.Datum.isNaN]; symm; rw [decide_eq_true_iff]; omega

theorem nan32 (t : Nat) : isNan .f32 ((t % 2) * 2 ^ 31 + 0x7f800000 + 1 + (t / 2) % (2 ^ 23 - 1)) = true ∧ (Lit.float .f32 ((t % 2) * 2 ^ 31 + 0x7f800000 + 1 + (t / 2) % (2 ^ 23 - 1))).wf = true := by
  have hlt : t / 2 % (2 ^ 23 - 1) < 2 ^ 23 - 1 := Nat.mod_lt _ (by omega)
  have h2 : t % 2 < 2 := Nat.mod_lt _ (by omega)
  generalize t / 2 % (2 ^ 23 - 1) = u at *
  generalize t % 2 = s at *
  refine ⟨?_, ?_⟩
  · rw [isNan_f32, decide_eq_true_iff]; omega
  · simp only [Lit.wf, decide_eq_true_eq]; omega
theorem nan64 (t : Nat) : isNan .f64 ((t % 2) * 2 ^ 63 + 0x7ff0000000000000 + 1 + (t / 2) % (2 ^ 52 - 1)) = true ∧ (Lit.float .f64 ((t % 2) * 2 ^ 63 + 0x7ff0000000000000 + 1 + (t / 2) % (2 ^ 52 - 1))).wf = true := by
  have hlt : t / 2 % (2 ^ 52 - 1) < 2 ^ 52 - 1 := Nat.mod_lt _ (by omega)
  have h2 : t % 2 < 2 := Nat.mod_lt _ (by omega)
  generalize t / 2 % (2 ^ 52 - 1) = u at *
  generalize t % 2 = s at *
  refine ⟨?_, ?_⟩
  · rw [isNan_f64, decide_eq_true_iff]; omega
  · simp only [Lit.wf, decide_eq_true_eq]; omega

/-- Whatever word a draw gives for a NaN: it is one, and fits. -/
theorem nan_bits (k : FloatKind) (x y t : Nat) : isNan k ((Question.nanBits k x y).cut t) = true ∧ fits k ((Question.nanBits k x y).cut t) := by
  cases k
  · exact nan32 t
  · exact nan64 t
theorem nan_conv (k : FloatKind) (x t : Nat) : isNan k ((Question.nanConv k x).cut t) = true ∧ fits k ((Question.nanConv k x).cut t) := by
  cases k
  · exact nan32 t
  · exact nan64 t

theorem xor_mod (b n : Nat) : (b ^^^ 2 ^ n) % 2 ^ n = b % 2 ^ n := by
  apply Nat.eq_of_testBit_eq
  intro i
  simp only [Nat.testBit_mod_two_pow, Nat.testBit_xor, Nat.testBit_two_pow]
  by_cases h : i < n
  · have : n ≠ i := by omega
    simp [h, this]
  · simp [h]
theorem xor_lt {b n : Nat} (h : b < 2 ^ (n + 1)) : b ^^^ 2 ^ n < 2 ^ (n + 1) := Nat.xor_lt_two_pow h (Nat.pow_lt_pow_right (by omega) (by omega))

section
variable {P : Program}
/-- What an operation gives: some word that is 'fop' up to the bits of NaN, behind some draws. -/
theorem run_farith (w : World) (op : BinOp) (ho : arith op = true) (t : TypeId) (k : FloatKind) (p q : Nat) :
    ∃ r n, (binOp op t (.float k p) (.float k q)).run P w = .ok (.float k r) (w.drewN n) ∧ can k r = fop op k p q ∧ fits k r := by
  cases h : floatBits op k p q with
  | some r =>
    refine ⟨r, 0, run_float_arith w op t k p q r h, ?_, floatBits_wf h⟩
    simp only [fop, h]
  | none =>
    refine ⟨(Question.nanBits k p q).cut (w.tape w.drawn (.nanBits k p q)), 1, ?_, ?_, (nan_bits k p q _).2⟩
    · unfold floatBits at h
      cases op <;> simp only [arith] at ho h <;> first | (cases ho; done) | skip
      all_goals (simp [binOp, Op.floatArith, h, Question.forced]; rfl)
    · rw [can_of_nan (nan_bits k p q _).1]; simp only [fop, h]

theorem eqGuard_float (w : World) (op : BinOp) (t : TypeId) (x y : Operand) (k k' : FloatKind) (p q : Nat) : (eqGuard op t x y (Value.float k p) (Value.float k' q)).run P w = Result.ok () w := by
  cases op <;> simp [eqGuard]

@[go_sem] theorem run_store_float (w : World) (a : Addr) (m : Mode) (k : FloatKind) (n : Nat) : (store a (.float k n) m).run P w = stored P w a (.float k n) m := run_store P w a _ m rfl
/-- The opposite. -/
def neg (k : FloatKind) (b : Nat) : Nat := Op.negFloat k b
theorem isNan_neg (k : FloatKind) (b : Nat) : isNan k (neg k b) = isNan k b := by
  cases k
  · rw [isNan_f32, isNan_f32]
    have h : neg .f32 b % 2147483648 = b % 2147483648 := xor_mod b 31
    rw [h]
  · rw [isNan_f64, isNan_f64]
    have h : neg .f64 b % 9223372036854775808 = b % 9223372036854775808 := xor_mod b 63
    rw [h]
theorem fits_neg {k : FloatKind} {b : Nat} (h : fits k b) : fits k (neg k b) := by
  cases k
  · simp only [fits, Lit.wf, decide_eq_true_eq] at *
    exact xor_lt (n := 31) h
  · simp only [fits, Lit.wf, decide_eq_true_eq] at *
    exact xor_lt (n := 63) h
theorem can_neg (k : FloatKind) (b : Nat) : can k (neg k (can k b)) = can k (neg k b) := by
  cases h : isNan k b
  · rw [can_of_not h]
  · rw [can_of_nan (by rw [isNan_neg, isNan_can, h]), can_of_nan (by rw [isNan_neg, h])]
theorem neg_congr {k : FloatKind} {a b : Nat} (h : can k a = can k b) : can k (neg k a) = can k (neg k b) := by
  rw [← can_neg k a, h, can_neg]
@[go_sem] theorem run_neg_float (w : World) (k : FloatKind) (b : Nat) : (Op.unary .neg (.float k b)).run P w = .ok (.float k (neg k b)) w := rfl

theorem hid {p : Prop} (h : p) : Hid p := h

/-- THE WALK's LAW for + - * / on floats. -/
theorem wpList_farith {w : World} {ops : Array Oper} {rest : List Oper} {o : Oper} {a : Act} {Q : Exit → Act → World → Prop}
    (hg : o.guard = none) {op : BinOp} {t t' : TypeId} {x y : Operand} (hop : o.op = Op.binOp op t x y t') (ho : arith op = true)
    {k : FloatKind} {p q : Nat} (hx : a.eval x = .float k p) (hy : a.eval y = .float k q)
    (hK : ∀ r n, Hid (can k r = fop op k p q) → Hid (fits k r) → wpList P ops Q rest (a.put o.dst (.float k r)) (w.drewN n)) : wpList P ops Q (o :: rest) a w := by
  refine wpList_plain hg fun K hK' => ?_
  obtain ⟨r, n, hrun, hr, hf⟩ := run_farith (P := P) w op ho t k p q
  unfold Oper.wp
  have he := eqGuard_float (P := P) w op t x y k k p q
  simp [execOp, hop, hx, hy, he, hrun, Result.andThen]
  exact hK' _ _ (hK r n hr hf)
end

end Go.Fk
