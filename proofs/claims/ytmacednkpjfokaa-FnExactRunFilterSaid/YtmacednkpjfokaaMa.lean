/- Texts of the walk, laid in one file. -/
import Derived.WalkKit
import Derived.WalkLawsBesides
import Derived.Deep.Draws
import Derived.ProofKit
import Derived.OpenShut
import Derived.Deep.Slices
import Derived.Test.YtmacednkpjfokaaRows
import Derived.Handy
import Derived.Below
import Derived.Deep.Quiet
import Derived.Deep.QuietTactic
import Derived.BigQuiet
import Derived.StillTail
import Derived.Deep.Cut
import Derived.OwnWalk
import Derived.Deep.MidRow
set_option linter.unusedVariables false
set_option linter.unusedSimpArgs false
/- Floats up to the bits of NaN: canonical bits ('can'), the four operations on them ('fop'), and laws by which a walk takes a float operation whose NaN bits are drawn. Nothing here names a program. -/
namespace Go.Fk
open Go Go.RowKit

theorem list16 {α : Type} {l : List α} (h : l.length = 16) : ∃ a0 a1 a2 a3 a4 a5 a6 a7 a8 a9 a10 a11 a12 a13 a14 a15, l = [a0, a1, a2, a3, a4, a5, a6, a7, a8, a9, a10, a11, a12, a13, a14, a15] := by
  match l, h with
  | [a0, a1, a2, a3, a4, a5, a6, a7, a8, a9, a10, a11, a12, a13, a14, a15], _ => exact ⟨a0, a1, a2, a3, a4, a5, a6, a7, a8, a9, a10, a11, a12, a13, a14, a15, rfl⟩

/-- Is this word a NaN? -/
def isNan (k : FloatKind) (b : Nat) : Bool := (k.format.read b).isNaN
def qnan : FloatKind → Nat
  | .f32 => 2143289344
  | .f64 => 9221120237041090560
/-- One word for each NaN. -/
def can (k : FloatKind) (b : Nat) : Nat := if isNan k b then qnan k else b

theorem isNan_qnan (k : FloatKind) : isNan k (qnan k) = true := by cases k <;> decide
theorem can_qnan (k : FloatKind) : can k (qnan k) = qnan k := by simp [can]
theorem can_of_nan {k : FloatKind} {b : Nat} (h : isNan k b = true) : can k b = qnan k := by simp [can, h]
theorem can_of_not {k : FloatKind} {b : Nat} (h : isNan k b = false) : can k b = b := by simp [can, h]
theorem isNan_can (k : FloatKind) (b : Nat) : isNan k (can k b) = isNan k b := by
  unfold can; split
  · rename_i h; rw [isNan_qnan, h]
  · rfl
theorem can_can (k : FloatKind) (b : Nat) : can k (can k b) = can k b := by
  cases h : isNan k b
  · rw [can_of_not h, can_of_not h]
  · rw [can_of_nan h, can_qnan]
theorem isNan_of_can {k : FloatKind} {a b : Nat} (h : can k a = can k b) : isNan k a = isNan k b := by
  rw [← isNan_can k a, h, isNan_can]
/-- Two words with one canonical word are one, or are both NaN. -/
theorem eq_of_can {k : FloatKind} {a b : Nat} (h : can k a = can k b) (ha : isNan k a = false) : a = b := by
  have hb : isNan k b = false := by rw [← isNan_of_can h, ha]
  rwa [can_of_not ha, can_of_not hb] at h

theorem read_nan {k : FloatKind} {b : Nat} (h : isNan k b = true) : ∃ s t, k.format.read b = .nan s t := by
  unfold isNan at h
  cases hr : k.format.read b <;> simp_all [Ieee.Datum.isNaN]

theorem sum_nan_l (s : Bool) (t : Nat) (d : Ieee.Datum) : Ieee.Datum.sum (.nan s t) d = none := by cases d <;> rfl
theorem sum_nan_r (s : Bool) (t : Nat) (d : Ieee.Datum) : Ieee.Datum.sum d (.nan s t) = none := by cases d <;> rfl
theorem product_nan_l (s : Bool) (t : Nat) (d : Ieee.Datum) : Ieee.Datum.product (.nan s t) d = none := by cases d <;> rfl
theorem product_nan_r (s : Bool) (t : Nat) (d : Ieee.Datum) : Ieee.Datum.product d (.nan s t) = none := by cases d <;> rfl
theorem quotient_nan_l (n : Nat) (s : Bool) (t : Nat) (d : Ieee.Datum) : Ieee.Datum.quotient n (.nan s t) d = none := by cases d <;> rfl
theorem quotient_nan_r (n : Nat) (s : Bool) (t : Nat) (d : Ieee.Datum) : Ieee.Datum.quotient n d (.nan s t) = none := by cases d <;> rfl
theorem order_nan_l (s : Bool) (t : Nat) (d : Ieee.Datum) : Ieee.Datum.order (.nan s t) d = none := by cases d <;> rfl
theorem order_nan_r (s : Bool) (t : Nat) (d : Ieee.Datum) : Ieee.Datum.order d (.nan s t) = none := by cases d <;> rfl

theorem floatBits_nan_l {op : BinOp} {k : FloatKind} {x y : Nat} (h : isNan k x = true) : floatBits op k x y = none := by
  obtain ⟨s, t, hr⟩ := read_nan h
  cases op <;> simp [floatBits, Ieee.Format.add, Ieee.Format.sub, Ieee.Format.mul, Ieee.Format.div, hr, sum_nan_l, product_nan_l, quotient_nan_l]
theorem floatBits_nan_r {op : BinOp} {k : FloatKind} {x y : Nat} (h : isNan k y = true) : floatBits op k x y = none := by
  obtain ⟨s, t, hr⟩ := read_nan h
  cases op <;> simp [floatBits, Ieee.Format.add, Ieee.Format.sub, Ieee.Format.mul, Ieee.Format.div, hr, Ieee.Datum.opposite, sum_nan_r, product_nan_r, quotient_nan_r]
theorem order_of_nan_l {k : FloatKind} {x y : Nat} (h : isNan k x = true) : k.format.order x y = none := by
  obtain ⟨s, t, hr⟩ := read_nan h
  simp [Ieee.Format.order, hr, order_nan_l]
theorem order_of_nan_r {k : FloatKind} {x y : Nat} (h : isNan k y = true) : k.format.order x y = none := by
  obtain ⟨s, t, hr⟩ := read_nan h
  simp [Ieee.Format.order, hr, order_nan_r]

/-- An operation up to the bits of NaN: 'qnan' where it is not valid. -/
def fop (op : BinOp) (k : FloatKind) (x y : Nat) : Nat := match floatBits op k x y with
  | some r => can k r
  | none => qnan k

theorem fop_can_l (op : BinOp) (k : FloatKind) (x y : Nat) : fop op k (can k x) y = fop op k x y := by
  cases h : isNan k x
  · rw [can_of_not h]
  · rw [can_of_nan h]; simp only [fop, floatBits_nan_l h, floatBits_nan_l (isNan_qnan k)]
theorem fop_can_r (op : BinOp) (k : FloatKind) (x y : Nat) : fop op k x (can k y) = fop op k x y := by
  cases h : isNan k y
  · rw [can_of_not h]
  · rw [can_of_nan h]; simp only [fop, floatBits_nan_r h, floatBits_nan_r (isNan_qnan k)]
theorem order_can_l (k : FloatKind) (x y : Nat) : k.format.order (can k x) y = k.format.order x y := by
  cases h : isNan k x
  · rw [can_of_not h]
  · rw [can_of_nan h, order_of_nan_l h, order_of_nan_l (isNan_qnan k)]
theorem order_can_r (k : FloatKind) (x y : Nat) : k.format.order x (can k y) = k.format.order x y := by
  cases h : isNan k y
  · rw [can_of_not h]
  · rw [can_of_nan h, order_of_nan_r h, order_of_nan_r (isNan_qnan k)]
theorem fop_congr {op : BinOp} {k : FloatKind} {x x' y y' : Nat} (hx : can k x = can k x') (hy : can k y = can k y') : fop op k x y = fop op k x' y' := by
  rw [← fop_can_l op k x, ← fop_can_r op k _ y, hx, hy, fop_can_l, fop_can_r]
theorem order_congr {k : FloatKind} {x x' y y' : Nat} (hx : can k x = can k x') (hy : can k y = can k y') : k.format.order x y = k.format.order x' y' := by
  rw [← order_can_l k x, ← order_can_r k _ y, hx, hy, order_can_l, order_can_r]
theorem can_fop (op : BinOp) (k : FloatKind) (x y : Nat) : can k (fop op k x y) = fop op k x y := by
  unfold fop; split
  · exact can_can _ _
  · exact can_qnan _

theorem order_self {k : FloatKind} {x : Nat} (h : isNan k x = false) : k.format.order x x = some .eq := by
  unfold isNan at h
  unfold Ieee.Format.order
  cases hr : k.format.read x with
  | nan s t => rw [hr] at h; simp [Ieee.Datum.isNaN] at h
  | infinity s => cases s <;> simp [Ieee.Datum.order]
  | number s m i => simp [Ieee.Datum.order]

theorem order_ne_nan {k : FloatKind} {x : Nat} (h : isNan k x = true) : k.format.order x x = none := order_of_nan_l h
@[go_sem] theorem order_ne (k : FloatKind) (x : Nat) : (k.format.order x x != some .eq) = isNan k x := by
  cases h : isNan k x
  · rw [order_self h]; rfl
  · rw [order_ne_nan h]; rfl
@[go_sem] theorem order_eq (k : FloatKind) (x : Nat) : (k.format.order x x == some .eq) = !isNan k x := by
  cases h : isNan k x
  · rw [order_self h]; rfl
  · rw [order_ne_nan h]; rfl

theorem ret_b {a b : Bool} (h : a = b) : Ending.returned (.bool a) = .returned (.bool b) := by rw [h]
theorem ret_i {k : IntKind} {a b : Int} (h : a = b) : Ending.returned (.int k a) = .returned (.int k b) := by rw [h]
theorem ret_f {k : FloatKind} {a b : Nat} (h : a = b) : Ending.returned (.float k a) = .returned (.float k b) := by rw [h]
/-- Are two samples the same? -/
def sameB (x y : Nat) : Bool := ((can .f32 x : Nat) : Int) == ((can .f32 y : Nat) : Int)
theorem sameB_num {x y : Nat} (hx : isNan .f32 x = false) (hy : isNan .f32 y = false) : sameB x y = ((x : Int) == (y : Int)) := by
  unfold sameB; rw [can_of_not hx, can_of_not hy]
theorem sameB_nan {x y : Nat} (hx : isNan .f32 x = true) (hy : isNan .f32 y = true) : sameB x y = true := by
  unfold sameB; rw [can_of_nan hx, can_of_nan hy]; simp
theorem sameB_mix {x y : Nat} (h : isNan .f32 x ≠ isNan .f32 y) : sameB x y = false := by
  unfold sameB
  rw [beq_eq_false_iff_ne]
  intro e
  exact h (isNan_of_can (Int.ofNat_inj.1 e))

/-- A word fits its kind. -/
def fits (k : FloatKind) (b : Nat) : Prop := (Lit.float k b).wf = true

def arith : BinOp → Bool
  | .add | .sub | .mul | .quo => true
  | _ => false

theorem isNan_f32 (b : Nat) : isNan .f32 b = decide (2139095040 < b % 2147483648) := by
  have e1 : Ieee.single.signWeight = 2147483648 := by decide
  have e2 : Ieee.single.infRung = 2139095040 := by decide
  have e3 : Ieee.single.binade = 8388608 := by decide
  simp only [isNan, FloatKind.format, Ieee.Format.read, e1, e2, e3]
  split
  · simp only [Ieee.Datum.isNaN]; symm; rw [decide_eq_false_iff_not]; omega
  · split
    · simp only [Ieee.Datum.isNaN]; symm; rw [decide_eq_false_iff_not]; omega
    · split
      · simp only [Ieee.Datum.isNaN]; symm; rw [decide_eq_false_iff_not]; omega
      · simp only [Ieee.Datum.isNaN]; symm; rw [decide_eq_true_iff]; omega
theorem isNan_f64 (b : Nat) : isNan .f64 b = decide (9218868437227405312 < b % 9223372036854775808) := by
  have e1 : Ieee.double.signWeight = 9223372036854775808 := by decide
  have e2 : Ieee.double.infRung = 9218868437227405312 := by decide
  have e3 : Ieee.double.binade = 4503599627370496 := by decide
  simp only [isNan, FloatKind.format, Ieee.Format.read, e1, e2, e3]
  split
  · simp only [Ieee.Datum.isNaN]; symm; rw [decide_eq_false_iff_not]; omega
  · split
    · simp only [Ieee.Datum.isNaN]; symm; rw [decide_eq_false_iff_not]; omega
    · split
      · simp only [Ieee.Datum.isNaN]; symm; rw [decide_eq_false_iff_not]; omega
      · simp only [Ieee.Datum.isNaN]; symm; rw [decide_eq_true_iff]; omega

theorem nan32 (t : Nat) : isNan .f32 ((t % 2) * 2 ^ 31 + 0x7f800000 + 1 + (t / 2) % (2 ^ 23 - 1)) = true ∧ (Lit.float .f32 ((t % 2) * 2 ^ 31 + 0x7f800000 + 1 + (t / 2) % (2 ^ 23 - 1))).wf = true := by
  have hlt : t / 2 % (2 ^ 23 - 1) < 2 ^ 23 - 1 := Nat.mod_lt _ (by omega)
  have h2 : t % 2 < 2 := Nat.mod_lt _ (by omega)
  generalize t / 2 % (2 ^ 23 - 1) = u at *
  generalize t % 2 = s at *
  refine ⟨?_, ?_⟩
  · rw [isNan_f32, decide_eq_true_iff]; omega
  · simp only [Lit.wf, decide_eq_true_eq]; omega
theorem nan64 (t : Nat) : isNan .f64 ((t % 2) * 2 ^ 63 + 0x7ff0000000000000 + 1 + (t / 2) % (2 ^ 52 - 1)) = true ∧ (Lit.float .f64 ((t % 2) * 2 ^ 63 + 0x7ff0000000000000 + 1 + (t / 2) % (2 ^ 52 - 1))).wf = true := by
  have hlt : t / 2 % (2 ^ 52 - 1) < 2 ^ 52 - 1 := Nat.mod_lt _ (by omega)
  have h2 : t % 2 < 2 := Nat.mod_lt _ (by omega)
  generalize t / 2 % (2 ^ 52 - 1) = u at *
  generalize t % 2 = s at *
  refine ⟨?_, ?_⟩
  · rw [isNan_f64, decide_eq_true_iff]; omega
  · simp only [Lit.wf, decide_eq_true_eq]; omega

/-- Whatever word a draw gives for a NaN: it is one, and fits. -/
theorem nan_bits (k : FloatKind) (x y t : Nat) : isNan k ((Question.nanBits k x y).cut t) = true ∧ fits k ((Question.nanBits k x y).cut t) := by
  cases k
  · exact nan32 t
  · exact nan64 t
theorem nan_conv (k : FloatKind) (x t : Nat) : isNan k ((Question.nanConv k x).cut t) = true ∧ fits k ((Question.nanConv k x).cut t) := by
  cases k
  · exact nan32 t
  · exact nan64 t

theorem xor_mod (b n : Nat) : (b ^^^ 2 ^ n) % 2 ^ n = b % 2 ^ n := by
  apply Nat.eq_of_testBit_eq
  intro i
  simp only [Nat.testBit_mod_two_pow, Nat.testBit_xor, Nat.testBit_two_pow]
  by_cases h : i < n
  · have : n ≠ i := by omega
    simp [h, this]
  · simp [h]
theorem xor_lt {b n : Nat} (h : b < 2 ^ (n + 1)) : b ^^^ 2 ^ n < 2 ^ (n + 1) := Nat.xor_lt_two_pow h (Nat.pow_lt_pow_right (by omega) (by omega))

section
variable {P : Program}
/-- What an operation gives: some word that is 'fop' up to the bits of NaN, behind some draws. -/
theorem run_farith (w : World) (op : BinOp) (ho : arith op = true) (t : TypeId) (k : FloatKind) (p q : Nat) :
    ∃ r n, (binOp op t (.float k p) (.float k q)).run P w = .ok (.float k r) (w.drewN n) ∧ can k r = fop op k p q ∧ fits k r := by
  cases h : floatBits op k p q with
  | some r =>
    refine ⟨r, 0, run_float_arith w op t k p q r h, ?_, floatBits_wf h⟩
    simp only [fop, h]
  | none =>
    refine ⟨(Question.nanBits k p q).cut (w.tape w.drawn (.nanBits k p q)), 1, ?_, ?_, (nan_bits k p q _).2⟩
    · unfold floatBits at h
      cases op <;> simp only [arith] at ho h <;> first | (cases ho; done) | skip
      all_goals (simp [binOp, Op.floatArith, h, Question.forced]; rfl)
    · rw [can_of_nan (nan_bits k p q _).1]; simp only [fop, h]

theorem eqGuard_float (w : World) (op : BinOp) (t : TypeId) (x y : Operand) (k k' : FloatKind) (p q : Nat) : (eqGuard op t x y (Value.float k p) (Value.float k' q)).run P w = Result.ok () w := by
  cases op <;> simp [eqGuard]

@[go_sem] theorem run_store_float (w : World) (a : Addr) (m : Mode) (k : FloatKind) (n : Nat) : (store a (.float k n) m).run P w = stored P w a (.float k n) m := run_store P w a _ m rfl
/-- The opposite. -/
def neg (k : FloatKind) (b : Nat) : Nat := Op.negFloat k b
theorem isNan_neg (k : FloatKind) (b : Nat) : isNan k (neg k b) = isNan k b := by
  cases k
  · rw [isNan_f32, isNan_f32]
    have h : neg .f32 b % 2147483648 = b % 2147483648 := xor_mod b 31
    rw [h]
  · rw [isNan_f64, isNan_f64]
    have h : neg .f64 b % 9223372036854775808 = b % 9223372036854775808 := xor_mod b 63
    rw [h]
theorem fits_neg {k : FloatKind} {b : Nat} (h : fits k b) : fits k (neg k b) := by
  cases k
  · simp only [fits, Lit.wf, decide_eq_true_eq] at *
    exact xor_lt (n := 31) h
  · simp only [fits, Lit.wf, decide_eq_true_eq] at *
    exact xor_lt (n := 63) h
theorem can_neg (k : FloatKind) (b : Nat) : can k (neg k (can k b)) = can k (neg k b) := by
  cases h : isNan k b
  · rw [can_of_not h]
  · rw [can_of_nan (by rw [isNan_neg, isNan_can, h]), can_of_nan (by rw [isNan_neg, h])]
theorem neg_congr {k : FloatKind} {a b : Nat} (h : can k a = can k b) : can k (neg k a) = can k (neg k b) := by
  rw [← can_neg k a, h, can_neg]
@[go_sem] theorem run_neg_float (w : World) (k : FloatKind) (b : Nat) : (Op.unary .neg (.float k b)).run P w = .ok (.float k (neg k b)) w := rfl

theorem hid {p : Prop} (h : p) : Hid p := h

/-- THE WALK's LAW for + - * / on floats. -/
theorem wpList_farith {w : World} {ops : Array Oper} {rest : List Oper} {o : Oper} {a : Act} {Q : Exit → Act → World → Prop}
    (hg : o.guard = none) {op : BinOp} {t t' : TypeId} {x y : Operand} (hop : o.op = Op.binOp op t x y t') (ho : arith op = true)
    {k : FloatKind} {p q : Nat} (hx : a.eval x = .float k p) (hy : a.eval y = .float k q)
    (hK : ∀ r n, Hid (can k r = fop op k p q) → Hid (fits k r) → wpList P ops Q rest (a.put o.dst (.float k r)) (w.drewN n)) : wpList P ops Q (o :: rest) a w := by
  refine wpList_plain hg fun K hK' => ?_
  obtain ⟨r, n, hrun, hr, hf⟩ := run_farith (P := P) w op ho t k p q
  unfold Oper.wp
  have he := eqGuard_float (P := P) w op t x y k k p q
  simp [execOp, hop, hx, hy, he, hrun, Result.andThen]
  exact hK' _ _ (hK r n hr hf)
end

end Go.Fk

/- How an argument that is an array of floats or of integers is opened. Nothing here names a program. -/
namespace Go.Fk
open Go Go.RowKit Go.ChangeShapes

theorem list_form {α β : Type} (f : α → β) (p : α → Prop) : ∀ l : List β, (∀ c ∈ l, ∃ x, c = f x ∧ p x) → ∃ xs : List α, l = xs.map f ∧ ∀ x ∈ xs, p x := by
  intro l
  induction l with
  | nil => intro _; exact ⟨[], rfl, by simp⟩
  | cons c l ih =>
    intro h
    obtain ⟨x, hx, px⟩ := h c (by simp)
    obtain ⟨xs, hxs, pxs⟩ := ih (fun c hc => h c (by simp [hc]))
    refine ⟨x :: xs, by simp [hx, hxs], ?_⟩
    intro y hy
    rcases List.mem_cons.1 hy with rfl | hy
    · exact px
    · exact pxs y hy

section
variable {H : Type} {enc : TypeId × Value → H} {P : Program} {w : World} {base : Nat} {spare : Nat → Bool} {held : Bool}

theorem trod_float_cell {e : TypeId} {k : FloatKind} {m : Nat} {c : Value} {x : DataW H × List MemPlace} (he : P.underlying e = some (.float k))
    (h : DataW.trod enc P w base spare held m e [c] = some x) : ∃ b, c = .float k b ∧ fits k b := by
  cases m with
  | zero => simp [DataW.trod] at h
  | succ m =>
    simp only [DataW.trod, he] at h
    cases c <;> simp_all
    exact h.1.2
theorem trod_int_cell {e : TypeId} {k : IntKind} {m : Nat} {c : Value} {x : DataW H × List MemPlace} (he : P.underlying e = some (.int k))
    (h : DataW.trod enc P w base spare held m e [c] = some x) : ∃ b, c = .int k b ∧ (Lit.int k b).wf = true := by
  cases m with
  | zero => simp [DataW.trod] at h
  | succ m =>
    simp only [DataW.trod, he] at h
    cases c <;> simp_all

theorem open_arr {α : Type} (f : α → Value) (pr : α → Prop) {n : Nat} {r : Reach} {b0 : Nat} {t e : TypeId} {v : Value} {d : DataW H} {ps : List MemPlace} (ht : P.underlying t = some (.array n e))
    (hcell : ∀ m c (x : DataW H × List MemPlace), DataW.trod enc P w base spare held m e [c] = some x → ∃ b, c = f b ∧ pr b)
    (hce : P.cellsOf e = 1) (hct : P.cellsOf t = n) (hval : Value.okWide P w r b0 t v) (hd : DataW.Trod enc P w base spare held t v d ps) :
    ∃ xs : List α, v = .agg (xs.map f).toArray ∧ xs.length = n ∧ ∀ b ∈ xs, pr b := by
  simp only [Value.okWide, ht] at hval
  obtain ⟨cs, rfl, hsz, _⟩ := hval
  obtain ⟨fuel, hf⟩ := hd
  simp only [Value.cells] at hf
  obtain ⟨xs, m, _, _, _, hl, hi⟩ := DataW.trod_array ht hf
  have hlen : cs.toList.length = n := by simpa using hsz.trans hct
  obtain ⟨l, hl', hp⟩ := list_form f pr cs.toList (by
    intro c hc
    obtain ⟨i, hi1, hi2⟩ := List.getElem_of_mem hc
    have h := hi i (by omega)
    rw [hce, Nat.mul_one] at h
    rw [List.drop_eq_getElem_cons hi1, hi2, List.take_succ_cons, List.take_zero] at h
    rw [List.getElem?_eq_getElem (by omega)] at h
    exact hcell m c _ h)
  refine ⟨l, ?_, ?_, hp⟩
  · rw [← hl', Array.toArray_toList]
  · rw [hl'] at hlen; simpa using hlen

theorem open_farr {n : Nat} {r : Reach} {b0 : Nat} {t e : TypeId} {k : FloatKind} {v : Value} {d : DataW H} {ps : List MemPlace} (ht : P.underlying t = some (.array n e)) (he : P.underlying e = some (.float k))
    (hce : P.cellsOf e = 1) (hct : P.cellsOf t = n) (hval : Value.okWide P w r b0 t v) (hd : DataW.Trod enc P w base spare held t v d ps) :
    ∃ xs : List Nat, v = .agg (xs.map (Value.float k)).toArray ∧ xs.length = n ∧ ∀ b ∈ xs, fits k b :=
  open_arr (Value.float k) (fits k) ht (fun _ _ _ h => trod_float_cell he h) hce hct hval hd
theorem open_iarr {n : Nat} {r : Reach} {b0 : Nat} {t e : TypeId} {k : IntKind} {v : Value} {d : DataW H} {ps : List MemPlace} (ht : P.underlying t = some (.array n e)) (he : P.underlying e = some (.int k))
    (hce : P.cellsOf e = 1) (hct : P.cellsOf t = n) (hval : Value.okWide P w r b0 t v) (hd : DataW.Trod enc P w base spare held t v d ps) :
    ∃ xs : List Int, v = .agg (xs.map (Value.int k)).toArray ∧ xs.length = n ∧ ∀ b ∈ xs, (Lit.int k b).wf = true :=
  open_arr (Value.int k) (fun b => (Lit.int k b).wf = true) ht (fun _ _ _ h => trod_int_cell he h) hce hct hval hd
end
end Go.Fk

/- How an argument that is a struct of floats is opened, and one with a slice of floats. Nothing here names a program. -/
namespace Go.Fk
open Go Go.RowKit Go.ChangeShapes

section
variable {H : Type} {enc : TypeId × Value → H} {P : Program} {w : World} {base : Nat} {spare : Nat → Bool} {held : Bool}

theorem trod_arr {α : Type} (f : α → Value) (pr : α → Prop) {n : Nat} {t e : TypeId} {cs : List Value} {fuel : Nat} {x : DataW H × List MemPlace} (ht : P.underlying t = some (.array n e))
    (hcell : ∀ m c (x : DataW H × List MemPlace), DataW.trod enc P w base spare held m e [c] = some x → ∃ b, c = f b ∧ pr b)
    (hce : P.cellsOf e = 1) (hct : P.cellsOf t = n) (hf : DataW.trod enc P w base spare held fuel t cs = some x) :
    ∃ xs : List α, cs = xs.map f ∧ xs.length = n ∧ ∀ b ∈ xs, pr b := by
  obtain ⟨xs, m, _, _, hlen, hl, hi⟩ := DataW.trod_array ht hf
  have hlen : cs.length = n := hlen.trans hct
  obtain ⟨l, hl', hp⟩ := list_form f pr cs (by
    intro c hc
    obtain ⟨i, hi1, hi2⟩ := List.getElem_of_mem hc
    have h := hi i (by omega)
    rw [hce, Nat.mul_one] at h
    rw [List.drop_eq_getElem_cons hi1, hi2, List.take_succ_cons, List.take_zero] at h
    rw [List.getElem?_eq_getElem (by omega)] at h
    exact hcell m c _ h)
  refine ⟨l, hl', ?_, hp⟩
  rw [hl'] at hlen; simpa using hlen

theorem trod_farr {n : Nat} {t e : TypeId} {k : FloatKind} {cs : List Value} {fuel : Nat} {x : DataW H × List MemPlace} (ht : P.underlying t = some (.array n e)) (he : P.underlying e = some (.float k))
    (hce : P.cellsOf e = 1) (hct : P.cellsOf t = n) (hf : DataW.trod enc P w base spare held fuel t cs = some x) :
    ∃ xs : List Nat, cs = xs.map (Value.float k) ∧ xs.length = n ∧ ∀ b ∈ xs, fits k b :=
  trod_arr (Value.float k) (fits k) ht (fun _ _ _ h => trod_float_cell he h) hce hct hf

/-- A struct of an integer, an array of three floats and one of two. -/
theorem open_filter {r : Reach} {b0 : Nat} {t t0 t1 t2 e : TypeId} {f0 f1 f2 : Field} {v : Value} {d : DataW H} {ps : List MemPlace} (ht : P.underlying t = some (.struct #[f0, f1, f2]))
    (e0 : (f0.type, f0.offset) = (t0, 0)) (e1 : (f1.type, f1.offset) = (t1, 1)) (e2 : (f2.type, f2.offset) = (t2, 4))
    (h0 : P.underlying t0 = some (.int .i64)) (h1 : P.underlying t1 = some (.array 3 e)) (h2 : P.underlying t2 = some (.array 2 e)) (he : P.underlying e = some (.float .f32))
    (c0 : P.cellsOf t0 = 1) (c1 : P.cellsOf t1 = 3) (c2 : P.cellsOf t2 = 2) (ce : P.cellsOf e = 1) (ct : P.cellsOf t = 6)
    (hval : Value.okWide P w r b0 t v) (hd : DataW.Trod enc P w base spare held t v d ps) :
    ∃ (k : Int) (a b c x y : Nat), v = .agg #[.int .i64 k, .float .f32 a, .float .f32 b, .float .f32 c, .float .f32 x, .float .f32 y] ∧ (Lit.int .i64 k).wf = true ∧ fits .f32 a ∧ fits .f32 b ∧ fits .f32 c ∧ fits .f32 x ∧ fits .f32 y := by
  simp only [Value.okWide, ht] at hval
  obtain ⟨cs, rfl, hsz, _⟩ := hval
  obtain ⟨fuel, hf⟩ := hd
  simp only [Value.cells] at hf
  obtain ⟨xs, m, _, _, hlen, hl, hi⟩ := DataW.trod_struct ht hf
  simp only [Prod.mk.injEq] at e0 e1 e2
  have g0 := hi 0 f0 rfl
  have g1 := hi 1 f1 rfl
  have g2 := hi 2 f2 rfl
  rw [e0.1, e0.2, c0] at g0
  rw [e1.1, e1.2, c1] at g1
  rw [e2.1, e2.2, c2] at g2
  rw [List.getElem?_eq_getElem (by simp_all)] at g0 g1 g2
  have hlen : cs.toList.length = 6 := hlen.trans ct
  obtain ⟨l1, q1, n1, p1⟩ := trod_farr h1 he ce c1 g1
  obtain ⟨l2, q2, n2, p2⟩ := trod_farr h2 he ce c2 g2
  obtain ⟨l⟩ := cs
  simp only at *
  match l, hlen, l1, n1, l2, n2 with
  | [v0, v1, v2, v3, v4, v5], _, [a, b, c], _, [x, y], _ =>
    simp only [List.drop_zero, List.drop_succ_cons, List.take_succ_cons, List.take_zero, List.map_cons, List.map_nil, List.cons.injEq, and_true] at q1 q2 g0
    obtain ⟨rfl, rfl, rfl⟩ := q1
    obtain ⟨rfl, rfl⟩ := q2
    obtain ⟨k, rfl, hk⟩ := trod_int_cell h0 g0
    exact ⟨k, a, b, c, x, y, rfl, hk, p1 _ (by simp), p1 _ (by simp), p1 _ (by simp), p2 _ (by simp), p2 _ (by simp)⟩

/-- What an argument that is a slice of floats is: nil, or cells that lie somewhere. -/
def IsSl (w : World) (v : Value) (g : Nat → Nat) (n : Nat) : Prop :=
  (v = .slice none 0 0 ∧ n = 0) ∨ ∃ (a : Addr) (cap : Nat), v = .slice (some a) n cap ∧ n ≤ cap ∧ cap ≤ maxLen ∧ a.block < w.heap.size ∧ ∀ i, i < n → w.cell? (a.add i) = some (.float .f32 (g i))
end
end Go.Fk

/- 'l00In' of the model. -/
namespace Go.Proofs.Ytmacednkpjfokaa
open Go.RowKit Go.Fk
theorem s_In (v a b : Int) (w : World) : Calls Try.prog 56 #[.int .i64 v, .int .i64 a, .int .i64 b] w fun e w' => e = .returned (.bool (decide (a ≤ v) && decide (v ≤ b))) ∧ w = w' := by
  by_cases h1 : a ≤ v <;> by_cases h2 : v ≤ b
  all_goals
    go_enter Try.func56, Try.ntmps56
    go_wp2
    go_ret
    exact ⟨ret_b (by simp [h1, h2]), rfl⟩
end Go.Proofs.Ytmacednkpjfokaa

/- 'laws.sameFloat': true of two words that are one up to the bits of NaN. -/
namespace Go.Proofs.Ytmacednkpjfokaa
open Go.RowKit Go.Fk

theorem sameFloat_nan (x y : Nat) (w : World) (hx : isNan .f64 x = true) (hy : isNan .f64 y = true) :
    Calls Try.prog 35 #[.float .f64 x, .float .f64 y] w fun e w' => e = .returned (.bool true) ∧ ∃ n, w' = w.drewN n := by
  have h1 : FloatKind.f64.format.order x x = none := order_of_nan_l hx
  have h2 : FloatKind.f64.format.order y y = none := order_of_nan_l hy
  go_enter Try.func35, Try.ntmps35
  go_wp2
  go_ret
  exact ⟨rfl, 0, rfl⟩

theorem sameFloat_num (x : Nat) (w : World) (hx : isNan .f64 x = false) :
    Calls Try.prog 35 #[.float .f64 x, .float .f64 x] w fun e w' => e = .returned (.bool true) ∧ ∃ n, w' = w.drewN n := by
  have h1 : FloatKind.f64.format.order x x = some .eq := order_self hx
  cases h0 : (FloatKind.f64.format.order x 0 == some .eq)
  · go_enter Try.func35, Try.ntmps35
    go_wp2
    go_ret
    exact ⟨rfl, 0, rfl⟩
  · go_enter Try.func35, Try.ntmps35
    go_wp2_with (with_reducible refine wpList_farith rfl rfl rfl rfl rfl ?_; intro r n hr hf)
    rename_i r1 n1 hr1 _
    go_ret
    refine ⟨?_, _, rfl⟩
    rw [show FloatKind.f64.format.order r1 0 = FloatKind.f64.format.order r 0 from order_congr (hr1.trans hr.symm) rfl]
    simp

theorem sameFloat_yes (x y : Nat) (w : World) (h : can .f64 x = can .f64 y) :
    Calls Try.prog 35 #[.float .f64 x, .float .f64 y] w fun e w' => e = .returned (.bool true) ∧ ∃ n, w' = w.drewN n := by
  cases hx : isNan .f64 x
  · obtain rfl := eq_of_can h hx
    exact sameFloat_num x w hx
  · exact sameFloat_nan x y w hx (by rw [← isNan_of_can h, hx])
end Go.Proofs.Ytmacednkpjfokaa

/- Bounds on the size of rounded floats: the word nearest to a number below a power of two. Nothing here names a program. -/
namespace Go.Fk
open Go Go.RowKit

/-- What is cut off at 'drop' digits, to the nearest, is at most one more than the quotient. -/
theorem cut_le (s : Bool) (n drop K : Nat) (h : n < 2 ^ (K + drop)) : Ieee.Toward.even.cut s n drop ≤ 2 ^ K := by
  by_cases hn : n = 0
  · subst hn
    have hp := Nat.two_pow_pos K
    simp only [Ieee.Toward.cut]
    have h2 : (0 : Nat) / (1 <<< min drop (Nat.log2 0 + 2)) = 0 := Nat.zero_div _
    rw [h2, Nat.zero_mod]
    simp
  · simp only [Ieee.Toward.cut]
    have hb : ∀ b : Bool, b.toNat ≤ 1 := by intro b; cases b <;> simp
    have hlt : n / (1 <<< min drop (n.log2 + 2)) < 2 ^ K := by
      rw [Nat.one_shiftLeft]
      by_cases hd : drop ≤ n.log2 + 2
      · rw [Nat.min_eq_left hd]
        rw [Nat.div_lt_iff_lt_mul (Nat.two_pow_pos _), ← Nat.pow_add]
        exact h
      · rw [Nat.min_eq_right (by omega)]
        rw [Nat.div_lt_iff_lt_mul (Nat.two_pow_pos _)]
        have h1 : n < 2 ^ (n.log2 + 1) := Nat.lt_log2_self
        calc n < 2 ^ (n.log2 + 1) := h1
          _ ≤ 2 ^ (n.log2 + 2) := Nat.pow_le_pow_right (by omega) (by omega)
          _ ≤ 2 ^ K * 2 ^ (n.log2 + 2) := Nat.le_mul_of_pos_left _ (Nat.two_pow_pos _)
    exact Nat.le_trans (Nat.add_le_add_left (hb _) _) (by omega)

/-- The rung of the word nearest to a number below '2 ^ A'. -/
theorem nearest_rung (f : Ieee.Format) (s : Bool) (m : Nat) (e A : Int) (hm : m ≠ 0) (hA : e + m.log2 + 1 ≤ A) (hl : f.leastPlace + f.fractionBits + 1 ≤ A) :
    ∃ r, f.nearest s m e = f.word s r ∧ r ≤ f.infRung ∧ (r : Int) ≤ (A - f.fractionBits - f.leastPlace + 1) * f.binade := by
  unfold Ieee.Format.nearest
  rw [if_neg hm]
  refine ⟨_, rfl, Nat.min_le_right _ _, ?_⟩
  generalize hlast : max (e + m.log2 - f.fractionBits) f.leastPlace = last
  have hlow : f.leastPlace ≤ last := by omega
  have hlast2 : e + m.log2 - f.fractionBits ≤ last := by omega
  have hlast3 : last ≤ A - 1 - f.fractionBits := by omega
  have hkept : Ieee.Toward.even.cut s (m <<< (e - last).toNat) (last - e).toNat ≤ 2 ^ (f.fractionBits + 1) := by
    apply cut_le
    rw [Nat.shiftLeft_eq]
    have h1 : m < 2 ^ (m.log2 + 1) := Nat.lt_log2_self
    calc m * 2 ^ (e - last).toNat < 2 ^ (m.log2 + 1) * 2 ^ (e - last).toNat := Nat.mul_lt_mul_of_pos_right h1 (Nat.two_pow_pos _)
      _ = 2 ^ (m.log2 + 1 + (e - last).toNat) := by rw [← Nat.pow_add]
      _ ≤ 2 ^ (f.fractionBits + 1 + (last - e).toNat) := Nat.pow_le_pow_right (by omega) (by omega)
  generalize Ieee.Toward.even.cut s (m <<< (e - last).toNat) (last - e).toNat = kept at hkept
  have hb : f.binade = 2 ^ f.fractionBits := rfl
  rw [Nat.pow_succ, ← hb] at hkept
  have h1 : min ((last - f.leastPlace).toNat * f.binade + kept) f.infRung ≤ (last - f.leastPlace).toNat * f.binade + kept := Nat.min_le_left _ _
  have h2 : (((last - f.leastPlace).toNat * f.binade + kept : Nat) : Int) ≤ (last - f.leastPlace) * f.binade + f.binade * 2 := by
    rw [Int.natCast_add, Int.natCast_mul, Int.toNat_of_nonneg (by omega)]
    have : (kept : Int) ≤ (f.binade : Int) * 2 := by exact_mod_cast hkept
    omega
  have h3 : (last - f.leastPlace) * (f.binade : Int) + f.binade * 2 = (last - f.leastPlace + 2) * f.binade := by
    rw [Int.add_mul]; omega
  have h4 : (last - f.leastPlace + 2) * (f.binade : Int) ≤ (A - f.fractionBits - f.leastPlace + 1) * f.binade :=
    Int.mul_le_mul_of_nonneg_right (by omega) (by omega)
  omega

theorem word_mod (f : Ieee.Format) (s : Bool) {r : Nat} (h : r < f.signWeight) : f.word s r % f.signWeight = r := by
  unfold Ieee.Format.word
  split
  · rw [Nat.add_mod_left, Nat.mod_eq_of_lt h]
  · exact Nat.mod_eq_of_lt h

/-- A finite number below '2 ^ A' in size. -/
def lt (k : FloatKind) (b : Nat) (A : Int) : Prop := ∃ s m e, k.format.read b = .number s m e ∧ (m ≠ 0 → e + m.log2 + 1 ≤ A)

theorem lt.mono {k : FloatKind} {b : Nat} {A B : Int} (h : lt k b A) (hAB : A ≤ B) : lt k b B := by
  obtain ⟨s, m, e, hr, hm⟩ := h
  exact ⟨s, m, e, hr, fun h0 => by have := hm h0; omega⟩
theorem lt.notNan {k : FloatKind} {b : Nat} {A : Int} (h : lt k b A) : isNan k b = false := by
  obtain ⟨s, m, e, hr, _⟩ := h
  simp [isNan, hr, Ieee.Datum.isNaN]

theorem read_word (k : FloatKind) (s : Bool) {r : Nat} (h : r < k.format.infRung) :
    ∃ s' m e, k.format.read (k.format.word s r) = .number s' m e ∧ (m ≠ 0 → m.log2 ≤ k.format.fractionBits ∧ (e + m.log2 + 1 - k.format.fractionBits - k.format.leastPlace ≤ max 0 ((r / k.format.binade : Nat) : Int))) := by
  have hs : k.format.infRung < k.format.signWeight := Ieee.Format.infRung_lt _
  unfold Ieee.Format.read
  rw [word_mod _ _ (by omega)]
  have hb : k.format.binade = 2 ^ k.format.fractionBits := rfl
  have hbp : 0 < k.format.binade := by rw [hb]; exact Nat.two_pow_pos _
  dsimp only
  split
  · rename_i h1
    refine ⟨_, _, _, rfl, fun h0 => ?_⟩
    rw [hb] at h1
    have := (Nat.log2_lt h0).2 h1
    omega
  · rename_i h1
    refine ⟨_, _, _, rfl, fun h0 => ?_⟩
    have e1 : (k.format.binade + r % k.format.binade).log2 = k.format.fractionBits := by
      refine (Nat.log2_eq_iff h0).2 ⟨?_, ?_⟩
      · rw [← hb]; omega
      · rw [Nat.pow_succ, ← hb]
        have := Nat.mod_lt r hbp
        omega
    rw [e1]
    have h2 : 1 ≤ r / k.format.binade := (Nat.le_div_iff_mul_le hbp).2 (by omega)
    omega

theorem lt_nearest (k : FloatKind) (s : Bool) (m : Nat) (e A : Int) (hA : m ≠ 0 → e + m.log2 + 1 ≤ A) (lo : k.format.leastPlace + k.format.fractionBits + 1 ≤ A)
    (hi : (A - k.format.fractionBits - k.format.leastPlace + 1) * k.format.binade < k.format.infRung) : lt k (k.format.nearest s m e) (A + 1) := by
  have hb : k.format.binade = 2 ^ k.format.fractionBits := rfl
  have hbp : 0 < k.format.binade := by rw [hb]; exact Nat.two_pow_pos _
  have key : ∀ r : Nat, (r : Int) ≤ (A - k.format.fractionBits - k.format.leastPlace + 1) * k.format.binade → lt k (k.format.word s r) (A + 1) := by
    intro r hr
    obtain ⟨s', m', e', hread, hm'⟩ := read_word k s (r := r) (by omega)
    refine ⟨s', m', e', hread, fun h0 => ?_⟩
    have := (hm' h0).2
    have h3 : ((r / k.format.binade : Nat) : Int) ≤ A - k.format.fractionBits - k.format.leastPlace + 1 := by
      rw [Int.natCast_ediv]
      exact Int.ediv_le_of_le_mul (by omega) hr
    omega
  by_cases hm : m = 0
  · subst hm
    have : k.format.nearest s 0 e = k.format.word s 0 := by simp [Ieee.Format.nearest]
    rw [this]
    refine key 0 ?_
    have : 0 ≤ (A - k.format.fractionBits - k.format.leastPlace + 1) * (k.format.binade : Int) := Int.mul_nonneg (by omega) (by omega)
    omega
  · obtain ⟨r, hr, _, h2⟩ := nearest_rung k.format s m e A hm (hA hm) lo
    rw [hr]
    exact key r h2

theorem log2_mul_le {m n : Nat} (hm : m ≠ 0) (hn : n ≠ 0) : (m * n).log2 ≤ m.log2 + n.log2 + 1 := by
  have h0 : m * n ≠ 0 := Nat.mul_ne_zero hm hn
  have h1 : m * n < 2 ^ (m.log2 + n.log2 + 2) := by
    have a := @Nat.lt_log2_self m
    have b := @Nat.lt_log2_self n
    calc m * n < 2 ^ (m.log2 + 1) * 2 ^ (n.log2 + 1) := Nat.mul_lt_mul'' a b
      _ = 2 ^ (m.log2 + n.log2 + 2) := by rw [← Nat.pow_add]; congr 1; omega
  have := (Nat.log2_lt h0).2 h1
  omega

/-- What stands for a format's place for bounds: from 'lo' on nothing is lost, up to 'hi' nothing overflows. -/
def fine (k : FloatKind) (A : Int) : Prop := k.format.leastPlace + k.format.fractionBits + 1 ≤ A ∧ (A - k.format.fractionBits - k.format.leastPlace + 1) * k.format.binade < k.format.infRung

theorem lt_mul {k : FloatKind} {x y : Nat} {A B : Int} (hx : lt k x A) (hy : lt k y B) (hf : fine k (A + B)) :
    ∃ r, floatBits .mul k x y = some r ∧ lt k r (A + B + 1) := by
  obtain ⟨s, m, i, hr, hm⟩ := hx
  obtain ⟨t, n, j, hr2, hn⟩ := hy
  refine ⟨_, by simp only [floatBits, Ieee.Format.mul, hr, hr2, Ieee.Datum.product, Option.map_some]; rfl, ?_⟩
  refine lt_nearest k _ _ _ _ (fun h0 => ?_) hf.1 hf.2
  have m0 : m ≠ 0 := fun h => h0 (by rw [h, Nat.zero_mul])
  have n0 : n ≠ 0 := fun h => h0 (by rw [h, Nat.mul_zero])
  have := log2_mul_le m0 n0
  have := hm m0
  have := hn n0
  omega

theorem signed_natAbs (s : Bool) (m up : Nat) : (Ieee.signed s m up).natAbs = m * 2 ^ up := by
  unfold Ieee.signed
  rw [Nat.shiftLeft_eq]
  split
  · rw [Int.natAbs_neg, Int.natAbs_natCast]
  · rw [Int.natAbs_natCast]

theorem sum_bound {s t : Bool} {m n : Nat} {i j A B : Int} (hm : m ≠ 0 → i + m.log2 + 1 ≤ A) (hn : n ≠ 0 → j + n.log2 + 1 ≤ B) :
    let base := min i j
    let total := Ieee.signed s m (i - base).toNat + Ieee.signed t n (j - base).toNat
    total.natAbs ≠ 0 → base + total.natAbs.log2 + 1 ≤ max A B + 1 := by
  intro base total h0
  have hb1 : base ≤ i := by omega
  have hb2 : base ≤ j := by omega
  have hab : total.natAbs ≤ m * 2 ^ (i - base).toNat + n * 2 ^ (j - base).toNat := by
    rw [← signed_natAbs s, ← signed_natAbs t]
    exact Int.natAbs_add_le _ _
  -- each limb lies below 2 ^ (max A B - base)
  have limb : ∀ (m : Nat) (i A : Int), base ≤ i → (m ≠ 0 → i + m.log2 + 1 ≤ A) → m ≠ 0 → m * 2 ^ (i - base).toNat < 2 ^ (A - base).toNat := by
    intro m i A hb hm h
    have h1 := hm h
    calc m * 2 ^ (i - base).toNat < 2 ^ (m.log2 + 1) * 2 ^ (i - base).toNat := Nat.mul_lt_mul_of_pos_right Nat.lt_log2_self (Nat.two_pow_pos _)
      _ = 2 ^ (m.log2 + 1 + (i - base).toNat) := by rw [← Nat.pow_add]
      _ ≤ 2 ^ (A - base).toNat := Nat.pow_le_pow_right (by omega) (by omega)
  by_cases m0 : m = 0
  · by_cases n0 : n = 0
    · subst m0; subst n0
      simp only [Nat.zero_mul, Nat.add_zero, Nat.le_zero] at hab
      exact absurd hab h0
    · have h1 := limb n j B hb2 hn n0
      have h2 : total.natAbs < 2 ^ (B - base).toNat := by subst m0; simp only [Nat.zero_mul, Nat.zero_add] at hab; omega
      have h3 := (Nat.log2_lt h0).2 h2
      have := hn n0
      omega
  · by_cases n0 : n = 0
    · have h1 := limb m i A hb1 hm m0
      have h2 : total.natAbs < 2 ^ (A - base).toNat := by subst n0; simp only [Nat.zero_mul, Nat.add_zero] at hab; omega
      have h3 := (Nat.log2_lt h0).2 h2
      have := hm m0
      omega
    · have h1 := limb m i A hb1 hm m0
      have h1' := limb n j B hb2 hn n0
      have a1 := hm m0
      have a2 := hn n0
      have e1 : 2 ^ (A - base).toNat ≤ 2 ^ (max A B - base).toNat := Nat.pow_le_pow_right (by omega) (by omega)
      have e2 : 2 ^ (B - base).toNat ≤ 2 ^ (max A B - base).toNat := Nat.pow_le_pow_right (by omega) (by omega)
      have h2 : total.natAbs < 2 ^ ((max A B - base).toNat + 1) := by rw [Nat.pow_succ]; omega
      have h3 := (Nat.log2_lt h0).2 h2
      omega

theorem lt_add {k : FloatKind} {x y : Nat} {A B : Int} (hx : lt k x A) (hy : lt k y B) (hf : fine k (max A B + 1)) :
    ∃ r, floatBits .add k x y = some r ∧ lt k r (max A B + 2) := by
  obtain ⟨s, m, i, hr, hm⟩ := hx
  obtain ⟨t, n, j, hr2, hn⟩ := hy
  refine ⟨_, by simp only [floatBits, Ieee.Format.add, hr, hr2, Ieee.Datum.sum, Option.map_some]; rfl, ?_⟩
  exact (lt_nearest k _ _ _ _ (sum_bound hm hn) hf.1 hf.2).mono (by omega)
theorem lt_sub {k : FloatKind} {x y : Nat} {A B : Int} (hx : lt k x A) (hy : lt k y B) (hf : fine k (max A B + 1)) :
    ∃ r, floatBits .sub k x y = some r ∧ lt k r (max A B + 2) := by
  obtain ⟨s, m, i, hr, hm⟩ := hx
  obtain ⟨t, n, j, hr2, hn⟩ := hy
  refine ⟨_, by simp only [floatBits, Ieee.Format.sub, hr, hr2, Ieee.Datum.opposite, Ieee.Datum.sum, Option.map_some]; rfl, ?_⟩
  exact (lt_nearest k _ _ _ _ (sum_bound hm hn) hf.1 hf.2).mono (by omega)

/-- A number of size at least '2 ^ C'. -/
def ge (k : FloatKind) (b : Nat) (C : Int) : Prop := ∃ s m e, k.format.read b = .number s m e ∧ m ≠ 0 ∧ C ≤ e + m.log2

theorem lt_quo {k : FloatKind} {x y : Nat} {A C : Int} (hx : lt k x A) (hy : ge k y C) (hf : fine k (A - C + 1)) :
    ∃ r, floatBits .quo k x y = some r ∧ lt k r (A - C + 2) := by
  obtain ⟨s, m, i, hr, hm⟩ := hx
  obtain ⟨t, n, j, hr2, n0, hn⟩ := hy
  refine ⟨_, by simp only [floatBits, Ieee.Format.div, hr, hr2, Ieee.Datum.quotient, if_neg n0, Option.map_some]; rfl, ?_⟩
  refine (lt_nearest k _ _ _ (A - C + 1) (fun h0 => ?_) hf.1 hf.2).mono (by omega)
  generalize hmore : k.format.fractionBits + 2 + n.log2 - m.log2 = more at *
  by_cases m0 : m = 0
  · subst m0
    simp at h0
  have h1 : m <<< more < 2 ^ (m.log2 + 1 + more) := by
    rw [Nat.shiftLeft_eq, Nat.pow_add]
    exact Nat.mul_lt_mul_of_pos_right Nat.lt_log2_self (Nat.two_pow_pos _)
  have h2 : 2 ^ n.log2 ≤ n := Nat.log2_self_le n0
  have hge : n.log2 ≤ m.log2 + 1 + more := by omega
  have h3 : m <<< more / n < 2 ^ (m.log2 + 1 + more - n.log2) := by
    rw [Nat.div_lt_iff_lt_mul (by omega)]
    calc m <<< more < 2 ^ (m.log2 + 1 + more) := h1
      _ = 2 ^ (m.log2 + 1 + more - n.log2) * 2 ^ n.log2 := by rw [← Nat.pow_add]; congr 1; omega
      _ ≤ 2 ^ (m.log2 + 1 + more - n.log2) * n := Nat.mul_le_mul_left _ h2
  have hb : ∀ b : Bool, b.toNat ≤ 1 := by intro b; cases b <;> simp
  have h4 : 2 * (m <<< more / n) + (m <<< more % n != 0).toNat < 2 ^ (m.log2 + 2 + more - n.log2) := by
    have e : m.log2 + 2 + more - n.log2 = m.log2 + 1 + more - n.log2 + 1 := by omega
    rw [e, Nat.pow_succ]
    have := hb (m <<< more % n != 0)
    omega
  have h5 := (Nat.log2_lt h0).2 h4
  have := hm m0
  omega
end Go.Fk

/- Conversions between the two widths of floats, up to the bits of NaN. Nothing here names a program. -/
namespace Go.Fk
open Go Go.RowKit

/-- What 'float64(x)' of a narrow x is, up to the bits of NaN. -/
def widen (b : Nat) : Nat := match FloatKind.f32.format.read b with
  | .nan _ _ => qnan .f64
  | d => FloatKind.f64.encode d
/-- What 'float32(x)' of a wide x is, up to the bits of NaN, where it does not overflow. -/
def narrow (b : Nat) : Nat := match FloatKind.f64.format.read b with
  | .nan _ _ => qnan .f32
  | d => FloatKind.f32.encode d

theorem widen_can (b : Nat) : widen (can .f32 b) = widen b := by
  cases h : isNan .f32 b
  · rw [can_of_not h]
  · rw [can_of_nan h]
    obtain ⟨s, t, hr⟩ := read_nan h
    obtain ⟨s', t', hr'⟩ := read_nan (isNan_qnan .f32)
    simp only [widen, hr, hr']
theorem widen_congr {a b : Nat} (h : can .f32 a = can .f32 b) : widen a = widen b := by rw [← widen_can a, h, widen_can]
theorem narrow_can (b : Nat) : narrow (can .f64 b) = narrow b := by
  cases h : isNan .f64 b
  · rw [can_of_not h]
  · rw [can_of_nan h]
    obtain ⟨s, t, hr⟩ := read_nan h
    obtain ⟨s', t', hr'⟩ := read_nan (isNan_qnan .f64)
    simp only [narrow, hr, hr']
theorem narrow_congr {a b : Nat} (h : can .f64 a = can .f64 b) : narrow a = narrow b := by rw [← narrow_can a, h, narrow_can]

/-- Every finite narrow number lies below '2 ^ 128'. -/
theorem lt32 {b : Nat} {s : Bool} {m : Nat} {e : Int} (h : FloatKind.f32.format.read b = .number s m e) : m ≠ 0 → e + m.log2 + 1 ≤ 128 := by
  intro h0
  have e1 : Ieee.single.signWeight = 2147483648 := by decide
  have e2 : Ieee.single.infRung = 2139095040 := by decide
  have e3 : Ieee.single.binade = 8388608 := by decide
  have e4 : Ieee.single.leastPlace = -149 := by decide
  simp only [FloatKind.format, Ieee.Format.read, e1, e2, e3, e4] at h
  split at h
  · simp only [Ieee.Datum.number.injEq] at h
    obtain ⟨_, rfl, rfl⟩ := h
    have : (b % 2147483648).log2 < 23 := (Nat.log2_lt h0).2 (by omega)
    omega
  · split at h
    · simp only [Ieee.Datum.number.injEq] at h
      obtain ⟨_, rfl, rfl⟩ := h
      have : (8388608 + b % 2147483648 % 8388608).log2 < 24 := (Nat.log2_lt h0).2 (by omega)
      omega
    · split at h <;> cases h
/-- Every finite wide number lies below '2 ^ 1024'. -/
theorem lt64 {b : Nat} {s : Bool} {m : Nat} {e : Int} (h : FloatKind.f64.format.read b = .number s m e) : m ≠ 0 → e + m.log2 + 1 ≤ 1024 := by
  intro h0
  have e1 : Ieee.double.signWeight = 9223372036854775808 := by decide
  have e2 : Ieee.double.infRung = 9218868437227405312 := by decide
  have e3 : Ieee.double.binade = 4503599627370496 := by decide
  have e4 : Ieee.double.leastPlace = -1074 := by decide
  simp only [FloatKind.format, Ieee.Format.read, e1, e2, e3, e4] at h
  split at h
  · simp only [Ieee.Datum.number.injEq] at h
    obtain ⟨_, rfl, rfl⟩ := h
    have : (b % 9223372036854775808).log2 < 52 := (Nat.log2_lt h0).2 (by omega)
    omega
  · split at h
    · simp only [Ieee.Datum.number.injEq] at h
      obtain ⟨_, rfl, rfl⟩ := h
      have : (4503599627370496 + b % 9223372036854775808 % 4503599627370496).log2 < 53 := (Nat.log2_lt h0).2 (by omega)
      omega
    · split at h <;> cases h

theorem fine64 {A : Int} (h1 : -1021 ≤ A) (h2 : A ≤ 1022) : fine .f64 A := by
  have e2 : Ieee.double.infRung = 9218868437227405312 := by decide
  have e3 : Ieee.double.binade = 4503599627370496 := by decide
  have e4 : Ieee.double.leastPlace = -1074 := by decide
  have e5 : Ieee.double.fractionBits = 52 := by decide
  simp only [fine, FloatKind.format, e2, e3, e4, e5]
  omega
theorem fine32 {A : Int} (h1 : -125 ≤ A) (h2 : A ≤ 126) : fine .f32 A := by
  have e2 : Ieee.single.infRung = 2139095040 := by decide
  have e3 : Ieee.single.binade = 8388608 := by decide
  have e4 : Ieee.single.leastPlace = -149 := by decide
  have e5 : Ieee.single.fractionBits = 23 := by decide
  simp only [fine, FloatKind.format, e2, e3, e4, e5]
  omega

theorem lt_encode {k : FloatKind} {s : Bool} {m : Nat} {e A : Int} (h : m ≠ 0 → e + m.log2 + 1 ≤ A) (hf : fine k A) : lt k (k.encode (.number s m e)) (A + 1) :=
  lt_nearest k s m e A h hf.1 hf.2
theorem lt.notInf {k : FloatKind} {b : Nat} {A : Int} (h : lt k b A) : (k.decode b).isInfinity = false := by
  obtain ⟨s, m, e, hr, _⟩ := h
  simp [FloatKind.decode, hr, Ieee.Datum.isInfinity]

/-- May be narrowed: what the language fixes. -/
def narrowable (b : Nat) : Prop := isNan .f64 b = true ∨ (FloatKind.f64.format.read b).isInfinity = true ∨ lt .f64 b 126

section
variable {P : Program}
theorem run_widen (w : World) (src dst : TypeId) (b : Nat) (hs : P.underlying src = some (.float .f32)) (hd : P.underlying dst = some (.float .f64)) :
    ∃ r n, (convert src dst (.float .f32 b)).run P w = .ok (.float .f64 r) (w.drewN n) ∧ can .f64 r = can .f64 (widen b) ∧ fits .f64 r := by
  cases hr : FloatKind.f32.format.read b with
  | nan s t =>
    refine ⟨(Question.nanConv .f64 b).cut (w.tape w.drawn (.nanConv .f64 b)), 1, ?_, ?_, (nan_conv .f64 b _).2⟩
    · simp [convert, run_underlying hs, run_underlying hd, Conv.floatToFloat, FloatKind.decode, hr, Question.forced]; rfl
    · rw [can_of_nan (nan_conv .f64 b _).1]; simp only [widen, hr, can_qnan]
  | infinity s =>
    refine ⟨FloatKind.f64.encode (.infinity s), 0, ?_, by simp only [widen, hr], encode_wf _ _⟩
    simp [convert, run_underlying hs, run_underlying hd, Conv.floatToFloat, FloatKind.decode, hr]; rfl
  | number s m e =>
    refine ⟨FloatKind.f64.encode (.number s m e), 0, ?_, by simp only [widen, hr], encode_wf _ _⟩
    have h := (lt_encode (k := .f64) (s := s) (lt32 hr) (fine64 (by omega) (by omega))).notInf
    have hr' : FloatKind.f32.decode b = .number s m e := hr
    simp [convert, run_underlying hs, run_underlying hd, Conv.floatToFloat, hr', h]; rfl

theorem run_narrow (w : World) (src dst : TypeId) (b : Nat) (hs : P.underlying src = some (.float .f64)) (hd : P.underlying dst = some (.float .f32)) (hb : narrowable b) :
    ∃ r n, (convert src dst (.float .f64 b)).run P w = .ok (.float .f32 r) (w.drewN n) ∧ can .f32 r = can .f32 (narrow b) ∧ fits .f32 r := by
  cases hr : FloatKind.f64.format.read b with
  | nan s t =>
    refine ⟨(Question.nanConv .f32 b).cut (w.tape w.drawn (.nanConv .f32 b)), 1, ?_, ?_, (nan_conv .f32 b _).2⟩
    · simp [convert, run_underlying hs, run_underlying hd, Conv.floatToFloat, FloatKind.decode, hr, Question.forced]; rfl
    · rw [can_of_nan (nan_conv .f32 b _).1]; simp only [narrow, hr, can_qnan]
  | infinity s =>
    refine ⟨FloatKind.f32.encode (.infinity s), 0, ?_, by simp only [narrow, hr], encode_wf _ _⟩
    simp [convert, run_underlying hs, run_underlying hd, Conv.floatToFloat, FloatKind.decode, hr]; rfl
  | number s m e =>
    refine ⟨FloatKind.f32.encode (.number s m e), 0, ?_, by simp only [narrow, hr], encode_wf _ _⟩
    have hl : lt .f64 b 126 := by
      rcases hb with h | h | h
      · simp [isNan, hr, Ieee.Datum.isNaN] at h
      · simp [hr, Ieee.Datum.isInfinity] at h
      · exact h
    obtain ⟨s', m', e', hr', hm⟩ := hl
    rw [hr] at hr'
    cases hr'
    have h := (lt_encode (k := .f32) (s := s) hm (fine32 (by omega) (by omega))).notInf
    have hr' : FloatKind.f64.decode b = .number s m e := hr
    simp [convert, run_underlying hs, run_underlying hd, Conv.floatToFloat, hr', h]; rfl

variable {w : World} {ops : Array Oper} {rest : List Oper} {o : Oper} {a : Act} {Q : Exit → Act → World → Prop}
theorem wpList_widen (hg : o.guard = none) {src dst : TypeId} {x : Operand} (hop : o.op = Op.convert src dst x) {b : Nat} (hx : a.eval x = .float .f32 b)
    (hs : P.underlying src = some (.float .f32)) (hd : P.underlying dst = some (.float .f64))
    (hK : ∀ r n, Hid (can .f64 r = can .f64 (widen b)) → Hid (fits .f64 r) → wpList P ops Q rest (a.put o.dst (.float .f64 r)) (w.drewN n)) : wpList P ops Q (o :: rest) a w := by
  refine wpList_plain hg fun K hK' => ?_
  obtain ⟨r, n, hrun, hr, hf⟩ := run_widen (P := P) w src dst b hs hd
  unfold Oper.wp
  simp [execOp, hop, hx, hrun, Result.andThen]
  exact hK' _ _ (hK r n hr hf)
theorem wpList_narrow (hg : o.guard = none) {src dst : TypeId} {x : Operand} (hop : o.op = Op.convert src dst x) {b : Nat} (hx : a.eval x = .float .f64 b)
    (hs : P.underlying src = some (.float .f64)) (hd : P.underlying dst = some (.float .f32)) (hb : narrowable b)
    (hK : ∀ r n, Hid (can .f32 r = can .f32 (narrow b)) → Hid (fits .f32 r) → wpList P ops Q rest (a.put o.dst (.float .f32 r)) (w.drewN n)) : wpList P ops Q (o :: rest) a w := by
  refine wpList_plain hg fun K hK' => ?_
  obtain ⟨r, n, hrun, hr, hf⟩ := run_narrow (P := P) w src dst b hs hd hb
  unfold Oper.wp
  simp [execOp, hop, hx, hrun, Result.andThen]
  exact hK' _ _ (hK r n hr hf)
end
end Go.Fk

/- Blocks of memory that hold known rows of cells, told of worlds that are variables. Nothing here names a program. -/
namespace Go.Fk
open Go Go.RowKit

/-- A row of n cells, told by a function. -/
def tab (f : Nat → Value) (n : Nat) : Array Value := ((List.range n).map f).toArray
theorem size_tab (f : Nat → Value) (n : Nat) : (tab f n).size = n := by simp [tab]
theorem get_tab (f : Nat → Value) (n j : Nat) (h : j < n) : (tab f n)[j]? = some (f j) := by simp [tab, h]
theorem set_tab (f : Nat → Value) (n k : Nat) (v : Value) : (tab f n).setIfInBounds k v = tab (fun j => if j = k then v else f j) n := by
  apply Array.ext
  · simp [tab]
  · intro i h1 h2
    simp only [tab, List.size_toArray, List.length_map, List.length_range, Array.size_setIfInBounds] at h1 h2
    rw [Array.getElem_setIfInBounds]
    · simp [tab, eq_comm]
    · simpa [tab] using h1
theorem tab_congr {f g : Nat → Value} {n : Nat} (h : ∀ j, j < n → f j = g j) : tab f n = tab g n := by
  unfold tab
  congr 1
  exact List.map_congr_left (fun j hj => h j (List.mem_range.1 hj))
theorem tab_of_list (l : List Value) (d : Value) : l.toArray = tab (fun j => l.getD j d) l.length := by
  unfold tab
  congr 1
  apply List.ext_getElem
  · simp
  · intro i h1 h2
    simp [List.getD, List.getElem?_eq_getElem h1]
theorem all_tab (f : Nat → Value) (n : Nat) (p : Value → Bool) (h : ∀ j, j < n → p (f j) = true) : (tab f n).all p = true := by
  simp only [tab, Array.all_eq_true_iff_forall_mem]
  intro v hv
  simp only [List.mem_toArray, List.mem_map, List.mem_range] at hv
  obtain ⟨j, hj, rfl⟩ := hv
  exact h j hj

/-- A row of floats. -/
def ftab (k : FloatKind) (g : Nat → Nat) (n : Nat) : Array Value := tab (fun j => .float k (g j)) n
def itab (k : IntKind) (g : Nat → Int) (n : Nat) : Array Value := tab (fun j => .int k (g j)) n
theorem size_ftab (k : FloatKind) (g : Nat → Nat) (n : Nat) : (ftab k g n).size = n := size_tab _ _
theorem get_ftab (k : FloatKind) (g : Nat → Nat) (n j : Nat) (h : j < n) : (ftab k g n)[j]? = some (.float k (g j)) := get_tab _ _ _ h
theorem get_itab (k : IntKind) (g : Nat → Int) (n j : Nat) (h : j < n) : (itab k g n)[j]? = some (.int k (g j)) := get_tab _ _ _ h
theorem size_itab (k : IntKind) (g : Nat → Int) (n : Nat) : (itab k g n).size = n := size_tab _ _
theorem set_ftab (kd : FloatKind) (g : Nat → Nat) (n k r : Nat) : (ftab kd g n).setIfInBounds k (.float kd r) = ftab kd (fun j => if j = k then r else g j) n := by
  unfold ftab; rw [set_tab]; congr 1; funext j; by_cases h : j = k <;> simp [h]
theorem set_itab (kd : IntKind) (g : Nat → Int) (n k : Nat) (r : Int) : (itab kd g n).setIfInBounds k (.int kd r) = itab kd (fun j => if j = k then r else g j) n := by
  unfold itab; rw [set_tab]; congr 1; funext j; by_cases h : j = k <;> simp [h]
theorem ftab_congr {kd : FloatKind} {f g : Nat → Nat} {n : Nat} (h : ∀ j, j < n → f j = g j) : ftab kd f n = ftab kd g n := tab_congr (fun j hj => by rw [h j hj])
theorem ftab_of_list (kd : FloatKind) (l : List Nat) : (l.map (Value.float kd)).toArray = ftab kd (fun j => l.getD j 0) l.length := by
  unfold ftab tab
  congr 1
  apply List.ext_getElem
  · simp
  · intro i h1 h2
    simp at h1
    simp [List.getD, List.getElem?_eq_getElem h1]
theorem itab_of_list (kd : IntKind) (l : List Int) : (l.map (Value.int kd)).toArray = itab kd (fun j => l.getD j 0) l.length := by
  unfold itab tab
  congr 1
  apply List.ext_getElem
  · simp
  · intro i h1 h2
    simp at h1
    simp [List.getD, List.getElem?_eq_getElem h1]
theorem one_ftab (kd : FloatKind) (g : Nat → Nat) (n : Nat) : (ftab kd g n).all (·.oneCell') = true := all_tab _ _ _ (fun _ _ => rfl)
theorem one_itab (kd : IntKind) (g : Nat → Int) (n : Nat) : (itab kd g n).all (·.oneCell') = true := all_tab _ _ _ (fun _ _ => rfl)

/-- Block g holds just this row. -/
def Row (w : World) (g : Nat) (t : TypeId) (cs : Array Value) : Prop := w.heap[g]? = some (.cells cs t (0, 0))

namespace Row
variable {w w' : World} {g : Nat} {t : TypeId} {cs : Array Value}
theorem lt (h : Row w g t cs) : g < w.heap.size := by
  unfold Row at h
  rcases Nat.lt_or_ge g w.heap.size with h1 | h1
  · exact h1
  · rw [Array.getElem?_eq_none h1] at h; cases h
theorem cell? (h : Row w g t cs) (i : Nat) : w.cell? ⟨g, i, none⟩ = cs[i]? := cell_of_row w g i cs t (0, 0) h
theorem frozen (h : Row w g t cs) (i : Nat) : w.frozen? ⟨g, i, none⟩ = false := frozen_of_row w g i cs t h
theorem tab {f : Nat → Value} {n : Nat} (h : Row w g t (tab f n)) {i : Nat} (hi : i < n) : w.cell? ⟨g, i, none⟩ = some (f i) := by rw [h.cell?, get_tab f n i hi]
theorem ftab {kd : FloatKind} {f : Nat → Nat} {n : Nat} (h : Row w g t (ftab kd f n)) {i : Nat} (hi : i < n) : w.cell? ⟨g, i, none⟩ = some (.float kd (f i)) := Row.tab h hi
theorem itab {kd : IntKind} {f : Nat → Int} {n : Nat} (h : Row w g t (itab kd f n)) {i : Nat} (hi : i < n) : w.cell? ⟨g, i, none⟩ = some (.int kd (f i)) := Row.tab h hi
theorem ne_of {g' : Nat} {t' : TypeId} {cs' : Array Value} (h : Row w g t cs) (h' : Row w g' t' cs') (ht : t ≠ t') : g ≠ g' := by
  rintro rfl
  unfold Row at h h'
  rw [h] at h'
  simp only [Option.some.injEq, Obj.cells.injEq] at h'
  exact ht h'.2.1
theorem set (h : Row w g t cs) (i : Nat) (v : Value) : Row (w.setCell ⟨g, i, none⟩ v) g t (cs.setIfInBounds i v) := heap_setCell_same w g i cs t v h
theorem other (h : Row w g t cs) (a : Addr) (v : Value) (hne : g ≠ a.block) : Row (w.setCell a v) g t cs := by
  unfold Row; rw [heap_setCell_other w a g v hne]; exact h
theorem new (w : World) (t : TypeId) (cs : Array Value) : Row (w.alloc (.cells cs t)) w.heap.size t cs := _root_.Go.heap_alloc_new w _
theorem new' {n : Nat} (w : World) (t : TypeId) (cs : Array Value) (hn : n = w.heap.size) : Row (w.alloc (.cells cs t)) n t cs := by subst hn; exact _root_.Go.heap_alloc_new w _
theorem alloc (h : Row w g t cs) (o : Obj) : Row (w.alloc o) g t cs := by
  unfold Row; rw [Below.heap_alloc w o g h.lt]; exact h
theorem drewN (h : Row w g t cs) (n : Nat) : Row (w.drewN n) g t cs := h
theorem drew (h : Row w g t cs) : Row w.drew g t cs := h
theorem below {B : Nat} (h : Row w g t cs) (hb : Below B w w') (hg : g < B) : Row w' g t cs := by
  unfold Row; rw [hb.block g hg]; exact h
theorem setRow (h : Row w g t cs) (ds : Array Value) : Row (w.setRow g ds) g t ds := by
  unfold Row at *
  unfold World.setRow
  simp [Array.getElem?_modify, h]
theorem setRow_other (h : Row w g t cs) {g' : Nat} (hne : g ≠ g') (ds : Array Value) : Row (w.setRow g' ds) g t cs := by
  unfold Row at *
  unfold World.setRow
  rw [Array.getElem?_modify, if_neg (Ne.symm hne)]; exact h
end Row
theorem below_setRow {B : Nat} {a w : World} (h : Below B a w) {g : Nat} (hg : B ≤ g) (ds : Array Value) : Below B a (w.setRow g ds) := by
  refine h.trans ⟨rfl, rfl, rfl, ?_, ?_⟩
  · simp [World.setRow]
  · intro k hk
    unfold World.setRow
    rw [Array.getElem?_modify, if_neg (by omega)]

section
variable {P : Program} {w : World} {ops : Array Oper} {rest : List Oper} {o : Oper} {a : Act} {Q : Exit → Act → World → Prop}
/-- An element of an array value. -/
theorem run_index_arr (w : World) {t e : TypeId} {n k : Nat} {cs : Array Value} {v : Value} {fk : FloatKind} (h : P.underlying t = some (.array n e)) (he : P.underlying e = some (.float fk)) (hs : (P.info? e).map (·.size) = some 1)
    (hk : k < n) (hc : cs[k]? = some v) (kk : IntKind) : (Instr.index t (.agg cs) (.int kk (k : Int))).run P w = .ok v w := by
  cases hq : P.info? e with
  | none => simp [hq] at hs
  | some i =>
    have hsz : i.size = 1 := by simpa [hq] using hs
    have h2 : (k : Int) < n := by omega
    simp [Instr.index, asIntOf, run_underlying h, sizeOf, typeInfo, hq, hsz, part, isAgg, run_underlying he, h2, hc]
    exact fun h => by omega
/-- An element of an array value. -/
theorem run_index_arr_i (w : World) {t e : TypeId} {n k : Nat} {cs : Array Value} {v : Value} {ik : IntKind} (h : P.underlying t = some (.array n e)) (he : P.underlying e = some (.int ik)) (hs : (P.info? e).map (·.size) = some 1)
    (hk : k < n) (hc : cs[k]? = some v) (kk : IntKind) : (Instr.index t (.agg cs) (.int kk (k : Int))).run P w = .ok v w := by
  cases hq : P.info? e with
  | none => simp [hq] at hs
  | some i =>
    have hsz : i.size = 1 := by simpa [hq] using hs
    have h2 : (k : Int) < n := by omega
    simp [Instr.index, asIntOf, run_underlying h, sizeOf, typeInfo, hq, hsz, part, isAgg, run_underlying he, h2, hc]
    exact fun h => by omega
/-- A whole array is loaded. -/
theorem wpList_loadA (hg : o.guard = none) {ty : TypeId} {x : Operand} (hop : o.op = .load ty x) {g : Nat} (hx : a.eval x = .pointer (some ⟨g, 0, none⟩)) {t : TypeId} {cs : Array Value} {n : Nat} {e : TypeId}
    (hr : Row w g t cs) (hu : P.underlying ty = some (.array n e)) (hi : (P.info? ty).map (·.size) = some cs.size)
    (h : wpList P ops Q rest (a.put o.dst (.agg cs)) w) : wpList P ops Q (o :: rest) a w :=
  wpList_load_row hg ty x hop g hx t cs (0, 0) _ hr hu rfl hi h
/-- A whole array is stored. -/
theorem wpList_storeA (hg : o.guard = none) {ty : TypeId} {x y : Operand} (hop : o.op = .store ty x y) {g : Nat} (hx : a.eval x = .pointer (some ⟨g, 0, none⟩)) {cells : Array Value} (hy : a.eval y = .agg cells) {t : TypeId} {old : Array Value}
    (hr : Row w g t old) (hi : (P.info? ty).map (·.size) = some cells.size) (ho : old.size = cells.size) (h1 : cells.all (·.oneCell') = true)
    (h : wpList P ops Q rest (a.put o.dst undef) (w.setRow g cells)) : wpList P ops Q (o :: rest) a w :=
  wpList_plain hg fun _ hK => wp_store_row ty x y hop g cells hx hy t old hr hi ho h1 (hK _ _ h)
/-- Two results: an array that lies in memory, and a slot. -/
theorem results_cellrow_tmp {fn : Func} {p u : Tmp} {ty : TypeId} (h : fn.results = #[.cell p ty, .tmp u]) (tmps : Array Value) (w : World) (g : Nat) (t : TypeId) (cs : Array Value) {n : Nat} {e : TypeId}
    (hp : tmps.getD p undef = .pointer (some ⟨g, 0, none⟩)) (hg : Row w g t cs) (hu : P.underlying ty = some (.array n e)) (hi : (P.info? ty).map (·.size) = some cs.size) :
    (results fn tmps).run P w = .ok (.tuple #[.agg cs, tmps.getD u undef]) w := by
  have hp' : tmps[p]?.getD undef = .pointer (some ⟨g, 0, none⟩) := by simpa using hp
  simp [results, h, hp', asAddr, run_loadVar_row w g t ty cs (0, 0) _ hg hu rfl hi]
end
end Go.Fk

/- A region that draws its order, whose operations may draw the bits of a NaN: one walk, in the order of the text, serves every order, also where an operation's value is known up to a predicate alone. 'C': the worlds that may be met. 'K': what is known of what a call gives. Nothing here names a program. -/
namespace Go.Fk
open Go Go.RowKit

section
variable (P : Program) (ops : Array Oper) (md : Region.Mode) (C : World → Prop) (K : FuncId → Array Value → Value → Prop)

/-- What an operation's run must be, for its value to be one of V. -/
def within (V : Value → Prop) : Result Next → Prop
  | .ok (.value u) w' => C w' ∧ V u
  | .ok .skip w' => C w' ∧ V undef
  | .ok (.enter f args) w' => Calls P f args w' (fun e w'' => ∃ v, e = .returned v ∧ K f args v ∧ C w'') ∧ ∀ v, K f args v → V v
  | _ => False

/-- In every world of the class the operation gives a value of V (none of its own where its guard bars it). -/
def Gives (o : Oper) (a : Act) (V : Value → Prop) : Prop :=
  (Region.wanted o (yielded ops a.tmps) = true ∧ ∀ w, C w → within P C K V ((execOp a.eval o).run P w)) ∨ (Region.wanted o (yielded ops a.tmps) = false ∧ V undef)

/-- The walk in the order of the text. -/
def wpLoose (Q : Act → Prop) : List Oper → Act → Prop
  | [], a => Q a
  | o :: rest, a => ∃ V, Gives P ops C K o a V ∧ ∀ v, V v → wpLoose Q rest (a.put o.dst v)

/-- Whatever order is picked. -/
def anyLoose (Q : Act → Prop) : Nat → Array Bool → Act → Prop
  | 0, listed, a => Region.ready md ops listed = [] ∧ Q a
  | fuel + 1, listed, a => (Region.ready md ops listed = [] → Q a) ∧
      ∀ i ∈ Region.ready md ops listed, ∀ o, ops[i]? = some o → ∃ V, Gives P ops C K o a V ∧ ∀ v, V v → anyLoose Q fuel (listed.setIfInBounds i true) (a.put o.dst v)
end

section
variable {P : Program} {ops : Array Oper} {md : Region.Mode} {C : World → Prop} {K : FuncId → Array Value → Value → Prop}

theorem within_mono {V U : Value → Prop} (h : ∀ v, V v → U v) {r : Result Next} (hr : within P C K V r) : within P C K U r := by
  cases r with
  | ok n w' =>
    cases n <;> simp only [within] at hr ⊢
    case value u => exact ⟨hr.1, h _ hr.2⟩
    case skip => exact ⟨hr.1, h _ hr.2⟩
    case enter f args => exact ⟨hr.1, fun v hv => h v (hr.2 v hv)⟩
  | halt x w' => simp only [within] at hr

/-- What holds for each of a family of predicates, of which there is one, holds for all at once. -/
theorem within_all {ι : Type} {p : ι → Prop} {V : ι → Value → Prop} {r : Result Next} (hne : ∃ i, p i) (h : ∀ i, p i → within P C K (V i) r) : within P C K (fun v => ∀ i, p i → V i v) r := by
  obtain ⟨i0, h0⟩ := hne
  have hr := h i0 h0
  cases r with
  | ok n w' =>
    cases n <;> simp only [within] at hr h ⊢
    case value u => exact ⟨hr.1, fun i hi => (h i hi).2⟩
    case skip => exact ⟨hr.1, fun i hi => (h i hi).2⟩
    case enter f args => exact ⟨hr.1, fun v hv i hi => (h i hi).2 v hv⟩
  | halt x w' => simp only [within] at hr

theorem Gives.same {o : Oper} {a a' : Act} {V : Value → Prop} (he : execOp a'.eval o = execOp a.eval o) (hw : Region.wanted o (yielded ops a'.tmps) = Region.wanted o (yielded ops a.tmps))
    (h : Gives P ops C K o a V) : Gives P ops C K o a' V := by
  unfold Gives at *; rw [he, hw]; exact h

theorem within_some {V : Value → Prop} {r : Result Next} (h : within P C K V r) : ∃ v, V v := by
  cases r with
  | ok n w' =>
    cases n <;> simp only [within] at h
    case value u => exact ⟨u, h.2⟩
    case skip => exact ⟨undef, h.2⟩
    case enter f args =>
      obtain ⟨e, w'', fr, ⟨v, _, hk, _⟩, _⟩ := h.1 []
      exact ⟨v, h.2 v hk⟩
  | halt x w' => simp only [within] at h
theorem Gives.some (hC : ∃ w, C w) {o : Oper} {a : Act} {V : Value → Prop} (h : Gives P ops C K o a V) : ∃ v, V v := by
  obtain ⟨w, hw⟩ := hC
  rcases h with ⟨_, h⟩ | ⟨_, h⟩
  · exact within_some (h w hw)
  · exact ⟨undef, h⟩

theorem anyLoose_sound {Q : Act → Prop} {Q' : Exit → Act → World → Prop} (hQ : ∀ a w, C w → Q a → Q' .normal a w) : ∀ (fuel : Nat) (listed : Array Bool) (a : Act) (w : World), C w →
    anyLoose P ops md C K Q fuel listed a → wpAny P md ops Q' fuel listed a w := by
  intro fuel
  induction fuel with
  | zero => intro listed a w hw h; exact ⟨h.1, hQ a w hw h.2⟩
  | succ fuel ih =>
    intro listed a w hw h
    refine ⟨fun h0 => hQ a w hw (h.1 h0), fun i hi => ?_⟩
    obtain ⟨_, o, ho, _⟩ := mem_ready.1 hi
    obtain ⟨V, hg, hn⟩ := h.2 i hi o ho
    unfold wpOp
    simp only [ho]
    rcases hg with ⟨hwant, hv⟩ | ⟨hwant, hv⟩
    · rw [if_pos hwant]
      left
      have h3 := hv w hw
      unfold Oper.wp
      generalize (execOp a.eval o).run P w = r at h3
      cases r with
      | ok n w' =>
        cases n <;> simp only [within] at h3 <;> simp only [Oper.upon]
        case value u => exact ih _ _ _ h3.1 (hn u h3.2)
        case skip => exact ih _ _ _ h3.1 (hn undef h3.2)
        case enter f args =>
          refine h3.1.mono fun e w'' he => ?_
          obtain ⟨v, rfl, hk, hc⟩ := he
          exact ih _ _ _ hc (hn v (h3.2 v hk))
      | halt x w' => simp only [within] at h3
    · rw [if_neg (by simp [hwant])]
      exact ih _ _ _ hw (hn undef hv)

/-- What may come up now may be taken first. -/
theorem anyLoose_first {Q : Act → Prop} {i : Nat} {oi : Oper} {V : Value → Prop} (hi : ops[i]? = some oi) (hsel : ∀ (j : Nat) (o : Oper) cs b, ops[j]? = some o → o.op ≠ .select cs b) (hne : ∃ v, V v) :
    ∀ (fuel : Nat) (listed : Array Bool) (a : Act),
      (∀ j oj, ops[j]? = some oj → j ≠ i → listed.getD j true = false → (∀ e ∈ oj.after, Region.binds md e = true → e.on ≠ i) → oi.apart ops oj = true) →
      i ∈ Region.ready md ops listed → Gives P ops C K oi a V →
      (∀ v, V v → anyLoose P ops md C K Q fuel (listed.setIfInBounds i true) (a.put oi.dst v)) → anyLoose P ops md C K Q (fuel + 1) listed a := by
  intro fuel
  induction fuel with
  | zero =>
    intro listed a _ hr hg H
    refine ⟨fun h => (by rw [h] at hr; cases hr), fun j hj o ho => ?_⟩
    by_cases hji : j = i
    · subst hji
      rw [hi] at ho; cases ho
      exact ⟨V, hg, H⟩
    · obtain ⟨v, hv⟩ := hne
      have h1 := ready_mono hj hji
      rw [(H v hv).1] at h1
      cases h1
  | succ fuel ih =>
    intro listed a hfree hr hg H
    refine ⟨fun h => (by rw [h] at hr; cases hr), fun j hj o ho => ?_⟩
    by_cases hji : j = i
    · subst hji
      rw [hi] at ho; cases ho
      exact ⟨V, hg, H⟩
    · obtain ⟨hjun, oj, hoj, hall⟩ := mem_ready.1 hj
      rw [ho] at hoj; cases hoj
      have hnot : ∀ e ∈ o.after, Region.binds md e = true → e.on ≠ i := fun e he hb heq => by
        have h1 := hall e he hb
        have h0 := (mem_ready.1 hr).1
        rw [heq] at h1
        rcases Nat.lt_or_ge i listed.size with h' | h'
        · simp [h'] at h0 h1; rw [h0] at h1; cases h1
        · simp [Array.getElem?_eq_none h'] at h1
      have hap := hfree j o ho hji hjun hnot
      obtain ⟨a1, a2, a3⟩ := Oper.apart_spec hap
      have hsi := fun cs b => hsel i oi cs b hi
      have hsj := fun cs b => hsel j o cs b ho
      -- at each value of the first, the other one has its predicate; all of them at once
      have hU : ∀ v : {v // V v}, ∃ U, Gives P ops C K o (a.put oi.dst v.1) U ∧ ∀ u, U u → anyLoose P ops md C K Q fuel ((listed.setIfInBounds i true).setIfInBounds j true) ((a.put oi.dst v.1).put o.dst u) :=
        fun v => (H v.1 v.2).2 j (ready_mono hj hji) o ho
      obtain ⟨v0, hv0⟩ := hne
      let good : Value → Prop := fun u => ∀ v : {v // V v}, True → anyLoose P ops md C K Q fuel ((listed.setIfInBounds i true).setIfInBounds j true) ((a.put oi.dst v.1).put o.dst u)
      have hgood : Gives P ops C K o a good := by
        have hone : ∀ v : {v // V v}, Gives P ops C K o a (fun u => anyLoose P ops md C K Q fuel ((listed.setIfInBounds i true).setIfInBounds j true) ((a.put oi.dst v.1).put o.dst u)) := fun v => by
          obtain ⟨U, h1, h2⟩ := hU v
          have h1' : Gives P ops C K o a U := h1.same (execOp_put o hsj a oi.dst v.1 a1).symm (wanted_put o a oi.dst v.1 a1).symm
          rcases h1' with ⟨hw, h3⟩ | ⟨hw, h3⟩
          · exact .inl ⟨hw, fun w hw' => within_mono h2 (h3 w hw')⟩
          · exact .inr ⟨hw, h2 _ h3⟩
        by_cases hw : Region.wanted o (yielded ops a.tmps) = true
        · refine .inl ⟨hw, fun w hw' => ?_⟩
          refine within_all ⟨⟨v0, hv0⟩, trivial⟩ (fun v _ => ?_)
          rcases hone v with ⟨_, h3⟩ | ⟨h3, _⟩
          · exact h3 w hw'
          · rw [hw] at h3; cases h3
        · refine .inr ⟨by simpa using hw, fun v _ => ?_⟩
          rcases hone v with ⟨h3, _⟩ | ⟨_, h3⟩
          · exact absurd h3 hw
          · exact h3
      refine ⟨good, hgood, ?_⟩
      · intro u hu
        have hfree' : ∀ k ok, ops[k]? = some ok → k ≠ i → (listed.setIfInBounds j true).getD k true = false →
            (∀ e ∈ ok.after, Region.binds md e = true → e.on ≠ i) → oi.apart ops ok = true := fun k ok hk hki hun hno => by
          refine hfree k ok hk hki ?_ hno
          by_cases hjk : j = k
          · subst hjk; exact hjun
          · rw [getD_set_ne true hjk] at hun; exact hun
        refine ih (listed.setIfInBounds j true) (a.put o.dst u) hfree' (ready_mono hr (Ne.symm hji)) (hg.same (execOp_put oi hsi a o.dst u a3) (wanted_put oi a o.dst u a3)) (fun v hv => ?_)
        rw [Array.setIfInBounds_comm _ _ hji, ← Act.put_comm a v u a2]
        exact hu ⟨v, hv⟩ trivial

theorem anyLoose_lex {Q : Act → Prop} (hC : ∃ w, C w) (hs : Region.noSelect ops = true) : ∀ (l : List Oper) (k : Nat) (listed : Array Bool) (a : Act), (∀ j, l[j]? = ops[k + j]?) →
    Region.lexFrom md ops l.length k listed = true → wpLoose P ops C K Q l a → anyLoose P ops md C K Q l.length listed a := by
  intro l
  induction l with
  | nil => intro k listed a _ hB h; exact ⟨by simpa [Region.lexFrom] using hB, h⟩
  | cons o l ih =>
    intro k listed a hl hB h
    have h0 : ops[k]? = some o := by simpa using (hl 0).symm
    simp only [List.length_cons, Region.lexFrom, Bool.and_eq_true] at hB
    obtain ⟨⟨hr, hf⟩, hB'⟩ := hB
    obtain ⟨V, hg, hn⟩ := h
    exact anyLoose_first h0 (Region.noSelect_spec hs) (hg.some hC) l.length listed a (Region.free_spec h0 hf) (by simpa using hr) hg
      (fun v hv => ih (k + 1) _ _ (fun j => by have := hl (j + 1); simpa [Nat.add_assoc, Nat.add_comm 1 j] using this) hB' (hn v hv))

/-- ONE WALK SERVES EVERY ORDER. -/
theorem wp_region_loose (K : FuncId → Array Value → Value → Prop) {id : Nat} {Q : Exit → Act → World → Prop} {a : Act} {w : World} {l : List Oper} (hm : P.follows .mixedOrders = true) (hB : Region.lexB .any l.toArray = true)
    (h : wpLoose P l.toArray (fun w' => ∃ n, w' = w.drewN n) K (fun a' => ∀ n, Q .normal a' (w.drewN n)) l a) : (Code.region id l.toArray true).wp P Q a w := by
  simp only [Region.lexB, Bool.and_eq_true] at hB
  have hC : ∃ n, ({ w with drawn := w.drawn + 1 } : World) = w.drewN n := ⟨1, rfl⟩
  refine wp_region_any hm (anyLoose_sound (C := fun w' => ∃ n, w' = w.drewN n) (K := K) (Q := fun a' => ∀ n, Q .normal a' (w.drewN n)) (fun a' w' hw' h' => by obtain ⟨n, rfl⟩ := hw'; exact h' n) _ _ _ _ hC ?_)
  have := anyLoose_lex (md := .any) ⟨_, hC⟩ hB.1 l 0 (Array.replicate l.toArray.size false) a (by simp) (by simpa using hB.2) h
  simpa using this

theorem wpLoose_nil {Q : Act → Prop} {a : Act} (h : Q a) : wpLoose P ops C K Q [] a := h
theorem andThen_value {α : Type} (r : Result α) (f : α → Next) {f' : FuncId} {args : Array Value} {w' : World} (h : (r.andThen fun x w'' => .ok (f x) w'') = .ok (.enter f' args) w') : ∃ x, f x = .enter f' args := by
  cases r with
  | ok x w => simp only [Result.andThen, Result.ok.injEq] at h; exact ⟨x, h.1⟩
  | halt x w => simp [Result.andThen] at h

/-- Operations that surely enter no function. -/
def simple : Op → Bool
  | .nilCheck _ | .call _ | .go _ | .defer _ | .recv .. | .select .. => false
  | _ => true
/-- Only a call enters a function. -/
theorem noEnter {P : Program} {ρ : Operand → Value} {o : Oper} (hnc : simple o.op = true) {w w' : World} {f : FuncId} {args : Array Value} : (execOp ρ o).run P w ≠ .ok (.enter f args) w' := by
  intro h
  unfold execOp at h
  cases ho : o.op <;> simp only [ho, simple] at h hnc
  all_goals first
    | (cases hnc; done)
    | (simp only [Sem.run_bind, Sem.run_pure] at h; obtain ⟨x, hx⟩ := andThen_value _ _ h; cases hx; done)
    | (simp at h; done)

/-- A quiet operation is a loose one: one value, in the very world. -/
theorem wpLoose_quiet {Q : Act → Prop} {o : Oper} {rest : List Oper} {a : Act} (hnc : simple o.op = true) (h : wpQuiet P ops C (fun a' => wpLoose P ops C K Q rest a') [o] a) : wpLoose P ops C K Q (o :: rest) a := by
  simp only [wpQuiet] at h
  by_cases hw : Region.wanted o (yielded ops a.tmps) = true
  · rw [if_pos hw] at h
    obtain ⟨v, h1, h2⟩ := h
    refine ⟨(· = v), .inl ⟨hw, fun w hw' => ?_⟩, fun u hu => by rw [hu]; exact h2⟩
    have h3 := h1 w hw'
    unfold Oper.quietAt at h3
    generalize hrun : (execOp a.eval o).run P w = r at h3
    cases r with
    | ok n w' =>
      cases n <;> simp only [Oper.quietUpon] at h3 <;> simp only [within]
      case value u => exact ⟨by rw [h3.1]; exact hw', h3.2⟩
      case skip => exact ⟨by rw [h3.1]; exact hw', h3.2.symm⟩
      case enter f args => exact (noEnter hnc hrun).elim
    | halt x w' => simp only [Oper.quietUpon] at h3
  · rw [if_neg hw] at h
    exact ⟨(· = undef), .inr ⟨by simpa using hw, rfl⟩, fun u hu => by rw [hu]; exact h⟩
end
end Go.Fk

/- The steps of a walk through a region that draws its order: + - * / on floats, float64(x), float32(x), calls. Nothing here names a program. -/
namespace Go.Fk
open Go Go.RowKit
attribute [go_sem] within

section
variable {P : Program} {ops : Array Oper} {w : World} {K : FuncId → Array Value → Value → Prop} {Q : Act → Prop} {o : Oper} {rest : List Oper} {a : Act}

theorem wpLoose_any (hg : o.guard = none) (V : Value → Prop) (h1 : ∀ n, within P (fun w' => ∃ m, w' = w.drewN m) K V ((execOp a.eval o).run P (w.drewN n)))
    (h2 : ∀ v, V v → wpLoose P ops (fun w' => ∃ m, w' = w.drewN m) K Q rest (a.put o.dst v)) : wpLoose P ops (fun w' => ∃ m, w' = w.drewN m) K Q (o :: rest) a :=
  ⟨V, .inl ⟨by simp [Region.wanted, hg], fun w' hw' => by obtain ⟨n, rfl⟩ := hw'; exact h1 n⟩, h2⟩

theorem wpLoose_farith (hg : o.guard = none) {op : BinOp} {t t' : TypeId} {x y : Operand} (hop : o.op = Op.binOp op t x y t') (ho : arith op = true)
    {k : FloatKind} {p q : Nat} (hx : a.eval x = .float k p) (hy : a.eval y = .float k q)
    (hK : ∀ r, Hid (can k r = fop op k p q) → Hid (fits k r) → wpLoose P ops (fun w' => ∃ m, w' = w.drewN m) K Q rest (a.put o.dst (.float k r))) : wpLoose P ops (fun w' => ∃ m, w' = w.drewN m) K Q (o :: rest) a := by
  refine wpLoose_any hg (fun v => ∃ r, v = .float k r ∧ can k r = fop op k p q ∧ fits k r) (fun n => ?_) ?_
  · obtain ⟨r, m, hrun, hr, hf⟩ := run_farith (P := P) (w.drewN n) op ho t k p q
    have he := eqGuard_float (P := P) (w.drewN n) op t x y k k p q
    simp [execOp, hop, hx, hy, he, hrun, Result.andThen, within]
    exact ⟨⟨_, rfl⟩, hr, hf⟩
  · rintro v ⟨r, rfl, hr, hf⟩
    exact hK r hr hf
theorem wpLoose_widen (hg : o.guard = none) {src dst : TypeId} {x : Operand} (hop : o.op = Op.convert src dst x) {b : Nat} (hx : a.eval x = .float .f32 b)
    (hs : P.underlying src = some (.float .f32)) (hd : P.underlying dst = some (.float .f64))
    (hK : ∀ r, Hid (can .f64 r = can .f64 (widen b)) → Hid (fits .f64 r) → wpLoose P ops (fun w' => ∃ m, w' = w.drewN m) K Q rest (a.put o.dst (.float .f64 r))) : wpLoose P ops (fun w' => ∃ m, w' = w.drewN m) K Q (o :: rest) a := by
  refine wpLoose_any hg (fun v => ∃ r, v = .float .f64 r ∧ can .f64 r = can .f64 (widen b) ∧ fits .f64 r) (fun n => ?_) ?_
  · obtain ⟨r, m, hrun, hr, hf⟩ := run_widen (P := P) (w.drewN n) src dst b hs hd
    simp [execOp, hop, hx, hrun, Result.andThen, within]
    exact ⟨⟨_, rfl⟩, hr, hf⟩
  · rintro v ⟨r, rfl, hr, hf⟩
    exact hK r hr hf
theorem wpLoose_narrow (hg : o.guard = none) {src dst : TypeId} {x : Operand} (hop : o.op = Op.convert src dst x) {b : Nat} (hx : a.eval x = .float .f64 b)
    (hs : P.underlying src = some (.float .f64)) (hd : P.underlying dst = some (.float .f32)) (hb : narrowable b)
    (hK : ∀ r, Hid (can .f32 r = can .f32 (narrow b)) → Hid (fits .f32 r) → wpLoose P ops (fun w' => ∃ m, w' = w.drewN m) K Q rest (a.put o.dst (.float .f32 r))) : wpLoose P ops (fun w' => ∃ m, w' = w.drewN m) K Q (o :: rest) a := by
  refine wpLoose_any hg (fun v => ∃ r, v = .float .f32 r ∧ can .f32 r = can .f32 (narrow b) ∧ fits .f32 r) (fun n => ?_) ?_
  · obtain ⟨r, m, hrun, hr, hf⟩ := run_narrow (P := P) (w.drewN n) src dst b hs hd hb
    simp [execOp, hop, hx, hrun, Result.andThen, within]
    exact ⟨⟨_, rfl⟩, hr, hf⟩
  · rintro v ⟨r, rfl, hr, hf⟩
    exact hK r hr hf
end
/-- A contract that gives one value, met in a region. -/
theorem loose_of {P : Program} {f : FuncId} {args : Array Value} {w : World} {n : Nat} {v : Value}
    (h : Calls P f args (w.drewN n) fun e w' => e = .returned v ∧ ∃ m, w' = (w.drewN n).drewN m) : Calls P f args (w.drewN n) fun e w'' => ∃ u, e = .returned u ∧ u = v ∧ ∃ m, w'' = w.drewN m :=
  h.mono fun _ _ ⟨he, m, hm⟩ => ⟨v, he, rfl, n + m, by rw [hm, World.drewN_drewN]⟩
theorem loose_of_same {P : Program} {f : FuncId} {args : Array Value} {w : World} {n : Nat} {v : Value}
    (h : Calls P f args (w.drewN n) fun e w' => e = .returned v ∧ w.drewN n = w') : Calls P f args (w.drewN n) fun e w'' => ∃ u, e = .returned u ∧ u = v ∧ ∃ m, w'' = w.drewN m :=
  h.mono fun _ _ ⟨he, hm⟩ => ⟨v, he, rfl, n, hm.symm⟩
end Go.Fk

/- The same for a region whose last operations are forced to come last, and may write. Nothing here names a program. -/
namespace Go.Fk
open Go Go.RowKit

section
variable {P : Program} {ops : Array Oper} {md : Region.Mode} {C : World → Prop} {K : FuncId → Array Value → Value → Prop}

/-- Whatever order is picked of the first n operations; then L. -/
def anyTail (P : Program) (ops : Array Oper) (md : Region.Mode) (C : World → Prop) (K : FuncId → Array Value → Value → Prop) (n : Nat) (L : Array Bool → Act → Prop) : Nat → Array Bool → Act → Prop
  | 0, listed, a => L listed a
  | f + 1, listed, a => Region.ready md ops listed ≠ [] ∧
      ∀ i ∈ Region.ready md ops listed, i < n ∧ ∀ o, ops[i]? = some o → ∃ V, Gives P ops C K o a V ∧ ∀ v, V v → anyTail P ops md C K n L f (listed.setIfInBounds i true) (a.put o.dst v)

theorem wpOp_gives {i : Nat} {o : Oper} {a : Act} {w : World} {V : Value → Prop} {next : Act → World → Prop} {Q' : Exit → Act → World → Prop} (ho : ops[i]? = some o) (hw : C w) (hg : Gives P ops C K o a V)
    (hn : ∀ v w', C w' → V v → next (a.put o.dst v) w') : wpOp P ops Q' i next a w := by
  unfold wpOp
  simp only [ho]
  rcases hg with ⟨hwant, hv⟩ | ⟨hwant, hv⟩
  · rw [if_pos hwant]
    left
    have h3 := hv w hw
    unfold Oper.wp
    generalize (execOp a.eval o).run P w = r at h3
    cases r with
    | ok x w' =>
      cases x <;> simp only [within] at h3 <;> simp only [Oper.upon]
      case value u => exact hn u _ h3.1 h3.2
      case skip => exact hn undef _ h3.1 h3.2
      case enter f args =>
        refine h3.1.mono fun e w'' he => ?_
        obtain ⟨v, rfl, hk, hc⟩ := he
        exact hn v _ hc (h3.2 v hk)
    | halt x w' => simp only [within] at h3
  · rw [if_neg (by simp [hwant])]
    exact hn undef _ hw hv

theorem anyTail_sound {n g : Nat} {L : Array Bool → Act → Prop} {Q' : Exit → Act → World → Prop} (hL : ∀ listed a w, C w → L listed a → wpAny P md ops Q' g listed a w) :
    ∀ (f : Nat) (listed : Array Bool) (a : Act) (w : World), C w → anyTail P ops md C K n L f listed a → wpAny P md ops Q' (f + g) listed a w := by
  intro f
  induction f with
  | zero => intro listed a w hw h; rw [Nat.zero_add]; exact hL _ _ _ hw h
  | succ f ih =>
    intro listed a w hw h
    rw [show f + 1 + g = (f + g) + 1 by omega]
    refine ⟨fun h0 => absurd h0 h.1, fun i hi => ?_⟩
    obtain ⟨_, o, ho, _⟩ := mem_ready.1 hi
    obtain ⟨V, hg, hn⟩ := (h.2 i hi).2 o ho
    exact wpOp_gives ho hw hg (fun v w' hw' hv => ih _ _ _ hw' (hn v hv))

theorem anyTail_first {n i : Nat} {oi : Oper} {V : Value → Prop} {L : Array Bool → Act → Prop} (hi : ops[i]? = some oi) (hsel : ∀ (j : Nat) (o : Oper) cs b, ops[j]? = some o → o.op ≠ .select cs b) (hne : ∃ v, V v)
    (hs : Region.sinkB md ops n = true) (hc : Region.chainB md ops n = true) (hn : n < ops.size) (hin : i < n)
    (hdone : ∀ listed a, L listed a → ∀ j ∈ Region.ready md ops listed, n ≤ j) :
    ∀ (f : Nat) (listed : Array Bool) (a : Act), HeadInv md ops n listed →
      (∀ j oj, ops[j]? = some oj → j ≠ i → listed.getD j true = false → (∀ e ∈ oj.after, Region.binds md e = true → e.on ≠ i) → oi.apart ops oj = true) →
      i ∈ Region.ready md ops listed → Gives P ops C K oi a V →
      (∀ v, V v → anyTail P ops md C K n L f (listed.setIfInBounds i true) (a.put oi.dst v)) → anyTail P ops md C K n L (f + 1) listed a := by
  intro f
  induction f with
  | zero =>
    intro listed a inv _ hr hg H
    have hun := (mem_ready.1 hr).1
    refine ⟨fun h => (by rw [h] at hr; cases hr), fun j hj => ?_⟩
    have hjn : j < n := by
      rcases Nat.lt_or_ge j n with h | h
      · exact h
      · exact absurd hj (tail_waits hs hc hn inv _ i rfl hin hun j h)
    refine ⟨hjn, fun o ho => ?_⟩
    by_cases hji : j = i
    · subst hji
      rw [hi] at ho; cases ho
      exact ⟨V, hg, H⟩
    · obtain ⟨v, hv⟩ := hne
      have := hdone _ _ (H v hv) j (ready_mono hj hji)
      omega
  | succ f ih =>
    intro listed a inv hfree hr hg H
    have hun := (mem_ready.1 hr).1
    refine ⟨fun h => (by rw [h] at hr; cases hr), fun j hj => ?_⟩
    have hjn : j < n := by
      rcases Nat.lt_or_ge j n with h | h
      · exact h
      · exact absurd hj (tail_waits hs hc hn inv _ i rfl hin hun j h)
    refine ⟨hjn, fun o ho => ?_⟩
    by_cases hji : j = i
    · subst hji
      rw [hi] at ho; cases ho
      exact ⟨V, hg, H⟩
    · obtain ⟨hjun, oj, hoj, hall⟩ := mem_ready.1 hj
      rw [ho] at hoj; cases hoj
      have hnot : ∀ e ∈ o.after, Region.binds md e = true → e.on ≠ i := fun e he hb heq => by
        have h1 := hall e he hb
        rw [heq, getD_both hun] at h1
        cases h1
      have hap := hfree j o ho hji hjun hnot
      obtain ⟨a1, a2, a3⟩ := Oper.apart_spec hap
      have hsi := fun cs b => hsel i oi cs b hi
      have hsj := fun cs b => hsel j o cs b ho
      have hU : ∀ v : {v // V v}, ∃ U, Gives P ops C K o (a.put oi.dst v.1) U ∧ ∀ u, U u → anyTail P ops md C K n L f ((listed.setIfInBounds i true).setIfInBounds j true) ((a.put oi.dst v.1).put o.dst u) :=
        fun v => ((H v.1 v.2).2 j (ready_mono hj hji)).2 o ho
      obtain ⟨v0, hv0⟩ := hne
      let good : Value → Prop := fun u => ∀ v : {v // V v}, True → anyTail P ops md C K n L f ((listed.setIfInBounds i true).setIfInBounds j true) ((a.put oi.dst v.1).put o.dst u)
      have hone : ∀ v : {v // V v}, Gives P ops C K o a (fun u => anyTail P ops md C K n L f ((listed.setIfInBounds i true).setIfInBounds j true) ((a.put oi.dst v.1).put o.dst u)) := fun v => by
        obtain ⟨U, h1, h2⟩ := hU v
        have h1' : Gives P ops C K o a U := h1.same (execOp_put o hsj a oi.dst v.1 a1).symm (wanted_put o a oi.dst v.1 a1).symm
        rcases h1' with ⟨hw, h3⟩ | ⟨hw, h3⟩
        · exact .inl ⟨hw, fun w hw' => within_mono h2 (h3 w hw')⟩
        · exact .inr ⟨hw, h2 _ h3⟩
      have hgood : Gives P ops C K o a good := by
        by_cases hw : Region.wanted o (yielded ops a.tmps) = true
        · refine .inl ⟨hw, fun w hw' => ?_⟩
          refine within_all ⟨⟨v0, hv0⟩, trivial⟩ (fun v _ => ?_)
          rcases hone v with ⟨_, h3⟩ | ⟨h3, _⟩
          · exact h3 w hw'
          · rw [hw] at h3; cases h3
        · refine .inr ⟨by simpa using hw, fun v _ => ?_⟩
          rcases hone v with ⟨h3, _⟩ | ⟨_, h3⟩
          · exact absurd h3 hw
          · exact h3
      refine ⟨good, hgood, ?_⟩
      intro u hu
      have hfree' : ∀ k ok, ops[k]? = some ok → k ≠ i → (listed.setIfInBounds j true).getD k true = false →
          (∀ e ∈ ok.after, Region.binds md e = true → e.on ≠ i) → oi.apart ops ok = true := fun k ok hk hki hun hno => by
        refine hfree k ok hk hki ?_ hno
        by_cases hjk : j = k
        · subst hjk; exact hjun
        · rw [getD_set_ne true hjk] at hun; exact hun
      refine ih (listed.setIfInBounds j true) (a.put o.dst u) (inv.set hj hjn) hfree' (ready_mono hr (Ne.symm hji)) (hg.same (execOp_put oi hsi a o.dst u a3) (wanted_put oi a o.dst u a3)) (fun v hv => ?_)
      rw [Array.setIfInBounds_comm _ _ hji, ← Act.put_comm a v u a2]
      exact hu ⟨v, hv⟩ trivial

theorem anyTail_lex {n g : Nat} {Lq : Act → Prop} (hC : ∃ w, C w) (hsel : Region.noSelect ops = true) (hs : Region.sinkB md ops n = true) (hc : Region.chainB md ops n = true) (hn : n < ops.size) :
    ∀ (l : List Oper) (k : Nat) (listed : Array Bool) (a : Act), (∀ j, j < l.length → l[j]? = ops[k + j]?) → k + l.length = n → HeadInv md ops n listed →
    Region.lexHead md ops g l.length k listed = true → wpLoose P ops C K Lq l a →
    anyTail P ops md C K n (fun listed' a' => Region.seqB md ops g n listed' = true ∧ Lq a') l.length listed a := by
  intro l
  induction l with
  | nil =>
    intro k listed a _ hk _ hB h
    have : k = n := by simpa using hk
    subst this
    exact ⟨by simpa [Region.lexHead] using hB, h⟩
  | cons o l ih =>
    intro k listed a hl hk inv hB h
    have h0 : ops[k]? = some o := by simpa using (hl 0 (by simp)).symm
    simp only [List.length_cons, Region.lexHead, Bool.and_eq_true] at hB
    obtain ⟨⟨hr, hf⟩, hB'⟩ := hB
    have hkn : k < n := by simp only [List.length_cons] at hk; omega
    have hr' : k ∈ Region.ready md ops listed := by simpa using hr
    obtain ⟨V, hg, hnext⟩ := h
    exact anyTail_first h0 (Region.noSelect_spec hsel) (hg.some hC) hs hc hn hkn (fun listed' a' hL => seqB_ready hL.1) l.length listed a inv (Region.free_spec h0 hf) hr' hg
      (fun v hv => ih (k + 1) _ _ (fun j hj => by have := hl (j + 1) (by simp; omega); simpa [Nat.add_assoc, Nat.add_comm 1 j] using this) (by simp only [List.length_cons] at hk; omega) (inv.set hr' hkn) hB' (hnext v hv))

/-- ONE WALK SERVES EVERY ORDER; then the last operations, in theirs. -/
theorem wp_region_tail (K : FuncId → Array Value → Value → Prop) {id : Nat} {Q : Exit → Act → World → Prop} {a : Act} {w : World} {l : List Oper} (n : Nat) (hm : P.follows .mixedOrders = true) (hB : Region.lexTailB .any l.toArray n = true)
    (h : wpLoose P l.toArray (fun w' => ∃ m, w' = w.drewN m) K (fun a' => ∀ m, wpList P l.toArray Q (l.drop n) a' (w.drewN m)) (l.take n) a) : (Code.region id l.toArray true).wp P Q a w := by
  simp only [Region.lexTailB, Bool.and_eq_true, decide_eq_true_eq] at hB
  obtain ⟨⟨⟨⟨hsel, hn⟩, hs⟩, hc⟩, hlex⟩ := hB
  have hn' : n < l.length := by simpa using hn
  have htl : (l.take n).length = n := by simp; omega
  have hdl : (l.drop n).length = l.toArray.size - n := by simp
  have hC : ∃ m, ({ w with drawn := w.drawn + 1 } : World) = w.drewN m := ⟨1, rfl⟩
  have inv0 : HeadInv .any l.toArray n (Array.replicate l.toArray.size false) :=
    ⟨by simp, fun j oj _ hl => (by rw [getD_replicate_false] at hl; cases hl), fun t _ ht => getD_in (by simpa using ht) (getD_replicate_false _ _)⟩
  have H := anyTail_lex (md := .any) (C := fun w' => ∃ m, w' = w.drewN m) (g := l.toArray.size - n) ⟨_, hC⟩ hsel hs hc hn (l.take n) 0 _ a (fun j hj => by
    have hj' : j < n := by rw [htl] at hj; exact hj
    simp [hj']) (by simpa using htl) inv0 (by rw [htl]; exact hlex) h
  refine wp_region_any hm ?_
  have := anyTail_sound (Q' := Q) (C := fun w' => ∃ m, w' = w.drewN m) (g := l.toArray.size - n) (fun listed a' w' hw' hL => by
    obtain ⟨m, rfl⟩ := hw'
    have := wpAny_of_seq (md := .any) (Q' := Q) (l.drop n) n listed a' (w.drewN m) (fun j => by simp [List.getElem?_drop]) (by rw [hdl]; exact hL.1) (hL.2 m)
    rwa [hdl] at this) _ _ _ _ hC H
  rw [htl, show n + (l.toArray.size - n) = l.toArray.size by omega] at this
  exact this
end
end Go.Fk

/- Regions that draw their order: one walk, in the order of the text, serves every order, where an operation's value is known up to a predicate that speaks of the world as well (the bits of a NaN; memory that a callee or the region itself makes). 'W': the world ahead of it; nothing that W holds is turned, but by the last operations, where these are forced to come last. 'K': what is known of what a call gives. Nothing here names a program. -/
namespace Go.Fk
open Go Go.RowKit

/-- Nothing that was there has turned. -/
def le (w w' : World) : Prop := Below w.heap.size w w'
theorem le_refl (w : World) : le w w := Below.refl _ _
theorem le_trans {a b c : World} (h : le a b) (k : le b c) : le a c := Below.trans h (Below.mono k (Below.size h))
theorem le_drewN (w : World) (n : Nat) : le w (w.drewN n) := below_drewN (Below.refl _ _) n
theorem le_alloc (w : World) (o : Obj) : le w (w.alloc o) := (Below.refl _ _).alloc (Nat.le_refl _) o
theorem Row.le {w w' : World} {g : Nat} {t : TypeId} {cs : Array Value} (h : Row w g t cs) (hb : Fk.le w w') : Row w' g t cs := h.below hb h.lt

section
variable (P : Program) (ops : Array Oper) (md : Region.Mode) (W : World) (K : FuncId → Array Value → World → Value → Prop)

/-- What an operation's run in w must be, for its value to be one of V. -/
def inside (w : World) (V : World → Value → Prop) : Result Next → Prop
  | .ok (.value u) w' => le w w' ∧ V w' u
  | .ok .skip w' => le w w' ∧ V w' undef
  | .ok (.enter f args) w' => le w w' ∧ Calls P f args w' (fun e w'' => ∃ v, e = .returned v ∧ le w' w'' ∧ K f args w'' v) ∧ ∀ w'' v, K f args w'' v → V w'' v
  | _ => False

def Mono (V : World → Value → Prop) : Prop := ∀ v w w', le w w' → V w v → V w' v

def Yields (o : Oper) (a : Act) (V : World → Value → Prop) : Prop :=
  Mono V ∧ ((Region.wanted o (yielded ops a.tmps) = true ∧ ∀ w, le W w → inside P K w V ((execOp a.eval o).run P w)) ∨ (Region.wanted o (yielded ops a.tmps) = false ∧ ∀ w, le W w → V w undef))

/-- The walk in the order of the text; what is known of the world is gathered. -/
def wpFree (Q : Act → World → Prop) : List Oper → Act → (World → Prop) → Prop
  | [], a, F => ∀ w, le W w → F w → Q a w
  | o :: rest, a, F => ∃ V, Yields P ops W K o a V ∧ ∀ v, (∃ w, le W w ∧ V w v) → wpFree Q rest (a.put o.dst v) (fun w => F w ∧ V w v)

/-- Whatever order is picked of the first n operations; then L. -/
def anyFree (n : Nat) (L : Array Bool → Act → (World → Prop) → Prop) : Nat → Array Bool → Act → (World → Prop) → Prop
  | 0, listed, a, F => L listed a F
  | f + 1, listed, a, F => Region.ready md ops listed ≠ [] ∧
      ∀ i ∈ Region.ready md ops listed, i < n ∧ ∀ o, ops[i]? = some o → ∃ V, Yields P ops W K o a V ∧ ∀ v, (∃ w, le W w ∧ V w v) → anyFree n L f (listed.setIfInBounds i true) (a.put o.dst v) (fun w => F w ∧ V w v)
end

section
variable {P : Program} {ops : Array Oper} {md : Region.Mode} {W : World} {K : FuncId → Array Value → World → Value → Prop}

theorem inside_all {ι : Type} {V : ι → World → Value → Prop} {w : World} {r : Result Next} (hne : ∃ _ : ι, True) (h : ∀ i, inside P K w (V i) r) : inside P K w (fun w' v => ∀ i, V i w' v) r := by
  obtain ⟨i0, _⟩ := hne
  have hr := h i0
  cases r with
  | ok n w' =>
    cases n <;> simp only [inside] at hr h ⊢
    case value u => exact ⟨hr.1, fun i => (h i).2⟩
    case skip => exact ⟨hr.1, fun i => (h i).2⟩
    case enter f args => exact ⟨hr.1, hr.2.1, fun w'' v hv i => (h i).2.2 w'' v hv⟩
  | halt x w' => simp only [inside] at hr

theorem inside_some {V : World → Value → Prop} {w : World} (hw : le W w) {r : Result Next} (h : inside P K w V r) : ∃ v, ∃ w', le W w' ∧ V w' v := by
  cases r with
  | ok n w' =>
    cases n <;> simp only [inside] at h
    case value u => exact ⟨u, w', le_trans hw h.1, h.2⟩
    case skip => exact ⟨undef, w', le_trans hw h.1, h.2⟩
    case enter f args =>
      obtain ⟨e, w'', fr, ⟨v, _, hl, hk⟩, _⟩ := h.2.1 []
      exact ⟨v, w'', le_trans (le_trans hw h.1) hl, h.2.2 w'' v hk⟩
  | halt x w' => simp only [inside] at h

theorem Yields.some {o : Oper} {a : Act} {V : World → Value → Prop} (h : Yields P ops W K o a V) : ∃ v, ∃ w, le W w ∧ V w v := by
  rcases h.2 with ⟨_, h⟩ | ⟨_, h⟩
  · exact inside_some (le_refl W) (h W (le_refl W))
  · exact ⟨undef, W, le_refl W, h W (le_refl W)⟩

theorem Yields.same {o : Oper} {a a' : Act} {V : World → Value → Prop} (he : execOp a'.eval o = execOp a.eval o) (hw : Region.wanted o (yielded ops a'.tmps) = Region.wanted o (yielded ops a.tmps))
    (h : Yields P ops W K o a V) : Yields P ops W K o a' V := by
  unfold Yields at *; rw [he, hw]; exact h

theorem wpOp_yields {i : Nat} {o : Oper} {a : Act} {w : World} {V : World → Value → Prop} {next : Act → World → Prop} {Q' : Exit → Act → World → Prop} (ho : ops[i]? = some o) (hw : le W w) (hg : Yields P ops W K o a V)
    (hn : ∀ v w', le w w' → V w' v → next (a.put o.dst v) w') : wpOp P ops Q' i next a w := by
  unfold wpOp
  simp only [ho]
  rcases hg.2 with ⟨hwant, hv⟩ | ⟨hwant, hv⟩
  · rw [if_pos hwant]
    left
    have h3 := hv w hw
    unfold Oper.wp
    generalize (execOp a.eval o).run P w = r at h3
    cases r with
    | ok x w' =>
      cases x <;> simp only [inside] at h3 <;> simp only [Oper.upon]
      case value u => exact hn u _ h3.1 h3.2
      case skip => exact hn undef _ h3.1 h3.2
      case enter f args =>
        refine h3.2.1.mono fun e w'' he => ?_
        obtain ⟨v, rfl, hl, hk⟩ := he
        exact hn v _ (le_trans h3.1 hl) (h3.2.2 w'' v hk)
    | halt x w' => simp only [inside] at h3
  · rw [if_neg (by simp [hwant])]
    exact hn undef _ (le_refl w) (hv w hw)

theorem anyFree_sound {n g : Nat} {L : Array Bool → Act → (World → Prop) → Prop} {Q' : Exit → Act → World → Prop} (hL : ∀ listed a F w, le W w → F w → L listed a F → wpAny P md ops Q' g listed a w) :
    ∀ (f : Nat) (listed : Array Bool) (a : Act) (F : World → Prop) (w : World), (∀ w w', le w w' → F w → F w') → le W w → F w → anyFree P ops md W K n L f listed a F → wpAny P md ops Q' (f + g) listed a w := by
  intro f
  induction f with
  | zero => intro listed a F w _ hw hF h; rw [Nat.zero_add]; exact hL _ _ _ _ hw hF h
  | succ f ih =>
    intro listed a F w hm hw hF h
    rw [show f + 1 + g = (f + g) + 1 by omega]
    refine ⟨fun h0 => absurd h0 h.1, fun i hi => ?_⟩
    obtain ⟨_, o, ho, _⟩ := mem_ready.1 hi
    obtain ⟨V, hg, hn⟩ := (h.2 i hi).2 o ho
    exact wpOp_yields ho hw hg (fun v w' hl hv => ih _ _ _ _ (fun u u' hu hh => ⟨hm u u' hu hh.1, hg.1 v u u' hu hh.2⟩) (le_trans hw hl) ⟨hm w w' hl hF, hv⟩ (hn v ⟨w', le_trans hw hl, hv⟩))

theorem anyFree_weaken {n : Nat} {L : Array Bool → Act → (World → Prop) → Prop} (hLm : ∀ listed a F F', (∀ w, F' w → F w) → L listed a F → L listed a F') :
    ∀ (f : Nat) (listed : Array Bool) (a : Act) (F F' : World → Prop), (∀ w, F' w → F w) → anyFree P ops md W K n L f listed a F → anyFree P ops md W K n L f listed a F' := by
  intro f
  induction f with
  | zero => intro listed a F F' h hh; exact hLm _ _ _ _ h hh
  | succ f ih =>
    intro listed a F F' h hh
    refine ⟨hh.1, fun i hi => ⟨(hh.2 i hi).1, fun o ho => ?_⟩⟩
    obtain ⟨V, hg, hn⟩ := (hh.2 i hi).2 o ho
    exact ⟨V, hg, fun v hv => ih _ _ _ _ (fun w hw => ⟨h w hw.1, hw.2⟩) (hn v hv)⟩

theorem anyFree_first {n i : Nat} {oi : Oper} {V : World → Value → Prop} {L : Array Bool → Act → (World → Prop) → Prop} (hi : ops[i]? = some oi) (hsel : ∀ (j : Nat) (o : Oper) cs b, ops[j]? = some o → o.op ≠ .select cs b)
    (hbound : ∀ listed i, HeadInv md ops n listed → i < n → listed.getD i true = false → ∀ j ∈ Region.ready md ops listed, j < n) (hin : i < n)
    (hdone : ∀ listed a F, L listed a F → ∀ j ∈ Region.ready md ops listed, n ≤ j) (hLm : ∀ listed a F F', (∀ w, F' w → F w) → L listed a F → L listed a F') :
    ∀ (f : Nat) (listed : Array Bool) (a : Act) (F : World → Prop), HeadInv md ops n listed →
      (∀ j oj, ops[j]? = some oj → j ≠ i → listed.getD j true = false → (∀ e ∈ oj.after, Region.binds md e = true → e.on ≠ i) → oi.apart ops oj = true) →
      i ∈ Region.ready md ops listed → Yields P ops W K oi a V →
      (∀ v, (∃ w, le W w ∧ V w v) → anyFree P ops md W K n L f (listed.setIfInBounds i true) (a.put oi.dst v) (fun w => F w ∧ V w v)) → anyFree P ops md W K n L (f + 1) listed a F := by
  intro f
  induction f with
  | zero =>
    intro listed a F inv _ hr hg H
    have hun := (mem_ready.1 hr).1
    refine ⟨fun h => (by rw [h] at hr; cases hr), fun j hj => ?_⟩
    have hjn := hbound listed i inv hin hun j hj
    refine ⟨hjn, fun o ho => ?_⟩
    by_cases hji : j = i
    · subst hji
      rw [hi] at ho; cases ho
      exact ⟨V, hg, H⟩
    · obtain ⟨v, hv⟩ := hg.some
      have := hdone _ _ _ (H v hv) j (ready_mono hj hji)
      omega
  | succ f ih =>
    intro listed a F inv hfree hr hg H
    have hun := (mem_ready.1 hr).1
    refine ⟨fun h => (by rw [h] at hr; cases hr), fun j hj => ?_⟩
    have hjn := hbound listed i inv hin hun j hj
    refine ⟨hjn, fun o ho => ?_⟩
    by_cases hji : j = i
    · subst hji
      rw [hi] at ho; cases ho
      exact ⟨V, hg, H⟩
    · obtain ⟨hjun, oj, hoj, hall⟩ := mem_ready.1 hj
      rw [ho] at hoj; cases hoj
      have hnot : ∀ e ∈ o.after, Region.binds md e = true → e.on ≠ i := fun e he hb heq => by
        have h1 := hall e he hb
        rw [heq, getD_both hun] at h1
        cases h1
      have hap := hfree j o ho hji hjun hnot
      obtain ⟨a1, a2, a3⟩ := Oper.apart_spec hap
      have hsi := fun cs b => hsel i oi cs b hi
      have hsj := fun cs b => hsel j o cs b ho
      have hU : ∀ v : {v // ∃ w, le W w ∧ V w v}, ∃ U, Yields P ops W K o (a.put oi.dst v.1) U ∧ ∀ u, (∃ w, le W w ∧ U w u) →
          anyFree P ops md W K n L f ((listed.setIfInBounds i true).setIfInBounds j true) ((a.put oi.dst v.1).put o.dst u) (fun w => (F w ∧ V w v.1) ∧ U w u) :=
        fun v => ((H v.1 v.2).2 j (ready_mono hj hji)).2 o ho
      obtain ⟨U, hU⟩ := Classical.skolem.1 hU
      obtain ⟨v0, hv0⟩ := hg.some
      have hone : ∀ v, Yields P ops W K o a (U v) := fun v => (hU v).1.same (execOp_put o hsj a oi.dst v.1 a1).symm (wanted_put o a oi.dst v.1 a1).symm
      have hgood : Yields P ops W K o a (fun w u => ∀ v, U v w u) := by
        refine ⟨fun u w w' hl h v => (hone v).1 u w w' hl (h v), ?_⟩
        by_cases hw : Region.wanted o (yielded ops a.tmps) = true
        · refine .inl ⟨hw, fun w hw' => inside_all ⟨⟨v0, hv0⟩, trivial⟩ (fun v => ?_)⟩
          rcases (hone v).2 with ⟨_, h3⟩ | ⟨h3, _⟩
          · exact h3 w hw'
          · rw [hw] at h3; cases h3
        · refine .inr ⟨by simpa using hw, fun w hw' v => ?_⟩
          rcases (hone v).2 with ⟨h3, _⟩ | ⟨_, h3⟩
          · exact absurd h3 hw
          · exact h3 w hw'
      refine ⟨_, hgood, ?_⟩
      intro u hu
      have hfree' : ∀ k ok, ops[k]? = some ok → k ≠ i → (listed.setIfInBounds j true).getD k true = false →
          (∀ e ∈ ok.after, Region.binds md e = true → e.on ≠ i) → oi.apart ops ok = true := fun k ok hk hki hun hno => by
        refine hfree k ok hk hki ?_ hno
        by_cases hjk : j = k
        · subst hjk; exact hjun
        · rw [getD_set_ne true hjk] at hun; exact hun
      refine ih (listed.setIfInBounds j true) (a.put o.dst u) _ (inv.set hj hjn) hfree' (ready_mono hr (Ne.symm hji)) (hg.same (execOp_put oi hsi a o.dst u a3) (wanted_put oi a o.dst u a3)) (fun v hv => ?_)
      rw [Array.setIfInBounds_comm _ _ hji, ← Act.put_comm a v u a2]
      obtain ⟨w, hw, hu⟩ := hu
      exact anyFree_weaken hLm _ _ _ _ _ (fun w' h' => ⟨⟨h'.1.1, h'.2⟩, h'.1.2 ⟨v, hv⟩⟩) ((hU ⟨v, hv⟩).2 u ⟨w, hw, hu ⟨v, hv⟩⟩)

theorem anyFree_lex {n g : Nat} {R : Act → World → Prop} (hsel : Region.noSelect ops = true)
    (hbound : ∀ listed i, HeadInv md ops n listed → i < n → listed.getD i true = false → ∀ j ∈ Region.ready md ops listed, j < n) :
    ∀ (l : List Oper) (k : Nat) (listed : Array Bool) (a : Act) (F : World → Prop), (∀ j, j < l.length → l[j]? = ops[k + j]?) → k + l.length = n → HeadInv md ops n listed →
    Region.lexHead md ops g l.length k listed = true → wpFree P ops W K R l a F →
    anyFree P ops md W K n (fun listed' a' F' => Region.seqB md ops g n listed' = true ∧ ∀ w, le W w → F' w → R a' w) l.length listed a F := by
  intro l
  induction l with
  | nil =>
    intro k listed a F _ hk _ hB h
    have : k = n := by simpa using hk
    subst this
    exact ⟨by simpa [Region.lexHead] using hB, h⟩
  | cons o l ih =>
    intro k listed a F hl hk inv hB h
    have h0 : ops[k]? = some o := by simpa using (hl 0 (by simp)).symm
    simp only [List.length_cons, Region.lexHead, Bool.and_eq_true] at hB
    obtain ⟨⟨hr, hf⟩, hB'⟩ := hB
    have hkn : k < n := by simp only [List.length_cons] at hk; omega
    have hr' : k ∈ Region.ready md ops listed := by simpa using hr
    obtain ⟨V, hg, hnext⟩ := h
    exact anyFree_first h0 (Region.noSelect_spec hsel) hbound hkn (fun listed' a' F' hL => seqB_ready hL.1) (fun _ _ _ _ hF hL => ⟨hL.1, fun w hw h' => hL.2 w hw (hF w h')⟩) l.length listed a F inv (Region.free_spec h0 hf) hr' hg
      (fun v hv => ih (k + 1) _ _ _ (fun j hj => by have := hl (j + 1) (by simp; omega); simpa [Nat.add_assoc, Nat.add_comm 1 j] using this) (by simp only [List.length_cons] at hk; omega) (inv.set hr' hkn) hB' (hnext v hv))

theorem head_start (ops : Array Oper) (n : Nat) : HeadInv .any ops n (Array.replicate ops.size false) :=
  ⟨by simp, fun j oj _ hl => (by rw [getD_replicate_false] at hl; cases hl), fun t _ ht => getD_in (by simpa using ht) (getD_replicate_false _ _)⟩

/-- A REGION WITH FORCED LAST OPERATIONS (from number n on). -/
theorem region_tail (K : FuncId → Array Value → World → Value → Prop) {id : Nat} {Q : Exit → Act → World → Prop} {a : Act} {w : World} {l : List Oper} (n : Nat) (hm : P.follows .mixedOrders = true) (hB : Region.lexTailB .any l.toArray n = true)
    (h : wpFree P l.toArray (w.drewN 1) K (fun a' w' => wpList P l.toArray Q (l.drop n) a' w') (l.take n) a (fun _ => True)) : (Code.region id l.toArray true).wp P Q a w := by
  simp only [Region.lexTailB, Bool.and_eq_true, decide_eq_true_eq] at hB
  obtain ⟨⟨⟨⟨hsel, hn⟩, hs⟩, hc⟩, hlex⟩ := hB
  have hn' : n < l.length := by simpa using hn
  have htl : (l.take n).length = n := by simp; omega
  have hdl : (l.drop n).length = l.toArray.size - n := by simp
  have hbound : ∀ listed i, HeadInv .any l.toArray n listed → i < n → listed.getD i true = false → ∀ j ∈ Region.ready .any l.toArray listed, j < n := by
    intro listed i inv hi hun j hj
    rcases Nat.lt_or_ge j n with h | h
    · exact h
    · exact absurd hj (tail_waits hs hc hn inv _ i rfl hi hun j h)
  have H := anyFree_lex (md := .any) (g := l.toArray.size - n) hsel hbound (l.take n) 0 _ a _ (fun j hj => by
    have hj' : j < n := by rw [htl] at hj; exact hj
    simp [hj']) (by simpa using htl) (head_start _ n) (by rw [htl]; exact hlex) h
  refine wp_region_any hm ?_
  have := anyFree_sound (Q' := Q) (W := w.drewN 1) (g := l.toArray.size - n) (fun listed a' F w' hw' hF hL => by
    have := wpAny_of_seq (md := .any) (Q' := Q) (l.drop n) n listed a' w' (fun j => by simp [List.getElem?_drop]) (by rw [hdl]; exact hL.1) (hL.2 w' hw' hF)
    rwa [hdl] at this) _ _ _ _ _ (fun _ _ _ h => h) (le_refl _) trivial H
  rw [htl, show n + (l.toArray.size - n) = l.toArray.size by omega] at this
  exact this

/-- A REGION WITHOUT. -/
theorem region_free (K : FuncId → Array Value → World → Value → Prop) {id : Nat} {Q : Exit → Act → World → Prop} {a : Act} {w : World} {l : List Oper} (hm : P.follows .mixedOrders = true)
    (hB : (Region.noSelect l.toArray && Region.lexHead .any l.toArray 0 l.length 0 (Array.replicate l.toArray.size false)) = true)
    (h : wpFree P l.toArray (w.drewN 1) K (fun a' w' => Q .normal a' w') l a (fun _ => True)) : (Code.region id l.toArray true).wp P Q a w := by
  simp only [Bool.and_eq_true] at hB
  obtain ⟨hsel, hlex⟩ := hB
  have hbound : ∀ listed i, HeadInv .any l.toArray l.length listed → i < l.length → listed.getD i true = false → ∀ j ∈ Region.ready .any l.toArray listed, j < l.length := by
    intro listed i _ _ _ j hj
    obtain ⟨_, oj, hoj, _⟩ := mem_ready.1 hj
    simpa using (Array.getElem?_eq_some_iff.1 hoj).1
  have H := anyFree_lex (md := .any) (g := 0) hsel hbound l 0 _ a _ (fun j hj => by simp) (by simp) (head_start _ l.length) hlex h
  refine wp_region_any hm ?_
  have := anyFree_sound (Q' := Q) (W := w.drewN 1) (g := 0) (fun listed a' F w' hw' hF hL => ⟨by simpa [Region.seqB] using hL.1, hL.2 w' hw' hF⟩) _ _ _ _ _ (fun _ _ _ h => h) (le_refl _) trivial H
  rw [Nat.add_zero] at this
  exact this
end

section
variable {P : Program} {ops : Array Oper} {W : World} {K : FuncId → Array Value → World → Value → Prop} {Q : Act → World → Prop} {F : World → Prop} {o : Oper} {rest : List Oper} {a : Act}

theorem wpFree_nil (h : ∀ w, le W w → F w → Q a w) : wpFree P ops W K Q [] a F := h

/-- An operation that gives one value and leaves the world as it is. -/
theorem wpFree_one (hg : o.guard = none) (v : Value) (hr : ∀ w, le W w → (execOp a.eval o).run P w = .ok (.value v) w)
    (h : wpFree P ops W K Q rest (a.put o.dst v) F) : wpFree P ops W K Q (o :: rest) a F := by
  refine ⟨fun _ u => u = v, ⟨fun _ _ _ _ h => h, .inl ⟨by simp [Region.wanted, hg], fun w hw => ?_⟩⟩, fun u hu => ?_⟩
  · rw [hr w hw]; exact ⟨le_refl w, rfl⟩
  · obtain ⟨w, _, rfl⟩ := hu
    have e : (fun w => F w ∧ u = u) = F := by funext w; simp
    rw [e]; exact h

/-- A value known up to a predicate that does not speak of the world; the world may be drawn from. -/
theorem wpFree_some (hg : o.guard = none) (V : Value → Prop) (hr : ∀ w, le W w → ∃ v n, (execOp a.eval o).run P w = .ok (.value v) (w.drewN n) ∧ V v)
    (h : ∀ v, V v → wpFree P ops W K Q rest (a.put o.dst v) F) : wpFree P ops W K Q (o :: rest) a F := by
  refine ⟨fun _ u => V u, ⟨fun _ _ _ _ h => h, .inl ⟨by simp [Region.wanted, hg], fun w hw => ?_⟩⟩, fun u hu => ?_⟩
  · obtain ⟨v, n, hrun, hv⟩ := hr w hw
    rw [hrun]; exact ⟨le_drewN w n, hv⟩
  · obtain ⟨w, _, hv⟩ := hu
    have h' := h u hv
    have e : (fun w => F w ∧ V u) = F := by funext w; simp [hv]
    rw [e]; exact h'

theorem run_enter {f : FuncId} {xs : Array Operand} {ts : Array TypeId} (hop : o.op = Op.call { callee := Callee.value (Operand.func f), args := xs, argTypes := ts }) {fn : Func} (hf : P.funcs[f]? = some fn)
    (hb : fn.body.isNone = false) (hn : (fn.name == "runtime.NumGoroutine") = false) {args : Array Value} (ha : xs.map a.eval = args) (w : World) : (execOp a.eval o).run P w = .ok (.enter f args) w := by
  have hn' : fn.name ≠ "runtime.NumGoroutine" := by simpa using hn
  have hfv : a.eval (Operand.func f) = .func (.func f) #[] #[] := rfl
  have hbn : ¬ fn.body = none := by intro e; rw [e] at hb; simp at hb
  simp [execOp, hop, hfv, resolve, invoke, Deferred.ofValue, callFunc, hf, hn', hbn, ha, Result.andThen]

/-- A call. -/
theorem wpFree_call (hg : o.guard = none) {f : FuncId} {xs : Array Operand} {ts : Array TypeId} (hop : o.op = Op.call { callee := Callee.value (Operand.func f), args := xs, argTypes := ts }) {fn : Func} (hf : P.funcs[f]? = some fn)
    (hb : fn.body.isNone = false) (hn : (fn.name == "runtime.NumGoroutine") = false) {args : Array Value} (ha : xs.map a.eval = args) (hm : Mono (K f args))
    (h1 : ∀ w, le W w → Calls P f args w (fun e w' => ∃ v, e = .returned v ∧ le w w' ∧ K f args w' v)) (h2 : ∀ v, (∃ w, le W w ∧ K f args w v) → wpFree P ops W K Q rest (a.put o.dst v) (fun w => F w ∧ K f args w v)) : wpFree P ops W K Q (o :: rest) a F :=
  ⟨K f args, ⟨hm, .inl ⟨by simp [Region.wanted, hg], fun w hw => by rw [run_enter hop hf hb hn ha]; exact ⟨le_refl w, h1 w hw, fun _ _ h => h⟩⟩⟩, h2⟩

/-- A whole array is loaded. -/
theorem wpFree_loadA (hg : o.guard = none) {ty : TypeId} {x : Operand} (hop : o.op = .load ty x) {g : Nat} (hx : a.eval x = .pointer (some ⟨g, 0, none⟩)) {t : TypeId} {cs : Array Value} {n : Nat} {e : TypeId}
    (hr : Row W g t cs) (hu : P.underlying ty = some (.array n e)) (hi : (P.info? ty).map (·.size) = some cs.size)
    (h : wpFree P ops W K Q rest (a.put o.dst (.agg cs)) F) : wpFree P ops W K Q (o :: rest) a F := by
  refine wpFree_one hg (.agg cs) (fun w hw => ?_) h
  have := run_loadVar_row (P := P) w g t ty cs (0, 0) _ (hr.le hw) hu rfl hi
  simp [execOp, hop, hx, Instr.loadAt, Instr.sureAddr, this, Result.andThen]

/-- A new block, of a type whose zero is a known row. -/
theorem wpFree_alloc (hg : o.guard = none) {ty : TypeId} (hop : o.op = .alloc ty) (cs : Array Value)
    (hr : ∀ w, (Instr.alloc ty true (.tuple #[])).run P w = .ok (.pointer (some ⟨w.heap.size, 0, none⟩)) (w.alloc (.cells cs ty)))
    (h : ∀ b, W.heap.size ≤ b → wpFree P ops W K Q rest (a.put o.dst (.pointer (some ⟨b, 0, none⟩))) (fun w => F w ∧ ∃ b', Value.pointer (some ⟨b, 0, none⟩) = .pointer (some ⟨b', 0, none⟩) ∧ W.heap.size ≤ b' ∧ Row w b' ty cs)) : wpFree P ops W K Q (o :: rest) a F := by
  refine ⟨fun w v => ∃ b, v = .pointer (some ⟨b, 0, none⟩) ∧ W.heap.size ≤ b ∧ Row w b ty cs, ⟨fun v w w' hl h => ?_, .inl ⟨by simp [Region.wanted, hg], fun w hw => ?_⟩⟩, fun v hv => ?_⟩
  · obtain ⟨b, e, h1, h2⟩ := h; exact ⟨b, e, h1, h2.le hl⟩
  · simp [execOp, hop, hr, Result.andThen, inside]
    exact ⟨le_alloc w _, Below.size hw, Row.new w ty cs⟩
  · obtain ⟨w, _, b, rfl, hb, _⟩ := hv
    exact h b hb

/-- The walk serves a region that keeps the text's order, too. -/
theorem list_of_free {ops : Array Oper} {l2 : List Oper} {Q' : Exit → Act → World → Prop} : ∀ (l1 : List Oper) (a : Act) (F : World → Prop) (w : World), (∀ w w', le w w' → F w → F w') → le W w → F w →
    wpFree P ops W K (fun a' w' => wpList P ops Q' l2 a' w') l1 a F → wpList P ops Q' (l1 ++ l2) a w := by
  intro l1
  induction l1 with
  | nil => intro a F w _ hw hF h; exact h w hw hF
  | cons o l1 ih =>
    intro a F w hm hw hF h
    obtain ⟨V, hg, hn⟩ := h
    have next : ∀ v w', le w w' → V w' v → wpList P ops Q' (l1 ++ l2) (a.put o.dst v) w' := fun v w' hl hv =>
      ih _ _ _ (fun u u' hu hh => ⟨hm u u' hu hh.1, hg.1 v u u' hu hh.2⟩) (le_trans hw hl) ⟨hm w w' hl hF, hv⟩ (hn v ⟨w', le_trans hw hl, hv⟩)
    show wpList P ops Q' (o :: (l1 ++ l2)) a w
    unfold wpList
    rcases hg.2 with ⟨hwant, hv⟩ | ⟨hwant, hv⟩
    · rw [if_pos hwant]
      left
      have h3 := hv w hw
      unfold Oper.wp
      generalize (execOp a.eval o).run P w = r at h3
      cases r with
      | ok x w' =>
        cases x <;> simp only [inside] at h3 <;> simp only [Oper.upon]
        case value u => exact next u _ h3.1 h3.2
        case skip => exact next undef _ h3.1 h3.2
        case enter f args =>
          refine h3.2.1.mono fun e w'' he => ?_
          obtain ⟨v, rfl, hl, hk⟩ := he
          exact next v _ (le_trans h3.1 hl) (h3.2.2 w'' v hk)
      | halt x w' => simp only [inside] at h3
    · rw [if_neg (by simp [hwant])]
      exact next undef _ (le_refl w) (hv w hw)

theorem region_line (K : FuncId → Array Value → World → Value → Prop) {id : Nat} {Q' : Exit → Act → World → Prop} {a : Act} {w : World} {l : List Oper} (n : Nat)
    (h : wpFree P l.toArray (w.drewN 0) K (fun a' w' => wpList P l.toArray Q' (l.drop n) a' w') (l.take n) a (fun _ => True)) : (Code.region id l.toArray false).wp P Q' a w := by
  refine wp_region_lit ?_
  have := list_of_free (W := w.drewN 0) (l.take n) a _ w (fun _ _ _ h => h) (le_refl w) trivial h
  rwa [List.take_append_drop] at this
end
end Go.Fk

/- Blocks of 16 floats: 'laws.toBlock', 'laws.eqBlock'. -/
namespace Go.Fk
open Go Go.RowKit
/-- A block of 16 floats is given, each up to the bits of NaN; nothing old is written. -/
def OutB (F : Nat → Nat) (w : World) (e : Ending) (w' : World) : Prop := ∃ g, e = .returned (.agg (ftab .f32 g 16)) ∧ (∀ j, j < 16 → can .f32 (g j) = F j ∧ fits .f32 (g j)) ∧ Below w.heap.size w w'
/-- One cell more of a row that is being filled. -/
theorem fill_step {α : Type} {p : Nat → α → Prop} {g : Nat → α} {k : Nat} {r : α} (h : ∀ j, j < k → p j (g j)) (hr : p k r) : ∀ j, j < k + 1 → p j (if j = k then r else g j) := by
  intro j hj
  by_cases e : j = k
  · subst e; simpa using hr
  · simpa [e] using h j (by omega)
theorem rest_step {α : Type} {g x : Nat → α} {k : Nat} {r : α} (h : ∀ j, k ≤ j → g j = x j) : ∀ j, k + 1 ≤ j → (if j = k then r else g j) = x j := by
  intro j hj
  rw [if_neg (by omega)]
  exact h j (by omega)
end Go.Fk
namespace Go.Proofs.Ytmacednkpjfokaa
open Go.RowKit Go.Fk

theorem infoBlk : (Try.prog.info? 29).map (·.size) = some 16 := by kernel_rfl

theorem allocBlk (w : World) : (Instr.alloc 29 true (.tuple #[])).run Try.prog w = .ok (.pointer (some ⟨w.heap.size, 0, none⟩)) (w.alloc (.cells (ftab .f32 (fun _ => 0) 16) 29)) := by kernel_rfl

theorem toBlock_any (x : Nat → Nat) (w : World) : Calls Try.prog 15 #[.agg (ftab .f32 x 16)] w fun e w' => e = .returned (.agg (ftab .f32 x 16)) ∧ Below w.heap.size w w' := by
  go_enter Try.func15, Try.ntmps15
  go_wp2
  go_loopw [4] (fun i wr => ∃ k : Nat, k ≤ 16 ∧ i = .int .i64 k ∧ Row wr w.heap.size 27 (ftab .f32 x 16) ∧ (∃ z, Row wr (w.heap.size + 1) 29 (ftab .f32 z 16)) ∧ Row wr (w.heap.size + 1 + 1) 29 (ftab .f32 (fun j => if j < k then x j else 0) 16) ∧ Below w.heap.size w wr) (fun i _ => 16 - (intOf i).toNat)
  case atStart =>
    refine ⟨0, by omega, rfl, ?_, ⟨fun _ => 0, ?_⟩, ?_, by repeat' (first | (with_reducible exact Below.refl _ _) | (with_reducible assumption) | (with_reducible refine below_drewN ?_ _) | (with_reducible refine Below.alloc ?_ ?_ _) | (with_reducible refine Below.drew ?_) | (with_reducible refine Below.setCell ?_ ?_ _) | go_size)⟩
    · exact ((Row.new w _ _).alloc _).alloc _
    · exact (Row.new' _ _ _ (by simp)).alloc _
    · exact Row.new' _ _ _ (by simp)
  case round =>
    obtain ⟨k, hk, rfl, hA, ⟨z, hZ⟩, hO, hb⟩ := hrel
    by_cases hlt : k < 16
    · have c1 := hA.ftab hlt
      have c2 := hO.ftab hlt
      have f2 := hO.frozen k
      have HA := hid hA; clear hA
      have HZ := hid hZ; clear hZ
      have HO := hid hO; clear hO
      go_wp2
      go_roundw
      case rel =>
        refine ⟨k + 1, by omega, by go_num, HA.out.other _ _ (by simp; omega), ⟨z, HZ.out.other _ _ (by simp)⟩, ?_, hb.setCell (by simp; omega) _⟩
        have h := HO.out.set k (.float .f32 (x k))
        rw [set_ftab] at h
        rw [show (fun j => if j < k + 1 then x j else 0) = (fun j => if j = k then x k else if j < k then x j else 0) from ?_]
        · exact h
        · funext j
          by_cases e : j = k
          · subst e; simp
          · simp [e, show (j < k + 1) = (j < k) by simp; omega]
      case measure => simp [intOf]; omega
    · obtain rfl : k = 16 := by omega
      rw [show ftab .f32 (fun j => if j < 16 then x j else 0) 16 = ftab .f32 x 16 from ftab_congr (fun j hj => if_pos hj)] at hO
      have HA := hid hA; clear hA
      have hsz : (Try.prog.info? 29).map (·.size) = some (ftab .f32 x 16).size := by rw [size_ftab]; exact infoBlk
      go_wp2_with (first | (with_reducible refine wpList_loadA rfl rfl rfl hO Try.underlying29 hsz ?_) | (with_reducible refine wpList_storeA rfl rfl rfl rfl hZ hsz (by rw [size_ftab, size_ftab]) (one_ftab _ _ _) ?_))
      exact bodyPost_ret (results_cell_row rfl _ _ _ _ _ (0, 0) _ rfl (hZ.setRow _) Try.underlying29 rfl hsz) rfl ⟨rfl, below_setRow hb (by omega) _⟩

theorem eqBlock_yes (x y : Nat → Nat) (w : World) (h : ∀ j, j < 16 → can .f32 (x j) = can .f32 (y j)) :
    Calls Try.prog 18 #[.agg (ftab .f32 x 16), .agg (ftab .f32 y 16)] w fun e w' => e = .returned (.bool true) ∧ Below w.heap.size w w' := by
  have H := hid h; clear h
  go_enter Try.func18, Try.ntmps18
  go_wp2
  go_loopw [5] (fun i wr => ∃ k : Nat, k ≤ 16 ∧ i = .int .i64 k ∧ Row wr w.heap.size 29 (ftab .f32 x 16) ∧ Row wr (w.heap.size + 1) 29 (ftab .f32 y 16) ∧ Below w.heap.size w wr) (fun i _ => 16 - (intOf i).toNat)
  case atStart =>
    exact ⟨0, by omega, rfl, (Row.new w _ _).alloc _, Row.new' _ _ _ (by simp), by repeat' (first | (with_reducible exact Below.refl _ _) | (with_reducible assumption) | (with_reducible refine below_drewN ?_ _) | (with_reducible refine Below.alloc ?_ ?_ _) | (with_reducible refine Below.drew ?_) | (with_reducible refine Below.setCell ?_ ?_ _) | go_size)⟩
  case round =>
    obtain ⟨k, hk, rfl, hA, hB, hb⟩ := hrel
    by_cases hlt : k < 16
    · have c1 := hA.ftab hlt
      have c2 := hB.ftab hlt
      have HA := hid hA; clear hA
      have HB := hid hB; clear hB
      have hxy := hid (H.out k hlt)
      go_wp2_with fail
      refine wp_region_loose (fun _ _ v => v = .bool true) (by kernel_rfl) (by kernel_rfl) ?_
      repeat (first | (with_reducible refine wpLoose_widen rfl rfl rfl Try.underlying22 Try.underlying63 ?_; intro r hr hf; simp only [Act.put, List.setIfInBounds_toArray, List.set_cons_succ, List.set_cons_zero]) | (refine wpLoose_quiet rfl ?_; go_big_quiet_step (fail); refine wpQuiet_nil ?_))
      refine wpLoose_any rfl (· = .bool true) (fun n => ?_) ?_
      · go_simp
        refine loose_of (sameFloat_yes _ _ _ ?_)
        have hr1 := ‹Hid (can .f64 _ = can .f64 (widen (x k)))›
        exact hr1.out.trans ((congrArg (can .f64) (widen_congr hxy)).trans hr.out.symm)
      · rintro v rfl
        simp only [Act.put, List.setIfInBounds_toArray, List.set_cons_succ, List.set_cons_zero]
        repeat (refine wpLoose_quiet rfl ?_; go_big_quiet_step (fail); refine wpQuiet_nil ?_)
        refine wpLoose_nil (fun n => ?_)
        go_wp2
        go_roundw
        case rel => exact ⟨k + 1, by omega, by go_num, HA.out.drewN _, HB.out.drewN _, below_drewN hb _⟩
        case measure => simp [intOf]; omega
    · obtain rfl : k = 16 := by omega
      have HA := hid hA; clear hA
      have HB := hid hB; clear hB
      go_wp2
      go_ret
      exact ⟨rfl, hb⟩
end Go.Proofs.Ytmacednkpjfokaa

/- Arrays of floats: 'laws.toX', 'laws.eqX' of [3]float32, [2]float32, Table. -/
namespace Go.Proofs.Ytmacednkpjfokaa
open Go.RowKit Go.Fk
theorem infoA3 : (Try.prog.info? 23).map (·.size) = some 3 := by kernel_rfl
theorem allocA3 (w : World) : (Instr.alloc 23 true (.tuple #[])).run Try.prog w = .ok (.pointer (some ⟨w.heap.size, 0, none⟩)) (w.alloc (.cells (ftab .f32 (fun _ => 0) 3) 23)) := by kernel_rfl
theorem eqA3_yes (x y : Nat → Nat) (w : World) (h : ∀ j, j < 3 → can .f32 (x j) = can .f32 (y j)) :
    Calls Try.prog 54 #[.agg (ftab .f32 x 3), .agg (ftab .f32 y 3)] w fun e w' => e = .returned (.bool true) ∧ Below w.heap.size w w' := by
  have H := hid h; clear h
  go_enter Try.func54, Try.ntmps54
  go_wp2
  go_loopw [5] (fun i wr => ∃ k : Nat, k ≤ 3 ∧ i = .int .i64 k ∧ Row wr w.heap.size 23 (ftab .f32 x 3) ∧ Row wr (w.heap.size + 1) 23 (ftab .f32 y 3) ∧ Below w.heap.size w wr) (fun i _ => 3 - (intOf i).toNat)
  case atStart =>
    exact ⟨0, by omega, rfl, (Row.new w _ _).alloc _, Row.new' _ _ _ (by simp), by repeat' (first | (with_reducible exact Below.refl _ _) | (with_reducible assumption) | (with_reducible refine below_drewN ?_ _) | (with_reducible refine Below.alloc ?_ ?_ _) | (with_reducible refine Below.drew ?_) | (with_reducible refine Below.setCell ?_ ?_ _) | go_size)⟩
  case round =>
    obtain ⟨k, hk, rfl, hA, hB, hb⟩ := hrel
    by_cases hlt : k < 3
    · have c1 := hA.ftab hlt
      have c2 := hB.ftab hlt
      have HA := hid hA; clear hA
      have HB := hid hB; clear hB
      have hxy := hid (H.out k hlt)
      go_wp2_with fail
      refine wp_region_loose (fun _ _ v => v = .bool true) (by kernel_rfl) (by kernel_rfl) ?_
      repeat (first | (with_reducible refine wpLoose_widen rfl rfl rfl Try.underlying22 Try.underlying63 ?_; intro r hr hf; simp only [Act.put, List.setIfInBounds_toArray, List.set_cons_succ, List.set_cons_zero]) | (refine wpLoose_quiet rfl ?_; go_big_quiet_step (fail); refine wpQuiet_nil ?_))
      refine wpLoose_any rfl (· = .bool true) (fun n => ?_) ?_
      · go_simp
        refine loose_of (sameFloat_yes _ _ _ ?_)
        have hr1 := ‹Hid (can .f64 _ = can .f64 (widen (x k)))›
        exact hr1.out.trans ((congrArg (can .f64) (widen_congr hxy)).trans hr.out.symm)
      · rintro v rfl
        simp only [Act.put, List.setIfInBounds_toArray, List.set_cons_succ, List.set_cons_zero]
        repeat (refine wpLoose_quiet rfl ?_; go_big_quiet_step (fail); refine wpQuiet_nil ?_)
        refine wpLoose_nil (fun n => ?_)
        go_wp2
        go_roundw
        case rel => exact ⟨k + 1, by omega, by go_num, HA.out.drewN _, HB.out.drewN _, below_drewN hb _⟩
        case measure => simp [intOf]; omega
    · obtain rfl : k = 3 := by omega
      have HA := hid hA; clear hA
      have HB := hid hB; clear hB
      go_wp2
      go_ret
      exact ⟨rfl, hb⟩
theorem toA3_any (x : Nat → Nat) (w : World) : Calls Try.prog 49 #[.agg (ftab .f32 x 3)] w fun e w' => e = .returned (.agg (ftab .f32 x 3)) ∧ Below w.heap.size w w' := by
  go_enter Try.func49, Try.ntmps49
  go_wp2
  go_loopw [4] (fun i wr => ∃ k : Nat, k ≤ 3 ∧ i = .int .i64 k ∧ Row wr w.heap.size 23 (ftab .f32 x 3) ∧ (∃ z, Row wr (w.heap.size + 1) 23 (ftab .f32 z 3)) ∧ Row wr (w.heap.size + 1 + 1) 23 (ftab .f32 (fun j => if j < k then x j else 0) 3) ∧ Below w.heap.size w wr) (fun i _ => 3 - (intOf i).toNat)
  case atStart =>
    refine ⟨0, by omega, rfl, ?_, ⟨fun _ => 0, ?_⟩, ?_, by repeat' (first | (with_reducible exact Below.refl _ _) | (with_reducible assumption) | (with_reducible refine below_drewN ?_ _) | (with_reducible refine Below.alloc ?_ ?_ _) | (with_reducible refine Below.drew ?_) | (with_reducible refine Below.setCell ?_ ?_ _) | go_size)⟩
    · exact ((Row.new w _ _).alloc _).alloc _
    · exact (Row.new' _ _ _ (by simp)).alloc _
    · exact Row.new' _ _ _ (by simp)
  case round =>
    obtain ⟨k, hk, rfl, hA, ⟨z, hZ⟩, hO, hb⟩ := hrel
    by_cases hlt : k < 3
    · have c1 := hA.ftab hlt
      have c2 := hO.ftab hlt
      have f2 := hO.frozen k
      have HA := hid hA; clear hA
      have HZ := hid hZ; clear hZ
      have HO := hid hO; clear hO
      go_wp2
      go_roundw
      case rel =>
        refine ⟨k + 1, by omega, by go_num, HA.out.other _ _ (by simp; omega), ⟨z, HZ.out.other _ _ (by simp)⟩, ?_, hb.setCell (by simp; omega) _⟩
        have h := HO.out.set k (.float .f32 (x k))
        rw [set_ftab] at h
        rw [show (fun j => if j < k + 1 then x j else 0) = (fun j => if j = k then x k else if j < k then x j else 0) from ?_]
        · exact h
        · funext j
          by_cases e : j = k
          · subst e; simp
          · simp [e, show (j < k + 1) = (j < k) by simp; omega]
      case measure => simp [intOf]; omega
    · obtain rfl : k = 3 := by omega
      rw [show ftab .f32 (fun j => if j < 3 then x j else 0) 3 = ftab .f32 x 3 from ftab_congr (fun j hj => if_pos hj)] at hO
      have HA := hid hA; clear hA
      have hsz : (Try.prog.info? 23).map (·.size) = some (ftab .f32 x 3).size := by rw [size_ftab]; exact infoA3
      go_wp2_with (first | (with_reducible refine wpList_loadA rfl rfl rfl hO Try.underlying23 hsz ?_) | (with_reducible refine wpList_storeA rfl rfl rfl rfl hZ hsz (by rw [size_ftab, size_ftab]) (one_ftab _ _ _) ?_))
      exact bodyPost_ret (results_cell_row rfl _ _ _ _ _ (0, 0) _ rfl (hZ.setRow _) Try.underlying23 rfl hsz) rfl ⟨rfl, below_setRow hb (by omega) _⟩
theorem infoA2 : (Try.prog.info? 24).map (·.size) = some 2 := by kernel_rfl
theorem allocA2 (w : World) : (Instr.alloc 24 true (.tuple #[])).run Try.prog w = .ok (.pointer (some ⟨w.heap.size, 0, none⟩)) (w.alloc (.cells (ftab .f32 (fun _ => 0) 2) 24)) := by kernel_rfl
theorem eqA2_yes (x y : Nat → Nat) (w : World) (h : ∀ j, j < 2 → can .f32 (x j) = can .f32 (y j)) :
    Calls Try.prog 55 #[.agg (ftab .f32 x 2), .agg (ftab .f32 y 2)] w fun e w' => e = .returned (.bool true) ∧ Below w.heap.size w w' := by
  have H := hid h; clear h
  go_enter Try.func55, Try.ntmps55
  go_wp2
  go_loopw [5] (fun i wr => ∃ k : Nat, k ≤ 2 ∧ i = .int .i64 k ∧ Row wr w.heap.size 24 (ftab .f32 x 2) ∧ Row wr (w.heap.size + 1) 24 (ftab .f32 y 2) ∧ Below w.heap.size w wr) (fun i _ => 2 - (intOf i).toNat)
  case atStart =>
    exact ⟨0, by omega, rfl, (Row.new w _ _).alloc _, Row.new' _ _ _ (by simp), by repeat' (first | (with_reducible exact Below.refl _ _) | (with_reducible assumption) | (with_reducible refine below_drewN ?_ _) | (with_reducible refine Below.alloc ?_ ?_ _) | (with_reducible refine Below.drew ?_) | (with_reducible refine Below.setCell ?_ ?_ _) | go_size)⟩
  case round =>
    obtain ⟨k, hk, rfl, hA, hB, hb⟩ := hrel
    by_cases hlt : k < 2
    · have c1 := hA.ftab hlt
      have c2 := hB.ftab hlt
      have HA := hid hA; clear hA
      have HB := hid hB; clear hB
      have hxy := hid (H.out k hlt)
      go_wp2_with fail
      refine wp_region_loose (fun _ _ v => v = .bool true) (by kernel_rfl) (by kernel_rfl) ?_
      repeat (first | (with_reducible refine wpLoose_widen rfl rfl rfl Try.underlying22 Try.underlying63 ?_; intro r hr hf; simp only [Act.put, List.setIfInBounds_toArray, List.set_cons_succ, List.set_cons_zero]) | (refine wpLoose_quiet rfl ?_; go_big_quiet_step (fail); refine wpQuiet_nil ?_))
      refine wpLoose_any rfl (· = .bool true) (fun n => ?_) ?_
      · go_simp
        refine loose_of (sameFloat_yes _ _ _ ?_)
        have hr1 := ‹Hid (can .f64 _ = can .f64 (widen (x k)))›
        exact hr1.out.trans ((congrArg (can .f64) (widen_congr hxy)).trans hr.out.symm)
      · rintro v rfl
        simp only [Act.put, List.setIfInBounds_toArray, List.set_cons_succ, List.set_cons_zero]
        repeat (refine wpLoose_quiet rfl ?_; go_big_quiet_step (fail); refine wpQuiet_nil ?_)
        refine wpLoose_nil (fun n => ?_)
        go_wp2
        go_roundw
        case rel => exact ⟨k + 1, by omega, by go_num, HA.out.drewN _, HB.out.drewN _, below_drewN hb _⟩
        case measure => simp [intOf]; omega
    · obtain rfl : k = 2 := by omega
      have HA := hid hA; clear hA
      have HB := hid hB; clear hB
      go_wp2
      go_ret
      exact ⟨rfl, hb⟩
theorem toA2_any (x : Nat → Nat) (w : World) : Calls Try.prog 50 #[.agg (ftab .f32 x 2)] w fun e w' => e = .returned (.agg (ftab .f32 x 2)) ∧ Below w.heap.size w w' := by
  go_enter Try.func50, Try.ntmps50
  go_wp2
  go_loopw [4] (fun i wr => ∃ k : Nat, k ≤ 2 ∧ i = .int .i64 k ∧ Row wr w.heap.size 24 (ftab .f32 x 2) ∧ (∃ z, Row wr (w.heap.size + 1) 24 (ftab .f32 z 2)) ∧ Row wr (w.heap.size + 1 + 1) 24 (ftab .f32 (fun j => if j < k then x j else 0) 2) ∧ Below w.heap.size w wr) (fun i _ => 2 - (intOf i).toNat)
  case atStart =>
    refine ⟨0, by omega, rfl, ?_, ⟨fun _ => 0, ?_⟩, ?_, by repeat' (first | (with_reducible exact Below.refl _ _) | (with_reducible assumption) | (with_reducible refine below_drewN ?_ _) | (with_reducible refine Below.alloc ?_ ?_ _) | (with_reducible refine Below.drew ?_) | (with_reducible refine Below.setCell ?_ ?_ _) | go_size)⟩
    · exact ((Row.new w _ _).alloc _).alloc _
    · exact (Row.new' _ _ _ (by simp)).alloc _
    · exact Row.new' _ _ _ (by simp)
  case round =>
    obtain ⟨k, hk, rfl, hA, ⟨z, hZ⟩, hO, hb⟩ := hrel
    by_cases hlt : k < 2
    · have c1 := hA.ftab hlt
      have c2 := hO.ftab hlt
      have f2 := hO.frozen k
      have HA := hid hA; clear hA
      have HZ := hid hZ; clear hZ
      have HO := hid hO; clear hO
      go_wp2
      go_roundw
      case rel =>
        refine ⟨k + 1, by omega, by go_num, HA.out.other _ _ (by simp; omega), ⟨z, HZ.out.other _ _ (by simp)⟩, ?_, hb.setCell (by simp; omega) _⟩
        have h := HO.out.set k (.float .f32 (x k))
        rw [set_ftab] at h
        rw [show (fun j => if j < k + 1 then x j else 0) = (fun j => if j = k then x k else if j < k then x j else 0) from ?_]
        · exact h
        · funext j
          by_cases e : j = k
          · subst e; simp
          · simp [e, show (j < k + 1) = (j < k) by simp; omega]
      case measure => simp [intOf]; omega
    · obtain rfl : k = 2 := by omega
      rw [show ftab .f32 (fun j => if j < 2 then x j else 0) 2 = ftab .f32 x 2 from ftab_congr (fun j hj => if_pos hj)] at hO
      have HA := hid hA; clear hA
      have hsz : (Try.prog.info? 24).map (·.size) = some (ftab .f32 x 2).size := by rw [size_ftab]; exact infoA2
      go_wp2_with (first | (with_reducible refine wpList_loadA rfl rfl rfl hO Try.underlying24 hsz ?_) | (with_reducible refine wpList_storeA rfl rfl rfl rfl hZ hsz (by rw [size_ftab, size_ftab]) (one_ftab _ _ _) ?_))
      exact bodyPost_ret (results_cell_row rfl _ _ _ _ _ (0, 0) _ rfl (hZ.setRow _) Try.underlying24 rfl hsz) rfl ⟨rfl, below_setRow hb (by omega) _⟩
end Go.Proofs.Ytmacednkpjfokaa

/- Parts of rows of cells: loads and stores of arrays and structs at an offset; a fresh block that is written whole. Nothing here names a program. -/
namespace Go.Fk
open Go Go.RowKit

/-- A row of which a part is written over. -/
def patch (cs : Array Value) (o : Nat) : List Value → Array Value
  | [] => cs
  | v :: r => patch (cs.setIfInBounds o v) (o + 1) r

/-- A world behind a store into block g, which holds a row thereafter. -/
structure Wrote (w w' : World) (g : Nat) (t : TypeId) (cs : Array Value) : Prop where
  row : Row w' g t cs
  other : ∀ g' t' cs', g' ≠ g → Row w g' t' cs' → Row w' g' t' cs'
  size : w'.heap.size = w.heap.size
  below : ∀ B a, Below B a w → B ≤ g → Below B a w'
  block : ∀ k, k ≠ g → w'.heap[k]? = w.heap[k]?

theorem wrote_setCells {g : Nat} {t : TypeId} : ∀ (vs : List Value) (o : Nat) (cs : Array Value) (w : World), Row w g t cs → Wrote w (w.setCells g o vs) g t (patch cs o vs)
  | [], _, _, _, h => ⟨h, fun _ _ _ _ h => h, rfl, fun _ _ h _ => h, fun _ _ => rfl⟩
  | v :: r, o, cs, w, h => by
    rw [World.setCells]
    have k := wrote_setCells r (o + 1) _ _ (h.set o v)
    refine ⟨k.row, fun g' t' cs' hne hr => k.other _ _ _ hne (hr.other ⟨g, o, none⟩ v hne), ?_, fun B a hb hg => k.below B a (hb.setCell hg v) hg, fun i hi => (k.block i hi).trans (Below.heap_setCell _ _ _ _ hi)⟩
    rw [k.size]; simp
theorem wrote_setRow {g : Nat} {t : TypeId} {w : World} {cs ds : Array Value} (h : Row w g t cs) : Wrote w (w.setRow g ds) g t ds :=
  ⟨h.setRow _, fun _ _ _ hne hr => hr.setRow_other hne _, by simp [World.setRow], fun _ _ hb hg => below_setRow hb hg _, fun i hi => by unfold World.setRow; rw [Array.getElem?_modify, if_neg (Ne.symm hi)]⟩

section
variable {P : Program} {w : World} {ops : Array Oper} {rest : List Oper} {o : Oper} {a : Act} {Q : Exit → Act → World → Prop}
/-- A whole array or struct is loaded. -/
theorem wpList_loadD (hg : o.guard = none) {ty : TypeId} {x : Operand} (hop : o.op = .load ty x) {g : Nat} (hx : a.eval x = .pointer (some ⟨g, 0, none⟩)) {t : TypeId} {cs : Array Value} {d : TypeDesc}
    (hr : Row w g t cs) (hu : P.underlying ty = some d) (hd : (match d with | .struct _ | .array _ _ => true | _ => false) = true) (hi : (P.info? ty).map (·.size) = some cs.size)
    (h : wpList P ops Q rest (a.put o.dst (.agg cs)) w) : wpList P ops Q (o :: rest) a w :=
  wpList_load_row hg ty x hop g hx t cs (0, 0) d hr hu hd hi h
theorem wpList_loadDn (hg : o.guard = none) {ty : TypeId} {x : Operand} (hop : o.op = .load ty x) {g : Nat} (hx : a.eval x = .pointer (some ⟨g, 0, none⟩)) {t : TypeId} {cs : Array Value} {d : TypeDesc}
    (hr : Row w g t cs) (hu : P.underlying ty = some d) (hd : (match d with | .struct _ | .array _ _ => true | _ => false) = true) {n : Nat} (hi : (P.info? ty).map (·.size) = some n) (hn : cs.size = n)
    (h : wpList P ops Q rest (a.put o.dst (.agg cs)) w) : wpList P ops Q (o :: rest) a w :=
  wpList_loadD hg hop hx hr hu hd (hn ▸ hi) h
/-- A part that is an array or a struct is loaded. -/
theorem wpList_loadP (hg : o.guard = none) {ty : TypeId} {x : Operand} (hop : o.op = .load ty x) {g f : Nat} (hx : a.eval x = .pointer (some ⟨g, f, none⟩)) {t : TypeId} {cs : Array Value} {d : TypeDesc}
    (hr : Row w g t cs) (hu : P.underlying ty = some d) (hd : d.isRow = true) (ds : List Value) (hc : ∀ j, j < ds.length → cs[f + j]? = ds[j]?) (hi : (P.info? ty).map (·.size) = some ds.length)
    (h : wpList P ops Q rest (a.put o.dst (.agg ds.toArray)) w) : wpList P ops Q (o :: rest) a w :=
  wpList_load_mid hg ty x hop g f hx ds d (fun j v hv => by rw [hr.cell?, hc j (List.getElem?_eq_some_iff.1 hv).1, hv]) hu hd hi h
/-- A whole array or struct is stored. -/
theorem wpList_storeD (hg : o.guard = none) {ty : TypeId} {x y : Operand} (hop : o.op = .store ty x y) {g : Nat} (hx : a.eval x = .pointer (some ⟨g, 0, none⟩)) {cells : Array Value} (hy : a.eval y = .agg cells) {t : TypeId} {old : Array Value}
    (hr : Row w g t old) (hi : (P.info? ty).map (·.size) = some cells.size) (ho : old.size = cells.size) (h1 : cells.all (·.oneCell') = true)
    (h : ∀ w', Wrote w w' g t cells → wpList P ops Q rest (a.put o.dst undef) w') : wpList P ops Q (o :: rest) a w :=
  wpList_plain hg fun _ hK => wp_store_row ty x y hop g cells hx hy t old hr hi ho h1 (hK _ _ (h _ (wrote_setRow hr)))
/-- A part is stored. -/
theorem wpList_storeP (hg : o.guard = none) {ty : TypeId} {x y : Operand} (hop : o.op = .store ty x y) {g f : Nat} (hx : a.eval x = .pointer (some ⟨g, f, none⟩)) {cells : List Value} (hy : a.eval y = .agg cells.toArray) {t : TypeId} {old : Array Value}
    (hr : Row w g t old) (hi : (P.info? ty).map (·.size) = some cells.length) (ho : f + cells.length ≤ old.size) (h1 : cells.toArray.all (·.oneCell') = true)
    (h : ∀ w', Wrote w w' g t (patch old f cells) → wpList P ops Q rest (a.put o.dst undef) w') : wpList P ops Q (o :: rest) a w := by
  refine wpList_store_mid hg ty x y hop g f cells.toArray hx hy (fun j hj => ?_) (by simpa using hi) h1 ?_
  · have hj' : f + j < old.size := by simp at hj; omega
    refine ⟨?_, hr.frozen _⟩
    rw [hr.cell?, Array.getElem?_eq_getElem hj']; rfl
  · have := h _ (wrote_setCells (cells.toArray.toList) f old w hr)
    simpa using this
/-- A fresh block is written whole. -/
theorem wpList_storeN {w1 : World} {t : TypeId} {old : Array Value} (hw : w = w1.alloc (.cells old t)) (hg : o.guard = none) {ty : TypeId} {x y : Operand} (hop : o.op = .store ty x y) (hx : a.eval x = .pointer (some ⟨w1.heap.size, 0, none⟩)) {cells : Array Value} (hy : a.eval y = .agg cells)
    (hi : (P.info? ty).map (·.size) = some cells.size) (ho : old.size = cells.size) (h1 : cells.all (·.oneCell') = true)
    (h : ∀ w', Row w' w1.heap.size t cells → le w1 w' → w'.heap.size = w1.heap.size + 1 → wpList P ops Q rest (a.put o.dst undef) w') : wpList P ops Q (o :: rest) a w := by
  subst hw
  refine wpList_storeD hg hop hx hy (Row.new w1 t old) hi ho h1 (fun w' hw => h w' hw.row (hw.below _ _ (le_alloc w1 _) (Nat.le_refl _)) ?_)
  rw [hw.size]; simp

/-- To stop a walk at a store. -/
theorem stop_store {ty : TypeId} {x y : Operand} (_ : o.op = .store ty x y) (h : Hid (wpList P ops Q (o :: rest) a w)) : wpList P ops Q (o :: rest) a w := h
/-- Of six cells those of three. -/
theorem wpList_load3 (hg : o.guard = none) {ty : TypeId} {x : Operand} (hop : o.op = .load ty x) {g : Nat} (hx : a.eval x = .pointer (some ⟨g, 1, none⟩)) {t : TypeId} {v0 v1 v2 v3 v4 v5 : Value} {d : TypeDesc}
    (hr : Row w g t #[v0, v1, v2, v3, v4, v5]) (hu : P.underlying ty = some d) (hd : d.isRow = true) (hi : (P.info? ty).map (·.size) = some 3)
    (h : wpList P ops Q rest (a.put o.dst (.agg #[v1, v2, v3])) w) : wpList P ops Q (o :: rest) a w :=
  wpList_loadP hg hop hx hr hu hd [v1, v2, v3] (fun j hj => by match j, hj with | 0, _ => rfl | 1, _ => rfl | 2, _ => rfl) hi h
/-- Of six cells the last two. -/
theorem wpList_load2 (hg : o.guard = none) {ty : TypeId} {x : Operand} (hop : o.op = .load ty x) {g : Nat} (hx : a.eval x = .pointer (some ⟨g, 4, none⟩)) {t : TypeId} {v0 v1 v2 v3 v4 v5 : Value} {d : TypeDesc}
    (hr : Row w g t #[v0, v1, v2, v3, v4, v5]) (hu : P.underlying ty = some d) (hd : d.isRow = true) (hi : (P.info? ty).map (·.size) = some 2)
    (h : wpList P ops Q rest (a.put o.dst (.agg #[v4, v5])) w) : wpList P ops Q (o :: rest) a w :=
  wpList_loadP hg hop hx hr hu hd [v4, v5] (fun j hj => by match j, hj with | 0, _ => rfl | 1, _ => rfl) hi h
theorem wpList_store3 (hg : o.guard = none) {ty : TypeId} {x y : Operand} (hop : o.op = .store ty x y) {g : Nat} (hx : a.eval x = .pointer (some ⟨g, 1, none⟩)) {u1 u2 u3 : Value} (hy : a.eval y = .agg #[u1, u2, u3]) {t : TypeId} {v0 v1 v2 v3 v4 v5 : Value}
    (hr : Row w g t #[v0, v1, v2, v3, v4, v5]) (hi : (P.info? ty).map (·.size) = some 3) (h1 : (#[u1, u2, u3]).all (·.oneCell') = true)
    (h : ∀ w', Wrote w w' g t #[v0, u1, u2, u3, v4, v5] → wpList P ops Q rest (a.put o.dst undef) w') : wpList P ops Q (o :: rest) a w :=
  wpList_storeP (cells := [u1, u2, u3]) hg hop hx hy hr hi (by simp) h1 h
theorem wpList_store2 (hg : o.guard = none) {ty : TypeId} {x y : Operand} (hop : o.op = .store ty x y) {g : Nat} (hx : a.eval x = .pointer (some ⟨g, 4, none⟩)) {u1 u2 : Value} (hy : a.eval y = .agg #[u1, u2]) {t : TypeId} {v0 v1 v2 v3 v4 v5 : Value}
    (hr : Row w g t #[v0, v1, v2, v3, v4, v5]) (hi : (P.info? ty).map (·.size) = some 2) (h1 : (#[u1, u2]).all (·.oneCell') = true)
    (h : ∀ w', Wrote w w' g t #[v0, v1, v2, v3, u1, u2] → wpList P ops Q rest (a.put o.dst undef) w') : wpList P ops Q (o :: rest) a w :=
  wpList_storeP (cells := [u1, u2]) hg hop hx hy hr hi (by simp) h1 h
/-- Results of which the first is a struct that lies in memory. -/
theorem results_row1 {fn : Func} {p : Tmp} {ty : TypeId} (h : fn.results = #[.cell p ty]) (tmps : Array Value) (w : World) (g : Nat) (t : TypeId) (cs : Array Value) {d : TypeDesc}
    (hp : tmps.getD p undef = .pointer (some ⟨g, 0, none⟩)) (hg : Row w g t cs) (hu : P.underlying ty = some d) (hd : (match d with | .struct _ | .array _ _ => true | _ => false) = true) (hi : (P.info? ty).map (·.size) = some cs.size) :
    (results fn tmps).run P w = .ok (.agg cs) w := results_cell_row h tmps w g t cs (0, 0) d hp hg hu hd hi
theorem results_row2 {fn : Func} {p u : Tmp} {ty : TypeId} (h : fn.results = #[.cell p ty, .tmp u]) (tmps : Array Value) (w : World) (g : Nat) (t : TypeId) (cs : Array Value) {d : TypeDesc}
    (hp : tmps.getD p undef = .pointer (some ⟨g, 0, none⟩)) (hg : Row w g t cs) (hu : P.underlying ty = some d) (hd : (match d with | .struct _ | .array _ _ => true | _ => false) = true) (hi : (P.info? ty).map (·.size) = some cs.size) :
    (results fn tmps).run P w = .ok (.tuple #[.agg cs, tmps.getD u undef]) w := by
  have hp' : tmps[p]?.getD undef = .pointer (some ⟨g, 0, none⟩) := by simpa using hp
  simp [results, h, hp', asAddr, run_loadVar_row w g t ty cs (0, 0) _ hg hu hd hi]
theorem results_cct {fn : Func} {p q u : Tmp} {ty ty' : TypeId} (h : fn.results = #[.cell p ty, .cell q ty', .tmp u]) (tmps : Array Value) (w : World) (g g' : Nat) (t t' : TypeId) (cs cs' : Array Value) {d d' : TypeDesc}
    (hp : tmps.getD p undef = .pointer (some ⟨g, 0, none⟩)) (hg : Row w g t cs) (hu : P.underlying ty = some d) (hd : (match d with | .struct _ | .array _ _ => true | _ => false) = true) (hi : (P.info? ty).map (·.size) = some cs.size)
    (hp' : tmps.getD q undef = .pointer (some ⟨g', 0, none⟩)) (hg' : Row w g' t' cs') (hu' : P.underlying ty' = some d') (hd' : (match d' with | .struct _ | .array _ _ => true | _ => false) = true) (hi' : (P.info? ty').map (·.size) = some cs'.size) :
    (results fn tmps).run P w = .ok (.tuple #[.agg cs, .agg cs', tmps.getD u undef]) w := by
  have hq : tmps[p]?.getD undef = .pointer (some ⟨g, 0, none⟩) := by simpa using hp
  have hq' : tmps[q]?.getD undef = .pointer (some ⟨g', 0, none⟩) := by simpa using hp'
  simp [results, h, hq, hq', asAddr, run_loadVar_row w g t ty cs (0, 0) _ hg hu hd hi, run_loadVar_row w g' t' ty' cs' (0, 0) _ hg' hu' hd' hi']
theorem results_row2r {fn : Func} {p u : Tmp} {ty : TypeId} (h : fn.results = #[.tmp u, .cell p ty]) (tmps : Array Value) (w : World) (g : Nat) (t : TypeId) (cs : Array Value) {d : TypeDesc}
    (hp : tmps.getD p undef = .pointer (some ⟨g, 0, none⟩)) (hg : Row w g t cs) (hu : P.underlying ty = some d) (hd : (match d with | .struct _ | .array _ _ => true | _ => false) = true) (hi : (P.info? ty).map (·.size) = some cs.size) :
    (results fn tmps).run P w = .ok (.tuple #[tmps.getD u undef, .agg cs]) w := by
  have hp' : tmps[p]?.getD undef = .pointer (some ⟨g, 0, none⟩) := by simpa using hp
  simp [results, h, hp', asAddr, run_loadVar_row w g t ty cs (0, 0) _ hg hu hd hi]
theorem results_row3 {fn : Func} {p u v : Tmp} {ty : TypeId} (h : fn.results = #[.cell p ty, .tmp u, .tmp v]) (tmps : Array Value) (w : World) (g : Nat) (t : TypeId) (cs : Array Value) {d : TypeDesc}
    (hp : tmps.getD p undef = .pointer (some ⟨g, 0, none⟩)) (hg : Row w g t cs) (hu : P.underlying ty = some d) (hd : (match d with | .struct _ | .array _ _ => true | _ => false) = true) (hi : (P.info? ty).map (·.size) = some cs.size) :
    (results fn tmps).run P w = .ok (.tuple #[.agg cs, tmps.getD u undef, tmps.getD v undef]) w := by
  have hp' : tmps[p]?.getD undef = .pointer (some ⟨g, 0, none⟩) := by simpa using hp
  simp [results, h, hp', asAddr, run_loadVar_row w g t ty cs (0, 0) _ hg hu hd hi]
end
end Go.Fk

/- Filters: 'laws.toFilter', 'laws.eqFilter'. -/
namespace Go.Fk
open Go Go.RowKit
/-- A row of three, of two. -/
def tri (a b c : Nat) : Nat → Nat | 0 => a | 1 => b | _ => c
def duo (a b : Nat) : Nat → Nat | 0 => a | _ => b
theorem tri_tab (a b c : Nat) : ftab .f32 (tri a b c) 3 = #[.float .f32 a, .float .f32 b, .float .f32 c] := rfl
theorem duo_tab (a b : Nat) : ftab .f32 (duo a b) 2 = #[.float .f32 a, .float .f32 b] := rfl
theorem fil_tab (k : Int) (a b c x y : Nat) : ((#[.int .i64 k, .float .f32 a, .float .f32 b, .float .f32 c, .float .f32 x, .float .f32 y] : Array Value) : Array Value).size = 6 := rfl
theorem tri_can {a b c a' b' c' : Nat} (h1 : can .f32 a = can .f32 a') (h2 : can .f32 b = can .f32 b') (h3 : can .f32 c = can .f32 c') : ∀ j, j < 3 → can .f32 (tri a b c j) = can .f32 (tri a' b' c' j) := by
  intro j hj
  match j, hj with
  | 0, _ => exact h1
  | 1, _ => exact h2
  | 2, _ => exact h3
theorem duo_can {a b a' b' : Nat} (h1 : can .f32 a = can .f32 a') (h2 : can .f32 b = can .f32 b') : ∀ j, j < 2 → can .f32 (duo a b j) = can .f32 (duo a' b' j) := by
  intro j hj
  match j, hj with
  | 0, _ => exact h1
  | 1, _ => exact h2
end Go.Fk
namespace Go.Proofs.Ytmacednkpjfokaa
open Go.RowKit Go.Fk
theorem infoFil : (Try.prog.info? 28).map (·.size) = some 6 := by kernel_rfl
theorem info3 : (Try.prog.info? 23).map (·.size) = some 3 := by kernel_rfl
theorem info2 : (Try.prog.info? 24).map (·.size) = some 2 := by kernel_rfl
theorem infoFilL : (Try.prog.info? 26).map (·.size) = some 6 := by kernel_rfl
theorem eqFil_yes (k : Int) (a b c x y a' b' c' x' y' : Nat) (w : World) (h1 : can .f32 a = can .f32 a') (h2 : can .f32 b = can .f32 b') (h3 : can .f32 c = can .f32 c') (h4 : can .f32 x = can .f32 x') (h5 : can .f32 y = can .f32 y') :
    Calls Try.prog 17 #[(.agg #[.int .i64 k, .float .f32 a, .float .f32 b, .float .f32 c, .float .f32 x, .float .f32 y]), (.agg #[.int .i64 k, .float .f32 a', .float .f32 b', .float .f32 c', .float .f32 x', .float .f32 y'])] w fun e w' => e = .returned (.bool true) ∧ Below w.heap.size w w' := by
  have H3 := hid (tri_can h1 h2 h3)
  have H2 := hid (duo_can h4 h5)
  clear h1 h2 h3 h4 h5
  go_enter Try.func17, Try.ntmps17
  go_upto_region 1 with (fail)
  obtain ⟨W, hW⟩ : ∃ W, W = (w.alloc (.cells (#[.int .i64 k, .float .f32 a, .float .f32 b, .float .f32 c, .float .f32 x, .float .f32 y] : Array Value) 28)).alloc (.cells (#[.int .i64 k, .float .f32 a', .float .f32 b', .float .f32 c', .float .f32 x', .float .f32 y'] : Array Value) 28) := ⟨_, rfl⟩
  rw [← hW]
  have R1 : Row W w.heap.size 28 (#[.int .i64 k, .float .f32 a, .float .f32 b, .float .f32 c, .float .f32 x, .float .f32 y] : Array Value) := by rw [hW]; exact (Row.new _ _ _).alloc _
  have R2 : Row W (w.heap.size + 1) 28 (#[.int .i64 k, .float .f32 a', .float .f32 b', .float .f32 c', .float .f32 x', .float .f32 y'] : Array Value) := by rw [hW]; exact Row.new' _ _ _ (by simp)
  have hb : Below w.heap.size w W := by rw [hW]; repeat' (first | (with_reducible exact Below.refl _ _) | (with_reducible assumption) | (with_reducible refine below_drewN ?_ _) | (with_reducible refine Below.alloc ?_ ?_ _) | (with_reducible refine Below.drew ?_) | (with_reducible refine Below.setCell ?_ ?_ _) | go_size)
  have c1 := R1.cell? 0
  have c2 := R2.cell? 0
  clear hW
  go_wp2_with (first | (with_reducible refine wpList_load3 rfl rfl rfl (by with_reducible assumption) Try.underlying23 rfl info3 ?_) | (with_reducible refine wpList_load2 rfl rfl rfl (by with_reducible assumption) Try.underlying24 rfl info2 ?_) | (go_at_call 54; refine (eqA3_yes (tri a b c) (tri a' b' c') _ H3.out).mono ?_; rintro e w1 ⟨rfl, hb1⟩; replace R1 := R1.below hb1 (by have := R1.lt; omega); replace R2 := R2.below hb1 (by have := R2.lt; omega)) | (go_at_call 55; refine (eqA2_yes (duo x y) (duo x' y') _ H2.out).mono ?_; rintro e w2 ⟨rfl, hb2⟩))
  go_ret
  exact ⟨rfl, le_trans (le_trans hb hb1) hb2⟩
theorem toA3_lit (a b c : Nat) (w : World) : Calls Try.prog 49 #[.agg #[.float .f32 a, .float .f32 b, .float .f32 c]] w fun e w' => e = .returned (.agg #[.float .f32 a, .float .f32 b, .float .f32 c]) ∧ Below w.heap.size w w' := by
  have h := toA3_any (tri a b c) w
  rwa [tri_tab] at h
theorem toA2_lit (a b : Nat) (w : World) : Calls Try.prog 50 #[.agg #[.float .f32 a, .float .f32 b]] w fun e w' => e = .returned (.agg #[.float .f32 a, .float .f32 b]) ∧ Below w.heap.size w w' := by
  have h := toA2_any (duo a b) w
  rwa [duo_tab] at h
set_option maxRecDepth 100000 in
theorem toFil_any (k : Int) (a b c x y : Nat) (w : World) : Calls Try.prog 14 #[(.agg #[.int .i64 k, .float .f32 a, .float .f32 b, .float .f32 c, .float .f32 x, .float .f32 y])] w fun e w' => e = .returned (.agg #[.int .i64 k, .float .f32 a, .float .f32 b, .float .f32 c, .float .f32 x, .float .f32 y]) ∧ Below w.heap.size w w' := by
  go_enter Try.func14, Try.ntmps14
  go_upto_region 2 with (fail)
  obtain ⟨W, hW⟩ : ∃ W, W = ((w.alloc (.cells (#[.int .i64 k, .float .f32 a, .float .f32 b, .float .f32 c, .float .f32 x, .float .f32 y] : Array Value) 26)).alloc (.cells (#[.int .i64 0, .float .f32 0, .float .f32 0, .float .f32 0, .float .f32 0, .float .f32 0] : Array Value) 28)).alloc (.cells (#[.int .i64 0, .float .f32 0, .float .f32 0, .float .f32 0, .float .f32 0, .float .f32 0] : Array Value) 28) := ⟨_, rfl⟩
  rw [← hW]
  have R1 : Row W w.heap.size 26 (#[.int .i64 k, .float .f32 a, .float .f32 b, .float .f32 c, .float .f32 x, .float .f32 y] : Array Value) := by rw [hW]; exact ((Row.new _ _ _).alloc _).alloc _
  have R2 : Row W (w.heap.size + 1) 28 (#[.int .i64 0, .float .f32 0, .float .f32 0, .float .f32 0, .float .f32 0, .float .f32 0] : Array Value) := by rw [hW]; exact (Row.new' _ _ _ (by simp)).alloc _
  have R3 : Row W (w.heap.size + 1 + 1) 28 (#[.int .i64 0, .float .f32 0, .float .f32 0, .float .f32 0, .float .f32 0, .float .f32 0] : Array Value) := by rw [hW]; exact Row.new' _ _ _ (by simp)
  have hb : le w W := by rw [hW]; unfold le; repeat' (first | (with_reducible exact Below.refl _ _) | (with_reducible assumption) | (with_reducible refine below_drewN ?_ _) | (with_reducible refine Below.alloc ?_ ?_ _) | (with_reducible refine Below.drew ?_) | (with_reducible refine Below.setCell ?_ ?_ _) | go_size)
  have c1 := R1.cell? 0
  have c3 := R3.cell? 0
  have f3 := R3.frozen 0
  have hs := R3.lt
  clear hW
  go_upto_region 3 with (fail)
  obtain ⟨V, hV⟩ : ∃ V, V = W.setCell ⟨w.heap.size + 1 + 1, 0, none⟩ (.int .i64 k) := ⟨_, rfl⟩
  rw [← hV]
  replace R1 := R1.other ⟨w.heap.size + 1 + 1, 0, none⟩ (.int .i64 k) (by simp; omega)
  rw [← hV] at R1
  replace R2 := R2.other ⟨w.heap.size + 1 + 1, 0, none⟩ (.int .i64 k) (by simp)
  rw [← hV] at R2
  replace R3 : Row V (w.heap.size + 1 + 1) 28 (#[.int .i64 k, .float .f32 0, .float .f32 0, .float .f32 0, .float .f32 0, .float .f32 0] : Array Value) := by rw [hV]; exact R3.set 0 _
  replace hb : le w V := by rw [hV]; exact Below.setCell hb (by simp; omega) _
  clear hV c1 c3 f3
  go_wp2_with (first | (with_reducible refine wpList_load3 rfl rfl rfl (by with_reducible assumption) Try.underlying23 rfl info3 ?_) | (with_reducible refine wpList_load2 rfl rfl rfl (by with_reducible assumption) Try.underlying24 rfl info2 ?_) | (go_at_call 49; refine (toA3_lit a b c _).mono ?_; rintro e w1 ⟨rfl, hb1⟩; replace R1 := R1.below hb1 R1.lt; replace R2 := R2.below hb1 R2.lt; replace R3 := R3.below hb1 R3.lt; replace hb := le_trans hb hb1) | (go_at_call 50; refine (toA2_lit x y _).mono ?_; rintro e w1 ⟨rfl, hb1⟩; replace R1 := R1.below hb1 R1.lt; replace R2 := R2.below hb1 R2.lt; replace R3 := R3.below hb1 R3.lt; replace hb := le_trans hb hb1) | (refine wpList_store3 (u1 := .float .f32 a) (u2 := .float .f32 b) (u3 := .float .f32 c) rfl rfl rfl rfl R3 info3 (by simp [Value.oneCell']) ?_; intro w2 K; replace R1 := K.other _ _ _ (by omega) R1; replace R2 := K.other _ _ _ (by omega) R2; replace R3 := K.row; replace hb := K.below _ _ hb (by omega); clear K) | (refine wpList_store2 (u1 := .float .f32 x) (u2 := .float .f32 y) rfl rfl rfl rfl R3 info2 (by simp [Value.oneCell']) ?_; intro w2 K; replace R1 := K.other _ _ _ (by omega) R1; replace R2 := K.other _ _ _ (by omega) R2; replace R3 := K.row; replace hb := K.below _ _ hb (by omega); clear K) | (with_reducible refine wpList_loadDn rfl rfl rfl R3 Try.underlying28 rfl infoFil (by simp) ?_) | (refine wpList_storeD rfl rfl rfl rfl R2 infoFil rfl (by simp [Value.oneCell']) ?_; intro w2 K; replace R2 := K.row; replace hb := K.below _ _ hb (by omega); clear K))
  exact bodyPost_ret (results_row1 rfl _ _ _ _ _ rfl R2 Try.underlying28 rfl infoFil) rfl ⟨rfl, hb⟩
end Go.Proofs.Ytmacednkpjfokaa

/- What a walk of a law knows of memory, in one hypothesis: nothing that was there has turned, and some blocks hold known rows. Nothing here names a program. -/
namespace Go.Fk
open Go Go.RowKit

/-- Nothing that 'w0' holds has turned; the blocks of the list hold these rows. -/
structure Frm (w0 w : World) (L : List (Nat × TypeId × Array Value)) : Prop where
  below : le w0 w
  rows : ∀ x ∈ L, Row w x.1 x.2.1 x.2.2

namespace Frm
variable {w0 w w' : World} {L : List (Nat × TypeId × Array Value)}
theorem nil (w : World) : Frm w w [] := ⟨le_refl w, by simp⟩
theorem one {g : Nat} {t : TypeId} {cs : Array Value} (h : Row w g t cs) : Frm w w [(g, t, cs)] := ⟨le_refl w, fun x hx => by rcases List.mem_cons.1 hx with rfl | hx; exact h; cases hx⟩
theorem le (h : Frm w0 w L) (k : Below w.heap.size w w') : Frm w0 w' L := ⟨le_trans h.below k, fun x hx => (h.rows x hx).le k⟩
theorem drewN (h : Frm w0 w L) (n : Nat) : Frm w0 (w.drewN n) L := h.le (le_drewN w n)
theorem alloc (h : Frm w0 w L) (o : Obj) : Frm w0 (w.alloc o) L := h.le (le_alloc w o)
theorem row (h : Frm w0 w L) {g : Nat} {t : TypeId} {cs : Array Value} (hm : (g, t, cs) ∈ L) : Row w g t cs := h.rows _ hm
theorem box (h : Frm w0 w L) (t : TypeId) (cs : Array Value) : Frm w0 (w.alloc (.cells cs t)) ((w.heap.size, t, cs) :: L) := by
  refine ⟨(h.alloc _).below, fun x hx => ?_⟩
  rcases List.mem_cons.1 hx with rfl | hx
  · exact Row.new w t cs
  · exact (h.alloc _).rows x hx
theorem push (h : Frm w0 w L) {g : Nat} {t : TypeId} {cs : Array Value} (hr : Row w' g t cs) (hl : Fk.le w w') : Frm w0 w' ((g, t, cs) :: L) := by
  refine ⟨le_trans h.below hl, fun x hx => ?_⟩
  rcases List.mem_cons.1 hx with rfl | hx
  · exact hr
  · exact (h.rows x hx).le hl
theorem both (h : Frm w0 w L) {g g' B : Nat} {t t' : TypeId} {cs cs' : Array Value} (hr : Row w g t cs) (hr' : Row w g' t' cs') (_ : B ≤ g) (_ : B ≤ g') (_ : w0.heap.size ≤ B) : Frm w0 w ((g', t', cs') :: (g, t, cs) :: L) := by
  refine ⟨h.below, fun x hx => ?_⟩
  rcases List.mem_cons.1 hx with rfl | hx
  · exact hr'
  rcases List.mem_cons.1 hx with rfl | hx
  · exact hr
  · exact h.rows x hx
theorem sub {L' : List (Nat × TypeId × Array Value)} (h : Frm w0 w L) (hs : ∀ x ∈ L', x ∈ L) : Frm w0 w L' := ⟨h.below, fun x hx => h.rows x (hs x hx)⟩
theorem size (h : Frm w0 w L) : w0.heap.size ≤ w.heap.size := h.below.size
theorem lt (h : Frm w0 w L) {g : Nat} {t : TypeId} {cs : Array Value} (hm : (g, t, cs) ∈ L) : g < w.heap.size := (h.row hm).lt
end Frm

namespace Frm
variable {w0 w w' : World} {L : List (Nat × TypeId × Array Value)}
theorem fresh (h : Frm w0 w L) {b : Nat} (hb : w.heap.size ≤ b) : ∀ x ∈ L, x.1 ≠ b := fun x hx => Nat.ne_of_lt (Nat.lt_of_lt_of_le (h.rows x hx).lt hb)
theorem setc (h : Frm w0 w L) {g : Nat} {t : TypeId} {cs : Array Value} (hm : (g, t, cs) ∈ L) (i : Nat) (v : Value) (hg : w0.heap.size ≤ g) {L' : List (Nat × TypeId × Array Value)} (hs : ∀ x ∈ L', x ∈ L ∧ x.1 ≠ g) : Frm w0 (w.setCell ⟨g, i, none⟩ v) ((g, t, cs.setIfInBounds i v) :: L') := by
  refine ⟨Below.setCell h.below hg _, fun x hx => ?_⟩
  rcases List.mem_cons.1 hx with rfl | hx
  · exact (h.row hm).set i v
  · exact (h.rows x (hs x hx).1).other _ _ (hs x hx).2
theorem wrote (h : Frm w0 w L) {g : Nat} {t : TypeId} {cs : Array Value} (k : Wrote w w' g t cs) (hg : w0.heap.size ≤ g) {L' : List (Nat × TypeId × Array Value)} (hs : ∀ x ∈ L', x ∈ L ∧ x.1 ≠ g) : Frm w0 w' ((g, t, cs) :: L') := by
  refine ⟨k.below _ _ h.below hg, fun x hx => ?_⟩
  rcases List.mem_cons.1 hx with rfl | hx
  · exact k.row
  · exact k.other _ _ _ (hs x hx).2 (h.rows x (hs x hx).1)
end Frm
/-- Of what was there, block g alone may have turned. -/
structure Upd (g : Nat) (w w' : World) : Prop where
  os : w'.os = w.os
  tape : w'.tape = w.tape
  output : w'.output = w.output
  size : w.heap.size ≤ w'.heap.size
  block : ∀ k, k < w.heap.size → k ≠ g → w'.heap[k]? = w.heap[k]?
namespace Upd
variable {g : Nat} {w w' w'' : World}
theorem refl (g : Nat) (w : World) : Upd g w w := ⟨rfl, rfl, rfl, Nat.le_refl _, fun _ _ _ => rfl⟩
theorem trans (h : Upd g w w') (k : Upd g w' w'') : Upd g w w'' :=
  ⟨k.os.trans h.os, k.tape.trans h.tape, k.output.trans h.output, Nat.le_trans h.size k.size, fun i hi hn => (k.block i (Nat.lt_of_lt_of_le hi h.size) hn).trans (h.block i hi hn)⟩
theorem le (h : Upd g w w') (k : Fk.le w' w'') : Upd g w w'' :=
  ⟨k.os.trans h.os, k.tape.trans h.tape, k.output.trans h.output, Nat.le_trans h.size k.size, fun i hi hn => (k.block i (Nat.lt_of_lt_of_le hi h.size)).trans (h.block i hi hn)⟩
theorem of_le (k : Fk.le w w') : Upd g w w' := (refl g w).le k
theorem setCell (h : Upd g w w') {a : Addr} (ha : a.block = g) (v : Value) : Upd g w (w'.setCell a v) :=
  ⟨h.os, h.tape, h.output, by simpa using h.size, fun i hi hn => (Below.heap_setCell _ _ _ _ (by rw [ha]; exact hn)).trans (h.block i hi hn)⟩
theorem setCellNew (h : Upd g w w') {a : Addr} (ha : w.heap.size ≤ a.block) (v : Value) : Upd g w (w'.setCell a v) :=
  ⟨h.os, h.tape, h.output, by simpa using h.size, fun i hi hn => (Below.heap_setCell _ _ _ _ (by omega)).trans (h.block i hi hn)⟩
theorem wrote {g' : Nat} {t : TypeId} {cs : Array Value} (h : Upd g w w') (k : Wrote w' w'' g' t cs) (hg : w.heap.size ≤ g') : Upd g w w'' := by
  have kb := k.below w.heap.size w'
  have := k.below _ _ (Below.refl w.heap.size w') hg
  exact ⟨this.os.trans h.os, this.tape.trans h.tape, this.output.trans h.output, Nat.le_trans h.size this.size, fun i hi hn => (this.block i hi).trans (h.block i hi hn)⟩
theorem setRow (h : Upd g w w') (cs : Array Value) : Upd g w (w'.setRow g cs) :=
  ⟨h.os, h.tape, h.output, by simpa [World.setRow] using h.size, fun i hi hn => by
    rw [← h.block i hi hn]
    unfold World.setRow
    rw [Array.getElem?_modify, if_neg (Ne.symm hn)]⟩
theorem below (h : Upd g w w') {B : Nat} (hB : B ≤ g) (hw : B ≤ w.heap.size) : Below B w w' :=
  ⟨h.os, h.tape, h.output, h.size, fun k hk => h.block k (by omega) (by omega)⟩
theorem row (h : Upd g w w') {g' : Nat} {t : TypeId} {cs : Array Value} (hr : Row w g' t cs) (hn : g' ≠ g) : Row w' g' t cs := by
  have := h.block g' hr.lt hn
  unfold Row at *
  rw [this]; exact hr
end Upd

namespace Frm
variable {w0 w w' : World} {L : List (Nat × TypeId × Array Value)}
theorem upd (h : Frm w0 w L) {g : Nat} {t : TypeId} {cs : Array Value} (hr : Row w' g t cs) (k : Upd g w w') (hg : w0.heap.size ≤ g) {L' : List (Nat × TypeId × Array Value)} (hs : ∀ x ∈ L', x ∈ L ∧ x.1 ≠ g) : Frm w0 w' ((g, t, cs) :: L') := by
  refine ⟨h.below.trans (k.below hg h.size), fun x hx => ?_⟩
  rcases List.mem_cons.1 hx with rfl | hx
  · exact hr
  · exact k.row (h.rows x (hs x hx).1) (hs x hx).2
end Frm

section
variable {P : Program} {w : World} {ops : Array Oper} {rest : List Oper} {o : Oper} {a : Act} {Q : Exit → Act → World → Prop}
/-- To see that a walk stands at a load, at a conversion. -/
theorem at_load {ty : TypeId} {x : Operand} (_ : o.op = .load ty x) (h : wpList P ops Q (o :: rest) a w) : wpList P ops Q (o :: rest) a w := h
theorem at_convert {src dst : TypeId} {x : Operand} (_ : o.op = .convert src dst x) (h : wpList P ops Q (o :: rest) a w) : wpList P ops Q (o :: rest) a w := h
/-- A part of a block is loaded. -/
theorem wpList_loadPartFr {w0 : World} {L : List (Nat × TypeId × Array Value)} (hF : Frm w0 w L) (ds : List Value) (hg : o.guard = none) {ty : TypeId} {x : Operand} (hop : o.op = .load ty x) {g f : Nat} (hx : a.eval x = .pointer (some ⟨g, f, none⟩)) {t : TypeId} {cs : Array Value} {d : TypeDesc}
    (hm : (g, t, cs) ∈ L) (hu : P.underlying ty = some d) (hd : d.isRow = true) (hc : ∀ j, j < ds.length → cs[f + j]? = ds[j]?) {n : Nat} (hi : (P.info? ty).map (·.size) = some n) (hn : ds.length = n)
    (h : wpList P ops Q rest (a.put o.dst (.agg ds.toArray)) w) : wpList P ops Q (o :: rest) a w :=
  wpList_loadP hg hop hx (hF.row hm) hu hd ds hc (hn ▸ hi) h
/-- A whole block is loaded. -/
theorem wpList_loadFr {w0 : World} {L : List (Nat × TypeId × Array Value)} (hF : Frm w0 w L) (hg : o.guard = none) {ty : TypeId} {x : Operand} (hop : o.op = .load ty x) {g : Nat} (hx : a.eval x = .pointer (some ⟨g, 0, none⟩)) {t : TypeId} {cs : Array Value} {d : TypeDesc}
    (hm : (g, t, cs) ∈ L) (hu : P.underlying ty = some d) (hd : (match d with | .struct _ | .array _ _ => true | _ => false) = true) {n : Nat} (hi : (P.info? ty).map (·.size) = some n) (hn : cs.size = n)
    (h : wpList P ops Q rest (a.put o.dst (.agg cs)) w) : wpList P ops Q (o :: rest) a w :=
  wpList_loadD hg hop hx (hF.row hm) hu hd (hn ▸ hi) h
/-- The same where the operation is guarded, and wanted. -/
theorem wpList_loadFrG {w0 : World} {L : List (Nat × TypeId × Array Value)} (hF : Frm w0 w L) {ty : TypeId} {x : Operand} (hop : o.op = .load ty x) {g : Nat} (hx : a.eval x = .pointer (some ⟨g, 0, none⟩)) {t : TypeId} {cs : Array Value} {d : TypeDesc}
    (hm : (g, t, cs) ∈ L) (hu : P.underlying ty = some d) (hd : (match d with | .struct _ | .array _ _ => true | _ => false) = true) {n : Nat} (hi : (P.info? ty).map (·.size) = some n) (hn : cs.size = n) (hw : Region.wanted o (yielded ops a.tmps) = true)
    (h : wpList P ops Q rest (a.put o.dst (.agg cs)) w) : wpList P ops Q (o :: rest) a w :=
  wpList_step fun K hK => by
    simp only [hw, if_true]
    exact wp_load_row ty x hop g hx t cs (0, 0) d (hF.row hm) hu hd (hn ▸ hi) (hK _ _ h)
/-- A fresh block is written whole. -/
theorem wpList_storeFr {w0 w1 : World} {L : List (Nat × TypeId × Array Value)} {t : TypeId} {old : Array Value} (hF : Frm w0 w1 L) (hw : w = w1.alloc (.cells old t)) (hg : o.guard = none) {ty : TypeId} {x y : Operand} (hop : o.op = .store ty x y) (hx : a.eval x = .pointer (some ⟨w1.heap.size, 0, none⟩)) {cells : Array Value} (hy : a.eval y = .agg cells)
    (hi : (P.info? ty).map (·.size) = some cells.size) (ho : old.size = cells.size) (h1 : cells.all (·.oneCell') = true)
    (h : ∀ w', Frm w0 w' ((w1.heap.size, t, cells) :: L) → wpList P ops Q rest (a.put o.dst undef) w') : wpList P ops Q (o :: rest) a w :=
  wpList_storeN hw hg hop hx hy hi ho h1 (fun w' hr hl _ => h w' (hF.push hr hl))
end

section
variable {P : Program} {ops : Array Oper} {W : World} {K : FuncId → Array Value → World → Value → Prop} {Q : Act → World → Prop} {F : World → Prop} {o : Oper} {rest : List Oper} {a : Act}
/-- The same in a region that draws its order. -/
theorem wpFree_loadFr {w0 : World} {L : List (Nat × TypeId × Array Value)} {n : Nat} {w1 : World} (hF : Frm w0 w1 L) (hW : W = w1.drewN n) (hg : o.guard = none) {ty : TypeId} {x : Operand} (hop : o.op = .load ty x) {g : Nat} (hx : a.eval x = .pointer (some ⟨g, 0, none⟩)) {t : TypeId} {cs : Array Value} {d : TypeDesc}
    (hm : (g, t, cs) ∈ L) (hu : P.underlying ty = some d) (hd : (match d with | .struct _ | .array _ _ => true | _ => false) = true) {m : Nat} (hi : (P.info? ty).map (·.size) = some m) (hn : cs.size = m)
    (h : wpFree P ops W K Q rest (a.put o.dst (.agg cs)) F) : wpFree P ops W K Q (o :: rest) a F := by
  subst hW hn
  refine wpFree_one hg (.agg cs) (fun w hw => ?_) h
  have := run_loadVar_row (P := P) w g t ty cs (0, 0) _ (((hF.row hm).drewN n).le hw) hu hd hi
  simp [execOp, hop, hx, Instr.loadAt, Instr.sureAddr, this, Result.andThen]
/-- A part is loaded. -/
theorem wpFree_loadPart {w0 : World} {L : List (Nat × TypeId × Array Value)} {n : Nat} {w1 : World} (hF : Frm w0 w1 L) (hW : W = w1.drewN n) (hg : o.guard = none) {ty : TypeId} {x : Operand} (hop : o.op = .load ty x) {g f : Nat} (hx : a.eval x = .pointer (some ⟨g, f, none⟩)) {t : TypeId} {cs : Array Value} {d : TypeDesc}
    (hm : (g, t, cs) ∈ L) (hu : P.underlying ty = some d) (hd : d.isRow = true) (ds : List Value) (hc : ∀ j, j < ds.length → cs[f + j]? = ds[j]?) (hi : (P.info? ty).map (·.size) = some ds.length)
    (h : wpFree P ops W K Q rest (a.put o.dst (.agg ds.toArray)) F) : wpFree P ops W K Q (o :: rest) a F := by
  subst hW
  refine wpFree_one hg (.agg ds.toArray) (fun w hw => ?_) h
  have hr := ((hF.row hm).drewN n).le hw
  have := run_loadVar_mid (P := P) w g f ty ds d (fun j v hv => by rw [hr.cell?, hc j (List.getElem?_eq_some_iff.1 hv).1, hv]) hu hd hi
  simp [execOp, hop, hx, Instr.loadAt, Instr.sureAddr, this, Result.andThen]
/-- A float is loaded. -/
theorem wpFree_loadF {w0 : World} {L : List (Nat × TypeId × Array Value)} {n : Nat} {w1 : World} (hF : Frm w0 w1 L) (hW : W = w1.drewN n) (hg : o.guard = none) {ty : TypeId} {x : Operand} (hop : o.op = .load ty x) {g f : Nat} (hx : a.eval x = .pointer (some ⟨g, f, none⟩)) {t : TypeId} {cs : Array Value} {k : FloatKind} {v : Nat}
    (hm : (g, t, cs) ∈ L) (hv : cs[f]? = some (.float k v)) (hu : P.underlying ty = some (.float k))
    (h : wpFree P ops W K Q rest (a.put o.dst (.float k v)) F) : wpFree P ops W K Q (o :: rest) a F := by
  subst hW
  refine wpFree_one hg (.float k v) (fun w hw => ?_) h
  have hrow := ((hF.row hm).drewN n).le hw
  have hc : w.cell? ⟨g, f, none⟩ = some (.float k v) := by rw [hrow.cell?, hv]
  have hl : (Instr.loadAt ty (.pointer (some ⟨g, f, none⟩))).run P w = .ok (.float k v) w := by
    simp [Instr.loadAt, Instr.sureAddr, loadVar, isAgg, run_underlying hu, hc]
  simp [execOp, hop, hx, hl, Result.andThen]
/-- + - * / on floats. -/
theorem wpFree_farith (hg : o.guard = none) {op : BinOp} {t t' : TypeId} {x y : Operand} (hop : o.op = Op.binOp op t x y t') (ho : arith op = true)
    {k : FloatKind} {p q : Nat} (hx : a.eval x = .float k p) (hy : a.eval y = .float k q)
    (h : ∀ r, Hid (can k r = fop op k p q) → Hid (fits k r) → wpFree P ops W K Q rest (a.put o.dst (.float k r)) F) : wpFree P ops W K Q (o :: rest) a F := by
  refine wpFree_some hg (fun v => ∃ r, v = .float k r ∧ can k r = fop op k p q ∧ fits k r) (fun w _ => ?_) ?_
  · obtain ⟨r, n, hrun, hr, hf⟩ := run_farith (P := P) w op ho t k p q
    have he := eqGuard_float (P := P) w op t x y k k p q
    refine ⟨.float k r, n, ?_, r, rfl, hr, hf⟩
    simp [execOp, hop, hx, hy, he, hrun, Result.andThen]
  · rintro v ⟨r, rfl, h1, h2⟩
    exact h r h1 h2
/-- A value of one cell is loaded. -/
theorem wpFree_loadV {w0 : World} {L : List (Nat × TypeId × Array Value)} {n : Nat} {w1 : World} (hF : Frm w0 w1 L) (hW : W = w1.drewN n) (hg : o.guard = none) {ty : TypeId} {x : Operand} (hop : o.op = .load ty x) {g f : Nat} (hx : a.eval x = .pointer (some ⟨g, f, none⟩)) {t : TypeId} {cs : Array Value} {v : Value}
    (hm : (g, t, cs) ∈ L) (hv : cs[f]? = some v) (hu : ∀ w, (isAgg ty).run P w = .ok false w)
    (h : wpFree P ops W K Q rest (a.put o.dst v) F) : wpFree P ops W K Q (o :: rest) a F := by
  subst hW
  refine wpFree_one hg v (fun w hw => ?_) h
  have hrow := ((hF.row hm).drewN n).le hw
  have hc : w.cell? ⟨g, f, none⟩ = some v := by rw [hrow.cell?, hv]
  have hl : (Instr.loadAt ty (.pointer (some ⟨g, f, none⟩))).run P w = .ok v w := by
    simp [Instr.loadAt, Instr.sureAddr, loadVar, hu, hc]
  simp [execOp, hop, hx, hl, Result.andThen]
/-- A call that is resolved as it runs. -/
theorem wpFree_callR (hg : o.guard = none) (f : FuncId) (args : Array Value) (hrun : ∀ w, (execOp a.eval o).run P w = .ok (.enter f args) w) (hm : Mono (K f args))
    (h1 : ∀ w, le W w → Calls P f args w (fun e w' => ∃ v, e = .returned v ∧ le w w' ∧ K f args w' v)) (h2 : ∀ v, (∃ w, le W w ∧ K f args w v) → wpFree P ops W K Q rest (a.put o.dst v) (fun w => F w ∧ K f args w v)) : wpFree P ops W K Q (o :: rest) a F :=
  ⟨K f args, ⟨hm, .inl ⟨by simp [Region.wanted, hg], fun w hw => by rw [hrun]; exact ⟨le_refl w, h1 w hw, fun _ _ h => h⟩⟩⟩, h2⟩
/-- A value is boxed. -/
theorem wpFree_box (hg : o.guard = none) {ty : TypeId} {x : Operand} (hop : o.op = .box ty x) (cs : Array Value)
    (hr : ∀ w, (Instr.box ty (a.eval x)).run P w = .ok (.pointer (some ⟨w.heap.size, 0, none⟩)) (w.alloc (.cells cs ty)))
    (h : ∀ b, W.heap.size ≤ b → wpFree P ops W K Q rest (a.put o.dst (.pointer (some ⟨b, 0, none⟩))) (fun w => F w ∧ ∃ b', Value.pointer (some ⟨b, 0, none⟩) = .pointer (some ⟨b', 0, none⟩) ∧ W.heap.size ≤ b' ∧ Row w b' ty cs)) : wpFree P ops W K Q (o :: rest) a F := by
  refine ⟨fun w v => ∃ b, v = .pointer (some ⟨b, 0, none⟩) ∧ W.heap.size ≤ b ∧ Row w b ty cs, ⟨fun v w w' hl h => ?_, .inl ⟨by simp [Region.wanted, hg], fun w hw => ?_⟩⟩, fun v hv => ?_⟩
  · obtain ⟨b, e, h1, h2⟩ := h; exact ⟨b, e, h1, h2.le hl⟩
  · simp [execOp, hop, hr, Result.andThen, inside]
    exact ⟨le_alloc w _, Below.size hw, Row.new w ty cs⟩
  · obtain ⟨w, _, b, rfl, hb, _⟩ := hv
    exact h b hb
end
end Go.Fk
