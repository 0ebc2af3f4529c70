/- Texts of the walk, laid in one file. -/
import Derived.WalkKit
import Derived.WalkLawsBesides
import Derived.Deep.Draws
import Derived.Below
import Derived.Handy
import Derived.Deep.Quiet
import Derived.Deep.Cut
import Derived.StillTail
import Derived.Deep.MidRow
import Derived.ProofKit
import Derived.OpenShut
import Derived.Deep.Slices
set_option linter.unusedVariables false
set_option linter.unusedSimpArgs false
/- Floats up to the bits of NaN: canonical bits ('can'), the four operations on them ('fop'), and laws by which a walk takes a float operation whose NaN bits are drawn. Nothing here names a program. -/
namespace Go.Fk
open Go Go.RowKit

theorem list16 {α : Type} {l : List α} (h : l.length = 16) : ∃ a0 a1 a2 a3 a4 a5 a6 a7 a8 a9 a10 a11 a12 a13 a14 a15, l = [a0, a1, a2, a3, a4, a5, a6, a7, a8, a9, a10, a11, a12, a13, a14, a15] := by
  match l, h with
  | [a0, a1, a2, a3, a4, a5, a6, a7, a8, a9, a10, a11, a12, a13, a14, a15], _ => exact ⟨a0, a1, a2, a3, a4, a5, a6, a7, a8, a9, a10, a11, a12, a13, a14, a15, rfl⟩

/-- Is this word a NaN? -/
def isNan (k : FloatKind) (b : Nat) : Bool := (k.format.read b).isNaN
def qnan : FloatKind → Nat
  | .f32 => 2143289344
  | .f64 => 9221120237041090560
/-- One word for each NaN. -/
def can (k : FloatKind) (b : Nat) : Nat := if isNan k b then qnan k else b

theorem isNan_qnan (k : FloatKind) : isNan k (qnan k) = true := by cases k <;> decide
theorem can_qnan (k : FloatKind) : can k (qnan k) = qnan k := by simp [can]
theorem can_of_nan {k : FloatKind} {b : Nat} (h : isNan k b = true) : can k b = qnan k := by simp [can, h]
theorem can_of_not {k : FloatKind} {b : Nat} (h : isNan k b = false) : can k b = b := by simp [can, h]
theorem isNan_can (k : FloatKind) (b : Nat) : isNan k (can k b) = isNan k b := by
  unfold can; split
  · rename_i h; rw [isNan_qnan, h]
  · rfl
theorem can_can (k : FloatKind) (b : Nat) : can k (can k b) = can k b := by
  cases h : isNan k b
  · rw [can_of_not h, can_of_not h]
  · rw [can_of_nan h, can_qnan]
theorem isNan_of_can {k : FloatKind} {a b : Nat} (h : can k a = can k b) : isNan k a = isNan k b := by
  rw [← isNan_can k a, h, isNan_can]
/-- Two words with one canonical word are one, or are both NaN. -/
theorem eq_of_can {k : FloatKind} {a b : Nat} (h : can k a = can k b) (ha : isNan k a = false) : a = b := by
  have hb : isNan k b = false := by rw [← isNan_of_can h, ha]
  rwa [can_of_not ha, can_of_not hb] at h

theorem read_nan {k : FloatKind} {b : Nat} (h : isNan k b = true) : ∃ s t, k.format.read b = .nan s t := by
  unfold isNan at h
  cases hr : k.format.read b <;> simp_all [Ieee.Datum.isNaN]

theorem sum_nan_l (s : Bool) (t : Nat) (d : Ieee.Datum) : Ieee.Datum.sum (.nan s t) d = none := by cases d <;> rfl
theorem sum_nan_r (s : Bool) (t : Nat) (d : Ieee.Datum) : Ieee.Datum.sum d (.nan s t) = none := by cases d <;> rfl
theorem product_nan_l (s : Bool) (t : Nat) (d : Ieee.Datum) : Ieee.Datum.product (.nan s t) d = none := by cases d <;> rfl
theorem product_nan_r (s : Bool) (t : Nat) (d : Ieee.Datum) : Ieee.Datum.product d (.nan s t) = none := by cases d <;> rfl
theorem quotient_nan_l (n : Nat) (s : Bool) (t : Nat) (d : Ieee.Datum) : Ieee.Datum.quotient n (.nan s t) d = none := by cases d <;> rfl
theorem quotient_nan_r (n : Nat) (s : Bool) (t : Nat) (d : Ieee.Datum) : Ieee.Datum.quotient n d (.nan s t) = none := by cases d <;> rfl
theorem order_nan_l (s : Bool) (t : Nat) (d : Ieee.Datum) : Ieee.Datum.order (.nan s t) d = none := by cases d <;> rfl
theorem order_nan_r (s : Bool) (t : Nat) (d : Ieee.Datum) : Ieee.Datum.order d (.nan s t) = none := by cases d <;> rfl

theorem floatBits_nan_l {op : BinOp} {k : FloatKind} {x y : Nat} (h : isNan k x = true) : floatBits op k x y = none := by
  obtain ⟨s, t, hr⟩ := read_nan h
  cases op <;> simp [floatBits, Ieee.Format.add, Ieee.Format.sub, Ieee.Format.mul, Ieee.Format.div, hr, sum_nan_l, product_nan_l, quotient_nan_l]
theorem floatBits_nan_r {op : BinOp} {k : FloatKind} {x y : Nat} (h : isNan k y = true) : floatBits op k x y = none := by
  obtain ⟨s, t, hr⟩ := read_nan h
  cases op <;> simp [floatBits, Ieee.Format.add, Ieee.Format.sub, Ieee.Format.mul, Ieee.Format.div, hr, Ieee.Datum.opposite, sum_nan_r, product_nan_r, quotient_nan_r]
theorem order_of_nan_l {k : FloatKind} {x y : Nat} (h : isNan k x = true) : k.format.order x y = none := by
  obtain ⟨s, t, hr⟩ := read_nan h
  simp [Ieee.Format.order, hr, order_nan_l]
theorem order_of_nan_r {k : FloatKind} {x y : Nat} (h : isNan k y = true) : k.format.order x y = none := by
  obtain ⟨s, t, hr⟩ := read_nan h
  simp [Ieee.Format.order, hr, order_nan_r]

/-- An operation up to the bits of NaN: 'qnan' where it is not valid. -/
def fop (op : BinOp) (k : FloatKind) (x y : Nat) : Nat := match floatBits op k x y with
  | some r => can k r
  | none => qnan k

theorem fop_can_l (op : BinOp) (k : FloatKind) (x y : Nat) : fop op k (can k x) y = fop op k x y := by
  cases h : isNan k x
  · rw [can_of_not h]
  · rw [can_of_nan h]; simp only [fop, floatBits_nan_l h, floatBits_nan_l (isNan_qnan k)]
theorem fop_can_r (op : BinOp) (k : FloatKind) (x y : Nat) : fop op k x (can k y) = fop op k x y := by
  cases h : isNan k y
  · rw [can_of_not h]
  · rw [can_of_nan h]; simp only [fop, floatBits_nan_r h, floatBits_nan_r (isNan_qnan k)]
theorem order_can_l (k : FloatKind) (x y : Nat) : k.format.order (can k x) y = k.format.order x y := by
  cases h : isNan k x
  · rw [can_of_not h]
  · rw [can_of_nan h, order_of_nan_l h, order_of_nan_l (isNan_qnan k)]
theorem order_can_r (k : FloatKind) (x y : Nat) : k.format.order x (can k y) = k.format.order x y := by
  cases h : isNan k y
  · rw [can_of_not h]
  · rw [can_of_nan h, order_of_nan_r h, order_of_nan_r (isNan_qnan k)]
theorem fop_congr {op : BinOp} {k : FloatKind} {x x' y y' : Nat} (hx : can k x = can k x') (hy : can k y = can k y') : fop op k x y = fop op k x' y' := by
  rw [← fop_can_l op k x, ← fop_can_r op k _ y, hx, hy, fop_can_l, fop_can_r]
theorem order_congr {k : FloatKind} {x x' y y' : Nat} (hx : can k x = can k x') (hy : can k y = can k y') : k.format.order x y = k.format.order x' y' := by
  rw [← order_can_l k x, ← order_can_r k _ y, hx, hy, order_can_l, order_can_r]
theorem can_fop (op : BinOp) (k : FloatKind) (x y : Nat) : can k (fop op k x y) = fop op k x y := by
  unfold fop; split
  · exact can_can _ _
  · exact can_qnan _

theorem order_self {k : FloatKind} {x : Nat} (h : isNan k x = false) : k.format.order x x = some .eq := by
  unfold isNan at h
  unfold Ieee.Format.order
  cases hr : k.format.read x with
  | nan s t => rw [hr] at h; simp [Ieee.Datum.isNaN] at h
  | infinity s => cases s <;> simp [Ieee.Datum.order]
  | number s m i => simp [Ieee.Datum.order]

theorem order_ne_nan {k : FloatKind} {x : Nat} (h : isNan k x = true) : k.format.order x x = none := order_of_nan_l h
@[go_sem] theorem order_ne (k : FloatKind) (x : Nat) : (k.format.order x x != some .eq) = isNan k x := by
  cases h : isNan k x
  · rw [order_self h]; rfl
  · rw [order_ne_nan h]; rfl
@[go_sem] theorem order_eq (k : FloatKind) (x : Nat) : (k.format.order x x == some .eq) = !isNan k x := by
  cases h : isNan k x
  · rw [order_self h]; rfl
  · rw [order_ne_nan h]; rfl

theorem ret_b {a b : Bool} (h : a = b) : Ending.returned (.bool a) = .returned (.bool b) := by rw [h]
theorem ret_i {k : IntKind} {a b : Int} (h : a = b) : Ending.returned (.int k a) = .returned (.int k b) := by rw [h]
theorem ret_f {k : FloatKind} {a b : Nat} (h : a = b) : Ending.returned (.float k a) = .returned (.float k b) := by rw [h]
/-- Are two samples the same? -/
def sameB (x y : Nat) : Bool := ((can .f32 x : Nat) : Int) == ((can .f32 y : Nat) : Int)
theorem sameB_num {x y : Nat} (hx : isNan .f32 x = false) (hy : isNan .f32 y = false) : sameB x y = ((x : Int) == (y : Int)) := by
  unfold sameB; rw [can_of_not hx, can_of_not hy]
theorem sameB_nan {x y : Nat} (hx : isNan .f32 x = true) (hy : isNan .f32 y = true) : sameB x y = true := by
  unfold sameB; rw [can_of_nan hx, can_of_nan hy]; simp
theorem sameB_mix {x y : Nat} (h : isNan .f32 x ≠ isNan .f32 y) : sameB x y = false := by
  unfold sameB
  rw [beq_eq_false_iff_ne]
  intro e
  exact h (isNan_of_can (Int.ofNat_inj.1 e))

/-- A word fits its kind. -/
def fits (k : FloatKind) (b : Nat) : Prop := (Lit.float k b).wf = true

def arith : BinOp → Bool
  | .add | .sub | .mul | .quo => true
  | _ => false

theorem isNan_f32 (b : Nat) : isNan .f32 b = decide (2139095040 < b % 2147483648) := by
  have e1 : Ieee.single.signWeight = 2147483648 := by decide
  have e2 : Ieee.single.infRung = 2139095040 := by decide
  have e3 : Ieee.single.binade = 8388608 := by decide
  simp only [isNan, FloatKind.format, Ieee.Format.read, e1, e2, e3]
  split
  · simp only [Ieee.Datum.isNaN]; symm; rw [decide_eq_false_iff_not]; omega
  · split
    · simp only [Ieee.Datum.isNaN]; symm; rw [decide_eq_false_iff_not]; omega
    · split
      · simp only [Ieee.Datum.isNaN]; symm; rw [decide_eq_false_iff_not]; omega
      · simp only [Ieee.Datum.isNaN]; symm; rw [decide_eq_true_iff]; omega
theorem isNan_f64 (b : Nat) : isNan .f64 b = decide (9218868437227405312 < b % 9223372036854775808) := by
  have e1 : Ieee.double.signWeight = 9223372036854775808 := by decide
  have e2 : Ieee.double.infRung = 9218868437227405312 := by decide
  have e3 : Ieee.double.binade = 4503599627370496 := by decide
  simp only [isNan, FloatKind.format, Ieee.Format.read, e1, e2, e3]
  split
  · simp only [Ieee.Datum.isNaN]; symm; rw [decide_eq_false_iff_not]; omega
  · split
    · simp only [Ieee.Datum.isNaN]; symm; rw [decide_eq_false_iff_not]; omega
    · split
      · simp only [Ieee.Datum.isNaN]; symm; rw [decide_eq_false_iff_not]; omega
      · simp only [Ieee.Datum.isNaN]; symm; rw [decide_eq_true_iff]; omega

theorem nan32 (t : Nat) : isNan .f32 ((t % 2) * 2 ^ 31 + 0x7f800000 + 1 + (t / 2) % (2 ^ 23 - 1)) = true ∧ (Lit.float .f32 ((t % 2) * 2 ^ 31 + 0x7f800000 + 1 + (t / 2) % (2 ^ 23 - 1))).wf = true := by
  have hlt : t / 2 % (2 ^ 23 - 1) < 2 ^ 23 - 1 := Nat.mod_lt _ (by omega)
  have h2 : t % 2 < 2 := Nat.mod_lt _ (by omega)
  generalize t / 2 % (2 ^ 23 - 1) = u at *
  generalize t % 2 = s at *
  refine ⟨?_, ?_⟩
  · rw [isNan_f32, decide_eq_true_iff]; omega
  · simp only [Lit.wf, decide_eq_true_eq]; omega
theorem nan64 (t : Nat) : isNan .f64 ((t % 2) * 2 ^ 63 + 0x7ff0000000000000 + 1 + (t / 2) % (2 ^ 52 - 1)) = true ∧ (Lit.float .f64 ((t % 2) * 2 ^ 63 + 0x7ff0000000000000 + 1 + (t / 2) % (2 ^ 52 - 1))).wf = true := by
  have hlt : t / 2 % (2 ^ 52 - 1) < 2 ^ 52 - 1 := Nat.mod_lt _ (by omega)
  have h2 : t % 2 < 2 := Nat.mod_lt _ (by omega)
  generalize t / 2 % (2 ^ 52 - 1) = u at *
  generalize t % 2 = s at *
  refine ⟨?_, ?_⟩
  · rw [isNan_f64, decide_eq_true_iff]; omega
  · simp only [Lit.wf, decide_eq_true_eq]; omega

/-- Whatever word a draw gives for a NaN: it is one, and fits. -/
theorem nan_bits (k : FloatKind) (x y t : Nat) : isNan k ((Question.nanBits k x y).cut t) = true ∧ fits k ((Question.nanBits k x y).cut t) := by
  cases k
  · exact nan32 t
  · exact nan64 t
theorem nan_conv (k : FloatKind) (x t : Nat) : isNan k ((Question.nanConv k x).cut t) = true ∧ fits k ((Question.nanConv k x).cut t) := by
  cases k
  · exact nan32 t
  · exact nan64 t

theorem xor_mod (b n : Nat) : (b ^^^ 2 ^ n) % 2 ^ n = b % 2 ^ n := by
  apply Nat.eq_of_testBit_eq
  intro i
  simp only [Nat.testBit_mod_two_pow, Nat.testBit_xor, Nat.testBit_two_pow]
  by_cases h : i < n
  · have : n ≠ i := by omega
    simp [h, this]
  · simp [h]
theorem xor_lt {b n : Nat} (h : b < 2 ^ (n + 1)) : b ^^^ 2 ^ n < 2 ^ (n + 1) := Nat.xor_lt_two_pow h (Nat.pow_lt_pow_right (by omega) (by omega))

section
variable {P : Program}
/-- What an operation gives: some word that is 'fop' up to the bits of NaN, behind some draws. -/
theorem run_farith (w : World) (op : BinOp) (ho : arith op = true) (t : TypeId) (k : FloatKind) (p q : Nat) :
    ∃ r n, (binOp op t (.float k p) (.float k q)).run P w = .ok (.float k r) (w.drewN n) ∧ can k r = fop op k p q ∧ fits k r := by
  cases h : floatBits op k p q with
  | some r =>
    refine ⟨r, 0, run_float_arith w op t k p q r h, ?_, floatBits_wf h⟩
    simp only [fop, h]
  | none =>
    refine ⟨(Question.nanBits k p q).cut (w.tape w.drawn (.nanBits k p q)), 1, ?_, ?_, (nan_bits k p q _).2⟩
    · unfold floatBits at h
      cases op <;> simp only [arith] at ho h <;> first | (cases ho; done) | skip
      all_goals (simp [binOp, Op.floatArith, h, Question.forced]; rfl)
    · rw [can_of_nan (nan_bits k p q _).1]; simp only [fop, h]

theorem eqGuard_float (w : World) (op : BinOp) (t : TypeId) (x y : Operand) (k k' : FloatKind) (p q : Nat) : (eqGuard op t x y (Value.float k p) (Value.float k' q)).run P w = Result.ok () w := by
  cases op <;> simp [eqGuard]

@[go_sem] theorem run_store_float (w : World) (a : Addr) (m : Mode) (k : FloatKind) (n : Nat) : (store a (.float k n) m).run P w = stored P w a (.float k n) m := run_store P w a _ m rfl
/-- The opposite. -/
def neg (k : FloatKind) (b : Nat) : Nat := Op.negFloat k b
theorem isNan_neg (k : FloatKind) (b : Nat) : isNan k (neg k b) = isNan k b := by
  cases k
  · rw [isNan_f32, isNan_f32]
    have h : neg .f32 b % 2147483648 = b % 2147483648 := xor_mod b 31
    rw [h]
  · rw [isNan_f64, isNan_f64]
    have h : neg .f64 b % 9223372036854775808 = b % 9223372036854775808 := xor_mod b 63
    rw [h]
theorem fits_neg {k : FloatKind} {b : Nat} (h : fits k b) : fits k (neg k b) := by
  cases k
  · simp only [fits, Lit.wf, decide_eq_true_eq] at *
    exact xor_lt (n := 31) h
  · simp only [fits, Lit.wf, decide_eq_true_eq] at *
    exact xor_lt (n := 63) h
theorem can_neg (k : FloatKind) (b : Nat) : can k (neg k (can k b)) = can k (neg k b) := by
  cases h : isNan k b
  · rw [can_of_not h]
  · rw [can_of_nan (by rw [isNan_neg, isNan_can, h]), can_of_nan (by rw [isNan_neg, h])]
theorem neg_congr {k : FloatKind} {a b : Nat} (h : can k a = can k b) : can k (neg k a) = can k (neg k b) := by
  rw [← can_neg k a, h, can_neg]
@[go_sem] theorem run_neg_float (w : World) (k : FloatKind) (b : Nat) : (Op.unary .neg (.float k b)).run P w = .ok (.float k (neg k b)) w := rfl

theorem hid {p : Prop} (h : p) : Hid p := h

/-- THE WALK's LAW for + - * / on floats. -/
theorem wpList_farith {w : World} {ops : Array Oper} {rest : List Oper} {o : Oper} {a : Act} {Q : Exit → Act → World → Prop}
    (hg : o.guard = none) {op : BinOp} {t t' : TypeId} {x y : Operand} (hop : o.op = Op.binOp op t x y t') (ho : arith op = true)
    {k : FloatKind} {p q : Nat} (hx : a.eval x = .float k p) (hy : a.eval y = .float k q)
    (hK : ∀ r n, Hid (can k r = fop op k p q) → Hid (fits k r) → wpList P ops Q rest (a.put o.dst (.float k r)) (w.drewN n)) : wpList P ops Q (o :: rest) a w := by
  refine wpList_plain hg fun K hK' => ?_
  obtain ⟨r, n, hrun, hr, hf⟩ := run_farith (P := P) w op ho t k p q
  unfold Oper.wp
  have he := eqGuard_float (P := P) w op t x y k k p q
  simp [execOp, hop, hx, hy, he, hrun, Result.andThen]
  exact hK' _ _ (hK r n hr hf)
end

end Go.Fk

/- Blocks of memory that hold known rows of cells, told of worlds that are variables. Nothing here names a program. -/
namespace Go.Fk
open Go Go.RowKit

/-- A row of n cells, told by a function. -/
def tab (f : Nat → Value) (n : Nat) : Array Value := ((List.range n).map f).toArray
theorem size_tab (f : Nat → Value) (n : Nat) : (tab f n).size = n := by simp [tab]
theorem get_tab (f : Nat → Value) (n j : Nat) (h : j < n) : (tab f n)[j]? = some (f j) := by simp [tab, h]
theorem set_tab (f : Nat → Value) (n k : Nat) (v : Value) : (tab f n).setIfInBounds k v = tab (fun j => if j = k then v else f j) n := by
  apply Array.ext
  · simp [tab]
  · intro i h1 h2
    simp only [tab, List.size_toArray, List.length_map, List.length_range, Array.size_setIfInBounds] at h1 h2
    rw [Array.getElem_setIfInBounds]
    · simp [tab, eq_comm]
    · simpa [tab] using h1
theorem tab_congr {f g : Nat → Value} {n : Nat} (h : ∀ j, j < n → f j = g j) : tab f n = tab g n := by
  unfold tab
  congr 1
  exact List.map_congr_left (fun j hj => h j (List.mem_range.1 hj))
theorem tab_of_list (l : List Value) (d : Value) : l.toArray = tab (fun j => l.getD j d) l.length := by
  unfold tab
  congr 1
  apply List.ext_getElem
  · simp
  · intro i h1 h2
    simp [List.getD, List.getElem?_eq_getElem h1]
theorem all_tab (f : Nat → Value) (n : Nat) (p : Value → Bool) (h : ∀ j, j < n → p (f j) = true) : (tab f n).all p = true := by
  simp only [tab, Array.all_eq_true_iff_forall_mem]
  intro v hv
  simp only [List.mem_toArray, List.mem_map, List.mem_range] at hv
  obtain ⟨j, hj, rfl⟩ := hv
  exact h j hj

/-- A row of floats. -/
def ftab (k : FloatKind) (g : Nat → Nat) (n : Nat) : Array Value := tab (fun j => .float k (g j)) n
def itab (k : IntKind) (g : Nat → Int) (n : Nat) : Array Value := tab (fun j => .int k (g j)) n
theorem size_ftab (k : FloatKind) (g : Nat → Nat) (n : Nat) : (ftab k g n).size = n := size_tab _ _
theorem get_ftab (k : FloatKind) (g : Nat → Nat) (n j : Nat) (h : j < n) : (ftab k g n)[j]? = some (.float k (g j)) := get_tab _ _ _ h
theorem get_itab (k : IntKind) (g : Nat → Int) (n j : Nat) (h : j < n) : (itab k g n)[j]? = some (.int k (g j)) := get_tab _ _ _ h
theorem size_itab (k : IntKind) (g : Nat → Int) (n : Nat) : (itab k g n).size = n := size_tab _ _
theorem set_ftab (kd : FloatKind) (g : Nat → Nat) (n k r : Nat) : (ftab kd g n).setIfInBounds k (.float kd r) = ftab kd (fun j => if j = k then r else g j) n := by
  unfold ftab; rw [set_tab]; congr 1; funext j; by_cases h : j = k <;> simp [h]
theorem set_itab (kd : IntKind) (g : Nat → Int) (n k : Nat) (r : Int) : (itab kd g n).setIfInBounds k (.int kd r) = itab kd (fun j => if j = k then r else g j) n := by
  unfold itab; rw [set_tab]; congr 1; funext j; by_cases h : j = k <;> simp [h]
theorem ftab_congr {kd : FloatKind} {f g : Nat → Nat} {n : Nat} (h : ∀ j, j < n → f j = g j) : ftab kd f n = ftab kd g n := tab_congr (fun j hj => by rw [h j hj])
theorem ftab_of_list (kd : FloatKind) (l : List Nat) : (l.map (Value.float kd)).toArray = ftab kd (fun j => l.getD j 0) l.length := by
  unfold ftab tab
  congr 1
  apply List.ext_getElem
  · simp
  · intro i h1 h2
    simp at h1
    simp [List.getD, List.getElem?_eq_getElem h1]
theorem itab_of_list (kd : IntKind) (l : List Int) : (l.map (Value.int kd)).toArray = itab kd (fun j => l.getD j 0) l.length := by
  unfold itab tab
  congr 1
  apply List.ext_getElem
  · simp
  · intro i h1 h2
    simp at h1
    simp [List.getD, List.getElem?_eq_getElem h1]
theorem one_ftab (kd : FloatKind) (g : Nat → Nat) (n : Nat) : (ftab kd g n).all (·.oneCell') = true := all_tab _ _ _ (fun _ _ => rfl)
theorem one_itab (kd : IntKind) (g : Nat → Int) (n : Nat) : (itab kd g n).all (·.oneCell') = true := all_tab _ _ _ (fun _ _ => rfl)

/-- Block g holds just this row. -/
def Row (w : World) (g : Nat) (t : TypeId) (cs : Array Value) : Prop := w.heap[g]? = some (.cells cs t (0, 0))

namespace Row
variable {w w' : World} {g : Nat} {t : TypeId} {cs : Array Value}
theorem lt (h : Row w g t cs) : g < w.heap.size := by
  unfold Row at h
  rcases Nat.lt_or_ge g w.heap.size with h1 | h1
  · exact h1
  · rw [Array.getElem?_eq_none h1] at h; cases h
theorem cell? (h : Row w g t cs) (i : Nat) : w.cell? ⟨g, i, none⟩ = cs[i]? := cell_of_row w g i cs t (0, 0) h
theorem frozen (h : Row w g t cs) (i : Nat) : w.frozen? ⟨g, i, none⟩ = false := frozen_of_row w g i cs t h
theorem tab {f : Nat → Value} {n : Nat} (h : Row w g t (tab f n)) {i : Nat} (hi : i < n) : w.cell? ⟨g, i, none⟩ = some (f i) := by rw [h.cell?, get_tab f n i hi]
theorem ftab {kd : FloatKind} {f : Nat → Nat} {n : Nat} (h : Row w g t (ftab kd f n)) {i : Nat} (hi : i < n) : w.cell? ⟨g, i, none⟩ = some (.float kd (f i)) := Row.tab h hi
theorem itab {kd : IntKind} {f : Nat → Int} {n : Nat} (h : Row w g t (itab kd f n)) {i : Nat} (hi : i < n) : w.cell? ⟨g, i, none⟩ = some (.int kd (f i)) := Row.tab h hi
theorem ne_of {g' : Nat} {t' : TypeId} {cs' : Array Value} (h : Row w g t cs) (h' : Row w g' t' cs') (ht : t ≠ t') : g ≠ g' := by
  rintro rfl
  unfold Row at h h'
  rw [h] at h'
  simp only [Option.some.injEq, Obj.cells.injEq] at h'
  exact ht h'.2.1
theorem set (h : Row w g t cs) (i : Nat) (v : Value) : Row (w.setCell ⟨g, i, none⟩ v) g t (cs.setIfInBounds i v) := heap_setCell_same w g i cs t v h
theorem other (h : Row w g t cs) (a : Addr) (v : Value) (hne : g ≠ a.block) : Row (w.setCell a v) g t cs := by
  unfold Row; rw [heap_setCell_other w a g v hne]; exact h
theorem new (w : World) (t : TypeId) (cs : Array Value) : Row (w.alloc (.cells cs t)) w.heap.size t cs := _root_.Go.heap_alloc_new w _
theorem new' {n : Nat} (w : World) (t : TypeId) (cs : Array Value) (hn : n = w.heap.size) : Row (w.alloc (.cells cs t)) n t cs := by subst hn; exact _root_.Go.heap_alloc_new w _
theorem alloc (h : Row w g t cs) (o : Obj) : Row (w.alloc o) g t cs := by
  unfold Row; rw [Below.heap_alloc w o g h.lt]; exact h
theorem drewN (h : Row w g t cs) (n : Nat) : Row (w.drewN n) g t cs := h
theorem drew (h : Row w g t cs) : Row w.drew g t cs := h
theorem below {B : Nat} (h : Row w g t cs) (hb : Below B w w') (hg : g < B) : Row w' g t cs := by
  unfold Row; rw [hb.block g hg]; exact h
theorem setRow (h : Row w g t cs) (ds : Array Value) : Row (w.setRow g ds) g t ds := by
  unfold Row at *
  unfold World.setRow
  simp [Array.getElem?_modify, h]
theorem setRow_other (h : Row w g t cs) {g' : Nat} (hne : g ≠ g') (ds : Array Value) : Row (w.setRow g' ds) g t cs := by
  unfold Row at *
  unfold World.setRow
  rw [Array.getElem?_modify, if_neg (Ne.symm hne)]; exact h
end Row
theorem below_setRow {B : Nat} {a w : World} (h : Below B a w) {g : Nat} (hg : B ≤ g) (ds : Array Value) : Below B a (w.setRow g ds) := by
  refine h.trans ⟨rfl, rfl, rfl, ?_, ?_⟩
  · simp [World.setRow]
  · intro k hk
    unfold World.setRow
    rw [Array.getElem?_modify, if_neg (by omega)]

section
variable {P : Program} {w : World} {ops : Array Oper} {rest : List Oper} {o : Oper} {a : Act} {Q : Exit → Act → World → Prop}
/-- An element of an array value. -/
theorem run_index_arr (w : World) {t e : TypeId} {n k : Nat} {cs : Array Value} {v : Value} {fk : FloatKind} (h : P.underlying t = some (.array n e)) (he : P.underlying e = some (.float fk)) (hs : (P.info? e).map (·.size) = some 1)
    (hk : k < n) (hc : cs[k]? = some v) (kk : IntKind) : (Instr.index t (.agg cs) (.int kk (k : Int))).run P w = .ok v w := by
  cases hq : P.info? e with
  | none => simp [hq] at hs
  | some i =>
    have hsz : i.size = 1 := by simpa [hq] using hs
    have h2 : (k : Int) < n := by omega
    simp [Instr.index, asIntOf, run_underlying h, sizeOf, typeInfo, hq, hsz, part, isAgg, run_underlying he, h2, hc]
    exact fun h => by omega
/-- An element of an array value. -/
theorem run_index_arr_i (w : World) {t e : TypeId} {n k : Nat} {cs : Array Value} {v : Value} {ik : IntKind} (h : P.underlying t = some (.array n e)) (he : P.underlying e = some (.int ik)) (hs : (P.info? e).map (·.size) = some 1)
    (hk : k < n) (hc : cs[k]? = some v) (kk : IntKind) : (Instr.index t (.agg cs) (.int kk (k : Int))).run P w = .ok v w := by
  cases hq : P.info? e with
  | none => simp [hq] at hs
  | some i =>
    have hsz : i.size = 1 := by simpa [hq] using hs
    have h2 : (k : Int) < n := by omega
    simp [Instr.index, asIntOf, run_underlying h, sizeOf, typeInfo, hq, hsz, part, isAgg, run_underlying he, h2, hc]
    exact fun h => by omega
/-- A whole array is loaded. -/
theorem wpList_loadA (hg : o.guard = none) {ty : TypeId} {x : Operand} (hop : o.op = .load ty x) {g : Nat} (hx : a.eval x = .pointer (some ⟨g, 0, none⟩)) {t : TypeId} {cs : Array Value} {n : Nat} {e : TypeId}
    (hr : Row w g t cs) (hu : P.underlying ty = some (.array n e)) (hi : (P.info? ty).map (·.size) = some cs.size)
    (h : wpList P ops Q rest (a.put o.dst (.agg cs)) w) : wpList P ops Q (o :: rest) a w :=
  wpList_load_row hg ty x hop g hx t cs (0, 0) _ hr hu rfl hi h
/-- A whole array is stored. -/
theorem wpList_storeA (hg : o.guard = none) {ty : TypeId} {x y : Operand} (hop : o.op = .store ty x y) {g : Nat} (hx : a.eval x = .pointer (some ⟨g, 0, none⟩)) {cells : Array Value} (hy : a.eval y = .agg cells) {t : TypeId} {old : Array Value}
    (hr : Row w g t old) (hi : (P.info? ty).map (·.size) = some cells.size) (ho : old.size = cells.size) (h1 : cells.all (·.oneCell') = true)
    (h : wpList P ops Q rest (a.put o.dst undef) (w.setRow g cells)) : wpList P ops Q (o :: rest) a w :=
  wpList_plain hg fun _ hK => wp_store_row ty x y hop g cells hx hy t old hr hi ho h1 (hK _ _ h)
/-- Two results: an array that lies in memory, and a slot. -/
theorem results_cellrow_tmp {fn : Func} {p u : Tmp} {ty : TypeId} (h : fn.results = #[.cell p ty, .tmp u]) (tmps : Array Value) (w : World) (g : Nat) (t : TypeId) (cs : Array Value) {n : Nat} {e : TypeId}
    (hp : tmps.getD p undef = .pointer (some ⟨g, 0, none⟩)) (hg : Row w g t cs) (hu : P.underlying ty = some (.array n e)) (hi : (P.info? ty).map (·.size) = some cs.size) :
    (results fn tmps).run P w = .ok (.tuple #[.agg cs, tmps.getD u undef]) w := by
  have hp' : tmps[p]?.getD undef = .pointer (some ⟨g, 0, none⟩) := by simpa using hp
  simp [results, h, hp', asAddr, run_loadVar_row w g t ty cs (0, 0) _ hg hu rfl hi]
end
end Go.Fk

/- Regions that draw their order: one walk, in the order of the text, serves every order, where an operation's value is known up to a predicate that speaks of the world as well (the bits of a NaN; memory that a callee or the region itself makes). 'W': the world ahead of it; nothing that W holds is turned, but by the last operations, where these are forced to come last. 'K': what is known of what a call gives. Nothing here names a program. -/
namespace Go.Fk
open Go Go.RowKit

/-- Nothing that was there has turned. -/
def le (w w' : World) : Prop := Below w.heap.size w w'
theorem le_refl (w : World) : le w w := Below.refl _ _
theorem le_trans {a b c : World} (h : le a b) (k : le b c) : le a c := Below.trans h (Below.mono k (Below.size h))
theorem le_drewN (w : World) (n : Nat) : le w (w.drewN n) := below_drewN (Below.refl _ _) n
theorem le_alloc (w : World) (o : Obj) : le w (w.alloc o) := (Below.refl _ _).alloc (Nat.le_refl _) o
theorem Row.le {w w' : World} {g : Nat} {t : TypeId} {cs : Array Value} (h : Row w g t cs) (hb : Fk.le w w') : Row w' g t cs := h.below hb h.lt

section
variable (P : Program) (ops : Array Oper) (md : Region.Mode) (W : World) (K : FuncId → Array Value → World → Value → Prop)

/-- What an operation's run in w must be, for its value to be one of V. -/
def inside (w : World) (V : World → Value → Prop) : Result Next → Prop
  | .ok (.value u) w' => le w w' ∧ V w' u
  | .ok .skip w' => le w w' ∧ V w' undef
  | .ok (.enter f args) w' => le w w' ∧ Calls P f args w' (fun e w'' => ∃ v, e = .returned v ∧ le w' w'' ∧ K f args w'' v) ∧ ∀ w'' v, K f args w'' v → V w'' v
  | _ => False

def Mono (V : World → Value → Prop) : Prop := ∀ v w w', le w w' → V w v → V w' v

def Yields (o : Oper) (a : Act) (V : World → Value → Prop) : Prop :=
  Mono V ∧ ((Region.wanted o (yielded ops a.tmps) = true ∧ ∀ w, le W w → inside P K w V ((execOp a.eval o).run P w)) ∨ (Region.wanted o (yielded ops a.tmps) = false ∧ ∀ w, le W w → V w undef))

/-- The walk in the order of the text; what is known of the world is gathered. -/
def wpFree (Q : Act → World → Prop) : List Oper → Act → (World → Prop) → Prop
  | [], a, F => ∀ w, le W w → F w → Q a w
  | o :: rest, a, F => ∃ V, Yields P ops W K o a V ∧ ∀ v, (∃ w, le W w ∧ V w v) → wpFree Q rest (a.put o.dst v) (fun w => F w ∧ V w v)

/-- Whatever order is picked of the first n operations; then L. -/
def anyFree (n : Nat) (L : Array Bool → Act → (World → Prop) → Prop) : Nat → Array Bool → Act → (World → Prop) → Prop
  | 0, listed, a, F => L listed a F
  | f + 1, listed, a, F => Region.ready md ops listed ≠ [] ∧
      ∀ i ∈ Region.ready md ops listed, i < n ∧ ∀ o, ops[i]? = some o → ∃ V, Yields P ops W K o a V ∧ ∀ v, (∃ w, le W w ∧ V w v) → anyFree n L f (listed.setIfInBounds i true) (a.put o.dst v) (fun w => F w ∧ V w v)
end

section
variable {P : Program} {ops : Array Oper} {md : Region.Mode} {W : World} {K : FuncId → Array Value → World → Value → Prop}

theorem inside_all {ι : Type} {V : ι → World → Value → Prop} {w : World} {r : Result Next} (hne : ∃ _ : ι, True) (h : ∀ i, inside P K w (V i) r) : inside P K w (fun w' v => ∀ i, V i w' v) r := by
  obtain ⟨i0, _⟩ := hne
  have hr := h i0
  cases r with
  | ok n w' =>
    cases n <;> simp only [inside] at hr h ⊢
    case value u => exact ⟨hr.1, fun i => (h i).2⟩
    case skip => exact ⟨hr.1, fun i => (h i).2⟩
    case enter f args => exact ⟨hr.1, hr.2.1, fun w'' v hv i => (h i).2.2 w'' v hv⟩
  | halt x w' => simp only [inside] at hr

theorem inside_some {V : World → Value → Prop} {w : World} (hw : le W w) {r : Result Next} (h : inside P K w V r) : ∃ v, ∃ w', le W w' ∧ V w' v := by
  cases r with
  | ok n w' =>
    cases n <;> simp only [inside] at h
    case value u => exact ⟨u, w', le_trans hw h.1, h.2⟩
    case skip => exact ⟨undef, w', le_trans hw h.1, h.2⟩
    case enter f args =>
      obtain ⟨e, w'', fr, ⟨v, _, hl, hk⟩, _⟩ := h.2.1 []
      exact ⟨v, w'', le_trans (le_trans hw h.1) hl, h.2.2 w'' v hk⟩
  | halt x w' => simp only [inside] at h

theorem Yields.some {o : Oper} {a : Act} {V : World → Value → Prop} (h : Yields P ops W K o a V) : ∃ v, ∃ w, le W w ∧ V w v := by
  rcases h.2 with ⟨_, h⟩ | ⟨_, h⟩
  · exact inside_some (le_refl W) (h W (le_refl W))
  · exact ⟨undef, W, le_refl W, h W (le_refl W)⟩

theorem Yields.same {o : Oper} {a a' : Act} {V : World → Value → Prop} (he : execOp a'.eval o = execOp a.eval o) (hw : Region.wanted o (yielded ops a'.tmps) = Region.wanted o (yielded ops a.tmps))
    (h : Yields P ops W K o a V) : Yields P ops W K o a' V := by
  unfold Yields at *; rw [he, hw]; exact h

theorem wpOp_yields {i : Nat} {o : Oper} {a : Act} {w : World} {V : World → Value → Prop} {next : Act → World → Prop} {Q' : Exit → Act → World → Prop} (ho : ops[i]? = some o) (hw : le W w) (hg : Yields P ops W K o a V)
    (hn : ∀ v w', le w w' → V w' v → next (a.put o.dst v) w') : wpOp P ops Q' i next a w := by
  unfold wpOp
  simp only [ho]
  rcases hg.2 with ⟨hwant, hv⟩ | ⟨hwant, hv⟩
  · rw [if_pos hwant]
    left
    have h3 := hv w hw
    unfold Oper.wp
    generalize (execOp a.eval o).run P w = r at h3
    cases r with
    | ok x w' =>
      cases x <;> simp only [inside] at h3 <;> simp only [Oper.upon]
      case value u => exact hn u _ h3.1 h3.2
      case skip => exact hn undef _ h3.1 h3.2
      case enter f args =>
        refine h3.2.1.mono fun e w'' he => ?_
        obtain ⟨v, rfl, hl, hk⟩ := he
        exact hn v _ (le_trans h3.1 hl) (h3.2.2 w'' v hk)
    | halt x w' => simp only [inside] at h3
  · rw [if_neg (by simp [hwant])]
    exact hn undef _ (le_refl w) (hv w hw)

theorem anyFree_sound {n g : Nat} {L : Array Bool → Act → (World → Prop) → Prop} {Q' : Exit → Act → World → Prop} (hL : ∀ listed a F w, le W w → F w → L listed a F → wpAny P md ops Q' g listed a w) :
    ∀ (f : Nat) (listed : Array Bool) (a : Act) (F : World → Prop) (w : World), (∀ w w', le w w' → F w → F w') → le W w → F w → anyFree P ops md W K n L f listed a F → wpAny P md ops Q' (f + g) listed a w := by
  intro f
  induction f with
  | zero => intro listed a F w _ hw hF h; rw [Nat.zero_add]; exact hL _ _ _ _ hw hF h
  | succ f ih =>
    intro listed a F w hm hw hF h
    rw [show f + 1 + g = (f + g) + 1 by omega]
    refine ⟨fun h0 => absurd h0 h.1, fun i hi => ?_⟩
    obtain ⟨_, o, ho, _⟩ := mem_ready.1 hi
    obtain ⟨V, hg, hn⟩ := (h.2 i hi).2 o ho
    exact wpOp_yields ho hw hg (fun v w' hl hv => ih _ _ _ _ (fun u u' hu hh => ⟨hm u u' hu hh.1, hg.1 v u u' hu hh.2⟩) (le_trans hw hl) ⟨hm w w' hl hF, hv⟩ (hn v ⟨w', le_trans hw hl, hv⟩))

theorem anyFree_weaken {n : Nat} {L : Array Bool → Act → (World → Prop) → Prop} (hLm : ∀ listed a F F', (∀ w, F' w → F w) → L listed a F → L listed a F') :
    ∀ (f : Nat) (listed : Array Bool) (a : Act) (F F' : World → Prop), (∀ w, F' w → F w) → anyFree P ops md W K n L f listed a F → anyFree P ops md W K n L f listed a F' := by
  intro f
  induction f with
  | zero => intro listed a F F' h hh; exact hLm _ _ _ _ h hh
  | succ f ih =>
    intro listed a F F' h hh
    refine ⟨hh.1, fun i hi => ⟨(hh.2 i hi).1, fun o ho => ?_⟩⟩
    obtain ⟨V, hg, hn⟩ := (hh.2 i hi).2 o ho
    exact ⟨V, hg, fun v hv => ih _ _ _ _ (fun w hw => ⟨h w hw.1, hw.2⟩) (hn v hv)⟩

theorem anyFree_first {n i : Nat} {oi : Oper} {V : World → Value → Prop} {L : Array Bool → Act → (World → Prop) → Prop} (hi : ops[i]? = some oi) (hsel : ∀ (j : Nat) (o : Oper) cs b, ops[j]? = some o → o.op ≠ .select cs b)
    (hbound : ∀ listed i, HeadInv md ops n listed → i < n → listed.getD i true = false → ∀ j ∈ Region.ready md ops listed, j < n) (hin : i < n)
    (hdone : ∀ listed a F, L listed a F → ∀ j ∈ Region.ready md ops listed, n ≤ j) (hLm : ∀ listed a F F', (∀ w, F' w → F w) → L listed a F → L listed a F') :
    ∀ (f : Nat) (listed : Array Bool) (a : Act) (F : World → Prop), HeadInv md ops n listed →
      (∀ j oj, ops[j]? = some oj → j ≠ i → listed.getD j true = false → (∀ e ∈ oj.after, Region.binds md e = true → e.on ≠ i) → oi.apart ops oj = true) →
      i ∈ Region.ready md ops listed → Yields P ops W K oi a V →
      (∀ v, (∃ w, le W w ∧ V w v) → anyFree P ops md W K n L f (listed.setIfInBounds i true) (a.put oi.dst v) (fun w => F w ∧ V w v)) → anyFree P ops md W K n L (f + 1) listed a F := by
  intro f
  induction f with
  | zero =>
    intro listed a F inv _ hr hg H
    have hun := (mem_ready.1 hr).1
    refine ⟨fun h => (by rw [h] at hr; cases hr), fun j hj => ?_⟩
    have hjn := hbound listed i inv hin hun j hj
    refine ⟨hjn, fun o ho => ?_⟩
    by_cases hji : j = i
    · subst hji
      rw [hi] at ho; cases ho
      exact ⟨V, hg, H⟩
    · obtain ⟨v, hv⟩ := hg.some
      have := hdone _ _ _ (H v hv) j (ready_mono hj hji)
      omega
  | succ f ih =>
    intro listed a F inv hfree hr hg H
    have hun := (mem_ready.1 hr).1
    refine ⟨fun h => (by rw [h] at hr; cases hr), fun j hj => ?_⟩
    have hjn := hbound listed i inv hin hun j hj
    refine ⟨hjn, fun o ho => ?_⟩
    by_cases hji : j = i
    · subst hji
      rw [hi] at ho; cases ho
      exact ⟨V, hg, H⟩
    · obtain ⟨hjun, oj, hoj, hall⟩ := mem_ready.1 hj
      rw [ho] at hoj; cases hoj
      have hnot : ∀ e ∈ o.after, Region.binds md e = true → e.on ≠ i := fun e he hb heq => by
        have h1 := hall e he hb
        rw [heq, getD_both hun] at h1
        cases h1
      have hap := hfree j o ho hji hjun hnot
      obtain ⟨a1, a2, a3⟩ := Oper.apart_spec hap
      have hsi := fun cs b => hsel i oi cs b hi
      have hsj := fun cs b => hsel j o cs b ho
      have hU : ∀ v : {v // ∃ w, le W w ∧ V w v}, ∃ U, Yields P ops W K o (a.put oi.dst v.1) U ∧ ∀ u, (∃ w, le W w ∧ U w u) →
          anyFree P ops md W K n L f ((listed.setIfInBounds i true).setIfInBounds j true) ((a.put oi.dst v.1).put o.dst u) (fun w => (F w ∧ V w v.1) ∧ U w u) :=
        fun v => ((H v.1 v.2).2 j (ready_mono hj hji)).2 o ho
      obtain ⟨U, hU⟩ := Classical.skolem.1 hU
      obtain ⟨v0, hv0⟩ := hg.some
      have hone : ∀ v, Yields P ops W K o a (U v) := fun v => (hU v).1.same (execOp_put o hsj a oi.dst v.1 a1).symm (wanted_put o a oi.dst v.1 a1).symm
      have hgood : Yields P ops W K o a (fun w u => ∀ v, U v w u) := by
        refine ⟨fun u w w' hl h v => (hone v).1 u w w' hl (h v), ?_⟩
        by_cases hw : Region.wanted o (yielded ops a.tmps) = true
        · refine .inl ⟨hw, fun w hw' => inside_all ⟨⟨v0, hv0⟩, trivial⟩ (fun v => ?_)⟩
          rcases (hone v).2 with ⟨_, h3⟩ | ⟨h3, _⟩
          · exact h3 w hw'
          · rw [hw] at h3; cases h3
        · refine .inr ⟨by simpa using hw, fun w hw' v => ?_⟩
          rcases (hone v).2 with ⟨h3, _⟩ | ⟨_, h3⟩
          · exact absurd h3 hw
          · exact h3 w hw'
      refine ⟨_, hgood, ?_⟩
      intro u hu
      have hfree' : ∀ k ok, ops[k]? = some ok → k ≠ i → (listed.setIfInBounds j true).getD k true = false →
          (∀ e ∈ ok.after, Region.binds md e = true → e.on ≠ i) → oi.apart ops ok = true := fun k ok hk hki hun hno => by
        refine hfree k ok hk hki ?_ hno
        by_cases hjk : j = k
        · subst hjk; exact hjun
        · rw [getD_set_ne true hjk] at hun; exact hun
      refine ih (listed.setIfInBounds j true) (a.put o.dst u) _ (inv.set hj hjn) hfree' (ready_mono hr (Ne.symm hji)) (hg.same (execOp_put oi hsi a o.dst u a3) (wanted_put oi a o.dst u a3)) (fun v hv => ?_)
      rw [Array.setIfInBounds_comm _ _ hji, ← Act.put_comm a v u a2]
      obtain ⟨w, hw, hu⟩ := hu
      exact anyFree_weaken hLm _ _ _ _ _ (fun w' h' => ⟨⟨h'.1.1, h'.2⟩, h'.1.2 ⟨v, hv⟩⟩) ((hU ⟨v, hv⟩).2 u ⟨w, hw, hu ⟨v, hv⟩⟩)

theorem anyFree_lex {n g : Nat} {R : Act → World → Prop} (hsel : Region.noSelect ops = true)
    (hbound : ∀ listed i, HeadInv md ops n listed → i < n → listed.getD i true = false → ∀ j ∈ Region.ready md ops listed, j < n) :
    ∀ (l : List Oper) (k : Nat) (listed : Array Bool) (a : Act) (F : World → Prop), (∀ j, j < l.length → l[j]? = ops[k + j]?) → k + l.length = n → HeadInv md ops n listed →
    Region.lexHead md ops g l.length k listed = true → wpFree P ops W K R l a F →
    anyFree P ops md W K n (fun listed' a' F' => Region.seqB md ops g n listed' = true ∧ ∀ w, le W w → F' w → R a' w) l.length listed a F := by
  intro l
  induction l with
  | nil =>
    intro k listed a F _ hk _ hB h
    have : k = n := by simpa using hk
    subst this
    exact ⟨by simpa [Region.lexHead] using hB, h⟩
  | cons o l ih =>
    intro k listed a F hl hk inv hB h
    have h0 : ops[k]? = some o := by simpa using (hl 0 (by simp)).symm
    simp only [List.length_cons, Region.lexHead, Bool.and_eq_true] at hB
    obtain ⟨⟨hr, hf⟩, hB'⟩ := hB
    have hkn : k < n := by simp only [List.length_cons] at hk; omega
    have hr' : k ∈ Region.ready md ops listed := by simpa using hr
    obtain ⟨V, hg, hnext⟩ := h
    exact anyFree_first h0 (Region.noSelect_spec hsel) hbound hkn (fun listed' a' F' hL => seqB_ready hL.1) (fun _ _ _ _ hF hL => ⟨hL.1, fun w hw h' => hL.2 w hw (hF w h')⟩) l.length listed a F inv (Region.free_spec h0 hf) hr' hg
      (fun v hv => ih (k + 1) _ _ _ (fun j hj => by have := hl (j + 1) (by simp; omega); simpa [Nat.add_assoc, Nat.add_comm 1 j] using this) (by simp only [List.length_cons] at hk; omega) (inv.set hr' hkn) hB' (hnext v hv))

theorem head_start (ops : Array Oper) (n : Nat) : HeadInv .any ops n (Array.replicate ops.size false) :=
  ⟨by simp, fun j oj _ hl => (by rw [getD_replicate_false] at hl; cases hl), fun t _ ht => getD_in (by simpa using ht) (getD_replicate_false _ _)⟩

/-- A REGION WITH FORCED LAST OPERATIONS (from number n on). -/
theorem region_tail (K : FuncId → Array Value → World → Value → Prop) {id : Nat} {Q : Exit → Act → World → Prop} {a : Act} {w : World} {l : List Oper} (n : Nat) (hm : P.follows .mixedOrders = true) (hB : Region.lexTailB .any l.toArray n = true)
    (h : wpFree P l.toArray (w.drewN 1) K (fun a' w' => wpList P l.toArray Q (l.drop n) a' w') (l.take n) a (fun _ => True)) : (Code.region id l.toArray true).wp P Q a w := by
  simp only [Region.lexTailB, Bool.and_eq_true, decide_eq_true_eq] at hB
  obtain ⟨⟨⟨⟨hsel, hn⟩, hs⟩, hc⟩, hlex⟩ := hB
  have hn' : n < l.length := by simpa using hn
  have htl : (l.take n).length = n := by simp; omega
  have hdl : (l.drop n).length = l.toArray.size - n := by simp
  have hbound : ∀ listed i, HeadInv .any l.toArray n listed → i < n → listed.getD i true = false → ∀ j ∈ Region.ready .any l.toArray listed, j < n := by
    intro listed i inv hi hun j hj
    rcases Nat.lt_or_ge j n with h | h
    · exact h
    · exact absurd hj (tail_waits hs hc hn inv _ i rfl hi hun j h)
  have H := anyFree_lex (md := .any) (g := l.toArray.size - n) hsel hbound (l.take n) 0 _ a _ (fun j hj => by
    have hj' : j < n := by rw [htl] at hj; exact hj
    simp [hj']) (by simpa using htl) (head_start _ n) (by rw [htl]; exact hlex) h
  refine wp_region_any hm ?_
  have := anyFree_sound (Q' := Q) (W := w.drewN 1) (g := l.toArray.size - n) (fun listed a' F w' hw' hF hL => by
    have := wpAny_of_seq (md := .any) (Q' := Q) (l.drop n) n listed a' w' (fun j => by simp [List.getElem?_drop]) (by rw [hdl]; exact hL.1) (hL.2 w' hw' hF)
    rwa [hdl] at this) _ _ _ _ _ (fun _ _ _ h => h) (le_refl _) trivial H
  rw [htl, show n + (l.toArray.size - n) = l.toArray.size by omega] at this
  exact this

/-- A REGION WITHOUT. -/
theorem region_free (K : FuncId → Array Value → World → Value → Prop) {id : Nat} {Q : Exit → Act → World → Prop} {a : Act} {w : World} {l : List Oper} (hm : P.follows .mixedOrders = true)
    (hB : (Region.noSelect l.toArray && Region.lexHead .any l.toArray 0 l.length 0 (Array.replicate l.toArray.size false)) = true)
    (h : wpFree P l.toArray (w.drewN 1) K (fun a' w' => Q .normal a' w') l a (fun _ => True)) : (Code.region id l.toArray true).wp P Q a w := by
  simp only [Bool.and_eq_true] at hB
  obtain ⟨hsel, hlex⟩ := hB
  have hbound : ∀ listed i, HeadInv .any l.toArray l.length listed → i < l.length → listed.getD i true = false → ∀ j ∈ Region.ready .any l.toArray listed, j < l.length := by
    intro listed i _ _ _ j hj
    obtain ⟨_, oj, hoj, _⟩ := mem_ready.1 hj
    simpa using (Array.getElem?_eq_some_iff.1 hoj).1
  have H := anyFree_lex (md := .any) (g := 0) hsel hbound l 0 _ a _ (fun j hj => by simp) (by simp) (head_start _ l.length) hlex h
  refine wp_region_any hm ?_
  have := anyFree_sound (Q' := Q) (W := w.drewN 1) (g := 0) (fun listed a' F w' hw' hF hL => ⟨by simpa [Region.seqB] using hL.1, hL.2 w' hw' hF⟩) _ _ _ _ _ (fun _ _ _ h => h) (le_refl _) trivial H
  rw [Nat.add_zero] at this
  exact this
end

section
variable {P : Program} {ops : Array Oper} {W : World} {K : FuncId → Array Value → World → Value → Prop} {Q : Act → World → Prop} {F : World → Prop} {o : Oper} {rest : List Oper} {a : Act}

theorem wpFree_nil (h : ∀ w, le W w → F w → Q a w) : wpFree P ops W K Q [] a F := h

/-- An operation that gives one value and leaves the world as it is. -/
theorem wpFree_one (hg : o.guard = none) (v : Value) (hr : ∀ w, le W w → (execOp a.eval o).run P w = .ok (.value v) w)
    (h : wpFree P ops W K Q rest (a.put o.dst v) F) : wpFree P ops W K Q (o :: rest) a F := by
  refine ⟨fun _ u => u = v, ⟨fun _ _ _ _ h => h, .inl ⟨by simp [Region.wanted, hg], fun w hw => ?_⟩⟩, fun u hu => ?_⟩
  · rw [hr w hw]; exact ⟨le_refl w, rfl⟩
  · obtain ⟨w, _, rfl⟩ := hu
    have e : (fun w => F w ∧ u = u) = F := by funext w; simp
    rw [e]; exact h

/-- A value known up to a predicate that does not speak of the world; the world may be drawn from. -/
theorem wpFree_some (hg : o.guard = none) (V : Value → Prop) (hr : ∀ w, le W w → ∃ v n, (execOp a.eval o).run P w = .ok (.value v) (w.drewN n) ∧ V v)
    (h : ∀ v, V v → wpFree P ops W K Q rest (a.put o.dst v) F) : wpFree P ops W K Q (o :: rest) a F := by
  refine ⟨fun _ u => V u, ⟨fun _ _ _ _ h => h, .inl ⟨by simp [Region.wanted, hg], fun w hw => ?_⟩⟩, fun u hu => ?_⟩
  · obtain ⟨v, n, hrun, hv⟩ := hr w hw
    rw [hrun]; exact ⟨le_drewN w n, hv⟩
  · obtain ⟨w, _, hv⟩ := hu
    have h' := h u hv
    have e : (fun w => F w ∧ V u) = F := by funext w; simp [hv]
    rw [e]; exact h'

theorem run_enter {f : FuncId} {xs : Array Operand} {ts : Array TypeId} (hop : o.op = Op.call { callee := Callee.value (Operand.func f), args := xs, argTypes := ts }) {fn : Func} (hf : P.funcs[f]? = some fn)
    (hb : fn.body.isNone = false) (hn : (fn.name == "runtime.NumGoroutine") = false) {args : Array Value} (ha : xs.map a.eval = args) (w : World) : (execOp a.eval o).run P w = .ok (.enter f args) w := by
  have hn' : fn.name ≠ "runtime.NumGoroutine" := by simpa using hn
  have hfv : a.eval (Operand.func f) = .func (.func f) #[] #[] := rfl
  have hbn : ¬ fn.body = none := by intro e; rw [e] at hb; simp at hb
  simp [execOp, hop, hfv, resolve, invoke, Deferred.ofValue, callFunc, hf, hn', hbn, ha, Result.andThen]

/-- A call. -/
theorem wpFree_call (hg : o.guard = none) {f : FuncId} {xs : Array Operand} {ts : Array TypeId} (hop : o.op = Op.call { callee := Callee.value (Operand.func f), args := xs, argTypes := ts }) {fn : Func} (hf : P.funcs[f]? = some fn)
    (hb : fn.body.isNone = false) (hn : (fn.name == "runtime.NumGoroutine") = false) {args : Array Value} (ha : xs.map a.eval = args) (hm : Mono (K f args))
    (h1 : ∀ w, le W w → Calls P f args w (fun e w' => ∃ v, e = .returned v ∧ le w w' ∧ K f args w' v)) (h2 : ∀ v, (∃ w, le W w ∧ K f args w v) → wpFree P ops W K Q rest (a.put o.dst v) (fun w => F w ∧ K f args w v)) : wpFree P ops W K Q (o :: rest) a F :=
  ⟨K f args, ⟨hm, .inl ⟨by simp [Region.wanted, hg], fun w hw => by rw [run_enter hop hf hb hn ha]; exact ⟨le_refl w, h1 w hw, fun _ _ h => h⟩⟩⟩, h2⟩

/-- A whole array is loaded. -/
theorem wpFree_loadA (hg : o.guard = none) {ty : TypeId} {x : Operand} (hop : o.op = .load ty x) {g : Nat} (hx : a.eval x = .pointer (some ⟨g, 0, none⟩)) {t : TypeId} {cs : Array Value} {n : Nat} {e : TypeId}
    (hr : Row W g t cs) (hu : P.underlying ty = some (.array n e)) (hi : (P.info? ty).map (·.size) = some cs.size)
    (h : wpFree P ops W K Q rest (a.put o.dst (.agg cs)) F) : wpFree P ops W K Q (o :: rest) a F := by
  refine wpFree_one hg (.agg cs) (fun w hw => ?_) h
  have := run_loadVar_row (P := P) w g t ty cs (0, 0) _ (hr.le hw) hu rfl hi
  simp [execOp, hop, hx, Instr.loadAt, Instr.sureAddr, this, Result.andThen]

/-- A new block, of a type whose zero is a known row. -/
theorem wpFree_alloc (hg : o.guard = none) {ty : TypeId} (hop : o.op = .alloc ty) (cs : Array Value)
    (hr : ∀ w, (Instr.alloc ty true (.tuple #[])).run P w = .ok (.pointer (some ⟨w.heap.size, 0, none⟩)) (w.alloc (.cells cs ty)))
    (h : ∀ b, W.heap.size ≤ b → wpFree P ops W K Q rest (a.put o.dst (.pointer (some ⟨b, 0, none⟩))) (fun w => F w ∧ ∃ b', Value.pointer (some ⟨b, 0, none⟩) = .pointer (some ⟨b', 0, none⟩) ∧ W.heap.size ≤ b' ∧ Row w b' ty cs)) : wpFree P ops W K Q (o :: rest) a F := by
  refine ⟨fun w v => ∃ b, v = .pointer (some ⟨b, 0, none⟩) ∧ W.heap.size ≤ b ∧ Row w b ty cs, ⟨fun v w w' hl h => ?_, .inl ⟨by simp [Region.wanted, hg], fun w hw => ?_⟩⟩, fun v hv => ?_⟩
  · obtain ⟨b, e, h1, h2⟩ := h; exact ⟨b, e, h1, h2.le hl⟩
  · simp [execOp, hop, hr, Result.andThen, inside]
    exact ⟨le_alloc w _, Below.size hw, Row.new w ty cs⟩
  · obtain ⟨w, _, b, rfl, hb, _⟩ := hv
    exact h b hb

/-- The walk serves a region that keeps the text's order, too. -/
theorem list_of_free {ops : Array Oper} {l2 : List Oper} {Q' : Exit → Act → World → Prop} : ∀ (l1 : List Oper) (a : Act) (F : World → Prop) (w : World), (∀ w w', le w w' → F w → F w') → le W w → F w →
    wpFree P ops W K (fun a' w' => wpList P ops Q' l2 a' w') l1 a F → wpList P ops Q' (l1 ++ l2) a w := by
  intro l1
  induction l1 with
  | nil => intro a F w _ hw hF h; exact h w hw hF
  | cons o l1 ih =>
    intro a F w hm hw hF h
    obtain ⟨V, hg, hn⟩ := h
    have next : ∀ v w', le w w' → V w' v → wpList P ops Q' (l1 ++ l2) (a.put o.dst v) w' := fun v w' hl hv =>
      ih _ _ _ (fun u u' hu hh => ⟨hm u u' hu hh.1, hg.1 v u u' hu hh.2⟩) (le_trans hw hl) ⟨hm w w' hl hF, hv⟩ (hn v ⟨w', le_trans hw hl, hv⟩)
    show wpList P ops Q' (o :: (l1 ++ l2)) a w
    unfold wpList
    rcases hg.2 with ⟨hwant, hv⟩ | ⟨hwant, hv⟩
    · rw [if_pos hwant]
      left
      have h3 := hv w hw
      unfold Oper.wp
      generalize (execOp a.eval o).run P w = r at h3
      cases r with
      | ok x w' =>
        cases x <;> simp only [inside] at h3 <;> simp only [Oper.upon]
        case value u => exact next u _ h3.1 h3.2
        case skip => exact next undef _ h3.1 h3.2
        case enter f args =>
          refine h3.2.1.mono fun e w'' he => ?_
          obtain ⟨v, rfl, hl, hk⟩ := he
          exact next v _ (le_trans h3.1 hl) (h3.2.2 w'' v hk)
      | halt x w' => simp only [inside] at h3
    · rw [if_neg (by simp [hwant])]
      exact next undef _ (le_refl w) (hv w hw)

theorem region_line (K : FuncId → Array Value → World → Value → Prop) {id : Nat} {Q' : Exit → Act → World → Prop} {a : Act} {w : World} {l : List Oper} (n : Nat)
    (h : wpFree P l.toArray (w.drewN 0) K (fun a' w' => wpList P l.toArray Q' (l.drop n) a' w') (l.take n) a (fun _ => True)) : (Code.region id l.toArray false).wp P Q' a w := by
  refine wp_region_lit ?_
  have := list_of_free (W := w.drewN 0) (l.take n) a _ w (fun _ _ _ h => h) (le_refl w) trivial h
  rwa [List.take_append_drop] at this
end
end Go.Fk

/- Parts of rows of cells: loads and stores of arrays and structs at an offset; a fresh block that is written whole. Nothing here names a program. -/
namespace Go.Fk
open Go Go.RowKit

/-- A row of which a part is written over. -/
def patch (cs : Array Value) (o : Nat) : List Value → Array Value
  | [] => cs
  | v :: r => patch (cs.setIfInBounds o v) (o + 1) r

/-- A world behind a store into block g, which holds a row thereafter. -/
structure Wrote (w w' : World) (g : Nat) (t : TypeId) (cs : Array Value) : Prop where
  row : Row w' g t cs
  other : ∀ g' t' cs', g' ≠ g → Row w g' t' cs' → Row w' g' t' cs'
  size : w'.heap.size = w.heap.size
  below : ∀ B a, Below B a w → B ≤ g → Below B a w'
  block : ∀ k, k ≠ g → w'.heap[k]? = w.heap[k]?

theorem wrote_setCells {g : Nat} {t : TypeId} : ∀ (vs : List Value) (o : Nat) (cs : Array Value) (w : World), Row w g t cs → Wrote w (w.setCells g o vs) g t (patch cs o vs)
  | [], _, _, _, h => ⟨h, fun _ _ _ _ h => h, rfl, fun _ _ h _ => h, fun _ _ => rfl⟩
  | v :: r, o, cs, w, h => by
    rw [World.setCells]
    have k := wrote_setCells r (o + 1) _ _ (h.set o v)
    refine ⟨k.row, fun g' t' cs' hne hr => k.other _ _ _ hne (hr.other ⟨g, o, none⟩ v hne), ?_, fun B a hb hg => k.below B a (hb.setCell hg v) hg, fun i hi => (k.block i hi).trans (Below.heap_setCell _ _ _ _ hi)⟩
    rw [k.size]; simp
theorem wrote_setRow {g : Nat} {t : TypeId} {w : World} {cs ds : Array Value} (h : Row w g t cs) : Wrote w (w.setRow g ds) g t ds :=
  ⟨h.setRow _, fun _ _ _ hne hr => hr.setRow_other hne _, by simp [World.setRow], fun _ _ hb hg => below_setRow hb hg _, fun i hi => by unfold World.setRow; rw [Array.getElem?_modify, if_neg (Ne.symm hi)]⟩

section
variable {P : Program} {w : World} {ops : Array Oper} {rest : List Oper} {o : Oper} {a : Act} {Q : Exit → Act → World → Prop}
/-- A whole array or struct is loaded. -/
theorem wpList_loadD (hg : o.guard = none) {ty : TypeId} {x : Operand} (hop : o.op = .load ty x) {g : Nat} (hx : a.eval x = .pointer (some ⟨g, 0, none⟩)) {t : TypeId} {cs : Array Value} {d : TypeDesc}
    (hr : Row w g t cs) (hu : P.underlying ty = some d) (hd : (match d with | .struct _ | .array _ _ => true | _ => false) = true) (hi : (P.info? ty).map (·.size) = some cs.size)
    (h : wpList P ops Q rest (a.put o.dst (.agg cs)) w) : wpList P ops Q (o :: rest) a w :=
  wpList_load_row hg ty x hop g hx t cs (0, 0) d hr hu hd hi h
theorem wpList_loadDn (hg : o.guard = none) {ty : TypeId} {x : Operand} (hop : o.op = .load ty x) {g : Nat} (hx : a.eval x = .pointer (some ⟨g, 0, none⟩)) {t : TypeId} {cs : Array Value} {d : TypeDesc}
    (hr : Row w g t cs) (hu : P.underlying ty = some d) (hd : (match d with | .struct _ | .array _ _ => true | _ => false) = true) {n : Nat} (hi : (P.info? ty).map (·.size) = some n) (hn : cs.size = n)
    (h : wpList P ops Q rest (a.put o.dst (.agg cs)) w) : wpList P ops Q (o :: rest) a w :=
  wpList_loadD hg hop hx hr hu hd (hn ▸ hi) h
/-- A part that is an array or a struct is loaded. -/
theorem wpList_loadP (hg : o.guard = none) {ty : TypeId} {x : Operand} (hop : o.op = .load ty x) {g f : Nat} (hx : a.eval x = .pointer (some ⟨g, f, none⟩)) {t : TypeId} {cs : Array Value} {d : TypeDesc}
    (hr : Row w g t cs) (hu : P.underlying ty = some d) (hd : d.isRow = true) (ds : List Value) (hc : ∀ j, j < ds.length → cs[f + j]? = ds[j]?) (hi : (P.info? ty).map (·.size) = some ds.length)
    (h : wpList P ops Q rest (a.put o.dst (.agg ds.toArray)) w) : wpList P ops Q (o :: rest) a w :=
  wpList_load_mid hg ty x hop g f hx ds d (fun j v hv => by rw [hr.cell?, hc j (List.getElem?_eq_some_iff.1 hv).1, hv]) hu hd hi h
/-- A whole array or struct is stored. -/
theorem wpList_storeD (hg : o.guard = none) {ty : TypeId} {x y : Operand} (hop : o.op = .store ty x y) {g : Nat} (hx : a.eval x = .pointer (some ⟨g, 0, none⟩)) {cells : Array Value} (hy : a.eval y = .agg cells) {t : TypeId} {old : Array Value}
    (hr : Row w g t old) (hi : (P.info? ty).map (·.size) = some cells.size) (ho : old.size = cells.size) (h1 : cells.all (·.oneCell') = true)
    (h : ∀ w', Wrote w w' g t cells → wpList P ops Q rest (a.put o.dst undef) w') : wpList P ops Q (o :: rest) a w :=
  wpList_plain hg fun _ hK => wp_store_row ty x y hop g cells hx hy t old hr hi ho h1 (hK _ _ (h _ (wrote_setRow hr)))
/-- A part is stored. -/
theorem wpList_storeP (hg : o.guard = none) {ty : TypeId} {x y : Operand} (hop : o.op = .store ty x y) {g f : Nat} (hx : a.eval x = .pointer (some ⟨g, f, none⟩)) {cells : List Value} (hy : a.eval y = .agg cells.toArray) {t : TypeId} {old : Array Value}
    (hr : Row w g t old) (hi : (P.info? ty).map (·.size) = some cells.length) (ho : f + cells.length ≤ old.size) (h1 : cells.toArray.all (·.oneCell') = true)
    (h : ∀ w', Wrote w w' g t (patch old f cells) → wpList P ops Q rest (a.put o.dst undef) w') : wpList P ops Q (o :: rest) a w := by
  refine wpList_store_mid hg ty x y hop g f cells.toArray hx hy (fun j hj => ?_) (by simpa using hi) h1 ?_
  · have hj' : f + j < old.size := by simp at hj; omega
    refine ⟨?_, hr.frozen _⟩
    rw [hr.cell?, Array.getElem?_eq_getElem hj']; rfl
  · have := h _ (wrote_setCells (cells.toArray.toList) f old w hr)
    simpa using this
/-- A fresh block is written whole. -/
theorem wpList_storeN {w1 : World} {t : TypeId} {old : Array Value} (hw : w = w1.alloc (.cells old t)) (hg : o.guard = none) {ty : TypeId} {x y : Operand} (hop : o.op = .store ty x y) (hx : a.eval x = .pointer (some ⟨w1.heap.size, 0, none⟩)) {cells : Array Value} (hy : a.eval y = .agg cells)
    (hi : (P.info? ty).map (·.size) = some cells.size) (ho : old.size = cells.size) (h1 : cells.all (·.oneCell') = true)
    (h : ∀ w', Row w' w1.heap.size t cells → le w1 w' → w'.heap.size = w1.heap.size + 1 → wpList P ops Q rest (a.put o.dst undef) w') : wpList P ops Q (o :: rest) a w := by
  subst hw
  refine wpList_storeD hg hop hx hy (Row.new w1 t old) hi ho h1 (fun w' hw => h w' hw.row (hw.below _ _ (le_alloc w1 _) (Nat.le_refl _)) ?_)
  rw [hw.size]; simp

/-- To stop a walk at a store. -/
theorem stop_store {ty : TypeId} {x y : Operand} (_ : o.op = .store ty x y) (h : Hid (wpList P ops Q (o :: rest) a w)) : wpList P ops Q (o :: rest) a w := h
/-- Of six cells those of three. -/
theorem wpList_load3 (hg : o.guard = none) {ty : TypeId} {x : Operand} (hop : o.op = .load ty x) {g : Nat} (hx : a.eval x = .pointer (some ⟨g, 1, none⟩)) {t : TypeId} {v0 v1 v2 v3 v4 v5 : Value} {d : TypeDesc}
    (hr : Row w g t #[v0, v1, v2, v3, v4, v5]) (hu : P.underlying ty = some d) (hd : d.isRow = true) (hi : (P.info? ty).map (·.size) = some 3)
    (h : wpList P ops Q rest (a.put o.dst (.agg #[v1, v2, v3])) w) : wpList P ops Q (o :: rest) a w :=
  wpList_loadP hg hop hx hr hu hd [v1, v2, v3] (fun j hj => by match j, hj with | 0, _ => rfl | 1, _ => rfl | 2, _ => rfl) hi h
/-- Of six cells the last two. -/
theorem wpList_load2 (hg : o.guard = none) {ty : TypeId} {x : Operand} (hop : o.op = .load ty x) {g : Nat} (hx : a.eval x = .pointer (some ⟨g, 4, none⟩)) {t : TypeId} {v0 v1 v2 v3 v4 v5 : Value} {d : TypeDesc}
    (hr : Row w g t #[v0, v1, v2, v3, v4, v5]) (hu : P.underlying ty = some d) (hd : d.isRow = true) (hi : (P.info? ty).map (·.size) = some 2)
    (h : wpList P ops Q rest (a.put o.dst (.agg #[v4, v5])) w) : wpList P ops Q (o :: rest) a w :=
  wpList_loadP hg hop hx hr hu hd [v4, v5] (fun j hj => by match j, hj with | 0, _ => rfl | 1, _ => rfl) hi h
theorem wpList_store3 (hg : o.guard = none) {ty : TypeId} {x y : Operand} (hop : o.op = .store ty x y) {g : Nat} (hx : a.eval x = .pointer (some ⟨g, 1, none⟩)) {u1 u2 u3 : Value} (hy : a.eval y = .agg #[u1, u2, u3]) {t : TypeId} {v0 v1 v2 v3 v4 v5 : Value}
    (hr : Row w g t #[v0, v1, v2, v3, v4, v5]) (hi : (P.info? ty).map (·.size) = some 3) (h1 : (#[u1, u2, u3]).all (·.oneCell') = true)
    (h : ∀ w', Wrote w w' g t #[v0, u1, u2, u3, v4, v5] → wpList P ops Q rest (a.put o.dst undef) w') : wpList P ops Q (o :: rest) a w :=
  wpList_storeP (cells := [u1, u2, u3]) hg hop hx hy hr hi (by simp) h1 h
theorem wpList_store2 (hg : o.guard = none) {ty : TypeId} {x y : Operand} (hop : o.op = .store ty x y) {g : Nat} (hx : a.eval x = .pointer (some ⟨g, 4, none⟩)) {u1 u2 : Value} (hy : a.eval y = .agg #[u1, u2]) {t : TypeId} {v0 v1 v2 v3 v4 v5 : Value}
    (hr : Row w g t #[v0, v1, v2, v3, v4, v5]) (hi : (P.info? ty).map (·.size) = some 2) (h1 : (#[u1, u2]).all (·.oneCell') = true)
    (h : ∀ w', Wrote w w' g t #[v0, v1, v2, v3, u1, u2] → wpList P ops Q rest (a.put o.dst undef) w') : wpList P ops Q (o :: rest) a w :=
  wpList_storeP (cells := [u1, u2]) hg hop hx hy hr hi (by simp) h1 h
/-- Results of which the first is a struct that lies in memory. -/
theorem results_row1 {fn : Func} {p : Tmp} {ty : TypeId} (h : fn.results = #[.cell p ty]) (tmps : Array Value) (w : World) (g : Nat) (t : TypeId) (cs : Array Value) {d : TypeDesc}
    (hp : tmps.getD p undef = .pointer (some ⟨g, 0, none⟩)) (hg : Row w g t cs) (hu : P.underlying ty = some d) (hd : (match d with | .struct _ | .array _ _ => true | _ => false) = true) (hi : (P.info? ty).map (·.size) = some cs.size) :
    (results fn tmps).run P w = .ok (.agg cs) w := results_cell_row h tmps w g t cs (0, 0) d hp hg hu hd hi
theorem results_row2 {fn : Func} {p u : Tmp} {ty : TypeId} (h : fn.results = #[.cell p ty, .tmp u]) (tmps : Array Value) (w : World) (g : Nat) (t : TypeId) (cs : Array Value) {d : TypeDesc}
    (hp : tmps.getD p undef = .pointer (some ⟨g, 0, none⟩)) (hg : Row w g t cs) (hu : P.underlying ty = some d) (hd : (match d with | .struct _ | .array _ _ => true | _ => false) = true) (hi : (P.info? ty).map (·.size) = some cs.size) :
    (results fn tmps).run P w = .ok (.tuple #[.agg cs, tmps.getD u undef]) w := by
  have hp' : tmps[p]?.getD undef = .pointer (some ⟨g, 0, none⟩) := by simpa using hp
  simp [results, h, hp', asAddr, run_loadVar_row w g t ty cs (0, 0) _ hg hu hd hi]
theorem results_cct {fn : Func} {p q u : Tmp} {ty ty' : TypeId} (h : fn.results = #[.cell p ty, .cell q ty', .tmp u]) (tmps : Array Value) (w : World) (g g' : Nat) (t t' : TypeId) (cs cs' : Array Value) {d d' : TypeDesc}
    (hp : tmps.getD p undef = .pointer (some ⟨g, 0, none⟩)) (hg : Row w g t cs) (hu : P.underlying ty = some d) (hd : (match d with | .struct _ | .array _ _ => true | _ => false) = true) (hi : (P.info? ty).map (·.size) = some cs.size)
    (hp' : tmps.getD q undef = .pointer (some ⟨g', 0, none⟩)) (hg' : Row w g' t' cs') (hu' : P.underlying ty' = some d') (hd' : (match d' with | .struct _ | .array _ _ => true | _ => false) = true) (hi' : (P.info? ty').map (·.size) = some cs'.size) :
    (results fn tmps).run P w = .ok (.tuple #[.agg cs, .agg cs', tmps.getD u undef]) w := by
  have hq : tmps[p]?.getD undef = .pointer (some ⟨g, 0, none⟩) := by simpa using hp
  have hq' : tmps[q]?.getD undef = .pointer (some ⟨g', 0, none⟩) := by simpa using hp'
  simp [results, h, hq, hq', asAddr, run_loadVar_row w g t ty cs (0, 0) _ hg hu hd hi, run_loadVar_row w g' t' ty' cs' (0, 0) _ hg' hu' hd' hi']
theorem results_row2r {fn : Func} {p u : Tmp} {ty : TypeId} (h : fn.results = #[.tmp u, .cell p ty]) (tmps : Array Value) (w : World) (g : Nat) (t : TypeId) (cs : Array Value) {d : TypeDesc}
    (hp : tmps.getD p undef = .pointer (some ⟨g, 0, none⟩)) (hg : Row w g t cs) (hu : P.underlying ty = some d) (hd : (match d with | .struct _ | .array _ _ => true | _ => false) = true) (hi : (P.info? ty).map (·.size) = some cs.size) :
    (results fn tmps).run P w = .ok (.tuple #[tmps.getD u undef, .agg cs]) w := by
  have hp' : tmps[p]?.getD undef = .pointer (some ⟨g, 0, none⟩) := by simpa using hp
  simp [results, h, hp', asAddr, run_loadVar_row w g t ty cs (0, 0) _ hg hu hd hi]
theorem results_row3 {fn : Func} {p u v : Tmp} {ty : TypeId} (h : fn.results = #[.cell p ty, .tmp u, .tmp v]) (tmps : Array Value) (w : World) (g : Nat) (t : TypeId) (cs : Array Value) {d : TypeDesc}
    (hp : tmps.getD p undef = .pointer (some ⟨g, 0, none⟩)) (hg : Row w g t cs) (hu : P.underlying ty = some d) (hd : (match d with | .struct _ | .array _ _ => true | _ => false) = true) (hi : (P.info? ty).map (·.size) = some cs.size) :
    (results fn tmps).run P w = .ok (.tuple #[.agg cs, tmps.getD u undef, tmps.getD v undef]) w := by
  have hp' : tmps[p]?.getD undef = .pointer (some ⟨g, 0, none⟩) := by simpa using hp
  simp [results, h, hp', asAddr, run_loadVar_row w g t ty cs (0, 0) _ hg hu hd hi]
end
end Go.Fk

/- What a walk of a law knows of memory, in one hypothesis: nothing that was there has turned, and some blocks hold known rows. Nothing here names a program. -/
namespace Go.Fk
open Go Go.RowKit

/-- Nothing that 'w0' holds has turned; the blocks of the list hold these rows. -/
structure Frm (w0 w : World) (L : List (Nat × TypeId × Array Value)) : Prop where
  below : le w0 w
  rows : ∀ x ∈ L, Row w x.1 x.2.1 x.2.2

namespace Frm
variable {w0 w w' : World} {L : List (Nat × TypeId × Array Value)}
theorem nil (w : World) : Frm w w [] := ⟨le_refl w, by simp⟩
theorem one {g : Nat} {t : TypeId} {cs : Array Value} (h : Row w g t cs) : Frm w w [(g, t, cs)] := ⟨le_refl w, fun x hx => by rcases List.mem_cons.1 hx with rfl | hx; exact h; cases hx⟩
theorem le (h : Frm w0 w L) (k : Below w.heap.size w w') : Frm w0 w' L := ⟨le_trans h.below k, fun x hx => (h.rows x hx).le k⟩
theorem drewN (h : Frm w0 w L) (n : Nat) : Frm w0 (w.drewN n) L := h.le (le_drewN w n)
theorem alloc (h : Frm w0 w L) (o : Obj) : Frm w0 (w.alloc o) L := h.le (le_alloc w o)
theorem row (h : Frm w0 w L) {g : Nat} {t : TypeId} {cs : Array Value} (hm : (g, t, cs) ∈ L) : Row w g t cs := h.rows _ hm
theorem box (h : Frm w0 w L) (t : TypeId) (cs : Array Value) : Frm w0 (w.alloc (.cells cs t)) ((w.heap.size, t, cs) :: L) := by
  refine ⟨(h.alloc _).below, fun x hx => ?_⟩
  rcases List.mem_cons.1 hx with rfl | hx
  · exact Row.new w t cs
  · exact (h.alloc _).rows x hx
theorem push (h : Frm w0 w L) {g : Nat} {t : TypeId} {cs : Array Value} (hr : Row w' g t cs) (hl : Fk.le w w') : Frm w0 w' ((g, t, cs) :: L) := by
  refine ⟨le_trans h.below hl, fun x hx => ?_⟩
  rcases List.mem_cons.1 hx with rfl | hx
  · exact hr
  · exact (h.rows x hx).le hl
theorem both (h : Frm w0 w L) {g g' B : Nat} {t t' : TypeId} {cs cs' : Array Value} (hr : Row w g t cs) (hr' : Row w g' t' cs') (_ : B ≤ g) (_ : B ≤ g') (_ : w0.heap.size ≤ B) : Frm w0 w ((g', t', cs') :: (g, t, cs) :: L) := by
  refine ⟨h.below, fun x hx => ?_⟩
  rcases List.mem_cons.1 hx with rfl | hx
  · exact hr'
  rcases List.mem_cons.1 hx with rfl | hx
  · exact hr
  · exact h.rows x hx
theorem sub {L' : List (Nat × TypeId × Array Value)} (h : Frm w0 w L) (hs : ∀ x ∈ L', x ∈ L) : Frm w0 w L' := ⟨h.below, fun x hx => h.rows x (hs x hx)⟩
theorem size (h : Frm w0 w L) : w0.heap.size ≤ w.heap.size := h.below.size
theorem lt (h : Frm w0 w L) {g : Nat} {t : TypeId} {cs : Array Value} (hm : (g, t, cs) ∈ L) : g < w.heap.size := (h.row hm).lt
end Frm

namespace Frm
variable {w0 w w' : World} {L : List (Nat × TypeId × Array Value)}
theorem fresh (h : Frm w0 w L) {b : Nat} (hb : w.heap.size ≤ b) : ∀ x ∈ L, x.1 ≠ b := fun x hx => Nat.ne_of_lt (Nat.lt_of_lt_of_le (h.rows x hx).lt hb)
theorem setc (h : Frm w0 w L) {g : Nat} {t : TypeId} {cs : Array Value} (hm : (g, t, cs) ∈ L) (i : Nat) (v : Value) (hg : w0.heap.size ≤ g) {L' : List (Nat × TypeId × Array Value)} (hs : ∀ x ∈ L', x ∈ L ∧ x.1 ≠ g) : Frm w0 (w.setCell ⟨g, i, none⟩ v) ((g, t, cs.setIfInBounds i v) :: L') := by
  refine ⟨Below.setCell h.below hg _, fun x hx => ?_⟩
  rcases List.mem_cons.1 hx with rfl | hx
  · exact (h.row hm).set i v
  · exact (h.rows x (hs x hx).1).other _ _ (hs x hx).2
theorem wrote (h : Frm w0 w L) {g : Nat} {t : TypeId} {cs : Array Value} (k : Wrote w w' g t cs) (hg : w0.heap.size ≤ g) {L' : List (Nat × TypeId × Array Value)} (hs : ∀ x ∈ L', x ∈ L ∧ x.1 ≠ g) : Frm w0 w' ((g, t, cs) :: L') := by
  refine ⟨k.below _ _ h.below hg, fun x hx => ?_⟩
  rcases List.mem_cons.1 hx with rfl | hx
  · exact k.row
  · exact k.other _ _ _ (hs x hx).2 (h.rows x (hs x hx).1)
end Frm
/-- Of what was there, block g alone may have turned. -/
structure Upd (g : Nat) (w w' : World) : Prop where
  os : w'.os = w.os
  tape : w'.tape = w.tape
  output : w'.output = w.output
  size : w.heap.size ≤ w'.heap.size
  block : ∀ k, k < w.heap.size → k ≠ g → w'.heap[k]? = w.heap[k]?
namespace Upd
variable {g : Nat} {w w' w'' : World}
theorem refl (g : Nat) (w : World) : Upd g w w := ⟨rfl, rfl, rfl, Nat.le_refl _, fun _ _ _ => rfl⟩
theorem trans (h : Upd g w w') (k : Upd g w' w'') : Upd g w w'' :=
  ⟨k.os.trans h.os, k.tape.trans h.tape, k.output.trans h.output, Nat.le_trans h.size k.size, fun i hi hn => (k.block i (Nat.lt_of_lt_of_le hi h.size) hn).trans (h.block i hi hn)⟩
theorem le (h : Upd g w w') (k : Fk.le w' w'') : Upd g w w'' :=
  ⟨k.os.trans h.os, k.tape.trans h.tape, k.output.trans h.output, Nat.le_trans h.size k.size, fun i hi hn => (k.block i (Nat.lt_of_lt_of_le hi h.size)).trans (h.block i hi hn)⟩
theorem of_le (k : Fk.le w w') : Upd g w w' := (refl g w).le k
theorem setCell (h : Upd g w w') {a : Addr} (ha : a.block = g) (v : Value) : Upd g w (w'.setCell a v) :=
  ⟨h.os, h.tape, h.output, by simpa using h.size, fun i hi hn => (Below.heap_setCell _ _ _ _ (by rw [ha]; exact hn)).trans (h.block i hi hn)⟩
theorem setCellNew (h : Upd g w w') {a : Addr} (ha : w.heap.size ≤ a.block) (v : Value) : Upd g w (w'.setCell a v) :=
  ⟨h.os, h.tape, h.output, by simpa using h.size, fun i hi hn => (Below.heap_setCell _ _ _ _ (by omega)).trans (h.block i hi hn)⟩
theorem wrote {g' : Nat} {t : TypeId} {cs : Array Value} (h : Upd g w w') (k : Wrote w' w'' g' t cs) (hg : w.heap.size ≤ g') : Upd g w w'' := by
  have kb := k.below w.heap.size w'
  have := k.below _ _ (Below.refl w.heap.size w') hg
  exact ⟨this.os.trans h.os, this.tape.trans h.tape, this.output.trans h.output, Nat.le_trans h.size this.size, fun i hi hn => (this.block i hi).trans (h.block i hi hn)⟩
theorem setRow (h : Upd g w w') (cs : Array Value) : Upd g w (w'.setRow g cs) :=
  ⟨h.os, h.tape, h.output, by simpa [World.setRow] using h.size, fun i hi hn => by
    rw [← h.block i hi hn]
    unfold World.setRow
    rw [Array.getElem?_modify, if_neg (Ne.symm hn)]⟩
theorem below (h : Upd g w w') {B : Nat} (hB : B ≤ g) (hw : B ≤ w.heap.size) : Below B w w' :=
  ⟨h.os, h.tape, h.output, h.size, fun k hk => h.block k (by omega) (by omega)⟩
theorem row (h : Upd g w w') {g' : Nat} {t : TypeId} {cs : Array Value} (hr : Row w g' t cs) (hn : g' ≠ g) : Row w' g' t cs := by
  have := h.block g' hr.lt hn
  unfold Row at *
  rw [this]; exact hr
end Upd

namespace Frm
variable {w0 w w' : World} {L : List (Nat × TypeId × Array Value)}
theorem upd (h : Frm w0 w L) {g : Nat} {t : TypeId} {cs : Array Value} (hr : Row w' g t cs) (k : Upd g w w') (hg : w0.heap.size ≤ g) {L' : List (Nat × TypeId × Array Value)} (hs : ∀ x ∈ L', x ∈ L ∧ x.1 ≠ g) : Frm w0 w' ((g, t, cs) :: L') := by
  refine ⟨h.below.trans (k.below hg h.size), fun x hx => ?_⟩
  rcases List.mem_cons.1 hx with rfl | hx
  · exact hr
  · exact k.row (h.rows x (hs x hx).1) (hs x hx).2
end Frm

section
variable {P : Program} {w : World} {ops : Array Oper} {rest : List Oper} {o : Oper} {a : Act} {Q : Exit → Act → World → Prop}
/-- To see that a walk stands at a load, at a conversion. -/
theorem at_load {ty : TypeId} {x : Operand} (_ : o.op = .load ty x) (h : wpList P ops Q (o :: rest) a w) : wpList P ops Q (o :: rest) a w := h
theorem at_convert {src dst : TypeId} {x : Operand} (_ : o.op = .convert src dst x) (h : wpList P ops Q (o :: rest) a w) : wpList P ops Q (o :: rest) a w := h
/-- A part of a block is loaded. -/
theorem wpList_loadPartFr {w0 : World} {L : List (Nat × TypeId × Array Value)} (hF : Frm w0 w L) (ds : List Value) (hg : o.guard = none) {ty : TypeId} {x : Operand} (hop : o.op = .load ty x) {g f : Nat} (hx : a.eval x = .pointer (some ⟨g, f, none⟩)) {t : TypeId} {cs : Array Value} {d : TypeDesc}
    (hm : (g, t, cs) ∈ L) (hu : P.underlying ty = some d) (hd : d.isRow = true) (hc : ∀ j, j < ds.length → cs[f + j]? = ds[j]?) {n : Nat} (hi : (P.info? ty).map (·.size) = some n) (hn : ds.length = n)
    (h : wpList P ops Q rest (a.put o.dst (.agg ds.toArray)) w) : wpList P ops Q (o :: rest) a w :=
  wpList_loadP hg hop hx (hF.row hm) hu hd ds hc (hn ▸ hi) h
/-- A whole block is loaded. -/
theorem wpList_loadFr {w0 : World} {L : List (Nat × TypeId × Array Value)} (hF : Frm w0 w L) (hg : o.guard = none) {ty : TypeId} {x : Operand} (hop : o.op = .load ty x) {g : Nat} (hx : a.eval x = .pointer (some ⟨g, 0, none⟩)) {t : TypeId} {cs : Array Value} {d : TypeDesc}
    (hm : (g, t, cs) ∈ L) (hu : P.underlying ty = some d) (hd : (match d with | .struct _ | .array _ _ => true | _ => false) = true) {n : Nat} (hi : (P.info? ty).map (·.size) = some n) (hn : cs.size = n)
    (h : wpList P ops Q rest (a.put o.dst (.agg cs)) w) : wpList P ops Q (o :: rest) a w :=
  wpList_loadD hg hop hx (hF.row hm) hu hd (hn ▸ hi) h
/-- The same where the operation is guarded, and wanted. -/
theorem wpList_loadFrG {w0 : World} {L : List (Nat × TypeId × Array Value)} (hF : Frm w0 w L) {ty : TypeId} {x : Operand} (hop : o.op = .load ty x) {g : Nat} (hx : a.eval x = .pointer (some ⟨g, 0, none⟩)) {t : TypeId} {cs : Array Value} {d : TypeDesc}
    (hm : (g, t, cs) ∈ L) (hu : P.underlying ty = some d) (hd : (match d with | .struct _ | .array _ _ => true | _ => false) = true) {n : Nat} (hi : (P.info? ty).map (·.size) = some n) (hn : cs.size = n) (hw : Region.wanted o (yielded ops a.tmps) = true)
    (h : wpList P ops Q rest (a.put o.dst (.agg cs)) w) : wpList P ops Q (o :: rest) a w :=
  wpList_step fun K hK => by
    simp only [hw, if_true]
    exact wp_load_row ty x hop g hx t cs (0, 0) d (hF.row hm) hu hd (hn ▸ hi) (hK _ _ h)
/-- A fresh block is written whole. -/
theorem wpList_storeFr {w0 w1 : World} {L : List (Nat × TypeId × Array Value)} {t : TypeId} {old : Array Value} (hF : Frm w0 w1 L) (hw : w = w1.alloc (.cells old t)) (hg : o.guard = none) {ty : TypeId} {x y : Operand} (hop : o.op = .store ty x y) (hx : a.eval x = .pointer (some ⟨w1.heap.size, 0, none⟩)) {cells : Array Value} (hy : a.eval y = .agg cells)
    (hi : (P.info? ty).map (·.size) = some cells.size) (ho : old.size = cells.size) (h1 : cells.all (·.oneCell') = true)
    (h : ∀ w', Frm w0 w' ((w1.heap.size, t, cells) :: L) → wpList P ops Q rest (a.put o.dst undef) w') : wpList P ops Q (o :: rest) a w :=
  wpList_storeN hw hg hop hx hy hi ho h1 (fun w' hr hl _ => h w' (hF.push hr hl))
end

section
variable {P : Program} {ops : Array Oper} {W : World} {K : FuncId → Array Value → World → Value → Prop} {Q : Act → World → Prop} {F : World → Prop} {o : Oper} {rest : List Oper} {a : Act}
/-- The same in a region that draws its order. -/
theorem wpFree_loadFr {w0 : World} {L : List (Nat × TypeId × Array Value)} {n : Nat} {w1 : World} (hF : Frm w0 w1 L) (hW : W = w1.drewN n) (hg : o.guard = none) {ty : TypeId} {x : Operand} (hop : o.op = .load ty x) {g : Nat} (hx : a.eval x = .pointer (some ⟨g, 0, none⟩)) {t : TypeId} {cs : Array Value} {d : TypeDesc}
    (hm : (g, t, cs) ∈ L) (hu : P.underlying ty = some d) (hd : (match d with | .struct _ | .array _ _ => true | _ => false) = true) {m : Nat} (hi : (P.info? ty).map (·.size) = some m) (hn : cs.size = m)
    (h : wpFree P ops W K Q rest (a.put o.dst (.agg cs)) F) : wpFree P ops W K Q (o :: rest) a F := by
  subst hW hn
  refine wpFree_one hg (.agg cs) (fun w hw => ?_) h
  have := run_loadVar_row (P := P) w g t ty cs (0, 0) _ (((hF.row hm).drewN n).le hw) hu hd hi
  simp [execOp, hop, hx, Instr.loadAt, Instr.sureAddr, this, Result.andThen]
/-- A part is loaded. -/
theorem wpFree_loadPart {w0 : World} {L : List (Nat × TypeId × Array Value)} {n : Nat} {w1 : World} (hF : Frm w0 w1 L) (hW : W = w1.drewN n) (hg : o.guard = none) {ty : TypeId} {x : Operand} (hop : o.op = .load ty x) {g f : Nat} (hx : a.eval x = .pointer (some ⟨g, f, none⟩)) {t : TypeId} {cs : Array Value} {d : TypeDesc}
    (hm : (g, t, cs) ∈ L) (hu : P.underlying ty = some d) (hd : d.isRow = true) (ds : List Value) (hc : ∀ j, j < ds.length → cs[f + j]? = ds[j]?) (hi : (P.info? ty).map (·.size) = some ds.length)
    (h : wpFree P ops W K Q rest (a.put o.dst (.agg ds.toArray)) F) : wpFree P ops W K Q (o :: rest) a F := by
  subst hW
  refine wpFree_one hg (.agg ds.toArray) (fun w hw => ?_) h
  have hr := ((hF.row hm).drewN n).le hw
  have := run_loadVar_mid (P := P) w g f ty ds d (fun j v hv => by rw [hr.cell?, hc j (List.getElem?_eq_some_iff.1 hv).1, hv]) hu hd hi
  simp [execOp, hop, hx, Instr.loadAt, Instr.sureAddr, this, Result.andThen]
/-- A float is loaded. -/
theorem wpFree_loadF {w0 : World} {L : List (Nat × TypeId × Array Value)} {n : Nat} {w1 : World} (hF : Frm w0 w1 L) (hW : W = w1.drewN n) (hg : o.guard = none) {ty : TypeId} {x : Operand} (hop : o.op = .load ty x) {g f : Nat} (hx : a.eval x = .pointer (some ⟨g, f, none⟩)) {t : TypeId} {cs : Array Value} {k : FloatKind} {v : Nat}
    (hm : (g, t, cs) ∈ L) (hv : cs[f]? = some (.float k v)) (hu : P.underlying ty = some (.float k))
    (h : wpFree P ops W K Q rest (a.put o.dst (.float k v)) F) : wpFree P ops W K Q (o :: rest) a F := by
  subst hW
  refine wpFree_one hg (.float k v) (fun w hw => ?_) h
  have hrow := ((hF.row hm).drewN n).le hw
  have hc : w.cell? ⟨g, f, none⟩ = some (.float k v) := by rw [hrow.cell?, hv]
  have hl : (Instr.loadAt ty (.pointer (some ⟨g, f, none⟩))).run P w = .ok (.float k v) w := by
    simp [Instr.loadAt, Instr.sureAddr, loadVar, isAgg, run_underlying hu, hc]
  simp [execOp, hop, hx, hl, Result.andThen]
/-- + - * / on floats. -/
theorem wpFree_farith (hg : o.guard = none) {op : BinOp} {t t' : TypeId} {x y : Operand} (hop : o.op = Op.binOp op t x y t') (ho : arith op = true)
    {k : FloatKind} {p q : Nat} (hx : a.eval x = .float k p) (hy : a.eval y = .float k q)
    (h : ∀ r, Hid (can k r = fop op k p q) → Hid (fits k r) → wpFree P ops W K Q rest (a.put o.dst (.float k r)) F) : wpFree P ops W K Q (o :: rest) a F := by
  refine wpFree_some hg (fun v => ∃ r, v = .float k r ∧ can k r = fop op k p q ∧ fits k r) (fun w _ => ?_) ?_
  · obtain ⟨r, n, hrun, hr, hf⟩ := run_farith (P := P) w op ho t k p q
    have he := eqGuard_float (P := P) w op t x y k k p q
    refine ⟨.float k r, n, ?_, r, rfl, hr, hf⟩
    simp [execOp, hop, hx, hy, he, hrun, Result.andThen]
  · rintro v ⟨r, rfl, h1, h2⟩
    exact h r h1 h2
/-- A value of one cell is loaded. -/
theorem wpFree_loadV {w0 : World} {L : List (Nat × TypeId × Array Value)} {n : Nat} {w1 : World} (hF : Frm w0 w1 L) (hW : W = w1.drewN n) (hg : o.guard = none) {ty : TypeId} {x : Operand} (hop : o.op = .load ty x) {g f : Nat} (hx : a.eval x = .pointer (some ⟨g, f, none⟩)) {t : TypeId} {cs : Array Value} {v : Value}
    (hm : (g, t, cs) ∈ L) (hv : cs[f]? = some v) (hu : ∀ w, (isAgg ty).run P w = .ok false w)
    (h : wpFree P ops W K Q rest (a.put o.dst v) F) : wpFree P ops W K Q (o :: rest) a F := by
  subst hW
  refine wpFree_one hg v (fun w hw => ?_) h
  have hrow := ((hF.row hm).drewN n).le hw
  have hc : w.cell? ⟨g, f, none⟩ = some v := by rw [hrow.cell?, hv]
  have hl : (Instr.loadAt ty (.pointer (some ⟨g, f, none⟩))).run P w = .ok v w := by
    simp [Instr.loadAt, Instr.sureAddr, loadVar, hu, hc]
  simp [execOp, hop, hx, hl, Result.andThen]
/-- A call that is resolved as it runs. -/
theorem wpFree_callR (hg : o.guard = none) (f : FuncId) (args : Array Value) (hrun : ∀ w, (execOp a.eval o).run P w = .ok (.enter f args) w) (hm : Mono (K f args))
    (h1 : ∀ w, le W w → Calls P f args w (fun e w' => ∃ v, e = .returned v ∧ le w w' ∧ K f args w' v)) (h2 : ∀ v, (∃ w, le W w ∧ K f args w v) → wpFree P ops W K Q rest (a.put o.dst v) (fun w => F w ∧ K f args w v)) : wpFree P ops W K Q (o :: rest) a F :=
  ⟨K f args, ⟨hm, .inl ⟨by simp [Region.wanted, hg], fun w hw => by rw [hrun]; exact ⟨le_refl w, h1 w hw, fun _ _ h => h⟩⟩⟩, h2⟩
/-- A value is boxed. -/
theorem wpFree_box (hg : o.guard = none) {ty : TypeId} {x : Operand} (hop : o.op = .box ty x) (cs : Array Value)
    (hr : ∀ w, (Instr.box ty (a.eval x)).run P w = .ok (.pointer (some ⟨w.heap.size, 0, none⟩)) (w.alloc (.cells cs ty)))
    (h : ∀ b, W.heap.size ≤ b → wpFree P ops W K Q rest (a.put o.dst (.pointer (some ⟨b, 0, none⟩))) (fun w => F w ∧ ∃ b', Value.pointer (some ⟨b, 0, none⟩) = .pointer (some ⟨b', 0, none⟩) ∧ W.heap.size ≤ b' ∧ Row w b' ty cs)) : wpFree P ops W K Q (o :: rest) a F := by
  refine ⟨fun w v => ∃ b, v = .pointer (some ⟨b, 0, none⟩) ∧ W.heap.size ≤ b ∧ Row w b ty cs, ⟨fun v w w' hl h => ?_, .inl ⟨by simp [Region.wanted, hg], fun w hw => ?_⟩⟩, fun v hv => ?_⟩
  · obtain ⟨b, e, h1, h2⟩ := h; exact ⟨b, e, h1, h2.le hl⟩
  · simp [execOp, hop, hr, Result.andThen, inside]
    exact ⟨le_alloc w _, Below.size hw, Row.new w ty cs⟩
  · obtain ⟨w, _, b, rfl, hb, _⟩ := hv
    exact h b hb
end
end Go.Fk

/- As Free, but the operations of the region may write into some blocks: the order of worlds is a parameter. Nothing here names a program. -/
namespace Go.Fk
open Go Go.RowKit

/-- An order of worlds: what the operations of a region may turn. -/
structure Ext where
  R : World → World → Prop
  refl : ∀ w, R w w
  trans : ∀ {a b c : World}, R a b → R b c → R a c
  of_le : ∀ {a b : World}, le a b → R a b
theorem Ext.drewN (E : Ext) (w : World) (n : Nat) : E.R w (w.drewN n) := E.of_le (le_drewN w n)

section
variable (E : Ext) (P : Program) (ops : Array Oper) (md : Region.Mode) (W : World) (K : FuncId → Array Value → World → Value → Prop)

/-- What an operation's run in w must be, for its value to be one of V. -/
def insideT (w : World) (V : World → Value → Prop) : Result Next → Prop
  | .ok (.value u) w' => E.R w w' ∧ V w' u
  | .ok .skip w' => E.R w w' ∧ V w' undef
  | .ok (.enter f args) w' => E.R w w' ∧ Calls P f args w' (fun e w'' => ∃ v, e = .returned v ∧ E.R w' w'' ∧ K f args w'' v) ∧ ∀ w'' v, K f args w'' v → V w'' v
  | _ => False

def MonoT (V : World → Value → Prop) : Prop := ∀ v w w', E.R w w' → V w v → V w' v

def YieldsT (o : Oper) (a : Act) (V : World → Value → Prop) : Prop :=
  MonoT E V ∧ ((Region.wanted o (yielded ops a.tmps) = true ∧ ∀ w, E.R W w → insideT E P K w V ((execOp a.eval o).run P w)) ∨ (Region.wanted o (yielded ops a.tmps) = false ∧ ∀ w, E.R W w → V w undef))

/-- The walk in the order of the text; what is known of the world is gathered. -/
def wpFreeT (Q : Act → World → Prop) : List Oper → Act → (World → Prop) → Prop
  | [], a, F => ∀ w, E.R W w → F w → Q a w
  | o :: rest, a, F => ∃ V, YieldsT E P ops W K o a V ∧ ∀ v, (∃ w, E.R W w ∧ V w v) → wpFreeT Q rest (a.put o.dst v) (fun w => F w ∧ V w v)

/-- Whatever order is picked of the first n operations; then L. -/
def anyFreeT (n : Nat) (L : Array Bool → Act → (World → Prop) → Prop) : Nat → Array Bool → Act → (World → Prop) → Prop
  | 0, listed, a, F => L listed a F
  | f + 1, listed, a, F => Region.ready md ops listed ≠ [] ∧
      ∀ i ∈ Region.ready md ops listed, i < n ∧ ∀ o, ops[i]? = some o → ∃ V, YieldsT E P ops W K o a V ∧ ∀ v, (∃ w, E.R W w ∧ V w v) → anyFreeT n L f (listed.setIfInBounds i true) (a.put o.dst v) (fun w => F w ∧ V w v)
end

section
variable {E : Ext} {P : Program} {ops : Array Oper} {md : Region.Mode} {W : World} {K : FuncId → Array Value → World → Value → Prop}

theorem inside_allT {ι : Type} {V : ι → World → Value → Prop} {w : World} {r : Result Next} (hne : ∃ _ : ι, True) (h : ∀ i, insideT E P K w (V i) r) : insideT E P K w (fun w' v => ∀ i, V i w' v) r := by
  obtain ⟨i0, _⟩ := hne
  have hr := h i0
  cases r with
  | ok n w' =>
    cases n <;> simp only [insideT] at hr h ⊢
    case value u => exact ⟨hr.1, fun i => (h i).2⟩
    case skip => exact ⟨hr.1, fun i => (h i).2⟩
    case enter f args => exact ⟨hr.1, hr.2.1, fun w'' v hv i => (h i).2.2 w'' v hv⟩
  | halt x w' => simp only [insideT] at hr

theorem inside_someT {V : World → Value → Prop} {w : World} (hw : E.R W w) {r : Result Next} (h : insideT E P K w V r) : ∃ v, ∃ w', E.R W w' ∧ V w' v := by
  cases r with
  | ok n w' =>
    cases n <;> simp only [insideT] at h
    case value u => exact ⟨u, w', E.trans hw h.1, h.2⟩
    case skip => exact ⟨undef, w', E.trans hw h.1, h.2⟩
    case enter f args =>
      obtain ⟨e, w'', fr, ⟨v, _, hl, hk⟩, _⟩ := h.2.1 []
      exact ⟨v, w'', E.trans (E.trans hw h.1) hl, h.2.2 w'' v hk⟩
  | halt x w' => simp only [insideT] at h

theorem YieldsT.some {o : Oper} {a : Act} {V : World → Value → Prop} (h : YieldsT E P ops W K o a V) : ∃ v, ∃ w, E.R W w ∧ V w v := by
  rcases h.2 with ⟨_, h⟩ | ⟨_, h⟩
  · exact inside_someT (E.refl W) (h W (E.refl W))
  · exact ⟨undef, W, E.refl W, h W (E.refl W)⟩

theorem YieldsT.same {o : Oper} {a a' : Act} {V : World → Value → Prop} (he : execOp a'.eval o = execOp a.eval o) (hw : Region.wanted o (yielded ops a'.tmps) = Region.wanted o (yielded ops a.tmps))
    (h : YieldsT E P ops W K o a V) : YieldsT E P ops W K o a' V := by
  unfold YieldsT at *; rw [he, hw]; exact h

theorem wpOp_yieldsT {i : Nat} {o : Oper} {a : Act} {w : World} {V : World → Value → Prop} {next : Act → World → Prop} {Q' : Exit → Act → World → Prop} (ho : ops[i]? = some o) (hw : E.R W w) (hg : YieldsT E P ops W K o a V)
    (hn : ∀ v w', E.R w w' → V w' v → next (a.put o.dst v) w') : wpOp P ops Q' i next a w := by
  unfold wpOp
  simp only [ho]
  rcases hg.2 with ⟨hwant, hv⟩ | ⟨hwant, hv⟩
  · rw [if_pos hwant]
    left
    have h3 := hv w hw
    unfold Oper.wp
    generalize (execOp a.eval o).run P w = r at h3
    cases r with
    | ok x w' =>
      cases x <;> simp only [insideT] at h3 <;> simp only [Oper.upon]
      case value u => exact hn u _ h3.1 h3.2
      case skip => exact hn undef _ h3.1 h3.2
      case enter f args =>
        refine h3.2.1.mono fun e w'' he => ?_
        obtain ⟨v, rfl, hl, hk⟩ := he
        exact hn v _ (E.trans h3.1 hl) (h3.2.2 w'' v hk)
    | halt x w' => simp only [insideT] at h3
  · rw [if_neg (by simp [hwant])]
    exact hn undef _ (E.refl w) (hv w hw)

theorem anyFree_soundT {n g : Nat} {L : Array Bool → Act → (World → Prop) → Prop} {Q' : Exit → Act → World → Prop} (hL : ∀ listed a F w, E.R W w → F w → L listed a F → wpAny P md ops Q' g listed a w) :
    ∀ (f : Nat) (listed : Array Bool) (a : Act) (F : World → Prop) (w : World), (∀ w w', E.R w w' → F w → F w') → E.R W w → F w → anyFreeT E P ops md W K n L f listed a F → wpAny P md ops Q' (f + g) listed a w := by
  intro f
  induction f with
  | zero => intro listed a F w _ hw hF h; rw [Nat.zero_add]; exact hL _ _ _ _ hw hF h
  | succ f ih =>
    intro listed a F w hm hw hF h
    rw [show f + 1 + g = (f + g) + 1 by omega]
    refine ⟨fun h0 => absurd h0 h.1, fun i hi => ?_⟩
    obtain ⟨_, o, ho, _⟩ := mem_ready.1 hi
    obtain ⟨V, hg, hn⟩ := (h.2 i hi).2 o ho
    exact wpOp_yieldsT ho hw hg (fun v w' hl hv => ih _ _ _ _ (fun u u' hu hh => ⟨hm u u' hu hh.1, hg.1 v u u' hu hh.2⟩) (E.trans hw hl) ⟨hm w w' hl hF, hv⟩ (hn v ⟨w', E.trans hw hl, hv⟩))

theorem anyFree_weakenT {n : Nat} {L : Array Bool → Act → (World → Prop) → Prop} (hLm : ∀ listed a F F', (∀ w, F' w → F w) → L listed a F → L listed a F') :
    ∀ (f : Nat) (listed : Array Bool) (a : Act) (F F' : World → Prop), (∀ w, F' w → F w) → anyFreeT E P ops md W K n L f listed a F → anyFreeT E P ops md W K n L f listed a F' := by
  intro f
  induction f with
  | zero => intro listed a F F' h hh; exact hLm _ _ _ _ h hh
  | succ f ih =>
    intro listed a F F' h hh
    refine ⟨hh.1, fun i hi => ⟨(hh.2 i hi).1, fun o ho => ?_⟩⟩
    obtain ⟨V, hg, hn⟩ := (hh.2 i hi).2 o ho
    exact ⟨V, hg, fun v hv => ih _ _ _ _ (fun w hw => ⟨h w hw.1, hw.2⟩) (hn v hv)⟩

theorem anyFree_firstT {n i : Nat} {oi : Oper} {V : World → Value → Prop} {L : Array Bool → Act → (World → Prop) → Prop} (hi : ops[i]? = some oi) (hsel : ∀ (j : Nat) (o : Oper) cs b, ops[j]? = some o → o.op ≠ .select cs b)
    (hbound : ∀ listed i, HeadInv md ops n listed → i < n → listed.getD i true = false → ∀ j ∈ Region.ready md ops listed, j < n) (hin : i < n)
    (hdone : ∀ listed a F, L listed a F → ∀ j ∈ Region.ready md ops listed, n ≤ j) (hLm : ∀ listed a F F', (∀ w, F' w → F w) → L listed a F → L listed a F') :
    ∀ (f : Nat) (listed : Array Bool) (a : Act) (F : World → Prop), HeadInv md ops n listed →
      (∀ j oj, ops[j]? = some oj → j ≠ i → listed.getD j true = false → (∀ e ∈ oj.after, Region.binds md e = true → e.on ≠ i) → oi.apart ops oj = true) →
      i ∈ Region.ready md ops listed → YieldsT E P ops W K oi a V →
      (∀ v, (∃ w, E.R W w ∧ V w v) → anyFreeT E P ops md W K n L f (listed.setIfInBounds i true) (a.put oi.dst v) (fun w => F w ∧ V w v)) → anyFreeT E P ops md W K n L (f + 1) listed a F := by
  intro f
  induction f with
  | zero =>
    intro listed a F inv _ hr hg H
    have hun := (mem_ready.1 hr).1
    refine ⟨fun h => (by rw [h] at hr; cases hr), fun j hj => ?_⟩
    have hjn := hbound listed i inv hin hun j hj
    refine ⟨hjn, fun o ho => ?_⟩
    by_cases hji : j = i
    · subst hji
      rw [hi] at ho; cases ho
      exact ⟨V, hg, H⟩
    · obtain ⟨v, hv⟩ := hg.some
      have := hdone _ _ _ (H v hv) j (ready_mono hj hji)
      omega
  | succ f ih =>
    intro listed a F inv hfree hr hg H
    have hun := (mem_ready.1 hr).1
    refine ⟨fun h => (by rw [h] at hr; cases hr), fun j hj => ?_⟩
    have hjn := hbound listed i inv hin hun j hj
    refine ⟨hjn, fun o ho => ?_⟩
    by_cases hji : j = i
    · subst hji
      rw [hi] at ho; cases ho
      exact ⟨V, hg, H⟩
    · obtain ⟨hjun, oj, hoj, hall⟩ := mem_ready.1 hj
      rw [ho] at hoj; cases hoj
      have hnot : ∀ e ∈ o.after, Region.binds md e = true → e.on ≠ i := fun e he hb heq => by
        have h1 := hall e he hb
        rw [heq, getD_both hun] at h1
        cases h1
      have hap := hfree j o ho hji hjun hnot
      obtain ⟨a1, a2, a3⟩ := Oper.apart_spec hap
      have hsi := fun cs b => hsel i oi cs b hi
      have hsj := fun cs b => hsel j o cs b ho
      have hU : ∀ v : {v // ∃ w, E.R W w ∧ V w v}, ∃ U, YieldsT E P ops W K o (a.put oi.dst v.1) U ∧ ∀ u, (∃ w, E.R W w ∧ U w u) →
          anyFreeT E P ops md W K n L f ((listed.setIfInBounds i true).setIfInBounds j true) ((a.put oi.dst v.1).put o.dst u) (fun w => (F w ∧ V w v.1) ∧ U w u) :=
        fun v => ((H v.1 v.2).2 j (ready_mono hj hji)).2 o ho
      obtain ⟨U, hU⟩ := Classical.skolem.1 hU
      obtain ⟨v0, hv0⟩ := hg.some
      have hone : ∀ v, YieldsT E P ops W K o a (U v) := fun v => (hU v).1.same (execOp_put o hsj a oi.dst v.1 a1).symm (wanted_put o a oi.dst v.1 a1).symm
      have hgood : YieldsT E P ops W K o a (fun w u => ∀ v, U v w u) := by
        refine ⟨fun u w w' hl h v => (hone v).1 u w w' hl (h v), ?_⟩
        by_cases hw : Region.wanted o (yielded ops a.tmps) = true
        · refine .inl ⟨hw, fun w hw' => inside_allT ⟨⟨v0, hv0⟩, trivial⟩ (fun v => ?_)⟩
          rcases (hone v).2 with ⟨_, h3⟩ | ⟨h3, _⟩
          · exact h3 w hw'
          · rw [hw] at h3; cases h3
        · refine .inr ⟨by simpa using hw, fun w hw' v => ?_⟩
          rcases (hone v).2 with ⟨h3, _⟩ | ⟨_, h3⟩
          · exact absurd h3 hw
          · exact h3 w hw'
      refine ⟨_, hgood, ?_⟩
      intro u hu
      have hfree' : ∀ k ok, ops[k]? = some ok → k ≠ i → (listed.setIfInBounds j true).getD k true = false →
          (∀ e ∈ ok.after, Region.binds md e = true → e.on ≠ i) → oi.apart ops ok = true := fun k ok hk hki hun hno => by
        refine hfree k ok hk hki ?_ hno
        by_cases hjk : j = k
        · subst hjk; exact hjun
        · rw [getD_set_ne true hjk] at hun; exact hun
      refine ih (listed.setIfInBounds j true) (a.put o.dst u) _ (inv.set hj hjn) hfree' (ready_mono hr (Ne.symm hji)) (hg.same (execOp_put oi hsi a o.dst u a3) (wanted_put oi a o.dst u a3)) (fun v hv => ?_)
      rw [Array.setIfInBounds_comm _ _ hji, ← Act.put_comm a v u a2]
      obtain ⟨w, hw, hu⟩ := hu
      exact anyFree_weakenT hLm _ _ _ _ _ (fun w' h' => ⟨⟨h'.1.1, h'.2⟩, h'.1.2 ⟨v, hv⟩⟩) ((hU ⟨v, hv⟩).2 u ⟨w, hw, hu ⟨v, hv⟩⟩)

theorem anyFree_lexT {n g : Nat} {R : Act → World → Prop} (hsel : Region.noSelect ops = true)
    (hbound : ∀ listed i, HeadInv md ops n listed → i < n → listed.getD i true = false → ∀ j ∈ Region.ready md ops listed, j < n) :
    ∀ (l : List Oper) (k : Nat) (listed : Array Bool) (a : Act) (F : World → Prop), (∀ j, j < l.length → l[j]? = ops[k + j]?) → k + l.length = n → HeadInv md ops n listed →
    Region.lexHead md ops g l.length k listed = true → wpFreeT E P ops W K R l a F →
    anyFreeT E P ops md W K n (fun listed' a' F' => Region.seqB md ops g n listed' = true ∧ ∀ w, E.R W w → F' w → R a' w) l.length listed a F := by
  intro l
  induction l with
  | nil =>
    intro k listed a F _ hk _ hB h
    have : k = n := by simpa using hk
    subst this
    exact ⟨by simpa [Region.lexHead] using hB, h⟩
  | cons o l ih =>
    intro k listed a F hl hk inv hB h
    have h0 : ops[k]? = some o := by simpa using (hl 0 (by simp)).symm
    simp only [List.length_cons, Region.lexHead, Bool.and_eq_true] at hB
    obtain ⟨⟨hr, hf⟩, hB'⟩ := hB
    have hkn : k < n := by simp only [List.length_cons] at hk; omega
    have hr' : k ∈ Region.ready md ops listed := by simpa using hr
    obtain ⟨V, hg, hnext⟩ := h
    exact anyFree_firstT h0 (Region.noSelect_spec hsel) hbound hkn (fun listed' a' F' hL => seqB_ready hL.1) (fun _ _ _ _ hF hL => ⟨hL.1, fun w hw h' => hL.2 w hw (hF w h')⟩) l.length listed a F inv (Region.free_spec h0 hf) hr' hg
      (fun v hv => ih (k + 1) _ _ _ (fun j hj => by have := hl (j + 1) (by simp; omega); simpa [Nat.add_assoc, Nat.add_comm 1 j] using this) (by simp only [List.length_cons] at hk; omega) (inv.set hr' hkn) hB' (hnext v hv))

/-- A REGION WITH FORCED LAST OPERATIONS (from number n on). -/
theorem region_tailT (K : FuncId → Array Value → World → Value → Prop) {id : Nat} {Q : Exit → Act → World → Prop} {a : Act} {w : World} {l : List Oper} (n : Nat) (hm : P.follows .mixedOrders = true) (hB : Region.lexTailB .any l.toArray n = true)
    (h : wpFreeT E P l.toArray (w.drewN 1) K (fun a' w' => wpList P l.toArray Q (l.drop n) a' w') (l.take n) a (fun _ => True)) : (Code.region id l.toArray true).wp P Q a w := by
  simp only [Region.lexTailB, Bool.and_eq_true, decide_eq_true_eq] at hB
  obtain ⟨⟨⟨⟨hsel, hn⟩, hs⟩, hc⟩, hlex⟩ := hB
  have hn' : n < l.length := by simpa using hn
  have htl : (l.take n).length = n := by simp; omega
  have hdl : (l.drop n).length = l.toArray.size - n := by simp
  have hbound : ∀ listed i, HeadInv .any l.toArray n listed → i < n → listed.getD i true = false → ∀ j ∈ Region.ready .any l.toArray listed, j < n := by
    intro listed i inv hi hun j hj
    rcases Nat.lt_or_ge j n with h | h
    · exact h
    · exact absurd hj (tail_waits hs hc hn inv _ i rfl hi hun j h)
  have H := anyFree_lexT (md := .any) (g := l.toArray.size - n) hsel hbound (l.take n) 0 _ a _ (fun j hj => by
    have hj' : j < n := by rw [htl] at hj; exact hj
    simp [hj']) (by simpa using htl) (head_start _ n) (by rw [htl]; exact hlex) h
  refine wp_region_any hm ?_
  have := anyFree_soundT (Q' := Q) (W := w.drewN 1) (g := l.toArray.size - n) (fun listed a' F w' hw' hF hL => by
    have := wpAny_of_seq (md := .any) (Q' := Q) (l.drop n) n listed a' w' (fun j => by simp [List.getElem?_drop]) (by rw [hdl]; exact hL.1) (hL.2 w' hw' hF)
    rwa [hdl] at this) _ _ _ _ _ (fun _ _ _ h => h) (E.refl _) trivial H
  rw [htl, show n + (l.toArray.size - n) = l.toArray.size by omega] at this
  exact this

/-- A REGION WITHOUT. -/
theorem region_freeT (K : FuncId → Array Value → World → Value → Prop) {id : Nat} {Q : Exit → Act → World → Prop} {a : Act} {w : World} {l : List Oper} (hm : P.follows .mixedOrders = true)
    (hB : (Region.noSelect l.toArray && Region.lexHead .any l.toArray 0 l.length 0 (Array.replicate l.toArray.size false)) = true)
    (h : wpFreeT E P l.toArray (w.drewN 1) K (fun a' w' => Q .normal a' w') l a (fun _ => True)) : (Code.region id l.toArray true).wp P Q a w := by
  simp only [Bool.and_eq_true] at hB
  obtain ⟨hsel, hlex⟩ := hB
  have hbound : ∀ listed i, HeadInv .any l.toArray l.length listed → i < l.length → listed.getD i true = false → ∀ j ∈ Region.ready .any l.toArray listed, j < l.length := by
    intro listed i _ _ _ j hj
    obtain ⟨_, oj, hoj, _⟩ := mem_ready.1 hj
    simpa using (Array.getElem?_eq_some_iff.1 hoj).1
  have H := anyFree_lexT (md := .any) (g := 0) hsel hbound l 0 _ a _ (fun j hj => by simp) (by simp) (head_start _ l.length) hlex h
  refine wp_region_any hm ?_
  have := anyFree_soundT (Q' := Q) (W := w.drewN 1) (g := 0) (fun listed a' F w' hw' hF hL => ⟨by simpa [Region.seqB] using hL.1, hL.2 w' hw' hF⟩) _ _ _ _ _ (fun _ _ _ h => h) (E.refl _) trivial H
  rw [Nat.add_zero] at this
  exact this
end

section
variable {E : Ext} {P : Program} {ops : Array Oper} {W : World} {K : FuncId → Array Value → World → Value → Prop} {Q : Act → World → Prop} {F : World → Prop} {o : Oper} {rest : List Oper} {a : Act}

theorem wpFree_nilT (h : ∀ w, E.R W w → F w → Q a w) : wpFreeT E P ops W K Q [] a F := h

/-- An operation that gives one value and leaves the world as it is. -/
theorem wpFree_oneT (hg : o.guard = none) (v : Value) (hr : ∀ w, E.R W w → (execOp a.eval o).run P w = .ok (.value v) w)
    (h : wpFreeT E P ops W K Q rest (a.put o.dst v) F) : wpFreeT E P ops W K Q (o :: rest) a F := by
  refine ⟨fun _ u => u = v, ⟨fun _ _ _ _ h => h, .inl ⟨by simp [Region.wanted, hg], fun w hw => ?_⟩⟩, fun u hu => ?_⟩
  · rw [hr w hw]; exact ⟨E.refl w, rfl⟩
  · obtain ⟨w, _, rfl⟩ := hu
    have e : (fun w => F w ∧ u = u) = F := by funext w; simp
    rw [e]; exact h

/-- A value known up to a predicate that does not speak of the world; the world may be drawn from. -/
theorem wpFree_someT (hg : o.guard = none) (V : Value → Prop) (hr : ∀ w, E.R W w → ∃ v n, (execOp a.eval o).run P w = .ok (.value v) (w.drewN n) ∧ V v)
    (h : ∀ v, V v → wpFreeT E P ops W K Q rest (a.put o.dst v) F) : wpFreeT E P ops W K Q (o :: rest) a F := by
  refine ⟨fun _ u => V u, ⟨fun _ _ _ _ h => h, .inl ⟨by simp [Region.wanted, hg], fun w hw => ?_⟩⟩, fun u hu => ?_⟩
  · obtain ⟨v, n, hrun, hv⟩ := hr w hw
    rw [hrun]; exact ⟨E.drewN w n, hv⟩
  · obtain ⟨w, _, hv⟩ := hu
    have h' := h u hv
    have e : (fun w => F w ∧ V u) = F := by funext w; simp [hv]
    rw [e]; exact h'

/-- A call. -/
theorem wpFree_callT (hg : o.guard = none) {f : FuncId} {xs : Array Operand} {ts : Array TypeId} (hop : o.op = Op.call { callee := Callee.value (Operand.func f), args := xs, argTypes := ts }) {fn : Func} (hf : P.funcs[f]? = some fn)
    (hb : fn.body.isNone = false) (hn : (fn.name == "runtime.NumGoroutine") = false) {args : Array Value} (ha : xs.map a.eval = args) (hm : MonoT E (K f args))
    (h1 : ∀ w, E.R W w → Calls P f args w (fun e w' => ∃ v, e = .returned v ∧ E.R w w' ∧ K f args w' v)) (h2 : ∀ v, (∃ w, E.R W w ∧ K f args w v) → wpFreeT E P ops W K Q rest (a.put o.dst v) (fun w => F w ∧ K f args w v)) : wpFreeT E P ops W K Q (o :: rest) a F :=
  ⟨K f args, ⟨hm, .inl ⟨by simp [Region.wanted, hg], fun w hw => by rw [run_enter hop hf hb hn ha]; exact ⟨E.refl w, h1 w hw, fun _ _ h => h⟩⟩⟩, h2⟩

end

/-- The operations may write these rows into these blocks, each as a whole. -/
def finX (T : List (Nat × TypeId × Array Value)) : Ext where
  R w w' := w'.os = w.os ∧ w'.tape = w.tape ∧ w'.output = w.output ∧ w.heap.size ≤ w'.heap.size ∧ (∀ k, k < w.heap.size → (∀ x ∈ T, x.1 ≠ k) → w'.heap[k]? = w.heap[k]?) ∧
    (∀ x ∈ T, Row w x.1 x.2.1 x.2.2 → Row w' x.1 x.2.1 x.2.2) ∧ (∀ x ∈ T, (∃ cs, Row w x.1 x.2.1 cs ∧ cs.size = x.2.2.size) → ∃ cs, Row w' x.1 x.2.1 cs ∧ cs.size = x.2.2.size)
  refl w := ⟨rfl, rfl, rfl, Nat.le_refl _, fun _ _ _ => rfl, fun _ _ h => h, fun _ _ h => h⟩
  trans := by
    rintro a b c ⟨h1, h2, h3, h4, h5, h6, h7⟩ ⟨k1, k2, k3, k4, k5, k6, k7⟩
    exact ⟨k1.trans h1, k2.trans h2, k3.trans h3, Nat.le_trans h4 k4, fun k hk hx => (k5 k (Nat.lt_of_lt_of_le hk h4) hx).trans (h5 k hk hx), fun x hx h => k6 x hx (h6 x hx h), fun x hx h => k7 x hx (h7 x hx h)⟩
  of_le := by
    intro a b h
    exact ⟨h.os, h.tape, h.output, h.size, fun k hk _ => h.block k hk, fun x _ hr => hr.le h, fun x _ ⟨cs, hr, hs⟩ => ⟨cs, hr.le h, hs⟩⟩
theorem finX_below {T : List (Nat × TypeId × Array Value)} {w w' : World} (h : (finX T).R w w') {B : Nat} (hB : ∀ x ∈ T, B ≤ x.1) (hw : B ≤ w.heap.size) : Below B w w' :=
  ⟨h.1, h.2.1, h.2.2.1, h.2.2.2.1, fun k hk => h.2.2.2.2.1 k (Nat.lt_of_lt_of_le hk hw) (fun x hx => by have := hB x hx; omega)⟩
theorem finX_row {T : List (Nat × TypeId × Array Value)} {w w' : World} (h : (finX T).R w w') {g : Nat} {t : TypeId} {cs : Array Value} (hr : Row w g t cs) (hn : ∀ x ∈ T, x.1 ≠ g) : Row w' g t cs := by
  have := h.2.2.2.2.1 g hr.lt hn
  unfold Row at *
  rw [this]; exact hr

section
variable {P : Program} {ops : Array Oper} {W : World} {K : FuncId → Array Value → World → Value → Prop} {Q : Act → World → Prop} {F : World → Prop} {o : Oper} {rest : List Oper} {a : Act} {T : List (Nat × TypeId × Array Value)}
theorem wpFreeT_load (hg : o.guard = none) {ty : TypeId} {x : Operand} (hop : o.op = .load ty x) {g : Nat} (hx : a.eval x = .pointer (some ⟨g, 0, none⟩)) {t : TypeId} {cs : Array Value} {d : TypeDesc}
    (hr : Row W g t cs) (hn : ∀ x ∈ T, x.1 ≠ g) (hu : P.underlying ty = some d) (hd : (match d with | .struct _ | .array _ _ => true | _ => false) = true) {m : Nat} (hi : (P.info? ty).map (·.size) = some m) (hm : cs.size = m)
    (h : wpFreeT (finX T) P ops W K Q rest (a.put o.dst (.agg cs)) F) : wpFreeT (finX T) P ops W K Q (o :: rest) a F := by
  subst hm
  refine wpFree_oneT hg (.agg cs) (fun w hw => ?_) h
  have := run_loadVar_row (P := P) w g t ty cs (0, 0) _ (finX_row hw hr hn) hu hd hi
  simp [execOp, hop, hx, Instr.loadAt, Instr.sureAddr, this, Result.andThen]
theorem wpFreeT_store (hg : o.guard = none) {ty : TypeId} {x y : Operand} (hop : o.op = .store ty x y) {g : Nat} (hx : a.eval x = .pointer (some ⟨g, 0, none⟩)) {cells : Array Value} (hy : a.eval y = .agg cells) {t : TypeId} {old : Array Value}
    (hT : (g, t, cells) ∈ T) (hd : ∀ x ∈ T, ∀ y ∈ T, x.1 = y.1 → x = y) (hr : Row W g t old) (hs : old.size = cells.size) {m : Nat} (hi : (P.info? ty).map (·.size) = some m) (hm : cells.size = m) (h1 : cells.all (·.oneCell') = true)
    (h : wpFreeT (finX T) P ops W K Q rest (a.put o.dst undef) (fun w => F w ∧ Row w g t cells)) : wpFreeT (finX T) P ops W K Q (o :: rest) a F := by
  subst hm
  refine ⟨fun w v => v = undef ∧ Row w g t cells, ⟨fun v w w' hw hv => ⟨hv.1, hw.2.2.2.2.2.1 _ hT hv.2⟩, .inl ⟨by simp [Region.wanted, hg], fun w hw => ?_⟩⟩, fun v hv => ?_⟩
  · obtain ⟨cs, hc, hcs⟩ := hw.2.2.2.2.2.2 _ hT ⟨old, hr, hs⟩
    have hc : Row w g t cs := hc
    have hcs : cs.size = cells.size := hcs
    have hrun := run_storeVar_row (P := P) w g t ty cs cells hc hi hcs h1
    have : (execOp a.eval o).run P w = .ok .skip (w.setRow g cells) := by
      unfold execOp
      simp only [hop, hx, hy, Instr.storeAt, Instr.sureAddr, Sem.run_bind, Sem.run_pure, Result.andThen_ok, hrun]
    rw [this]
    have hrow : Row (w.setRow g cells) g t cells := hc.setRow _
    refine ⟨⟨rfl, rfl, rfl, by simp, fun k hk hx' => ?_, fun x' hx' hrx => ?_, fun x' hx' ⟨c', hrx, hsx⟩ => ?_⟩, rfl, hrow⟩
    · have := hx' _ hT
      unfold World.setRow
      rw [Array.getElem?_modify, if_neg this]
    · by_cases e : x'.1 = g
      · have := hd x' hx' _ hT e
        subst this; exact hrow
      · exact hrx.setRow_other e _
    · by_cases e : x'.1 = g
      · have := hd x' hx' _ hT e
        subst this; exact ⟨cells, hrow, rfl⟩
      · exact ⟨c', hrx.setRow_other e _, hsx⟩
  · obtain ⟨w, _, rfl, _⟩ := hv
    have e : (fun w => F w ∧ undef = undef ∧ Row w g t cells) = (fun w => F w ∧ Row w g t cells) := by funext w; simp
    rw [e]; exact h
end
end Go.Fk

/- As FreeT, but an operation may lean on what is known of the operations that it comes behind: so a region may write blocks that it has made itself. Nothing here names a program. -/
namespace Go.Fk
open Go Go.RowKit

/-- What is known of each operation's value. -/
abbrev Facts := Nat → World → Prop
def Facts.with (F : Facts) (k : Nat) (V : World → Prop) : Facts := fun e w => F e w ∧ (e = k → V w)
theorem Facts.with_of {F : Facts} {k : Nat} {V : World → Prop} {w : World} (h : ∀ e, (F.with k V) e w) : (∀ e, F e w) ∧ V w := ⟨fun e => (h e).1, (h k).2 rfl⟩
theorem Facts.with_mk {F : Facts} {k : Nat} {V : World → Prop} {w : World} (h : ∀ e, F e w) (hv : V w) : ∀ e, (F.with k V) e w := fun e => ⟨h e, fun _ => hv⟩

section
variable (E : Ext) (P : Program) (ops : Array Oper) (md : Region.Mode) (W : World) (K : FuncId → Array Value → World → Value → Prop)
/-- What is known where an operation comes up. -/
def behind (o : Oper) (F : Facts) (w : World) : Prop := ∀ e ∈ o.after, Region.binds md e = true → F e.on w
def YieldsD (o : Oper) (a : Act) (F : Facts) (V : World → Value → Prop) : Prop :=
  MonoT E V ∧ ((Region.wanted o (yielded ops a.tmps) = true ∧ ∀ w, E.R W w → behind md o F w → insideT E P K w V ((execOp a.eval o).run P w)) ∨ (Region.wanted o (yielded ops a.tmps) = false ∧ ∀ w, E.R W w → behind md o F w → V w undef))
/-- Some world may be met in which all of this is known. -/
def met (F : Facts) (V : World → Prop) : Prop := ∃ w, E.R W w ∧ (∀ e, F e w) ∧ V w
def wpFreeD (Q : Act → World → Prop) : List Oper → Nat → Act → Facts → Prop
  | [], _, a, F => ∀ w, E.R W w → (∀ e, F e w) → Q a w
  | o :: rest, k, a, F => ∃ V, YieldsD E P ops md W K o a F V ∧ ∀ v, met E W F (fun w => V w v) → wpFreeD Q rest (k + 1) (a.put o.dst v) (F.with k (fun w => V w v))
def anyFreeD (n : Nat) (L : Array Bool → Act → Facts → Prop) : Nat → Array Bool → Act → Facts → Prop
  | 0, listed, a, F => L listed a F
  | f + 1, listed, a, F => Region.ready md ops listed ≠ [] ∧
      ∀ i ∈ Region.ready md ops listed, i < n ∧ ∀ o, ops[i]? = some o → ∃ V, YieldsD E P ops md W K o a F V ∧ ∀ v, met E W F (fun w => V w v) → anyFreeD n L f (listed.setIfInBounds i true) (a.put o.dst v) (F.with i (fun w => V w v))
def FMono (F : Facts) : Prop := ∀ w w', E.R w w' → (∀ e, F e w) → ∀ e, F e w'
end

section
variable {E : Ext} {P : Program} {ops : Array Oper} {md : Region.Mode} {W : World} {K : FuncId → Array Value → World → Value → Prop}

theorem FMono.with {F : Facts} (h : FMono E F) {V : World → Value → Prop} (hV : MonoT E V) (k : Nat) (v : Value) : FMono E (F.with k (fun w => V w v)) := fun w w' hw hF =>
  Facts.with_mk (h w w' hw (Facts.with_of hF).1) (hV v w w' hw (Facts.with_of hF).2)

theorem insideT_some {V : World → Value → Prop} {w : World} {r : Result Next} (h : insideT E P K w V r) : ∃ v, ∃ w', E.R w w' ∧ V w' v := by
  cases r with
  | ok n w' =>
    cases n <;> simp only [insideT] at h
    case value u => exact ⟨u, w', h.1, h.2⟩
    case skip => exact ⟨undef, w', h.1, h.2⟩
    case enter f args =>
      obtain ⟨e, w'', fr, ⟨v, _, hl, hk⟩, _⟩ := h.2.1 []
      exact ⟨v, w'', E.trans h.1 hl, h.2.2 w'' v hk⟩
  | halt x w' => simp only [insideT] at h

theorem YieldsD.some {o : Oper} {a : Act} {F : Facts} {V : World → Value → Prop} (hm : FMono E F) (hx : met E W F (fun _ => True)) (h : YieldsD E P ops md W K o a F V) : ∃ v, met E W F (fun w => V w v) := by
  obtain ⟨w, hw, hF, _⟩ := hx
  rcases h.2 with ⟨_, h⟩ | ⟨_, h⟩
  · obtain ⟨v, w', hl, hv⟩ := insideT_some (h w hw (fun e _ _ => hF e.on))
    exact ⟨v, w', E.trans hw hl, hm w w' hl hF, hv⟩
  · exact ⟨undef, w, hw, hF, h w hw (fun e _ _ => hF e.on)⟩

theorem YieldsD.same {o : Oper} {a a' : Act} {F : Facts} {V : World → Value → Prop} (he : execOp a'.eval o = execOp a.eval o) (hw : Region.wanted o (yielded ops a'.tmps) = Region.wanted o (yielded ops a.tmps))
    (h : YieldsD E P ops md W K o a F V) : YieldsD E P ops md W K o a' F V := by
  unfold YieldsD at *; rw [he, hw]; exact h

/-- What is known of an operation that it does not come behind is of no use to it. -/
theorem YieldsD.less {o : Oper} {a : Act} {F : Facts} {i : Nat} {X : World → Prop} {V : World → Value → Prop} (hn : ∀ e ∈ o.after, Region.binds md e = true → e.on ≠ i) (h : YieldsD E P ops md W K o a (F.with i X) V) : YieldsD E P ops md W K o a F V := by
  have key : ∀ w, behind md o F w → behind md o (F.with i X) w := fun w hw e he hb => ⟨hw e he hb, fun h => absurd h (hn e he hb)⟩
  refine ⟨h.1, ?_⟩
  rcases h.2 with ⟨h1, h2⟩ | ⟨h1, h2⟩
  · exact .inl ⟨h1, fun w hw hb => h2 w hw (key w hb)⟩
  · exact .inr ⟨h1, fun w hw hb => h2 w hw (key w hb)⟩
theorem YieldsD.more {o : Oper} {a : Act} {F : Facts} {i : Nat} {X : World → Prop} {V : World → Value → Prop} (h : YieldsD E P ops md W K o a F V) : YieldsD E P ops md W K o a (F.with i X) V := by
  have key : ∀ w, behind md o (F.with i X) w → behind md o F w := fun w hw e he hb => (hw e he hb).1
  refine ⟨h.1, ?_⟩
  rcases h.2 with ⟨h1, h2⟩ | ⟨h1, h2⟩
  · exact .inl ⟨h1, fun w hw hb => h2 w hw (key w hb)⟩
  · exact .inr ⟨h1, fun w hw hb => h2 w hw (key w hb)⟩

theorem wpOp_yieldsD {i : Nat} {o : Oper} {a : Act} {w : World} {F : Facts} {V : World → Value → Prop} {next : Act → World → Prop} {Q' : Exit → Act → World → Prop} (ho : ops[i]? = some o) (hw : E.R W w) (hF : ∀ e, F e w) (hg : YieldsD E P ops md W K o a F V)
    (hn : ∀ v w', E.R w w' → V w' v → next (a.put o.dst v) w') : wpOp P ops Q' i next a w := by
  unfold wpOp
  simp only [ho]
  rcases hg.2 with ⟨hwant, hv⟩ | ⟨hwant, hv⟩
  · rw [if_pos hwant]
    left
    have h3 := hv w hw (fun e _ _ => hF e.on)
    unfold Oper.wp
    generalize (execOp a.eval o).run P w = r at h3
    cases r with
    | ok x w' =>
      cases x <;> simp only [insideT] at h3 <;> simp only [Oper.upon]
      case value u => exact hn u _ h3.1 h3.2
      case skip => exact hn undef _ h3.1 h3.2
      case enter f args =>
        refine h3.2.1.mono fun e w'' he => ?_
        obtain ⟨v, rfl, hl, hk⟩ := he
        exact hn v _ (E.trans h3.1 hl) (h3.2.2 w'' v hk)
    | halt x w' => simp only [insideT] at h3
  · rw [if_neg (by simp [hwant])]
    exact hn undef _ (E.refl w) (hv w hw (fun e _ _ => hF e.on))

theorem anyFreeD_sound {n g : Nat} {L : Array Bool → Act → Facts → Prop} {Q' : Exit → Act → World → Prop} (hL : ∀ listed a F w, E.R W w → (∀ e, F e w) → L listed a F → wpAny P md ops Q' g listed a w) :
    ∀ (f : Nat) (listed : Array Bool) (a : Act) (F : Facts) (w : World), FMono E F → E.R W w → (∀ e, F e w) → anyFreeD E P ops md W K n L f listed a F → wpAny P md ops Q' (f + g) listed a w := by
  intro f
  induction f with
  | zero => intro listed a F w _ hw hF h; rw [Nat.zero_add]; exact hL _ _ _ _ hw hF h
  | succ f ih =>
    intro listed a F w hm hw hF h
    rw [show f + 1 + g = (f + g) + 1 by omega]
    refine ⟨fun h0 => absurd h0 h.1, fun i hi => ?_⟩
    obtain ⟨_, o, ho, _⟩ := mem_ready.1 hi
    obtain ⟨V, hg, hn⟩ := (h.2 i hi).2 o ho
    exact wpOp_yieldsD ho hw hF hg (fun v w' hl hv => ih _ _ _ _ (hm.with hg.1 i v) (E.trans hw hl) (Facts.with_mk (hm w w' hl hF) hv) (hn v ⟨w', E.trans hw hl, hm w w' hl hF, hv⟩))

theorem met.weaken {F F' : Facts} {V : World → Prop} (h : ∀ w, (∀ e, F' e w) → ∀ e, F e w) (hx : met E W F' V) : met E W F V := by
  obtain ⟨w, hw, hF, hv⟩ := hx; exact ⟨w, hw, h w hF, hv⟩

/-- Facts that are pointwise the same. -/
theorem anyFreeD_congr {n : Nat} {L : Array Bool → Act → Facts → Prop} (hLm : ∀ listed a F F', (∀ e w, F' e w ↔ F e w) → L listed a F → L listed a F') :
    ∀ (f : Nat) (listed : Array Bool) (a : Act) (F F' : Facts), (∀ e w, F' e w ↔ F e w) → anyFreeD E P ops md W K n L f listed a F → anyFreeD E P ops md W K n L f listed a F' := by
  intro f listed a F F' h
  have : F' = F := by funext e w; exact propext (h e w)
  rw [this]; exact id

theorem with_comm (F : Facts) (i j : Nat) (X Y : World → Prop) : (F.with i X).with j Y = (F.with j Y).with i X := by
  funext e w
  unfold Facts.with
  exact propext ⟨fun h => ⟨⟨h.1.1, h.2⟩, h.1.2⟩, fun h => ⟨⟨h.1.1, h.2⟩, h.1.2⟩⟩

theorem YieldsD.stronger {o : Oper} {a : Act} {F F' : Facts} {V : World → Value → Prop} (hF : ∀ e w, F' e w → F e w) (h : YieldsD E P ops md W K o a F V) : YieldsD E P ops md W K o a F' V := by
  have key : ∀ w, behind md o F' w → behind md o F w := fun w hw e he hb => hF _ _ (hw e he hb)
  refine ⟨h.1, ?_⟩
  rcases h.2 with ⟨h1, h2⟩ | ⟨h1, h2⟩
  · exact .inl ⟨h1, fun w hw hb => h2 w hw (key w hb)⟩
  · exact .inr ⟨h1, fun w hw hb => h2 w hw (key w hb)⟩

theorem anyFreeD_weaken {n : Nat} {L : Array Bool → Act → Facts → Prop} (hLm : ∀ listed a F F', (∀ e w, F' e w → F e w) → L listed a F → L listed a F') :
    ∀ (f : Nat) (listed : Array Bool) (a : Act) (F F' : Facts), (∀ e w, F' e w → F e w) → anyFreeD E P ops md W K n L f listed a F → anyFreeD E P ops md W K n L f listed a F' := by
  intro f
  induction f with
  | zero => intro listed a F F' h hh; exact hLm _ _ _ _ h hh
  | succ f ih =>
    intro listed a F F' h hh
    refine ⟨hh.1, fun i hi => ⟨(hh.2 i hi).1, fun o ho => ?_⟩⟩
    obtain ⟨V, hg, hn⟩ := (hh.2 i hi).2 o ho
    exact ⟨V, hg.stronger h, fun v hv => ih _ _ _ _ (fun e w hw => ⟨h e w hw.1, hw.2⟩) (hn v (hv.weaken (fun w hw e => h e w (hw e))))⟩

theorem anyFreeD_first {n i : Nat} {oi : Oper} {V : World → Value → Prop} {L : Array Bool → Act → Facts → Prop} (hi : ops[i]? = some oi) (hsel : ∀ (j : Nat) (o : Oper) cs b, ops[j]? = some o → o.op ≠ .select cs b)
    (hbound : ∀ listed i, HeadInv md ops n listed → i < n → listed.getD i true = false → ∀ j ∈ Region.ready md ops listed, j < n) (hin : i < n)
    (hdone : ∀ listed a F, L listed a F → ∀ j ∈ Region.ready md ops listed, n ≤ j) (hLm : ∀ listed a F F', (∀ e w, F' e w → F e w) → L listed a F → L listed a F') :
    ∀ (f : Nat) (listed : Array Bool) (a : Act) (F : Facts), HeadInv md ops n listed →
      (∀ j oj, ops[j]? = some oj → j ≠ i → listed.getD j true = false → (∀ e ∈ oj.after, Region.binds md e = true → e.on ≠ i) → oi.apart ops oj = true) →
      i ∈ Region.ready md ops listed → FMono E F → met E W F (fun _ => True) → YieldsD E P ops md W K oi a F V →
      (∀ v, met E W F (fun w => V w v) → anyFreeD E P ops md W K n L f (listed.setIfInBounds i true) (a.put oi.dst v) (F.with i (fun w => V w v))) → anyFreeD E P ops md W K n L (f + 1) listed a F := by
  intro f
  induction f with
  | zero =>
    intro listed a F inv _ hr hm hx hg H
    have hun := (mem_ready.1 hr).1
    refine ⟨fun h => (by rw [h] at hr; cases hr), fun j hj => ?_⟩
    have hjn := hbound listed i inv hin hun j hj
    refine ⟨hjn, fun o ho => ?_⟩
    by_cases hji : j = i
    · subst hji
      rw [hi] at ho; cases ho
      exact ⟨V, hg, H⟩
    · obtain ⟨v, hv⟩ := hg.some hm hx
      have := hdone _ _ _ (H v hv) j (ready_mono hj hji)
      omega
  | succ f ih =>
    intro listed a F inv hfree hr hm hx hg H
    have hun := (mem_ready.1 hr).1
    refine ⟨fun h => (by rw [h] at hr; cases hr), fun j hj => ?_⟩
    have hjn := hbound listed i inv hin hun j hj
    refine ⟨hjn, fun o ho => ?_⟩
    by_cases hji : j = i
    · subst hji
      rw [hi] at ho; cases ho
      exact ⟨V, hg, H⟩
    · obtain ⟨hjun, oj, hoj, hall⟩ := mem_ready.1 hj
      rw [ho] at hoj; cases hoj
      have hnot : ∀ e ∈ o.after, Region.binds md e = true → e.on ≠ i := fun e he hb heq => by
        have h1 := hall e he hb
        rw [heq, getD_both hun] at h1
        cases h1
      have hap := hfree j o ho hji hjun hnot
      obtain ⟨a1, a2, a3⟩ := Oper.apart_spec hap
      have hsi := fun cs b => hsel i oi cs b hi
      have hsj := fun cs b => hsel j o cs b ho
      have hU : ∀ v : {v // met E W F (fun w => V w v)}, ∃ U, YieldsD E P ops md W K o (a.put oi.dst v.1) (F.with i (fun w => V w v.1)) U ∧ ∀ u, met E W (F.with i (fun w => V w v.1)) (fun w => U w u) →
          anyFreeD E P ops md W K n L f ((listed.setIfInBounds i true).setIfInBounds j true) ((a.put oi.dst v.1).put o.dst u) ((F.with i (fun w => V w v.1)).with j (fun w => U w u)) :=
        fun v => ((H v.1 v.2).2 j (ready_mono hj hji)).2 o ho
      obtain ⟨U, hU⟩ := Classical.skolem.1 hU
      obtain ⟨v0, hv0⟩ := hg.some hm hx
      have hone : ∀ v, YieldsD E P ops md W K o a F (U v) := fun v => ((hU v).1.same (execOp_put o hsj a oi.dst v.1 a1).symm (wanted_put o a oi.dst v.1 a1).symm).less hnot
      have hgood : YieldsD E P ops md W K o a F (fun w u => ∀ v, U v w u) := by
        refine ⟨fun u w w' hl h v => (hone v).1 u w w' hl (h v), ?_⟩
        by_cases hw : Region.wanted o (yielded ops a.tmps) = true
        · refine .inl ⟨hw, fun w hw' hb => inside_allT ⟨⟨v0, hv0⟩, trivial⟩ (fun v => ?_)⟩
          rcases (hone v).2 with ⟨_, h3⟩ | ⟨h3, _⟩
          · exact h3 w hw' hb
          · rw [hw] at h3; cases h3
        · refine .inr ⟨by simpa using hw, fun w hw' hb v => ?_⟩
          rcases (hone v).2 with ⟨h3, _⟩ | ⟨_, h3⟩
          · exact absurd h3 hw
          · exact h3 w hw' hb
      refine ⟨_, hgood, ?_⟩
      intro u hu
      have hfree' : ∀ k ok, ops[k]? = some ok → k ≠ i → (listed.setIfInBounds j true).getD k true = false →
          (∀ e ∈ ok.after, Region.binds md e = true → e.on ≠ i) → oi.apart ops ok = true := fun k ok hk hki hun hno => by
        refine hfree k ok hk hki ?_ hno
        by_cases hjk : j = k
        · subst hjk; exact hjun
        · rw [getD_set_ne true hjk] at hun; exact hun
      have hx' : met E W (F.with j (fun w => ∀ v, U v w u)) (fun _ => True) := by
        obtain ⟨w, hw, hF, hv⟩ := hu
        exact ⟨w, hw, Facts.with_mk hF hv, trivial⟩
      refine ih (listed.setIfInBounds j true) (a.put o.dst u) (F.with j (fun w => ∀ v, U v w u)) (inv.set hj hjn) hfree' (ready_mono hr (Ne.symm hji)) (hm.with hgood.1 j u) hx' ((hg.same (execOp_put oi hsi a o.dst u a3) (wanted_put oi a o.dst u a3)).more) (fun v hv => ?_)
      rw [Array.setIfInBounds_comm _ _ hji, ← Act.put_comm a v u a2]
      obtain ⟨w, hw, hF, hVv⟩ := hv
      have hF' := Facts.with_of hF
      have mv : met E W F (fun w => V w v) := ⟨w, hw, hF'.1, hVv⟩
      exact anyFreeD_weaken hLm _ _ _ _ _ (fun e w' h' => ⟨⟨h'.1.1, h'.2⟩, fun he => h'.1.2 he ⟨v, mv⟩⟩) ((hU ⟨v, mv⟩).2 u ⟨w, hw, Facts.with_mk hF'.1 hVv, hF'.2 ⟨v, mv⟩⟩)

theorem anyFreeD_lex {n g : Nat} {R : Act → World → Prop} (hsel : Region.noSelect ops = true)
    (hbound : ∀ listed i, HeadInv md ops n listed → i < n → listed.getD i true = false → ∀ j ∈ Region.ready md ops listed, j < n) :
    ∀ (l : List Oper) (k : Nat) (listed : Array Bool) (a : Act) (F : Facts), (∀ j, j < l.length → l[j]? = ops[k + j]?) → k + l.length = n → HeadInv md ops n listed →
    Region.lexHead md ops g l.length k listed = true → FMono E F → met E W F (fun _ => True) → wpFreeD E P ops md W K R l k a F →
    anyFreeD E P ops md W K n (fun listed' a' F' => Region.seqB md ops g n listed' = true ∧ ∀ w, E.R W w → (∀ e, F' e w) → R a' w) l.length listed a F := by
  intro l
  induction l with
  | nil =>
    intro k listed a F _ hk _ hB _ _ h
    have : k = n := by simpa using hk
    subst this
    exact ⟨by simpa [Region.lexHead] using hB, h⟩
  | cons o l ih =>
    intro k listed a F hl hk inv hB hm hx h
    have h0 : ops[k]? = some o := by simpa using (hl 0 (by simp)).symm
    simp only [List.length_cons, Region.lexHead, Bool.and_eq_true] at hB
    obtain ⟨⟨hr, hf⟩, hB'⟩ := hB
    have hkn : k < n := by simp only [List.length_cons] at hk; omega
    have hr' : k ∈ Region.ready md ops listed := by simpa using hr
    obtain ⟨V, hg, hnext⟩ := h
    exact anyFreeD_first h0 (Region.noSelect_spec hsel) hbound hkn (fun listed' a' F' hL => seqB_ready hL.1) (fun _ _ _ _ hF hL => ⟨hL.1, fun w hw h' => hL.2 w hw (fun e => hF e w (h' e))⟩) l.length listed a F inv (Region.free_spec h0 hf) hr' hm hx hg
      (fun v hv => ih (k + 1) _ _ _ (fun j hj => by have := hl (j + 1) (by simp; omega); simpa [Nat.add_assoc, Nat.add_comm 1 j] using this) (by simp only [List.length_cons] at hk; omega) (inv.set hr' hkn) hB' (hm.with hg.1 k v)
        (by obtain ⟨w, hw, hF, hv'⟩ := hv; exact ⟨w, hw, Facts.with_mk hF hv', trivial⟩) (hnext v hv))

def noFacts : Facts := fun _ _ => True
/-- A REGION THAT DRAWS ITS ORDER. -/
theorem region_freeD (K : FuncId → Array Value → World → Value → Prop) {id : Nat} {Q : Exit → Act → World → Prop} {a : Act} {w : World} {l : List Oper} (hm : P.follows .mixedOrders = true)
    (hB : (Region.noSelect l.toArray && Region.lexHead .any l.toArray 0 l.length 0 (Array.replicate l.toArray.size false)) = true)
    (h : wpFreeD E P l.toArray .any (w.drewN 1) K (fun a' w' => Q .normal a' w') l 0 a noFacts) : (Code.region id l.toArray true).wp P Q a w := by
  simp only [Bool.and_eq_true] at hB
  obtain ⟨hsel, hlex⟩ := hB
  have hbound : ∀ listed i, HeadInv .any l.toArray l.length listed → i < l.length → listed.getD i true = false → ∀ j ∈ Region.ready .any l.toArray listed, j < l.length := by
    intro listed i _ _ _ j hj
    obtain ⟨_, oj, hoj, _⟩ := mem_ready.1 hj
    simpa using (Array.getElem?_eq_some_iff.1 hoj).1
  have H := anyFreeD_lex (md := .any) (g := 0) hsel hbound l 0 _ a noFacts (fun j hj => by simp) (by simp) (head_start _ l.length) hlex (fun _ _ _ h => h) ⟨w.drewN 1, E.refl _, fun _ => trivial, trivial⟩ h
  refine wp_region_any hm ?_
  have := anyFreeD_sound (Q' := Q) (W := w.drewN 1) (g := 0) (fun listed a' F w' hw' hF hL => ⟨by simpa [Region.seqB] using hL.1, hL.2 w' hw' hF⟩) _ _ _ _ _ (fun _ _ _ h => h) (E.refl _) (fun _ => trivial) H
  rw [Nat.add_zero] at this
  exact this
end

theorem wpFreeD_weaken {E : Ext} {P : Program} {ops : Array Oper} {md : Region.Mode} {W : World} {K : FuncId → Array Value → World → Value → Prop} {Q : Act → World → Prop} : ∀ (l : List Oper) (k : Nat) (a : Act) (F F' : Facts), (∀ e w, F' e w → F e w) → wpFreeD E P ops md W K Q l k a F → wpFreeD E P ops md W K Q l k a F' := by
  intro l
  induction l with
  | nil => intro k a F F' h hh w hw hF; exact hh w hw (fun e => h e w (hF e))
  | cons o l ih =>
    intro k a F F' h hh
    obtain ⟨V, hg, hn⟩ := hh
    exact ⟨V, hg.stronger h, fun v hv => ih _ _ _ _ (fun e w hw => ⟨h e w hw.1, hw.2⟩) (hn v (hv.weaken (fun w hw e => h e w (hw e))))⟩

/-- The operations may make blocks, and write these rows into blocks of their own, by types. -/
def newX (B : Nat) (T : List (TypeId × Nat × (Array Value → Prop))) : Ext where
  R w w' := w'.os = w.os ∧ w'.tape = w.tape ∧ w'.output = w.output ∧ w.heap.size ≤ w'.heap.size ∧ (∀ k, k < B → k < w.heap.size → w'.heap[k]? = w.heap[k]?) ∧
    (∀ k x, x ∈ T → (∃ cs, Row w k x.1 cs ∧ x.2.2 cs) → ∃ cs, Row w' k x.1 cs ∧ x.2.2 cs) ∧ (∀ k x, x ∈ T → (∃ cs, Row w k x.1 cs ∧ cs.size = x.2.1) → ∃ cs, Row w' k x.1 cs ∧ cs.size = x.2.1) ∧
    (∀ k t cs, (∀ x ∈ T, x.1 ≠ t) → Row w k t cs → Row w' k t cs)
  refl w := ⟨rfl, rfl, rfl, Nat.le_refl _, fun _ _ _ => rfl, fun _ _ _ h => h, fun _ _ _ h => h, fun _ _ _ _ h => h⟩
  trans := by
    rintro a b c ⟨h1, h2, h3, h4, h5, h6, h7, h8⟩ ⟨k1, k2, k3, k4, k5, k6, k7, k8⟩
    exact ⟨k1.trans h1, k2.trans h2, k3.trans h3, Nat.le_trans h4 k4, fun k hk hx => (k5 k hk (Nat.lt_of_lt_of_le hx h4)).trans (h5 k hk hx), fun k x hx h => k6 k x hx (h6 k x hx h), fun k x hx h => k7 k x hx (h7 k x hx h), fun k t cs hn h => k8 k t cs hn (h8 k t cs hn h)⟩
  of_le := by
    intro a b h
    exact ⟨h.os, h.tape, h.output, h.size, fun k _ hk => h.block k hk, fun k x _ ⟨cs, hr, hs⟩ => ⟨cs, hr.le h, hs⟩, fun k x _ ⟨cs, hr, hs⟩ => ⟨cs, hr.le h, hs⟩, fun k t cs _ hr => hr.le h⟩
theorem newX_le {B : Nat} {T : List (TypeId × Nat × (Array Value → Prop))} {w w' : World} (h : (newX B T).R w w') (hB : w.heap.size = B) : le w w' :=
  ⟨h.1, h.2.1, h.2.2.1, h.2.2.2.1, fun k hk => h.2.2.2.2.1 k (by omega) hk⟩
theorem newX_row {B : Nat} {T : List (TypeId × Nat × (Array Value → Prop))} {w w' : World} (h : (newX B T).R w w') {g : Nat} {t : TypeId} {cs : Array Value} (hr : Row w g t cs) (hg : g < B) : Row w' g t cs := by
  have := h.2.2.2.2.1 g hg hr.lt
  unfold Row at *
  rw [this]; exact hr
/-- Block b is a row of type t, of n cells. -/
def IsRow (b : Nat) (t : TypeId) (n : Nat) (w : World) : Prop := ∃ cs, Row w b t cs ∧ cs.size = n

section
variable {E : Ext} {P : Program} {ops : Array Oper} {W : World} {K : FuncId → Array Value → World → Value → Prop} {Q : Act → World → Prop} {F : Facts} {k : Nat} {o : Oper} {rest : List Oper} {a : Act}
theorem wpFreeD_nil (h : ∀ w, E.R W w → (∀ e, F e w) → Q a w) : wpFreeD E P ops .any W K Q [] k a F := h
theorem wpFreeD_one (hg : o.guard = none) (v : Value) (hr : ∀ w, E.R W w → (execOp a.eval o).run P w = .ok (.value v) w)
    (h : wpFreeD E P ops .any W K Q rest (k + 1) (a.put o.dst v) (F.with k (fun _ => True))) : wpFreeD E P ops .any W K Q (o :: rest) k a F := by
  refine ⟨fun _ u => u = v, ⟨fun _ _ _ _ h => h, .inl ⟨by simp [Region.wanted, hg], fun w hw _ => ?_⟩⟩, fun u hu => ?_⟩
  · rw [hr w hw]; exact ⟨E.refl w, rfl⟩
  · obtain ⟨w, _, _, rfl⟩ := hu
    exact wpFreeD_weaken _ _ _ _ _ (fun e w h => ⟨h.1, fun _ => trivial⟩) h
theorem wpFreeD_call (hg : o.guard = none) {f : FuncId} {xs : Array Operand} {ts : Array TypeId} (hop : o.op = Op.call { callee := Callee.value (Operand.func f), args := xs, argTypes := ts }) {fn : Func} (hf : P.funcs[f]? = some fn)
    (hb : fn.body.isNone = false) (hn : (fn.name == "runtime.NumGoroutine") = false) {args : Array Value} (ha : xs.map a.eval = args) (hm : MonoT E (K f args))
    (h1 : ∀ w, E.R W w → Calls P f args w (fun e w' => ∃ v, e = .returned v ∧ le w w' ∧ K f args w' v)) (h2 : ∀ v, (∃ w, K f args w v) → wpFreeD E P ops .any W K Q rest (k + 1) (a.put o.dst v) (F.with k (fun w => K f args w v))) : wpFreeD E P ops .any W K Q (o :: rest) k a F := by
  refine ⟨K f args, ⟨hm, .inl ⟨by simp [Region.wanted, hg], fun w hw _ => ?_⟩⟩, fun v hv => h2 v (by obtain ⟨w, _, _, h⟩ := hv; exact ⟨w, h⟩)⟩
  rw [run_enter hop hf hb hn ha]
  refine ⟨E.refl w, (h1 w hw).mono ?_, fun _ _ h => h⟩
  rintro e w' ⟨v, rfl, hl, hk⟩
  exact ⟨v, rfl, E.of_le hl, hk⟩
variable {B : Nat} {T : List (TypeId × Nat × (Array Value → Prop))}
theorem wpFreeD_load (hg : o.guard = none) {ty : TypeId} {x : Operand} (hop : o.op = .load ty x) {g : Nat} (hx : a.eval x = .pointer (some ⟨g, 0, none⟩)) {t : TypeId} {cs : Array Value} {d : TypeDesc}
    (hr : Row W g t cs) (hB : g < B) (hu : P.underlying ty = some d) (hd : (match d with | .struct _ | .array _ _ => true | _ => false) = true) {m : Nat} (hi : (P.info? ty).map (·.size) = some m) (hm : cs.size = m)
    (h : wpFreeD (newX B T) P ops .any W K Q rest (k + 1) (a.put o.dst (.agg cs)) (F.with k (fun _ => True))) : wpFreeD (newX B T) P ops .any W K Q (o :: rest) k a F := by
  subst hm
  refine wpFreeD_one hg (.agg cs) (fun w hw => ?_) h
  have := run_loadVar_row (P := P) w g t ty cs (0, 0) _ (newX_row hw hr hB) hu hd hi
  simp [execOp, hop, hx, Instr.loadAt, Instr.sureAddr, this, Result.andThen]
theorem wpFreeD_alloc (hg : o.guard = none) {ty : TypeId} (hop : o.op = .alloc ty) (cs : Array Value)
    (hr : ∀ w, (Instr.alloc ty true (.tuple #[])).run P w = .ok (.pointer (some ⟨w.heap.size, 0, none⟩)) (w.alloc (.cells cs ty))) {n : Nat} {p : Array Value → Prop} (hT : (ty, n, p) ∈ T) (hs : cs.size = n) (hB : W.heap.size = B)
    (h : ∀ b, B ≤ b → wpFreeD (newX B T) P ops .any W K Q rest (k + 1) (a.put o.dst (.pointer (some ⟨b, 0, none⟩))) (F.with k (IsRow b ty n))) : wpFreeD (newX B T) P ops .any W K Q (o :: rest) k a F := by
  refine ⟨fun w v => ∃ b, v = .pointer (some ⟨b, 0, none⟩) ∧ B ≤ b ∧ IsRow b ty n w, ⟨fun v w w' hw hv => ?_, .inl ⟨by simp [Region.wanted, hg], fun w hw _ => ?_⟩⟩, fun v hv => ?_⟩
  · obtain ⟨b, e, h1, h2⟩ := hv; exact ⟨b, e, h1, hw.2.2.2.2.2.2.1 b _ hT h2⟩
  · simp [execOp, hop, hr, Result.andThen, insideT]
    exact ⟨(newX B T).of_le (le_alloc w _), by have := hw.2.2.2.1; omega, cs, Row.new w ty cs, hs⟩
  · obtain ⟨w, _, _, b, rfl, hb, _⟩ := hv
    exact wpFreeD_weaken _ _ _ _ _ (fun e w h => ⟨h.1, fun he => by obtain ⟨b', e', _, h'⟩ := h.2 he; obtain rfl : b = b' := by simpa using e'
                                                                    exact h'⟩) (h b hb)
theorem wpFreeD_store (hg : o.guard = none) {ty : TypeId} {x y : Operand} (hop : o.op = .store ty x y) {b : Nat} (hx : a.eval x = .pointer (some ⟨b, 0, none⟩)) {cells : Array Value} (hy : a.eval y = .agg cells)
    {n : Nat} {p : Array Value → Prop} (hT : (ty, n, p) ∈ T) (hp : p cells) (hd : ∀ x ∈ T, ∀ y ∈ T, x.1 = y.1 → x = y) (hb : B ≤ b) (hpre : ∀ w, behind .any o F w → IsRow b ty n w) (hi : (P.info? ty).map (·.size) = some n) (hm : cells.size = n) (h1 : cells.all (·.oneCell') = true)
    (h : wpFreeD (newX B T) P ops .any W K Q rest (k + 1) (a.put o.dst undef) (F.with k (fun w => ∃ cs, Row w b ty cs ∧ p cs))) : wpFreeD (newX B T) P ops .any W K Q (o :: rest) k a F := by
  subst hm
  refine ⟨fun w v => v = undef ∧ ∃ cs, Row w b ty cs ∧ p cs, ⟨fun v w w' hw hv => ⟨hv.1, hw.2.2.2.2.2.1 b _ hT hv.2⟩, .inl ⟨by simp [Region.wanted, hg], fun w hw hbe => ?_⟩⟩, fun v hv => ?_⟩
  · obtain ⟨cs, hc, hcs⟩ := hpre w hbe
    have hrun := run_storeVar_row (P := P) w b ty ty cs cells hc hi hcs h1
    have : (execOp a.eval o).run P w = .ok .skip (w.setRow b cells) := by
      unfold execOp
      simp only [hop, hx, hy, Instr.storeAt, Instr.sureAddr, Sem.run_bind, Sem.run_pure, Result.andThen_ok, hrun]
    rw [this]
    have hrow : Row (w.setRow b cells) b ty cells := hc.setRow _
    have one : ∀ q t' c', Row w q t' c' → q = b → t' = ty ∧ c' = cs := by
      rintro q t' c' hq rfl
      unfold Row at hq hc
      rw [hc] at hq
      simp only [Option.some.injEq, Obj.cells.injEq] at hq
      exact ⟨hq.2.1.symm, hq.1.symm⟩
    refine ⟨⟨rfl, rfl, rfl, by simp, fun q hq _ => ?_, fun q x' hx' ⟨c', hrx, hsx⟩ => ?_, fun q x' hx' ⟨c', hrx, hsx⟩ => ?_, fun q t' c' hn hrx => ?_⟩, rfl, cells, hrow, hp⟩
    · unfold World.setRow
      rw [Array.getElem?_modify, if_neg (by omega)]
    · by_cases e : q = b
      · have := hd x' hx' _ hT (one _ _ _ hrx e).1
        subst this; subst e; exact ⟨cells, hrow, hp⟩
      · exact ⟨c', hrx.setRow_other e _, hsx⟩
    · by_cases e : q = b
      · have := hd x' hx' _ hT (one _ _ _ hrx e).1
        subst this; subst e; exact ⟨cells, hrow, rfl⟩
      · exact ⟨c', hrx.setRow_other e _, hsx⟩
    · by_cases e : q = b
      · exact absurd (one _ _ _ hrx e).1.symm (hn _ hT)
      · exact hrx.setRow_other e _
  · obtain ⟨w, _, _, rfl, _⟩ := hv
    exact wpFreeD_weaken _ _ _ _ _ (fun e w h => ⟨h.1, fun he => (h.2 he).2⟩) h
end
theorem region_newD {P : Program} (T : List (TypeId × Nat × (Array Value → Prop))) (K : FuncId → Array Value → World → Value → Prop) {id : Nat} {Q : Exit → Act → World → Prop} {a : Act} {w : World} {l : List Oper} (hm : P.follows .mixedOrders = true)
    (hB : (Region.noSelect l.toArray && Region.lexHead .any l.toArray 0 l.length 0 (Array.replicate l.toArray.size false)) = true)
    (h : wpFreeD (newX (w.drewN 1).heap.size T) P l.toArray .any (w.drewN 1) K (fun a' w' => Q .normal a' w') l 0 a noFacts) : (Code.region id l.toArray true).wp P Q a w :=
  region_freeD K hm hB h
end Go.Fk

/- How an argument that is an array of floats or of integers is opened. Nothing here names a program. -/
namespace Go.Fk
open Go Go.RowKit Go.ChangeShapes

theorem list_form {α β : Type} (f : α → β) (p : α → Prop) : ∀ l : List β, (∀ c ∈ l, ∃ x, c = f x ∧ p x) → ∃ xs : List α, l = xs.map f ∧ ∀ x ∈ xs, p x := by
  intro l
  induction l with
  | nil => intro _; exact ⟨[], rfl, by simp⟩
  | cons c l ih =>
    intro h
    obtain ⟨x, hx, px⟩ := h c (by simp)
    obtain ⟨xs, hxs, pxs⟩ := ih (fun c hc => h c (by simp [hc]))
    refine ⟨x :: xs, by simp [hx, hxs], ?_⟩
    intro y hy
    rcases List.mem_cons.1 hy with rfl | hy
    · exact px
    · exact pxs y hy

section
variable {H : Type} {enc : TypeId × Value → H} {P : Program} {w : World} {base : Nat} {spare : Nat → Bool} {held : Bool}

theorem trod_float_cell {e : TypeId} {k : FloatKind} {m : Nat} {c : Value} {x : DataW H × List MemPlace} (he : P.underlying e = some (.float k))
    (h : DataW.trod enc P w base spare held m e [c] = some x) : ∃ b, c = .float k b ∧ fits k b := by
  cases m with
  | zero => simp [DataW.trod] at h
  | succ m =>
    simp only [DataW.trod, he] at h
    cases c <;> simp_all
    exact h.1.2
theorem trod_int_cell {e : TypeId} {k : IntKind} {m : Nat} {c : Value} {x : DataW H × List MemPlace} (he : P.underlying e = some (.int k))
    (h : DataW.trod enc P w base spare held m e [c] = some x) : ∃ b, c = .int k b ∧ (Lit.int k b).wf = true := by
  cases m with
  | zero => simp [DataW.trod] at h
  | succ m =>
    simp only [DataW.trod, he] at h
    cases c <;> simp_all

theorem open_arr {α : Type} (f : α → Value) (pr : α → Prop) {n : Nat} {r : Reach} {b0 : Nat} {t e : TypeId} {v : Value} {d : DataW H} {ps : List MemPlace} (ht : P.underlying t = some (.array n e))
    (hcell : ∀ m c (x : DataW H × List MemPlace), DataW.trod enc P w base spare held m e [c] = some x → ∃ b, c = f b ∧ pr b)
    (hce : P.cellsOf e = 1) (hct : P.cellsOf t = n) (hval : Value.okWide P w r b0 t v) (hd : DataW.Trod enc P w base spare held t v d ps) :
    ∃ xs : List α, v = .agg (xs.map f).toArray ∧ xs.length = n ∧ ∀ b ∈ xs, pr b := by
  simp only [Value.okWide, ht] at hval
  obtain ⟨cs, rfl, hsz, _⟩ := hval
  obtain ⟨fuel, hf⟩ := hd
  simp only [Value.cells] at hf
  obtain ⟨xs, m, _, _, _, hl, hi⟩ := DataW.trod_array ht hf
  have hlen : cs.toList.length = n := by simpa using hsz.trans hct
  obtain ⟨l, hl', hp⟩ := list_form f pr cs.toList (by
    intro c hc
    obtain ⟨i, hi1, hi2⟩ := List.getElem_of_mem hc
    have h := hi i (by omega)
    rw [hce, Nat.mul_one] at h
    rw [List.drop_eq_getElem_cons hi1, hi2, List.take_succ_cons, List.take_zero] at h
    rw [List.getElem?_eq_getElem (by omega)] at h
    exact hcell m c _ h)
  refine ⟨l, ?_, ?_, hp⟩
  · rw [← hl', Array.toArray_toList]
  · rw [hl'] at hlen; simpa using hlen

theorem open_farr {n : Nat} {r : Reach} {b0 : Nat} {t e : TypeId} {k : FloatKind} {v : Value} {d : DataW H} {ps : List MemPlace} (ht : P.underlying t = some (.array n e)) (he : P.underlying e = some (.float k))
    (hce : P.cellsOf e = 1) (hct : P.cellsOf t = n) (hval : Value.okWide P w r b0 t v) (hd : DataW.Trod enc P w base spare held t v d ps) :
    ∃ xs : List Nat, v = .agg (xs.map (Value.float k)).toArray ∧ xs.length = n ∧ ∀ b ∈ xs, fits k b :=
  open_arr (Value.float k) (fits k) ht (fun _ _ _ h => trod_float_cell he h) hce hct hval hd
theorem open_iarr {n : Nat} {r : Reach} {b0 : Nat} {t e : TypeId} {k : IntKind} {v : Value} {d : DataW H} {ps : List MemPlace} (ht : P.underlying t = some (.array n e)) (he : P.underlying e = some (.int k))
    (hce : P.cellsOf e = 1) (hct : P.cellsOf t = n) (hval : Value.okWide P w r b0 t v) (hd : DataW.Trod enc P w base spare held t v d ps) :
    ∃ xs : List Int, v = .agg (xs.map (Value.int k)).toArray ∧ xs.length = n ∧ ∀ b ∈ xs, (Lit.int k b).wf = true :=
  open_arr (Value.int k) (fun b => (Lit.int k b).wf = true) ht (fun _ _ _ h => trod_int_cell he h) hce hct hval hd
end
end Go.Fk

/- How an argument that is a struct of floats is opened, and one with a slice of floats. Nothing here names a program. -/
namespace Go.Fk
open Go Go.RowKit Go.ChangeShapes

section
variable {H : Type} {enc : TypeId × Value → H} {P : Program} {w : World} {base : Nat} {spare : Nat → Bool} {held : Bool}

theorem trod_arr {α : Type} (f : α → Value) (pr : α → Prop) {n : Nat} {t e : TypeId} {cs : List Value} {fuel : Nat} {x : DataW H × List MemPlace} (ht : P.underlying t = some (.array n e))
    (hcell : ∀ m c (x : DataW H × List MemPlace), DataW.trod enc P w base spare held m e [c] = some x → ∃ b, c = f b ∧ pr b)
    (hce : P.cellsOf e = 1) (hct : P.cellsOf t = n) (hf : DataW.trod enc P w base spare held fuel t cs = some x) :
    ∃ xs : List α, cs = xs.map f ∧ xs.length = n ∧ ∀ b ∈ xs, pr b := by
  obtain ⟨xs, m, _, _, hlen, hl, hi⟩ := DataW.trod_array ht hf
  have hlen : cs.length = n := hlen.trans hct
  obtain ⟨l, hl', hp⟩ := list_form f pr cs (by
    intro c hc
    obtain ⟨i, hi1, hi2⟩ := List.getElem_of_mem hc
    have h := hi i (by omega)
    rw [hce, Nat.mul_one] at h
    rw [List.drop_eq_getElem_cons hi1, hi2, List.take_succ_cons, List.take_zero] at h
    rw [List.getElem?_eq_getElem (by omega)] at h
    exact hcell m c _ h)
  refine ⟨l, hl', ?_, hp⟩
  rw [hl'] at hlen; simpa using hlen

theorem trod_farr {n : Nat} {t e : TypeId} {k : FloatKind} {cs : List Value} {fuel : Nat} {x : DataW H × List MemPlace} (ht : P.underlying t = some (.array n e)) (he : P.underlying e = some (.float k))
    (hce : P.cellsOf e = 1) (hct : P.cellsOf t = n) (hf : DataW.trod enc P w base spare held fuel t cs = some x) :
    ∃ xs : List Nat, cs = xs.map (Value.float k) ∧ xs.length = n ∧ ∀ b ∈ xs, fits k b :=
  trod_arr (Value.float k) (fits k) ht (fun _ _ _ h => trod_float_cell he h) hce hct hf

/-- A struct of an integer, an array of three floats and one of two. -/
theorem open_filter {r : Reach} {b0 : Nat} {t t0 t1 t2 e : TypeId} {f0 f1 f2 : Field} {v : Value} {d : DataW H} {ps : List MemPlace} (ht : P.underlying t = some (.struct #[f0, f1, f2]))
    (e0 : (f0.type, f0.offset) = (t0, 0)) (e1 : (f1.type, f1.offset) = (t1, 1)) (e2 : (f2.type, f2.offset) = (t2, 4))
    (h0 : P.underlying t0 = some (.int .i64)) (h1 : P.underlying t1 = some (.array 3 e)) (h2 : P.underlying t2 = some (.array 2 e)) (he : P.underlying e = some (.float .f32))
    (c0 : P.cellsOf t0 = 1) (c1 : P.cellsOf t1 = 3) (c2 : P.cellsOf t2 = 2) (ce : P.cellsOf e = 1) (ct : P.cellsOf t = 6)
    (hval : Value.okWide P w r b0 t v) (hd : DataW.Trod enc P w base spare held t v d ps) :
    ∃ (k : Int) (a b c x y : Nat), v = .agg #[.int .i64 k, .float .f32 a, .float .f32 b, .float .f32 c, .float .f32 x, .float .f32 y] ∧ (Lit.int .i64 k).wf = true ∧ fits .f32 a ∧ fits .f32 b ∧ fits .f32 c ∧ fits .f32 x ∧ fits .f32 y := by
  simp only [Value.okWide, ht] at hval
  obtain ⟨cs, rfl, hsz, _⟩ := hval
  obtain ⟨fuel, hf⟩ := hd
  simp only [Value.cells] at hf
  obtain ⟨xs, m, _, _, hlen, hl, hi⟩ := DataW.trod_struct ht hf
  simp only [Prod.mk.injEq] at e0 e1 e2
  have g0 := hi 0 f0 rfl
  have g1 := hi 1 f1 rfl
  have g2 := hi 2 f2 rfl
  rw [e0.1, e0.2, c0] at g0
  rw [e1.1, e1.2, c1] at g1
  rw [e2.1, e2.2, c2] at g2
  rw [List.getElem?_eq_getElem (by simp_all)] at g0 g1 g2
  have hlen : cs.toList.length = 6 := hlen.trans ct
  obtain ⟨l1, q1, n1, p1⟩ := trod_farr h1 he ce c1 g1
  obtain ⟨l2, q2, n2, p2⟩ := trod_farr h2 he ce c2 g2
  obtain ⟨l⟩ := cs
  simp only at *
  match l, hlen, l1, n1, l2, n2 with
  | [v0, v1, v2, v3, v4, v5], _, [a, b, c], _, [x, y], _ =>
    simp only [List.drop_zero, List.drop_succ_cons, List.take_succ_cons, List.take_zero, List.map_cons, List.map_nil, List.cons.injEq, and_true] at q1 q2 g0
    obtain ⟨rfl, rfl, rfl⟩ := q1
    obtain ⟨rfl, rfl⟩ := q2
    obtain ⟨k, rfl, hk⟩ := trod_int_cell h0 g0
    exact ⟨k, a, b, c, x, y, rfl, hk, p1 _ (by simp), p1 _ (by simp), p1 _ (by simp), p2 _ (by simp), p2 _ (by simp)⟩

/-- What an argument that is a slice of floats is: nil, or cells that lie somewhere. -/
def IsSl (w : World) (v : Value) (g : Nat → Nat) (n : Nat) : Prop :=
  (v = .slice none 0 0 ∧ n = 0) ∨ ∃ (a : Addr) (cap : Nat), v = .slice (some a) n cap ∧ n ≤ cap ∧ cap ≤ maxLen ∧ a.block < w.heap.size ∧ ∀ i, i < n → w.cell? (a.add i) = some (.float .f32 (g i))
end
end Go.Fk

/- How an argument that is a struct of a slice of floats and an integer is opened. Nothing here names a program. -/
namespace Go.Fk
open Go Go.RowKit Go.ChangeShapes
/-- A slice of n floats as it comes: nil, or cells that lie somewhere. -/
def SlIn (w : World) (v : Value) (x : Nat → Nat) (n : Nat) : Prop :=
  (v = .slice none 0 0 ∧ n = 0) ∨ ∃ (a : Addr) (cap : Nat), v = .slice (some a) n cap ∧ n ≤ cap ∧ cap ≤ maxLen ∧ ∀ i, i < n → w.cell? (a.add i) = some (.float .f32 (x i)) ∧ fits .f32 (x i)
section
variable {H : Type} {enc : TypeId × Value → H} {P : Program} {w : World} {base : Nat} {spare : Nat → Bool} {held : Bool}
theorem trod_fslice {t e : TypeId} {fuel : Nat} {cs : List Value} {x : DataW H × List MemPlace} (ht : P.underlying t = some (.slice e)) (he : P.underlying e = some (.float .f32)) (hc : P.cellsOf e = 1)
    (h : DataW.trod enc P w base spare held fuel t cs = some x) : ∃ v f n, cs = [v] ∧ SlIn w v f n := by
  rcases Go.Deep.open_slice1 ht hc h with ⟨rfl, _⟩ | ⟨a, len, cap, m, n, V, D, Pl, rfl, hb, hl, hm, hmm, _, hx⟩
  · exact ⟨_, fun _ => 0, 0, rfl, .inl ⟨rfl, rfl⟩⟩
  · have hle : len ≤ m := by rw [hmm]; split <;> omega
    refine ⟨_, fun i => match V i with | .float _ b => b | _ => 0, len, rfl, .inr ⟨a, cap, rfl, hl, hm, fun i hi => ?_⟩⟩
    obtain ⟨h1, h2⟩ := hx i (by omega)
    obtain ⟨b, hV, hf⟩ := trod_float_cell he h2
    simp only [hV] at h1 ⊢
    exact ⟨h1, hf⟩
theorem open_ring {r : Reach} {b0 : Nat} {t t0 t1 e : TypeId} {f0 f1 : Field} {v : Value} {d : DataW H} {ps : List MemPlace} (ht : P.underlying t = some (.struct #[f0, f1]))
    (e0 : (f0.type, f0.offset) = (t0, 0)) (e1 : (f1.type, f1.offset) = (t1, 1))
    (h0 : P.underlying t0 = some (.slice e)) (h1 : P.underlying t1 = some (.int .i64)) (he : P.underlying e = some (.float .f32))
    (c0 : P.cellsOf t0 = 1) (c1 : P.cellsOf t1 = 1) (ce : P.cellsOf e = 1) (ct : P.cellsOf t = 2)
    (hval : Value.okWide P w r b0 t v) (hd : DataW.Trod enc P w base spare held t v d ps) :
    ∃ (s : Value) (x : Nat → Nat) (n : Nat) (k : Int), v = .agg #[s, .int .i64 k] ∧ (Lit.int .i64 k).wf = true ∧ SlIn w s x n := by
  simp only [Value.okWide, ht] at hval
  obtain ⟨cs, rfl, hsz, _⟩ := hval
  obtain ⟨fuel, hf⟩ := hd
  simp only [Value.cells] at hf
  obtain ⟨xs, m, _, _, hlen, hl, hi⟩ := DataW.trod_struct ht hf
  simp only [Prod.mk.injEq] at e0 e1
  have g0 := hi 0 f0 rfl
  have g1 := hi 1 f1 rfl
  rw [e0.1, e0.2, c0] at g0
  rw [e1.1, e1.2, c1] at g1
  rw [List.getElem?_eq_getElem (by simp_all)] at g0 g1
  have hlen : cs.toList.length = 2 := hlen.trans ct
  obtain ⟨l⟩ := cs
  simp only at *
  match l, hlen with
  | [v0, v1], _ =>
    simp only [List.drop_zero, List.drop_succ_cons, List.take_succ_cons, List.take_zero] at g0 g1
    obtain ⟨s, f, n, hs, hsl⟩ := trod_fslice h0 he ce g0
    obtain ⟨k, rfl, hk⟩ := trod_int_cell h1 g1
    simp only [List.cons.injEq, and_true] at hs
    subst hs
    exact ⟨_, f, n, k, rfl, hk, hsl⟩
theorem open_fsl {r : Reach} {b0 : Nat} {t e : TypeId} {v : Value} {d : DataW H} {ps : List MemPlace} (ht : P.underlying t = some (.slice e)) (he : P.underlying e = some (.float .f32)) (ce : P.cellsOf e = 1)
    (hval : Value.okWide P w r b0 t v) (hd : DataW.Trod enc P w base spare held t v d ps) : ∃ (s : Value) (x : Nat → Nat) (n : Nat), v = s ∧ SlIn w s x n := by
  obtain ⟨fuel, hf⟩ := hd
  obtain ⟨v', f, n, hc, hsl⟩ := trod_fslice ht he ce hf
  refine ⟨v', f, n, ?_, hsl⟩
  cases v with
  | agg cs => simp [Value.okWide, Cell.okWide, Cell.ok, ht] at hval
  | _ => simpa [Value.cells] using hc
end
end Go.Fk

/- Facts of memory, all in one hypothesis: each speaks of a range of blocks. Slices of floats, up to the bits of NaN. Nothing here names a program. -/
namespace Go.Fk
open Go Go.RowKit

/-- Of what was there, blocks of S alone may have turned. -/
structure Chg (S : Nat → Prop) (w w' : World) : Prop where
  os : w'.os = w.os
  tape : w'.tape = w.tape
  output : w'.output = w.output
  size : w.heap.size ≤ w'.heap.size
  block : ∀ k, k < w.heap.size → ¬ S k → w'.heap[k]? = w.heap[k]?
/-- Blocks from lo to hi. -/
def rng (lo hi : Nat) (k : Nat) : Prop := lo ≤ k ∧ k < hi
namespace Chg
variable {S T : Nat → Prop} {w w' w'' : World}
theorem refl (S : Nat → Prop) (w : World) : Chg S w w := ⟨rfl, rfl, rfl, Nat.le_refl _, fun _ _ _ => rfl⟩
theorem of_le (k : Fk.le w w') : Chg S w w' := ⟨k.os, k.tape, k.output, k.size, fun i hi _ => k.block i hi⟩
theorem trans (h : Chg S w w') (k : Chg S w' w'') : Chg S w w'' :=
  ⟨k.os.trans h.os, k.tape.trans h.tape, k.output.trans h.output, Nat.le_trans h.size k.size, fun i hi hn => (k.block i (Nat.lt_of_lt_of_le hi h.size) hn).trans (h.block i hi hn)⟩
theorem le (h : Chg S w w') (k : Fk.le w' w'') : Chg S w w'' := h.trans (of_le k)
theorem setCell (h : Chg S w w') {a : Addr} (h1 : S a.block) (v : Value) : Chg S w (w'.setCell a v) :=
  ⟨h.os, h.tape, h.output, by simpa using h.size, fun i hi hn => (Below.heap_setCell _ _ _ _ (by intro e; subst e; exact hn h1)).trans (h.block i hi hn)⟩
theorem mono (h : Chg S w w') (hS : ∀ k, S k → T k) : Chg T w w' :=
  ⟨h.os, h.tape, h.output, h.size, fun i hi hn => h.block i hi (fun hs => hn (hS i hs))⟩
theorem below (h : Chg S w w') {B : Nat} (hB : ∀ k, S k → B ≤ k) (hw : B ≤ w.heap.size) : Below B w w' :=
  ⟨h.os, h.tape, h.output, h.size, fun i hi => h.block i (by omega) (fun hs => by have := hB i hs; omega)⟩
theorem row (h : Chg S w w') {g : Nat} {t : TypeId} {cs : Array Value} (hr : Row w g t cs) (hn : ¬ S g) : Row w' g t cs := by
  have := h.block g hr.lt hn
  unfold Row at *; rw [this]; exact hr
theorem wrote (h : Chg S w w') {g : Nat} {t : TypeId} {cs : Array Value} (k : Wrote w' w'' g t cs) (hg : S g) : Chg S w w'' :=
  have kb := k.below 0 w' (Below.refl _ _) (Nat.zero_le _)
  h.trans ⟨kb.os, kb.tape, kb.output, kb.size, fun i _ hn => k.block i (fun e => hn (e ▸ hg))⟩
end Chg

/-- What is known of memory, and the blocks that it speaks of. -/
structure Fact where
  lo : Nat
  hi : Nat
  p : World → Prop
  ok : ∀ w w', p w → (∀ k, lo ≤ k → k < hi → w'.heap[k]? = w.heap[k]?) → p w'

/-- Nothing that 'w0' holds has turned; and these facts, the newest first: each speaks of blocks that are newer than those of the next. -/
structure Frg (w0 w : World) (L : List Fact) : Prop where
  below : le w0 w
  facts : ∀ e ∈ L, w0.heap.size ≤ e.lo ∧ e.hi ≤ w.heap.size ∧ e.p w
  apart : L.Pairwise (fun a b => b.hi ≤ a.lo)

theorem m0 {a : Fact} {l : List Fact} : a ∈ a :: l := List.mem_cons_self
theorem m1 {b0 a : Fact} {l : List Fact} : a ∈ b0 :: a :: l := List.mem_cons_of_mem _ (List.mem_cons_self)
theorem m2 {b0 b1 a : Fact} {l : List Fact} : a ∈ b0 :: b1 :: a :: l := List.mem_cons_of_mem _ (List.mem_cons_of_mem _ (List.mem_cons_self))
theorem m3 {b0 b1 b2 a : Fact} {l : List Fact} : a ∈ b0 :: b1 :: b2 :: a :: l := List.mem_cons_of_mem _ (List.mem_cons_of_mem _ (List.mem_cons_of_mem _ (List.mem_cons_self)))
theorem m4 {b0 b1 b2 b3 a : Fact} {l : List Fact} : a ∈ b0 :: b1 :: b2 :: b3 :: a :: l := List.mem_cons_of_mem _ (List.mem_cons_of_mem _ (List.mem_cons_of_mem _ (List.mem_cons_of_mem _ (List.mem_cons_self))))
theorem m5 {b0 b1 b2 b3 b4 a : Fact} {l : List Fact} : a ∈ b0 :: b1 :: b2 :: b3 :: b4 :: a :: l := List.mem_cons_of_mem _ (List.mem_cons_of_mem _ (List.mem_cons_of_mem _ (List.mem_cons_of_mem _ (List.mem_cons_of_mem _ (List.mem_cons_self)))))
theorem m6 {b0 b1 b2 b3 b4 b5 a : Fact} {l : List Fact} : a ∈ b0 :: b1 :: b2 :: b3 :: b4 :: b5 :: a :: l := List.mem_cons_of_mem _ (List.mem_cons_of_mem _ (List.mem_cons_of_mem _ (List.mem_cons_of_mem _ (List.mem_cons_of_mem _ (List.mem_cons_of_mem _ (List.mem_cons_self))))))
theorem m7 {b0 b1 b2 b3 b4 b5 b6 a : Fact} {l : List Fact} : a ∈ b0 :: b1 :: b2 :: b3 :: b4 :: b5 :: b6 :: a :: l := List.mem_cons_of_mem _ (List.mem_cons_of_mem _ (List.mem_cons_of_mem _ (List.mem_cons_of_mem _ (List.mem_cons_of_mem _ (List.mem_cons_of_mem _ (List.mem_cons_of_mem _ (List.mem_cons_self)))))))
theorem m8 {b0 b1 b2 b3 b4 b5 b6 b7 a : Fact} {l : List Fact} : a ∈ b0 :: b1 :: b2 :: b3 :: b4 :: b5 :: b6 :: b7 :: a :: l := List.mem_cons_of_mem _ (List.mem_cons_of_mem _ (List.mem_cons_of_mem _ (List.mem_cons_of_mem _ (List.mem_cons_of_mem _ (List.mem_cons_of_mem _ (List.mem_cons_of_mem _ (List.mem_cons_of_mem _ (List.mem_cons_self))))))))
theorem m9 {b0 b1 b2 b3 b4 b5 b6 b7 b8 a : Fact} {l : List Fact} : a ∈ b0 :: b1 :: b2 :: b3 :: b4 :: b5 :: b6 :: b7 :: b8 :: a :: l := List.mem_cons_of_mem _ (List.mem_cons_of_mem _ (List.mem_cons_of_mem _ (List.mem_cons_of_mem _ (List.mem_cons_of_mem _ (List.mem_cons_of_mem _ (List.mem_cons_of_mem _ (List.mem_cons_of_mem _ (List.mem_cons_of_mem _ (List.mem_cons_self)))))))))
theorem m10 {b0 b1 b2 b3 b4 b5 b6 b7 b8 b9 a : Fact} {l : List Fact} : a ∈ b0 :: b1 :: b2 :: b3 :: b4 :: b5 :: b6 :: b7 :: b8 :: b9 :: a :: l := List.mem_cons_of_mem _ (List.mem_cons_of_mem _ (List.mem_cons_of_mem _ (List.mem_cons_of_mem _ (List.mem_cons_of_mem _ (List.mem_cons_of_mem _ (List.mem_cons_of_mem _ (List.mem_cons_of_mem _ (List.mem_cons_of_mem _ (List.mem_cons_of_mem _ (List.mem_cons_self))))))))))
theorem m11 {b0 b1 b2 b3 b4 b5 b6 b7 b8 b9 b10 a : Fact} {l : List Fact} : a ∈ b0 :: b1 :: b2 :: b3 :: b4 :: b5 :: b6 :: b7 :: b8 :: b9 :: b10 :: a :: l := List.mem_cons_of_mem _ (List.mem_cons_of_mem _ (List.mem_cons_of_mem _ (List.mem_cons_of_mem _ (List.mem_cons_of_mem _ (List.mem_cons_of_mem _ (List.mem_cons_of_mem _ (List.mem_cons_of_mem _ (List.mem_cons_of_mem _ (List.mem_cons_of_mem _ (List.mem_cons_of_mem _ (List.mem_cons_self)))))))))))
def rowF (g : Nat) (t : TypeId) (cs : Array Value) : Fact := ⟨g, g + 1, fun w => Row w g t cs, fun w w' h hk => by
  unfold Row at *; rw [hk g (Nat.le_refl _) (Nat.lt_succ_self _)]; exact h⟩

/-- A slice of n floats that can be read; its blocks lie below B. -/
def RdS (w : World) (B : Nat) (s : Value) (x : Nat → Nat) (n : Nat) : Prop :=
  (s = .slice none 0 0 ∧ n = 0) ∨ ∃ (a : Addr) (cap : Nat), s = .slice (some a) n cap ∧ n ≤ cap ∧ cap ≤ maxLen ∧ ∀ i, i < n → a.block < B ∧ ∃ y, w.cell? (a.add i) = some (.float .f32 y) ∧ fits .f32 y ∧ can .f32 y = x i
/-- A slice of n floats that one may write, in blocks from lo to hi. -/
def OwnS (w : World) (lo hi : Nat) (s : Value) (x : Nat → Nat) (n : Nat) : Prop :=
  (s = .slice none 0 0 ∧ n = 0) ∨ ∃ (b o cap : Nat) (cs : Array Value), s = .slice (some ⟨b, o, none⟩) n cap ∧ n ≤ cap ∧ cap ≤ maxLen ∧ lo ≤ b ∧ b < hi ∧ Row w b 25 cs ∧ ∀ i, i < n → ∃ y, cs[o + i]? = some (.float .f32 y) ∧ fits .f32 y ∧ can .f32 y = x i

theorem add_block (a : Addr) (i : Nat) : (a.add i).block = a.block := by unfold Addr.add; split <;> rfl
theorem add_none (b o i : Nat) : (⟨b, o, none⟩ : Addr).add i = ⟨b, o + i, none⟩ := by
  unfold Addr.add; split
  · subst_vars; rfl
  · rfl
theorem cell_of_heap {w w' : World} {a : Addr} (h : w'.heap[a.block]? = w.heap[a.block]?) : w'.cell? a = w.cell? a := by simp [World.cell?, h]
def rdF (B : Nat) (s : Value) (x : Nat → Nat) (n : Nat) : Fact := ⟨0, B, fun w => RdS w B s x n, fun w w' h hk => by
  rcases h with h | ⟨a, cap, h1, h2, h3, h5⟩
  · exact .inl h
  · exact .inr ⟨a, cap, h1, h2, h3, fun i hi => by
      obtain ⟨h4, y, e1, e2⟩ := h5 i hi
      exact ⟨h4, y, (cell_of_heap (a := a.add i) (by rw [add_block]; exact hk a.block (Nat.zero_le _) h4)).trans e1, e2⟩⟩⟩
def ownF (lo hi : Nat) (s : Value) (x : Nat → Nat) (n : Nat) : Fact := ⟨lo, hi, fun w => OwnS w lo hi s x n, fun w w' h hk => by
  rcases h with h | ⟨b, o, cap, cs, h1, h2, h3, h4, h5, h6, h7⟩
  · exact .inl h
  · exact .inr ⟨b, o, cap, cs, h1, h2, h3, h4, h5, by unfold Row at *; rw [hk b h4 h5]; exact h6, h7⟩⟩
theorem OwnS.rd {w : World} {lo hi : Nat} {s : Value} {x : Nat → Nat} {n : Nat} (h : OwnS w lo hi s x n) : RdS w hi s x n := by
  rcases h with h | ⟨b, o, cap, cs, h1, h2, h3, h4, h5, h6, h7⟩
  · exact .inl h
  · exact .inr ⟨_, cap, h1, h2, h3, fun i hi => by
      obtain ⟨y, e1, e2⟩ := h7 i hi
      exact ⟨h5, y, by rw [add_none]; exact (h6.cell? (o + i)).trans e1, e2⟩⟩
theorem RdS.mono {w : World} {B B' : Nat} {s : Value} {x : Nat → Nat} {n : Nat} (h : RdS w B s x n) (hB : B ≤ B') : RdS w B' s x n := by
  rcases h with h | ⟨a, cap, h1, h2, h3, h5⟩
  · exact .inl h
  · exact .inr ⟨a, cap, h1, h2, h3, fun i hi => ⟨Nat.lt_of_lt_of_le (h5 i hi).1 hB, (h5 i hi).2⟩⟩
theorem OwnS.mono {w : World} {lo hi lo' hi' : Nat} {s : Value} {x : Nat → Nat} {n : Nat} (h : OwnS w lo hi s x n) (h1 : lo' ≤ lo) (h2 : hi ≤ hi') : OwnS w lo' hi' s x n := by
  rcases h with h | ⟨b, o, cap, cs, e1, e2, e3, e4, e5, e6, e7⟩
  · exact .inl h
  · exact .inr ⟨b, o, cap, cs, e1, e2, e3, by omega, by omega, e6, e7⟩
theorem RdS.congr {w : World} {B : Nat} {s : Value} {x x' : Nat → Nat} {n : Nat} (h : RdS w B s x n) (hx : ∀ i, i < n → x i = x' i) : RdS w B s x' n := by
  rcases h with h | ⟨a, cap, h1, h2, h3, h5⟩
  · exact .inl h
  · exact .inr ⟨a, cap, h1, h2, h3, fun i hi => by obtain ⟨h4, y, e1, e2, e3⟩ := h5 i hi; exact ⟨h4, y, e1, e2, e3.trans (hx i hi)⟩⟩
theorem OwnS.congr {w : World} {lo hi : Nat} {s : Value} {x x' : Nat → Nat} {n : Nat} (h : OwnS w lo hi s x n) (hx : ∀ i, i < n → x i = x' i) : OwnS w lo hi s x' n := by
  rcases h with h | ⟨b, o, cap, cs, h1, h2, h3, h4, h5, h6, h7⟩
  · exact .inl h
  · exact .inr ⟨b, o, cap, cs, h1, h2, h3, h4, h5, h6, fun i hi => by obtain ⟨y, e1, e2, e3⟩ := h7 i hi; exact ⟨y, e1, e2, e3.trans (hx i hi)⟩⟩
theorem RdS.le {w w' : World} {B : Nat} {s : Value} {x : Nat → Nat} {n : Nat} (h : RdS w B s x n) (hl : Fk.le w w') : RdS w' B s x n := by
  rcases h with h | ⟨a, cap, h1, h2, h3, h5⟩
  · exact .inl h
  · exact .inr ⟨a, cap, h1, h2, h3, fun i hi => by
      obtain ⟨h4, y, e1, e2⟩ := h5 i hi
      have hlt : (a.add i).block < w.heap.size := by
        apply Nat.lt_of_not_le
        intro hle
        have : w.heap[(a.add i).block]? = none := Array.getElem?_eq_none hle
        simp [World.cell?, this] at e1
      exact ⟨h4, y, (Below.cell hl hlt).trans e1, e2⟩⟩
theorem OwnS.le {w w' : World} {lo hi : Nat} {s : Value} {x : Nat → Nat} {n : Nat} (h : OwnS w lo hi s x n) (hl : Fk.le w w') : OwnS w' lo hi s x n := by
  rcases h with h | ⟨b, o, cap, cs, h1, h2, h3, h4, h5, h6, h7⟩
  · exact .inl h
  · exact .inr ⟨b, o, cap, cs, h1, h2, h3, h4, h5, h6.le hl, h7⟩
theorem RdS.small {w : World} {B : Nat} {s : Value} {x : Nat → Nat} {n : Nat} (h : RdS w B s x n) : n ≤ 9223372036854775807 := by
  rcases h with ⟨_, rfl⟩ | ⟨a, cap, h1, h2, h3, _⟩
  · omega
  · unfold maxLen at h3; omega
theorem SlIn.rd {w : World} {s : Value} {x : Nat → Nat} {n : Nat} (h : SlIn w s x n) : RdS w w.heap.size s (fun i => can .f32 (x i)) n := by
  rcases h with h | ⟨a, cap, h1, h2, h3, h4⟩
  · exact .inl h
  · exact .inr ⟨a, cap, h1, h2, h3, fun i hi => by
      obtain ⟨e1, e2⟩ := h4 i hi
      refine ⟨?_, _, e1, e2, rfl⟩
      show a.block < _
      rw [← add_block a i]
      apply Nat.lt_of_not_le
      intro hle
      have : w.heap[(a.add i).block]? = none := Array.getElem?_eq_none hle
      simp [World.cell?, this] at e1⟩

theorem OwnS.one {w : World} {lo hi : Nat} {s : Value} {x : Nat → Nat} {n : Nat} (h : OwnS w lo hi s x n) : s.oneCell' = true := by
  rcases h with ⟨rfl, _⟩ | ⟨b, o, cap, cs, rfl, _⟩ <;> rfl
theorem RdS.one {w : World} {B : Nat} {s : Value} {x : Nat → Nat} {n : Nat} (h : RdS w B s x n) : s.oneCell' = true := by
  rcases h with ⟨rfl, _⟩ | ⟨a, cap, rfl, _⟩ <;> rfl
theorem one_head {s : Value} {l : List Value} (h : s.oneCell' = true) (hl : l.all (·.oneCell') = true) : (s :: l).toArray.all (·.oneCell') = true := by
  simp only [List.all_toArray', List.all_cons, h, hl, Bool.and_self]
namespace Frg
variable {w0 w w' : World} {L : List Fact}
theorem nil (w : World) : Frg w w [] := ⟨le_refl w, by simp, .nil⟩
theorem le (h : Frg w0 w L) (k : Below w.heap.size w w') : Frg w0 w' L := ⟨le_trans h.below k, fun e he => by
  obtain ⟨h0, h1, h2⟩ := h.facts e he
  exact ⟨h0, Nat.le_trans h1 k.size, e.ok w w' h2 (fun i _ hi => k.block i (by omega))⟩, h.apart⟩
theorem drewN (h : Frg w0 w L) (n : Nat) : Frg w0 (w.drewN n) L := h.le (le_drewN w n)
theorem alloc (h : Frg w0 w L) (o : Obj) : Frg w0 (w.alloc o) L := h.le (le_alloc w o)
/-- A new fact, of blocks that are newer than all that was there. -/
theorem push (h : Frg w0 w L) (k : Below w.heap.size w w') {e : Fact} (he : e.p w') (hl : w.heap.size ≤ e.lo) (hh : e.hi ≤ w'.heap.size) : Frg w0 w' (e :: L) := by
  refine ⟨(h.le k).below, fun x hx => ?_, .cons (fun x hx => Nat.le_trans (h.facts x hx).2.1 hl) h.apart⟩
  rcases List.mem_cons.1 hx with rfl | hx
  · exact ⟨Nat.le_trans h.below.size hl, hh, he⟩
  · exact (h.le k).facts x hx
theorem box (h : Frg w0 w L) (t : TypeId) (cs : Array Value) : Frg w0 (w.alloc (.cells cs t)) (rowF w.heap.size t cs :: L) :=
  h.push (le_alloc w _) (Row.new w t cs) (Nat.le_refl _) (by simp [rowF])
theorem own1 (h : Frg w0 w L) (k : Below w.heap.size w w') {s : Value} {x : Nat → Nat} {n : Nat} (he : OwnS w' w.heap.size w'.heap.size s x n) : Frg w0 w' (ownF w.heap.size w'.heap.size s x n :: L) :=
  h.push k he (Nat.le_refl _) (Nat.le_refl _)
theorem row (h : Frg w0 w L) {g : Nat} {t : TypeId} {cs : Array Value} (hm : rowF g t cs ∈ L) : Row w g t cs := (h.facts _ hm).2.2
theorem own (h : Frg w0 w L) {lo hi : Nat} {s : Value} {x : Nat → Nat} {n : Nat} (hm : ownF lo hi s x n ∈ L) : OwnS w lo hi s x n := (h.facts _ hm).2.2
theorem size (h : Frg w0 w L) : w0.heap.size ≤ w.heap.size := h.below.size
theorem sub {L' : List Fact} (h : Frg w0 w L) (hs : L'.Sublist L) : Frg w0 w L' := ⟨h.below, fun x hx => h.facts x (hs.mem hx), h.apart.sublist hs⟩
/-- One fact's blocks are written: all other facts stand. -/
theorem chg (pre : List Fact) {post : List Fact} {e e' : Fact} (h : Frg w0 w (pre ++ e :: post)) (k : Chg (rng e.lo e.hi) w w') (hp : e'.p w') (h1 : e'.lo = e.lo) (h2 : e'.hi = e.hi) : Frg w0 w' (pre ++ e' :: post) := by
  have he := h.facts e (by simp)
  have hap := List.pairwise_append.1 h.apart
  have hap2 := List.pairwise_cons.1 hap.2.1
  refine ⟨h.below.trans (k.below (fun i hi => Nat.le_trans he.1 hi.1) h.size), fun x hx => ?_, ?_⟩
  · rcases List.mem_append.1 hx with hx | hx
    · have hx' := h.facts x (List.mem_append_left _ hx)
      have ha := hap.2.2 x hx e (by simp)
      exact ⟨hx'.1, Nat.le_trans hx'.2.1 k.size, x.ok w w' hx'.2.2 (fun i a b => k.block i (by omega) (fun c => by have := c.2; omega))⟩
    · rcases List.mem_cons.1 hx with rfl | hx
      · exact ⟨by rw [h1]; exact he.1, by rw [h2]; exact Nat.le_trans he.2.1 k.size, hp⟩
      · have hx' := h.facts x (List.mem_append_right _ (List.mem_cons_of_mem _ hx))
        have ha := hap2.1 x hx
        exact ⟨hx'.1, Nat.le_trans hx'.2.1 k.size, x.ok w w' hx'.2.2 (fun i a b => k.block i (by omega) (fun c => by have := c.1; omega))⟩
  · refine List.pairwise_append.2 ⟨hap.1, List.pairwise_cons.2 ⟨fun x hx => ?_, hap2.2⟩, fun x hx y hy => ?_⟩
    · show x.hi ≤ e'.lo; rw [h1]; exact hap2.1 x hx
    · rcases List.mem_cons.1 hy with rfl | hy
      · show y.hi ≤ x.lo; rw [h2]; exact hap.2.2 x hx e (by simp)
      · exact hap.2.2 x hx y (List.mem_cons_of_mem _ hy)
/-- A row is written. -/
theorem wrote (pre : List Fact) {post : List Fact} {g : Nat} {t : TypeId} {cs cs' : Array Value} (h : Frg w0 w (pre ++ rowF g t cs :: post)) (k : Wrote w w' g t cs') : Frg w0 w' (pre ++ rowF g t cs' :: post) :=
  chg pre (e := rowF g t cs) (e' := rowF g t cs') h ((Chg.refl (rng g (g + 1)) w).wrote k ⟨Nat.le_refl _, Nat.lt_succ_self _⟩) k.row rfl rfl
theorem setC (pre : List Fact) {post : List Fact} {g : Nat} {t : TypeId} {cs : Array Value} (h : Frg w0 w (pre ++ rowF g t cs :: post)) (i : Nat) (v : Value) : Frg w0 (w.setCell ⟨g, i, none⟩ v) (pre ++ rowF g t (cs.setIfInBounds i v) :: post) :=
  chg pre (e := rowF g t cs) (e' := rowF g t (cs.setIfInBounds i v)) h ((Chg.refl (rng g (g + 1)) w).setCell ⟨Nat.le_refl _, Nat.lt_succ_self _⟩ v) ((h.row (by simp)).set i v) rfl rfl
theorem wr0 {post : List Fact} {g : Nat} {t : TypeId} {cs cs' : Array Value} (h : Frg w0 w (rowF g t cs :: post)) (k : Wrote w w' g t cs') : Frg w0 w' (rowF g t cs' :: post) := wrote [] h k
theorem wr1 {b0 : Fact} {post : List Fact} {g : Nat} {t : TypeId} {cs cs' : Array Value} (h : Frg w0 w (b0 :: rowF g t cs :: post)) (k : Wrote w w' g t cs') : Frg w0 w' (b0 :: rowF g t cs' :: post) := wrote [b0] h k
theorem wr2 {b0 b1 : Fact} {post : List Fact} {g : Nat} {t : TypeId} {cs cs' : Array Value} (h : Frg w0 w (b0 :: b1 :: rowF g t cs :: post)) (k : Wrote w w' g t cs') : Frg w0 w' (b0 :: b1 :: rowF g t cs' :: post) := wrote [b0, b1] h k
theorem wr3 {b0 b1 b2 : Fact} {post : List Fact} {g : Nat} {t : TypeId} {cs cs' : Array Value} (h : Frg w0 w (b0 :: b1 :: b2 :: rowF g t cs :: post)) (k : Wrote w w' g t cs') : Frg w0 w' (b0 :: b1 :: b2 :: rowF g t cs' :: post) := wrote [b0, b1, b2] h k
theorem set0 {post : List Fact} {g : Nat} {t : TypeId} {cs : Array Value} (h : Frg w0 w (rowF g t cs :: post)) (i : Nat) (v : Value) : Frg w0 (w.setCell ⟨g, i, none⟩ v) (rowF g t (cs.setIfInBounds i v) :: post) := setC [] h i v
theorem set1 {b0 : Fact} {post : List Fact} {g : Nat} {t : TypeId} {cs : Array Value} (h : Frg w0 w (b0 :: rowF g t cs :: post)) (i : Nat) (v : Value) : Frg w0 (w.setCell ⟨g, i, none⟩ v) (b0 :: rowF g t (cs.setIfInBounds i v) :: post) := setC [b0] h i v
theorem set2 {b0 b1 : Fact} {post : List Fact} {g : Nat} {t : TypeId} {cs : Array Value} (h : Frg w0 w (b0 :: b1 :: rowF g t cs :: post)) (i : Nat) (v : Value) : Frg w0 (w.setCell ⟨g, i, none⟩ v) (b0 :: b1 :: rowF g t (cs.setIfInBounds i v) :: post) := setC [b0, b1] h i v
theorem mark0 {lo hi n : Nat} {s : Value} {x x' : Nat → Nat} {l : List Fact} (h : Frg w0 w (ownF lo hi s x n :: l)) (hp : OwnS w' lo hi s x' n) (k : Chg (rng lo hi) w w') : Frg w0 w' (ownF lo hi s x' n :: l) :=
  chg [] (e := ownF lo hi s x n) (e' := ownF lo hi s x' n) h k hp rfl rfl
theorem mark1 {lo hi n : Nat} {s : Value} {x x' : Nat → Nat} {l : List Fact} {b0 : Fact} (h : Frg w0 w (b0 :: ownF lo hi s x n :: l)) (hp : OwnS w' lo hi s x' n) (k : Chg (rng lo hi) w w') : Frg w0 w' (b0 :: ownF lo hi s x' n :: l) :=
  chg [b0] (e := ownF lo hi s x n) (e' := ownF lo hi s x' n) h k hp rfl rfl
theorem mark2 {lo hi n : Nat} {s : Value} {x x' : Nat → Nat} {l : List Fact} {b0 b1 : Fact} (h : Frg w0 w (b0 :: b1 :: ownF lo hi s x n :: l)) (hp : OwnS w' lo hi s x' n) (k : Chg (rng lo hi) w w') : Frg w0 w' (b0 :: b1 :: ownF lo hi s x' n :: l) :=
  chg [b0, b1] (e := ownF lo hi s x n) (e' := ownF lo hi s x' n) h k hp rfl rfl
theorem mark3 {lo hi n : Nat} {s : Value} {x x' : Nat → Nat} {l : List Fact} {b0 b1 b2 : Fact} (h : Frg w0 w (b0 :: b1 :: b2 :: ownF lo hi s x n :: l)) (hp : OwnS w' lo hi s x' n) (k : Chg (rng lo hi) w w') : Frg w0 w' (b0 :: b1 :: b2 :: ownF lo hi s x' n :: l) :=
  chg [b0, b1, b2] (e := ownF lo hi s x n) (e' := ownF lo hi s x' n) h k hp rfl rfl
theorem mark4 {lo hi n : Nat} {s : Value} {x x' : Nat → Nat} {l : List Fact} {b0 b1 b2 b3 : Fact} (h : Frg w0 w (b0 :: b1 :: b2 :: b3 :: ownF lo hi s x n :: l)) (hp : OwnS w' lo hi s x' n) (k : Chg (rng lo hi) w w') : Frg w0 w' (b0 :: b1 :: b2 :: b3 :: ownF lo hi s x' n :: l) :=
  chg [b0, b1, b2, b3] (e := ownF lo hi s x n) (e' := ownF lo hi s x' n) h k hp rfl rfl
theorem mark5 {lo hi n : Nat} {s : Value} {x x' : Nat → Nat} {l : List Fact} {b0 b1 b2 b3 b4 : Fact} (h : Frg w0 w (b0 :: b1 :: b2 :: b3 :: b4 :: ownF lo hi s x n :: l)) (hp : OwnS w' lo hi s x' n) (k : Chg (rng lo hi) w w') : Frg w0 w' (b0 :: b1 :: b2 :: b3 :: b4 :: ownF lo hi s x' n :: l) :=
  chg [b0, b1, b2, b3, b4] (e := ownF lo hi s x n) (e' := ownF lo hi s x' n) h k hp rfl rfl
theorem mark6 {lo hi n : Nat} {s : Value} {x x' : Nat → Nat} {l : List Fact} {b0 b1 b2 b3 b4 b5 : Fact} (h : Frg w0 w (b0 :: b1 :: b2 :: b3 :: b4 :: b5 :: ownF lo hi s x n :: l)) (hp : OwnS w' lo hi s x' n) (k : Chg (rng lo hi) w w') : Frg w0 w' (b0 :: b1 :: b2 :: b3 :: b4 :: b5 :: ownF lo hi s x' n :: l) :=
  chg [b0, b1, b2, b3, b4, b5] (e := ownF lo hi s x n) (e' := ownF lo hi s x' n) h k hp rfl rfl
theorem mark7 {lo hi n : Nat} {s : Value} {x x' : Nat → Nat} {l : List Fact} {b0 b1 b2 b3 b4 b5 b6 : Fact} (h : Frg w0 w (b0 :: b1 :: b2 :: b3 :: b4 :: b5 :: b6 :: ownF lo hi s x n :: l)) (hp : OwnS w' lo hi s x' n) (k : Chg (rng lo hi) w w') : Frg w0 w' (b0 :: b1 :: b2 :: b3 :: b4 :: b5 :: b6 :: ownF lo hi s x' n :: l) :=
  chg [b0, b1, b2, b3, b4, b5, b6] (e := ownF lo hi s x n) (e' := ownF lo hi s x' n) h k hp rfl rfl
theorem mark8 {lo hi n : Nat} {s : Value} {x x' : Nat → Nat} {l : List Fact} {b0 b1 b2 b3 b4 b5 b6 b7 : Fact} (h : Frg w0 w (b0 :: b1 :: b2 :: b3 :: b4 :: b5 :: b6 :: b7 :: ownF lo hi s x n :: l)) (hp : OwnS w' lo hi s x' n) (k : Chg (rng lo hi) w w') : Frg w0 w' (b0 :: b1 :: b2 :: b3 :: b4 :: b5 :: b6 :: b7 :: ownF lo hi s x' n :: l) :=
  chg [b0, b1, b2, b3, b4, b5, b6, b7] (e := ownF lo hi s x n) (e' := ownF lo hi s x' n) h k hp rfl rfl
theorem mark9 {lo hi n : Nat} {s : Value} {x x' : Nat → Nat} {l : List Fact} {b0 b1 b2 b3 b4 b5 b6 b7 b8 : Fact} (h : Frg w0 w (b0 :: b1 :: b2 :: b3 :: b4 :: b5 :: b6 :: b7 :: b8 :: ownF lo hi s x n :: l)) (hp : OwnS w' lo hi s x' n) (k : Chg (rng lo hi) w w') : Frg w0 w' (b0 :: b1 :: b2 :: b3 :: b4 :: b5 :: b6 :: b7 :: b8 :: ownF lo hi s x' n :: l) :=
  chg [b0, b1, b2, b3, b4, b5, b6, b7, b8] (e := ownF lo hi s x n) (e' := ownF lo hi s x' n) h k hp rfl rfl
end Frg

section
variable {P : Program} {w : World} {ops : Array Oper} {rest : List Oper} {o : Oper} {a : Act} {Q : Exit → Act → World → Prop}
theorem wpList_loadG {w0 : World} {L : List Fact} (hF : Frg w0 w L) (hg : o.guard = none) {ty : TypeId} {x : Operand} (hop : o.op = .load ty x) {g : Nat} (hx : a.eval x = .pointer (some ⟨g, 0, none⟩)) {t : TypeId} {cs : Array Value} {d : TypeDesc}
    (hm : rowF g t cs ∈ L) (hu : P.underlying ty = some d) (hd : (match d with | .struct _ | .array _ _ => true | _ => false) = true) {n : Nat} (hi : (P.info? ty).map (·.size) = some n) (hn : cs.size = n)
    (h : wpList P ops Q rest (a.put o.dst (.agg cs)) w) : wpList P ops Q (o :: rest) a w :=
  wpList_loadD hg hop hx (hF.row hm) hu hd (hn ▸ hi) h
theorem wpList_loadGG {w0 : World} {L : List Fact} (hF : Frg w0 w L) {ty : TypeId} {x : Operand} (hop : o.op = .load ty x) {g : Nat} (hx : a.eval x = .pointer (some ⟨g, 0, none⟩)) {t : TypeId} {cs : Array Value} {d : TypeDesc}
    (hm : rowF g t cs ∈ L) (hu : P.underlying ty = some d) (hd : (match d with | .struct _ | .array _ _ => true | _ => false) = true) {n : Nat} (hi : (P.info? ty).map (·.size) = some n) (hn : cs.size = n) (hw : Region.wanted o (yielded ops a.tmps) = true)
    (h : wpList P ops Q rest (a.put o.dst (.agg cs)) w) : wpList P ops Q (o :: rest) a w :=
  wpList_step fun K hK => by
    simp only [hw, if_true]
    exact wp_load_row ty x hop g hx t cs (0, 0) d (hF.row hm) hu hd (hn ▸ hi) (hK _ _ h)
/-- A part of a block is loaded. -/
theorem wpList_loadGP {w0 : World} {L : List Fact} (hF : Frg w0 w L) (hg : o.guard = none) {ty : TypeId} {x : Operand} (hop : o.op = .load ty x) {g f : Nat} (hx : a.eval x = .pointer (some ⟨g, f, none⟩)) {t : TypeId} {cs : Array Value} {d : TypeDesc}
    (hm : rowF g t cs ∈ L) (hu : P.underlying ty = some d) (hd : d.isRow = true) (ds : List Value) (hc : ∀ j, j < ds.length → cs[f + j]? = ds[j]?) {n : Nat} (hi : (P.info? ty).map (·.size) = some n) (hn : ds.length = n)
    (h : wpList P ops Q rest (a.put o.dst (.agg ds.toArray)) w) : wpList P ops Q (o :: rest) a w :=
  wpList_loadP hg hop hx (hF.row hm) hu hd ds hc (hn ▸ hi) h
theorem wpList_loadDR {g : Nat} {t : TypeId} {cs : Array Value} (hr : Row w g t cs) (hg : o.guard = none) {ty : TypeId} {x : Operand} (hop : o.op = .load ty x) (hx : a.eval x = .pointer (some ⟨g, 0, none⟩)) {d : TypeDesc}
    (hu : P.underlying ty = some d) (hd : (match d with | .struct _ | .array _ _ => true | _ => false) = true) {n : Nat} (hi : (P.info? ty).map (·.size) = some n) (hn : cs.size = n)
    (h : wpList P ops Q rest (a.put o.dst (.agg cs)) w) : wpList P ops Q (o :: rest) a w :=
  wpList_loadD hg hop hx hr hu hd (hn ▸ hi) h
theorem wpList_loadPR {g f : Nat} {t : TypeId} {cs : Array Value} (hr : Row w g t cs) (hg : o.guard = none) {ty : TypeId} {x : Operand} (hop : o.op = .load ty x) (hx : a.eval x = .pointer (some ⟨g, f, none⟩)) {d : TypeDesc}
    (hu : P.underlying ty = some d) (hd : d.isRow = true) (ds : List Value) (hc : ∀ j, j < ds.length → cs[f + j]? = ds[j]?) {n : Nat} (hi : (P.info? ty).map (·.size) = some n) (hn : ds.length = n)
    (h : wpList P ops Q rest (a.put o.dst (.agg ds.toArray)) w) : wpList P ops Q (o :: rest) a w :=
  wpList_loadP hg hop hx hr hu hd ds hc (hn ▸ hi) h
/-- A part of a block is loaded, by a guarded operation. -/
theorem wpList_loadGPG {w0 : World} {L : List Fact} (hF : Frg w0 w L) {ty : TypeId} {x : Operand} (hop : o.op = .load ty x) {g f : Nat} (hx : a.eval x = .pointer (some ⟨g, f, none⟩)) {t : TypeId} {cs : Array Value} {d : TypeDesc}
    (hm : rowF g t cs ∈ L) (hu : P.underlying ty = some d) (hd : d.isRow = true) (ds : List Value) (hc : ∀ j, j < ds.length → cs[f + j]? = ds[j]?) {n : Nat} (hi : (P.info? ty).map (·.size) = some n) (hn : ds.length = n) (hw : Region.wanted o (yielded ops a.tmps) = true)
    (h : wpList P ops Q rest (a.put o.dst (.agg ds.toArray)) w) : wpList P ops Q (o :: rest) a w :=
  wpList_step fun K hK => by
    simp only [hw, if_true]
    exact wp_load_mid ty x hop g f hx ds d (fun j v hv => by rw [(hF.row hm).cell?, hc j (List.getElem?_eq_some_iff.1 hv).1, hv]) hu hd (hn ▸ hi) (hK _ _ h)
/-- A fresh block is written whole. -/
theorem wpList_storeG {w0 w1 : World} {L : List Fact} {t : TypeId} {old : Array Value} (hF : Frg w0 w1 L) (hw : w = w1.alloc (.cells old t)) (hg : o.guard = none) {ty : TypeId} {x y : Operand} (hop : o.op = .store ty x y) (hx : a.eval x = .pointer (some ⟨w1.heap.size, 0, none⟩)) {cells : Array Value} (hy : a.eval y = .agg cells)
    (hi : (P.info? ty).map (·.size) = some cells.size) (ho : old.size = cells.size) (h1 : cells.all (·.oneCell') = true)
    (h : ∀ w', Frg w0 w' (rowF w1.heap.size t cells :: L) → w'.heap.size = w1.heap.size + 1 → wpList P ops Q rest (a.put o.dst undef) w') : wpList P ops Q (o :: rest) a w :=
  wpList_storeN hw hg hop hx hy hi ho h1 (fun w' hr hl hz => h w' (hF.push hl hr (Nat.le_refl _) (by have := hr.lt; simp only [rowF]; omega)) hz)
end

theorem wpAt0 {P : Program} {c : Code} {Q : Exit → Act → World → Prop} {a : Act} {w0 w : World} {L : List Fact} (F : Frg w0 w L) (h : ∀ w', Frg w0 w' L → c.wp P Q a w') : c.wp P Q a w := h _ F
theorem wpAtN {P : Program} {c : Code} {Q : Exit → Act → World → Prop} {a : Act} {w0 w : World} {L : List Fact} {n : Nat} (F : Frg w0 w L) (h : ∀ w', Frg w0 w' L → c.wp P Q a w') : c.wp P Q a (w.drewN n) := h _ (F.drewN n)
theorem callAt0 {P : Program} {f : FuncId} {args : Array Value} {R : Ending → World → Prop} {w0 w : World} {L : List Fact} (F : Frg w0 w L) (h : ∀ w', Frg w0 w' L → Calls P f args w' R) : Calls P f args w R := h _ F
theorem callAtN {P : Program} {f : FuncId} {args : Array Value} {R : Ending → World → Prop} {w0 w : World} {L : List Fact} {n : Nat} (F : Frg w0 w L) (h : ∀ w', Frg w0 w' L → Calls P f args w' R) : Calls P f args (w.drewN n) R := h _ (F.drewN n)
section
variable {P : Program} {w0 w : World} {L : List Fact} {n : Nat} {ops : Array Oper} {rest : List Oper} {o : Oper} {a : Act} {Q : Exit → Act → World → Prop}
/-- The world behind draws under a name. -/
theorem listN (F : Frg w0 w L) (h : ∀ w', Frg w0 w' L → wpList P ops Q rest a w') : wpList P ops Q rest a (w.drewN n) := h _ (F.drewN n)
theorem at_loadU {ty : TypeId} {x : Operand} (_ : o.guard = none) (_ : o.op = .load ty x) (h : wpList P ops Q (o :: rest) a w) : wpList P ops Q (o :: rest) a w := h
theorem at_loadV {ty : TypeId} {x : Operand} {g : Tmp × Bool} (_ : o.guard = some g) (_ : o.op = .load ty x) (h : wpList P ops Q (o :: rest) a w) : wpList P ops Q (o :: rest) a w := h
theorem at_store {ty : TypeId} {x y : Operand} (_ : o.op = .store ty x y) (h : wpList P ops Q (o :: rest) a w) : wpList P ops Q (o :: rest) a w := h
end
/-- Nothing turns. -/
def leX : Ext := ⟨le, le_refl, le_trans, id⟩
section
variable {E : Ext} {P : Program} {ops : Array Oper} {W : World} {K : FuncId → Array Value → World → Value → Prop} {Q : Act → World → Prop} {F : Facts} {k : Nat} {o : Oper} {rest : List Oper} {a : Act}
/-- A call that leans on what is known of the operations that it comes behind. -/
theorem wpFreeD_callB (hg : o.guard = none) {f : FuncId} {xs : Array Operand} {ts : Array TypeId} (hop : o.op = Op.call { callee := Callee.value (Operand.func f), args := xs, argTypes := ts }) {fn : Func} (hf : P.funcs[f]? = some fn)
    (hb : fn.body.isNone = false) (hn : (fn.name == "runtime.NumGoroutine") = false) {args : Array Value} (ha : xs.map a.eval = args) (hm : MonoT E (K f args))
    (h1 : ∀ w, E.R W w → behind .any o F w → Calls P f args w (fun e w' => ∃ v, e = .returned v ∧ le w w' ∧ K f args w' v)) (h2 : ∀ v, (∃ w, E.R W w ∧ (∀ e, F e w) ∧ K f args w v) → wpFreeD E P ops .any W K Q rest (k + 1) (a.put o.dst v) (F.with k (fun w => K f args w v))) : wpFreeD E P ops .any W K Q (o :: rest) k a F := by
  refine ⟨K f args, ⟨hm, .inl ⟨by simp [Region.wanted, hg], fun w hw hbe => ?_⟩⟩, fun v hv => h2 v hv⟩
  rw [run_enter hop hf hb hn ha]
  refine ⟨E.refl w, (h1 w hw hbe).mono ?_, fun _ _ h => h⟩
  rintro e w' ⟨v, rfl, hl, hk⟩
  exact ⟨v, rfl, E.of_le hl, hk⟩
theorem wpFreeD_loadG {w0 w1 : World} {L : List Fact} {n : Nat} (hF : Frg w0 w1 L) (hW : W = w1.drewN n) (hg : o.guard = none) {ty : TypeId} {x : Operand} (hop : o.op = .load ty x) {g : Nat} (hx : a.eval x = .pointer (some ⟨g, 0, none⟩)) {t : TypeId} {cs : Array Value} {d : TypeDesc}
    (hm : rowF g t cs ∈ L) (hu : P.underlying ty = some d) (hd : (match d with | .struct _ | .array _ _ => true | _ => false) = true) {m : Nat} (hi : (P.info? ty).map (·.size) = some m) (hs : cs.size = m)
    (h : wpFreeD leX P ops .any W K Q rest (k + 1) (a.put o.dst (.agg cs)) (F.with k (fun _ => True))) : wpFreeD leX P ops .any W K Q (o :: rest) k a F := by
  subst hW hs
  refine wpFreeD_one hg (.agg cs) (fun w hw => ?_) h
  have := run_loadVar_row (P := P) w g t ty cs (0, 0) _ (((hF.row hm).drewN n).le hw) hu hd hi
  simp [execOp, hop, hx, Instr.loadAt, Instr.sureAddr, this, Result.andThen]
end
end Go.Fk
