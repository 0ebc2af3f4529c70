/- Floats made whole (math.RoundToEven and its kin), up to the bits of NaN; that rounding gives no NaN; floats to integers by value. Nothing here names a program. -/
import Derived.Test.YtaenbpkcehenkacVal
import Derived.Laws.Externs
namespace Go.Fk
open Go Go.RowKit

theorem infRung_word (k : FloatKind) (s : Bool) {r : Nat} (h : r ≤ k.format.infRung) : isNan k (k.format.word s r) = false := by
  have hs : k.format.infRung < k.format.signWeight := Ieee.Format.infRung_lt _
  cases k
  · have e2 : Ieee.single.infRung = 2139095040 := by decide
    have e1 : Ieee.single.signWeight = 2147483648 := by decide
    have hw := word_mod Ieee.single s (r := r) (Nat.lt_of_le_of_lt h hs)
    rw [e1] at hw
    have hw' : FloatKind.f32.format.word s r % 2147483648 = r := hw
    have h' : r ≤ 2139095040 := Nat.le_trans h (Nat.le_of_eq e2)
    rw [isNan_f32, decide_eq_false_iff_not]; omega
  · have e2 : Ieee.double.infRung = 9218868437227405312 := by decide
    have e1 : Ieee.double.signWeight = 9223372036854775808 := by decide
    have hw := word_mod Ieee.double s (r := r) (Nat.lt_of_le_of_lt h hs)
    rw [e1] at hw
    have hw' : FloatKind.f64.format.word s r % 9223372036854775808 = r := hw
    have h' : r ≤ 9218868437227405312 := Nat.le_trans h (Nat.le_of_eq e2)
    rw [isNan_f64, decide_eq_false_iff_not]; omega
theorem isNan_nearest (k : FloatKind) (s : Bool) (m : Nat) (e : Int) : isNan k (k.format.nearest s m e) = false := by
  unfold Ieee.Format.nearest
  split
  · exact infRung_word k s (Nat.zero_le _)
  · exact infRung_word k s (Nat.min_le_right _ _)
theorem isNan_encode (k : FloatKind) {d : Ieee.Datum} (h : d.isNaN = false) : isNan k (k.encode d) = false := by
  cases d with
  | number s m e => exact isNan_nearest k s m e
  | infinity s => exact infRung_word k s (Nat.le_refl _)
  | nan s t => simp [Ieee.Datum.isNaN] at h

theorem isNan_widen (b : Nat) : isNan .f64 (widen b) = isNan .f32 b := by
  cases hr : FloatKind.f32.format.read b with
  | nan s t => simp only [widen, hr, isNan_qnan]; simp [isNan, hr, Ieee.Datum.isNaN]
  | infinity s => simp only [widen, hr]; rw [isNan_encode _ rfl]; simp [isNan, hr, Ieee.Datum.isNaN]
  | number s m e => simp only [widen, hr]; rw [isNan_encode _ rfl]; simp [isNan, hr, Ieee.Datum.isNaN]

/-- A number made whole, up to the bits of NaN. -/
def integ (way : Ieee.Toward) (b : Nat) : Nat := match FloatKind.f64.decode b with
  | .nan _ _ => qnan .f64
  | d => FloatKind.f64.encode (d.integral way)
theorem integ_can (way : Ieee.Toward) (b : Nat) : integ way (can .f64 b) = integ way b := by
  cases h : isNan .f64 b
  · rw [can_of_not h]
  · rw [can_of_nan h]
    obtain ⟨s, t, hr⟩ := read_nan h
    obtain ⟨s', t', hr'⟩ := read_nan (isNan_qnan .f64)
    simp only [integ, FloatKind.decode, hr, hr']
theorem isNan_integ (way : Ieee.Toward) (b : Nat) : isNan .f64 (integ way b) = isNan .f64 b := by
  cases hr : FloatKind.f64.format.read b with
  | nan s t => simp only [integ, FloatKind.decode, hr, isNan_qnan]; simp [isNan, hr, Ieee.Datum.isNaN]
  | infinity s => simp only [integ, FloatKind.decode, hr]; rw [isNan_encode _ rfl]; simp [isNan, hr, Ieee.Datum.isNaN]
  | number s m e => simp only [integ, FloatKind.decode, hr]; rw [isNan_encode _ rfl]; simp [isNan, hr, Ieee.Datum.isNaN]

/-- A quiet NaN is one. -/
theorem isNan_quiet (s : Bool) (b t : Nat) (h : FloatKind.f64.format.read b = .nan s t) :
    isNan .f64 (FloatKind.f64.encode (.nan s (FloatKind.f64.format.quiet t))) = true := by
  have e1 : Ieee.double.signWeight = 9223372036854775808 := by decide
  have e2 : Ieee.double.infRung = 9218868437227405312 := by decide
  have e3 : Ieee.double.binade = 4503599627370496 := by decide
  have hq : (t ||| 2251799813685248) % 4503599627370496 ≠ 0 := by
    intro h0
    have h1 : ((t ||| 2251799813685248) % 2 ^ 52).testBit 51 = false := by rw [show (2 : Nat) ^ 52 = 4503599627370496 by decide, h0]; simp
    rw [Nat.testBit_mod_two_pow, Nat.testBit_or, show (2251799813685248 : Nat) = 2 ^ 51 by decide, Nat.testBit_two_pow_self] at h1
    simp at h1
  rw [isNan_f64]
  simp only [FloatKind.encode, Ieee.Format.write, FloatKind.format, Ieee.Format.quiet, e2, e3]
  rw [show (2 : Nat) ^ (Ieee.double.fractionBits - 1) = 2251799813685248 by decide]
  have hlt : (t ||| 2251799813685248) % 4503599627370496 < 4503599627370496 := Nat.mod_lt _ (by omega)
  generalize (t ||| 2251799813685248) % 4503599627370496 = q at *
  have hw := word_mod Ieee.double s (r := 9218868437227405312 + q) (by rw [e1]; omega)
  rw [e1] at hw
  rw [hw, decide_eq_true_iff]
  omega

theorem toIntegral_eq (name : String) (way : Ieee.Toward) (x : Nat) : Extern.MathFloor.toIntegral name way #[.float .f64 x] = ((match FloatKind.f64.decode x with
    | .nan s t =>
      if FloatKind.f64.format.quiet t = t then pure (Value.float .f64 x) else do
      let kept ← choose (.extern "math.Floor,Ceil,Trunc,RoundToEven.signallingNaN kept" 2)
      pure (Value.float .f64 (if kept == 1 then x else FloatKind.f64.encode (.nan s (FloatKind.f64.format.quiet t))))
    | d => pure (Value.float .f64 (FloatKind.f64.encode (d.integral way)))) : Sem Value) := rfl

theorem run_integral {P : Program} (name : String) (way : Ieee.Toward) (w : World) (b : Nat) (hb : fits .f64 b) :
    ∃ r n, (Extern.MathFloor.toIntegral name way #[.float .f64 b]).run P w = .ok (.float .f64 r) (w.drewN n) ∧ can .f64 r = can .f64 (integ way b) ∧ fits .f64 r := by
  cases hr : FloatKind.f64.format.read b with
  | nan s t =>
    have hn : isNan .f64 b = true := by simp [isNan, hr, Ieee.Datum.isNaN]
    have hi : integ way b = qnan .f64 := by simp only [integ, FloatKind.decode, hr]
    have hd : FloatKind.f64.decode b = .nan s t := hr
    by_cases hq : FloatKind.f64.format.quiet t = t
    · refine ⟨b, 0, ?_, by rw [hi, can_qnan, can_of_nan hn], hb⟩
      simp [toIntegral_eq, hd, hq]; rfl
    · by_cases hk : ((Question.extern "math.Floor,Ceil,Trunc,RoundToEven.signallingNaN kept" 2).cut (w.tape w.drawn (.extern "math.Floor,Ceil,Trunc,RoundToEven.signallingNaN kept" 2)) == 1) = true
      · refine ⟨b, 1, ?_, by rw [hi, can_qnan, can_of_nan hn], hb⟩
        simp only [beq_iff_eq] at hk
        simp [toIntegral_eq, hd, hq, Question.forced, hk]; rfl
      · refine ⟨FloatKind.f64.encode (.nan s (FloatKind.f64.format.quiet t)), 1, ?_, by rw [hi, can_qnan, can_of_nan (isNan_quiet s b t hr)], encode_wf _ _⟩
        simp only [beq_iff_eq] at hk
        simp [toIntegral_eq, hd, hq, Question.forced, hk]; rfl
  | infinity s =>
    have hd : FloatKind.f64.decode b = .infinity s := hr
    refine ⟨FloatKind.f64.encode (Ieee.Datum.integral way (.infinity s)), 0, ?_, by simp only [integ, hd], encode_wf _ _⟩
    simp [toIntegral_eq, hd]; rfl
  | number s m e =>
    have hd : FloatKind.f64.decode b = .number s m e := hr
    refine ⟨FloatKind.f64.encode (Ieee.Datum.integral way (.number s m e)), 0, ?_, by simp only [integ, hd], encode_wf _ _⟩
    simp [toIntegral_eq, hd]; rfl

/-- THE WALK's LAW for a call of a function without a body that gives a float. -/
theorem wpList_extern {P : Program} {w : World} {ops : Array Oper} {rest : List Oper} {o : Oper} {a : Act} {Q : Exit → Act → World → Prop}
    (hg : o.guard = none) {f : FuncId} {x : Operand} {ts : Array TypeId} (hop : o.op = Op.call { callee := Callee.value (Operand.func f), args := #[x], argTypes := ts })
    {k' : FloatKind} {q : Nat} (hx : a.eval x = .float k' q) (Res : Nat → Prop) {k : FloatKind}
    (hrun : ∀ w, ∃ r n, (callFunc f #[.float k' q]).run P w = .ok (.value (.float k r)) (w.drewN n) ∧ Res r)
    (hK : ∀ r n, Hid (Res r) → wpList P ops Q rest (a.put o.dst (.float k r)) (w.drewN n)) : wpList P ops Q (o :: rest) a w := by
  refine wpList_plain hg fun K hK' => ?_
  obtain ⟨r, n, hr, hres⟩ := hrun w
  unfold Oper.wp
  have hf : a.eval (Operand.func f) = .func (.func f) #[] #[] := rfl
  simp [execOp, hop, hx, hf, resolve, invoke, Deferred.ofValue, hr, Result.andThen]
  exact hK' _ _ (hK r n hres)

/-- A wide float to an integer of 16 bits. -/
theorem floatToInt_val {b : Nat} {k : IntKind} (hn : isNan .f64 b = false) (hlo : k.min * 2 ^ unitOf .f64 ≤ val .f64 b) (hhi : val .f64 b ≤ k.max * 2 ^ unitOf .f64)
    (hsmall : k.max * 2 ^ unitOf .f64 < far) (hsmall' : -(far : Int) < k.min * 2 ^ unitOf .f64) :
    floatToIntVal .f64 b k = some ((val .f64 b).tdiv (2 ^ unitOf .f64)) := by
  cases hr : FloatKind.f64.format.read b with
  | nan s t => simp [isNan, hr, Ieee.Datum.isNaN] at hn
  | infinity s =>
    have hv : val .f64 b = if s then -(far : Int) else far := by simp only [val, hr]
    rw [hv] at hlo hhi
    cases s <;> simp at hlo hhi <;> omega
  | number s m e =>
    have ht := toInt_val hr
    unfold floatToIntVal
    rw [ht]
    have hU : (0 : Int) < 2 ^ unitOf .f64 := Int.pow_pos (by omega)
    generalize (2 : Int) ^ unitOf .f64 = U at *
    generalize val .f64 b = v at *
    have h1 : k.min ≤ v.tdiv U := by
      have : k.min = (k.min * U).tdiv U := (Int.mul_tdiv_cancel _ (by omega)).symm
      rw [this]; exact Int.tdiv_le_tdiv hU hlo
    have h2 : v.tdiv U ≤ k.max := by
      have : k.max = (k.max * U).tdiv U := (Int.mul_tdiv_cancel _ (by omega)).symm
      rw [this]; exact Int.tdiv_le_tdiv hU hhi
    simp only [h1, h2, and_self, if_true]
end Go.Fk
