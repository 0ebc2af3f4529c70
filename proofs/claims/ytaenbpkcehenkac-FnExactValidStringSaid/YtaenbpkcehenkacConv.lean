/- Conversions between the two widths of floats, up to the bits of NaN. Nothing here names a program. -/
import Derived.Test.YtaenbpkcehenkacMag
namespace Go.Fk
open Go Go.RowKit

/-- What 'float64(x)' of a narrow x is, up to the bits of NaN. -/
def widen (b : Nat) : Nat := match FloatKind.f32.format.read b with
  | .nan _ _ => qnan .f64
  | d => FloatKind.f64.encode d
/-- What 'float32(x)' of a wide x is, up to the bits of NaN, where it does not overflow. -/
def narrow (b : Nat) : Nat := match FloatKind.f64.format.read b with
  | .nan _ _ => qnan .f32
  | d => FloatKind.f32.encode d

theorem widen_can (b : Nat) : widen (can .f32 b) = widen b := by
  cases h : isNan .f32 b
  · rw [can_of_not h]
  · rw [can_of_nan h]
    obtain ⟨s, t, hr⟩ := read_nan h
    obtain ⟨s', t', hr'⟩ := read_nan (isNan_qnan .f32)
    simp only [widen, hr, hr']
theorem widen_congr {a b : Nat} (h : can .f32 a = can .f32 b) : widen a = widen b := by rw [← widen_can a, h, widen_can]
theorem narrow_can (b : Nat) : narrow (can .f64 b) = narrow b := by
  cases h : isNan .f64 b
  · rw [can_of_not h]
  · rw [can_of_nan h]
    obtain ⟨s, t, hr⟩ := read_nan h
    obtain ⟨s', t', hr'⟩ := read_nan (isNan_qnan .f64)
    simp only [narrow, hr, hr']
theorem narrow_congr {a b : Nat} (h : can .f64 a = can .f64 b) : narrow a = narrow b := by rw [← narrow_can a, h, narrow_can]

/-- Every finite narrow number lies below '2 ^ 128'. -/
theorem lt32 {b : Nat} {s : Bool} {m : Nat} {e : Int} (h : FloatKind.f32.format.read b = .number s m e) : m ≠ 0 → e + m.log2 + 1 ≤ 128 := by
  intro h0
  have e1 : Ieee.single.signWeight = 2147483648 := by decide
  have e2 : Ieee.single.infRung = 2139095040 := by decide
  have e3 : Ieee.single.binade = 8388608 := by decide
  have e4 : Ieee.single.leastPlace = -149 := by decide
  simp only [FloatKind.format, Ieee.Format.read, e1, e2, e3, e4] at h
  split at h
  · simp only [Ieee.Datum.number.injEq] at h
    obtain ⟨_, rfl, rfl⟩ := h
    have : (b % 2147483648).log2 < 23 := (Nat.log2_lt h0).2 (by omega)
    omega
  · split at h
    · simp only [Ieee.Datum.number.injEq] at h
      obtain ⟨_, rfl, rfl⟩ := h
      have : (8388608 + b % 2147483648 % 8388608).log2 < 24 := (Nat.log2_lt h0).2 (by omega)
      omega
    · split at h <;> cases h
/-- Every finite wide number lies below '2 ^ 1024'. -/
theorem lt64 {b : Nat} {s : Bool} {m : Nat} {e : Int} (h : FloatKind.f64.format.read b = .number s m e) : m ≠ 0 → e + m.log2 + 1 ≤ 1024 := by
  intro h0
  have e1 : Ieee.double.signWeight = 9223372036854775808 := by decide
  have e2 : Ieee.double.infRung = 9218868437227405312 := by decide
  have e3 : Ieee.double.binade = 4503599627370496 := by decide
  have e4 : Ieee.double.leastPlace = -1074 := by decide
  simp only [FloatKind.format, Ieee.Format.read, e1, e2, e3, e4] at h
  split at h
  · simp only [Ieee.Datum.number.injEq] at h
    obtain ⟨_, rfl, rfl⟩ := h
    have : (b % 9223372036854775808).log2 < 52 := (Nat.log2_lt h0).2 (by omega)
    omega
  · split at h
    · simp only [Ieee.Datum.number.injEq] at h
      obtain ⟨_, rfl, rfl⟩ := h
      have : (4503599627370496 + b % 9223372036854775808 % 4503599627370496).log2 < 53 := (Nat.log2_lt h0).2 (by omega)
      omega
    · split at h <;> cases h

theorem fine64 {A : Int} (h1 : -1021 ≤ A) (h2 : A ≤ 1022) : fine .f64 A := by
  have e2 : Ieee.double.infRung = 9218868437227405312 := by decide
  have e3 : Ieee.double.binade = 4503599627370496 := by decide
  have e4 : Ieee.double.leastPlace = -1074 := by decide
  have e5 : Ieee.double.fractionBits = 52 := by decide
  simp only [fine, FloatKind.format, e2, e3, e4, e5]
  omega
theorem fine32 {A : Int} (h1 : -125 ≤ A) (h2 : A ≤ 126) : fine .f32 A := by
  have e2 : Ieee.single.infRung = 2139095040 := by decide
  have e3 : Ieee.single.binade = 8388608 := by decide
  have e4 : Ieee.single.leastPlace = -149 := by decide
  have e5 : Ieee.single.fractionBits = 23 := by decide
  simp only [fine, FloatKind.format, e2, e3, e4, e5]
  omega

theorem lt_encode {k : FloatKind} {s : Bool} {m : Nat} {e A : Int} (h : m ≠ 0 → e + m.log2 + 1 ≤ A) (hf : fine k A) : lt k (k.encode (.number s m e)) (A + 1) :=
  lt_nearest k s m e A h hf.1 hf.2
theorem lt.notInf {k : FloatKind} {b : Nat} {A : Int} (h : lt k b A) : (k.decode b).isInfinity = false := by
  obtain ⟨s, m, e, hr, _⟩ := h
  simp [FloatKind.decode, hr, Ieee.Datum.isInfinity]

/-- May be narrowed: what the language fixes. -/
def narrowable (b : Nat) : Prop := isNan .f64 b = true ∨ (FloatKind.f64.format.read b).isInfinity = true ∨ lt .f64 b 126

section
variable {P : Program}
theorem run_widen (w : World) (src dst : TypeId) (b : Nat) (hs : P.underlying src = some (.float .f32)) (hd : P.underlying dst = some (.float .f64)) :
    ∃ r n, (convert src dst (.float .f32 b)).run P w = .ok (.float .f64 r) (w.drewN n) ∧ can .f64 r = can .f64 (widen b) ∧ fits .f64 r := by
  cases hr : FloatKind.f32.format.read b with
  | nan s t =>
    refine ⟨(Question.nanConv .f64 b).cut (w.tape w.drawn (.nanConv .f64 b)), 1, ?_, ?_, (nan_conv .f64 b _).2⟩
    · simp [convert, run_underlying hs, run_underlying hd, Conv.floatToFloat, FloatKind.decode, hr, Question.forced]; rfl
    · rw [can_of_nan (nan_conv .f64 b _).1]; simp only [widen, hr, can_qnan]
  | infinity s =>
    refine ⟨FloatKind.f64.encode (.infinity s), 0, ?_, by simp only [widen, hr], encode_wf _ _⟩
    simp [convert, run_underlying hs, run_underlying hd, Conv.floatToFloat, FloatKind.decode, hr]; rfl
  | number s m e =>
    refine ⟨FloatKind.f64.encode (.number s m e), 0, ?_, by simp only [widen, hr], encode_wf _ _⟩
    have h := (lt_encode (k := .f64) (s := s) (lt32 hr) (fine64 (by omega) (by omega))).notInf
    have hr' : FloatKind.f32.decode b = .number s m e := hr
    simp [convert, run_underlying hs, run_underlying hd, Conv.floatToFloat, hr', h]; rfl

theorem run_narrow (w : World) (src dst : TypeId) (b : Nat) (hs : P.underlying src = some (.float .f64)) (hd : P.underlying dst = some (.float .f32)) (hb : narrowable b) :
    ∃ r n, (convert src dst (.float .f64 b)).run P w = .ok (.float .f32 r) (w.drewN n) ∧ can .f32 r = can .f32 (narrow b) ∧ fits .f32 r := by
  cases hr : FloatKind.f64.format.read b with
  | nan s t =>
    refine ⟨(Question.nanConv .f32 b).cut (w.tape w.drawn (.nanConv .f32 b)), 1, ?_, ?_, (nan_conv .f32 b _).2⟩
    · simp [convert, run_underlying hs, run_underlying hd, Conv.floatToFloat, FloatKind.decode, hr, Question.forced]; rfl
    · rw [can_of_nan (nan_conv .f32 b _).1]; simp only [narrow, hr, can_qnan]
  | infinity s =>
    refine ⟨FloatKind.f32.encode (.infinity s), 0, ?_, by simp only [narrow, hr], encode_wf _ _⟩
    simp [convert, run_underlying hs, run_underlying hd, Conv.floatToFloat, FloatKind.decode, hr]; rfl
  | number s m e =>
    refine ⟨FloatKind.f32.encode (.number s m e), 0, ?_, by simp only [narrow, hr], encode_wf _ _⟩
    have hl : lt .f64 b 126 := by
      rcases hb with h | h | h
      · simp [isNan, hr, Ieee.Datum.isNaN] at h
      · simp [hr, Ieee.Datum.isInfinity] at h
      · exact h
    obtain ⟨s', m', e', hr', hm⟩ := hl
    rw [hr] at hr'
    cases hr'
    have h := (lt_encode (k := .f32) (s := s) hm (fine32 (by omega) (by omega))).notInf
    have hr' : FloatKind.f64.decode b = .number s m e := hr
    simp [convert, run_underlying hs, run_underlying hd, Conv.floatToFloat, hr', h]; rfl

variable {w : World} {ops : Array Oper} {rest : List Oper} {o : Oper} {a : Act} {Q : Exit → Act → World → Prop}
theorem wpList_widen (hg : o.guard = none) {src dst : TypeId} {x : Operand} (hop : o.op = Op.convert src dst x) {b : Nat} (hx : a.eval x = .float .f32 b)
    (hs : P.underlying src = some (.float .f32)) (hd : P.underlying dst = some (.float .f64))
    (hK : ∀ r n, Hid (can .f64 r = can .f64 (widen b)) → Hid (fits .f64 r) → wpList P ops Q rest (a.put o.dst (.float .f64 r)) (w.drewN n)) : wpList P ops Q (o :: rest) a w := by
  refine wpList_plain hg fun K hK' => ?_
  obtain ⟨r, n, hrun, hr, hf⟩ := run_widen (P := P) w src dst b hs hd
  unfold Oper.wp
  simp [execOp, hop, hx, hrun, Result.andThen]
  exact hK' _ _ (hK r n hr hf)
theorem wpList_narrow (hg : o.guard = none) {src dst : TypeId} {x : Operand} (hop : o.op = Op.convert src dst x) {b : Nat} (hx : a.eval x = .float .f64 b)
    (hs : P.underlying src = some (.float .f64)) (hd : P.underlying dst = some (.float .f32)) (hb : narrowable b)
    (hK : ∀ r n, Hid (can .f32 r = can .f32 (narrow b)) → Hid (fits .f32 r) → wpList P ops Q rest (a.put o.dst (.float .f32 r)) (w.drewN n)) : wpList P ops Q (o :: rest) a w := by
  refine wpList_plain hg fun K hK' => ?_
  obtain ⟨r, n, hrun, hr, hf⟩ := run_narrow (P := P) w src dst b hs hd hb
  unfold Oper.wp
  simp [execOp, hop, hx, hrun, Result.andThen]
  exact hK' _ _ (hK r n hr hf)
end
end Go.Fk
