/- The contracts of 'SineOf'. -/
import Derived.Test.YtpfdegimnjbehabRows
import Derived.Test.YtpfdegimnjbehabFloorV
import Derived.Test.YtpfdegimnjbehabAbs
import Derived.Test.YtpfdegimnjbehabRow
import Derived.Test.YtpfdegimnjbehabFin
import Derived.Below
import Derived.Handy
import Derived.Laws.EntriesVeiled
import Derived.Test.YtpfdegimnjbehabRow2
import Derived.Test.YtpfdegimnjbehabFrom
namespace Go.Fk
open Go Go.RowKit
/-- The part of a turn. -/
def frS (x : Nat) : Nat := fop .sub .f64 (widen x) (integ .down (widen x))
theorem frS_le {x : Nat} (h : fin x = true) : leV (frS x) 0 := by
  cases hr : FloatKind.f32.format.read x with
  | nan s t => simp [fin, hr] at h
  | infinity s => simp [fin, hr] at h
  | number s m e =>
    obtain ⟨j, e', h1, _, _⟩ := read_widen hr
    obtain ⟨h2, h3⟩ := val_floor h1
    refine sub_leV ⟨_, _, _, _, h1, fun _ => Int.le_refl _⟩ h3 (by omega) ?_ (fine64 (by omega) (by omega))
    rw [h2, show ((0 : Int) + 1074).toNat = 1074 by decide]
    have hU : (0 : Int) < 2 ^ 1074 := Int.pow_pos (by omega)
    have hU2 : ((2 ^ 1074 : Nat) : Int) = 2 ^ 1074 := Int.natCast_pow 2 1074
    generalize (2 : Nat) ^ 1074 = UN at *
    generalize (2 : Int) ^ 1074 = U at *
    have := Int.emod_add_ediv_mul (val .f64 (widen x)) U
    have h4 := Int.emod_nonneg (val .f64 (widen x)) (show U ≠ 0 by omega)
    have h5 := Int.emod_lt_of_pos (val .f64 (widen x)) hU
    omega
/-- Is it in the second half? -/
def negS (x : Nat) : Bool := FloatKind.f64.format.order (frS x) 4602678819172646912 == some .gt || FloatKind.f64.format.order (frS x) 4602678819172646912 == some .eq
def f1S (x : Nat) : Nat := if negS x = true then fop .sub .f64 (frS x) 4602678819172646912 else frS x
def f2S (x : Nat) : Nat := if (FloatKind.f64.format.order (f1S x) 4598175219545276416 == some .gt) = true then fop .sub .f64 4602678819172646912 (f1S x) else f1S x
def xS (x : Nat) : Nat := fop .mul .f64 4618760256179416344 (f2S x)
def yS (x : Nat) : Nat := fop .mul .f64 (xS x) (xS x)
def denS (k : Nat) : Nat := floatOfInt .f64 (wrap64 (2 * (8 - (k : Int)) * (2 * (8 - (k : Int)) + 1)))
def tS (x : Nat) : Nat → Nat
  | 0 => 4607182418800017408
  | k + 1 => fop .sub .f64 4607182418800017408 (fop .mul .f64 (fop .quo .f64 (yS x) (denS k)) (tS x k))
def sS (x : Nat) : Nat := fop .mul .f64 (tS x 8) (xS x)
def sgS (x : Nat) : Nat := if negS x = true then neg .f64 (sS x) else sS x
/-- The sine of turns, up to the bits of NaN. -/
def sineW (x : Nat) : Nat := if fin x = true then can .f32 (narrow (sgS x)) else qnan .f32

theorem pow_two_up (n : Nat) : 2 ^ (n + 2) = 4 * 2 ^ n := by rw [Nat.pow_add]; omega
theorem half_le : leV 4602678819172646912 (-1) ∧ val .f64 4602678819172646912 = 2 * 2 ^ 1072 := by
  refine ⟨⟨⟨false, 4503599627370496, -53, by decide, by decide⟩, ?_⟩, ?_⟩ <;> decide +kernel
theorem quarter_val : val .f64 4598175219545276416 = 2 ^ 1072 ∧ isNan .f64 4598175219545276416 = false := by
  refine ⟨?_, ?_⟩ <;> decide +kernel
theorem order_gt {a b : Nat} (ha : isNan .f64 a = false) (hb : isNan .f64 b = false) : (FloatKind.f64.format.order a b == some .gt) = true ↔ val .f64 b < val .f64 a := by
  rw [order_val ha hb, beq_iff_eq, Option.some.injEq]
  exact Int.compare_eq_gt
theorem order_eq2 {a b : Nat} (ha : isNan .f64 a = false) (hb : isNan .f64 b = false) : (FloatKind.f64.format.order a b == some .eq) = true ↔ val .f64 a = val .f64 b := by
  rw [order_val ha hb, beq_iff_eq, Option.some.injEq]
  exact Int.compare_eq_eq
theorem f1S_le {x : Nat} (h : fin x = true) : leV (f1S x) 0 := by
  have hf := frS_le h
  have hh := half_le
  unfold f1S
  split
  · rename_i hn
    refine sub_leV ⟨_, hf.1⟩ ⟨_, hh.1.1⟩ (by omega) ?_ (fine64 (by omega) (by omega))
    have hv : val .f64 4602678819172646912 ≤ val .f64 (frS x) := by
      unfold negS at hn
      rw [Bool.or_eq_true, order_gt hf.1.notNan hh.1.1.notNan, order_eq2 hf.1.notNan hh.1.1.notNan] at hn
      omega
    have h2 := hf.2
    rw [hh.2] at hv ⊢
    rw [show ((0 : Int) + 1074).toNat = 1072 + 2 by rfl, pow_two_up 1072] at h2 ⊢
    have e : ((2 ^ 1072 : Nat) : Int) = 2 ^ 1072 := Int.natCast_pow 2 1072
    have e0 := Nat.two_pow_pos 1072
    generalize (2 : Nat) ^ 1072 = UN at *
    generalize (2 : Int) ^ 1072 = U at *
    omega
  · exact hf
theorem f2S_le {x : Nat} (h : fin x = true) : leV (f2S x) 0 := by
  have hf := f1S_le h
  have hh := half_le
  unfold f2S
  split
  · rename_i hn
    refine sub_leV ⟨_, hh.1.1⟩ ⟨_, hf.1⟩ (by omega) ?_ (fine64 (by omega) (by omega))
    rw [order_gt hf.1.notNan quarter_val.2, quarter_val.1] at hn
    have h2 := hf.2
    rw [hh.2]
    rw [show ((0 : Int) + 1074).toNat = 1072 + 2 by rfl, pow_two_up 1072] at h2 ⊢
    have e : ((2 ^ 1072 : Nat) : Int) = 2 ^ 1072 := Int.natCast_pow 2 1072
    have e0 := Nat.two_pow_pos 1072
    generalize (2 : Nat) ^ 1072 = UN at *
    generalize (2 : Int) ^ 1072 = U at *
    omega
  · exact hf
theorem fop_lt {op : BinOp} {a b : Nat} {C : Int} (h : ∃ r, floatBits op .f64 a b = some r ∧ lt .f64 r C) : lt .f64 (fop op .f64 a b) C := by
  obtain ⟨r, h1, h2⟩ := h
  unfold fop
  rw [h1]
  simp only
  rw [can_of_not h2.notNan]
  exact h2
theorem xS_lt {x : Nat} (h : fin x = true) : lt .f64 (xS x) 5 :=
  (fop_lt (lt_mul (A := 3) (B := 1) ⟨false, 7074237752028440, -50, by decide, by decide⟩ (f2S_le h).1 (fine64 (by omega) (by omega)))).mono (by omega)
theorem yS_lt {x : Nat} (h : fin x = true) : lt .f64 (yS x) 11 :=
  (fop_lt (lt_mul (A := 5) (B := 5) (xS_lt h) (xS_lt h) (fine64 (by omega) (by omega)))).mono (by omega)
theorem denS_ge {k : Nat} (h : k < 8) : ge .f64 (denS k) 2 := by
  have key : ∀ k : Fin 8, (match FloatKind.f64.format.read (denS k) with | .number _ m e => decide (m ≠ 0 ∧ 2 ≤ e + m.log2) | _ => false) = true := by decide +kernel
  have hk := key ⟨k, h⟩
  simp only at hk
  cases hr : FloatKind.f64.format.read (denS k) with
  | nan s t => rw [hr] at hk; cases hk
  | infinity s => rw [hr] at hk; cases hk
  | number s m e =>
    rw [hr] at hk
    simp only [decide_eq_true_eq] at hk
    exact ⟨s, m, e, hr, hk.1, hk.2⟩
theorem one_lt : lt .f64 4607182418800017408 1 := ⟨false, 4503599627370496, -52, by decide, by decide⟩
theorem qS_lt {x : Nat} (h : fin x = true) {k : Nat} (hk : k < 8) : lt .f64 (fop .quo .f64 (yS x) (denS k)) 11 :=
  (fop_lt (lt_quo (A := 11) (C := 2) (yS_lt h) (denS_ge hk) (fine64 (by omega) (by omega)))).mono (by omega)
theorem tS_lt {x : Nat} (h : fin x = true) (k : Nat) (hk : k ≤ 8) : lt .f64 (tS x k) (1 + 14 * k) := by
  induction k with
  | zero => exact one_lt
  | succ k ih =>
    have h1 := ih (by omega)
    have h2 := (fop_lt (lt_mul (qS_lt h (show k < 8 by omega)) h1 (fine64 (by omega) (by omega)))).mono (B := 13 + 14 * (k : Int)) (by omega)
    exact (fop_lt (lt_sub one_lt h2 (fine64 (by omega) (by omega)))).mono (by push_cast; omega)
theorem sS_lt {x : Nat} (h : fin x = true) : lt .f64 (sS x) 119 :=
  (fop_lt (lt_mul (A := 113) (B := 5) (tS_lt h 8 (by omega)) (xS_lt h) (fine64 (by omega) (by omega)))).mono (by omega)
theorem lt_neg {b : Nat} {A : Int} (h : lt .f64 b A) : lt .f64 (neg .f64 b) A := by
  obtain ⟨s, m, e, hr, hm⟩ := h
  have hx : neg .f64 b % FloatKind.f64.format.signWeight = b % FloatKind.f64.format.signWeight := xor_mod b 63
  unfold Ieee.Format.read at hr
  dsimp only at hr
  rw [← hx] at hr
  have key : ∃ s', FloatKind.f64.format.read (neg .f64 b) = .number s' m e := by
    unfold Ieee.Format.read
    dsimp only
    split
    · rename_i h1
      rw [if_pos h1] at hr
      simp only [Ieee.Datum.number.injEq] at hr ⊢
      exact ⟨_, rfl, hr.2⟩
    · rename_i h1
      rw [if_neg h1] at hr
      split
      · rename_i h2
        rw [if_pos h2] at hr
        simp only [Ieee.Datum.number.injEq] at hr ⊢
        exact ⟨_, rfl, hr.2⟩
      · rename_i h2
        rw [if_neg h2] at hr
        split at hr <;> cases hr
  obtain ⟨s', hs⟩ := key
  exact ⟨s', m, e, hs, hm⟩
theorem lt.narrowX {b : Nat} (h : lt .f64 b 126) : narrowableX b := by
  intro s m e hr
  obtain ⟨s', m', e', hr', hm⟩ := h
  rw [hr] at hr'
  cases hr'
  exact (lt_encode (k := .f32) (s := s) hm (fine32 (by omega) (by omega))).notInf
theorem wide_read {x r : Nat} (hx : fin x = true) (h : Hid (can .f64 r = can .f64 (widen x))) : ∃ s m e, FloatKind.f64.format.read r = .number s m e := by
  cases hr : FloatKind.f32.format.read x with
  | nan s t => simp [fin, hr] at hx
  | infinity s => simp [fin, hr] at hx
  | number s m e =>
    obtain ⟨j, e', h1, _, _⟩ := read_widen hr
    have : r = widen x := (eq_of_can h.out.symm (by simp [isNan, h1, Ieee.Datum.isNaN])).symm
    rw [this]
    exact ⟨_, _, _, h1⟩
theorem wide_num {x r : Nat} (hx : fin x = true) (h : Hid (can .f64 r = can .f64 (widen x))) : isNan .f64 r = false := by
  obtain ⟨s, m, e, hr⟩ := wide_read hx h
  simp [isNan, hr, Ieee.Datum.isNaN]
theorem wide_fin {x r : Nat} (hx : fin x = true) (h : Hid (can .f64 r = can .f64 (widen x))) : (FloatKind.f64.format.read r).isInfinity = false := by
  obtain ⟨s, m, e, hr⟩ := wide_read hx h
  simp [hr, Ieee.Datum.isInfinity]
theorem notInf_order {x : Nat} (hi : (FloatKind.f64.format.read x).isInfinity = false) (hn : isNan .f64 x = false) : (FloatKind.f64.format.order (x % 9223372036854775808) 9218868437227405311 == some .gt) = false := by
  cases hr : FloatKind.f64.format.read x with
  | nan s t => simp [isNan, hr, Ieee.Datum.isNaN] at hn
  | infinity s => rw [hr] at hi; simp [Ieee.Datum.isInfinity] at hi
  | number s m e =>
    obtain ⟨b1, b2, b3, b4, b5⟩ := bits64
    have h1 := read_mod hr
    rw [b4] at h1
    have n1 : isNan .f64 (x % 9223372036854775808) = false := by simp [isNan, h1, Ieee.Datum.isNaN]
    have n2 : isNan .f64 9218868437227405311 = false := by decide
    cases ho : (FloatKind.f64.format.order (x % 9223372036854775808) 9218868437227405311 == some .gt)
    · rfl
    · rw [order_gt n1 n2] at ho
      have hM : FloatKind.f64.format.read 9218868437227405311 = .number false 9007199254740991 971 := by decide
      have v1 : val .f64 9218868437227405311 = Ieee.signed false 9007199254740991 2045 := by simp only [val, hM]; rfl
      have v2 : val .f64 (x % 9223372036854775808) = Ieee.signed false m (e + 1074).toNat := by simp only [val, h1]; rfl
      generalize hZ : (2045 : Nat) = Z at v1
      rw [v1, v2, signed_eq, signed_eq] at ho
      simp only [Bool.false_eq_true, if_false] at ho
      obtain ⟨p1, p2⟩ := read64 hr
      exfalso
      have hle : m * 2 ^ (e + 1074).toNat ≤ 9007199254740991 * 2 ^ Z := by
        by_cases m0 : m = 0
        · subst m0; rw [Nat.zero_mul]; exact Nat.zero_le _
        · obtain ⟨q1, q2⟩ := p2 m0
          have hm : m ≤ 9007199254740991 := by
            have := @Nat.lt_log2_self m
            have h2 : 2 ^ (m.log2 + 1) ≤ 2 ^ 53 := Nat.pow_le_pow_right (by omega) (by omega)
            omega
          by_cases he : e ≤ 971
          · have hz : (e + 1074).toNat ≤ Z := by omega
            exact Nat.mul_le_mul hm (Nat.pow_le_pow_right (by omega) hz)
          · have h3 : m < 2 ^ (m.log2 + 1) := Nat.lt_log2_self
            have h4 : m * 2 ^ (e - 971).toNat < 2 ^ 53 := by
              calc m * 2 ^ (e - 971).toNat < 2 ^ (m.log2 + 1) * 2 ^ (e - 971).toNat := Nat.mul_lt_mul_of_pos_right h3 (Nat.two_pow_pos _)
                _ = 2 ^ (m.log2 + 1 + (e - 971).toNat) := by rw [← Nat.pow_add]
                _ ≤ 2 ^ 53 := Nat.pow_le_pow_right (by omega) (by omega)
            rw [show (e + 1074).toNat = (e - 971).toNat + Z by omega, Nat.pow_add, ← Nat.mul_assoc]
            exact Nat.mul_le_mul_right _ (by omega)
      have hle2 : ((m * 2 ^ (e + 1074).toNat : Nat) : Int) ≤ ((9007199254740991 * 2 ^ Z : Nat) : Int) := Int.ofNat_le.2 hle
      rw [Int.natCast_mul, Int.natCast_mul, Int.natCast_pow, Int.natCast_pow] at hle2
      exact absurd ho (Int.not_lt.2 hle2)
/-- A fresh pair, written. -/
theorem two_cells (w : World) (n : Nat) (old : Array Value) (u v : Value) (t : TypeId) : ∃ W, W = ((w.drewN n).alloc (.cells old t)).setRow w.heap.size #[u, v] ∧ Row W w.heap.size t #[u, v] ∧ True ∧ Below w.heap.size w W := by
  refine ⟨_, rfl, ?_, trivial, ?_⟩
  · exact (Row.new' _ _ _ (by simp)).setRow _
  · exact below_setRow ((below_drewN (Below.refl _ _) n).alloc (by simp) _) (by omega) _
def FloorRes (b r : Nat) : Prop := can .f64 r = can .f64 (integ .down b) ∧ fits .f64 r
theorem eq_fop {op : BinOp} {a b r : Nat} {C : Int} (h : can .f64 r = fop op .f64 a b) (hl : lt .f64 (fop op .f64 a b) C) : r = fop op .f64 a b := by
  refine (eq_of_can (k := .f64) ?_ hl.notNan).symm
  rw [h]; exact can_of_not hl.notNan
theorem frS_eq {x r s1 s2 fr : Nat} (hx : fin x = true) (hr : Hid (can .f64 r = fop .sub .f64 s1 fr)) (h1 : Hid (can .f64 s1 = can .f64 (widen x))) (hf : Hid (FloorRes s2 fr)) (h2 : Hid (can .f64 s2 = can .f64 (widen x))) : r = frS x := by
  have e : fop .sub .f64 s1 fr = frS x := fop_congr h1.out (by rw [hf.out.1, ← integ_can, h2.out, integ_can])
  have h := hr.out
  rw [e] at h
  exact eq_fop h (frS_le hx).1
theorem neg_yes {x r : Nat} (e : r = frS x) (h : (FloatKind.f64.format.order r 4602678819172646912 == some .gt) = true ∨ (FloatKind.f64.format.order r 4602678819172646912 == some .eq) = true) : negS x = true := by
  subst e; unfold negS; rw [Bool.or_eq_true]; exact h
theorem neg_no {x r : Nat} (e : r = frS x) (h : (FloatKind.f64.format.order r 4602678819172646912 == some .gt) = false ∧ (FloatKind.f64.format.order r 4602678819172646912 == some .eq) = false) : negS x = false := by
  subst e; unfold negS; rw [Bool.or_eq_false_iff]; exact h
theorem f1_neg {x r0 r1 : Nat} (hx : fin x = true) (e : r0 = frS x) (n : negS x = true) (h : Hid (can .f64 r1 = fop .sub .f64 r0 4602678819172646912)) : r1 = f1S x := by
  subst e
  have e : f1S x = fop .sub .f64 (frS x) 4602678819172646912 := if_pos n
  have hl := (f1S_le hx).1
  rw [e] at hl ⊢
  exact eq_fop h.out hl
theorem f1_pos {x r0 : Nat} (e : r0 = frS x) (n : negS x = false) : r0 = f1S x := by
  subst e; exact (if_neg (by rw [n]; simp)).symm
theorem f2_fold {x r0 r1 : Nat} (hx : fin x = true) (e : r0 = f1S x) (n : (FloatKind.f64.format.order r0 4598175219545276416 == some .gt) = true) (h : Hid (can .f64 r1 = fop .sub .f64 4602678819172646912 r0)) : r1 = f2S x := by
  subst e
  have e : f2S x = fop .sub .f64 4602678819172646912 (f1S x) := if_pos n
  have hl := (f2S_le hx).1
  rw [e] at hl ⊢
  exact eq_fop h.out hl
theorem f2_stay {x r0 : Nat} (e : r0 = f1S x) (n : (FloatKind.f64.format.order r0 4598175219545276416 == some .gt) = false) : r0 = f2S x := by
  subst e; exact (if_neg (by rw [n]; simp)).symm
theorem xS_eq {x r0 r : Nat} (hx : fin x = true) (e : r0 = f2S x) (h : Hid (can .f64 r = fop .mul .f64 4618760256179416344 r0)) : r = xS x := by
  subst e; exact eq_fop h.out (xS_lt hx)
theorem yS_eq {x r0 r : Nat} (hx : fin x = true) (e : r0 = xS x) (h : Hid (can .f64 r = fop .mul .f64 r0 r0)) : r = yS x := by
  subst e; exact eq_fop h.out (yS_lt hx)
theorem tS_eq {x q p t k : Nat} (hx : fin x = true) (hk : k < 8) (hq : Hid (can .f64 q = fop .quo .f64 (yS x) (denS k))) (hp : Hid (can .f64 p = fop .mul .f64 q (tS x k))) (ht : Hid (can .f64 t = fop .sub .f64 4607182418800017408 p)) : t = tS x (k + 1) := by
  have e1 := eq_fop hq.out (qS_lt hx hk)
  subst e1
  have h1 := tS_lt hx k (by omega)
  have e2 := eq_fop hp.out (fop_lt (lt_mul (qS_lt hx hk) h1 (fine64 (by omega) (by omega))))
  subst e2
  exact eq_fop ht.out (tS_lt hx (k + 1) (by omega))
theorem nar_s {x s : Nat} (hx : fin x = true) (h : Hid (can .f64 s = fop .mul .f64 (tS x 8) (xS x))) : narrowableX s := by
  have e : s = sS x := eq_fop h.out (sS_lt hx)
  rw [e]; exact ((sS_lt hx).mono (by omega)).narrowX
theorem nar_n {x s : Nat} (hx : fin x = true) (h : Hid (can .f64 s = fop .mul .f64 (tS x 8) (xS x))) : narrowableX (neg .f64 s) := by
  have e : s = sS x := eq_fop h.out (sS_lt hx)
  rw [e]; exact (lt_neg ((sS_lt hx).mono (by omega))).narrowX
theorem sine_pos {x s q : Nat} (hx : fin x = true) (n : negS x = false) (h : Hid (can .f64 s = fop .mul .f64 (tS x 8) (xS x))) (hq : Hid (can .f32 q = can .f32 (narrow s))) : can .f32 q = sineW x := by
  have e : s = sS x := eq_fop h.out (sS_lt hx)
  rw [hq.out, e, sineW, if_pos hx, sgS, if_neg (by rw [n]; simp)]
theorem sine_neg {x s q : Nat} (hx : fin x = true) (n : negS x = true) (h : Hid (can .f64 s = fop .mul .f64 (tS x 8) (xS x))) (hq : Hid (can .f32 q = can .f32 (narrow (neg .f64 s)))) : can .f32 q = sineW x := by
  have e : s = sS x := eq_fop h.out (sS_lt hx)
  rw [hq.out, e, sineW, if_pos hx, sgS, if_pos n]
theorem nanX {b : Nat} (h : isNan .f64 b = true) : narrowableX b := by
  intro s m e hr
  simp [isNan, hr, Ieee.Datum.isNaN] at h
theorem narrow_nan {b : Nat} (h : isNan .f64 b = true) : narrow b = qnan .f32 := by
  obtain ⟨s, t, hr⟩ := read_nan h
  simp only [narrow, hr]
/-- What a wide form of what is not finite is. -/
theorem not_fin {x r : Nat} (hx : fin x = false) (h : can .f64 r = can .f64 (widen x)) : isNan .f64 r = true ∨ (isNan .f64 r = false ∧ (FloatKind.f64.format.order (r % 9223372036854775808) 9218868437227405311 == some .gt) = true) := by
  cases hr : FloatKind.f32.format.read x with
  | nan s t =>
    left
    rw [isNan_of_can h]
    have : widen x = qnan .f64 := by simp only [widen, hr]
    rw [this]; exact isNan_qnan .f64
  | infinity s =>
    right
    have e : widen x = FloatKind.f64.encode (.infinity s) := by simp only [widen, hr]
    have hn : isNan .f64 (widen x) = false := by rw [e]; cases s <;> decide
    have e2 : r = widen x := (eq_of_can h.symm hn).symm
    rw [e2, hn, e]
    refine ⟨rfl, ?_⟩
    cases s <;> decide
  | number s m e => simp [fin, hr] at hx
theorem sS_eq {x s : Nat} (hx : fin x = true) (h : Hid (can .f64 s = fop .mul .f64 (tS x 8) (xS x))) : s = sS x := eq_fop h.out (sS_lt hx)
end Go.Fk
namespace Go.Proofs.Ytpfdegimnjbehab
open Go.RowKit Go.Fk
theorem run_arch (b : Nat) (hb : fits .f64 b) (w : World) : ∃ r n, (callFunc 79 #[.float .f64 b]).run Try.prog w = .ok (.value (.float .f64 r)) (w.drewN n) ∧ FloorRes b r := by
  obtain ⟨r, n, h, h2⟩ := run_integral (P := Try.prog) "math.archFloor" .down w b hb
  refine ⟨r, n, ?_, h2⟩
  rw [run_callFunc_extern (e := Extern.MathFloor.toIntegral "math.archFloor" .down) Try.func79 (by kernel_rfl) (by kernel_rfl) (by kernel_rfl) (by kernel_rfl), h]; rfl
theorem arch_any (b : Nat) (hb : Hid (fits .f64 b)) : ∀ w, ∃ r n, (callFunc 79 #[.float .f64 b]).run Try.prog w = .ok (.value (.float .f64 r)) (w.drewN n) ∧ FloorRes b r := run_arch b hb
theorem floor_any (b : Nat) (w : World) (hb : Hid (fits .f64 b)) : Calls Try.prog 69 #[.float .f64 b] w fun e w' => ∃ r n, e = .returned (.float .f64 r) ∧ Hid (FloorRes b r) ∧ w' = w.drewN n := by
  go_enter Try.func69, Try.ntmps69
  go_wp2_with (refine wpList_extern rfl rfl rfl _ (arch_any _ (by assumption)) ?_; intro fr fn hfr)
  go_ret
  exact ⟨_, _, rfl, hfr, rfl⟩
theorem s_l01Sine (x : Nat) (w : World) (hx : fin x = true) : Calls Try.prog 62 #[.float .f32 x] w (fun e w' => ∃ r n, e = .returned (.float .f32 r) ∧ can .f32 r = sineW x ∧ w' = w.drewN n) := by
  go_enter Try.func62, Try.ntmps62
  go_wp2_with (first | (with_reducible refine wpList_farith rfl rfl rfl rfl rfl ?_; intro r n hr hf) | (with_reducible refine wpList_widen rfl rfl rfl Try.underlying36 Try.underlying40 ?_; intro s1 n1 h1 f1) | (go_at_call 67; refine (s_l01Finite _ _).mono ?_; rintro e w' ⟨rfl, n0, rfl⟩) | (go_at_call 69; refine (floor_any _ _ (by assumption)).mono ?_; rintro e w' ⟨fr, fn, rfl, hfr, rfl⟩))
  all_goals
    have E := frS_eq hx ‹Hid (can .f64 _ = fop .sub .f64 _ fr)› (by assumption) (by assumption) (by assumption)
    first
    | (have N := neg_yes E (by assumption)
       have F := f1_neg hx E N (by assumption)
       first
       | have G := f2_fold hx F (by assumption) (by assumption)
       | have G := f2_stay F (by assumption)
       have X := xS_eq hx G (by assumption)
       have Y := yS_eq hx X (by assumption)
       replace N := hid N
       subst X Y)
    | (have N := neg_no E (by assumption)
       have F := f1_pos E N
       first
       | have G := f2_fold hx F (by assumption) (by assumption)
       | have G := f2_stay F (by assumption)
       have X := xS_eq hx G (by assumption)
       have Y := yS_eq hx X (by assumption)
       replace N := hid N
       subst X Y)
    clear F G
    replace E := hid E
    go_loopw [7, 8] (fun tv i wr => ∃ k : Nat, k ≤ 8 ∧ i = .int .i64 (8 - (k : Int)) ∧ tv = .float .f64 (tS x k) ∧ ∃ n, wr = w.drewN n) (fun _ i _ => (intOf i).toNat)
    case atStart => exact ⟨0, by omega, rfl, rfl, _, rfl⟩
    case round =>
      obtain ⟨k, hk, rfl, rfl, m, rfl⟩ := hrel
      by_cases hlt : k < 8
      · go_wp2_with (first | (with_reducible refine wpList_farith rfl rfl rfl rfl rfl ?_; intro r n hr hf))
        go_roundw
        case rel => exact ⟨k + 1, by omega, by go_num, by rw [tS_eq hx hlt (by assumption) (by assumption) hr], _, rfl⟩
        case measure => simp [intOf]; omega
      · obtain rfl : k = 8 := by omega
        go_wp2_with (first | (with_reducible refine wpList_farith rfl rfl rfl rfl rfl ?_; intro r n hr hf) | (with_reducible refine wpList_narrowX rfl rfl rfl Try.underlying40 Try.underlying36 (by first | exact nar_s hx (by assumption) | exact nar_n hx (by assumption)) ?_; intro q nq hq hqf))
        all_goals first
          | exact absurd (N.out.symm.trans (neg_no E.out (by assumption))) (by decide)
          | (go_ret
             exact ⟨q, _, rfl, (by first | exact sine_pos hx N.out (by assumption) hq | exact sine_neg hx N.out (by assumption) hq), rfl⟩)
theorem c_NaN (w : World) : Calls Try.prog 68 #[] w fun e w' => e = .returned (.float .f64 9221120237041090561) ∧ w = w' := by
  go_enter Try.func68, Try.ntmps68
  go_wp2
  go_ret
  exact ⟨rfl, rfl⟩
theorem s_l01Sine_no (x : Nat) (w : World) (hx : fin x = false) : Calls Try.prog 62 #[.float .f32 x] w (fun e w' => ∃ r n, e = .returned (.float .f32 r) ∧ can .f32 r = sineW x ∧ w' = w.drewN n) := by
  go_enter Try.func62, Try.ntmps62
  go_wp2_with (first | (go_at_call 67; refine (s_l01Finite _ _).mono ?_; rintro e w' ⟨rfl, n0, rfl⟩) | (go_at_call 68; refine (c_NaN _).mono ?_; rintro e w' ⟨rfl, rfl⟩) | (with_reducible refine wpList_narrowX rfl rfl rfl Try.underlying40 Try.underlying36 (nanX (by decide)) ?_; intro q nq hq hqf))
  go_ret
  exact ⟨q, _, rfl, by rw [hq.out, narrow_nan (by decide)]; simp [sineW, hx, can_qnan], rfl⟩
theorem s_Sine (x : Nat) (w : World) : Calls Try.prog 62 #[.float .f32 x] w (fun e w' => ∃ r n, e = .returned (.float .f32 r) ∧ can .f32 r = sineW x ∧ w' = w.drewN n) := by
  cases hx : fin x
  · exact s_l01Sine_no x w hx
  · exact s_l01Sine x w hx
theorem c_IsNaN (x : Nat) (w : World) : Calls Try.prog 70 #[.float .f64 x] w fun e w' => e = .returned (.bool (isNan .f64 x)) ∧ w = w' := by
  go_enter Try.func70, Try.ntmps70
  go_wp2
  go_ret
  exact ⟨rfl, rfl⟩
theorem c_IsInf (x : Nat) (w : World) (hx : fits .f64 x) (hi : (FloatKind.f64.format.read x).isInfinity = false) (hn : isNan .f64 x = false) : Calls Try.prog 71 #[.float .f64 x, .int .i64 0] w fun e w' => e = .returned (.bool false) ∧ w = w' := by
  have ho := notInf_order hi hn
  go_enter Try.func71, Try.ntmps71
  go_wp2_with (go_at_call 81; refine (abs64 _ _ hx).mono ?_; rintro e w' ⟨rfl, rfl⟩)
  go_ret
  exact ⟨rfl, rfl⟩
theorem c_IsInf_yes (x : Nat) (w : World) (hx : fits .f64 x) (ho : (FloatKind.f64.format.order (x % 9223372036854775808) 9218868437227405311 == some .gt) = true) : Calls Try.prog 71 #[.float .f64 x, .int .i64 0] w fun e w' => e = .returned (.bool true) ∧ w = w' := by
  go_enter Try.func71, Try.ntmps71
  go_wp2_with (go_at_call 81; refine (abs64 _ _ hx).mono ?_; rintro e w' ⟨rfl, rfl⟩)
  go_ret
  exact ⟨rfl, rfl⟩
theorem i_sine (x : Nat) (w : World) (hx : fin x = true) : Calls Try.prog 73 #[.float .f64 (f2S x)] w (fun e w' => e = .returned (.float .f64 (sS x)) ∧ ∃ n, w' = w.drewN n) := by
  go_enter Try.func73, Try.ntmps73
  go_wp2_with (with_reducible refine wpList_farith rfl rfl rfl rfl rfl ?_; intro r n hr hf)
  have X := xS_eq hx rfl (by assumption)
  have Y := yS_eq hx X (by assumption)
  subst X Y
  go_loopw [5, 6] (fun tv i wr => ∃ k : Nat, k ≤ 8 ∧ i = .int .i64 (8 - (k : Int)) ∧ tv = .float .f64 (tS x k) ∧ ∃ n, wr = w.drewN n) (fun _ i _ => (intOf i).toNat)
  case atStart => exact ⟨0, by omega, rfl, rfl, _, rfl⟩
  case round =>
    obtain ⟨k, hk, rfl, rfl, m, rfl⟩ := hrel
    by_cases hlt : k < 8
    · go_wp2_with (first | (with_reducible refine wpList_farith rfl rfl rfl rfl rfl ?_; intro r n hr hf))
      go_roundw
      case rel => exact ⟨k + 1, by omega, by go_num, by rw [tS_eq hx hlt (by assumption) (by assumption) hr], _, rfl⟩
      case measure => simp [intOf]; omega
    · obtain rfl : k = 8 := by omega
      go_wp2_with (first | (with_reducible refine wpList_farith rfl rfl rfl rfl rfl ?_; intro r n hr hf))
      go_ret
      exact ⟨ret_f (eq_fop hr.out (sS_lt hx)), _, rfl⟩
theorem i_opp (x : Nat) (w : World) (hx : fin x = true) : Calls Try.prog 74 #[.float .f64 (f2S x)] w (fun e w' => e = .returned (.float .f64 (neg .f64 (sS x))) ∧ ∃ n, w' = w.drewN n) := by
  go_enter Try.func74, Try.ntmps74
  go_wp2_with (go_at_call 73; refine (i_sine x _ hx).mono ?_; rintro e w' ⟨rfl, n, rfl⟩)
  go_ret
  exact ⟨rfl, _, rfl⟩
theorem infoHalves : (Try.prog.info? 85).map (·.size) = some 2 := by kernel_rfl
set_option maxRecDepth 100000 in
set_option maxHeartbeats 2000000 in
theorem i_SineOf (x : Nat) (w : World) (hx : fin x = true) : Calls Try.prog 63 #[.float .f32 x] w (fun e w' => ∃ r, e = .returned (.float .f32 r) ∧ can .f32 r = sineW x ∧ Below w.heap.size w w') := by
  go_enter Try.func63, Try.ntmps63
  go_wp2_with (first | (with_reducible refine wpList_farith rfl rfl rfl rfl rfl ?_; intro r n hr hf) | (with_reducible refine wpList_widen rfl rfl rfl Try.underlying36 Try.underlying40 ?_; intro s1 n1 h1 f1; have hnn := wide_num hx h1; have hni := wide_fin hx h1; have hwf := f1.out) | (go_at_call 70; refine (c_IsNaN _ _).mono ?_; rintro e w' ⟨rfl, rfl⟩) | (go_at_call 71; refine (c_IsInf _ _ hwf hni hnn).mono ?_; rintro e w' ⟨rfl, rfl⟩) | (go_at_call 69; refine (floor_any _ _ (by assumption)).mono ?_; rintro e w' ⟨fr, fn, rfl, hfr, rfl⟩) | ((with_reducible refine stop_store rfl ?_)))
  all_goals
    have E := frS_eq hx ‹Hid (can .f64 _ = fop .sub .f64 _ fr)› (by assumption) (by assumption) (by assumption)
    first
    | (have N := neg_yes E (by assumption)
       have F := f1_neg hx E N (by assumption)
       first
       | have G := f2_fold hx F (by assumption) (by assumption)
       | have G := f2_stay F (by assumption)
       have S := hid (show sgS x = neg .f64 (sS x) from if_pos N)
       replace N := hid N)
    | (have N := neg_no E (by assumption)
       have F := f1_pos E N
       first
       | have G := f2_fold hx F (by assumption) (by assumption)
       | have G := f2_stay F (by assumption)
       have S := hid (show sgS x = sS x from if_neg (by rw [N]; simp))
       replace N := hid N)
    show wpList _ _ _ _ _ _
    refine wpList_storeN rfl rfl rfl rfl rfl infoHalves rfl (by simp [Value.oneCell']) (fun w2 R hl hsz => ?_)
    have hl2 := hid (le_trans (le_drewN w _) hl)
    have c0 : w2.cell? ⟨w.heap.size, 0, none⟩ = some (.func (.func 73) #[] #[]) := R.cell? 0
    have c1 : w2.cell? ⟨w.heap.size, 1, none⟩ = some (.func (.func 74) #[] #[]) := R.cell? 1
    clear F hl hsz R
    have hsn := hid ((sS_lt hx).mono (show _ ≤ (126 : Int) by omega)).narrowX
    have hsm := hid (lt_neg ((sS_lt hx).mono (show _ ≤ (126 : Int) by omega))).narrowX
    replace E := hid E
    subst G
    go_wp2_with (first | (go_at_call 73; refine (i_sine x _ hx).mono ?_; rintro e w' ⟨rfl, m, rfl⟩) | (go_at_call 74; refine (i_opp x _ hx).mono ?_; rintro e w' ⟨rfl, m, rfl⟩) | (with_reducible refine wpList_narrowX rfl rfl rfl Try.underlying40 Try.underlying36 (by first | exact hsn.out | exact hsm.out) ?_; intro q nq hq hqf))
    go_ret
    refine ⟨q, rfl, ?_, below_drewN hl2.out _⟩
    rw [hq.out, sineW, if_pos hx, S.out]
set_option maxRecDepth 100000 in
set_option maxHeartbeats 2000000 in
theorem i_SineOf_no (x : Nat) (w : World) (hx : fin x = false) : Calls Try.prog 63 #[.float .f32 x] w (fun e w' => ∃ r, e = .returned (.float .f32 r) ∧ can .f32 r = sineW x ∧ Below w.heap.size w w') := by
  go_enter Try.func63, Try.ntmps63
  go_wp2_with (first | (with_reducible refine wpList_widen rfl rfl rfl Try.underlying36 Try.underlying40 ?_; intro s1 n1 h1 f1; have hnf := hid (not_fin hx h1.out); have hwf := f1.out) | (go_at_call 70; refine (c_IsNaN _ _).mono ?_; rintro e w' ⟨rfl, rfl⟩) | (go_at_call 71; refine (c_IsInf_yes _ _ hwf (hnf.out.resolve_left (by simp [*])).2).mono ?_; rintro e w' ⟨rfl, rfl⟩))
  all_goals
    go_ret
    exact ⟨_, rfl, by rw [sineW, if_neg (by simp [hx])]; decide, by repeat' (first | (with_reducible exact Below.refl _ _) | (with_reducible assumption) | (with_reducible refine below_drewN ?_ _) | (with_reducible refine Below.alloc ?_ ?_ _) | (with_reducible refine Below.drew ?_) | (with_reducible refine Below.setCell ?_ ?_ _) | go_size)⟩
theorem i_Sine (x : Nat) (w : World) : Calls Try.prog 63 #[.float .f32 x] w (fun e w' => ∃ r, e = .returned (.float .f32 r) ∧ can .f32 r = sineW x ∧ Below w.heap.size w w') := by
  cases hx : fin x
  · exact i_SineOf_no x w hx
  · exact i_SineOf x w hx
end Go.Proofs.Ytpfdegimnjbehab
