/- The value of a float as a whole number of its smallest units; order, and the way to integers, by it. Nothing here names a program. -/
import Derived.Test.YtaenbpkcehenkacConv
namespace Go.Fk
open Go Go.RowKit

def unitOf : FloatKind → Nat
  | .f32 => 149
  | .f64 => 1074
/-- Where an infinity is put. -/
def farE : Nat := 3000
theorem farE_ge : 2200 ≤ farE := by decide
def far : Nat := 2 ^ farE
theorem far_pos : 0 < far := Nat.two_pow_pos _
/-- How many smallest units a word stands for; an infinity stands far away. -/
def val (k : FloatKind) (b : Nat) : Int := match k.format.read b with
  | .number s m e => Ieee.signed s m (e + unitOf k).toNat
  | .infinity s => if s then -(far : Int) else far
  | .nan _ _ => 0

theorem signed_eq (s : Bool) (m up : Nat) : Ieee.signed s m up = (if s then -(m : Int) else (m : Int)) * 2 ^ up := by
  unfold Ieee.signed
  rw [Nat.shiftLeft_eq]
  cases s <;> simp [Int.neg_mul]

theorem least_eq (k : FloatKind) : k.format.leastPlace = -(unitOf k : Int) := by cases k <;> decide
theorem read_place {k : FloatKind} {b : Nat} {s : Bool} {m : Nat} {e : Int} (h : k.format.read b = .number s m e) : -(unitOf k : Int) ≤ e := by
  have e4 := least_eq k
  unfold Ieee.Format.read at h
  dsimp only at h
  split at h
  · simp only [Ieee.Datum.number.injEq] at h; omega
  · split at h
    · simp only [Ieee.Datum.number.injEq] at h; omega
    · split at h <;> cases h

theorem val_small {k : FloatKind} {b : Nat} {s : Bool} {m : Nat} {e : Int} (h : k.format.read b = .number s m e) : -(far : Int) < val k b ∧ val k b < far := by
  have hv : val k b = Ieee.signed s m (e + unitOf k).toNat := by simp only [val, h]
  have hp := read_place h
  have key : m * 2 ^ (e + unitOf k).toNat < far := by
    unfold far
    by_cases m0 : m = 0
    · subst m0; rw [Nat.zero_mul]; exact Nat.two_pow_pos _
    · have hm : e + m.log2 + 1 ≤ 1024 := by
        cases k
        · have := lt32 h m0; omega
        · exact lt64 h m0
      have hu : unitOf k ≤ 1074 := by cases k <;> decide
      calc m * 2 ^ (e + unitOf k).toNat < 2 ^ (m.log2 + 1) * 2 ^ (e + unitOf k).toNat := Nat.mul_lt_mul_of_pos_right Nat.lt_log2_self (Nat.two_pow_pos _)
        _ = 2 ^ (m.log2 + 1 + (e + unitOf k).toNat) := by rw [← Nat.pow_add]
        _ ≤ 2 ^ farE := Nat.pow_le_pow_right (by omega) (by have := farE_ge; omega)
  have hc : ((m * 2 ^ (e + unitOf k).toNat : Nat) : Int) < (far : Int) := Int.ofNat_lt.2 key
  have hn : (0 : Int) ≤ ((m * 2 ^ (e + unitOf k).toNat : Nat) : Int) := Int.natCast_nonneg _
  have hv2 : val k b = if s then -((m * 2 ^ (e + unitOf k).toNat : Nat) : Int) else ((m * 2 ^ (e + unitOf k).toNat : Nat) : Int) := by
    rw [hv]; unfold Ieee.signed; rw [Nat.shiftLeft_eq]
  generalize ((m * 2 ^ (e + unitOf k).toNat : Nat) : Int) = v at *
  generalize (far : Int) = big at *
  rw [hv2]
  cases s <;> simp <;> omega

theorem compare_mul (a b c : Int) (hc : 0 < c) : compare (a * c) (b * c) = compare a b := by
  rcases Int.lt_trichotomy a b with h | h | h
  · rw [Int.compare_eq_lt.2 h, Int.compare_eq_lt.2 (Int.mul_lt_mul_of_pos_right h hc)]
  · subst h; rw [Int.compare_eq_eq.2 rfl, Int.compare_eq_eq.2 rfl]
  · rw [Int.compare_eq_gt.2 h, Int.compare_eq_gt.2 (Int.mul_lt_mul_of_pos_right h hc)]

theorem order_val {k : FloatKind} {x y : Nat} (hx : isNan k x = false) (hy : isNan k y = false) : k.format.order x y = some (compare (val k x) (val k y)) := by
  have big : (0 : Int) < (far : Int) := Int.ofNat_lt.2 far_pos
  unfold isNan at hx hy
  unfold Ieee.Format.order
  cases hrx : k.format.read x with
  | nan s t => rw [hrx] at hx; simp [Ieee.Datum.isNaN] at hx
  | infinity s =>
    have vx : val k x = if s then -(far : Int) else far := by simp only [val, hrx]
    cases hry : k.format.read y with
    | nan s t => rw [hry] at hy; simp [Ieee.Datum.isNaN] at hy
    | infinity t =>
      have vy : val k y = if t then -(far : Int) else far := by simp only [val, hry]
      rw [vx, vy]
      generalize (far : Int) = b at *
      simp only [Ieee.Datum.order, Option.some.injEq]
      cases s <;> cases t <;> simp only [if_true, Bool.false_eq_true, if_false]
      · rw [Int.compare_eq_eq.2 rfl]; rfl
      · rw [Int.compare_eq_gt.2 (by omega)]; rfl
      · rw [Int.compare_eq_lt.2 (by omega)]; rfl
      · rw [Int.compare_eq_eq.2 rfl]; rfl
    | number t n j =>
      have hv := val_small hry
      rw [vx]
      generalize (far : Int) = b at *
      simp only [Ieee.Datum.order, Option.some.injEq]
      cases s <;> simp
      · exact (Int.compare_eq_gt.2 (by omega)).symm
      · exact (Int.compare_eq_lt.2 (by omega)).symm
  | number s m i =>
    cases hry : k.format.read y with
    | nan s t => rw [hry] at hy; simp [Ieee.Datum.isNaN] at hy
    | infinity t =>
      have vy : val k y = if t then -(far : Int) else far := by simp only [val, hry]
      have hv := val_small hrx
      rw [vy]
      generalize (far : Int) = b at *
      simp only [Ieee.Datum.order, Option.some.injEq]
      cases t <;> simp
      · exact (Int.compare_eq_lt.2 (by omega)).symm
      · exact (Int.compare_eq_gt.2 (by omega)).symm
    | number t n j =>
      have pi := read_place hrx
      have pj := read_place hry
      simp only [Ieee.Datum.order, val, hrx, hry, Option.some.injEq]
      have e1 : Ieee.signed s m (i + unitOf k).toNat = Ieee.signed s m (i - min i j).toNat * 2 ^ (min i j + unitOf k).toNat := by
        rw [signed_eq, signed_eq, Int.mul_assoc, ← Int.pow_add]
        congr 2; omega
      have e2 : Ieee.signed t n (j + unitOf k).toNat = Ieee.signed t n (j - min i j).toNat * 2 ^ (min i j + unitOf k).toNat := by
        rw [signed_eq, signed_eq, Int.mul_assoc, ← Int.pow_add]
        congr 2; omega
      rw [e1, e2, compare_mul _ _ _ (Int.pow_pos (by omega))]

/-- Cut towards zero, a number is its units divided by those of 1. -/
theorem toInt_val {k : FloatKind} {b : Nat} {s : Bool} {m : Nat} {e : Int} (h : k.format.read b = .number s m e) :
    (k.decode b).toInt .zero = some ((val k b).tdiv (2 ^ unitOf k)) := by
  have hp := read_place h
  simp only [FloatKind.decode, h, val, Ieee.Datum.toInt, Ieee.Datum.integral, Option.some.injEq]
  have hcut : ∀ n d, Ieee.Toward.zero.cut s n d = n / 2 ^ d := by
    intro n d
    simp only [Ieee.Toward.cut, Bool.toNat_false, Nat.add_zero, Nat.one_shiftLeft]
    by_cases hd : d ≤ n.log2 + 2
    · rw [Nat.min_eq_left hd]
    · rw [Nat.min_eq_right (by omega)]
      have h1 : n < 2 ^ (n.log2 + 1) := Nat.lt_log2_self
      have h2 : 2 ^ (n.log2 + 1) ≤ 2 ^ (n.log2 + 2) := Nat.pow_le_pow_right (by omega) (by omega)
      have h3 : 2 ^ (n.log2 + 1) ≤ 2 ^ d := Nat.pow_le_pow_right (by omega) (by omega)
      rw [Nat.div_eq_of_lt (by omega), Nat.div_eq_of_lt (by omega)]
  rw [hcut]
  have e1 : m <<< e.toNat / 2 ^ (-e).toNat = m * 2 ^ (e + unitOf k).toNat / 2 ^ unitOf k := by
    rw [Nat.shiftLeft_eq]
    by_cases he : 0 ≤ e
    · rw [show (-e).toNat = 0 by omega, show (e + unitOf k).toNat = e.toNat + unitOf k by omega, Nat.pow_add, ← Nat.mul_assoc, Nat.mul_div_cancel _ (Nat.two_pow_pos _)]
      simp
    · rw [show e.toNat = 0 by omega]
      have : unitOf k = (-e).toNat + (e + unitOf k).toNat := by omega
      generalize hu : (e + unitOf k).toNat = u at *
      rw [this, Nat.pow_add, Nat.mul_div_mul_right _ _ (Nat.two_pow_pos _)]
      simp
  have e2 : ∀ X : Nat, Ieee.signed s X 0 = if s then -(X : Int) else (X : Int) := by intro X; unfold Ieee.signed; simp
  rw [e1, e2]
  have e3 : Ieee.signed s m (e + unitOf k).toNat = if s then -((m * 2 ^ (e + unitOf k).toNat : Nat) : Int) else ((m * 2 ^ (e + unitOf k).toNat : Nat) : Int) := by
    unfold Ieee.signed; rw [Nat.shiftLeft_eq]
  rw [e3]
  generalize m * 2 ^ (e + unitOf k).toNat = X
  have e4 : ((2 : Int) ^ unitOf k) = ((2 ^ unitOf k : Nat) : Int) := (Int.natCast_pow 2 _).symm
  rw [e4]
  cases s
  · simp only [Bool.false_eq_true, if_false]
    exact (Int.ofNat_tdiv _ _).symm
  · simp only [if_true, Int.neg_tdiv]
    rw [← Int.ofNat_tdiv]
end Go.Fk
