/- The place in a table: a number of 0 to 1, times 256, and its integer. Nothing here names a program. -/
import Derived.Test.YtaenbpkcehenkaaInteg
import Derived.Test.YtaenbpkcehenkaaExact
import Derived.Test.YtaenbpkcehenkaaNaN
namespace Go.Fk
open Go Go.RowKit
def one32 : Int := 2 ^ unitOf .f32
theorem one32_pos : 0 < one32 := Int.pow_pos (by omega)
theorem far32 : 9223372036854775807 * one32 < (far : Int) := by decide +kernel
theorem far32' : -(far : Int) < -9223372036854775808 * one32 := by decide +kernel
theorem val_one : val .f32 1065353216 = one32 ∧ isNan .f32 1065353216 = false := by decide +kernel
theorem val_zero : val .f32 0 = 0 ∧ isNan .f32 0 = false := by decide +kernel
/-- A narrow float to an integer of 64 bits. -/
theorem floatToInt_val32 {b : Nat} (hn : isNan .f32 b = false) (hlo : -9223372036854775808 * one32 ≤ val .f32 b) (hhi : val .f32 b ≤ 9223372036854775807 * one32) :
    floatToIntVal .f32 b .i64 = some ((val .f32 b).tdiv one32) := by
  have hsmall := far32
  have hsmall' := far32'
  cases hr : FloatKind.f32.format.read b with
  | nan s t => simp [isNan, hr, Ieee.Datum.isNaN] at hn
  | infinity s =>
    have hv : val .f32 b = if s then -(far : Int) else far := by simp only [val, hr]
    rw [hv] at hlo hhi
    generalize (far : Int) = big at *
    cases s <;> simp at hlo hhi <;> omega
  | number s m e =>
    have ht := toInt_val hr
    unfold floatToIntVal
    rw [ht]
    have hU := one32_pos
    rw [show (2 : Int) ^ unitOf .f32 = one32 from rfl]
    generalize one32 = U at *
    generalize val .f32 b = v at *
    have h1 : IntKind.i64.min ≤ v.tdiv U := by
      have : IntKind.i64.min = (-9223372036854775808 * U).tdiv U := (Int.mul_tdiv_cancel _ (by omega)).symm
      rw [this]; exact Int.tdiv_le_tdiv hU hlo
    have h2 : v.tdiv U ≤ IntKind.i64.max := by
      have : IntKind.i64.max = (9223372036854775807 * U).tdiv U := (Int.mul_tdiv_cancel _ (by omega)).symm
      rw [this]; exact Int.tdiv_le_tdiv hU hhi
    simp only [h1, h2, and_self, if_true]
theorem val_nearest32 {s : Bool} {m : Nat} {e : Int} (hm : m ≠ 0) (hp : m.log2 ≤ 23) (he : -149 ≤ e) (ho : e + m.log2 ≤ 127) :
    val .f32 (FloatKind.f32.format.nearest s m e) = Ieee.signed s m (e + 149).toNat := by
  obtain ⟨b1, b2, b3, b4, b5⟩ := bits32
  obtain ⟨h5, _⟩ := read_nearest FloatKind.f32.format s m e hm (by omega) (by omega) (by rw [b1, b2, b3]; omega) (by omega)
  have h1 : lastOf FloatKind.f32.format m e ≤ e := by unfold lastOf; omega
  have h2 : -149 ≤ lastOf FloatKind.f32.format m e := by unfold lastOf; omega
  simp only [val, h5]
  rw [signed_eq, signed_eq]
  have hu : ((unitOf .f32 : Nat) : Int) = 149 := rfl
  rw [hu]
  generalize lastOf FloatKind.f32.format m e = last at *
  have e1 : (2 : Int) ^ (e + 149).toNat = 2 ^ (e - last).toNat * 2 ^ (last + 149).toNat := by
    rw [← Int.pow_add]; congr 1; omega
  rw [e1, Int.natCast_mul, Int.natCast_pow]
  cases s
  · simp [Int.mul_assoc]
  · simp [Int.mul_assoc, Int.neg_mul]
/-- The place of a number in a table. -/
def placeW (x : Nat) : Nat := fop .mul .f32 x 1132462080
def inUnit (x : Nat) : Bool := (FloatKind.f32.format.order x 0 == some .gt || FloatKind.f32.format.order x 0 == some .eq) && (FloatKind.f32.format.order x 1065353216 == some .lt || FloatKind.f32.format.order x 1065353216 == some .eq)
theorem inUnit_val {x : Nat} (h : inUnit x = true) : isNan .f32 x = false ∧ 0 ≤ val .f32 x ∧ val .f32 x ≤ one32 := by
  cases hn : isNan .f32 x
  · have h0 := order_val hn val_zero.2
    have h1 := order_val hn val_one.2
    unfold inUnit at h
    rw [h0, h1, val_zero.1, val_one.1] at h
    generalize one32 = U at *
    generalize val .f32 x = v at *
    refine ⟨rfl, ?_, ?_⟩
    · rcases Int.lt_trichotomy v 0 with c | c | c
      · rw [Int.compare_eq_lt.2 c] at h; simp at h
      · omega
      · omega
    · rcases Int.lt_trichotomy v U with c | c | c
      · omega
      · omega
      · rw [Int.compare_eq_gt.2 c] at h; simp at h
  · unfold inUnit at h
    rw [order_of_nan_l hn] at h
    simp at h
theorem place_val {x : Nat} (h : inUnit x = true) : isNan .f32 (placeW x) = false ∧ val .f32 (placeW x) = val .f32 x * 256 := by
  obtain ⟨hn, h0, h1⟩ := inUnit_val h
  have hc : FloatKind.f32.format.read 1132462080 = .number false 8388608 (-15) := by decide
  have hf := far32
  have hU := one32_pos
  cases hr : FloatKind.f32.format.read x with
  | nan s t => simp [isNan, hr, Ieee.Datum.isNaN] at hn
  | infinity s =>
    have hv : val .f32 x = if s then -(far : Int) else far := by simp only [val, hr]
    rw [hv] at h0 h1
    generalize (far : Int) = big at *
    cases s <;> simp at h0 h1 <;> omega
  | number s m e =>
    obtain ⟨he, hm⟩ := read32 hr
    have hb : floatBits .mul .f32 x 1132462080 = some (FloatKind.f32.format.nearest s m (e + 8)) := by
      have : floatBits .mul .f32 x 1132462080 = some (FloatKind.f32.format.nearest (s ^^ false) (m * 2 ^ 23) (e + -15)) := by
        simp only [floatBits, Ieee.Format.mul, hr, hc]; rfl
      rw [this, Bool.xor_false, ← nearest_scale _ s m 23 (e + 8), show e + 8 - ((23 : Nat) : Int) = e + -15 by omega]
    have hp : placeW x = FloatKind.f32.format.nearest s m (e + 8) := by
      unfold placeW fop
      rw [hb]
      exact can_of_not (isNan_nearest .f32 s m (e + 8))
    refine ⟨by rw [hp]; exact isNan_nearest .f32 s m (e + 8), ?_⟩
    have hv : val .f32 x = Ieee.signed s m (e + 149).toNat := by simp only [val, hr]; rfl
    rw [hp, hv]
    by_cases m0 : m = 0
    · subst m0
      have : FloatKind.f32.format.nearest s 0 (e + 8) = FloatKind.f32.format.word s 0 := by simp [Ieee.Format.nearest]
      rw [this, signed_eq]
      cases s <;> simp <;> decide
    · obtain ⟨hl, _⟩ := hm m0
      have hle : e + m.log2 ≤ 0 := by
        rw [hv, signed_eq] at h0 h1
        have hs : s = false := by
          cases s
          · rfl
          · simp only [if_true, Int.neg_mul] at h0
            have : 0 < (m : Int) * 2 ^ (e + 149).toNat := Int.mul_pos (by omega) (Int.pow_pos (by omega))
            omega
        subst hs
        simp only [Bool.false_eq_true, if_false] at h1
        have h2 : m * 2 ^ (e + 149).toNat ≤ 2 ^ 149 := by
          have h3 : ((m * 2 ^ (e + 149).toNat : Nat) : Int) ≤ ((2 ^ 149 : Nat) : Int) := by
            rw [Int.natCast_mul, Int.natCast_pow, Int.natCast_pow]; exact h1
          exact_mod_cast h3
        have h4 : 2 ^ (m.log2 + (e + 149).toNat) ≤ 2 ^ 149 := by
          rw [Nat.pow_add]
          exact Nat.le_trans (Nat.mul_le_mul_right _ (Nat.log2_self_le m0)) h2
        have h5 := (Nat.pow_le_pow_iff_right (a := 2) (by omega)).1 h4
        omega
      rw [val_nearest32 m0 hl (by omega) (by omega), signed_eq, signed_eq, show (e + 8 + 149).toNat = (e + 149).toNat + 8 by omega, Int.pow_add, Int.mul_assoc]
      rfl
/-- The index of a place. -/
def indexW (x : Nat) : Nat := ((val .f32 x * 256).tdiv one32).toNat
theorem place_int {x p : Nat} (h : inUnit x = true) (hp : can .f32 p = placeW x) : isNan .f32 p = false ∧ floatToIntVal .f32 p .i64 = some (indexW x : Int) ∧ indexW x ≤ 256 := by
  obtain ⟨hn, h0, h1⟩ := inUnit_val h
  obtain ⟨hn2, hv⟩ := place_val h
  have hpn : isNan .f32 p = false := by
    have := isNan_of_can (hp.trans (by unfold placeW; exact (can_fop _ _ _ _).symm) : can .f32 p = can .f32 (placeW x))
    rw [this, hn2]
  have e : p = placeW x := by rw [← can_of_not hpn, hp]
  have hU := one32_pos
  refine ⟨hpn, ?_, ?_⟩
  · rw [e, floatToInt_val32 hn2 (by rw [hv]; generalize one32 = U at *; omega) (by rw [hv]; generalize one32 = U at *; omega), hv]
    unfold indexW
    generalize one32 = U at *
    have : 0 ≤ (val .f32 x * 256).tdiv U := Int.tdiv_nonneg (by omega) (by omega)
    rw [Int.toNat_of_nonneg this]
  · unfold indexW
    generalize one32 = U at *
    have : (val .f32 x * 256).tdiv U ≤ (256 * U).tdiv U := Int.tdiv_le_tdiv hU (by omega)
    rw [Int.mul_tdiv_cancel _ (by omega)] at this
    omega
end Go.Fk
