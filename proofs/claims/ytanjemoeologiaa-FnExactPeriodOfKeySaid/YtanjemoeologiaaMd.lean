/- Texts of the walk, laid in one file. -/
import Derived.Test.YtanjemoeologiaaRows
import Derived.Laws.BitsAllLaws
import Derived.Handy
import Derived.Below
import Derived.Laws.EntriesVeiled
import Derived.IntWalk
import Derived.Test.YtanjemoeologiaaMc
set_option linter.unusedVariables false
set_option linter.unusedSimpArgs false
/- Values that stay exact: the whole number below, differences that are known to be small. Nothing here names a program. -/
namespace Go.Fk
open Go Go.RowKit

/-- What a wide number's datum is made of. -/
theorem read64 {b : Nat} {s : Bool} {m : Nat} {e : Int} (h : FloatKind.f64.format.read b = .number s m e) : -1074 ≤ e ∧ (m ≠ 0 → m.log2 ≤ 52 ∧ e + m.log2 + 1 ≤ 1024) := by
  refine ⟨?_, fun h0 => ⟨?_, lt64 h h0⟩⟩
  all_goals
    have e1 : Ieee.double.signWeight = 9223372036854775808 := by decide
    have e2 : Ieee.double.infRung = 9218868437227405312 := by decide
    have e3 : Ieee.double.binade = 4503599627370496 := by decide
    have e4 : Ieee.double.leastPlace = -1074 := by decide
    simp only [FloatKind.format, Ieee.Format.read, e1, e2, e3, e4] at h
    split at h
    · simp only [Ieee.Datum.number.injEq] at h
      obtain ⟨_, rfl, rfl⟩ := h
      first | omega | (have : (b % 9223372036854775808).log2 < 52 := (Nat.log2_lt h0).2 (by omega)
                       omega)
    · split at h
      · simp only [Ieee.Datum.number.injEq] at h
        obtain ⟨_, rfl, rfl⟩ := h
        first | omega | (have : (4503599627370496 + b % 9223372036854775808 % 4503599627370496).log2 < 53 := (Nat.log2_lt h0).2 (by omega)
                         omega)
      · split at h <;> cases h

/-- The value of what is written exactly. -/
theorem val_nearest {s : Bool} {m : Nat} {e : Int} (hm : m ≠ 0) (hp : m.log2 ≤ 52) (he : -1074 ≤ e) (ho : e + m.log2 ≤ 1023) :
    val .f64 (FloatKind.f64.format.nearest s m e) = Ieee.signed s m (e + 1074).toNat ∧ ∃ B, lt .f64 (FloatKind.f64.format.nearest s m e) B := by
  obtain ⟨b1, b2, b3, b4, b5⟩ := bits64
  obtain ⟨h5, _⟩ := read_nearest FloatKind.f64.format s m e hm (by omega) (by omega) (by rw [b1, b2, b3]; omega) (by omega)
  refine ⟨?_, _, _, _, _, h5, fun _ => Int.le_refl _⟩
  have h1 : lastOf FloatKind.f64.format m e ≤ e := by unfold lastOf; omega
  have h2 : -1074 ≤ lastOf FloatKind.f64.format m e := by unfold lastOf; omega
  simp only [val, h5]
  rw [signed_eq, signed_eq]
  have hu : ((unitOf .f64 : Nat) : Int) = 1074 := rfl
  rw [hu]
  generalize lastOf FloatKind.f64.format m e = last at *
  have e1 : (2 : Int) ^ (e + 1074).toNat = 2 ^ (e - last).toNat * 2 ^ (last + 1074).toNat := by
    rw [← Int.pow_add]; congr 1; omega
  rw [e1, Int.natCast_mul, Int.natCast_pow]
  cases s
  · simp [Int.mul_assoc]
  · simp [Int.mul_assoc, Int.neg_mul]

theorem cut_down (s : Bool) (n d : Nat) : Ieee.Toward.down.cut s n d = n / 2 ^ d + (s && (n % 2 ^ d != 0)).toNat := by
  simp only [Ieee.Toward.cut, Nat.one_shiftLeft]
  by_cases hd : d ≤ n.log2 + 2
  · rw [Nat.min_eq_left hd]
  · rw [Nat.min_eq_right (by omega)]
    have h1 : n < 2 ^ (n.log2 + 1) := Nat.lt_log2_self
    have h2 : 2 ^ (n.log2 + 1) ≤ 2 ^ (n.log2 + 2) := Nat.pow_le_pow_right (by omega) (by omega)
    have h3 : 2 ^ (n.log2 + 1) ≤ 2 ^ d := Nat.pow_le_pow_right (by omega) (by omega)
    rw [Nat.div_eq_of_lt (by omega), Nat.div_eq_of_lt (by omega), Nat.mod_eq_of_lt (by omega), Nat.mod_eq_of_lt (by omega)]

theorem floor_nat (s : Bool) (X U : Nat) (hU : 0 < U) : (if s then -((X / U + (s && (X % U != 0)).toNat : Nat) : Int) else ((X / U + (s && (X % U != 0)).toNat : Nat) : Int)) = (if s then -(X : Int) else (X : Int)) / (U : Int) := by
  cases s
  · simp
  · simp only [if_true, Bool.true_and]
    have h := Nat.div_add_mod X U
    have hl := Nat.mod_lt X hU
    symm
    by_cases h0 : X % U = 0
    · rw [h0]
      simp only [bne_self_eq_false, Bool.toNat_false, Nat.add_zero]
      refine Int.ediv_eq_of_eq_mul_left (by omega) ?_
      rw [h0, Nat.add_zero] at h
      rw [Int.neg_mul, Int.mul_comm]
      exact congrArg Neg.neg (by exact_mod_cast h.symm)
    · have h1 : (X % U != 0) = true := by simpa using h0
      rw [h1]
      simp only [Bool.toNat_true]
      have key : (-(X : Int)) = -(((X / U + 1 : Nat) : Int)) * U + (U - (X % U : Nat) : Int) := by
        have h' : (X : Int) = (U : Int) * ((X / U : Nat) : Int) + ((X % U : Nat) : Int) := by exact_mod_cast h.symm
        rw [h', Int.neg_mul, Int.natCast_add, Int.add_mul, Int.mul_comm ((X / U : Nat) : Int)]
        simp only [Int.natCast_one, Int.one_mul]
        omega
      rw [key, Int.mul_comm, Int.mul_add_ediv_left _ _ (by omega : (U : Int) ≠ 0), Int.ediv_eq_zero_of_lt (by omega) (by omega), Int.add_zero]

/-- The value of a wide number's whole part: that of the greatest whole number that is not above it. -/
theorem val_floor {b : Nat} {s : Bool} {m : Nat} {e : Int} (h : FloatKind.f64.format.read b = .number s m e) :
    val .f64 (integ .down b) = val .f64 b / 2 ^ 1074 * 2 ^ 1074 ∧ ∃ B, lt .f64 (integ .down b) B := by
  obtain ⟨hp, hm⟩ := read64 h
  have hv : val .f64 b = Ieee.signed s m (e + 1074).toNat := by simp only [val, h]; rfl
  have hd : FloatKind.f64.decode b = .number s m e := h
  have hi : integ .down b = FloatKind.f64.format.nearest s (Ieee.Toward.down.cut s (m <<< e.toNat) (-e).toNat) 0 := by
    simp only [integ, hd]; rfl
  have hX : val .f64 b = if s then -((m * 2 ^ (e + 1074).toNat : Nat) : Int) else ((m * 2 ^ (e + 1074).toNat : Nat) : Int) := by
    rw [hv]; unfold Ieee.signed; rw [Nat.shiftLeft_eq]
  have e1 : m <<< e.toNat / 2 ^ (-e).toNat = m * 2 ^ (e + 1074).toNat / 2 ^ 1074 := by
    rw [Nat.shiftLeft_eq]
    by_cases he : 0 ≤ e
    · rw [show (-e).toNat = 0 by omega, show (e + 1074).toNat = e.toNat + 1074 by omega, Nat.pow_add, ← Nat.mul_assoc]
      have hU := Nat.two_pow_pos 1074
      generalize (2 : Nat) ^ 1074 = U at *
      rw [Nat.mul_div_cancel _ hU, Nat.pow_zero, Nat.div_one]
    · rw [show e.toNat = 0 by omega]
      have hq : (1074 : Nat) = (-e).toNat + (e + 1074).toNat := by omega
      generalize hu : (e + 1074).toNat = u at *
      rw [show (2 : Nat) ^ 1074 = 2 ^ ((-e).toNat + u) by rw [← hq], Nat.pow_add, Nat.mul_div_mul_right _ _ (Nat.two_pow_pos _)]
      simp
  have e2 : (m <<< e.toNat % 2 ^ (-e).toNat != 0) = (m * 2 ^ (e + 1074).toNat % 2 ^ 1074 != 0) := by
    rw [Nat.shiftLeft_eq]
    by_cases he : 0 ≤ e
    · rw [show (-e).toNat = 0 by omega, show (e + 1074).toNat = e.toNat + 1074 by omega, Nat.pow_add, ← Nat.mul_assoc, Nat.mul_mod_left]
      simp [Nat.mod_one]
    · rw [show e.toNat = 0 by omega]
      have hq : (1074 : Nat) = (-e).toNat + (e + 1074).toNat := by omega
      generalize hu : (e + 1074).toNat = u at *
      rw [show (2 : Nat) ^ 1074 = 2 ^ ((-e).toNat + u) by rw [← hq], Nat.pow_add, Nat.mul_mod_mul_right, Nat.pow_zero, Nat.mul_one, Bool.eq_iff_iff, bne_iff_ne, bne_iff_ne]
      have := Nat.two_pow_pos u
      exact not_congr ⟨fun h => by rw [h, Nat.zero_mul], fun h => by rcases Nat.mul_eq_zero.1 h with h | h <;> omega⟩
  have hfl := floor_nat s (m * 2 ^ (e + 1074).toNat) (2 ^ 1074) (Nat.two_pow_pos _)
  rw [← hX, ← e1, ← e2, ← cut_down] at hfl
  rw [show (((2 ^ 1074 : Nat)) : Int) = 2 ^ 1074 from Int.natCast_pow 2 1074] at hfl
  rw [hi, ← hfl]
  by_cases hM : Ieee.Toward.down.cut s (m <<< e.toNat) (-e).toNat = 0
  · rw [hM]
    have : FloatKind.f64.format.nearest s 0 0 = FloatKind.f64.format.word s 0 := by simp [Ieee.Format.nearest]
    rw [this]
    cases s
    · exact ⟨by decide +kernel, 0, false, 0, -1074, by decide, fun h => absurd rfl h⟩
    · exact ⟨by decide +kernel, 0, true, 0, -1074, by decide, fun h => absurd rfl h⟩
  · have hgoal : val .f64 (FloatKind.f64.format.nearest s (Ieee.Toward.down.cut s (m <<< e.toNat) (-e).toNat) 0) = Ieee.signed s (Ieee.Toward.down.cut s (m <<< e.toNat) (-e).toNat) 1074 ∧ ∃ B, lt .f64 (FloatKind.f64.format.nearest s (Ieee.Toward.down.cut s (m <<< e.toNat) (-e).toNat) 0) B := by
      by_cases he : 0 ≤ e
      · have hcut : Ieee.Toward.down.cut s (m <<< e.toNat) (-e).toNat = m * 2 ^ e.toNat := by
          rw [cut_down, show (-e).toNat = 0 by omega, Nat.shiftLeft_eq]; simp [Nat.mod_one]
        rw [hcut] at hM ⊢
        have hm0 : m ≠ 0 := fun h => hM (by rw [h, Nat.zero_mul])
        obtain ⟨h3, h4⟩ := hm hm0
        have hs := nearest_scale FloatKind.f64.format s m e.toNat e
        rw [show e - (e.toNat : Int) = 0 by omega] at hs
        rw [hs]
        refine ⟨?_, (val_nearest hm0 h3 (by omega) (by omega)).2⟩
        rw [(val_nearest hm0 h3 (by omega) (by omega)).1, signed_eq, signed_eq]
        rw [show (e + 1074).toNat = e.toNat + 1074 by omega, Int.pow_add, Int.natCast_mul, Int.natCast_pow]
        generalize (2 : Int) ^ 1074 = U
        cases s
        · simp [Int.mul_assoc]
        · simp [Int.mul_assoc, Int.neg_mul]
      · have hle : Ieee.Toward.down.cut s (m <<< e.toNat) (-e).toNat < 2 ^ 53 := by
          rw [cut_down, show e.toNat = 0 by omega, Nat.shiftLeft_zero]
          have hb : ∀ b : Bool, b.toNat ≤ 1 := by intro b; cases b <;> simp
          have h1 : m < 2 ^ 53 := by
            by_cases m0 : m = 0
            · subst m0; decide
            · have := (hm m0).1
              exact Nat.lt_of_lt_of_le Nat.lt_log2_self (Nat.pow_le_pow_right (by omega) (by omega))
          have h2 : m / 2 ^ (-e).toNat ≤ m / 2 := by
            refine Nat.div_le_div_left ?_ (by omega)
            calc 2 = 2 ^ 1 := rfl
              _ ≤ _ := Nat.pow_le_pow_right (by omega) (by omega)
          have h3 := hb (s && (m % 2 ^ (-e).toNat != 0))
          omega
        have := (Nat.log2_lt hM).2 hle
        exact val_nearest hM (by omega) (by omega) (by omega)
    refine ⟨?_, hgoal.2⟩
    rw [hgoal.1, signed_eq]

/-- How small a difference is, from the values. -/
theorem diff_place {x y : Nat} {A : Int} {s t : Bool} {m n : Nat} {i j : Int} (hrx : FloatKind.f64.format.read x = .number s m i) (hry : FloatKind.f64.format.read y = .number t n j)
    (hA : -1074 ≤ A) (h : (val .f64 x - val .f64 y).natAbs < 2 ^ (A + 1074).toNat) (h0 : (Ieee.signed s m (i - min i j).toNat + Ieee.signed (!t) n (j - min i j).toNat).natAbs ≠ 0) :
    min i j + (Ieee.signed s m (i - min i j).toNat + Ieee.signed (!t) n (j - min i j).toNat).natAbs.log2 + 1 ≤ A := by
  have pi := (read64 hrx).1
  have pj := (read64 hry).1
  have vx : val .f64 x = Ieee.signed s m (i + 1074).toNat := by simp only [val, hrx]; rfl
  have vy : val .f64 y = Ieee.signed t n (j + 1074).toNat := by simp only [val, hry]; rfl
  have hneg : Ieee.signed (!t) n (j - min i j).toNat = -Ieee.signed t n (j - min i j).toNat := by
    unfold Ieee.signed; cases t <;> simp
  rw [hneg] at h0 ⊢
  have e1 : val .f64 x - val .f64 y = (Ieee.signed s m (i - min i j).toNat + -Ieee.signed t n (j - min i j).toNat) * 2 ^ (min i j + 1074).toNat := by
    rw [vx, vy, signed_eq, signed_eq, signed_eq, signed_eq, Int.add_mul, Int.neg_mul, Int.mul_assoc, Int.mul_assoc, ← Int.pow_add, ← Int.pow_add]
    rw [show (i - min i j).toNat + (min i j + 1074).toNat = (i + 1074).toNat by omega, show (j - min i j).toNat + (min i j + 1074).toNat = (j + 1074).toNat by omega]
    omega
  rw [e1, Int.natAbs_mul] at h
  generalize Ieee.signed s m (i - min i j).toNat + -Ieee.signed t n (j - min i j).toNat = T at *
  have e2 : ((2 : Int) ^ (min i j + 1074).toNat).natAbs = 2 ^ (min i j + 1074).toNat := by
    rw [Int.natAbs_pow]; rfl
  rw [e2] at h
  have h3 : 2 ^ (T.natAbs.log2 + (min i j + 1074).toNat) < 2 ^ (A + 1074).toNat := by
    refine Nat.lt_of_le_of_lt ?_ h
    rw [Nat.pow_add]
    exact Nat.mul_le_mul_right _ (Nat.log2_self_le h0)
  have h4 := (Nat.pow_lt_pow_iff_right (by omega : 1 < 2)).1 h3
  omega

/-- A difference is as small as the values tell. -/
theorem lt_sub_val {x y : Nat} {A : Int} (hx : (FloatKind.f64.format.read x).isNaN = false ∧ (FloatKind.f64.format.read x).isInfinity = false) (hy : (FloatKind.f64.format.read y).isNaN = false ∧ (FloatKind.f64.format.read y).isInfinity = false)
    (hA : -1074 ≤ A) (h : (val .f64 x - val .f64 y).natAbs < 2 ^ (A + 1074).toNat) (hf : fine .f64 A) :
    ∃ r, floatBits .sub .f64 x y = some r ∧ lt .f64 r (A + 1) := by
  cases hrx : FloatKind.f64.format.read x with
  | nan s t => rw [hrx] at hx; simp [Ieee.Datum.isNaN] at hx
  | infinity s => rw [hrx] at hx; simp [Ieee.Datum.isInfinity] at hx
  | number s m i =>
    cases hry : FloatKind.f64.format.read y with
    | nan s t => rw [hry] at hy; simp [Ieee.Datum.isNaN] at hy
    | infinity s => rw [hry] at hy; simp [Ieee.Datum.isInfinity] at hy
    | number t n j =>
      refine ⟨_, by simp only [floatBits, Ieee.Format.sub, hrx, hry, Ieee.Datum.opposite, Ieee.Datum.sum, Option.map_some]; rfl, ?_⟩
      refine lt_nearest .f64 _ _ _ _ (fun h0 => diff_place hrx hry hA h h0) hf.1 hf.2
end Go.Fk
namespace Go.Fk
open Go Go.RowKit
theorem le_nearest (s : Bool) (m : Nat) (e A : Int) (hA : m ≠ 0 → e + m.log2 + 1 ≤ A) (hf : fine .f64 A) :
    (val .f64 (FloatKind.f64.format.nearest s m e)).natAbs ≤ 2 ^ (A + 1074).toNat := by
  obtain ⟨b1, b2, b3, b4, b5⟩ := bits64
  have hb : FloatKind.f64.format.binade = 4503599627370496 := by decide
  have hlo := hf.1
  have hhi := hf.2
  rw [b2, b3] at hlo
  rw [b2, b3, hb, b5] at hhi
  by_cases hm : m = 0
  · subst hm
    have : FloatKind.f64.format.nearest s 0 e = FloatKind.f64.format.word s 0 := by simp [Ieee.Format.nearest]
    rw [this]
    have : (val .f64 (FloatKind.f64.format.word s 0)).natAbs = 0 := by cases s <;> decide +kernel
    rw [this]
    exact Nat.zero_le _
  · obtain ⟨r, hr, _, h2⟩ := nearest_rung FloatKind.f64.format s m e A hm (hA hm) (by rw [b2, b3]; omega)
    rw [b2, b3, hb] at h2
    rw [hr]
    have hru : r < FloatKind.f64.format.infRung := by rw [b5]; omega
    obtain ⟨s', m', e', hread, hm'⟩ := read_word .f64 s hru
    have hv : val .f64 (FloatKind.f64.format.word s r) = Ieee.signed s' m' (e' + 1074).toNat := by simp only [val, hread]; rfl
    have pe := (read64 hread).1
    rw [hv, signed_natAbs]
    by_cases m0 : m' = 0
    · subst m0; rw [Nat.zero_mul]; exact Nat.zero_le _
    obtain ⟨g1, g2⟩ := hm' m0
    rw [b2, b3, hb] at g2
    by_cases hq : r = ((A + 1023).toNat) * 4503599627370496
    · -- exactly the power
      have hread2 := hread
      unfold Ieee.Format.read at hread2
      have hs : FloatKind.f64.format.infRung < FloatKind.f64.format.signWeight := Ieee.Format.infRung_lt _
      rw [word_mod _ _ (Nat.lt_trans hru hs)] at hread2
      dsimp only at hread2
      have h3 : ¬ r < FloatKind.f64.format.binade := by rw [hb]; omega
      rw [if_neg h3, if_pos hru, hb, b3] at hread2
      simp only [Ieee.Datum.number.injEq] at hread2
      obtain ⟨_, rfl, rfl⟩ := hread2
      have h4 : r % 4503599627370496 = 0 := by omega
      have h5 : r / 4503599627370496 = (A + 1023).toNat := by omega
      rw [h4, h5, show 4503599627370496 + 0 = 2 ^ 52 by decide, ← Nat.pow_add]
      exact Nat.pow_le_pow_right (by omega) (by omega)
    · have h3 : r / 4503599627370496 ≤ (A + 1022).toNat := by omega
      have h4 : e' + m'.log2 + 1 ≤ A := by omega
      calc m' * 2 ^ (e' + 1074).toNat ≤ 2 ^ (m'.log2 + 1) * 2 ^ (e' + 1074).toNat := Nat.mul_le_mul_right _ (Nat.le_of_lt Nat.lt_log2_self)
        _ = 2 ^ (m'.log2 + 1 + (e' + 1074).toNat) := by rw [← Nat.pow_add]
        _ ≤ 2 ^ (A + 1074).toNat := Nat.pow_le_pow_right (by omega) (by omega)
/-- A number that is at most '2 ^ A' in size. -/
def leV (b : Nat) (A : Int) : Prop := lt .f64 b (A + 1) ∧ (val .f64 b).natAbs ≤ 2 ^ (A + 1074).toNat
theorem sub_leV {x y : Nat} {A : Int} (hx : ∃ B, lt .f64 x B) (hy : ∃ B, lt .f64 y B) (hA : -1074 ≤ A) (h : (val .f64 x - val .f64 y).natAbs < 2 ^ (A + 1074).toNat) (hf : fine .f64 A) :
    leV (fop .sub .f64 x y) A := by
  obtain ⟨_, s, m, i, hrx, _⟩ := hx
  obtain ⟨_, t, n, j, hry, _⟩ := hy
  have nx : (FloatKind.f64.format.read x).isNaN = false ∧ (FloatKind.f64.format.read x).isInfinity = false := by rw [hrx]; exact ⟨rfl, rfl⟩
  have ny : (FloatKind.f64.format.read y).isNaN = false ∧ (FloatKind.f64.format.read y).isInfinity = false := by rw [hry]; exact ⟨rfl, rfl⟩
  obtain ⟨r, hr, hl⟩ := lt_sub_val nx ny hA h hf
  have hfop : fop .sub .f64 x y = r := by unfold fop; rw [hr]; exact can_of_not hl.notNan
  rw [hfop]
  refine ⟨hl, ?_⟩
  simp only [floatBits, Ieee.Format.sub, hrx, hry, Ieee.Datum.opposite, Ieee.Datum.sum, Option.map_some, Option.some.injEq] at hr
  rw [← hr]
  refine le_nearest _ _ _ _ (fun h0 => ?_) hf
  exact diff_place hrx hry hA h h0
end Go.Fk

/- Wide numbers above 0 that are normal: as words, and their products by powers of 2. Nothing here names a program. -/
namespace Go.Fk
open Go Go.RowKit
/-- The word of a normal number above 0. -/
def nrm (E f : Nat) : Nat := E * 4503599627370496 + f
theorem bin64 : FloatKind.f64.format.binade = 4503599627370496 := by decide
theorem nrm_read {E f : Nat} (h1 : 1 ≤ E) (h2 : E ≤ 2046) (hf : f < 4503599627370496) : FloatKind.f64.format.read (nrm E f) = .number false (4503599627370496 + f) ((E : Int) - 1075) := by
  obtain ⟨_, _, e3, e4, e5⟩ := bits64
  have e6 := bin64
  have hr : nrm E f % 9223372036854775808 = nrm E f := Nat.mod_eq_of_lt (by unfold nrm; omega)
  have hd : nrm E f / 9223372036854775808 % 2 = 0 := by rw [Nat.div_eq_of_lt (by unfold nrm; omega)]
  have a1 : nrm E f % 4503599627370496 = f := by unfold nrm; omega
  have a2 : nrm E f / 4503599627370496 = E := by unfold nrm; omega
  unfold Ieee.Format.read
  simp only [e3, e4, e5, e6, hr, hd, a1, a2]
  rw [if_neg (by unfold nrm; omega), if_pos (by unfold nrm; omega)]
  congr 1
  omega
theorem nrm_nan {E f : Nat} (h1 : 1 ≤ E) (h2 : E ≤ 2046) (hf : f < 4503599627370496) : isNan .f64 (nrm E f) = false := by
  unfold isNan
  rw [nrm_read h1 h2 hf]
  rfl
/-- What is read is written. -/
theorem near_of {r m : Nat} {e : Int} (h : FloatKind.f64.format.read r = .number false m e) (hr : r < 9223372036854775808) : FloatKind.f64.format.nearest false m e = r := by
  have k := write_read FloatKind.f64.format (by decide) r h
  rw [bits64.2.2.2.1, Nat.mod_eq_of_lt hr] at k
  rw [k]
  unfold Ieee.Format.word
  exact if_neg (by decide)
/-- A product that is exact. -/
theorem mul_of {x y r m n m' k : Nat} {i j e : Int} (hx : FloatKind.f64.format.read x = .number false m i) (hy : FloatKind.f64.format.read y = .number false n j) (hr : FloatKind.f64.format.read r = .number false m' e) (hm : m * n = m' * 2 ^ k) (he : i + j = e - (k : Int)) (hlt : r < 9223372036854775808) : fop .mul .f64 x y = r := by
  have hb : floatBits .mul .f64 x y = some (FloatKind.f64.format.nearest (false ^^ false) (m * n) (i + j)) := by
    simp only [floatBits, Ieee.Format.mul, hx, hy, Ieee.Datum.product, Option.map_some]; rfl
  rw [hm, he, Bool.xor_self, nearest_scale, near_of hr hlt] at hb
  unfold fop
  rw [hb]
  exact can_of_not (by simp [isNan, hr, Ieee.Datum.isNaN])
/-- A quotient that is exact. -/
theorem quo_of {x y r m n m' k : Nat} {i j e : Int} (hx : FloatKind.f64.format.read x = .number false m i) (hy : FloatKind.f64.format.read y = .number false n j) (n0 : n ≠ 0) (hr : FloatKind.f64.format.read r = .number false m' e) (hm : 2 * m * 2 ^ (54 + n.log2 - m.log2) = m' * 2 ^ k * n) (h2 : ∃ q, m' * 2 ^ k = 2 * q) (he : i - j - ((54 + n.log2 - m.log2 : Nat) : Int) - 1 = e - (k : Int)) (hlt : r < 9223372036854775808) : fop .quo .f64 x y = r := by
  obtain ⟨q, hq⟩ := h2
  have hb : floatBits .quo .f64 x y = some (FloatKind.f64.format.nearest (false ^^ false) (2 * (m <<< (52 + 2 + n.log2 - m.log2) / n) + (m <<< (52 + 2 + n.log2 - m.log2) % n != 0).toNat) (i - j - ((52 + 2 + n.log2 - m.log2 : Nat) : Int) - 1)) := by
    simp only [floatBits, Ieee.Format.div, hx, hy, Ieee.Datum.quotient, if_neg n0, Option.map_some, bits64.2.1]; rfl
  have e1 : m <<< (52 + 2 + n.log2 - m.log2) = q * n := by
    rw [Nat.shiftLeft_eq]
    rw [hq, Nat.mul_assoc, Nat.mul_assoc] at hm
    exact Nat.eq_of_mul_eq_mul_left (by decide : 0 < 2) hm
  rw [e1, Nat.mul_div_cancel _ (by omega), Nat.mul_mod_left, bne_self_eq_false, Bool.toNat_false, Nat.add_zero, ← hq, Bool.xor_self, show 52 + 2 + n.log2 - m.log2 = 54 + n.log2 - m.log2 by omega, he, nearest_scale, near_of hr hlt] at hb
  unfold fop
  rw [hb]
  exact can_of_not (by simp [isNan, hr, Ieee.Datum.isNaN])
theorem nrm_lt {E f : Nat} (h2 : E ≤ 2046) (hf : f < 4503599627370496) : nrm E f < 9223372036854775808 := by unfold nrm; omega
theorem nrm_near {E f : Nat} (h1 : 1 ≤ E) (h2 : E ≤ 2046) (hf : f < 4503599627370496) : FloatKind.f64.format.nearest false (4503599627370496 + f) ((E : Int) - 1075) = nrm E f := near_of (nrm_read h1 h2 hf) (nrm_lt h2 hf)
theorem nrm_fits {E f : Nat} (h2 : E ≤ 2046) (hf : f < 4503599627370496) : fits .f64 (nrm E f) := by
  unfold fits Lit.wf nrm
  simp only [decide_eq_true_eq]
  show E * 4503599627370496 + f < 18446744073709551616
  omega
theorem nrm_log {f : Nat} (hf : f < 4503599627370496) : (4503599627370496 + f).log2 = 52 := (Nat.log2_eq_iff (by omega)).2 ⟨by omega, by omega⟩
theorem p52 : (2 : Nat) ^ 52 = 4503599627370496 := by decide
theorem p55 : (2 : Nat) ^ 55 = 8 * 4503599627370496 := by decide
theorem p54 : (2 : Nat) ^ 54 = 4 * 4503599627370496 := by decide
/-- A product by a power of 2. -/
theorem nrm_mul {E f G : Nat} (h1 : 1 ≤ E) (h2 : E ≤ 2046) (hf : f < 4503599627370496) (g1 : 1 ≤ G) (g2 : G ≤ 2046) (l1 : 1024 ≤ E + G) (l2 : E + G ≤ 3069) :
    fop .mul .f64 (nrm E f) (nrm G 0) = nrm (E + G - 1023) f ∧ fop .mul .f64 (nrm G 0) (nrm E f) = nrm (E + G - 1023) f := by
  have hr := nrm_read h1 h2 hf
  have hg := nrm_read (f := 0) g1 g2 (by omega)
  have ho := nrm_read (E := E + G - 1023) (f := f) (by omega) (by omega) hf
  have hl := nrm_lt (E := E + G - 1023) (f := f) (by omega) hf
  have he : ((E : Int) - 1075) + ((G : Int) - 1075) = (((E + G - 1023 : Nat) : Int) - 1075) - ((52 : Nat) : Int) := by omega
  have p := p52
  constructor
  · refine mul_of hr hg ho (k := 52) ?_ he hl
    rw [p, Nat.add_zero]
  · refine mul_of hg hr ho (k := 52) ?_ (by omega) hl
    rw [p, Nat.add_zero, Nat.mul_comm]
/-- A quotient by 2. -/
theorem nrm_half {E f : Nat} (h1 : 2 ≤ E) (h2 : E ≤ 2046) (hf : f < 4503599627370496) : fop .quo .f64 (nrm E f) 4611686018427387904 = nrm (E - 1) f := by
  have hr := nrm_read (by omega) h2 hf
  have h2r : FloatKind.f64.format.read 4611686018427387904 = .number false 4503599627370496 (-51) := by decide
  have ho := nrm_read (E := E - 1) (f := f) (by omega) (by omega) hf
  have hl := nrm_lt (E := E - 1) (f := f) (by omega) hf
  have hl2 : (4503599627370496 : Nat).log2 = 52 := by decide
  have p := p54
  refine quo_of hr h2r (by decide) ho (k := 3) ?_ ⟨(4503599627370496 + f) * 4, ?_⟩ ?_ hl
  · rw [nrm_log hf, hl2, show 54 + 52 - 52 = 54 from rfl, p]
    generalize 4503599627370496 + f = m
    generalize (4503599627370496 : Nat) = c
    rw [show (2 : Nat) ^ 3 = 8 from rfl, Nat.mul_comm 2 m, Nat.mul_assoc, Nat.mul_assoc]
    congr 1
    omega
  · generalize 4503599627370496 + f = m
    rw [show (2 : Nat) ^ 3 = 8 from rfl]
    omega
  · rw [nrm_log hf, hl2]
    omega
/-- A wide number that is nearest to a positive one is normal, if that is not too small and not too great. -/
theorem near_nrm {m : Nat} {e : Int} (hm : m ≠ 0) (h1 : -1022 ≤ e + m.log2) (h2 : e + m.log2 ≤ 1022) :
    ∃ E f, FloatKind.f64.format.nearest false m e = nrm E f ∧ f < 4503599627370496 ∧ ((E : Int) = e + m.log2 + 1023 ∨ (E : Int) = e + m.log2 + 1024) := by
  obtain ⟨_, e2, e3, e4, e5⟩ := bits64
  have e6 := bin64
  have hp52 : (2 : Nat) ^ 52 = 4503599627370496 := by decide
  have key : ∃ kept, FloatKind.f64.format.nearest false m e = ((e + m.log2 + 1022).toNat * 4503599627370496 + kept) ∧ 4503599627370496 ≤ kept ∧ kept ≤ 9007199254740992 := by
    have main : ∀ kept, kept = Ieee.Toward.even.cut false (m <<< (e - (e + m.log2 - 52)).toNat) ((e + m.log2 - 52) - e).toNat → 4503599627370496 ≤ kept → kept ≤ 9007199254740992 → FloatKind.f64.format.nearest false m e = ((e + m.log2 + 1022).toNat * 4503599627370496 + kept) := by
      intro kept hk k1 k2
      unfold Ieee.Format.nearest
      rw [if_neg hm]
      simp only [e2, e3, e5, e6]
      rw [show max (e + (m.log2 : Int) - ((52 : Nat) : Int)) (-1074) = e + m.log2 - 52 by omega, ← hk]
      rw [Nat.min_eq_left (by omega)]
      simp only [Ieee.Format.word, Bool.false_eq_true, if_false]
      congr 2
      omega
    rcases Nat.lt_or_ge m.log2 53 with hl | hl
    · refine ⟨m * 2 ^ (52 - m.log2), main _ ?_ ?_ ?_, ?_, ?_⟩
      · rw [show (e + (m.log2 : Int) - 52 - e).toNat = 0 by omega, cut_zero, Nat.shiftLeft_eq, show (e - (e + (m.log2 : Int) - 52)).toNat = 52 - m.log2 by omega]
      all_goals
        have a := Nat.log2_self_le hm
        have b := @Nat.lt_log2_self m
        first
        | (calc 4503599627370496 = 2 ^ m.log2 * 2 ^ (52 - m.log2) := by rw [← Nat.pow_add, show m.log2 + (52 - m.log2) = 52 by omega, hp52]
            _ ≤ _ := Nat.mul_le_mul_right _ a)
        | (calc m * 2 ^ (52 - m.log2) ≤ 2 ^ (m.log2 + 1) * 2 ^ (52 - m.log2) := Nat.mul_le_mul_right _ (Nat.le_of_lt b)
            _ = 9007199254740992 := by rw [← Nat.pow_add, show m.log2 + 1 + (52 - m.log2) = 53 by omega])
    · refine ⟨Ieee.Toward.even.cut false m (m.log2 - 52), main _ ?_ ?_ ?_, ?_, ?_⟩
      · rw [show (e - (e + (m.log2 : Int) - 52)).toNat = 0 by omega, Nat.shiftLeft_zero, show (e + (m.log2 : Int) - 52 - e).toNat = m.log2 - 52 by omega]
      all_goals
        have a := Nat.log2_self_le hm
        have b := @Nat.lt_log2_self m
        first
        | (refine Nat.le_trans ?_ (cut_ge false m (m.log2 - 52))
           rw [Nat.le_div_iff_mul_le (Nat.two_pow_pos _), ← hp52, ← Nat.pow_add]
           rw [show 52 + (m.log2 - 52) = m.log2 by omega]
           exact a)
        | (have := cut_le false m (m.log2 - 52) 53 (by rw [show 53 + (m.log2 - 52) = m.log2 + 1 by omega]; exact b)
           exact Nat.le_trans this (by decide))
  obtain ⟨kept, hk, k1, k2⟩ := key
  rw [hk]
  by_cases c : kept = 9007199254740992
  · exact ⟨(e + m.log2 + 1022).toNat + 2, 0, by unfold nrm; omega, by omega, by omega⟩
  · exact ⟨(e + m.log2 + 1022).toNat + 1, kept - 4503599627370496, by unfold nrm; omega, by omega, by omega⟩
/-- A number that is not below 0 and at most 2 ^ A. -/
def nv (b : Nat) (A : Int) : Prop := ∃ s m e, FloatKind.f64.format.read b = .number s m e ∧ (m ≠ 0 → s = false ∧ (e + m.log2 + 1 ≤ A ∨ (m = 2 ^ m.log2 ∧ e + m.log2 = A)))
theorem nv.mono {b : Nat} {A B : Int} (h : nv b A) (hAB : A ≤ B) : nv b B := by
  obtain ⟨s, m, e, hr, hm⟩ := h
  refine ⟨s, m, e, hr, fun h => ⟨(hm h).1, ?_⟩⟩
  rcases (hm h).2 with h1 | ⟨h1, h2⟩
  · exact .inl (by omega)
  · by_cases c : A = B
    · exact .inr ⟨h1, by omega⟩
    · exact .inl (by omega)
theorem nv.lt {b : Nat} {A : Int} (h : nv b A) : lt .f64 b (A + 1) := by
  obtain ⟨s, m, e, hr, hm⟩ := h
  refine ⟨s, m, e, hr, fun h => ?_⟩
  rcases (hm h).2 with h1 | ⟨_, h2⟩ <;> omega
theorem nv_of_can {r b : Nat} {A : Int} (h : can .f64 r = can .f64 b) (hb : nv b A) : nv r A := by
  have : r = b := (eq_of_can h.symm hb.lt.notNan).symm
  rw [this]; exact hb
theorem nrm_of (r : Nat) : r = nrm (r / 4503599627370496) (r % 4503599627370496) ∧ r % 4503599627370496 < 4503599627370496 := by unfold nrm; omega
theorem nv_zero (s : Bool) (e A : Int) : nv (FloatKind.f64.format.nearest s 0 e) A := by
  have h1 : FloatKind.f64.format.nearest s 0 e = FloatKind.f64.format.word s 0 := by simp [Ieee.Format.nearest]
  have hz : FloatKind.f64.format.read (FloatKind.f64.format.word s 0) = .number s 0 (-1074) := by cases s <;> decide
  rw [h1]
  exact ⟨_, _, _, hz, fun h => absurd rfl h⟩
/-- What is nearest to a number that is not below 0 and at most 2 ^ A. -/
theorem nv_near {s : Bool} {m : Nat} {e A : Int} (h : m ≠ 0 → s = false ∧ (e + m.log2 + 1 ≤ A ∨ (m = 2 ^ m.log2 ∧ e + m.log2 = A))) (a1 : -1021 ≤ A) (a2 : A ≤ 1022) : nv (FloatKind.f64.format.nearest s m e) A := by
  by_cases hm : m = 0
  · subst hm; exact nv_zero s e A
  obtain ⟨rfl, hc⟩ := h hm
  rcases hc with h1 | ⟨h1, h2⟩
  · obtain ⟨r, hw, _, h2⟩ := nearest_rung FloatKind.f64.format false m e A hm h1 (fine64 a1 a2).1
    rw [hw, show FloatKind.f64.format.word false r = r by simp [Ieee.Format.word]]
    obtain ⟨_, e2, e3, _, e5⟩ := bits64
    rw [e2, e3, bin64] at h2
    obtain ⟨hn, hf⟩ := nrm_of r
    by_cases c : r / 4503599627370496 = 0
    · have hr : FloatKind.f64.format.read r = .number false r (-1074) := by
        obtain ⟨_, _, e3, e4, e5⟩ := bits64
        have e6 := bin64
        unfold Ieee.Format.read
        simp only [e3, e4, e6]
        rw [Nat.mod_eq_of_lt (by omega), Nat.div_eq_of_lt (by omega), if_pos (by omega)]
        rfl
      refine ⟨_, _, _, hr, fun h0 => ⟨rfl, .inl ?_⟩⟩
      have := (Nat.log2_lt h0 (k := 52)).2 (Nat.lt_of_lt_of_eq (by omega) (show 4503599627370496 = 2 ^ 52 by decide))
      omega
    · have hE : ((r / 4503599627370496 : Nat) : Int) ≤ A + 1023 := by omega
      generalize r / 4503599627370496 = E at *
      generalize r % 4503599627370496 = f at *
      subst hn
      refine ⟨_, _, _, nrm_read (by omega) (by omega) hf, fun _ => ⟨rfl, ?_⟩⟩
      rw [nrm_log hf]
      by_cases c2 : (E : Int) = A + 1023
      · have hf0 : f = 0 := by unfold nrm at h2; omega
        subst hf0
        exact .inr ⟨by decide, by omega⟩
      · exact .inl (by omega)
  · have key : FloatKind.f64.format.nearest false m e = nrm (A + 1023).toNat 0 := by
      have k1 := nearest_scale FloatKind.f64.format false 1 m.log2 (e + m.log2)
      rw [Nat.one_mul, ← h1, show e + (m.log2 : Int) - m.log2 = e by omega, h2] at k1
      have k2 := nearest_scale FloatKind.f64.format false 1 52 A
      rw [k1, ← k2, ← nrm_near (E := (A + 1023).toNat) (f := 0) (by omega) (by omega) (by omega)]
      congr 1
      omega
    rw [key]
    refine ⟨_, _, _, nrm_read (by omega) (by omega) (by omega), fun _ => ⟨rfl, .inr ⟨?_, ?_⟩⟩⟩
    · rw [nrm_log (by omega)]
    · rw [nrm_log (by omega)]; omega
theorem fop_some {op : BinOp} {x y r : Nat} {k : FloatKind} (h : floatBits op k x y = some r) (hn : isNan k r = false) : fop op k x y = r := by
  unfold fop; rw [h]; exact can_of_not hn
theorem nv_mul {x y : Nat} {A B : Int} (hx : nv x A) (hy : nv y B) (a1 : -1021 ≤ A + B) (a2 : A + B ≤ 1022) : nv (fop .mul .f64 x y) (A + B) := by
  obtain ⟨s, m, i, hr, hm⟩ := hx
  obtain ⟨t, n, j, hr2, hn⟩ := hy
  have hb : floatBits .mul .f64 x y = some (FloatKind.f64.format.nearest (s ^^ t) (m * n) (i + j)) := by
    simp only [floatBits, Ieee.Format.mul, hr, hr2, Ieee.Datum.product, Option.map_some]; rfl
  have key : nv (FloatKind.f64.format.nearest (s ^^ t) (m * n) (i + j)) (A + B) := nv_near (fun h0 => by
    have m0 : m ≠ 0 := fun h => h0 (by rw [h, Nat.zero_mul])
    have n0 : n ≠ 0 := fun h => h0 (by rw [h, Nat.mul_zero])
    have hl := log2_mul_le m0 n0
    obtain ⟨rfl, h1⟩ := hm m0
    obtain ⟨rfl, h2⟩ := hn n0
    refine ⟨rfl, ?_⟩
    rcases h1 with h1 | ⟨h1, h3⟩
    · rcases h2 with h2 | ⟨h2, h4⟩
      · exact .inl (by omega)
      · have : (m * n).log2 = m.log2 + n.log2 := by rw [h2, log2_scale m0, ← h2]
        exact .inl (by omega)
    · have e1 : (m * n).log2 = m.log2 + n.log2 := by rw [h1, Nat.mul_comm, log2_scale n0, ← h1]; omega
      rcases h2 with h2 | ⟨h2, h4⟩
      · exact .inl (by omega)
      · refine .inr ⟨?_, by omega⟩
        rw [e1, Nat.pow_add, ← h1, ← h2]) a1 a2
  rw [fop_some hb key.lt.notNan]; exact key
theorem nv_quo {x y : Nat} {A C : Int} (hx : nv x A) (hy : ∃ m e, FloatKind.f64.format.read y = .number false m e ∧ m ≠ 0 ∧ C ≤ e + m.log2) (a1 : -1021 ≤ A - C) (a2 : A - C ≤ 1020) : nv (fop .quo .f64 x y) (A - C) := by
  obtain ⟨n, j, hr2, n0, hn⟩ := hy
  obtain ⟨s, m, i, hr, hm⟩ := hx
  have hb2 : floatBits .quo .f64 x y = some (FloatKind.f64.format.nearest (s ^^ false) (2 * (m <<< (52 + 2 + n.log2 - m.log2) / n) + (m <<< (52 + 2 + n.log2 - m.log2) % n != 0).toNat) (i - j - ((52 + 2 + n.log2 - m.log2 : Nat) : Int) - 1)) := by
    simp only [floatBits, Ieee.Format.div, hr, hr2, Ieee.Datum.quotient, if_neg n0, Option.map_some, bits64.2.1]; rfl
  have key : nv (FloatKind.f64.format.nearest (s ^^ false) (2 * (m <<< (52 + 2 + n.log2 - m.log2) / n) + (m <<< (52 + 2 + n.log2 - m.log2) % n != 0).toNat) (i - j - ((52 + 2 + n.log2 - m.log2 : Nat) : Int) - 1)) (A - C) := by
    by_cases m0 : m = 0
    · subst m0
      simp only [Nat.zero_shiftLeft, Nat.zero_div, Nat.zero_mod, bne_self_eq_false, Bool.toNat_false, Nat.mul_zero, Nat.add_zero]
      exact nv_zero _ _ _
    · obtain ⟨rfl, h1⟩ := hm m0
      refine nv_near (fun h0 => ⟨rfl, ?_⟩) a1 (by omega)
      generalize hmore : 52 + 2 + n.log2 - m.log2 = more at *
      have h2 : 2 ^ n.log2 ≤ n := Nat.log2_self_le n0
      have hb : ∀ b : Bool, b.toNat ≤ 1 := by intro b; cases b <;> simp
      have hge : n.log2 ≤ m.log2 + more := by omega
      -- the general bound, for a dividend below 2 ^ L
      have gen : ∀ L, n.log2 ≤ L → m <<< more < 2 ^ L → (2 * (m <<< more / n) + (m <<< more % n != 0).toNat).log2 < L - n.log2 + 1 := by
        intro L hL h1'
        refine (Nat.log2_lt h0).2 ?_
        have h3 : m <<< more / n < 2 ^ (L - n.log2) := by
          rw [Nat.div_lt_iff_lt_mul (by omega)]
          calc m <<< more < 2 ^ L := h1'
            _ = 2 ^ (L - n.log2) * 2 ^ n.log2 := by rw [← Nat.pow_add]; congr 1; omega
            _ ≤ 2 ^ (L - n.log2) * n := Nat.mul_le_mul_left _ h2
        have := hb (m <<< more % n != 0)
        rw [Nat.pow_succ]
        omega
      rcases h1 with h1 | ⟨h1, h3⟩
      · have h1' : m <<< more < 2 ^ (m.log2 + 1 + more) := by
          rw [Nat.shiftLeft_eq, Nat.pow_add]
          exact Nat.mul_lt_mul_of_pos_right Nat.lt_log2_self (Nat.two_pow_pos _)
        have := gen _ (by omega) h1'
        exact .inl (by omega)
      · have e1 : m <<< more = 2 ^ (m.log2 + more) := by
          rw [Nat.shiftLeft_eq, Nat.pow_add, ← h1]
        rcases Nat.lt_or_ge (2 ^ n.log2) n with c | c
        · -- the divisor is more than its power of 2
          have h4 : m <<< more / n < 2 ^ (m.log2 + more - n.log2) := by
            rw [Nat.div_lt_iff_lt_mul (by omega), e1]
            calc 2 ^ (m.log2 + more) = 2 ^ (m.log2 + more - n.log2) * 2 ^ n.log2 := by rw [← Nat.pow_add]; congr 1; omega
              _ < 2 ^ (m.log2 + more - n.log2) * n := Nat.mul_lt_mul_of_pos_left c (Nat.two_pow_pos _)
          have h5 : (2 * (m <<< more / n) + (m <<< more % n != 0).toNat).log2 < m.log2 + more - n.log2 + 1 := by
            refine (Nat.log2_lt h0).2 ?_
            have := hb (m <<< more % n != 0)
            rw [Nat.pow_succ]
            omega
          exact .inl (by omega)
        · have hn2 : n = 2 ^ n.log2 := by omega
          have e2 : m <<< more = 2 ^ (m.log2 + more - n.log2) * n := by
            rw [e1]
            conv => rhs; rw [hn2]
            rw [Nat.log2_two_pow, ← Nat.pow_add]; congr 1; omega
          have hnp : 0 < n := by omega
          have e3 : 2 * (m <<< more / n) + (m <<< more % n != 0).toNat = 2 ^ (m.log2 + more - n.log2 + 1) := by
            rw [e2, Nat.mul_div_cancel _ hnp, Nat.mul_mod_left, Nat.pow_succ]
            simp
            omega
          rw [e3, Nat.log2_two_pow]
          by_cases c2 : j + (n.log2 : Int) = C
          · exact .inr ⟨rfl, by omega⟩
          · exact .inl (by omega)
  rw [fop_some hb2 key.lt.notNan]; exact key
/-- 1 and a number that is not below 0: normal, from 1 on. -/
theorem one_nv {x : Nat} {A : Int} (hx : nv x A) (h1 : 0 ≤ A) (h2 : A ≤ 1000) : ∃ E f, fop .add .f64 4607182418800017408 x = nrm E f ∧ f < 4503599627370496 ∧ 1023 ≤ E ∧ (E : Int) ≤ A + 1024 ∧ nv (nrm E f) (A + 1) := by
  obtain ⟨t, n, j, hr2, hn⟩ := hx
  have hr : FloatKind.f64.format.read 4607182418800017408 = .number false 4503599627370496 (-52) := by decide
  have pj := (read64 hr2).1
  have hb : floatBits .add .f64 4607182418800017408 x = some (FloatKind.f64.format.nearest (if Ieee.signed false 4503599627370496 (-52 - min (-52) j).toNat + Ieee.signed t n (j - min (-52) j).toNat = 0 then false && t else decide (Ieee.signed false 4503599627370496 (-52 - min (-52) j).toNat + Ieee.signed t n (j - min (-52) j).toNat < 0)) (Ieee.signed false 4503599627370496 (-52 - min (-52) j).toNat + Ieee.signed t n (j - min (-52) j).toNat).natAbs (min (-52) j)) := by
    simp only [floatBits, Ieee.Format.add, hr, hr2, Ieee.Datum.sum, Option.map_some]; rfl
  have hs : Ieee.signed t n (j - min (-52) j).toNat = ((n * 2 ^ (j - min (-52) j).toNat : Nat) : Int) := by
    unfold Ieee.signed
    rw [Nat.shiftLeft_eq]
    by_cases n0 : n = 0
    · subst n0; simp
    · obtain ⟨rfl, _⟩ := hn n0; simp
  have hs1 : Ieee.signed false 4503599627370496 (-52 - min (-52) j).toNat = ((2 ^ (-(min (-52) j)).toNat : Nat) : Int) := by
    unfold Ieee.signed
    rw [Nat.shiftLeft_eq]
    simp only [Bool.false_eq_true, if_false]
    rw [show (4503599627370496 : Nat) = 2 ^ 52 by decide, ← Nat.pow_add]
    congr 2
    omega
  rw [hs, hs1, ← Int.natCast_add] at hb
  generalize hT : 2 ^ (-(min (-52) j)).toNat + n * 2 ^ (j - min (-52) j).toNat = T at hb
  have hp := Nat.two_pow_pos (-(min (-52) j)).toNat
  have hT0 : T ≠ 0 := by omega
  rw [if_neg (by omega), decide_eq_false (by omega), Int.natAbs_natCast] at hb
  have lo : (-(min (-52) j)).toNat ≤ T.log2 := (Nat.le_log2 hT0).2 (by omega)
  have hu : T ≤ 2 ^ ((-(min (-52) j)).toNat + A.toNat + 1) := by
    have a1 : 2 ^ (-(min (-52) j)).toNat ≤ 2 ^ ((-(min (-52) j)).toNat + A.toNat) := Nat.pow_le_pow_right (by omega) (by omega)
    have a2 : n * 2 ^ (j - min (-52) j).toNat ≤ 2 ^ ((-(min (-52) j)).toNat + A.toNat) := by
      by_cases n0 : n = 0
      · subst n0; rw [Nat.zero_mul]; exact Nat.zero_le _
      · obtain ⟨_, h3⟩ := hn n0
        rcases h3 with h3 | ⟨h3, h4⟩
        · calc n * 2 ^ (j - min (-52) j).toNat ≤ 2 ^ (n.log2 + 1) * 2 ^ (j - min (-52) j).toNat := Nat.mul_le_mul_right _ (Nat.le_of_lt Nat.lt_log2_self)
            _ = 2 ^ (n.log2 + 1 + (j - min (-52) j).toNat) := by rw [← Nat.pow_add]
            _ ≤ _ := Nat.pow_le_pow_right (by omega) (by omega)
        · calc n * 2 ^ (j - min (-52) j).toNat = 2 ^ n.log2 * 2 ^ (j - min (-52) j).toNat := by rw [← h3]
            _ = 2 ^ (n.log2 + (j - min (-52) j).toNat) := by rw [← Nat.pow_add]
            _ ≤ _ := Nat.pow_le_pow_right (by omega) (by omega)
    rw [Nat.pow_succ]
    omega
  have hi : T.log2 ≤ (-(min (-52) j)).toNat + A.toNat + 1 := by
    have := Nat.le_trans (Nat.log2_self_le hT0) hu
    exact (Nat.pow_le_pow_iff_right (a := 2) (by omega)).1 this
  obtain ⟨E, f, he, hf, hE⟩ := near_nrm (m := T) (e := min (-52) j) hT0 (by omega) (by omega)
  have hc : nv (FloatKind.f64.format.nearest false T (min (-52) j)) (A + 1) := nv_near (fun _ => ⟨rfl, by
    rcases Nat.lt_or_ge T.log2 ((-(min (-52) j)).toNat + A.toNat + 1) with c | c
    · exact .inl (by omega)
    · have e1 : T.log2 = (-(min (-52) j)).toNat + A.toNat + 1 := by omega
      refine .inr ⟨Nat.le_antisymm (by rw [e1]; exact hu) (Nat.log2_self_le hT0), by omega⟩⟩) (by omega) (by omega)
  rw [he] at hb hc
  have hE0 : 1023 ≤ E := by omega
  have hE1 : E ≤ 2046 := by omega
  refine ⟨E, f, fop_some hb (nrm_nan (by omega) hE1 hf), hf, hE0, ?_, hc⟩
  obtain ⟨s', m', e', hr', hm'⟩ := hc
  rw [nrm_read (by omega) hE1 hf] at hr'
  cases hr'
  rcases (hm' (by omega)).2 with h3 | ⟨_, h3⟩ <;> rw [nrm_log hf] at h3 <;> omega
end Go.Fk

/- A place times a whole number, and the whole part of it as the wide floor gives it. Nothing here names a program. -/
namespace Go.Fk
open Go Go.RowKit
theorem far64 : 9223372036854775807 * (2 : Int) ^ 1074 < (far : Int) := by decide +kernel
theorem far64' : -(far : Int) < -9223372036854775808 * (2 : Int) ^ 1074 := by decide +kernel
theorem far4k : 4096 * one32 < (far : Int) := by decide +kernel
/-- The product of two numbers goes by no order. -/
theorem fmul_comm {x y : Nat} {s t : Bool} {m q : Nat} {i j : Int} (hx : FloatKind.f32.format.read x = .number s m i) (hy : FloatKind.f32.format.read y = .number t q j) : fop .mul .f32 x y = fop .mul .f32 y x := by
  have h1 : floatBits .mul .f32 x y = some (FloatKind.f32.format.nearest (s ^^ t) (m * q) (i + j)) := by
    simp only [floatBits, Ieee.Format.mul, hx, hy, Ieee.Datum.product, Option.map_some]; rfl
  have h2 : floatBits .mul .f32 y x = some (FloatKind.f32.format.nearest (t ^^ s) (q * m) (j + i)) := by
    simp only [floatBits, Ieee.Format.mul, hx, hy, Ieee.Datum.product, Option.map_some]; rfl
  unfold fop
  rw [h1, h2, Bool.xor_comm, Nat.mul_comm, Int.add_comm]
theorem val64_widen {d : Nat} {s : Bool} {m : Nat} {e : Int} (hr : FloatKind.f32.format.read d = .number s m e) : val .f64 (widen d) = val .f32 d * 2 ^ 925 := by
  obtain ⟨j, e', hw, he, _⟩ := read_widen hr
  obtain ⟨b1, _⟩ := read32 hr
  obtain ⟨b2, _⟩ := read64 hw
  have v1 : val .f32 d = Ieee.signed s m (e + 149).toNat := by simp only [val, hr]; rfl
  have v2 : val .f64 (widen d) = Ieee.signed s (m * 2 ^ j) (e' + 1074).toNat := by simp only [val, hw]; rfl
  obtain ⟨N, hN⟩ : ∃ N : Nat, N = 925 := ⟨_, rfl⟩
  rw [v1, v2, ← hN]
  unfold Ieee.signed
  rw [Nat.shiftLeft_eq, Nat.shiftLeft_eq]
  by_cases m0 : m = 0
  · subst m0
    generalize (2 : Int) ^ N = S9
    simp only [Nat.zero_mul, Int.natCast_zero, Int.neg_zero, ite_self, Int.zero_mul]
  · have e0 := he m0
    have ex : m * 2 ^ j * 2 ^ (e' + 1074).toNat = m * 2 ^ (e + 149).toNat * 2 ^ N := by
      rw [Nat.mul_assoc, Nat.mul_assoc, ← Nat.pow_add, ← Nat.pow_add]
      congr 2
      omega
    have c : ((2 ^ N : Nat) : Int) = (2 : Int) ^ N := Int.natCast_pow 2 N
    rw [ex]
    cases s
    · rw [if_neg (by decide), if_neg (by decide), Int.natCast_mul, c]
    · rw [if_pos rfl, if_pos rfl, Int.natCast_mul, c, Int.neg_mul]
theorem floor_int {d r : Nat} (hn : isNan .f32 d = false) (h0 : 0 ≤ val .f32 d) (h1 : val .f32 d ≤ 4096 * one32) (hr : can .f64 r = can .f64 (integ .down (widen d))) : floatToIntVal .f64 r .i64 = some (wholeW d : Int) := by
  obtain ⟨s, m, e, hrd⟩ : ∃ s m e, FloatKind.f32.format.read d = .number s m e := by
    cases h : FloatKind.f32.format.read d with
    | nan a b => simp [isNan, h, Ieee.Datum.isNaN] at hn
    | infinity a =>
      exfalso
      have hv : val .f32 d = if a then -(far : Int) else far := by simp only [val, h]
      have hf := far4k
      have hp : (0 : Int) < far := Int.ofNat_lt.2 far_pos
      rw [hv] at h0 h1
      cases a
      · simp only [Bool.false_eq_true, if_false] at h0 h1; omega
      · simp only [if_true] at h0 h1; omega
    | number s m e => exact ⟨s, m, e, rfl⟩
  have hv := val64_widen hrd
  obtain ⟨j, e', hw, _, _⟩ := read_widen hrd
  obtain ⟨hfl, Bd, hB⟩ := val_floor hw
  have hni : isNan .f64 (integ .down (widen d)) = false := by
    obtain ⟨s', m', e'', hr', _⟩ := hB
    simp [isNan, hr', Ieee.Datum.isNaN]
  have er : r = integ .down (widen d) := (eq_of_can hr.symm hni).symm
  subst er
  have hU : (0 : Int) < 2 ^ 149 := Int.pow_pos (by omega)
  have hS : (0 : Int) < 2 ^ 925 := Int.pow_pos (by omega)
  have hX : val .f64 (widen d) / 2 ^ 1074 = val .f32 d / 2 ^ 149 := by
    rw [hv, show (2 : Int) ^ 1074 = 2 ^ 149 * 2 ^ 925 by rw [← Int.pow_add]]
    exact Int.mul_ediv_mul_of_pos_left _ _ hS
  rw [hX] at hfl
  have o1 : one32 = 2 ^ 149 := rfl
  rw [o1] at h1
  have k0 : 0 ≤ val .f32 d / 2 ^ 149 := Int.ediv_nonneg h0 (by omega)
  have k1 : val .f32 d / 2 ^ 149 ≤ 4096 := by
    have := Int.ediv_le_ediv hU h1
    rwa [Int.mul_ediv_cancel _ (by omega)] at this
  have hwd : (wholeW d : Int) = val .f32 d / 2 ^ 149 := by
    unfold wholeW
    rw [o1, Int.tdiv_eq_ediv_of_nonneg h0, Int.toNat_of_nonneg k0]
  have hU64 : (0 : Int) < 2 ^ 1074 := Int.pow_pos (by omega)
  have f1 := far64
  have f2 := far64'
  rw [hwd]
  generalize hx : val .f32 d / 2 ^ 149 = X at *
  have key := floatToInt_val (k := .i64) hni (by
    show (-9223372036854775808 : Int) * 2 ^ 1074 ≤ _
    rw [hfl]; exact Int.mul_le_mul_of_nonneg_right (by omega) (Int.le_of_lt hU64)) (by
    show _ ≤ (9223372036854775807 : Int) * 2 ^ 1074
    rw [hfl]; exact Int.mul_le_mul_of_nonneg_right (by omega) (Int.le_of_lt hU64)) f1 f2
  rw [key, hfl, show (2 : Int) ^ unitOf .f64 = 2 ^ 1074 from rfl, Int.mul_tdiv_cancel _ (by omega)]
/-- A place times a whole number: neither NaN nor below 0. -/
theorem mult_pos {pl n : Nat} (hn : isNan .f32 pl = false) (h0 : 0 ≤ val .f32 pl) (h1 : val .f32 pl ≤ 2 ^ 149) (hk : n ≤ 1024) :
    isNan .f32 (fop .mul .f32 pl (floatOfInt .f32 (n : Int))) = false ∧ 0 ≤ val .f32 (fop .mul .f32 pl (floatOfInt .f32 (n : Int))) ∧ val .f32 (fop .mul .f32 pl (floatOfInt .f32 (n : Int))) ≤ 4096 * one32 ∧ fop .mul .f32 (floatOfInt .f32 (n : Int)) pl = fop .mul .f32 pl (floatOfInt .f32 (n : Int)) := by
  have hU := one32_pos
  obtain ⟨s, m, i, hr, hm⟩ := lt_val hn h0 h1 (by omega)
  have hv : val .f32 (floatOfInt .f32 (n : Int)) = (n : Int) * one32 := val_int (by omega)
  have hv2 : val .f32 (floatOfInt .f32 (n : Int)) ≤ 2 ^ 159 := by
    rw [hv]
    have e2 : (1024 : Int) * one32 = 2 ^ 159 := by decide
    rw [← e2]
    exact Int.mul_le_mul_of_nonneg_right (by omega) (by omega)
  obtain ⟨t, q, j, hr2, hq⟩ := lt_val (isNan_int (n : Int)) (by rw [hv]; exact Int.mul_nonneg (by omega) (by omega)) hv2 (by omega)
  have hb : floatBits .mul .f32 pl (floatOfInt .f32 (n : Int)) = some (FloatKind.f32.format.nearest (s ^^ t) (m * q) (i + j)) := by
    simp only [floatBits, Ieee.Format.mul, hr, hr2, Ieee.Datum.product, Option.map_some]; rfl
  have hfp : fop .mul .f32 pl (floatOfInt .f32 (n : Int)) = FloatKind.f32.format.nearest (s ^^ t) (m * q) (i + j) := by
    unfold fop; rw [hb]; exact can_of_not (isNan_nearest _ _ _ _)
  refine ⟨by rw [hfp]; exact isNan_nearest _ _ _ _, ?_⟩
  have key : 0 ≤ val .f32 (fop .mul .f32 pl (floatOfInt .f32 (n : Int))) ∧ val .f32 (fop .mul .f32 pl (floatOfInt .f32 (n : Int))) ≤ 4096 * one32 := by
    rw [hfp]
    by_cases h : m * q = 0
    · rw [h, show FloatKind.f32.format.nearest (s ^^ t) 0 (i + j) = FloatKind.f32.format.word (s ^^ t) 0 by simp [Ieee.Format.nearest], val_word _ (by decide), show rv 0 = 0 by decide]
      have : 0 ≤ 4096 * one32 := Int.mul_nonneg (by omega) (by omega)
      cases (s ^^ t)
      · exact ⟨by simp, by simpa using this⟩
      · exact ⟨by simp, by simpa using this⟩
    · have m0 : m ≠ 0 := fun e => h (by rw [e, Nat.zero_mul])
      have q0 : q ≠ 0 := fun e => h (by rw [e, Nat.mul_zero])
      obtain ⟨rfl, a1⟩ := hm m0
      obtain ⟨rfl, a2⟩ := hq q0
      have hl := log2_mul_le m0 q0
      obtain ⟨v, hv3, hle⟩ := near_le (e := i + j) (A := 12) (false ^^ false) h (by omega) (by omega) (by omega)
      rw [hv3]
      have e2 : (4096 : Int) * one32 = 2 ^ 161 := by decide
      have hle' : v ≤ 2 ^ 161 := hle
      rw [e2]
      exact ⟨by simp, by simp only [Bool.xor_false, Bool.false_eq_true, if_false]; exact_mod_cast hle'⟩
  exact ⟨key.1, key.2, fmul_comm hr2 hr⟩
/-- The place of a bow: the share that goes to the bridge. -/
def bowN (pl n : Nat) : Nat := min (max (wholeW (fop .mul .f32 pl (floatOfInt .f32 (n : Int)))) 1) (n - 1)
end Go.Fk

/- Powers of 2 in wide numbers: the sum, and its bounds. Nothing here names a program. -/
namespace Go.Fk
open Go Go.RowKit
def pwD (x : Nat) : Nat := fop .sub .f64 (widen x) (integ .down (widen x))
def pwY (x : Nat) : Nat := fop .mul .f64 (pwD x) 4604418534313441775
/-- The sum behind j of the 14 steps. -/
def pwS (y : Nat) : Nat → Nat
  | 0 => 4607182418800017408
  | j + 1 => fop .add .f64 4607182418800017408 (fop .mul .f64 (fop .quo .f64 y (floatOfInt .f64 (14 - (j : Int)))) (pwS y j))
/-- The greatest whole number that is at most x. -/
def pwQ (x : Nat) : Int := val .f64 (widen x) / 2 ^ 1074
def pwV (x : Nat) : Nat := can .f32 (narrow ((pwS (pwY x) 14 : Int) + pwQ x * 4503599627370496).toNat)
theorem int_read {j : Int} (h1 : 1 ≤ j) (h2 : j ≤ 14) : ∃ m e, FloatKind.f64.format.read (floatOfInt .f64 j) = .number false m e ∧ m ≠ 0 ∧ (0 : Int) ≤ e + m.log2 ∧ (2 ≤ j → (1 : Int) ≤ e + m.log2) := by
  have c : j = 1 ∨ j = 2 ∨ j = 3 ∨ j = 4 ∨ j = 5 ∨ j = 6 ∨ j = 7 ∨ j = 8 ∨ j = 9 ∨ j = 10 ∨ j = 11 ∨ j = 12 ∨ j = 13 ∨ j = 14 := by omega
  rcases c with rfl | rfl | rfl | rfl | rfl | rfl | rfl | rfl | rfl | rfl | rfl | rfl | rfl | rfl
  · exact ⟨4503599627370496, -52, by decide +kernel, by decide, by decide +kernel, by decide +kernel⟩
  · exact ⟨4503599627370496, -51, by decide +kernel, by decide, by decide +kernel, by decide +kernel⟩
  · exact ⟨6755399441055744, -51, by decide +kernel, by decide, by decide +kernel, by decide +kernel⟩
  · exact ⟨4503599627370496, -50, by decide +kernel, by decide, by decide +kernel, by decide +kernel⟩
  · exact ⟨5629499534213120, -50, by decide +kernel, by decide, by decide +kernel, by decide +kernel⟩
  · exact ⟨6755399441055744, -50, by decide +kernel, by decide, by decide +kernel, by decide +kernel⟩
  · exact ⟨7881299347898368, -50, by decide +kernel, by decide, by decide +kernel, by decide +kernel⟩
  · exact ⟨4503599627370496, -49, by decide +kernel, by decide, by decide +kernel, by decide +kernel⟩
  · exact ⟨5066549580791808, -49, by decide +kernel, by decide, by decide +kernel, by decide +kernel⟩
  · exact ⟨5629499534213120, -49, by decide +kernel, by decide, by decide +kernel, by decide +kernel⟩
  · exact ⟨6192449487634432, -49, by decide +kernel, by decide, by decide +kernel, by decide +kernel⟩
  · exact ⟨6755399441055744, -49, by decide +kernel, by decide, by decide +kernel, by decide +kernel⟩
  · exact ⟨7318349394477056, -49, by decide +kernel, by decide, by decide +kernel, by decide +kernel⟩
  · exact ⟨7881299347898368, -49, by decide +kernel, by decide, by decide +kernel, by decide +kernel⟩
theorem one_nrm : (4607182418800017408 : Nat) = nrm 1023 0 := by decide
theorem pwS_nv {y : Nat} (hy : nv y 0) : ∀ j, j ≤ 13 → nv (pwS y j) 1 := by
  intro j
  induction j with
  | zero =>
    intro _
    exact ⟨false, 4503599627370496, -52, by show FloatKind.f64.format.read 4607182418800017408 = _; decide, fun _ => ⟨rfl, .inl (by decide +kernel)⟩⟩
  | succ j ih =>
    intro hj
    obtain ⟨m, e, hr, hm, _, h2⟩ := int_read (j := 14 - (j : Int)) (by omega) (by omega)
    have q := nv_quo hy ⟨m, e, hr, hm, h2 (by omega)⟩ (by decide) (by decide)
    have p := nv_mul q (ih (by omega)) (by decide) (by decide)
    obtain ⟨E, f, he, _, _, _, hn⟩ := one_nv (p.mono (B := 0) (by decide)) (by decide) (by decide)
    show nv (fop .add .f64 4607182418800017408 _) 1
    rw [he]
    exact hn
theorem pwS_nrm {y : Nat} (hy : nv y 0) : ∃ E f, pwS y 14 = nrm E f ∧ f < 4503599627370496 ∧ 1023 ≤ E ∧ E ≤ 1025 := by
  obtain ⟨m, e, hr, hm, h1, _⟩ := int_read (j := 14 - ((13 : Nat) : Int)) (by decide) (by decide)
  have q := nv_quo hy ⟨m, e, hr, hm, h1⟩ (by decide) (by decide)
  have p := nv_mul q (pwS_nv hy 13 (by omega)) (by decide) (by decide)
  obtain ⟨E, f, he, hf, h2, h3, _⟩ := one_nv (p.mono (B := 1) (by decide)) (by decide) (by decide)
  refine ⟨E, f, he, hf, h2, by omega⟩
theorem pw_vals : val .f32 3270508544 = -120 * 2 ^ 149 ∧ isNan .f32 3270508544 = false ∧ val .f32 1123024896 = 120 * 2 ^ 149 ∧ isNan .f32 1123024896 = false := by decide +kernel
theorem far_120 : (121 : Int) * 2 ^ 149 < (far : Int) := by decide +kernel
theorem i64_min : IntKind.i64.min = -9223372036854775808 := by decide
theorem i64_max : IntKind.i64.max = 9223372036854775807 := by decide
/-- What is known of a power that is asked within the range. -/
theorem pw_ok {x : Nat} (h : withinB x 3270508544 1123024896 = true) :
    (∃ E f, pwS (pwY x) 14 = nrm E f ∧ f < 4503599627370496 ∧ 1023 ≤ E ∧ E ≤ 1025) ∧ -120 ≤ pwQ x ∧ pwQ x ≤ 120 ∧ isNan .f64 (integ .down (widen x)) = false ∧ floatToIntVal .f64 (integ .down (widen x)) .i64 = some (pwQ x) := by
  obtain ⟨v1, n1, v2, n2⟩ := pw_vals
  obtain ⟨hn, h1, h2⟩ := within_val n1 n2 h
  rw [v1] at h1
  rw [v2] at h2
  have hf := far_120
  have hU : (0 : Int) < 2 ^ 149 := Int.pow_pos (by omega)
  obtain ⟨s, m, e, hr⟩ := finite_num hn (by generalize (2 : Int) ^ 149 = U at *; omega) (by generalize (2 : Int) ^ 149 = U at *; omega)
  have hv := val64_widen hr
  obtain ⟨j, e', hw, _, _⟩ := read_widen hr
  obtain ⟨hfl, Bd, hB⟩ := val_floor hw
  have hS : (0 : Int) < 2 ^ 925 := Int.pow_pos (by omega)
  have hX : pwQ x = val .f32 x / 2 ^ 149 := by
    unfold pwQ
    rw [hv, show (2 : Int) ^ 1074 = 2 ^ 149 * 2 ^ 925 by rw [← Int.pow_add]]
    exact Int.mul_ediv_mul_of_pos_left _ _ hS
  have q1 : -120 ≤ pwQ x := by
    rw [hX]
    have := Int.ediv_le_ediv hU h1
    rwa [Int.mul_ediv_cancel _ (by omega)] at this
  have q2 : pwQ x ≤ 120 := by
    rw [hX]
    have := Int.ediv_le_ediv hU h2
    rwa [Int.mul_ediv_cancel _ (by omega)] at this
  have hni : isNan .f64 (integ .down (widen x)) = false := by
    obtain ⟨s', m', e'', hr', _⟩ := hB
    simp [isNan, hr', Ieee.Datum.isNaN]
  have hU64 : (0 : Int) < 2 ^ 1074 := Int.pow_pos (by omega)
  have hQ : val .f64 (integ .down (widen x)) = pwQ x * 2 ^ 1074 := hfl
  refine ⟨?_, q1, q2, hni, ?_⟩
  · refine pwS_nrm ?_
    have hD : nv (pwD x) 0 := by
      obtain ⟨t, n, i, hrk, _⟩ := hB
      have hb : floatBits .sub .f64 (widen x) (integ .down (widen x)) = some (FloatKind.f64.format.nearest (if Ieee.signed s (m * 2 ^ j) (e' - min e' i).toNat + Ieee.signed (!t) n (i - min e' i).toNat = 0 then s && !t else decide (Ieee.signed s (m * 2 ^ j) (e' - min e' i).toNat + Ieee.signed (!t) n (i - min e' i).toNat < 0)) (Ieee.signed s (m * 2 ^ j) (e' - min e' i).toNat + Ieee.signed (!t) n (i - min e' i).toNat).natAbs (min e' i)) := by
        simp only [floatBits, Ieee.Format.sub, hw, hrk, Ieee.Datum.opposite, Ieee.Datum.sum, Option.map_some]; rfl
      have pi := (read64 hw).1
      have pj := (read64 hrk).1
      have vx : val .f64 (widen x) = Ieee.signed s (m * 2 ^ j) (e' + 1074).toNat := by simp only [val, hw]; rfl
      have vy : val .f64 (integ .down (widen x)) = Ieee.signed t n (i + 1074).toNat := by simp only [val, hrk]; rfl
      have hneg : Ieee.signed (!t) n (i - min e' i).toNat = -Ieee.signed t n (i - min e' i).toNat := by
        unfold Ieee.signed; cases t <;> simp
      have e1 : val .f64 (widen x) - val .f64 (integ .down (widen x)) = (Ieee.signed s (m * 2 ^ j) (e' - min e' i).toNat + Ieee.signed (!t) n (i - min e' i).toNat) * 2 ^ (min e' i + 1074).toNat := by
        rw [hneg, vx, vy, signed_eq, signed_eq, signed_eq, signed_eq, Int.add_mul, Int.neg_mul, Int.mul_assoc, Int.mul_assoc, ← Int.pow_add, ← Int.pow_add]
        rw [show (e' - min e' i).toNat + (min e' i + 1074).toNat = (e' + 1074).toNat by omega, show (i - min e' i).toNat + (min e' i + 1074).toNat = (i + 1074).toNat by omega]
        omega
      have hmod : val .f64 (widen x) - val .f64 (integ .down (widen x)) = val .f64 (widen x) % 2 ^ 1074 := by
        rw [hQ]; unfold pwQ
        rw [Int.emod_def, Int.mul_comm]
      have d0 : 0 ≤ val .f64 (widen x) - val .f64 (integ .down (widen x)) := by rw [hmod]; exact Int.emod_nonneg _ (Int.ne_of_gt hU64)
      have d1 : val .f64 (widen x) - val .f64 (integ .down (widen x)) < 2 ^ 1074 := by rw [hmod]; exact Int.emod_lt_of_pos _ hU64
      have d2 : ∀ N : Nat, val .f64 (widen x) - val .f64 (integ .down (widen x)) < (2 : Int) ^ N → (val .f64 (widen x) - val .f64 (integ .down (widen x))).natAbs < 2 ^ N := fun N h => by
        have h2 : ((val .f64 (widen x) - val .f64 (integ .down (widen x))).natAbs : Int) < ((2 ^ N : Nat) : Int) := by
          rw [Int.natCast_pow]
          show _ < (2 : Int) ^ N
          omega
        exact Int.ofNat_lt.1 h2
      have e9 : ((0 : Int) + 1074).toNat = 1074 := by decide
      have d3 := d2 _ d1
      rw [← e9] at d3
      have hpl := fun h0 => diff_place (A := 0) hw hrk (by decide) d3 h0
      have hT : 0 ≤ Ieee.signed s (m * 2 ^ j) (e' - min e' i).toNat + Ieee.signed (!t) n (i - min e' i).toNat := by
        rw [e1] at d0
        exact Int.nonneg_of_mul_nonneg_left d0 (Int.pow_pos (by omega))
      generalize Ieee.signed s (m * 2 ^ j) (e' - min e' i).toNat + Ieee.signed (!t) n (i - min e' i).toNat = T at *
      have key : nv (FloatKind.f64.format.nearest (if T = 0 then s && !t else decide (T < 0)) T.natAbs (min e' i)) 0 := nv_near (fun h0 => ⟨by rw [if_neg (by omega)]; exact decide_eq_false (by omega), .inl (hpl h0)⟩) (by decide) (by decide)
      unfold pwD
      rw [fop_some hb key.lt.notNan]
      exact key
    have hl : nv 4604418534313441775 0 := ⟨false, 6243314768165359, -53, by decide +kernel, fun _ => ⟨rfl, .inl (by decide +kernel)⟩⟩
    exact nv_mul hD hl (by decide) (by decide)
  · have f1 := far64
    have f2 := far64'
    have key := floatToInt_val (k := .i64) hni (by
      rw [i64_min]; show (-9223372036854775808 : Int) * 2 ^ 1074 ≤ _
      rw [hQ]; exact Int.mul_le_mul_of_nonneg_right (by omega) (Int.le_of_lt hU64)) (by
      rw [i64_max]; show _ ≤ (9223372036854775807 : Int) * 2 ^ 1074
      rw [hQ]; exact Int.mul_le_mul_of_nonneg_right (by omega) (Int.le_of_lt hU64)) f1 f2
    rw [key, hQ, show (2 : Int) ^ unitOf .f64 = 2 ^ 1074 from rfl, Int.mul_tdiv_cancel _ (by omega)]
/-- The word of a normal number times a power of 2. -/
theorem nrm_shift {E f : Nat} {q : Int} (h : 0 ≤ (E : Int) + q) : ((nrm E f : Int) + q * 4503599627370496).toNat = nrm (E + q).toNat f := by unfold nrm; omega
theorem nrm_narrowable {E f : Nat} (h1 : 1 ≤ E) (h2 : E ≤ 1148) (hf : f < 4503599627370496) : narrowable (nrm E f) :=
  .inr (.inr ⟨_, _, _, nrm_read h1 (by omega) hf, fun _ => by rw [nrm_log hf]; omega⟩)
theorem pwV_eq {x E f : Nat} (he : pwS (pwY x) 14 = nrm E f) (h : 0 ≤ (E : Int) + pwQ x) : pwV x = can .f32 (narrow (nrm (E + pwQ x).toNat f)) := by
  unfold pwV; rw [he, nrm_shift h]
theorem pw_congr {x y : Nat} (h : can .f32 x = can .f32 y) : pwY x = pwY y ∧ pwQ x = pwQ y ∧ pwV x = pwV y := by
  have hw := widen_congr h
  have e1 : pwY x = pwY y := by unfold pwY pwD; rw [hw]
  have e2 : pwQ x = pwQ y := by unfold pwQ; rw [hw]
  exact ⟨e1, e2, by unfold pwV; rw [e1, e2]⟩
end Go.Fk

/- What math.Float64bits, math.Float64frombits and math.Abs give. -/
namespace Go.Fk
open Go Go.RowKit
theorem andNot_sign (x : Nat) (hx : fits .f64 x) : (bits .andNot .u64 (x : Int) 9223372036854775808).toNat = x % 9223372036854775808 := by
  have h : x < 18446744073709551616 := by simp only [fits, Lit.wf, decide_eq_true_eq] at hx; omega
  have h1 := u64_andNot_nat x 9223372036854775808 (by omega) (by omega)
  rw [show ((9223372036854775808 : Nat) : Int) = 9223372036854775808 by rfl] at h1
  rw [h1, Int.toNat_natCast]
  exact Nat.and_two_pow_sub_one_eq_mod x 63
end Go.Fk
namespace Go.Proofs.Ytanjemoeologiaa
open Go.RowKit Go.Fk
@[go_sem] theorem run_f64bits (x : Nat) (w : World) : (callFunc 52 #[.float .f64 x]).run Try.prog w = .ok (.value (.int .u64 x)) w := by
  rw [run_callFunc_extern (e := Extern.MathFloatBits.float64bits) Try.func52 (by kernel_rfl) (by kernel_rfl) (by kernel_rfl) (by kernel_rfl)]; rfl
@[go_sem] theorem run_f64from (x : Int) (w : World) : (callFunc 55 #[.int .u64 x]).run Try.prog w = .ok (.value (.float .f64 x.toNat)) w := by
  rw [run_callFunc_extern (e := Extern.MathFloatBits.float64frombits) Try.func55 (by kernel_rfl) (by kernel_rfl) (by kernel_rfl) (by kernel_rfl)]; rfl
theorem abs64 (x : Nat) (w : World) (hx : fits .f64 x) : Calls Try.prog 57 #[.float .f64 x] w fun e w' => e = .returned (.float .f64 (x % 9223372036854775808)) ∧ w = w' := by
  have hn := andNot_sign x hx
  go_enter Try.func57, Try.ntmps57
  go_wp2
  go_ret
  exact ⟨rfl, rfl⟩
end Go.Proofs.Ytanjemoeologiaa

/- The contracts of 'SineOf'. -/
namespace Go.Fk
open Go Go.RowKit
/-- The part of a turn. -/
def frS (x : Nat) : Nat := fop .sub .f64 (widen x) (integ .down (widen x))
theorem frS_le {x : Nat} (h : fin x = true) : leV (frS x) 0 := by
  cases hr : FloatKind.f32.format.read x with
  | nan s t => simp [fin, hr] at h
  | infinity s => simp [fin, hr] at h
  | number s m e =>
    obtain ⟨j, e', h1, _, _⟩ := read_widen hr
    obtain ⟨h2, h3⟩ := val_floor h1
    refine sub_leV ⟨_, _, _, _, h1, fun _ => Int.le_refl _⟩ h3 (by omega) ?_ (fine64 (by omega) (by omega))
    rw [h2, show ((0 : Int) + 1074).toNat = 1074 by decide]
    have hU : (0 : Int) < 2 ^ 1074 := Int.pow_pos (by omega)
    have hU2 : ((2 ^ 1074 : Nat) : Int) = 2 ^ 1074 := Int.natCast_pow 2 1074
    generalize (2 : Nat) ^ 1074 = UN at *
    generalize (2 : Int) ^ 1074 = U at *
    have := Int.emod_add_ediv_mul (val .f64 (widen x)) U
    have h4 := Int.emod_nonneg (val .f64 (widen x)) (show U ≠ 0 by omega)
    have h5 := Int.emod_lt_of_pos (val .f64 (widen x)) hU
    omega
/-- Is it in the second half? -/
def negS (x : Nat) : Bool := FloatKind.f64.format.order (frS x) 4602678819172646912 == some .gt || FloatKind.f64.format.order (frS x) 4602678819172646912 == some .eq
def f1S (x : Nat) : Nat := if negS x = true then fop .sub .f64 (frS x) 4602678819172646912 else frS x
def f2S (x : Nat) : Nat := if (FloatKind.f64.format.order (f1S x) 4598175219545276416 == some .gt) = true then fop .sub .f64 4602678819172646912 (f1S x) else f1S x
def xS (x : Nat) : Nat := fop .mul .f64 4618760256179416344 (f2S x)
def yS (x : Nat) : Nat := fop .mul .f64 (xS x) (xS x)
def denS (k : Nat) : Nat := floatOfInt .f64 (wrap64 (2 * (8 - (k : Int)) * (2 * (8 - (k : Int)) + 1)))
def tS (x : Nat) : Nat → Nat
  | 0 => 4607182418800017408
  | k + 1 => fop .sub .f64 4607182418800017408 (fop .mul .f64 (fop .quo .f64 (yS x) (denS k)) (tS x k))
def sS (x : Nat) : Nat := fop .mul .f64 (tS x 8) (xS x)
def sgS (x : Nat) : Nat := if negS x = true then neg .f64 (sS x) else sS x
/-- The sine of turns, up to the bits of NaN. -/
def sineW (x : Nat) : Nat := if fin x = true then can .f32 (narrow (sgS x)) else qnan .f32

theorem pow_two_up (n : Nat) : 2 ^ (n + 2) = 4 * 2 ^ n := by rw [Nat.pow_add]; omega
theorem half_le : leV 4602678819172646912 (-1) ∧ val .f64 4602678819172646912 = 2 * 2 ^ 1072 := by
  refine ⟨⟨⟨false, 4503599627370496, -53, by decide, by decide⟩, ?_⟩, ?_⟩ <;> decide +kernel
theorem quarter_val : val .f64 4598175219545276416 = 2 ^ 1072 ∧ isNan .f64 4598175219545276416 = false := by
  refine ⟨?_, ?_⟩ <;> decide +kernel
theorem order_gt {a b : Nat} (ha : isNan .f64 a = false) (hb : isNan .f64 b = false) : (FloatKind.f64.format.order a b == some .gt) = true ↔ val .f64 b < val .f64 a := by
  rw [order_val ha hb, beq_iff_eq, Option.some.injEq]
  exact Int.compare_eq_gt
theorem order_eq2 {a b : Nat} (ha : isNan .f64 a = false) (hb : isNan .f64 b = false) : (FloatKind.f64.format.order a b == some .eq) = true ↔ val .f64 a = val .f64 b := by
  rw [order_val ha hb, beq_iff_eq, Option.some.injEq]
  exact Int.compare_eq_eq
theorem f1S_le {x : Nat} (h : fin x = true) : leV (f1S x) 0 := by
  have hf := frS_le h
  have hh := half_le
  unfold f1S
  split
  · rename_i hn
    refine sub_leV ⟨_, hf.1⟩ ⟨_, hh.1.1⟩ (by omega) ?_ (fine64 (by omega) (by omega))
    have hv : val .f64 4602678819172646912 ≤ val .f64 (frS x) := by
      unfold negS at hn
      rw [Bool.or_eq_true, order_gt hf.1.notNan hh.1.1.notNan, order_eq2 hf.1.notNan hh.1.1.notNan] at hn
      omega
    have h2 := hf.2
    rw [hh.2] at hv ⊢
    rw [show ((0 : Int) + 1074).toNat = 1072 + 2 by rfl, pow_two_up 1072] at h2 ⊢
    have e : ((2 ^ 1072 : Nat) : Int) = 2 ^ 1072 := Int.natCast_pow 2 1072
    have e0 := Nat.two_pow_pos 1072
    generalize (2 : Nat) ^ 1072 = UN at *
    generalize (2 : Int) ^ 1072 = U at *
    omega
  · exact hf
theorem f2S_le {x : Nat} (h : fin x = true) : leV (f2S x) 0 := by
  have hf := f1S_le h
  have hh := half_le
  unfold f2S
  split
  · rename_i hn
    refine sub_leV ⟨_, hh.1.1⟩ ⟨_, hf.1⟩ (by omega) ?_ (fine64 (by omega) (by omega))
    rw [order_gt hf.1.notNan quarter_val.2, quarter_val.1] at hn
    have h2 := hf.2
    rw [hh.2]
    rw [show ((0 : Int) + 1074).toNat = 1072 + 2 by rfl, pow_two_up 1072] at h2 ⊢
    have e : ((2 ^ 1072 : Nat) : Int) = 2 ^ 1072 := Int.natCast_pow 2 1072
    have e0 := Nat.two_pow_pos 1072
    generalize (2 : Nat) ^ 1072 = UN at *
    generalize (2 : Int) ^ 1072 = U at *
    omega
  · exact hf
theorem fop_lt {op : BinOp} {a b : Nat} {C : Int} (h : ∃ r, floatBits op .f64 a b = some r ∧ lt .f64 r C) : lt .f64 (fop op .f64 a b) C := by
  obtain ⟨r, h1, h2⟩ := h
  unfold fop
  rw [h1]
  simp only
  rw [can_of_not h2.notNan]
  exact h2
theorem xS_lt {x : Nat} (h : fin x = true) : lt .f64 (xS x) 5 :=
  (fop_lt (lt_mul (A := 3) (B := 1) ⟨false, 7074237752028440, -50, by decide, by decide⟩ (f2S_le h).1 (fine64 (by omega) (by omega)))).mono (by omega)
theorem yS_lt {x : Nat} (h : fin x = true) : lt .f64 (yS x) 11 :=
  (fop_lt (lt_mul (A := 5) (B := 5) (xS_lt h) (xS_lt h) (fine64 (by omega) (by omega)))).mono (by omega)
theorem denS_ge {k : Nat} (h : k < 8) : ge .f64 (denS k) 2 := by
  have key : ∀ k : Fin 8, (match FloatKind.f64.format.read (denS k) with | .number _ m e => decide (m ≠ 0 ∧ 2 ≤ e + m.log2) | _ => false) = true := by decide +kernel
  have hk := key ⟨k, h⟩
  simp only at hk
  cases hr : FloatKind.f64.format.read (denS k) with
  | nan s t => rw [hr] at hk; cases hk
  | infinity s => rw [hr] at hk; cases hk
  | number s m e =>
    rw [hr] at hk
    simp only [decide_eq_true_eq] at hk
    exact ⟨s, m, e, hr, hk.1, hk.2⟩
theorem one_lt : lt .f64 4607182418800017408 1 := ⟨false, 4503599627370496, -52, by decide, by decide⟩
theorem qS_lt {x : Nat} (h : fin x = true) {k : Nat} (hk : k < 8) : lt .f64 (fop .quo .f64 (yS x) (denS k)) 11 :=
  (fop_lt (lt_quo (A := 11) (C := 2) (yS_lt h) (denS_ge hk) (fine64 (by omega) (by omega)))).mono (by omega)
theorem tS_lt {x : Nat} (h : fin x = true) (k : Nat) (hk : k ≤ 8) : lt .f64 (tS x k) (1 + 14 * k) := by
  induction k with
  | zero => exact one_lt
  | succ k ih =>
    have h1 := ih (by omega)
    have h2 := (fop_lt (lt_mul (qS_lt h (show k < 8 by omega)) h1 (fine64 (by omega) (by omega)))).mono (B := 13 + 14 * (k : Int)) (by omega)
    exact (fop_lt (lt_sub one_lt h2 (fine64 (by omega) (by omega)))).mono (by push_cast; omega)
theorem sS_lt {x : Nat} (h : fin x = true) : lt .f64 (sS x) 119 :=
  (fop_lt (lt_mul (A := 113) (B := 5) (tS_lt h 8 (by omega)) (xS_lt h) (fine64 (by omega) (by omega)))).mono (by omega)
theorem lt_neg {b : Nat} {A : Int} (h : lt .f64 b A) : lt .f64 (neg .f64 b) A := by
  obtain ⟨s, m, e, hr, hm⟩ := h
  have hx : neg .f64 b % FloatKind.f64.format.signWeight = b % FloatKind.f64.format.signWeight := xor_mod b 63
  unfold Ieee.Format.read at hr
  dsimp only at hr
  rw [← hx] at hr
  have key : ∃ s', FloatKind.f64.format.read (neg .f64 b) = .number s' m e := by
    unfold Ieee.Format.read
    dsimp only
    split
    · rename_i h1
      rw [if_pos h1] at hr
      simp only [Ieee.Datum.number.injEq] at hr ⊢
      exact ⟨_, rfl, hr.2⟩
    · rename_i h1
      rw [if_neg h1] at hr
      split
      · rename_i h2
        rw [if_pos h2] at hr
        simp only [Ieee.Datum.number.injEq] at hr ⊢
        exact ⟨_, rfl, hr.2⟩
      · rename_i h2
        rw [if_neg h2] at hr
        split at hr <;> cases hr
  obtain ⟨s', hs⟩ := key
  exact ⟨s', m, e, hs, hm⟩
theorem lt.narrowX {b : Nat} (h : lt .f64 b 126) : narrowableX b := by
  intro s m e hr
  obtain ⟨s', m', e', hr', hm⟩ := h
  rw [hr] at hr'
  cases hr'
  exact (lt_encode (k := .f32) (s := s) hm (fine32 (by omega) (by omega))).notInf
theorem wide_read {x r : Nat} (hx : fin x = true) (h : Hid (can .f64 r = can .f64 (widen x))) : ∃ s m e, FloatKind.f64.format.read r = .number s m e := by
  cases hr : FloatKind.f32.format.read x with
  | nan s t => simp [fin, hr] at hx
  | infinity s => simp [fin, hr] at hx
  | number s m e =>
    obtain ⟨j, e', h1, _, _⟩ := read_widen hr
    have : r = widen x := (eq_of_can h.out.symm (by simp [isNan, h1, Ieee.Datum.isNaN])).symm
    rw [this]
    exact ⟨_, _, _, h1⟩
theorem wide_num {x r : Nat} (hx : fin x = true) (h : Hid (can .f64 r = can .f64 (widen x))) : isNan .f64 r = false := by
  obtain ⟨s, m, e, hr⟩ := wide_read hx h
  simp [isNan, hr, Ieee.Datum.isNaN]
theorem wide_fin {x r : Nat} (hx : fin x = true) (h : Hid (can .f64 r = can .f64 (widen x))) : (FloatKind.f64.format.read r).isInfinity = false := by
  obtain ⟨s, m, e, hr⟩ := wide_read hx h
  simp [hr, Ieee.Datum.isInfinity]
theorem notInf_order {x : Nat} (hi : (FloatKind.f64.format.read x).isInfinity = false) (hn : isNan .f64 x = false) : (FloatKind.f64.format.order (x % 9223372036854775808) 9218868437227405311 == some .gt) = false := by
  cases hr : FloatKind.f64.format.read x with
  | nan s t => simp [isNan, hr, Ieee.Datum.isNaN] at hn
  | infinity s => rw [hr] at hi; simp [Ieee.Datum.isInfinity] at hi
  | number s m e =>
    obtain ⟨b1, b2, b3, b4, b5⟩ := bits64
    have h1 := read_mod hr
    rw [b4] at h1
    have n1 : isNan .f64 (x % 9223372036854775808) = false := by simp [isNan, h1, Ieee.Datum.isNaN]
    have n2 : isNan .f64 9218868437227405311 = false := by decide
    cases ho : (FloatKind.f64.format.order (x % 9223372036854775808) 9218868437227405311 == some .gt)
    · rfl
    · rw [order_gt n1 n2] at ho
      have hM : FloatKind.f64.format.read 9218868437227405311 = .number false 9007199254740991 971 := by decide
      have v1 : val .f64 9218868437227405311 = Ieee.signed false 9007199254740991 2045 := by simp only [val, hM]; rfl
      have v2 : val .f64 (x % 9223372036854775808) = Ieee.signed false m (e + 1074).toNat := by simp only [val, h1]; rfl
      generalize hZ : (2045 : Nat) = Z at v1
      rw [v1, v2, signed_eq, signed_eq] at ho
      simp only [Bool.false_eq_true, if_false] at ho
      obtain ⟨p1, p2⟩ := read64 hr
      exfalso
      have hle : m * 2 ^ (e + 1074).toNat ≤ 9007199254740991 * 2 ^ Z := by
        by_cases m0 : m = 0
        · subst m0; rw [Nat.zero_mul]; exact Nat.zero_le _
        · obtain ⟨q1, q2⟩ := p2 m0
          have hm : m ≤ 9007199254740991 := by
            have := @Nat.lt_log2_self m
            have h2 : 2 ^ (m.log2 + 1) ≤ 2 ^ 53 := Nat.pow_le_pow_right (by omega) (by omega)
            omega
          by_cases he : e ≤ 971
          · have hz : (e + 1074).toNat ≤ Z := by omega
            exact Nat.mul_le_mul hm (Nat.pow_le_pow_right (by omega) hz)
          · have h3 : m < 2 ^ (m.log2 + 1) := Nat.lt_log2_self
            have h4 : m * 2 ^ (e - 971).toNat < 2 ^ 53 := by
              calc m * 2 ^ (e - 971).toNat < 2 ^ (m.log2 + 1) * 2 ^ (e - 971).toNat := Nat.mul_lt_mul_of_pos_right h3 (Nat.two_pow_pos _)
                _ = 2 ^ (m.log2 + 1 + (e - 971).toNat) := by rw [← Nat.pow_add]
                _ ≤ 2 ^ 53 := Nat.pow_le_pow_right (by omega) (by omega)
            rw [show (e + 1074).toNat = (e - 971).toNat + Z by omega, Nat.pow_add, ← Nat.mul_assoc]
            exact Nat.mul_le_mul_right _ (by omega)
      have hle2 : ((m * 2 ^ (e + 1074).toNat : Nat) : Int) ≤ ((9007199254740991 * 2 ^ Z : Nat) : Int) := Int.ofNat_le.2 hle
      rw [Int.natCast_mul, Int.natCast_mul, Int.natCast_pow, Int.natCast_pow] at hle2
      exact absurd ho (Int.not_lt.2 hle2)
/-- A fresh pair, written. -/
theorem two_cells (w : World) (n : Nat) (old : Array Value) (u v : Value) (t : TypeId) : ∃ W, W = ((w.drewN n).alloc (.cells old t)).setRow w.heap.size #[u, v] ∧ Row W w.heap.size t #[u, v] ∧ True ∧ Below w.heap.size w W := by
  refine ⟨_, rfl, ?_, trivial, ?_⟩
  · exact (Row.new' _ _ _ (by simp)).setRow _
  · exact below_setRow ((below_drewN (Below.refl _ _) n).alloc (by simp) _) (by omega) _
def FloorRes (b r : Nat) : Prop := can .f64 r = can .f64 (integ .down b) ∧ fits .f64 r
theorem eq_fop {op : BinOp} {a b r : Nat} {C : Int} (h : can .f64 r = fop op .f64 a b) (hl : lt .f64 (fop op .f64 a b) C) : r = fop op .f64 a b := by
  refine (eq_of_can (k := .f64) ?_ hl.notNan).symm
  rw [h]; exact can_of_not hl.notNan
theorem frS_eq {x r s1 s2 fr : Nat} (hx : fin x = true) (hr : Hid (can .f64 r = fop .sub .f64 s1 fr)) (h1 : Hid (can .f64 s1 = can .f64 (widen x))) (hf : Hid (FloorRes s2 fr)) (h2 : Hid (can .f64 s2 = can .f64 (widen x))) : r = frS x := by
  have e : fop .sub .f64 s1 fr = frS x := fop_congr h1.out (by rw [hf.out.1, ← integ_can, h2.out, integ_can])
  have h := hr.out
  rw [e] at h
  exact eq_fop h (frS_le hx).1
theorem neg_yes {x r : Nat} (e : r = frS x) (h : (FloatKind.f64.format.order r 4602678819172646912 == some .gt) = true ∨ (FloatKind.f64.format.order r 4602678819172646912 == some .eq) = true) : negS x = true := by
  subst e; unfold negS; rw [Bool.or_eq_true]; exact h
theorem neg_no {x r : Nat} (e : r = frS x) (h : (FloatKind.f64.format.order r 4602678819172646912 == some .gt) = false ∧ (FloatKind.f64.format.order r 4602678819172646912 == some .eq) = false) : negS x = false := by
  subst e; unfold negS; rw [Bool.or_eq_false_iff]; exact h
theorem f1_neg {x r0 r1 : Nat} (hx : fin x = true) (e : r0 = frS x) (n : negS x = true) (h : Hid (can .f64 r1 = fop .sub .f64 r0 4602678819172646912)) : r1 = f1S x := by
  subst e
  have e : f1S x = fop .sub .f64 (frS x) 4602678819172646912 := if_pos n
  have hl := (f1S_le hx).1
  rw [e] at hl ⊢
  exact eq_fop h.out hl
theorem f1_pos {x r0 : Nat} (e : r0 = frS x) (n : negS x = false) : r0 = f1S x := by
  subst e; exact (if_neg (by rw [n]; simp)).symm
theorem f2_fold {x r0 r1 : Nat} (hx : fin x = true) (e : r0 = f1S x) (n : (FloatKind.f64.format.order r0 4598175219545276416 == some .gt) = true) (h : Hid (can .f64 r1 = fop .sub .f64 4602678819172646912 r0)) : r1 = f2S x := by
  subst e
  have e : f2S x = fop .sub .f64 4602678819172646912 (f1S x) := if_pos n
  have hl := (f2S_le hx).1
  rw [e] at hl ⊢
  exact eq_fop h.out hl
theorem f2_stay {x r0 : Nat} (e : r0 = f1S x) (n : (FloatKind.f64.format.order r0 4598175219545276416 == some .gt) = false) : r0 = f2S x := by
  subst e; exact (if_neg (by rw [n]; simp)).symm
theorem xS_eq {x r0 r : Nat} (hx : fin x = true) (e : r0 = f2S x) (h : Hid (can .f64 r = fop .mul .f64 4618760256179416344 r0)) : r = xS x := by
  subst e; exact eq_fop h.out (xS_lt hx)
theorem yS_eq {x r0 r : Nat} (hx : fin x = true) (e : r0 = xS x) (h : Hid (can .f64 r = fop .mul .f64 r0 r0)) : r = yS x := by
  subst e; exact eq_fop h.out (yS_lt hx)
theorem tS_eq {x q p t k : Nat} (hx : fin x = true) (hk : k < 8) (hq : Hid (can .f64 q = fop .quo .f64 (yS x) (denS k))) (hp : Hid (can .f64 p = fop .mul .f64 q (tS x k))) (ht : Hid (can .f64 t = fop .sub .f64 4607182418800017408 p)) : t = tS x (k + 1) := by
  have e1 := eq_fop hq.out (qS_lt hx hk)
  subst e1
  have h1 := tS_lt hx k (by omega)
  have e2 := eq_fop hp.out (fop_lt (lt_mul (qS_lt hx hk) h1 (fine64 (by omega) (by omega))))
  subst e2
  exact eq_fop ht.out (tS_lt hx (k + 1) (by omega))
theorem nar_s {x s : Nat} (hx : fin x = true) (h : Hid (can .f64 s = fop .mul .f64 (tS x 8) (xS x))) : narrowableX s := by
  have e : s = sS x := eq_fop h.out (sS_lt hx)
  rw [e]; exact ((sS_lt hx).mono (by omega)).narrowX
theorem nar_n {x s : Nat} (hx : fin x = true) (h : Hid (can .f64 s = fop .mul .f64 (tS x 8) (xS x))) : narrowableX (neg .f64 s) := by
  have e : s = sS x := eq_fop h.out (sS_lt hx)
  rw [e]; exact (lt_neg ((sS_lt hx).mono (by omega))).narrowX
theorem sine_pos {x s q : Nat} (hx : fin x = true) (n : negS x = false) (h : Hid (can .f64 s = fop .mul .f64 (tS x 8) (xS x))) (hq : Hid (can .f32 q = can .f32 (narrow s))) : can .f32 q = sineW x := by
  have e : s = sS x := eq_fop h.out (sS_lt hx)
  rw [hq.out, e, sineW, if_pos hx, sgS, if_neg (by rw [n]; simp)]
theorem sine_neg {x s q : Nat} (hx : fin x = true) (n : negS x = true) (h : Hid (can .f64 s = fop .mul .f64 (tS x 8) (xS x))) (hq : Hid (can .f32 q = can .f32 (narrow (neg .f64 s)))) : can .f32 q = sineW x := by
  have e : s = sS x := eq_fop h.out (sS_lt hx)
  rw [hq.out, e, sineW, if_pos hx, sgS, if_pos n]
theorem nanX {b : Nat} (h : isNan .f64 b = true) : narrowableX b := by
  intro s m e hr
  simp [isNan, hr, Ieee.Datum.isNaN] at h
theorem narrow_nan {b : Nat} (h : isNan .f64 b = true) : narrow b = qnan .f32 := by
  obtain ⟨s, t, hr⟩ := read_nan h
  simp only [narrow, hr]
/-- What a wide form of what is not finite is. -/
theorem not_fin {x r : Nat} (hx : fin x = false) (h : can .f64 r = can .f64 (widen x)) : isNan .f64 r = true ∨ (isNan .f64 r = false ∧ (FloatKind.f64.format.order (r % 9223372036854775808) 9218868437227405311 == some .gt) = true) := by
  cases hr : FloatKind.f32.format.read x with
  | nan s t =>
    left
    rw [isNan_of_can h]
    have : widen x = qnan .f64 := by simp only [widen, hr]
    rw [this]; exact isNan_qnan .f64
  | infinity s =>
    right
    have e : widen x = FloatKind.f64.encode (.infinity s) := by simp only [widen, hr]
    have hn : isNan .f64 (widen x) = false := by rw [e]; cases s <;> decide
    have e2 : r = widen x := (eq_of_can h.symm hn).symm
    rw [e2, hn, e]
    refine ⟨rfl, ?_⟩
    cases s <;> decide
  | number s m e => simp [fin, hr] at hx
theorem sS_eq {x s : Nat} (hx : fin x = true) (h : Hid (can .f64 s = fop .mul .f64 (tS x 8) (xS x))) : s = sS x := eq_fop h.out (sS_lt hx)
end Go.Fk
namespace Go.Proofs.Ytanjemoeologiaa
open Go.RowKit Go.Fk
theorem run_arch (b : Nat) (hb : fits .f64 b) (w : World) : ∃ r n, (callFunc 43 #[.float .f64 b]).run Try.prog w = .ok (.value (.float .f64 r)) (w.drewN n) ∧ FloorRes b r := by
  obtain ⟨r, n, h, h2⟩ := run_integral (P := Try.prog) "math.archFloor" .down w b hb
  refine ⟨r, n, ?_, h2⟩
  rw [run_callFunc_extern (e := Extern.MathFloor.toIntegral "math.archFloor" .down) Try.func43 (by kernel_rfl) (by kernel_rfl) (by kernel_rfl) (by kernel_rfl), h]; rfl
theorem arch_any (b : Nat) (hb : Hid (fits .f64 b)) : ∀ w, ∃ r n, (callFunc 43 #[.float .f64 b]).run Try.prog w = .ok (.value (.float .f64 r)) (w.drewN n) ∧ FloorRes b r := run_arch b hb
theorem floor_any (b : Nat) (w : World) (hb : Hid (fits .f64 b)) : Calls Try.prog 39 #[.float .f64 b] w fun e w' => ∃ r n, e = .returned (.float .f64 r) ∧ Hid (FloorRes b r) ∧ w' = w.drewN n := by
  go_enter Try.func39, Try.ntmps39
  go_wp2_with (refine wpList_extern rfl rfl rfl _ (arch_any _ (by assumption)) ?_; intro fr fn hfr)
  go_ret
  exact ⟨_, _, rfl, hfr, rfl⟩
theorem c_IsNaN (x : Nat) (w : World) : Calls Try.prog 48 #[.float .f64 x] w fun e w' => e = .returned (.bool (isNan .f64 x)) ∧ w = w' := by
  go_enter Try.func48, Try.ntmps48
  go_wp2
  go_ret
  exact ⟨rfl, rfl⟩
theorem c_IsInf (x : Nat) (w : World) (hx : fits .f64 x) (hi : (FloatKind.f64.format.read x).isInfinity = false) (hn : isNan .f64 x = false) : Calls Try.prog 49 #[.float .f64 x, .int .i64 0] w fun e w' => e = .returned (.bool false) ∧ w = w' := by
  have ho := notInf_order hi hn
  go_enter Try.func49, Try.ntmps49
  go_wp2_with (go_at_call 57; refine (abs64 _ _ hx).mono ?_; rintro e w' ⟨rfl, rfl⟩)
  go_ret
  exact ⟨rfl, rfl⟩
theorem c_IsInf_yes (x : Nat) (w : World) (hx : fits .f64 x) (ho : (FloatKind.f64.format.order (x % 9223372036854775808) 9218868437227405311 == some .gt) = true) : Calls Try.prog 49 #[.float .f64 x, .int .i64 0] w fun e w' => e = .returned (.bool true) ∧ w = w' := by
  go_enter Try.func49, Try.ntmps49
  go_wp2_with (go_at_call 57; refine (abs64 _ _ hx).mono ?_; rintro e w' ⟨rfl, rfl⟩)
  go_ret
  exact ⟨rfl, rfl⟩
end Go.Proofs.Ytanjemoeologiaa

/- 'math.Ldexp' of normal numbers. -/
namespace Go.Fk
open Go Go.RowKit
theorem of_canK {k : FloatKind} {a A : Nat} (h : can k a = A) (hn : isNan k A = false) : a = A :=
  (eq_of_can (h.trans (can_of_not hn).symm).symm hn).symm
theorem i64_and2047 (n : Int) : bits .and .i64 n 2047 = n % 2048 := by
  have h127 : (BitVec.ofInt 64 2047).toNat = 2 ^ 11 - 1 := by decide
  have key : (BitVec.ofInt 64 n &&& BitVec.ofInt 64 2047).toNat = (n % ((2 ^ 64 : Nat) : Int)).toNat % 2 ^ 11 := by
    rw [BitVec.toNat_and, BitVec.toNat_ofInt, h127, Nat.and_two_pow_sub_one_eq_mod]
  show IntKind.i64.wrap ((BitVec.ofInt 64 n &&& BitVec.ofInt 64 2047).toNat : Nat) = n % 2048
  rw [key, IntKind.wrap_i64]
  omega
theorem andNot_exp {x : Nat} (h : x < 9223372036854775808) : bits .andNot .u64 (x : Int) 9218868437227405312 = ((x % 4503599627370496 : Nat) : Int) := by
  have h1 := u64_andNot_nat x 9218868437227405312 (by omega) (by omega)
  rw [show ((9218868437227405312 : Nat) : Int) = 9218868437227405312 by rfl] at h1
  rw [h1, show 18446744073709551615 - 9218868437227405312 = 9227875636482146303 by decide]
  congr 1
  have h2 : x &&& 9227875636482146303 < 2 ^ 63 := Nat.lt_of_le_of_lt Nat.and_le_left (Nat.lt_of_lt_of_eq h (by decide))
  have h3 : (x &&& 9227875636482146303) % 2 ^ 63 = (x % 2 ^ 63) &&& (9227875636482146303 % 2 ^ 63) := Nat.and_mod_two_pow
  rw [Nat.mod_eq_of_lt h2, Nat.mod_eq_of_lt (Nat.lt_of_lt_of_eq h (by decide)), show 9227875636482146303 % 2 ^ 63 = 2 ^ 52 - 1 by decide, Nat.and_two_pow_sub_one_eq_mod] at h3
  rw [h3, p52]
theorem or_exp {G f : Nat} (hG : G ≤ 2047) (hf : f < 4503599627370496) : bits .or .u64 (f : Int) ((G : Int) * 4503599627370496) = (nrm G f : Int) := by
  have h1 := u64_or_nat f (G * 4503599627370496) (by omega) (by omega)
  rw [Int.natCast_mul] at h1
  rw [show ((4503599627370496 : Nat) : Int) = 4503599627370496 by rfl] at h1
  rw [h1]
  congr 1
  have h2 := Nat.two_pow_add_eq_or_of_lt (i := 52) (Nat.lt_of_lt_of_eq hf p52.symm) G
  rw [p52] at h2
  rw [Nat.or_comm, Nat.mul_comm G, ← h2]
  unfold nrm
  rw [Nat.mul_comm]
theorem nrm_mod {E f : Nat} (h2 : E ≤ 2046) (hf : f < 4503599627370496) : nrm E f % 9223372036854775808 = nrm E f := Nat.mod_eq_of_lt (nrm_lt h2 hf)
end Go.Fk
namespace Go.Fk
open Go Go.RowKit
theorem val_of {b m : Nat} {e : Int} (h : FloatKind.f64.format.read b = .number false m e) : val .f64 b = (m : Int) * 2 ^ (e + 1074).toNat := by
  have : val .f64 b = Ieee.signed false m (e + 1074).toNat := by simp only [val, h]; rfl
  rw [this, signed_eq]
  simp
theorem nrm_val {E f : Nat} (h1 : 1 ≤ E) (h2 : E ≤ 2046) (hf : f < 4503599627370496) : val .f64 (nrm E f) = ((4503599627370496 + f : Nat) : Int) * 2 ^ (E - 1) := by
  rw [val_of (nrm_read h1 h2 hf), show ((E : Int) - 1075 + 1074).toNat = E - 1 by omega]
theorem nrm_mono {E f E' f' : Nat} (h1 : 1 ≤ E) (hf : f < 4503599627370496) (h1' : 1 ≤ E') (hf' : f' < 4503599627370496) (h : nrm E f < nrm E' f') : (4503599627370496 + f) * 2 ^ (E - 1) < (4503599627370496 + f') * 2 ^ (E' - 1) := by
  unfold nrm at h
  by_cases c : E = E'
  · subst c
    exact Nat.mul_lt_mul_of_pos_right (by omega) (Nat.two_pow_pos _)
  · have hlt : E < E' := by omega
    calc (4503599627370496 + f) * 2 ^ (E - 1) < (2 * 4503599627370496) * 2 ^ (E - 1) := Nat.mul_lt_mul_of_pos_right (by omega) (Nat.two_pow_pos _)
      _ = 4503599627370496 * 2 ^ (E - 1 + 1) := by rw [Nat.pow_succ, Nat.mul_comm 2, Nat.mul_assoc, Nat.mul_comm 2]
      _ ≤ 4503599627370496 * 2 ^ (E' - 1) := Nat.mul_le_mul_left _ (Nat.pow_le_pow_right (by omega) (by omega))
      _ ≤ (4503599627370496 + f') * 2 ^ (E' - 1) := Nat.mul_le_mul_right _ (by omega)
theorem nrm_order {E f E' f' : Nat} (h1 : 1 ≤ E) (h2 : E ≤ 2046) (hf : f < 4503599627370496) (h1' : 1 ≤ E') (h2' : E' ≤ 2046) (hf' : f' < 4503599627370496) : FloatKind.f64.format.order (nrm E f) (nrm E' f') = some (compare (nrm E f) (nrm E' f')) := by
  rw [order_val (nrm_nan h1 h2 hf) (nrm_nan h1' h2' hf'), nrm_val h1 h2 hf, nrm_val h1' h2' hf']
  have c1 : ((2 : Int) ^ (E - 1)) = ((2 ^ (E - 1) : Nat) : Int) := by rw [Int.natCast_pow]; rfl
  have c2 : ((2 : Int) ^ (E' - 1)) = ((2 ^ (E' - 1) : Nat) : Int) := by rw [Int.natCast_pow]; rfl
  rw [c1, c2, ← Int.natCast_mul, ← Int.natCast_mul]
  congr 1
  rcases Nat.lt_trichotomy (nrm E f) (nrm E' f') with c | c | c
  · rw [Nat.compare_eq_lt.2 c]
    exact Int.compare_eq_lt.2 (Int.ofNat_lt.2 (nrm_mono h1 hf h1' hf' c))
  · have e : E = E' ∧ f = f' := by unfold nrm at c; omega
    obtain ⟨rfl, rfl⟩ := e
    rw [Nat.compare_eq_eq.2 rfl]
    exact Int.compare_eq_eq.2 rfl
  · rw [Nat.compare_eq_gt.2 c]
    exact Int.compare_eq_gt.2 (Int.ofNat_lt.2 (nrm_mono h1' hf' h1 hf c))
theorem nrm_ne0 {E f : Nat} (h1 : 1 ≤ E) (h2 : E ≤ 2046) (hf : f < 4503599627370496) : (FloatKind.f64.format.order (nrm E f) 0 == some .eq) = false := by
  rw [order_val (nrm_nan h1 h2 hf) (by decide), nrm_val h1 h2 hf, show val .f64 0 = 0 by decide +kernel]
  have hp : (0 : Int) < ((4503599627370496 + f : Nat) : Int) * 2 ^ (E - 1) := Int.mul_pos (by omega) (Int.pow_pos (by omega))
  rw [Int.compare_eq_gt.2 hp]
  rfl
theorem nrm_max {E f : Nat} (h1 : 1 ≤ E) (h2 : E ≤ 2046) (hf : f < 4503599627370496) : (FloatKind.f64.format.order (nrm E f) 9218868437227405311 == some .gt) = false := by
  have h := nrm_order (E' := 2046) (f' := 4503599627370495) h1 h2 hf (by omega) (by omega) (by omega)
  rw [show nrm 2046 4503599627370495 = 9218868437227405311 by decide] at h
  rw [h]
  have hle : nrm E f ≤ 9218868437227405311 := by unfold nrm; omega
  rcases Nat.lt_or_ge (nrm E f) 9218868437227405311 with c | c
  · rw [Nat.compare_eq_lt.2 c]; rfl
  · rw [Nat.compare_eq_eq.2 (Nat.le_antisymm hle c)]; rfl
theorem nrm_min {E f : Nat} (h1 : 1 ≤ E) (h2 : E ≤ 2046) (hf : f < 4503599627370496) : (FloatKind.f64.format.order (nrm E f) 4503599627370496 == some .lt) = false := by
  have h := nrm_order (E' := 1) (f' := 0) h1 h2 hf (by omega) (by omega) (by omega)
  rw [show nrm 1 0 = 4503599627370496 by decide] at h
  rw [h]
  have hle : 4503599627370496 ≤ nrm E f := by unfold nrm; omega
  rcases Nat.lt_or_ge 4503599627370496 (nrm E f) with c | c
  · rw [Nat.compare_eq_gt.2 c]; rfl
  · rw [Nat.compare_eq_eq.2 (Nat.le_antisymm c hle)]; rfl
end Go.Fk
namespace Go.Proofs.Ytanjemoeologiaa
open Go.RowKit Go.Fk
theorem c_normalize (x : Nat) (w : World) (hx : fits .f64 x) (h : (FloatKind.f64.format.order (x % 9223372036854775808) 4503599627370496 == some .lt) = false) : Calls Try.prog 51 #[.float .f64 x] w fun e w' => e = .returned (.tuple #[.float .f64 x, .int .i64 0]) ∧ w = w' := by
  have HA := hid (fun w' => abs64 x w' hx)
  clear hx
  go_enter Try.func51, Try.ntmps51
  go_wp2_with (go_at_call 57; ((with_reducible refine (HA.out _).mono ?_); rintro e w1 ⟨rfl, rfl⟩))
  go_ret2
  exact ⟨rfl, rfl⟩
theorem c_IsInf0 (x : Nat) (w : World) (hx : fits .f64 x) (h : (FloatKind.f64.format.order (x % 9223372036854775808) 9218868437227405311 == some .gt) = false) : Calls Try.prog 49 #[.float .f64 x, .int .i64 0] w fun e w' => e = .returned (.bool false) ∧ w = w' := by
  have HA := hid (fun w' => abs64 x w' hx)
  clear hx
  go_enter Try.func49, Try.ntmps49
  go_wp2_with (go_at_call 57; ((with_reducible refine (HA.out _).mono ?_); rintro e w1 ⟨rfl, rfl⟩))
  go_ret
  exact ⟨rfl, rfl⟩
set_option maxRecDepth 100000 in
set_option maxHeartbeats 2000000 in
theorem c_ldexp (E f G : Nat) (w : World) (h1 : 1 ≤ E) (h2 : E ≤ 2046) (hf : f < 4503599627370496) (k1 : 1 ≤ G) (k2 : G ≤ 2046) :
    Calls Try.prog 46 #[.float .f64 (nrm E f), .int .i64 ((G : Int) - E)] w fun e w' => e = .returned (.float .f64 (nrm G f)) ∧ le w w' := by
  have hw := nrm_fits h2 hf
  have hn := nrm_nan h1 h2 hf
  have hm := nrm_mod h2 hf
  have hv := nrm_val h1 h2 hf
  have HI : Hid (∀ w', Calls Try.prog 49 #[.float .f64 (nrm E f), .int .i64 0] w' fun e w'' => e = .returned (.bool false) ∧ w' = w'') := fun w' => c_IsInf0 (nrm E f) w' hw (by rw [hm]; exact nrm_max h1 h2 hf)
  have HN : Hid (∀ w', Calls Try.prog 51 #[.float .f64 (nrm E f)] w' fun e w'' => e = .returned (.tuple #[.float .f64 (nrm E f), .int .i64 0]) ∧ w' = w'') := fun w' => c_normalize (nrm E f) w' hw (by rw [hm]; exact nrm_min h1 h2 hf)
  have HQ := hid (fun w' => c_IsNaN (nrm E f) w')
  rw [hn] at HQ
  have h0 := nrm_ne0 h1 h2 hf
  have g1 : (nrm E f : Int) / 4503599627370496 = (E : Int) := by unfold nrm; omega
  have g2 : wrap64 (E : Int) = (E : Int) := IntWalk.wrap64_in _ (by omega)
  have g3 : bits .and .i64 (E : Int) 2047 = (E : Int) := by rw [i64_and2047]; omega
  have g4 : wrap64 ((E : Int) - 1023) = (E : Int) - 1023 := IntWalk.wrap64_in _ (by omega)
  have g5 : wrap64 ((G : Int) - E + ((E : Int) - 1023)) = (G : Int) - 1023 := by rw [IntWalk.wrap64_in _ (by omega)]; omega
  have d1 : decide ((G : Int) - 1023 < -1075) = false := decide_eq_false (by omega)
  have d2 : decide ((1023 : Int) < (G : Int) - 1023) = false := decide_eq_false (by omega)
  have d3 : decide ((G : Int) - 1023 < -1022) = false := decide_eq_false (by omega)
  have g6 : bits .andNot .u64 (nrm E f : Int) 9218868437227405312 = (f : Int) := by
    rw [andNot_exp (nrm_lt h2 hf)]
    congr 1
    unfold nrm; omega
  have g7 := or_exp (show G ≤ 2047 by omega) hf
  have HF := hid (nrm_mul (E := G) (G := 1023) k1 k2 hf (by omega) (by omega) (by omega) (by omega)).2
  have HG := hid (nrm_nan k1 k2 hf)
  have G7 : Hid ((bits .or .u64 (f : Int) (((G : Int) - E + ((E : Int) - 1023) + 1023) * 4503599627370496)).toNat = nrm G f) := by
    show Int.toNat _ = _
    rw [show (G : Int) - E + ((E : Int) - 1023) + 1023 = G by omega, g7, Int.toNat_natCast]
  clear g7
  clear hw hn hm hv
  go_enter Try.func46, Try.ntmps46
  go_wp2_with (first | (go_at_call 49; ((with_reducible refine (HI.out _).mono ?_); rintro e w1 ⟨rfl, rfl⟩)) | (go_at_call 48; ((with_reducible refine (HQ.out _).mono ?_); rintro e w1 ⟨rfl, rfl⟩)) | (go_at_call 51; ((with_reducible refine (HN.out _).mono ?_); rintro e w1 ⟨rfl, rfl⟩)) | (with_reducible refine wpList_farith rfl rfl rfl rfl rfl ?_; intro r n hr hrf))
  go_ret
  refine ⟨ret_f ?_, le_drewN _ _⟩
  have h := hr.out
  rw [G7.out, one_nrm, HF.out, show G + 1023 - 1023 = G by omega] at h
  exact of_canK h HG.out
theorem c_Ldexp (E f G : Nat) (w : World) (h1 : 1 ≤ E) (h2 : E ≤ 2046) (hf : f < 4503599627370496) (k1 : 1 ≤ G) (k2 : G ≤ 2046) :
    Calls Try.prog 40 #[.float .f64 (nrm E f), .int .i64 ((G : Int) - E)] w fun e w' => e = .returned (.float .f64 (nrm G f)) ∧ le w w' := by
  have HL := hid (fun w' => c_ldexp E f G w' h1 h2 hf k1 k2)
  clear h1 h2 hf k1 k2
  go_enter Try.func40, Try.ntmps40
  go_wp2_with (go_at_call 46; ((with_reducible refine (HL.out _).mono ?_); rintro e w1 ⟨rfl, hl⟩))
  go_ret
  exact ⟨rfl, by assumption⟩
end Go.Proofs.Ytanjemoeologiaa

/- Tables of 257 floats: 'laws.toTable', 'laws.eqTable'. -/
namespace Go.Proofs.Ytanjemoeologiaa
open Go.RowKit Go.Fk
end Go.Proofs.Ytanjemoeologiaa

/- (first part) 'TableAt' of both. -/
namespace Go.Fk
open Go Go.RowKit
def geB (x : Nat) : Bool := FloatKind.f32.format.order x 0 == some .gt || FloatKind.f32.format.order x 0 == some .eq
def leB (x : Nat) : Bool := FloatKind.f32.format.order x 1065353216 == some .lt || FloatKind.f32.format.order x 1065353216 == some .eq
/-- Between two values of a table. -/
def betwW (t : Nat → Nat) (x k : Nat) : Nat := fop .add .f32 (t k) (fop .mul .f32 (fop .sub .f32 (placeW x) (floatOfInt .f32 (k : Int))) (fop .sub .f32 (t (k + 1)) (t k)))
def atW (t : Nat → Nat) (x : Nat) : Nat := if inUnit x = true then (if indexW x = 256 then can .f32 (t 256) else betwW t x (indexW x)) else 0
def atC (x : Nat) : Int := if inUnit x = true then 0 else 2
theorem betw_ofT {t : Nat → Nat} {x k p d r1 r2 r : Nat} (hx : inUnit x = true) (hX : indexW x = k) (hN : ¬k = 256) (hp : can .f32 p = placeW x) (hd : can .f32 d = fop .sub .f32 p (floatOfInt .f32 (k : Int)))
    (h1 : can .f32 r1 = fop .sub .f32 (t (k + 1)) (t k)) (h2 : can .f32 r2 = fop .mul .f32 d r1) (h3 : can .f32 r = fop .add .f32 (t k) r2) : can .f32 r = atW t x := by
  unfold atW
  rw [if_pos hx, hX, if_neg hN]
  unfold betwW
  rw [h3, ← fop_can_r .add .f32 (t k) r2, h2, ← fop_can_l .mul .f32 d, hd, ← fop_can_r .mul .f32 _ r1, h1, ← fop_can_l .sub .f32 p, hp]
theorem indexW_lt {x : Nat} (hx : inUnit x = true) (h256 : ¬indexW x = 256) : indexW x < 256 := by
  unfold indexW at *
  obtain ⟨_, h0, h1⟩ := inUnit_val hx
  have hU := one32_pos
  have h : (val .f32 x * 256).tdiv one32 ≤ (256 * one32).tdiv one32 := Int.tdiv_le_tdiv hU (by omega)
  rw [Int.mul_tdiv_cancel _ (by omega)] at h
  omega
def OutTa (t : Nat → Nat) (x : Nat) (w : World) (e : Ending) (w' : World) : Prop := ∃ r, e = .returned (.tuple #[.float .f32 r, .int .i64 (atC x)]) ∧ can .f32 r = atW t x ∧ le w w'
section
variable {P : Program} {w : World} {ops : Array Oper} {rest : List Oper} {o : Oper} {a : Act} {Q : Exit → Act → World → Prop}
theorem wpList_toInt (hg : o.guard = none) {src dst : TypeId} {x : Operand} (hop : o.op = Op.convert src dst x) {b : Nat} (hx : a.eval x = .float .f32 b) {v : Value}
    (hr : ∀ w, (convert src dst (.float .f32 b)).run P w = .ok v w) (hK : wpList P ops Q rest (a.put o.dst v) w) : wpList P ops Q (o :: rest) a w := by
  refine wpList_plain hg fun K hK' => ?_
  unfold Oper.wp
  simp [execOp, hop, hx, hr w, Result.andThen]
  exact hK' _ _ hK
end
section
variable {P : Program} {ops : Array Oper} {w : World} {K : FuncId → Array Value → Value → Prop} {Q : Act → Prop} {o : Oper} {rest : List Oper} {a : Act}
theorem wpLoose_nil' (hg : o.guard = none) {x : Operand} (hop : o.op = Op.nilCheck x) {ad : Addr} (hx : a.eval x = .pointer (some ad))
    (hK : wpLoose P ops (fun w' => ∃ m, w' = w.drewN m) K Q rest (a.put o.dst (.pointer (some ad)))) : wpLoose P ops (fun w' => ∃ m, w' = w.drewN m) K Q (o :: rest) a := by
  refine wpLoose_any hg (· = .pointer (some ad)) (fun n => ?_) (by rintro v rfl; exact hK)
  simp [execOp, hop, hx, within, Result.andThen]
  exact ⟨_, rfl⟩
end
end Go.Fk
namespace Go.Proofs.Ytanjemoeologiaa
open Go.RowKit Go.Fk
theorem toInt_run {x p k : Nat} (hx : inUnit x = true) (hk : Hid (indexW x = k)) (hp : Hid (can .f32 p = placeW x)) : ∀ w, (convert 22 2 (.float .f32 p)).run Try.prog w = .ok (.int .i64 (k : Int)) w := by
  intro w
  have h := (place_int hx hp.out).2.1
  rw [hk.out] at h
  exact run_convert_float_int (P := Try.prog) w _ _ .f32 .i64 _ _ (by rw [Try.underlying22]; rfl) Try.underlying2 h
theorem toInt_run' {x p k : Nat} (hx : inUnit x = true) (hk : Hid (indexW x = k)) (hp : Hid (can .f32 p = placeW x)) : ∀ w, (convert 22 3 (.float .f32 p)).run Try.prog w = .ok (.int .i64 (k : Int)) w := by
  intro w
  have h := (place_int hx hp.out).2.1
  rw [hk.out] at h
  exact run_convert_float_int (P := Try.prog) w _ _ .f32 .i64 _ _ (by rw [Try.underlying22]; rfl) Try.underlying3 h
end Go.Proofs.Ytanjemoeologiaa

/- 'TwoTo' of both. -/
namespace Go.Fk
open Go Go.RowKit
/-- A power that is asked, or 0. -/
def okTw (x : Nat) : Bool := withinB x 3270508544 1123024896
def twV (x : Nat) : Nat := if okTw x then pwV x else 0
theorem withinB_congr {x y a b : Nat} (h : can .f32 x = can .f32 y) : withinB x a b = withinB y a b := by unfold withinB; rw [order_congr h rfl, order_congr h rfl]
theorem okTw_congr {x y : Nat} (h : can .f32 x = can .f32 y) : okTw x = okTw y := withinB_congr h
theorem twV_congr {x y : Nat} (h : can .f32 x = can .f32 y) : twV x = twV y := by unfold twV; rw [okTw_congr h, (pw_congr h).2.2]
theorem integ_congr {way : Ieee.Toward} {a b : Nat} (h : can .f64 a = can .f64 b) : integ way a = integ way b := by rw [← integ_can way a, h, integ_can]
theorem pwY_of {x s1 s2 fr d y : Nat} (h1 : can .f64 s1 = can .f64 (widen x)) (hf : can .f64 fr = can .f64 (integ .down s1)) (h2 : can .f64 s2 = can .f64 (widen x)) (hd : can .f64 d = fop .sub .f64 s2 fr) (hy : can .f64 y = fop .mul .f64 d 4604418534313441775) : can .f64 y = can .f64 (pwY x) := by
  rw [hy]
  unfold pwY pwD
  rw [can_fop]
  refine fop_congr (hd.trans ?_) rfl
  rw [can_fop]
  exact fop_congr h2 (by rw [hf, integ_congr h1])
theorem pwK_of {x s1 fr : Nat} (h : okTw x = true) (h1 : can .f64 s1 = can .f64 (widen x)) (hf : can .f64 fr = can .f64 (integ .down s1)) : floatToIntVal .f64 fr .i64 = some (pwQ x) := by
  obtain ⟨_, _, _, hn, hi⟩ := pw_ok h
  rw [integ_congr h1] at hf
  rw [(eq_of_can hf.symm hn).symm]
  exact hi
theorem pwS_of {y y' : Nat} (h : can .f64 y = can .f64 y') {j : Nat} {s q p r : Nat} (hs : can .f64 s = can .f64 (pwS y' j)) (hq : can .f64 q = fop .quo .f64 y (floatOfInt .f64 (14 - (j : Int)))) (hp : can .f64 p = fop .mul .f64 q s) (hr : can .f64 r = fop .add .f64 4607182418800017408 p) : can .f64 r = can .f64 (pwS y' (j + 1)) := by
  rw [hr]
  show _ = can .f64 (fop .add .f64 4607182418800017408 (fop .mul .f64 (fop .quo .f64 y' (floatOfInt .f64 (14 - (j : Int)))) (pwS y' j)))
  rw [can_fop]
  refine fop_congr rfl (hp.trans ?_)
  rw [can_fop]
  refine fop_congr (hq.trans ?_) hs
  rw [can_fop]
  exact fop_congr h rfl
theorem wpList_toIntD {P : Program} {w : World} {ops : Array Oper} {rest : List Oper} {o : Oper} {a : Act} {Q : Exit → Act → World → Prop} (hg : o.guard = none) {src dst : TypeId} {x : Operand} (hop : o.op = Op.convert src dst x) {b : Nat} (hx : a.eval x = .float .f64 b) {v : Value}
    (hr : ∀ w, (convert src dst (.float .f64 b)).run P w = .ok v w) (hK : wpList P ops Q rest (a.put o.dst v) w) : wpList P ops Q (o :: rest) a w := by
  refine wpList_plain hg fun K hK' => ?_
  unfold Oper.wp
  simp [execOp, hop, hx, hr, Result.andThen]
  exact hK' _ _ hK
end Go.Fk
namespace Go.Proofs.Ytanjemoeologiaa
open Go.RowKit Go.Fk
set_option maxRecDepth 100000 in
set_option maxHeartbeats 2000000 in
theorem s_l07PowerP (K : Nat) (w : World) (h2 : K ≤ 1000) : Calls Try.prog 42 #[.int .i64 (K : Int)] w fun e w' => e = .returned (.float .f64 (nrm (1023 + K) 0)) ∧ le w w' := by
  go_enter Try.func42, Try.ntmps42
  go_wp2
  go_loopw [0, 3] (fun i p wr => ∃ j : Nat, j ≤ K ∧ i = .int .i64 ((K : Int) - j) ∧ p = .float .f64 (nrm (1023 + j) 0) ∧ Hid (le w wr)) (fun i _ _ => (intOf i).toNat)
  case atStart => exact ⟨0, by omega, by simp, congrArg (Value.float .f64) one_nrm, le_refl _⟩
  case round =>
    obtain ⟨j, hj, rfl, rfl, hl⟩ := hrel
    by_cases hlt : j < K
    · have HM := hid (nrm_mul (E := 1023 + j) (f := 0) (G := 1024) (by omega) (by omega) (by omega) (by omega) (by omega) (by omega) (by omega)).1
      have HN := hid (nrm_nan (E := 1023 + (j + 1)) (f := 0) (by omega) (by omega) (by omega))
      go_wp2_with (first | (with_reducible refine wpList_farith rfl rfl rfl rfl rfl ?_; intro r n hr hrf))
      go_roundw
      case rel =>
        refine ⟨j + 1, by omega, by rw [show (K : Int) - j - 1 = (K : Int) - ((j + 1 : Nat) : Int) by omega], ?_, le_trans hl (le_drewN _ _)⟩
        have h := hr.out
        rw [show (4611686018427387904 : Nat) = nrm 1024 0 by decide, HM.out, show 1023 + j + 1024 - 1023 = 1023 + (j + 1) by omega] at h
        rw [of_canK h HN.out]
      case measure => simp [intOf]; omega
    · obtain rfl : j = K := by omega
      have hz : (j : Int) - j = 0 := by omega
      rw [hz]
      go_wp2
      go_loopw [0, 3] (fun i p wr => i = .int .i64 0 ∧ p = .float .f64 (nrm (1023 + j) 0) ∧ Hid (le w wr)) (fun i _ _ => 0)
      case atStart => exact ⟨rfl, rfl, hl⟩
      case round =>
        obtain ⟨rfl, rfl, hl⟩ := hrel
        go_wp2
        go_ret
        exact ⟨rfl, hl⟩
set_option maxRecDepth 100000 in
set_option maxHeartbeats 2000000 in
theorem s_l07PowerN (K : Nat) (w : World) (h2 : K ≤ 1000) : Calls Try.prog 42 #[.int .i64 (-(K : Int))] w fun e w' => e = .returned (.float .f64 (nrm (1023 - K) 0)) ∧ le w w' := by
  go_enter Try.func42, Try.ntmps42
  go_wp2
  go_loopw [0, 3] (fun i p wr => i = .int .i64 (-(K : Int)) ∧ p = .float .f64 (nrm 1023 0) ∧ Hid (le w wr)) (fun i _ _ => 0)
  case atStart => exact ⟨rfl, congrArg (Value.float .f64) one_nrm, le_refl _⟩
  case round =>
    obtain ⟨rfl, rfl, hl⟩ := hrel
    go_wp2
    go_loopw [0, 3] (fun i p wr => ∃ j : Nat, j ≤ K ∧ i = .int .i64 (-((K : Int) - j)) ∧ p = .float .f64 (nrm (1023 - j) 0) ∧ Hid (le w wr)) (fun i _ _ => (-(intOf i)).toNat)
    case atStart => exact ⟨0, by omega, by simp, rfl, hl⟩
    case round =>
      obtain ⟨j, hj, rfl, rfl, hl⟩ := hrel
      by_cases hlt : j < K
      · have HM := hid (nrm_half (E := 1023 - j) (f := 0) (by omega) (by omega) (by omega))
        have HN := hid (nrm_nan (E := 1023 - (j + 1)) (f := 0) (by omega) (by omega) (by omega))
        go_wp2_with (first | (with_reducible refine wpList_farith rfl rfl rfl rfl rfl ?_; intro r n hr hrf))
        go_roundw
        case rel =>
          refine ⟨j + 1, by omega, by rw [show -((K : Int) - j) + 1 = -((K : Int) - ((j + 1 : Nat) : Int)) by omega], ?_, le_trans hl (le_drewN _ _)⟩
          have h := hr.out
          rw [HM.out, show 1023 - j - 1 = 1023 - (j + 1) by omega] at h
          rw [of_canK h HN.out]
        case measure => simp [intOf]; omega
      · obtain rfl : j = K := by omega
        have hz : -((j : Int) - j) = 0 := by omega
        rw [hz]
        go_wp2
        go_ret
        exact ⟨rfl, hl⟩
theorem s_l07Power (k : Int) (w : World) (h1 : -1000 ≤ k) (h2 : k ≤ 1000) : Calls Try.prog 42 #[.int .i64 k] w fun e w' => e = .returned (.float .f64 (nrm (1023 + k).toNat 0)) ∧ le w w' := by
  by_cases h : k < 0
  · obtain ⟨K, rfl⟩ : ∃ K : Nat, k = -(K : Int) := ⟨(-k).toNat, by omega⟩
    rw [show (1023 + -(K : Int)).toNat = 1023 - K by omega]
    exact s_l07PowerN K w (by omega)
  · obtain ⟨K, rfl⟩ : ∃ K : Nat, k = (K : Int) := ⟨k.toNat, by omega⟩
    rw [show (1023 + (K : Int)).toNat = 1023 + K by omega]
    exact s_l07PowerP K w (by omega)
theorem toI64Z {d : Nat} {k : Int} (h : floatToIntVal .f64 d .i64 = some k) : ∀ w, (convert 32 2 (.float .f64 d)).run Try.prog w = .ok (.int .i64 k) w := by
  intro w
  exact run_convert_float_int (P := Try.prog) w _ _ .f64 .i64 _ _ (by rw [Try.underlying32]; rfl) Try.underlying2 h
theorem toIntZ {d : Nat} {k : Int} (h : floatToIntVal .f64 d .i64 = some k) : ∀ w, (convert 32 3 (.float .f64 d)).run Try.prog w = .ok (.int .i64 k) w := by
  intro w
  exact run_convert_float_int (P := Try.prog) w _ _ .f64 .i64 _ _ (by rw [Try.underlying32]; rfl) Try.underlying3 h
set_option maxRecDepth 100000 in
set_option maxHeartbeats 4000000 in
theorem s_l07Two_no (x : Nat) (w : World) (h : okTw x = false) : Calls Try.prog 38 #[.float .f32 x] w fun e w' => e = .returned (.tuple #[.float .f32 0, .bool false]) ∧ le w w' := by
  unfold okTw withinB at h
  cases e1 : (FloatKind.f32.format.order x 3270508544 == some .gt || FloatKind.f32.format.order x 3270508544 == some .eq)
  · clear h
    go_enter Try.func38, Try.ntmps38
    go_wp2
    go_ret2
    exact ⟨rfl, le_refl _⟩
  · rw [e1, Bool.true_and] at h
    go_enter Try.func38, Try.ntmps38
    go_wp2
    go_ret2
    exact ⟨rfl, le_refl _⟩
set_option maxRecDepth 100000 in
set_option maxHeartbeats 4000000 in
theorem s_l07Two (x : Nat) (w : World) (h : okTw x = true) : Calls Try.prog 38 #[.float .f32 x] w fun e w' => ∃ r, e = .returned (.tuple #[.float .f32 r, .bool true]) ∧ can .f32 r = pwV x ∧ le w w' := by
  have HX := hid h
  obtain ⟨⟨E, f, hS, hf, hE1, hE2⟩, q1, q2, _, _⟩ := pw_ok h
  unfold okTw withinB at h
  rw [Bool.and_eq_true] at h
  obtain ⟨e1, e2⟩ := h
  have HS := hid hS
  have HM := hid (nrm_mul (E := E) (f := f) (G := (1023 + pwQ x).toNat) (by omega) (by omega) hf (by omega) (by omega) (by omega) (by omega)).1
  have HN := hid (nrm_nan (E := (E + pwQ x).toNat) (f := f) (by omega) (by omega) hf)
  have HR := hid (nrm_narrowable (E := (E + pwQ x).toNat) (f := f) (by omega) (by omega) hf)
  have HV := hid (pwV_eq hS (by omega))
  have HE := hid (nrm_nan (E := E) (f := f) (by omega) (by omega) hf)
  have HG : Hid (E + (1023 + pwQ x).toNat - 1023 = (E + pwQ x).toNat) := by show E + (1023 + pwQ x).toNat - 1023 = (E + pwQ x).toNat; omega
  have HP := hid (fun w' => s_l07Power (pwQ x) w' (by omega) (by omega))
  clear hS
  go_enter Try.func38, Try.ntmps38
  go_wp2_with (first | (with_reducible refine wpList_widen rfl rfl rfl Try.underlying22 Try.underlying32 ?_; intro s1 ns1 es1 fs1) | (go_at_call 39; refine (floor_any _ _ (by assumption)).mono ?_; rintro e w' ⟨fr, fn, rfl, hfr, rfl⟩) | (with_reducible refine wpList_farith (op := .sub) rfl rfl rfl rfl rfl ?_; intro d nd ed fd) | (with_reducible refine wpList_farith (op := .mul) rfl rfl rfl rfl rfl ?_; intro y ny ey fy))
  have HY := hid (pwY_of (Hid.out (by assumption)) hfr.out.1 (Hid.out (by assumption)) ed.out ey.out)
  have HK := hid (toI64Z (pwK_of HX.out (Hid.out (by assumption)) hfr.out.1))
  go_loopw [6, 7] (fun sv i wr => ∃ (j : Nat) (s : Nat), j ≤ 14 ∧ i = .int .i64 (14 - (j : Int)) ∧ sv = .float .f64 s ∧ Hid (can .f64 s = can .f64 (pwS (pwY x) j)) ∧ Hid (le w wr)) (fun _ i _ => (intOf i).toNat)
  case atStart => exact ⟨0, _, by omega, rfl, rfl, rfl, le_drewN _ _⟩
  case round =>
    obtain ⟨j, s, hj, rfl, rfl, HSj, hl⟩ := hrel
    by_cases hlt : j < 14
    · go_wp2_with (first | (with_reducible refine wpList_farith (op := .quo) rfl rfl rfl rfl rfl ?_; intro q nq eq fq) | (with_reducible refine wpList_farith (op := .mul) rfl rfl rfl rfl rfl ?_; intro p np ep fp) | (with_reducible refine wpList_farith (op := .add) rfl rfl rfl rfl rfl ?_; intro r nr er fr2))
      go_roundw
      case rel => exact ⟨j + 1, r, by omega, by rw [show (14 : Int) - j - 1 = 14 - ((j + 1 : Nat) : Int) by omega], rfl, pwS_of HY.out HSj.out eq.out ep.out er.out, le_trans hl (le_drewN _ _)⟩
      case measure => simp [intOf]; omega
    · obtain rfl : j = 14 := by omega
      rw [HS.out, can_of_not HE.out] at HSj
      obtain rfl : s = nrm E f := of_canK HSj.out HE.out
      go_wp2_with (first | (with_reducible refine wpList_toIntD rfl rfl rfl HK.out ?_) | (go_at_call 42; ((with_reducible refine (HP.out _).mono ?_); rintro e w1 ⟨rfl, hl2⟩)) | (with_reducible refine wpList_farith (op := .mul) rfl rfl rfl rfl rfl ?_; intro p np ep fp; have hpz := of_canK (ep.out.trans HM.out) (by rw [HG.out]; exact HN.out); rw [HG.out] at hpz; subst hpz) | ((with_reducible refine wpList_narrow rfl rfl rfl Try.underlying32 Try.underlying22 (by exact HR.out) ?_); intro q nq hq fq))
      go_ret2
      exact ⟨_, rfl, hq.out.trans HV.out.symm, le_trans hl (le_trans (by assumption) (le_drewN _ _))⟩
set_option maxRecDepth 100000 in
set_option maxHeartbeats 4000000 in
theorem i_TwoTo (x : Nat) (w : World) : Calls Try.prog 34 #[.float .f32 x] w (Out_fi (twV x) (if okTw x then 0 else 2) w) := by
  unfold twV
  have HW := hid (fun w' => i_isWithin x 3270508544 1123024896 w')
  cases h : okTw x
  · have h' : withinB x 3270508544 1123024896 = false := h
    rw [h'] at HW
    clear h h'
    go_enter Try.func34, Try.ntmps34
    go_wp2_with (go_at_call 26; ((with_reducible refine (HW.out _).mono ?_); rintro e w1 ⟨rfl, rfl⟩))
    go_ret2
    exact ⟨_, rfl, by decide, le_refl _⟩
  · have h' : withinB x 3270508544 1123024896 = true := h
    rw [h'] at HW
    clear h'
    have HX := hid h
    obtain ⟨⟨E, f, hS, hf, hE1, hE2⟩, q1, q2, _, _⟩ := pw_ok h
    clear h
    have HS := hid hS
    have HN := hid (nrm_nan (E := (E + pwQ x).toNat) (f := f) (by omega) (by omega) hf)
    have HR := hid (nrm_narrowable (E := (E + pwQ x).toNat) (f := f) (by omega) (by omega) hf)
    have HV := hid (pwV_eq hS (by omega))
    have HE := hid (nrm_nan (E := E) (f := f) (by omega) (by omega) hf)
    have HP := c_Ldexp E f (E + pwQ x).toNat
    rw [show (((E + pwQ x).toNat : Nat) : Int) - E = pwQ x by omega] at HP
    have HL := hid (fun w' => HP w' (by omega) (by omega) hf (by omega) (by omega))
    clear hS HP
    go_enter Try.func34, Try.ntmps34
    go_wp2_with (first | (go_at_call 26; ((with_reducible refine (HW.out _).mono ?_); rintro e w1 ⟨rfl, rfl⟩)) | (with_reducible refine wpList_widen rfl rfl rfl Try.underlying22 Try.underlying32 ?_; intro s1 ns1 es1 fs1) | (go_at_call 39; refine (floor_any _ _ (by assumption)).mono ?_; rintro e w' ⟨fr, fn, rfl, hfr, rfl⟩) | (with_reducible refine wpList_farith (op := .sub) rfl rfl rfl rfl rfl ?_; intro d nd ed fd) | (with_reducible refine wpList_farith (op := .mul) rfl rfl rfl rfl rfl ?_; intro y ny ey fy))
    have HY := hid (pwY_of (Hid.out (by assumption)) hfr.out.1 (Hid.out (by assumption)) ed.out ey.out)
    have HK := hid (toIntZ (pwK_of HX.out (Hid.out (by assumption)) hfr.out.1))
    go_loopw [6, 7] (fun sv i wr => ∃ (j : Nat) (s : Nat), j ≤ 14 ∧ i = .int .i64 (14 - (j : Int)) ∧ sv = .float .f64 s ∧ Hid (can .f64 s = can .f64 (pwS (pwY x) j)) ∧ Hid (le w wr)) (fun _ i _ => (intOf i).toNat)
    case atStart => exact ⟨0, _, by omega, rfl, rfl, rfl, le_drewN _ _⟩
    case round =>
      obtain ⟨j, s, hj, rfl, rfl, HSj, hl⟩ := hrel
      by_cases hlt : j < 14
      · go_wp2_with (first | (with_reducible refine wpList_farith (op := .quo) rfl rfl rfl rfl rfl ?_; intro q nq eq fq) | (with_reducible refine wpList_farith (op := .mul) rfl rfl rfl rfl rfl ?_; intro p np ep fp) | (with_reducible refine wpList_farith (op := .add) rfl rfl rfl rfl rfl ?_; intro r nr er fr2))
        go_roundw
        case rel => exact ⟨j + 1, r, by omega, by rw [show (14 : Int) - j - 1 = 14 - ((j + 1 : Nat) : Int) by omega], rfl, pwS_of HY.out HSj.out eq.out ep.out er.out, le_trans hl (le_drewN _ _)⟩
        case measure => simp [intOf]; omega
      · obtain rfl : j = 14 := by omega
        rw [HS.out, can_of_not HE.out] at HSj
        obtain rfl : s = nrm E f := of_canK HSj.out HE.out
        go_wp2_with (first | (with_reducible refine wpList_toIntD rfl rfl rfl HK.out ?_) | (go_at_call 40; ((with_reducible refine (HL.out _).mono ?_); rintro e w1 ⟨rfl, hl2⟩)) | ((with_reducible refine wpList_narrow rfl rfl rfl Try.underlying32 Try.underlying22 (by exact HR.out) ?_); intro q nq hq fq))
        go_ret2
        exact ⟨_, rfl, hq.out.trans HV.out.symm, le_trans hl (le_trans (by assumption) (le_drewN _ _))⟩
end Go.Proofs.Ytanjemoeologiaa

/- 'KeyCents', 'KeyHertz', 'PeriodOfKey' of both. -/
namespace Go.Fk
open Go Go.RowKit
theorem tdiv_up {a : Int} {n : Nat} (hn : 1 ≤ n) (h : a.tmod n < 0) : a.tdiv n - 1 = a / (n : Int) ∧ a.tmod n + n = a % (n : Int) := by
  have e1 := Int.tmod_add_mul_tdiv a n
  have b1 : -(n : Int) < a.tmod n := by
    have := Int.lt_tmod_of_pos a (show (0 : Int) < n by omega)
    omega
  have key : a / (n : Int) = a.tdiv n - 1 ∧ a % (n : Int) = a.tmod n + n := by
    refine (Int.ediv_emod_unique (by omega)).2 ⟨?_, by omega, by omega⟩
    rw [Int.mul_sub]
    omega
  exact ⟨key.1.symm, key.2.symm⟩
theorem tdiv_same {a : Int} {n : Nat} (hn : 1 ≤ n) (h : 0 ≤ a.tmod n) : a.tdiv n = a / (n : Int) ∧ a.tmod n = a % (n : Int) := by
  have e1 := Int.tmod_add_mul_tdiv a n
  have b1 := Int.tmod_lt_of_pos a (show (0 : Int) < n by omega)
  have key : a / (n : Int) = a.tdiv n ∧ a % (n : Int) = a.tmod n := (Int.ediv_emod_unique (by omega)).2 ⟨e1, h, b1⟩
  exact ⟨key.1.symm, key.2.symm⟩
theorem tdiv_in {a : Int} {n : Nat} (h1 : -100 ≤ a) (h2 : a ≤ 100) : -100 ≤ a.tdiv n ∧ a.tdiv n ≤ 100 := by
  have h := Int.natAbs_tdiv_le_natAbs a n
  omega
theorem tmod_in {a : Int} {n : Nat} (hn : 1 ≤ n) : -(n : Int) < a.tmod n ∧ a.tmod n < n := by
  have h1 := Int.lt_tmod_of_pos a (show (0 : Int) < n by omega)
  have h2 := Int.tmod_lt_of_pos a (show (0 : Int) < n by omega)
  omega
/-- A key's octaves and degree. -/
theorem key_parts {a : Int} {n : Nat} (hn : 1 ≤ n) (h1 : -100 ≤ a) (h2 : a ≤ 100) : ∃ (q : Int) (r : Nat), a / (n : Int) = q ∧ a % (n : Int) = (r : Int) ∧ r < n ∧ q * n = a - r ∧ -101 ≤ q ∧ q ≤ 100 := by
  have e := Int.mul_ediv_add_emod a n
  have e0 := Int.emod_nonneg a (show (n : Int) ≠ 0 by omega)
  have e1 := Int.emod_lt_of_pos a (show (0 : Int) < n by omega)
  refine ⟨a / n, (a % n).toNat, rfl, by omega, by omega, by rw [Int.mul_comm (n : Int) (a / n)] at e; omega, ?_⟩
  by_cases h : a.tmod n < 0
  · have := (tdiv_up hn h).1; have := tdiv_in (n := n) h1 h2; omega
  · have := (tdiv_same (a := a) hn (by omega)).1; have := tdiv_in (n := n) h1 h2; omega
/-- A number that fits, and a code. -/
def Out_fif (ar0 : Nat) (ar1 : Int) (w : World) (e : Ending) (w' : World) : Prop := ∃ (v0 : Nat), e = .returned (.tuple #[.float .f32 v0, .int .i64 ar1]) ∧ can .f32 v0 = ar0 ∧ fits .f32 v0 ∧ le w w'
theorem Out_fif.out {a : Nat} {b : Int} {w : World} {e : Ending} {w' : World} (h : Out_fif a b w e w') : Out_fi a b w e w' := by
  obtain ⟨v, h1, h2, _, h3⟩ := h
  exact ⟨v, h1, h2, h3⟩
def okK (k : Int) : Bool := decide (-100 ≤ k) && decide (k ≤ 100)
/-- The cents of a key. -/
def kcV (o : Nat) (x : Nat → Nat) (n : Nat) (k : Int) : Nat := fop .add .f32 (fop .mul .f32 o (floatOfInt .f32 (k / (n : Int)))) (x (k % (n : Int)).toNat)
theorem okT_n {b o : Nat} {x : Nat → Nat} {n : Nat} (h : okT b o x n = true) : 1 ≤ n ∧ n ≤ 31 := by
  unfold okT degB at h
  simp only [Bool.and_eq_true, decide_eq_true_eq] at h
  omega
end Go.Fk
namespace Go.Proofs.Ytanjemoeologiaa
open Go.RowKit Go.Fk
set_option maxRecDepth 100000 in
set_option maxHeartbeats 2000000 in
theorem i_dividedDown (a : Int) (n : Nat) (w : World) (h1 : -100 ≤ a) (h2 : a ≤ 100) (hn : 1 ≤ n) (hn2 : n ≤ 31) : Calls Try.prog 32 #[.int .i64 a, .int .i64 (n : Int)] w fun e w' => e = .returned (.tuple #[.int .i64 (a / (n : Int)), .int .i64 (a % (n : Int))]) ∧ ∃ m, w' = w.drewN m := by
  have hq := tdiv_in (n := n) h1 h2
  have hr := tmod_in (a := a) hn
  obtain ⟨hq1, hq2⟩ := hq
  obtain ⟨hr1, hr2⟩ := hr
  by_cases h : a.tmod n < 0
  · have HU := hid (tdiv_up hn h)
    go_enter Try.func32, Try.ntmps32
    go_wp2_with fail
    go_quiet (fail)
    go_wp2
    go_ret2
    refine ⟨?_, _, rfl⟩
    rw [← HU.out.1, ← HU.out.2]
    rfl
  · have HU := hid (tdiv_same hn (by omega : 0 ≤ a.tmod n))
    go_enter Try.func32, Try.ntmps32
    go_wp2_with fail
    go_quiet (fail)
    go_wp2
    go_ret2
    refine ⟨?_, _, rfl⟩
    rw [← HU.out.1, ← HU.out.2]
    rfl
set_option maxRecDepth 100000 in
set_option maxHeartbeats 4000000 in
theorem i_cents (b o : Nat) (x : Nat → Nat) (n : Nat) (B : Nat) (s : Value) (w : World) (hs : (slT x n).RdN w B s) (k : Int) (h1 : -100 ≤ k) (h2 : k ≤ 100) (hn : 1 ≤ n) (hn2 : n ≤ 31) : Calls Try.prog 22 #[.agg #[.float .f32 b, .float .f32 o, s], .int .i64 k] w (Out_f (kcV o x n k) w) := by
  have HD := hid (fun w' => i_dividedDown k n w' h1 h2 hn hn2)
  obtain ⟨q, r, e1, e2, hr, hqn, hq1, hq2⟩ := key_parts hn h1 h2
  have HV : Hid (kcV o x n k = fop .add .f32 (fop .mul .f32 o (floatOfInt .f32 q)) (x r)) := by show kcV o x n k = _; unfold kcV; rw [e1, e2, Int.toNat_natCast]
  rw [e1, e2] at HD
  obtain ⟨bb, p, cap, y, rfl, hc, hm, hx⟩ := slT_raw hs hn
  unfold maxLen at hm
  obtain ⟨cr, _, ec⟩ := hx r hr
  have HC : Hid (can .f32 (y r) = can .f32 (x r)) := by show can .f32 (y r) = can .f32 (x r); rw [← ec, can_can]
  clear hx ec hs e1 e2 hqn hn2
  have F := (Frg.nil w).box 29 #[.float .f32 b, .float .f32 o, .slice (some ⟨bb, p, none⟩) n cap]
  have c0 := (F.row m0).cell? 0
  have c1 := (F.row m0).cell? 1
  have c2 := (F.row m0).cell? 2
  replace cr := (Below.cell F.below (cell_lt' cr)).trans cr
  have hri : (r : Int) < (n : Int) := by omega
  have HL := hid F.below
  clear F
  go_enter Try.func22, Try.ntmps22
  go_wp2_with (first | (go_at_call 32; ((with_reducible refine (HD.out _).mono ?_); rintro e w1 ⟨rfl, md, rfl⟩)))
  refine wp_region_loose (fun _ _ _ => True) (by kernel_rfl) (by kernel_rfl) ?_
  repeat (first | (with_reducible refine wpLoose_farith rfl rfl rfl rfl rfl ?_; intro rr hrr hff; simp only [Act.put, List.setIfInBounds_toArray, List.set_cons_succ, List.set_cons_zero]) | (refine wpLoose_quiet rfl ?_; go_big_quiet_step (fail); refine wpQuiet_nil ?_))
  refine wpLoose_nil (fun m1 => ?_)
  go_wp2
  go_ret
  have h2 := ‹Hid (can .f32 _ = fop .mul .f32 o (floatOfInt .f32 q))›
  refine ⟨_, rfl, ?_, le_trans HL.out (le_trans (le_drewN _ _) (le_drewN _ _))⟩
  rw [hrr.out, HV.out]
  exact fop_congr (h2.out.trans (can_fop _ _ _ _).symm |>.trans (by rw [can_fop])) HC.out
set_option maxRecDepth 100000 in
set_option maxHeartbeats 4000000 in
theorem s_l07KeyCents (b o : Nat) (x : Nat → Nat) (n : Nat) (B : Nat) (s : Value) (w : World) (hs : (slT x n).RdN w B s) (k : Int) (h1 : -100 ≤ k) (h2 : k ≤ 100) (hn : 1 ≤ n) (hn2 : n ≤ 31) (g : Nat) (R : Row w g 29 #[.float .f32 b, .float .f32 o, s]) : Calls Try.prog 19 #[.pointer (some ⟨g, 0, none⟩), .int .i64 k] w (Out_f (kcV o x n k) w) := by
  have hq := tdiv_in (n := n) h1 h2
  have hr0 := tmod_in (a := k) hn
  obtain ⟨hq3, hq4⟩ := hq
  obtain ⟨hr1, hr2⟩ := hr0
  obtain ⟨q, r, e1, e2, hr, hqn, hq1, hq2⟩ := key_parts hn h1 h2
  have HV : Hid (kcV o x n k = fop .add .f32 (fop .mul .f32 o (floatOfInt .f32 q)) (x r)) := by show kcV o x n k = _; unfold kcV; rw [e1, e2, Int.toNat_natCast]
  obtain ⟨bb, p, cap, y, rfl, hc, hm, hx⟩ := slT_raw hs hn
  unfold maxLen at hm
  obtain ⟨cr, _, ec⟩ := hx r hr
  have HC : Hid (can .f32 (y r) = can .f32 (x r)) := by show can .f32 (y r) = can .f32 (x r); rw [← ec, can_can]
  have c1 := R.cell? 1
  have c2 := R.cell? 2
  have hri : (r : Int) < (n : Int) := by omega
  have g1 : IntKind.i64.wrap (q * (n : Int)) = k - r := by rw [IntWalk.i64_in _ (by omega), hqn]
  have g2 : IntKind.i64.wrap (k - (k - (r : Int))) = (r : Int) := by rw [IntWalk.i64_in _ (by omega)]; omega
  have g3 : wrap64 (q * (n : Int)) = k - r := by rw [IntWalk.wrap64_in _ (by omega), hqn]
  by_cases h : k.tmod n < 0
  · have d1 : k.tdiv n - 1 = q := (tdiv_up hn h).1.trans e1
    clear hx ec hs e1 e2 hqn hn2 R
    go_enter Try.func19, Try.ntmps19
    go_wp2_with fail
    refine wp_region_loose (fun _ _ _ => True) (by kernel_rfl) (by kernel_rfl) ?_
    repeat (first | (with_reducible refine wpLoose_farith rfl rfl rfl rfl rfl ?_; intro rr hrr hff; simp only [Act.put, List.setIfInBounds_toArray, List.set_cons_succ, List.set_cons_zero]) | (with_reducible refine wpLoose_nil' rfl rfl rfl ?_; simp only [Act.put, List.setIfInBounds_toArray, List.set_cons_succ, List.set_cons_zero]) | (refine wpLoose_quiet rfl ?_; go_big_quiet_step (fail); refine wpQuiet_nil ?_))
    refine wpLoose_nil (fun m1 => ?_)
    go_wp2
    go_ret
    have h2 := ‹Hid (can .f32 _ = fop .mul .f32 o (floatOfInt .f32 q))›
    refine ⟨_, rfl, ?_, le_drewN _ _⟩
    rw [hrr.out, HV.out]
    exact fop_congr (h2.out.trans (can_fop _ _ _ _).symm |>.trans (by rw [can_fop])) HC.out
  · have d1 : k.tdiv n = q := (tdiv_same hn (by omega : 0 ≤ k.tmod n)).1.trans e1
    clear hx ec hs e1 e2 hqn hn2 R hq3 hq4
    go_enter Try.func19, Try.ntmps19
    go_wp2_with fail
    refine wp_region_loose (fun _ _ _ => True) (by kernel_rfl) (by kernel_rfl) ?_
    repeat (first | (with_reducible refine wpLoose_farith rfl rfl rfl rfl rfl ?_; intro rr hrr hff; simp only [Act.put, List.setIfInBounds_toArray, List.set_cons_succ, List.set_cons_zero]) | (with_reducible refine wpLoose_nil' rfl rfl rfl ?_; simp only [Act.put, List.setIfInBounds_toArray, List.set_cons_succ, List.set_cons_zero]) | (refine wpLoose_quiet rfl ?_; go_big_quiet_step (fail); refine wpQuiet_nil ?_))
    refine wpLoose_nil (fun m1 => ?_)
    go_wp2
    go_ret
    have h2 := ‹Hid (can .f32 _ = fop .mul .f32 o (floatOfInt .f32 q))›
    refine ⟨_, rfl, ?_, le_drewN _ _⟩
    rw [hrr.out, HV.out]
    exact fop_congr (h2.out.trans (can_fop _ _ _ _).symm |>.trans (by rw [can_fop])) HC.out
theorem s_l07Key (k : Int) (w : World) : Calls Try.prog 18 #[.int .i64 k] w fun e w' => e = .returned (.bool (okK k)) ∧ w = w' := by
  have HI := hid (fun w' => s_In k (-100) 100 w')
  go_enter Try.func18, Try.ntmps18
  go_wp2_with (go_at_call 29; ((with_reducible refine (HI.out _).mono ?_); rintro e w1 ⟨rfl, rfl⟩))
  go_ret
  exact ⟨rfl, rfl⟩
def codeK (b o : Nat) (x : Nat → Nat) (n : Nat) (k : Int) : Int := if okT b o x n then (if okK k then 0 else 2) else 1
def kcR (b o : Nat) (x : Nat → Nat) (n : Nat) (k : Int) : Nat := if okT b o x n then (if okK k then kcV o x n k else 0) else 0
theorem i_isKeyK (k : Int) (w : World) : Calls Try.prog 31 #[.int .i64 k] w fun e w' => e = .returned (.bool (decide (-100 ≤ k) && decide (k ≤ 100))) ∧ w = w' := by
  by_cases h1 : -100 ≤ k
  · by_cases h2 : k ≤ 100
    · have E := hid (show (decide (-100 ≤ k) && decide (k ≤ 100)) = true by simp [h1, h2])
      go_enter Try.func31, Try.ntmps31
      go_wp2
      go_ret
      exact ⟨ret_b E.out.symm, rfl⟩
    · have E := hid (show (decide (-100 ≤ k) && decide (k ≤ 100)) = false by simp [h2])
      have D := hid (decide_eq_false h2)
      go_enter Try.func31, Try.ntmps31
      go_wp2
      go_ret
      exact ⟨ret_b D.out.symm, rfl⟩
  · have E := hid (show (decide (-100 ≤ k) && decide (k ≤ 100)) = false by simp [h1])
    go_enter Try.func31, Try.ntmps31
    go_wp2
    go_ret
    exact ⟨ret_b E.out.symm, rfl⟩
set_option maxRecDepth 100000 in
set_option maxHeartbeats 4000000 in
theorem i_codeOfKey (b o : Nat) (x : Nat → Nat) (n : Nat) (B : Nat) (s : Value) (w : World) (hs : (slT x n).RdN w B s) (k : Int) : Calls Try.prog 21 #[.agg #[.float .f32 b, .float .f32 o, s], .int .i64 k] w fun e w' => e = .returned (.int .i64 (codeK b o x n k)) ∧ le w w' := by
  have HV := hid (fun (w' : World) (hl : le w w') => i_ValidTuning b o x n B s w' (hs.le hl))
  have HK := hid (fun (w' : World) => i_isKeyK k w')
  clear hs
  have F := (Frg.nil w).box 29 #[.float .f32 b, .float .f32 o, s]
  cases h : okT b o x n
  · have e : codeK b o x n k = 1 := by unfold codeK; rw [h]; rfl
    rw [e]; rw [h] at HV
    clear h e
    go_enter Try.func21, Try.ntmps21
    go_wp2_with (first | ((with_reducible refine at_loadU (ty := 29) rfl rfl ?_); (with_reducible refine wpList_loadG F rfl rfl rfl (by first | exact m0 | exact m1 | exact m2) Try.underlying29 rfl uinfoTuningI rfl ?_)) | (go_at_call 30; ((with_reducible refine (HV.out _ F.below).mono ?_); rintro e w1 ⟨rfl, hl⟩; replace F := F.le hl; clear hl)) | (go_at_call 31; ((with_reducible refine (HK.out _).mono ?_); rintro e w1 ⟨rfl, rfl⟩)))
    go_ret
    exact ⟨rfl, F.below⟩
  · rw [h] at HV
    by_cases k1 : -100 ≤ k
    · by_cases k2 : k ≤ 100
      · have e : codeK b o x n k = 0 := by unfold codeK okK; rw [h]; simp [k1, k2]
        rw [e]
        rw [show (decide (-100 ≤ k) && decide (k ≤ 100)) = true by simp [k1, k2]] at HK
        clear h e
        go_enter Try.func21, Try.ntmps21
        go_wp2_with (first | ((with_reducible refine at_loadU (ty := 29) rfl rfl ?_); (with_reducible refine wpList_loadG F rfl rfl rfl (by first | exact m0 | exact m1 | exact m2) Try.underlying29 rfl uinfoTuningI rfl ?_)) | (go_at_call 30; ((with_reducible refine (HV.out _ F.below).mono ?_); rintro e w1 ⟨rfl, hl⟩; replace F := F.le hl; clear hl)) | (go_at_call 31; ((with_reducible refine (HK.out _).mono ?_); rintro e w1 ⟨rfl, rfl⟩)))
        go_ret
        exact ⟨rfl, F.below⟩
      · have e : codeK b o x n k = 2 := by unfold codeK okK; rw [h]; simp [k2]
        rw [e]
        rw [show (decide (-100 ≤ k) && decide (k ≤ 100)) = false by simp [k2]] at HK
        clear h e
        go_enter Try.func21, Try.ntmps21
        go_wp2_with (first | ((with_reducible refine at_loadU (ty := 29) rfl rfl ?_); (with_reducible refine wpList_loadG F rfl rfl rfl (by first | exact m0 | exact m1 | exact m2) Try.underlying29 rfl uinfoTuningI rfl ?_)) | (go_at_call 30; ((with_reducible refine (HV.out _ F.below).mono ?_); rintro e w1 ⟨rfl, hl⟩; replace F := F.le hl; clear hl)) | (go_at_call 31; ((with_reducible refine (HK.out _).mono ?_); rintro e w1 ⟨rfl, rfl⟩)))
        go_ret
        exact ⟨rfl, F.below⟩
    · have e : codeK b o x n k = 2 := by unfold codeK okK; rw [h]; simp [k1]
      rw [e]
      rw [show (decide (-100 ≤ k) && decide (k ≤ 100)) = false by simp [k1]] at HK
      clear h e
      go_enter Try.func21, Try.ntmps21
      go_wp2_with (first | ((with_reducible refine at_loadU (ty := 29) rfl rfl ?_); (with_reducible refine wpList_loadG F rfl rfl rfl (by first | exact m0 | exact m1 | exact m2) Try.underlying29 rfl uinfoTuningI rfl ?_)) | (go_at_call 30; ((with_reducible refine (HV.out _ F.below).mono ?_); rintro e w1 ⟨rfl, hl⟩; replace F := F.le hl; clear hl)) | (go_at_call 31; ((with_reducible refine (HK.out _).mono ?_); rintro e w1 ⟨rfl, rfl⟩)))
      go_ret
      exact ⟨rfl, F.below⟩
theorem okK_in {k : Int} (h : okK k = true) : -100 ≤ k ∧ k ≤ 100 := by simpa [okK] using h
set_option maxRecDepth 100000 in
set_option maxHeartbeats 4000000 in
theorem i_KeyCents (b o : Nat) (x : Nat → Nat) (n : Nat) (B : Nat) (s : Value) (w : World) (hs : (slT x n).RdN w B s) (k : Int) : Calls Try.prog 9 #[.agg #[.float .f32 b, .float .f32 o, s], .int .i64 k] w (Out_fi (kcR b o x n k) (codeK b o x n k) w) := by
  have HD := hid (fun (w' : World) (hl : le w w') => i_codeOfKey b o x n B s w' (hs.le hl) k)
  have F := (Frg.nil w).box 29 #[.float .f32 b, .float .f32 o, s]
  cases h : okT b o x n
  · have e1 : codeK b o x n k = 1 := by unfold codeK; rw [h]; rfl
    have e2 : kcR b o x n k = 0 := by unfold kcR; rw [h]; rfl
    rw [e2]; rw [e1] at HD ⊢
    clear h e1 e2 hs
    go_enter Try.func9, Try.ntmps9
    go_wp2_with (first | ((with_reducible refine at_loadU (ty := 29) rfl rfl ?_); (with_reducible refine wpList_loadG F rfl rfl rfl (by first | exact m0 | exact m1 | exact m2) Try.underlying29 rfl uinfoTuningI rfl ?_)) | (go_at_call 21; ((with_reducible refine (HD.out _ F.below).mono ?_); rintro e w1 ⟨rfl, hl⟩; replace F := F.le hl; clear hl)))
    go_ret2
    exact ⟨_, rfl, by decide, F.below⟩
  · cases h' : okK k
    · have e1 : codeK b o x n k = 2 := by unfold codeK; rw [h, h']; rfl
      have e2 : kcR b o x n k = 0 := by unfold kcR; rw [h, h']; rfl
      rw [e2]; rw [e1] at HD ⊢
      clear h e1 e2 hs h'
      go_enter Try.func9, Try.ntmps9
      go_wp2_with (first | ((with_reducible refine at_loadU (ty := 29) rfl rfl ?_); (with_reducible refine wpList_loadG F rfl rfl rfl (by first | exact m0 | exact m1 | exact m2) Try.underlying29 rfl uinfoTuningI rfl ?_)) | (go_at_call 21; ((with_reducible refine (HD.out _ F.below).mono ?_); rintro e w1 ⟨rfl, hl⟩; replace F := F.le hl; clear hl)))
      go_ret2
      exact ⟨_, rfl, by decide, F.below⟩
    · have e1 : codeK b o x n k = 0 := by unfold codeK; rw [h, h']; rfl
      have e2 : kcR b o x n k = kcV o x n k := by unfold kcR; rw [h, h']; rfl
      obtain ⟨hn, hn2⟩ := okT_n h
      obtain ⟨k1, k2⟩ := okK_in h'
      have HC := hid (fun (w' : World) (hl : le w w') => i_cents b o x n B s w' (hs.le hl) k k1 k2 hn hn2)
      rw [e2]; rw [e1] at HD ⊢
      clear h e1 e2 hs h'
      go_enter Try.func9, Try.ntmps9
      go_wp2_with (first | ((with_reducible refine at_loadU (ty := 29) rfl rfl ?_); (with_reducible refine wpList_loadG F rfl rfl rfl (by first | exact m0 | exact m1 | exact m2) Try.underlying29 rfl uinfoTuningI rfl ?_)) | (go_at_call 21; ((with_reducible refine (HD.out _ F.below).mono ?_); rintro e w1 ⟨rfl, hl⟩; replace F := F.le hl; clear hl)) | (go_at_call 22; ((with_reducible refine (HC.out _ F.below).mono ?_); rintro e w1 ⟨v, rfl, hv, hl⟩; have HVV := hid hv; replace F := F.le hl; clear hl hv)))
      go_ret2
      exact ⟨_, rfl, HVV.out, F.below⟩
set_option maxRecDepth 100000 in
set_option maxHeartbeats 4000000 in
theorem s_KeyCents (b o : Nat) (x : Nat → Nat) (n : Nat) (B : Nat) (s : Value) (w : World) (hs : (slT x n).RdN w B s) (k : Int) : Calls Try.prog 7 #[.agg #[.float .f32 b, .float .f32 o, s], .int .i64 k] w (Out_fi (kcR b o x n k) (codeK b o x n k) w) := by
  have HV := hid (fun (w' : World) (g : Nat) (hl : le w w') (R : Row w' g 29 #[.float .f32 b, .float .f32 o, s]) => s_l07Ok b o x n B s w' (hs.le hl) g R)
  have HK := hid (fun w' => s_l07Key k w')
  have F := (Frg.nil w).box 29 #[.float .f32 b, .float .f32 o, s]
  cases h : okT b o x n
  · have e1 : codeK b o x n k = 1 := by unfold codeK; rw [h]; rfl
    have e2 : kcR b o x n k = 0 := by unfold kcR; rw [h]; rfl
    rw [e1, e2]; rw [h] at HV
    clear h e1 e2 hs
    go_enter Try.func7, Try.ntmps7
    go_wp2_with (first | (go_at_call 17; ((with_reducible refine (HV.out _ _ F.below (F.row m0)).mono ?_); rintro e w1 ⟨rfl, hl⟩; replace F := F.le hl; clear hl)) | (go_at_call 18; ((with_reducible refine (HK.out _).mono ?_); rintro e w1 ⟨rfl, rfl⟩)))
    go_ret2
    exact ⟨_, rfl, by decide, F.below⟩
  · cases h' : okK k
    · have e1 : codeK b o x n k = 2 := by unfold codeK; rw [h, h']; rfl
      have e2 : kcR b o x n k = 0 := by unfold kcR; rw [h, h']; rfl
      rw [e1, e2]; rw [h] at HV
      rw [h'] at HK
      clear h e1 e2 hs h'
      go_enter Try.func7, Try.ntmps7
      go_wp2_with (first | (go_at_call 17; ((with_reducible refine (HV.out _ _ F.below (F.row m0)).mono ?_); rintro e w1 ⟨rfl, hl⟩; replace F := F.le hl; clear hl)) | (go_at_call 18; ((with_reducible refine (HK.out _).mono ?_); rintro e w1 ⟨rfl, rfl⟩)))
      go_ret2
      exact ⟨_, rfl, by decide, F.below⟩
    · have e1 : codeK b o x n k = 0 := by unfold codeK; rw [h, h']; rfl
      have e2 : kcR b o x n k = kcV o x n k := by unfold kcR; rw [h, h']; rfl
      obtain ⟨hn, hn2⟩ := okT_n h
      obtain ⟨k1, k2⟩ := okK_in h'
      have HC := hid (fun (w' : World) (g : Nat) (hl : le w w') (R : Row w' g 29 #[.float .f32 b, .float .f32 o, s]) => s_l07KeyCents b o x n B s w' (hs.le hl) k k1 k2 hn hn2 g R)
      rw [e1, e2]; rw [h] at HV
      rw [h'] at HK
      clear h e1 e2 hs h'
      go_enter Try.func7, Try.ntmps7
      go_wp2_with (first | (go_at_call 17; ((with_reducible refine (HV.out _ _ F.below (F.row m0)).mono ?_); rintro e w1 ⟨rfl, hl⟩; replace F := F.le hl; clear hl)) | (go_at_call 18; ((with_reducible refine (HK.out _).mono ?_); rintro e w1 ⟨rfl, rfl⟩)) | (go_at_call 19; ((with_reducible refine (HC.out _ _ F.below (F.row m0)).mono ?_); rintro e w1 ⟨v, rfl, hv, hl⟩; have HVV := hid hv; replace F := F.le hl; clear hl hv)))
      go_ret2
      exact ⟨_, rfl, HVV.out, F.below⟩
theorem both_KeyCents (cs : List CD) (h : HasShL shTuning cs) (k : Int) : ∃ (ar0 : Nat) (ar1 : Int), (∀ (w : World) (B : Nat) (u : List Value), RdLN w B (cs.map CD.cp) u → Calls Try.prog 7 #[.agg u.toArray, .int .i64 k] w (Out_fi ar0 ar1 w)) ∧ (∀ (w : World) (B : Nat) (u : List Value), RdLN w B (cs.map CD.cp) u → Calls Try.prog 9 #[.agg u.toArray, .int .i64 k] w (Out_fi ar0 ar1 w)) := by
  obtain ⟨b, o, xs, n, rfl, hx⟩ := tun_data h
  refine ⟨kcR b o (fun i => (xs i).fx) n k, codeK b o (fun i => (xs i).fx) n k, fun w B u hu => ?_, fun w B u hu => ?_⟩
  · obtain ⟨s, rfl, hs, _, _⟩ := tun_open hu hx
    exact s_KeyCents b o (fun i => (xs i).fx) n B s w hs k
  · obtain ⟨s, rfl, hs, _, _⟩ := tun_open hu hx
    exact i_KeyCents b o (fun i => (xs i).fx) n B s w hs k
def hqV (o : Nat) (x : Nat → Nat) (n : Nat) (k : Int) : Nat := fop .quo .f32 (kcV o x n k) 1150681088
def khV (b o : Nat) (x : Nat → Nat) (n : Nat) (k : Int) : Nat := fop .mul .f32 b (twV (hqV o x n k))
def codeH (b o : Nat) (x : Nat → Nat) (n : Nat) (k : Int) : Int := if okT b o x n then (if okK k then (if okTw (hqV o x n k) then 0 else 2) else 2) else 1
def khR (b o : Nat) (x : Nat → Nat) (n : Nat) (k : Int) : Nat := if okT b o x n then (if okK k then (if okTw (hqV o x n k) then khV b o x n k else 0) else 0) else 0
theorem val_1f : val .f32 1065353216 = 2 ^ 149 ∧ isNan .f32 1065353216 = false := by decide +kernel
theorem val_20k : val .f32 1184645120 = 20000 * 2 ^ 149 ∧ isNan .f32 1184645120 = false := by decide +kernel
theorem k20_160 : (20000 : Int) * 2 ^ 149 ≤ 2 ^ 165 := by decide +kernel
theorem far_166 : (2 : Int) ^ 166 < (far : Int) := by decide +kernel
theorem base_zero {b : Nat} (h : withinB b 1065353216 1184645120 = true) : fop .mul .f32 b 0 = 0 := by
  obtain ⟨hn, h1, h2⟩ := within_val val_1f.2 val_20k.2 h
  rw [val_1f.1] at h1
  rw [val_20k.1] at h2
  have f1 := k20_160
  have f2 := far_166
  have f3 : (2 : Int) ^ 165 < 2 ^ 166 := by decide
  have f4 : (0 : Int) < 2 ^ 149 := by decide
  obtain ⟨s, m, e, hr⟩ := finite_num hn (by generalize (2 : Int) ^ 149 = U at *; generalize (2 : Int) ^ 165 = A at *; generalize (2 : Int) ^ 166 = C at *; omega) (by generalize (2 : Int) ^ 149 = U at *; generalize (2 : Int) ^ 165 = A at *; generalize (2 : Int) ^ 166 = C at *; omega)
  have hz : FloatKind.f32.format.read 0 = .number false 0 (-149) := by decide
  have hv : val .f32 b = Ieee.signed s m (e + 149).toNat := by simp only [val, hr]; rfl
  have hs : s = false := by
    cases s
    · rfl
    · exfalso
      rw [hv, signed_eq] at h1
      simp only [if_true] at h1
      have : (0 : Int) ≤ (m : Int) * 2 ^ (e + 149).toNat := Int.mul_nonneg (by omega) (Int.le_of_lt (Int.pow_pos (by omega)))
      rw [Int.neg_mul] at h1
      generalize (2 : Int) ^ 149 = U at *
      omega
  subst hs
  have hb : floatBits .mul .f32 b 0 = some (FloatKind.f32.format.nearest (false ^^ false) (m * 0) (e + -149)) := by
    simp only [floatBits, Ieee.Format.mul, hr, hz, Ieee.Datum.product, Option.map_some]; rfl
  rw [Nat.mul_zero] at hb
  have : FloatKind.f32.format.nearest (false ^^ false) 0 (e + -149) = 0 := by simp [Ieee.Format.nearest, Ieee.Format.word]
  rw [this] at hb
  exact fop_some hb (by decide)
theorem okT_b {b o : Nat} {x : Nat → Nat} {n : Nat} (h : okT b o x n = true) : withinB b 1065353216 1184645120 = true := by
  unfold okT at h
  rw [Bool.and_eq_true] at h
  exact h.1
theorem kh_no {b o : Nat} {x : Nat → Nat} {n : Nat} {k : Int} (h : okT b o x n = true) (h2 : okTw (hqV o x n k) = false) : khV b o x n k = 0 := by
  unfold khV twV
  rw [h2]
  exact base_zero (okT_b h)
set_option maxRecDepth 100000 in
set_option maxHeartbeats 4000000 in
theorem i_hertzF (b o : Nat) (x : Nat → Nat) (n : Nat) (B : Nat) (s : Value) (w : World) (hs : (slT x n).RdN w B s) (k : Int) (h1 : -100 ≤ k) (h2 : k ≤ 100) (hn : 1 ≤ n) (hn2 : n ≤ 31) : Calls Try.prog 25 #[.agg #[.float .f32 b, .float .f32 o, s], .int .i64 k] w (Out_fif (khV b o x n k) (if okTw (hqV o x n k) then 0 else 2) w) := by
  have HC := hid (fun (w' : World) (hl : le w w') => i_cents b o x n B s w' (hs.le hl) k h1 h2 hn hn2)
  have HT := hid (fun (c r : Nat) (w' : World) (hc : can .f32 c = kcV o x n k) (hr : can .f32 r = fop .quo .f32 c 1150681088) => (show Calls Try.prog 34 #[.float .f32 r] w' (Out_fi (twV (hqV o x n k)) (if okTw (hqV o x n k) then 0 else 2) w') from by
    have e : can .f32 r = can .f32 (hqV o x n k) := by
      rw [hr]; unfold hqV; rw [can_fop]; exact fop_congr (hc.trans (by unfold kcV; rw [can_fop])) rfl
    rw [← twV_congr e, ← okTw_congr e]
    exact i_TwoTo r w'))
  clear hs
  have F := (Frg.nil w).box 29 #[.float .f32 b, .float .f32 o, s]
  generalize hcd : (if okTw (hqV o x n k) then (0 : Int) else 2) = cd at *
  have HV : Hid (khV b o x n k = fop .mul .f32 b (twV (hqV o x n k))) := rfl
  clear hcd
  go_enter Try.func25, Try.ntmps25
  go_wp2_with (first | ((with_reducible refine at_load rfl ?_); first | (with_reducible refine wpList_load1 F rfl rfl rfl m0 (f := 0) (v := .float .f32 b) rfl ukindFloat32 ?_)) | ((with_reducible refine at_loadU (ty := 29) rfl rfl ?_); (with_reducible refine wpList_loadG F rfl rfl rfl (by first | exact m0 | exact m1 | exact m2) Try.underlying29 rfl uinfoTuningI rfl ?_)) | (go_at_call 22; ((with_reducible refine (HC.out _ F.below).mono ?_); rintro e w1 ⟨c, rfl, hc, hl⟩; have HCC := hid hc; replace F := F.le hl; clear hl hc)) | (with_reducible refine wpList_farith (op := .quo) rfl rfl rfl rfl rfl ?_; intro r nr er fr; replace F := F.drewN nr) | (go_at_call 34; ((with_reducible refine (HT.out c _ _ HCC.out er.out).mono ?_); rintro e w2 ⟨v, rfl, hv, hl⟩; have HVV := hid hv; replace F := F.le hl; clear hl hv)) | (with_reducible refine wpList_farith (op := .mul) rfl rfl rfl rfl rfl ?_; intro z nz ez fz; replace F := F.drewN nz))
  go_ret2
  refine ⟨_, rfl, ?_, fz.out, F.below⟩
  rw [ez.out, HV.out]
  exact fop_congr rfl (by rw [HVV.out]; unfold twV; split; · unfold pwV; rw [can_can]
                          · decide)
set_option maxRecDepth 100000 in
set_option maxHeartbeats 4000000 in
theorem i_KeyHertzF (b o : Nat) (x : Nat → Nat) (n : Nat) (B : Nat) (s : Value) (w : World) (hs : (slT x n).RdN w B s) (k : Int) : Calls Try.prog 13 #[.agg #[.float .f32 b, .float .f32 o, s], .int .i64 k] w (Out_fif (khR b o x n k) (codeH b o x n k) w) := by
  have HD := hid (fun (w' : World) (hl : le w w') => i_codeOfKey b o x n B s w' (hs.le hl) k)
  have F := (Frg.nil w).box 29 #[.float .f32 b, .float .f32 o, s]
  cases h : okT b o x n
  · have e1 : codeH b o x n k = 1 := by unfold codeH; rw [h]; rfl
    have e2 : khR b o x n k = 0 := by unfold khR; rw [h]; rfl
    have e3 : codeK b o x n k = 1 := by unfold codeK; rw [h]; rfl
    rw [e1, e2]; rw [e3] at HD
    clear h e1 e2 e3 hs
    go_enter Try.func13, Try.ntmps13
    go_wp2_with (first | ((with_reducible refine at_loadU (ty := 29) rfl rfl ?_); (with_reducible refine wpList_loadG F rfl rfl rfl (by first | exact m0 | exact m1 | exact m2) Try.underlying29 rfl uinfoTuningI rfl ?_)) | (go_at_call 21; ((with_reducible refine (HD.out _ F.below).mono ?_); rintro e w1 ⟨rfl, hl⟩; replace F := F.le hl; clear hl)))
    go_ret2
    exact ⟨_, rfl, by decide, by simp [fits, Lit.wf], F.below⟩
  · obtain ⟨hn, hn2⟩ := okT_n h
    cases h' : okK k
    · have e1 : codeH b o x n k = 2 := by unfold codeH; rw [h, h']; rfl
      have e2 : khR b o x n k = 0 := by unfold khR; rw [h, h']; rfl
      have e3 : codeK b o x n k = 2 := by unfold codeK; rw [h, h']; rfl
      rw [e1, e2]; rw [e3] at HD
      clear h e1 e2 e3 hs h'
      go_enter Try.func13, Try.ntmps13
      go_wp2_with (first | ((with_reducible refine at_loadU (ty := 29) rfl rfl ?_); (with_reducible refine wpList_loadG F rfl rfl rfl (by first | exact m0 | exact m1 | exact m2) Try.underlying29 rfl uinfoTuningI rfl ?_)) | (go_at_call 21; ((with_reducible refine (HD.out _ F.below).mono ?_); rintro e w1 ⟨rfl, hl⟩; replace F := F.le hl; clear hl)))
      go_ret2
      exact ⟨_, rfl, by decide, by simp [fits, Lit.wf], F.below⟩
    · obtain ⟨k1, k2⟩ := okK_in h'
      cases h3 : okTw (hqV o x n k)
      · have e1 : codeH b o x n k = 2 := by unfold codeH; rw [h, h', h3]; rfl
        have e2 : khR b o x n k = khV b o x n k := by unfold khR; rw [h, h', h3, kh_no h h3]; rfl
        have e3 : codeK b o x n k = 0 := by unfold codeK; rw [h, h']; rfl
        have HC := hid (fun (w' : World) (hl : le w w') => i_hertzF b o x n B s w' (hs.le hl) k k1 k2 hn hn2)
        rw [h3] at HC
        rw [e1, e2]; rw [e3] at HD
        clear h e1 e2 e3 hs h' h3
        go_enter Try.func13, Try.ntmps13
        go_wp2_with (first | ((with_reducible refine at_loadU (ty := 29) rfl rfl ?_); (with_reducible refine wpList_loadG F rfl rfl rfl (by first | exact m0 | exact m1 | exact m2) Try.underlying29 rfl uinfoTuningI rfl ?_)) | (go_at_call 21; ((with_reducible refine (HD.out _ F.below).mono ?_); rintro e w1 ⟨rfl, hl⟩; replace F := F.le hl; clear hl)) | (go_at_call 25; ((with_reducible refine (HC.out _ F.below).mono ?_); rintro e w1 ⟨v, rfl, hv, hfv, hl⟩; have HVV := hid hv; have HFV := hid hfv; replace F := F.le hl; clear hl hv hfv)))
        go_ret2
        exact ⟨_, rfl, HVV.out, HFV.out, F.below⟩
      · have e1 : codeH b o x n k = 0 := by unfold codeH; rw [h, h', h3]; rfl
        have e2 : khR b o x n k = khV b o x n k := by unfold khR; rw [h, h', h3]; rfl
        have e3 : codeK b o x n k = 0 := by unfold codeK; rw [h, h']; rfl
        have HC := hid (fun (w' : World) (hl : le w w') => i_hertzF b o x n B s w' (hs.le hl) k k1 k2 hn hn2)
        rw [h3] at HC
        rw [e1, e2]; rw [e3] at HD
        clear h e1 e2 e3 hs h' h3
        go_enter Try.func13, Try.ntmps13
        go_wp2_with (first | ((with_reducible refine at_loadU (ty := 29) rfl rfl ?_); (with_reducible refine wpList_loadG F rfl rfl rfl (by first | exact m0 | exact m1 | exact m2) Try.underlying29 rfl uinfoTuningI rfl ?_)) | (go_at_call 21; ((with_reducible refine (HD.out _ F.below).mono ?_); rintro e w1 ⟨rfl, hl⟩; replace F := F.le hl; clear hl)) | (go_at_call 25; ((with_reducible refine (HC.out _ F.below).mono ?_); rintro e w1 ⟨v, rfl, hv, hfv, hl⟩; have HVV := hid hv; have HFV := hid hfv; replace F := F.le hl; clear hl hv hfv)))
        go_ret2
        exact ⟨_, rfl, HVV.out, HFV.out, F.below⟩
theorem i_KeyHertz (b o : Nat) (x : Nat → Nat) (n : Nat) (B : Nat) (s : Value) (w : World) (hs : (slT x n).RdN w B s) (k : Int) : Calls Try.prog 13 #[.agg #[.float .f32 b, .float .f32 o, s], .int .i64 k] w (Out_fi (khR b o x n k) (codeH b o x n k) w) := (i_KeyHertzF b o x n B s w hs k).mono fun _ _ h => h.out
set_option maxRecDepth 100000 in
set_option maxHeartbeats 4000000 in
theorem s_l07Hertz (b o : Nat) (x : Nat → Nat) (n : Nat) (B : Nat) (s : Value) (w : World) (hs : (slT x n).RdN w B s) (k : Int) (h1 : -100 ≤ k) (h2 : k ≤ 100) (hn : 1 ≤ n) (hn2 : n ≤ 31) (g : Nat) (R : Row w g 29 #[.float .f32 b, .float .f32 o, s]) : Calls Try.prog 33 #[.pointer (some ⟨g, 0, none⟩), .int .i64 k] w fun e w' => ∃ v, e = .returned (.tuple #[.float .f32 v, .bool (okTw (hqV o x n k))]) ∧ can .f32 v = khV b o x n k ∧ fits .f32 v ∧ le w w' := by
  have HC := hid (s_l07KeyCents b o x n B s w hs k h1 h2 hn hn2 g R)
  have HT := hid (fun (c r : Nat) (w' : World) (hc : can .f32 c = kcV o x n k) (hr : can .f32 r = fop .quo .f32 c 1150681088) => (show Calls Try.prog 38 #[.float .f32 r] w' (fun e w'' => ∃ v, e = .returned (.tuple #[.float .f32 v, .bool (okTw (hqV o x n k))]) ∧ can .f32 v = can .f32 (twV (hqV o x n k)) ∧ le w' w'') from by
    have e : can .f32 r = can .f32 (hqV o x n k) := by
      rw [hr]; unfold hqV; rw [can_fop]; exact fop_congr (hc.trans (by unfold kcV; rw [can_fop])) rfl
    cases h : okTw (hqV o x n k)
    · refine (s_l07Two_no r w' ((okTw_congr e).trans h)).mono ?_
      rintro e w2 ⟨rfl, hl⟩
      exact ⟨_, rfl, by unfold twV; rw [h]; rfl, hl⟩
    · refine (s_l07Two r w' ((okTw_congr e).trans h)).mono ?_
      rintro e w2 ⟨v, rfl, hv, hl⟩
      refine ⟨_, rfl, ?_, hl⟩
      rw [hv, (pw_congr ‹can .f32 r = can .f32 (hqV o x n k)›).2.2]
      unfold twV
      rw [h, if_pos rfl]
      unfold pwV
      rw [can_can]))
  have C0 := hid (R.cell? 0)
  clear hs R
  generalize okTw (hqV o x n k) = cd at *
  have HV : Hid (khV b o x n k = fop .mul .f32 b (twV (hqV o x n k))) := rfl
  have F := Frg.nil w
  go_enter Try.func33, Try.ntmps33
  go_wp2_with (first | (go_at_call 19; ((with_reducible refine HC.out.mono ?_); rintro e w1 ⟨c, rfl, hc, hl⟩; have HCC := hid hc; replace F := F.le hl; clear hl hc)) | (with_reducible refine wpList_farith (op := .quo) rfl rfl rfl rfl rfl ?_; intro r nr er fr; replace F := F.drewN nr) | (go_at_call 38; ((with_reducible refine (HT.out c _ _ HCC.out er.out).mono ?_); rintro e w2 ⟨v, rfl, hv, hl⟩; have HVV := hid hv; replace F := F.le hl; have c0 := (Below.cell F.below (cell_lt' C0.out)).trans C0.out; clear hl hv)) | (with_reducible refine wpList_farith (op := .mul) rfl rfl rfl rfl rfl ?_; intro z nz ez fz; replace F := F.drewN nz))
  go_ret2
  refine ⟨_, rfl, ?_, fz.out, F.below⟩
  rw [ez.out, HV.out]
  exact fop_congr rfl HVV.out
set_option maxRecDepth 100000 in
set_option maxHeartbeats 4000000 in
theorem s_l07Asked (b o : Nat) (x : Nat → Nat) (n : Nat) (B : Nat) (s : Value) (w : World) (hs : (slT x n).RdN w B s) (k : Int) (g : Nat) (R : Row w g 29 #[.float .f32 b, .float .f32 o, s]) : Calls Try.prog 24 #[.pointer (some ⟨g, 0, none⟩), .int .i64 k] w (Out_fi (khR b o x n k) (codeH b o x n k) w) := by
  have HV := hid (fun (w' : World) (g : Nat) (hl : le w w') (R : Row w' g 29 #[.float .f32 b, .float .f32 o, s]) => s_l07Ok b o x n B s w' (hs.le hl) g R)
  have HK := hid (fun w' => s_l07Key k w')
  have F := Frg.nil w
  have RR := hid R
  clear R
  cases h : okT b o x n
  · have e1 : codeH b o x n k = 1 := by unfold codeH; rw [h]; rfl
    have e2 : khR b o x n k = 0 := by unfold khR; rw [h]; rfl
    rw [e1, e2]; rw [h] at HV
    clear h e1 e2 hs
    go_enter Try.func24, Try.ntmps24
    go_wp2_with (first | (go_at_call 17; ((with_reducible refine (HV.out _ _ F.below (RR.out.le F.below)).mono ?_); rintro e w1 ⟨rfl, hl⟩; replace F := F.le hl; clear hl)) | (go_at_call 18; ((with_reducible refine (HK.out _).mono ?_); rintro e w1 ⟨rfl, rfl⟩)))
    go_ret2
    exact ⟨_, rfl, by decide, F.below⟩
  · obtain ⟨hn, hn2⟩ := okT_n h
    cases h' : okK k
    · have e1 : codeH b o x n k = 2 := by unfold codeH; rw [h, h']; rfl
      have e2 : khR b o x n k = 0 := by unfold khR; rw [h, h']; rfl
      rw [e1, e2]; rw [h] at HV
      rw [h'] at HK
      clear h e1 e2 hs h'
      go_enter Try.func24, Try.ntmps24
      go_wp2_with (first | (go_at_call 17; ((with_reducible refine (HV.out _ _ F.below (RR.out.le F.below)).mono ?_); rintro e w1 ⟨rfl, hl⟩; replace F := F.le hl; clear hl)) | (go_at_call 18; ((with_reducible refine (HK.out _).mono ?_); rintro e w1 ⟨rfl, rfl⟩)))
      go_ret2
      exact ⟨_, rfl, by decide, F.below⟩
    · obtain ⟨k1, k2⟩ := okK_in h'
      cases h3 : okTw (hqV o x n k)
      · have e1 : codeH b o x n k = 2 := by unfold codeH; rw [h, h', h3]; rfl
        have e2 : khR b o x n k = khV b o x n k := by unfold khR; rw [h, h', h3, kh_no h h3]; rfl
        have HZ : Hid (can .f32 0 = khV b o x n k) := (show can .f32 0 = khV b o x n k by rw [kh_no h h3]; decide)
        have HC := hid (fun (w' : World) (g : Nat) (hl : le w w') (R : Row w' g 29 #[.float .f32 b, .float .f32 o, s]) => s_l07Hertz b o x n B s w' (hs.le hl) k k1 k2 hn hn2 g R)
        rw [h3] at HC
        rw [e1, e2]; rw [h] at HV
        rw [h'] at HK
        clear h e1 e2 hs h' h3
        go_enter Try.func24, Try.ntmps24
        go_wp2_with (first | (go_at_call 17; ((with_reducible refine (HV.out _ _ F.below (RR.out.le F.below)).mono ?_); rintro e w1 ⟨rfl, hl⟩; replace F := F.le hl; clear hl)) | (go_at_call 18; ((with_reducible refine (HK.out _).mono ?_); rintro e w1 ⟨rfl, rfl⟩)) | (go_at_call 33; ((with_reducible refine (HC.out _ _ F.below (RR.out.le F.below)).mono ?_); rintro e w1 ⟨v, rfl, hv, _, hl⟩; have HVV := hid hv; replace F := F.le hl; clear hl hv)))
        go_ret2
        exact ⟨_, rfl, HZ.out, F.below⟩
      · have e1 : codeH b o x n k = 0 := by unfold codeH; rw [h, h', h3]; rfl
        have e2 : khR b o x n k = khV b o x n k := by unfold khR; rw [h, h', h3]; rfl
        have HC := hid (fun (w' : World) (g : Nat) (hl : le w w') (R : Row w' g 29 #[.float .f32 b, .float .f32 o, s]) => s_l07Hertz b o x n B s w' (hs.le hl) k k1 k2 hn hn2 g R)
        rw [h3] at HC
        rw [e1, e2]; rw [h] at HV
        rw [h'] at HK
        clear h e1 e2 hs h' h3
        go_enter Try.func24, Try.ntmps24
        go_wp2_with (first | (go_at_call 17; ((with_reducible refine (HV.out _ _ F.below (RR.out.le F.below)).mono ?_); rintro e w1 ⟨rfl, hl⟩; replace F := F.le hl; clear hl)) | (go_at_call 18; ((with_reducible refine (HK.out _).mono ?_); rintro e w1 ⟨rfl, rfl⟩)) | (go_at_call 33; ((with_reducible refine (HC.out _ _ F.below (RR.out.le F.below)).mono ?_); rintro e w1 ⟨v, rfl, hv, _, hl⟩; have HVV := hid hv; replace F := F.le hl; clear hl hv)))
        go_ret2
        exact ⟨_, rfl, HVV.out, F.below⟩
set_option maxRecDepth 100000 in
set_option maxHeartbeats 4000000 in
theorem s_KeyHertz (b o : Nat) (x : Nat → Nat) (n : Nat) (B : Nat) (s : Value) (w : World) (hs : (slT x n).RdN w B s) (k : Int) : Calls Try.prog 12 #[.agg #[.float .f32 b, .float .f32 o, s], .int .i64 k] w (Out_fi (khR b o x n k) (codeH b o x n k) w) := by
  have HA := hid (fun (w' : World) (g : Nat) (hl : le w w') (R : Row w' g 29 #[.float .f32 b, .float .f32 o, s]) => s_l07Asked b o x n B s w' (hs.le hl) k g R)
  clear hs
  have F := (Frg.nil w).box 29 #[.float .f32 b, .float .f32 o, s]
  generalize khR b o x n k = kv at *
  generalize codeH b o x n k = kc at *
  go_enter Try.func12, Try.ntmps12
  go_wp2_with (go_at_call 24; ((with_reducible refine (HA.out _ _ F.below (F.row m0)).mono ?_); rintro e w1 ⟨v, rfl, hv, hl⟩; have HVV := hid hv; replace F := F.le hl; clear hl hv))
  go_ret2
  exact ⟨_, rfl, HVV.out, F.below⟩
theorem both_KeyHertz (cs : List CD) (h : HasShL shTuning cs) (k : Int) : ∃ (ar0 : Nat) (ar1 : Int), (∀ (w : World) (B : Nat) (u : List Value), RdLN w B (cs.map CD.cp) u → Calls Try.prog 12 #[.agg u.toArray, .int .i64 k] w (Out_fi ar0 ar1 w)) ∧ (∀ (w : World) (B : Nat) (u : List Value), RdLN w B (cs.map CD.cp) u → Calls Try.prog 13 #[.agg u.toArray, .int .i64 k] w (Out_fi ar0 ar1 w)) := by
  obtain ⟨b, o, xs, n, rfl, hx⟩ := tun_data h
  refine ⟨khR b o (fun i => (xs i).fx) n k, codeH b o (fun i => (xs i).fx) n k, fun w B u hu => ?_, fun w B u hu => ?_⟩
  · obtain ⟨s, rfl, hs, _, _⟩ := tun_open hu hx
    exact s_KeyHertz b o (fun i => (xs i).fx) n B s w hs k
  · obtain ⟨s, rfl, hs, _, _⟩ := tun_open hu hx
    exact i_KeyHertz b o (fun i => (xs i).fx) n B s w hs k
def codeP (b o : Nat) (x : Nat → Nat) (n : Nat) (k : Int) (r : Nat) : Int := if codeH b o x n k = 0 then (if withinB r 1065353216 1232348160 then 0 else 2) else codeH b o x n k
def ppR (b o : Nat) (x : Nat → Nat) (n : Nat) (k : Int) (r : Nat) : Nat := if codeH b o x n k = 0 then (if withinB r 1065353216 1232348160 then fop .quo .f32 r (khR b o x n k) else 0) else 0
set_option maxRecDepth 100000 in
set_option maxHeartbeats 4000000 in
theorem i_PeriodOfKey (b o : Nat) (x : Nat → Nat) (n : Nat) (B : Nat) (s : Value) (w : World) (hs : (slT x n).RdN w B s) (k : Int) (r : Nat) : Calls Try.prog 15 #[.agg #[.float .f32 b, .float .f32 o, s], .int .i64 k, .float .f32 r] w (Out_fi (ppR b o x n k r) (codeP b o x n k r) w) := by
  have HA := hid (fun (w' : World) (hl : le w w') => i_KeyHertz b o x n B s w' (hs.le hl) k)
  have HW := hid (fun w' => i_isWithin r 1065353216 1232348160 w')
  clear hs
  have F := (Frg.nil w).box 29 #[.float .f32 b, .float .f32 o, s]
  by_cases hc : codeH b o x n k = 0
  · cases hw : withinB r 1065353216 1232348160
    · have e1 : codeP b o x n k r = 2 := by unfold codeP; rw [if_pos hc, hw]; rfl
      have e2 : ppR b o x n k r = 0 := by unfold ppR; rw [if_pos hc, hw]; rfl
      rw [hw] at HW; rw [hc] at HA
      rw [e1, e2]
      clear hc hw e1 e2; generalize khR b o x n k = kv at *
      go_enter Try.func15, Try.ntmps15
      go_wp2_with (first | ((with_reducible refine at_loadU (ty := 29) rfl rfl ?_); (with_reducible refine wpList_loadG F rfl rfl rfl (by first | exact m0 | exact m1 | exact m2) Try.underlying29 rfl uinfoTuningI rfl ?_)) | (go_at_call 13; ((with_reducible refine (HA.out _ F.below).mono ?_); rintro e w1 ⟨v, rfl, hv, hl⟩; have HVV := hid hv; replace F := F.le hl; clear hl hv)) | (go_at_call 26; ((with_reducible refine (HW.out _).mono ?_); rintro e w2 ⟨rfl, rfl⟩)))
      go_ret2
      exact ⟨_, rfl, by decide, F.below⟩
    · have e1 : codeP b o x n k r = 0 := by unfold codeP; rw [if_pos hc, hw]; rfl
      have e2 : ppR b o x n k r = fop .quo .f32 r (khR b o x n k) := by unfold ppR; rw [if_pos hc, hw]; rfl
      rw [hw] at HW; rw [hc] at HA
      rw [e1, e2]
      clear hc hw e1 e2; generalize khR b o x n k = kv at *
      go_enter Try.func15, Try.ntmps15
      go_wp2_with (first | ((with_reducible refine at_loadU (ty := 29) rfl rfl ?_); (with_reducible refine wpList_loadG F rfl rfl rfl (by first | exact m0 | exact m1 | exact m2) Try.underlying29 rfl uinfoTuningI rfl ?_)) | (go_at_call 13; ((with_reducible refine (HA.out _ F.below).mono ?_); rintro e w1 ⟨v, rfl, hv, hl⟩; have HVV := hid hv; replace F := F.le hl; clear hl hv)) | (go_at_call 26; ((with_reducible refine (HW.out _).mono ?_); rintro e w2 ⟨rfl, rfl⟩)) | (with_reducible refine wpList_farith (op := .quo) rfl rfl rfl rfl rfl ?_; intro z nz ez fz; replace F := F.drewN nz))
      go_ret2
      refine ⟨_, rfl, ?_, F.below⟩
      rw [ez.out]
      exact fop_congr rfl (by rw [← HVV.out, can_can])
  · have e1 : codeP b o x n k r = codeH b o x n k := by unfold codeP; rw [if_neg hc]
    have e2 : ppR b o x n k r = 0 := by unfold ppR; rw [if_neg hc]
    rw [e1, e2]
    clear e1 e2; generalize khR b o x n k = kv at *; generalize codeH b o x n k = kc at *
    go_enter Try.func15, Try.ntmps15
    go_wp2_with (first | ((with_reducible refine at_loadU (ty := 29) rfl rfl ?_); (with_reducible refine wpList_loadG F rfl rfl rfl (by first | exact m0 | exact m1 | exact m2) Try.underlying29 rfl uinfoTuningI rfl ?_)) | (go_at_call 13; ((with_reducible refine (HA.out _ F.below).mono ?_); rintro e w1 ⟨v, rfl, hv, hl⟩; have HVV := hid hv; replace F := F.le hl; clear hl hv)) | (go_at_call 26; ((with_reducible refine (HW.out _).mono ?_); rintro e w2 ⟨rfl, rfl⟩)))
    go_ret2
    exact ⟨_, rfl, by decide, F.below⟩
set_option maxRecDepth 100000 in
set_option maxHeartbeats 4000000 in
theorem s_PeriodOfKey (b o : Nat) (x : Nat → Nat) (n : Nat) (B : Nat) (s : Value) (w : World) (hs : (slT x n).RdN w B s) (k : Int) (r : Nat) : Calls Try.prog 14 #[.agg #[.float .f32 b, .float .f32 o, s], .int .i64 k, .float .f32 r] w (Out_fi (ppR b o x n k r) (codeP b o x n k r) w) := by
  have HA := hid (fun (w' : World) (g : Nat) (hl : le w w') (R : Row w' g 29 #[.float .f32 b, .float .f32 o, s]) => s_l07Asked b o x n B s w' (hs.le hl) k g R)
  clear hs
  have F := (Frg.nil w).box 29 #[.float .f32 b, .float .f32 o, s]
  by_cases hc : codeH b o x n k = 0
  · cases w1 : (FloatKind.f32.format.order r 1065353216 == some .gt || FloatKind.f32.format.order r 1065353216 == some .eq)
    · have hw : withinB r 1065353216 1232348160 = false := by unfold withinB; rw [w1, Bool.false_and]
      have e1 : codeP b o x n k r = 2 := by unfold codeP; rw [if_pos hc, hw]; rfl
      have e2 : ppR b o x n k r = 0 := by unfold ppR; rw [if_pos hc, hw]; rfl
      rw [hc] at HA
      rw [e1, e2]
      clear hc hw e1 e2; generalize khR b o x n k = kv at *
      go_enter Try.func14, Try.ntmps14
      go_wp2_with (first | (go_at_call 24; ((with_reducible refine (HA.out _ _ F.below (F.row m0)).mono ?_); rintro e w1 ⟨v, rfl, hv, hl⟩; have HVV := hid hv; replace F := F.le hl; clear hl hv)))
      go_ret2
      exact ⟨_, rfl, by decide, F.below⟩
    cases w2 : (FloatKind.f32.format.order r 1232348160 == some .lt || FloatKind.f32.format.order r 1232348160 == some .eq)
    · have hw : withinB r 1065353216 1232348160 = false := by unfold withinB; rw [w1, w2, Bool.true_and]
      have e1 : codeP b o x n k r = 2 := by unfold codeP; rw [if_pos hc, hw]; rfl
      have e2 : ppR b o x n k r = 0 := by unfold ppR; rw [if_pos hc, hw]; rfl
      rw [hc] at HA
      rw [e1, e2]
      clear hc hw e1 e2; generalize khR b o x n k = kv at *
      go_enter Try.func14, Try.ntmps14
      go_wp2_with (first | (go_at_call 24; ((with_reducible refine (HA.out _ _ F.below (F.row m0)).mono ?_); rintro e w1 ⟨v, rfl, hv, hl⟩; have HVV := hid hv; replace F := F.le hl; clear hl hv)))
      go_ret2
      exact ⟨_, rfl, by decide, F.below⟩
    · have hw : withinB r 1065353216 1232348160 = true := by unfold withinB; rw [w1, w2, Bool.true_and]
      have e1 : codeP b o x n k r = 0 := by unfold codeP; rw [if_pos hc, hw]; rfl
      have e2 : ppR b o x n k r = fop .quo .f32 r (khR b o x n k) := by unfold ppR; rw [if_pos hc, hw]; rfl
      rw [hc] at HA
      rw [e1, e2]
      clear hc hw e1 e2; generalize khR b o x n k = kv at *
      go_enter Try.func14, Try.ntmps14
      go_wp2_with (first | (go_at_call 24; ((with_reducible refine (HA.out _ _ F.below (F.row m0)).mono ?_); rintro e w1 ⟨v, rfl, hv, hl⟩; have HVV := hid hv; replace F := F.le hl; clear hl hv)) | (with_reducible refine wpList_farith (op := .quo) rfl rfl rfl rfl rfl ?_; intro z nz ez fz; replace F := F.drewN nz))
      go_ret2
      refine ⟨_, rfl, ?_, F.below⟩
      rw [ez.out]
      exact fop_congr rfl (by rw [← HVV.out, can_can])
  · have e1 : codeP b o x n k r = codeH b o x n k := by unfold codeP; rw [if_neg hc]
    have e2 : ppR b o x n k r = 0 := by unfold ppR; rw [if_neg hc]
    rw [e1, e2]
    clear e1 e2; generalize khR b o x n k = kv at *; generalize codeH b o x n k = kc at *
    go_enter Try.func14, Try.ntmps14
    go_wp2_with (first | (go_at_call 24; ((with_reducible refine (HA.out _ _ F.below (F.row m0)).mono ?_); rintro e w1 ⟨v, rfl, hv, hl⟩; have HVV := hid hv; replace F := F.le hl; clear hl hv)))
    go_ret2
    exact ⟨_, rfl, by decide, F.below⟩
theorem both_PeriodOfKey (cs : List CD) (h : HasShL shTuning cs) (k : Int) (r : Nat) : ∃ (ar0 : Nat) (ar1 : Int), (∀ (w : World) (B : Nat) (u : List Value), RdLN w B (cs.map CD.cp) u → Calls Try.prog 14 #[.agg u.toArray, .int .i64 k, .float .f32 r] w (Out_fi ar0 ar1 w)) ∧ (∀ (w : World) (B : Nat) (u : List Value), RdLN w B (cs.map CD.cp) u → Calls Try.prog 15 #[.agg u.toArray, .int .i64 k, .float .f32 r] w (Out_fi ar0 ar1 w)) := by
  obtain ⟨b, o, xs, n, rfl, hx⟩ := tun_data h
  refine ⟨ppR b o (fun i => (xs i).fx) n k r, codeP b o (fun i => (xs i).fx) n k r, fun w B u hu => ?_, fun w B u hu => ?_⟩
  · obtain ⟨s, rfl, hs, _, _⟩ := tun_open hu hx
    exact s_PeriodOfKey b o (fun i => (xs i).fx) n B s w hs k r
  · obtain ⟨s, rfl, hs, _, _⟩ := tun_open hu hx
    exact i_PeriodOfKey b o (fun i => (xs i).fx) n B s w hs k r
end Go.Proofs.Ytanjemoeologiaa

/- The walk of 'FnExactPeriodOfKey'. -/
namespace Go.Proofs.Ytanjemoeologiaa.fnExactPeriodOfKey
open Go.RowKit Go.Fk
set_option maxRecDepth 100000 in
set_option maxHeartbeats 4000000 in
theorem core (cs0 : List CD) (vs0 : List Value) (a1 : Int) (a2 : Nat) (ar0 : Nat) (ar1 : Int) (w : World) (z0 : RdL w w.heap.size cs0 vs0) (k0 : ShOkL shTuning cs0) (hz : szL cs0 ≤ 1048576)
    (hS : ∀ (w : World) (B0 : Nat) (u0 : List Value), RdLN w B0 (cs0.map CD.cp) u0 → Calls Try.prog 14 #[.agg u0.toArray, .int .i64 a1, .float .f32 a2] w (Out_fi ar0 ar1 w))
    (hI : ∀ (w : World) (B0 : Nat) (u0 : List Value), RdLN w B0 (cs0.map CD.cp) u0 → Calls Try.prog 15 #[.agg u0.toArray, .int .i64 a1, .float .f32 a2] w (Out_fi ar0 ar1 w)) :
    Calls Try.prog 5 #[.agg vs0.toArray, .int .i64 a1, .float .f32 a2] w fun e w' => e = .returned (.bool true) ∧ Below w.heap.size w w' := by
  have Z0 := hid z0; have K0 := hid k0; have hl0 : Hid (vs0.length = 3) := z0.1.trans k0.1; clear z0 k0
  have hz0 : szL cs0 ≤ 1048576 := by omega
  have hm0 : ¬ (1048576 : Int) - (szL cs0 : Nat) < 0 := by omega
  have HS := hid hS; have HI := hid hI; clear hS hI
  have F := Frg.nil w
  replace F := F.box 25 vs0.toArray
  go_enter Try.func5, Try.ntmps5
  go_wp2_with (first | (((with_reducible refine listN F ?_); clear F; intro wN F)) | ((with_reducible refine at_loadU rfl rfl ?_); first | (with_reducible refine wpList_loadG F rfl rfl rfl (by first | exact m0 | exact m1 | exact m2 | exact m3 | exact m4 | exact m5 | exact m6 | exact m7 | exact m8) Try.underlying29 rfl uinfoTuningI (by simp only [List.size_toArray]; first | exact hl0.out | exact hl1.out | exact hu0.out | exact hu1.out) ?_) | (with_reducible refine wpList_loadG F rfl rfl rfl (by first | exact m0 | exact m1 | exact m2 | exact m3 | exact m4 | exact m5 | exact m6 | exact m7 | exact m8) Try.underlying25 rfl uinfoTuningL (by simp only [List.size_toArray]; first | exact hl0.out | exact hl1.out | exact hu0.out | exact hu1.out) ?_)) | (go_at_call 6; ((with_reducible refine (szU_Tuning _ cs0 vs0 (1048576 : Int) ((1048576 : Int) - (szL cs0 : Nat)) _ (Z0.out.le F.below) K0.out (by omega) (by omega) (lessBy_pos hm0)).mono ?_); rintro e w1 ⟨rfl, hb1⟩; replace F := F.le hb1)) | (go_at_call 8; ((with_reducible refine (toU_Tuning _ cs0 vs0 _ (Z0.out.le F.below) K0.out hz0).mono ?_); rintro e w1 ⟨usA0, rfl, ho, hl⟩; have hu0 : Hid (usA0.length = 3) := ho.1.trans ((List.length_map ..).trans K0.out.1); have ho0 := hid ho.all_one; replace F := F.lay1 hl ho; clear ho hl)))
  first | ((with_reducible refine callAt0 F ?_); clear F; intro wN F) | ((with_reducible refine callAtN F ?_); clear F; intro wN F)
  refine (HS.out _ _ _ (F.layN (by first | exact m0 | exact m1 | exact m2 | exact m3 | exact m4 | exact m5 | exact m6 | exact m7 | exact m8))).mono ?_
  rintro e wS ⟨vS0, rfl, cS0, hlS⟩
  replace cS0 := hid cS0
  replace F := F.le hlS
  go_wp2_with (first | (((with_reducible refine listN F ?_); clear F; intro wN F)) | ((with_reducible refine at_store rfl ?_); first | (refine wpList_storeG F rfl rfl rfl rfl rfl (by simp only [List.size_toArray]; first | (rw [hu0.out]; exact uinfoTuningI) | (rw [hu1.out]; exact uinfoTuningI)) (by simp only [List.size_toArray]; first | (rw [hu0.out]; rfl) | (rw [hu1.out]; rfl)) (by first | exact ho0.out | exact ho1.out) ?_; clear F; intro W F zW; clear zW)) | ((with_reducible refine at_loadU rfl rfl ?_); first | (with_reducible refine wpList_loadG F rfl rfl rfl (by first | exact m0 | exact m1 | exact m2 | exact m3 | exact m4 | exact m5 | exact m6 | exact m7 | exact m8) Try.underlying29 rfl uinfoTuningI (by simp only [List.size_toArray]; first | exact hl0.out | exact hl1.out | exact hu0.out | exact hu1.out) ?_) | (with_reducible refine wpList_loadG F rfl rfl rfl (by first | exact m0 | exact m1 | exact m2 | exact m3 | exact m4 | exact m5 | exact m6 | exact m7 | exact m8) Try.underlying25 rfl uinfoTuningL (by simp only [List.size_toArray]; first | exact hl0.out | exact hl1.out | exact hu0.out | exact hu1.out) ?_)) | (go_at_call 8; ((with_reducible refine (toU_Tuning _ cs0 vs0 _ (Z0.out.le F.below) K0.out hz0).mono ?_); rintro e w1 ⟨usB0, rfl, ho, hl⟩; have hu0 : Hid (usB0.length = 3) := ho.1.trans ((List.length_map ..).trans K0.out.1); have ho0 := hid ho.all_one; replace F := F.lay1 hl ho; clear ho hl)))
  first | ((with_reducible refine callAt0 F ?_); clear F; intro wN F) | ((with_reducible refine callAtN F ?_); clear F; intro wN F)
  refine (HI.out _ _ _ (F.layN (by first | exact m0 | exact m1 | exact m2 | exact m3 | exact m4 | exact m5 | exact m6 | exact m7 | exact m8))).mono ?_
  rintro e wI ⟨vI0, rfl, cI0, hlI⟩
  replace cI0 := hid cI0
  replace F := F.le hlI
  go_wp2_with (first | (((with_reducible refine listN F ?_); clear F; intro wN F)) | ((with_reducible refine at_store rfl ?_); first | (refine wpList_storeG F rfl rfl rfl rfl rfl (by simp only [List.size_toArray]; first | (rw [hu0.out]; exact uinfoTuningI) | (rw [hu1.out]; exact uinfoTuningI)) (by simp only [List.size_toArray]; first | (rw [hu0.out]; rfl) | (rw [hu1.out]; rfl)) (by first | exact ho0.out | exact ho1.out) ?_; clear F; intro W F zW; clear zW)) | ((with_reducible refine at_loadU rfl rfl ?_); first | (with_reducible refine wpList_loadG F rfl rfl rfl (by first | exact m0 | exact m1 | exact m2 | exact m3 | exact m4 | exact m5 | exact m6 | exact m7 | exact m8) Try.underlying29 rfl uinfoTuningI (by simp only [List.size_toArray]; first | exact hl0.out | exact hl1.out | exact hu0.out | exact hu1.out) ?_) | (with_reducible refine wpList_loadG F rfl rfl rfl (by first | exact m0 | exact m1 | exact m2 | exact m3 | exact m4 | exact m5 | exact m6 | exact m7 | exact m8) Try.underlying25 rfl uinfoTuningL (by simp only [List.size_toArray]; first | exact hl0.out | exact hl1.out | exact hu0.out | exact hu1.out) ?_)) | ((with_reducible refine at_convert rfl ?_); first | (with_reducible refine wpList_widen rfl rfl rfl Try.underlying22 Try.underlying32 ?_; intro s1 n1 h1 f1) | (with_reducible refine wpList_widenG rfl rfl Try.underlying22 Try.underlying32 (by kernel_rfl) ?_; intro s1 n1 h1 f1)) | (go_at_call 10; ((with_reducible refine (sameFloat_yes _ _ _ (by exact ((Hid.out ‹Hid (can .f64 _ = can .f64 (widen vI0))›).trans ((congrArg (can .f64) (widen_congr (cI0.out.trans cS0.out.symm))).trans (Hid.out ‹Hid (can .f64 _ = can .f64 (widen vS0))›).symm)))).mono ?_); rintro e w7 ⟨rfl, dq7, rfl⟩; skip)))
  first | (refine wpAt0 F ?_; clear F; intro wN F) | (refine wpAtN F ?_; clear F; intro wN F)
  refine region_freeD (E := leX) (fun f _ w v => if f = 8 then ∃ (us : List Value) (B : Nat), v = .agg us.toArray ∧ RdL w B (cs0.map CD.cp) us else v = .bool true) (by kernel_rfl) (by kernel_rfl) ?_
  refine wpFreeD_loadG F rfl rfl rfl rfl (by first | exact m0 | exact m1 | exact m2 | exact m3 | exact m4 | exact m5 | exact m6 | exact m7 | exact m8) Try.underlying29 rfl uinfoTuningI (by simp only [List.size_toArray]; exact hu0.out) ?_
  simp only [Act.put, List.setIfInBounds_toArray, List.set_cons_succ, List.set_cons_zero]
  refine wpFreeD_loadG F rfl rfl rfl rfl (by first | exact m0 | exact m1 | exact m2 | exact m3 | exact m4 | exact m5 | exact m6 | exact m7 | exact m8) Try.underlying25 rfl uinfoTuningL (by simp only [List.size_toArray]; exact hl0.out) ?_
  simp only [Act.put, List.setIfInBounds_toArray, List.set_cons_succ, List.set_cons_zero]
  refine wpFreeD_callB rfl rfl Try.func8 (by kernel_rfl) (by kernel_rfl) (args := #[.agg vs0.toArray]) (by simp [Act.eval]) (fun v w1 w2 hw hv => by simp only [if_true] at hv ⊢; obtain ⟨u, B, h1, h2⟩ := hv; exact ⟨u, B, h1, h2.le hw⟩) (fun w1 hw1 _ => (toU_Tuning _ cs0 vs0 w1 (Z0.out.le (le_trans (F.drewN _).below hw1)) K0.out hz0).mono ?_) ?_
  · rintro e w2 ⟨u, rfl, ho, hl⟩
    exact ⟨_, rfl, hl, by simp only [if_true]; exact ⟨u, _, rfl, ho.rd (fun _ hj => hj.2)⟩⟩
  rintro v ⟨_, _, _, hv⟩
  simp only [if_true] at hv
  obtain ⟨u0, Bu0, rfl, _⟩ := hv
  simp only [Act.put, List.setIfInBounds_toArray, List.set_cons_succ, List.set_cons_zero]
  refine wpFreeD_callB rfl rfl Try.func11 (by kernel_rfl) (by kernel_rfl) (args := #[.agg usB0.toArray, .agg u0.toArray]) (by simp [Act.eval]) (fun v w1 w2 hw hv => by simp only [show ¬ (11 = 8) by decide, if_false] at hv ⊢; exact hv) (fun w1 hw1 hbe => ?_) ?_
  · have hk := (hbe ⟨2, Ground.data⟩ (by simp) (by kernel_rfl)).2 rfl
    simp only [if_true] at hk
    obtain ⟨u', B', he, hr⟩ := hk
    obtain rfl : u0 = u' := by simpa using he
    refine (eqU_Tuning _ _ (cs0.map CD.cp) _ _ _ (((F.drewN 1).le hw1).layR (by first | exact m0 | exact m1 | exact m2 | exact m3 | exact m4 | exact m5 | exact m6 | exact m7 | exact m8)) hr K0.out.cp (by rw [szL_cp]; exact hz0)).mono ?_
    rintro e w2 ⟨rfl, hl⟩
    exact ⟨_, rfl, hl, by simp only [show ¬ (11 = 8) by decide, if_false]⟩
  rintro v ⟨_, _, _, hv⟩
  simp only [show ¬ (11 = 8) by decide, if_false] at hv
  subst hv
  simp only [Act.put, List.setIfInBounds_toArray, List.set_cons_succ, List.set_cons_zero]
  refine wpFreeD_one rfl (.bool false) (fun w1 _ => by kernel_rfl) ?_
  simp only [Act.put, List.setIfInBounds_toArray, List.set_cons_succ, List.set_cons_zero]
  refine wpFreeD_nil (fun wR hwR _ => ?_)
  replace F := (F.drewN 1).le hwR
  clear hwR
  go_wp2_with (first | (((with_reducible refine listN F ?_); clear F; intro wN F)) | ((with_reducible refine at_loadU rfl rfl ?_); first | (with_reducible refine wpList_loadG F rfl rfl rfl (by first | exact m0 | exact m1 | exact m2 | exact m3 | exact m4 | exact m5 | exact m6 | exact m7 | exact m8) Try.underlying29 rfl uinfoTuningI (by simp only [List.size_toArray]; first | exact hl0.out | exact hl1.out | exact hu0.out | exact hu1.out) ?_) | (with_reducible refine wpList_loadG F rfl rfl rfl (by first | exact m0 | exact m1 | exact m2 | exact m3 | exact m4 | exact m5 | exact m6 | exact m7 | exact m8) Try.underlying25 rfl uinfoTuningL (by simp only [List.size_toArray]; first | exact hl0.out | exact hl1.out | exact hu0.out | exact hu1.out) ?_)))
  go_ret
  first | exact ⟨rfl, F.below⟩ | exact ⟨rfl, below_drewN F.below _⟩
set_option maxRecDepth 100000 in
set_option maxHeartbeats 4000000 in
theorem large0 (cs0 : List CD) (vs0 : List Value) (a1 : Int) (a2 : Nat) (w : World) (z0 : RdL w w.heap.size cs0 vs0) (k0 : ShOkL shTuning cs0)  (hg : ¬ szL cs0 ≤ 1048576) :
    Calls Try.prog 5 #[.agg vs0.toArray, .int .i64 a1, .float .f32 a2] w fun e w' => e = .returned (.bool true) ∧ Below w.heap.size w w' := by
  have Z0 := hid z0; have K0 := hid k0; have hl0 : Hid (vs0.length = 3) := z0.1.trans k0.1; clear z0 k0
  have hn0 : (1048576 : Int) - (szL cs0 : Nat) < 0 := by omega
  have F := Frg.nil w
  replace F := F.box 25 vs0.toArray
  go_enter Try.func5, Try.ntmps5
  go_wp2_with (first | (((with_reducible refine listN F ?_); clear F; intro wN F)) | ((with_reducible refine at_loadU rfl rfl ?_); first | (with_reducible refine wpList_loadG F rfl rfl rfl (by first | exact m0 | exact m1 | exact m2 | exact m3 | exact m4 | exact m5 | exact m6 | exact m7 | exact m8) Try.underlying29 rfl uinfoTuningI (by simp only [List.size_toArray]; first | exact hl0.out | exact hl1.out | exact hu0.out | exact hu1.out) ?_) | (with_reducible refine wpList_loadG F rfl rfl rfl (by first | exact m0 | exact m1 | exact m2 | exact m3 | exact m4 | exact m5 | exact m6 | exact m7 | exact m8) Try.underlying25 rfl uinfoTuningL (by simp only [List.size_toArray]; first | exact hl0.out | exact hl1.out | exact hu0.out | exact hu1.out) ?_)) | (go_at_call 6; ((with_reducible refine (szU_Tuning _ cs0 vs0 (1048576 : Int) (-1 : Int) _ (Z0.out.le F.below) K0.out (by omega) (by omega) (lessBy_neg hn0)).mono ?_); rintro e w1 ⟨rfl, hb1⟩; replace F := F.le hb1)))
  go_ret
  first | exact ⟨rfl, F.below⟩ | exact ⟨rfl, below_drewN F.below _⟩
theorem walk (cs0 : List CD) (vs0 : List Value) (a1 : Int) (a2 : Nat) (w : World) (k0 : HasShL shTuning cs0) (z0 : RdL w w.heap.size cs0 vs0) (w1 : (Lit.int .i64 a1).wf = true) (w2 : fits .f32 a2) :
    Calls Try.prog 5 #[.agg vs0.toArray, .int .i64 a1, .float .f32 a2] w fun e w' => e = .returned (.bool true) ∧ Below w.heap.size w w' := by
  by_cases g0 : szL cs0 ≤ 1048576
  · skip
    obtain ⟨ar0, ar1, hS, hI⟩ := both_PeriodOfKey cs0 k0 a1 a2
    exact core cs0 vs0 a1 a2 ar0 ar1 w z0 k0.ok g0 hS hI
  · exact large0 cs0 vs0 a1 a2 w z0 k0.ok  g0
end Go.Proofs.Ytanjemoeologiaa.fnExactPeriodOfKey
