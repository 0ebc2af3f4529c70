/- Values that stay exact: the whole number below, differences that are known to be small. Nothing here names a program. -/
import Derived.Test.YtpfdegimnjbehabInteg
import Derived.Test.YtpfdegimnjbehabExact
namespace Go.Fk
open Go Go.RowKit

/-- What a wide number's datum is made of. -/
theorem read64 {b : Nat} {s : Bool} {m : Nat} {e : Int} (h : FloatKind.f64.format.read b = .number s m e) : -1074 ≤ e ∧ (m ≠ 0 → m.log2 ≤ 52 ∧ e + m.log2 + 1 ≤ 1024) := by
  refine ⟨?_, fun h0 => ⟨?_, lt64 h h0⟩⟩
  all_goals
    have e1 : Ieee.double.signWeight = 9223372036854775808 := by decide
    have e2 : Ieee.double.infRung = 9218868437227405312 := by decide
    have e3 : Ieee.double.binade = 4503599627370496 := by decide
    have e4 : Ieee.double.leastPlace = -1074 := by decide
    simp only [FloatKind.format, Ieee.Format.read, e1, e2, e3, e4] at h
    split at h
    · simp only [Ieee.Datum.number.injEq] at h
      obtain ⟨_, rfl, rfl⟩ := h
      first | omega | (have : (b % 9223372036854775808).log2 < 52 := (Nat.log2_lt h0).2 (by omega)
                       omega)
    · split at h
      · simp only [Ieee.Datum.number.injEq] at h
        obtain ⟨_, rfl, rfl⟩ := h
        first | omega | (have : (4503599627370496 + b % 9223372036854775808 % 4503599627370496).log2 < 53 := (Nat.log2_lt h0).2 (by omega)
                         omega)
      · split at h <;> cases h

/-- The value of what is written exactly. -/
theorem val_nearest {s : Bool} {m : Nat} {e : Int} (hm : m ≠ 0) (hp : m.log2 ≤ 52) (he : -1074 ≤ e) (ho : e + m.log2 ≤ 1023) :
    val .f64 (FloatKind.f64.format.nearest s m e) = Ieee.signed s m (e + 1074).toNat ∧ ∃ B, lt .f64 (FloatKind.f64.format.nearest s m e) B := by
  obtain ⟨b1, b2, b3, b4, b5⟩ := bits64
  obtain ⟨h5, _⟩ := read_nearest FloatKind.f64.format s m e hm (by omega) (by omega) (by rw [b1, b2, b3]; omega) (by omega)
  refine ⟨?_, _, _, _, _, h5, fun _ => Int.le_refl _⟩
  have h1 : lastOf FloatKind.f64.format m e ≤ e := by unfold lastOf; omega
  have h2 : -1074 ≤ lastOf FloatKind.f64.format m e := by unfold lastOf; omega
  simp only [val, h5]
  rw [signed_eq, signed_eq]
  have hu : ((unitOf .f64 : Nat) : Int) = 1074 := rfl
  rw [hu]
  generalize lastOf FloatKind.f64.format m e = last at *
  have e1 : (2 : Int) ^ (e + 1074).toNat = 2 ^ (e - last).toNat * 2 ^ (last + 1074).toNat := by
    rw [← Int.pow_add]; congr 1; omega
  rw [e1, Int.natCast_mul, Int.natCast_pow]
  cases s
  · simp [Int.mul_assoc]
  · simp [Int.mul_assoc, Int.neg_mul]

theorem cut_down (s : Bool) (n d : Nat) : Ieee.Toward.down.cut s n d = n / 2 ^ d + (s && (n % 2 ^ d != 0)).toNat := by
  simp only [Ieee.Toward.cut, Nat.one_shiftLeft]
  by_cases hd : d ≤ n.log2 + 2
  · rw [Nat.min_eq_left hd]
  · rw [Nat.min_eq_right (by omega)]
    have h1 : n < 2 ^ (n.log2 + 1) := Nat.lt_log2_self
    have h2 : 2 ^ (n.log2 + 1) ≤ 2 ^ (n.log2 + 2) := Nat.pow_le_pow_right (by omega) (by omega)
    have h3 : 2 ^ (n.log2 + 1) ≤ 2 ^ d := Nat.pow_le_pow_right (by omega) (by omega)
    rw [Nat.div_eq_of_lt (by omega), Nat.div_eq_of_lt (by omega), Nat.mod_eq_of_lt (by omega), Nat.mod_eq_of_lt (by omega)]

theorem floor_nat (s : Bool) (X U : Nat) (hU : 0 < U) : (if s then -((X / U + (s && (X % U != 0)).toNat : Nat) : Int) else ((X / U + (s && (X % U != 0)).toNat : Nat) : Int)) = (if s then -(X : Int) else (X : Int)) / (U : Int) := by
  cases s
  · simp
  · simp only [if_true, Bool.true_and]
    have h := Nat.div_add_mod X U
    have hl := Nat.mod_lt X hU
    symm
    by_cases h0 : X % U = 0
    · rw [h0]
      simp only [bne_self_eq_false, Bool.toNat_false, Nat.add_zero]
      refine Int.ediv_eq_of_eq_mul_left (by omega) ?_
      rw [h0, Nat.add_zero] at h
      rw [Int.neg_mul, Int.mul_comm]
      exact congrArg Neg.neg (by exact_mod_cast h.symm)
    · have h1 : (X % U != 0) = true := by simpa using h0
      rw [h1]
      simp only [Bool.toNat_true]
      have key : (-(X : Int)) = -(((X / U + 1 : Nat) : Int)) * U + (U - (X % U : Nat) : Int) := by
        have h' : (X : Int) = (U : Int) * ((X / U : Nat) : Int) + ((X % U : Nat) : Int) := by exact_mod_cast h.symm
        rw [h', Int.neg_mul, Int.natCast_add, Int.add_mul, Int.mul_comm ((X / U : Nat) : Int)]
        simp only [Int.natCast_one, Int.one_mul]
        omega
      rw [key, Int.mul_comm, Int.mul_add_ediv_left _ _ (by omega : (U : Int) ≠ 0), Int.ediv_eq_zero_of_lt (by omega) (by omega), Int.add_zero]

/-- The value of a wide number's whole part: that of the greatest whole number that is not above it. -/
theorem val_floor {b : Nat} {s : Bool} {m : Nat} {e : Int} (h : FloatKind.f64.format.read b = .number s m e) :
    val .f64 (integ .down b) = val .f64 b / 2 ^ 1074 * 2 ^ 1074 ∧ ∃ B, lt .f64 (integ .down b) B := by
  obtain ⟨hp, hm⟩ := read64 h
  have hv : val .f64 b = Ieee.signed s m (e + 1074).toNat := by simp only [val, h]; rfl
  have hd : FloatKind.f64.decode b = .number s m e := h
  have hi : integ .down b = FloatKind.f64.format.nearest s (Ieee.Toward.down.cut s (m <<< e.toNat) (-e).toNat) 0 := by
    simp only [integ, hd]; rfl
  have hX : val .f64 b = if s then -((m * 2 ^ (e + 1074).toNat : Nat) : Int) else ((m * 2 ^ (e + 1074).toNat : Nat) : Int) := by
    rw [hv]; unfold Ieee.signed; rw [Nat.shiftLeft_eq]
  have e1 : m <<< e.toNat / 2 ^ (-e).toNat = m * 2 ^ (e + 1074).toNat / 2 ^ 1074 := by
    rw [Nat.shiftLeft_eq]
    by_cases he : 0 ≤ e
    · rw [show (-e).toNat = 0 by omega, show (e + 1074).toNat = e.toNat + 1074 by omega, Nat.pow_add, ← Nat.mul_assoc]
      have hU := Nat.two_pow_pos 1074
      generalize (2 : Nat) ^ 1074 = U at *
      rw [Nat.mul_div_cancel _ hU, Nat.pow_zero, Nat.div_one]
    · rw [show e.toNat = 0 by omega]
      have hq : (1074 : Nat) = (-e).toNat + (e + 1074).toNat := by omega
      generalize hu : (e + 1074).toNat = u at *
      rw [show (2 : Nat) ^ 1074 = 2 ^ ((-e).toNat + u) by rw [← hq], Nat.pow_add, Nat.mul_div_mul_right _ _ (Nat.two_pow_pos _)]
      simp
  have e2 : (m <<< e.toNat % 2 ^ (-e).toNat != 0) = (m * 2 ^ (e + 1074).toNat % 2 ^ 1074 != 0) := by
    rw [Nat.shiftLeft_eq]
    by_cases he : 0 ≤ e
    · rw [show (-e).toNat = 0 by omega, show (e + 1074).toNat = e.toNat + 1074 by omega, Nat.pow_add, ← Nat.mul_assoc, Nat.mul_mod_left]
      simp [Nat.mod_one]
    · rw [show e.toNat = 0 by omega]
      have hq : (1074 : Nat) = (-e).toNat + (e + 1074).toNat := by omega
      generalize hu : (e + 1074).toNat = u at *
      rw [show (2 : Nat) ^ 1074 = 2 ^ ((-e).toNat + u) by rw [← hq], Nat.pow_add, Nat.mul_mod_mul_right, Nat.pow_zero, Nat.mul_one, Bool.eq_iff_iff, bne_iff_ne, bne_iff_ne]
      have := Nat.two_pow_pos u
      exact not_congr ⟨fun h => by rw [h, Nat.zero_mul], fun h => by rcases Nat.mul_eq_zero.1 h with h | h <;> omega⟩
  have hfl := floor_nat s (m * 2 ^ (e + 1074).toNat) (2 ^ 1074) (Nat.two_pow_pos _)
  rw [← hX, ← e1, ← e2, ← cut_down] at hfl
  rw [show (((2 ^ 1074 : Nat)) : Int) = 2 ^ 1074 from Int.natCast_pow 2 1074] at hfl
  rw [hi, ← hfl]
  by_cases hM : Ieee.Toward.down.cut s (m <<< e.toNat) (-e).toNat = 0
  · rw [hM]
    have : FloatKind.f64.format.nearest s 0 0 = FloatKind.f64.format.word s 0 := by simp [Ieee.Format.nearest]
    rw [this]
    cases s
    · exact ⟨by decide +kernel, 0, false, 0, -1074, by decide, fun h => absurd rfl h⟩
    · exact ⟨by decide +kernel, 0, true, 0, -1074, by decide, fun h => absurd rfl h⟩
  · have hgoal : val .f64 (FloatKind.f64.format.nearest s (Ieee.Toward.down.cut s (m <<< e.toNat) (-e).toNat) 0) = Ieee.signed s (Ieee.Toward.down.cut s (m <<< e.toNat) (-e).toNat) 1074 ∧ ∃ B, lt .f64 (FloatKind.f64.format.nearest s (Ieee.Toward.down.cut s (m <<< e.toNat) (-e).toNat) 0) B := by
      by_cases he : 0 ≤ e
      · have hcut : Ieee.Toward.down.cut s (m <<< e.toNat) (-e).toNat = m * 2 ^ e.toNat := by
          rw [cut_down, show (-e).toNat = 0 by omega, Nat.shiftLeft_eq]; simp [Nat.mod_one]
        rw [hcut] at hM ⊢
        have hm0 : m ≠ 0 := fun h => hM (by rw [h, Nat.zero_mul])
        obtain ⟨h3, h4⟩ := hm hm0
        have hs := nearest_scale FloatKind.f64.format s m e.toNat e
        rw [show e - (e.toNat : Int) = 0 by omega] at hs
        rw [hs]
        refine ⟨?_, (val_nearest hm0 h3 (by omega) (by omega)).2⟩
        rw [(val_nearest hm0 h3 (by omega) (by omega)).1, signed_eq, signed_eq]
        rw [show (e + 1074).toNat = e.toNat + 1074 by omega, Int.pow_add, Int.natCast_mul, Int.natCast_pow]
        generalize (2 : Int) ^ 1074 = U
        cases s
        · simp [Int.mul_assoc]
        · simp [Int.mul_assoc, Int.neg_mul]
      · have hle : Ieee.Toward.down.cut s (m <<< e.toNat) (-e).toNat < 2 ^ 53 := by
          rw [cut_down, show e.toNat = 0 by omega, Nat.shiftLeft_zero]
          have hb : ∀ b : Bool, b.toNat ≤ 1 := by intro b; cases b <;> simp
          have h1 : m < 2 ^ 53 := by
            by_cases m0 : m = 0
            · subst m0; decide
            · have := (hm m0).1
              exact Nat.lt_of_lt_of_le Nat.lt_log2_self (Nat.pow_le_pow_right (by omega) (by omega))
          have h2 : m / 2 ^ (-e).toNat ≤ m / 2 := by
            refine Nat.div_le_div_left ?_ (by omega)
            calc 2 = 2 ^ 1 := rfl
              _ ≤ _ := Nat.pow_le_pow_right (by omega) (by omega)
          have h3 := hb (s && (m % 2 ^ (-e).toNat != 0))
          omega
        have := (Nat.log2_lt hM).2 hle
        exact val_nearest hM (by omega) (by omega) (by omega)
    refine ⟨?_, hgoal.2⟩
    rw [hgoal.1, signed_eq]

/-- How small a difference is, from the values. -/
theorem diff_place {x y : Nat} {A : Int} {s t : Bool} {m n : Nat} {i j : Int} (hrx : FloatKind.f64.format.read x = .number s m i) (hry : FloatKind.f64.format.read y = .number t n j)
    (hA : -1074 ≤ A) (h : (val .f64 x - val .f64 y).natAbs < 2 ^ (A + 1074).toNat) (h0 : (Ieee.signed s m (i - min i j).toNat + Ieee.signed (!t) n (j - min i j).toNat).natAbs ≠ 0) :
    min i j + (Ieee.signed s m (i - min i j).toNat + Ieee.signed (!t) n (j - min i j).toNat).natAbs.log2 + 1 ≤ A := by
  have pi := (read64 hrx).1
  have pj := (read64 hry).1
  have vx : val .f64 x = Ieee.signed s m (i + 1074).toNat := by simp only [val, hrx]; rfl
  have vy : val .f64 y = Ieee.signed t n (j + 1074).toNat := by simp only [val, hry]; rfl
  have hneg : Ieee.signed (!t) n (j - min i j).toNat = -Ieee.signed t n (j - min i j).toNat := by
    unfold Ieee.signed; cases t <;> simp
  rw [hneg] at h0 ⊢
  have e1 : val .f64 x - val .f64 y = (Ieee.signed s m (i - min i j).toNat + -Ieee.signed t n (j - min i j).toNat) * 2 ^ (min i j + 1074).toNat := by
    rw [vx, vy, signed_eq, signed_eq, signed_eq, signed_eq, Int.add_mul, Int.neg_mul, Int.mul_assoc, Int.mul_assoc, ← Int.pow_add, ← Int.pow_add]
    rw [show (i - min i j).toNat + (min i j + 1074).toNat = (i + 1074).toNat by omega, show (j - min i j).toNat + (min i j + 1074).toNat = (j + 1074).toNat by omega]
    omega
  rw [e1, Int.natAbs_mul] at h
  generalize Ieee.signed s m (i - min i j).toNat + -Ieee.signed t n (j - min i j).toNat = T at *
  have e2 : ((2 : Int) ^ (min i j + 1074).toNat).natAbs = 2 ^ (min i j + 1074).toNat := by
    rw [Int.natAbs_pow]; rfl
  rw [e2] at h
  have h3 : 2 ^ (T.natAbs.log2 + (min i j + 1074).toNat) < 2 ^ (A + 1074).toNat := by
    refine Nat.lt_of_le_of_lt ?_ h
    rw [Nat.pow_add]
    exact Nat.mul_le_mul_right _ (Nat.log2_self_le h0)
  have h4 := (Nat.pow_lt_pow_iff_right (by omega : 1 < 2)).1 h3
  omega

/-- A difference is as small as the values tell. -/
theorem lt_sub_val {x y : Nat} {A : Int} (hx : (FloatKind.f64.format.read x).isNaN = false ∧ (FloatKind.f64.format.read x).isInfinity = false) (hy : (FloatKind.f64.format.read y).isNaN = false ∧ (FloatKind.f64.format.read y).isInfinity = false)
    (hA : -1074 ≤ A) (h : (val .f64 x - val .f64 y).natAbs < 2 ^ (A + 1074).toNat) (hf : fine .f64 A) :
    ∃ r, floatBits .sub .f64 x y = some r ∧ lt .f64 r (A + 1) := by
  cases hrx : FloatKind.f64.format.read x with
  | nan s t => rw [hrx] at hx; simp [Ieee.Datum.isNaN] at hx
  | infinity s => rw [hrx] at hx; simp [Ieee.Datum.isInfinity] at hx
  | number s m i =>
    cases hry : FloatKind.f64.format.read y with
    | nan s t => rw [hry] at hy; simp [Ieee.Datum.isNaN] at hy
    | infinity s => rw [hry] at hy; simp [Ieee.Datum.isInfinity] at hy
    | number t n j =>
      refine ⟨_, by simp only [floatBits, Ieee.Format.sub, hrx, hry, Ieee.Datum.opposite, Ieee.Datum.sum, Option.map_some]; rfl, ?_⟩
      refine lt_nearest .f64 _ _ _ _ (fun h0 => diff_place hrx hry hA h h0) hf.1 hf.2
end Go.Fk
namespace Go.Fk
open Go Go.RowKit
theorem le_nearest (s : Bool) (m : Nat) (e A : Int) (hA : m ≠ 0 → e + m.log2 + 1 ≤ A) (hf : fine .f64 A) :
    (val .f64 (FloatKind.f64.format.nearest s m e)).natAbs ≤ 2 ^ (A + 1074).toNat := by
  obtain ⟨b1, b2, b3, b4, b5⟩ := bits64
  have hb : FloatKind.f64.format.binade = 4503599627370496 := by decide
  have hlo := hf.1
  have hhi := hf.2
  rw [b2, b3] at hlo
  rw [b2, b3, hb, b5] at hhi
  by_cases hm : m = 0
  · subst hm
    have : FloatKind.f64.format.nearest s 0 e = FloatKind.f64.format.word s 0 := by simp [Ieee.Format.nearest]
    rw [this]
    have : (val .f64 (FloatKind.f64.format.word s 0)).natAbs = 0 := by cases s <;> decide +kernel
    rw [this]
    exact Nat.zero_le _
  · obtain ⟨r, hr, _, h2⟩ := nearest_rung FloatKind.f64.format s m e A hm (hA hm) (by rw [b2, b3]; omega)
    rw [b2, b3, hb] at h2
    rw [hr]
    have hru : r < FloatKind.f64.format.infRung := by rw [b5]; omega
    obtain ⟨s', m', e', hread, hm'⟩ := read_word .f64 s hru
    have hv : val .f64 (FloatKind.f64.format.word s r) = Ieee.signed s' m' (e' + 1074).toNat := by simp only [val, hread]; rfl
    have pe := (read64 hread).1
    rw [hv, signed_natAbs]
    by_cases m0 : m' = 0
    · subst m0; rw [Nat.zero_mul]; exact Nat.zero_le _
    obtain ⟨g1, g2⟩ := hm' m0
    rw [b2, b3, hb] at g2
    by_cases hq : r = ((A + 1023).toNat) * 4503599627370496
    · -- exactly the power
      have hread2 := hread
      unfold Ieee.Format.read at hread2
      have hs : FloatKind.f64.format.infRung < FloatKind.f64.format.signWeight := Ieee.Format.infRung_lt _
      rw [word_mod _ _ (Nat.lt_trans hru hs)] at hread2
      dsimp only at hread2
      have h3 : ¬ r < FloatKind.f64.format.binade := by rw [hb]; omega
      rw [if_neg h3, if_pos hru, hb, b3] at hread2
      simp only [Ieee.Datum.number.injEq] at hread2
      obtain ⟨_, rfl, rfl⟩ := hread2
      have h4 : r % 4503599627370496 = 0 := by omega
      have h5 : r / 4503599627370496 = (A + 1023).toNat := by omega
      rw [h4, h5, show 4503599627370496 + 0 = 2 ^ 52 by decide, ← Nat.pow_add]
      exact Nat.pow_le_pow_right (by omega) (by omega)
    · have h3 : r / 4503599627370496 ≤ (A + 1022).toNat := by omega
      have h4 : e' + m'.log2 + 1 ≤ A := by omega
      calc m' * 2 ^ (e' + 1074).toNat ≤ 2 ^ (m'.log2 + 1) * 2 ^ (e' + 1074).toNat := Nat.mul_le_mul_right _ (Nat.le_of_lt Nat.lt_log2_self)
        _ = 2 ^ (m'.log2 + 1 + (e' + 1074).toNat) := by rw [← Nat.pow_add]
        _ ≤ 2 ^ (A + 1074).toNat := Nat.pow_le_pow_right (by omega) (by omega)
/-- A number that is at most '2 ^ A' in size. -/
def leV (b : Nat) (A : Int) : Prop := lt .f64 b (A + 1) ∧ (val .f64 b).natAbs ≤ 2 ^ (A + 1074).toNat
theorem sub_leV {x y : Nat} {A : Int} (hx : ∃ B, lt .f64 x B) (hy : ∃ B, lt .f64 y B) (hA : -1074 ≤ A) (h : (val .f64 x - val .f64 y).natAbs < 2 ^ (A + 1074).toNat) (hf : fine .f64 A) :
    leV (fop .sub .f64 x y) A := by
  obtain ⟨_, s, m, i, hrx, _⟩ := hx
  obtain ⟨_, t, n, j, hry, _⟩ := hy
  have nx : (FloatKind.f64.format.read x).isNaN = false ∧ (FloatKind.f64.format.read x).isInfinity = false := by rw [hrx]; exact ⟨rfl, rfl⟩
  have ny : (FloatKind.f64.format.read y).isNaN = false ∧ (FloatKind.f64.format.read y).isInfinity = false := by rw [hry]; exact ⟨rfl, rfl⟩
  obtain ⟨r, hr, hl⟩ := lt_sub_val nx ny hA h hf
  have hfop : fop .sub .f64 x y = r := by unfold fop; rw [hr]; exact can_of_not hl.notNan
  rw [hfop]
  refine ⟨hl, ?_⟩
  simp only [floatBits, Ieee.Format.sub, hrx, hry, Ieee.Datum.opposite, Ieee.Datum.sum, Option.map_some, Option.some.injEq] at hr
  rw [← hr]
  refine le_nearest _ _ _ _ (fun h0 => ?_) hf
  exact diff_place hrx hry hA h h0
end Go.Fk
