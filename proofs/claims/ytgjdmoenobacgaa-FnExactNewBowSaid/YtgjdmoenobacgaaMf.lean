/- Texts of the walk, laid in one file. -/
import Derived.Test.YtgjdmoenobacgaaRows
import Derived.Laws.BitsAllLaws
import Derived.Handy
import Derived.Below
import Derived.Laws.EntriesVeiled
import Derived.Test.YtgjdmoenobacgaaMe
set_option linter.unusedVariables false
set_option linter.unusedSimpArgs false
/- The numbers of a new string's filters are numbers. Nothing here names a program. -/
namespace Go.Fk
open Go Go.RowKit
theorem val_2 : val .f32 1073741824 = 2 ^ 150 ∧ isNan .f32 1073741824 = false := by decide +kernel
theorem read_1 : FloatKind.f32.format.read 1065353216 = .number false 8388608 (-23) := by decide
theorem num_of {x : Nat} (hn : isNan .f32 x = false) (h0 : 0 ≤ val .f32 x) (h1 : val .f32 x ≤ 2 ^ 150) : ∃ s m e, FloatKind.f32.format.read x = .number s m e ∧ -149 ≤ e ∧ val .f32 x = Ieee.signed s m (e + 149).toNat ∧ lt .f32 x 2 := by
  have hf := far_159
  have hp : (2 : Int) ^ 150 < 2 ^ 160 := by decide
  obtain ⟨s, m, e, hr⟩ := finite_num hn (by omega) (by omega)
  have hv : val .f32 x = Ieee.signed s m (e + 149).toNat := by simp only [val, hr]; rfl
  have pe : -149 ≤ e := read_place hr
  refine ⟨s, m, e, hr, pe, hv, s, m, e, hr, fun m0 => ?_⟩
  rw [hv, signed_eq] at h0 h1
  have hs : s = false := by
    cases s
    · rfl
    · simp only [if_true, Int.neg_mul] at h0
      have : 0 < (m : Int) * 2 ^ (e + 149).toNat := Int.mul_pos (by omega) (Int.pow_pos (by omega))
      omega
  subst hs
  simp only [Bool.false_eq_true, if_false] at h1
  have h2 : m * 2 ^ (e + 149).toNat ≤ 2 ^ 150 := by exact_mod_cast h1
  have b : 2 ^ (m.log2 + (e + 149).toNat) ≤ 2 ^ 150 := by
    rw [Nat.pow_add]
    exact Nat.le_trans (Nat.mul_le_mul_right _ (Nat.log2_self_le m0)) h2
  have := (Nat.pow_le_pow_iff_right (a := 2) (by omega)).1 b
  omega
theorem lt_one : lt .f32 1065353216 1 := ⟨false, 8388608, -23, read_1, fun _ => by decide⟩
theorem fop_of {op : BinOp} {x y r : Nat} {A : Int} (h : floatBits op .f32 x y = some r) (hl : lt .f32 r A) : fop op .f32 x y = r := by
  unfold fop; rw [h]; exact can_of_not hl.notNan
theorem ge_of {x : Nat} {v : Nat} {s : Bool} {m : Nat} {e : Int} (hr : FloatKind.f32.format.read x = .number s m e) (hv : val .f32 x = (v : Int)) (h : 2 ^ 149 ≤ v) : ge .f32 x 0 := by
  have pe : -149 ≤ e := read_place hr
  have hw : val .f32 x = Ieee.signed s m (e + 149).toNat := by simp only [val, hr]; rfl
  rw [hv, signed_eq] at hw
  have hs : s = false := by
    cases s
    · rfl
    · simp only [if_true, Int.neg_mul] at hw
      have h1 : 0 ≤ (m : Int) * 2 ^ (e + 149).toNat := Int.mul_nonneg (by omega) (Int.le_of_lt (Int.pow_pos (by omega)))
      have h2 : 0 < (v : Int) := by have := Nat.lt_of_lt_of_le (Nat.two_pow_pos 149) h; omega
      omega
  subst hs
  simp only [Bool.false_eq_true, if_false] at hw
  have hw' : v = m * 2 ^ (e + 149).toNat := by exact_mod_cast hw
  have m0 : m ≠ 0 := by
    rintro rfl
    rw [Nat.zero_mul] at hw'
    have := Nat.lt_of_lt_of_le (Nat.two_pow_pos 149) h
    omega
  refine ⟨false, m, e, hr, m0, ?_⟩
  have a := @Nat.lt_log2_self m
  have b : 2 ^ 149 < 2 ^ (m.log2 + 1 + (e + 149).toNat) := by
    rw [Nat.pow_add]
    refine Nat.lt_of_le_of_lt (hw' ▸ h) (Nat.mul_lt_mul_of_pos_right a (Nat.two_pow_pos _))
  have := (Nat.pow_lt_pow_iff_right (a := 2) (by omega)).1 b
  omega
theorem one_plus {f : Nat} (hn : isNan .f32 f = false) (h0 : 0 ≤ val .f32 f) (h1 : val .f32 f ≤ 2 ^ 150) : ge .f32 (fop .add .f32 1065353216 f) 0 := by
  obtain ⟨t, n, j, hr, pj, hv, hl⟩ := num_of hn h0 h1
  obtain ⟨r, hb, hlr⟩ := lt_add lt_one hl (fine32 (by decide) (by decide))
  have hfp := fop_of hb hlr
  obtain ⟨s', m', e', hr', _⟩ := hlr
  rw [hfp]
  generalize hT : Ieee.signed false 8388608 (-23 - min (-23) j).toNat + Ieee.signed t n (j - min (-23) j).toNat = T
  have e1 : 2 ^ 149 + val .f32 f = T * 2 ^ (min (-23) j + 149).toNat := by
    rw [← hT, hv, signed_eq, signed_eq, signed_eq, Int.add_mul, Int.mul_assoc, Int.mul_assoc, ← Int.pow_add, ← Int.pow_add]
    rw [show (-23 - min (-23) j).toNat + (min (-23) j + 149).toNat = 126 by omega, show (j - min (-23) j).toNat + (min (-23) j + 149).toNat = (j + 149).toNat by omega]
    simp only [Bool.false_eq_true, if_false]
    have : (2 : Int) ^ 149 = (8388608 : Nat) * 2 ^ 126 := by decide
    omega
  have hb2 : floatBits .add .f32 1065353216 f = some (FloatKind.f32.format.nearest (if T = 0 then false && t else decide (T < 0)) T.natAbs (min (-23) j)) := by
    rw [← hT]
    simp only [floatBits, Ieee.Format.add, read_1, hr, Ieee.Datum.sum, Option.map_some]; rfl
  have hpos : (0 : Int) < 2 ^ (min (-23) j + 149).toNat := Int.pow_pos (by omega)
  have hge : (2 : Int) ^ 149 ≤ T * 2 ^ (min (-23) j + 149).toNat := by omega
  have hle : T * 2 ^ (min (-23) j + 149).toNat ≤ (2 : Int) ^ 151 := by
    have : (2 : Int) ^ 151 = 2 ^ 150 + 2 ^ 149 + 2 ^ 149 := by decide
    have : (0 : Int) < 2 ^ 149 := by decide
    omega
  have hTp : 0 < T := by
    rcases Int.lt_trichotomy T 0 with c | c | c
    · have : T * 2 ^ (min (-23) j + 149).toNat < 0 := Int.mul_neg_of_neg_of_pos c hpos
      have h0 : (0 : Int) < 2 ^ 149 := by decide
      omega
    · subst c
      rw [Int.zero_mul] at hge
      exact absurd hge (by decide)
    · exact c
  obtain ⟨M, rfl⟩ : ∃ M : Nat, T = M := ⟨T.toNat, by omega⟩
  rw [if_neg (by omega), decide_eq_false (by omega), Int.natAbs_natCast, hb] at hb2
  have hrr : r = FloatKind.f32.format.nearest false M (min (-23) j) := by simpa using hb2
  have hm : M ≠ 0 := by omega
  have hgeN : 2 ^ 149 ≤ M * 2 ^ (min (-23) j + 149).toNat := by exact_mod_cast hge
  have hleN : M * 2 ^ (min (-23) j + 149).toNat ≤ 2 ^ 151 := by exact_mod_cast hle
  have hlo : 149 ≤ M.log2 + (min (-23) j + 149).toNat := by
    have a := @Nat.lt_log2_self M
    have b : 2 ^ 149 < 2 ^ (M.log2 + 1 + (min (-23) j + 149).toNat) := by
      rw [Nat.pow_add]
      exact Nat.lt_of_le_of_lt hgeN (Nat.mul_lt_mul_of_pos_right a (Nat.two_pow_pos _))
    have := (Nat.pow_lt_pow_iff_right (a := 2) (by omega)).1 b
    omega
  have hhi : M.log2 + (min (-23) j + 149).toNat ≤ 151 := by
    have b : 2 ^ (M.log2 + (min (-23) j + 149).toNat) ≤ 2 ^ 151 := by
      rw [Nat.pow_add]
      exact Nat.le_trans (Nat.mul_le_mul_right _ (Nat.log2_self_le hm)) hleN
    exact (Nat.pow_le_pow_iff_right (a := 2) (by omega)).1 b
  obtain ⟨v, hv2, _, h5⟩ := near_ge (e := min (-23) j) (A := 3) (C := 0) false hm (by omega) (by omega) (by omega) (by omega)
  rw [← hrr] at hv2
  simp only [Bool.false_eq_true, if_false] at hv2
  have h5' : 2 ^ 149 ≤ v := h5
  exact ge_of hr' hv2 h5'
/-- The number of an allpass filter is a number. -/
theorem quoA_num {f : Nat} (h : to2 f = true) : isNan .f32 (quoA f) = false := by
  obtain ⟨hn, h0, h1⟩ := within_val val_zero.2 val_2.2 (show withinB f 0 1073741824 = true from h)
  rw [val_zero.1] at h0
  rw [val_2.1] at h1
  obtain ⟨t, n, j, hr, pj, hv, hl⟩ := num_of hn h0 h1
  obtain ⟨r, hb, hlr⟩ := lt_sub lt_one hl (fine32 (by decide) (by decide))
  have hfp := fop_of hb hlr
  have hg := one_plus hn h0 h1
  obtain ⟨r2, hb2, hl2⟩ := lt_quo hlr hg (fine32 (by decide) (by decide))
  unfold quoA
  rw [hfp, fop_of hb2 hl2]
  exact hl2.notNan
/-- One less a mix is a number. -/
theorem mix_num {x : Nat} (h : withinB x 0 1056964608 = true) : isNan .f32 x = false ∧ isNan .f32 (fop .sub .f32 1065353216 x) = false := by
  obtain ⟨hn, h0, h1⟩ := within_val val_zero.2 val_half.2 h
  rw [val_zero.1] at h0
  rw [val_half.1] at h1
  have hp : (2 : Int) ^ 148 < 2 ^ 150 := by decide
  obtain ⟨t, n, j, hr, pj, hv, hl⟩ := num_of hn h0 (by omega)
  obtain ⟨r, hb, hlr⟩ := lt_sub lt_one hl (fine32 (by decide) (by decide))
  exact ⟨hn, by rw [fop_of hb hlr]; exact hlr.notNan⟩
end Go.Fk
namespace Go.Fk
open Go Go.RowKit
theorem of_can' {a A : Nat} (h : can .f32 a = A) (hn : isNan .f32 A = false) : a = A := by
  have hc : can .f32 a = can .f32 A := by rw [h, can_of_not hn]
  have : isNan .f32 a = false := by rw [isNan_of_can hc, hn]
  rw [← can_of_not this, h]
theorem lt_val {x A : Nat} (hn : isNan .f32 x = false) (h0 : 0 ≤ val .f32 x) (h1 : val .f32 x ≤ 2 ^ A) (hA : A ≤ 160) : ∃ s m e, FloatKind.f32.format.read x = .number s m e ∧ (m ≠ 0 → s = false ∧ e + m.log2 + 149 ≤ A) := by
  have hf := far_159
  have hp : (2 : Int) ^ A ≤ 2 ^ 160 := by exact_mod_cast Nat.pow_le_pow_right (n := 2) (by omega) hA
  obtain ⟨s, m, e, hr⟩ := finite_num hn (by omega) (by omega)
  have hv : val .f32 x = Ieee.signed s m (e + 149).toNat := by simp only [val, hr]; rfl
  have pe : -149 ≤ e := read_place hr
  refine ⟨s, m, e, hr, fun m0 => ?_⟩
  rw [hv, signed_eq] at h0 h1
  have hs : s = false := by
    cases s
    · rfl
    · simp only [if_true, Int.neg_mul] at h0
      have : 0 < (m : Int) * 2 ^ (e + 149).toNat := Int.mul_pos (by omega) (Int.pow_pos (by omega))
      omega
  subst hs
  simp only [Bool.false_eq_true, if_false] at h1
  have h2 : m * 2 ^ (e + 149).toNat ≤ 2 ^ A := by exact_mod_cast h1
  have b : 2 ^ (m.log2 + (e + 149).toNat) ≤ 2 ^ A := by
    rw [Nat.pow_add]
    exact Nat.le_trans (Nat.mul_le_mul_right _ (Nat.log2_self_le m0)) h2
  have := (Nat.pow_le_pow_iff_right (a := 2) (by omega)).1 b
  exact ⟨rfl, by omega⟩
/-- A place times a whole number. -/
theorem mult_int {pl n d : Nat} (hn : isNan .f32 pl = false) (h0 : 0 ≤ val .f32 pl) (h1 : val .f32 pl ≤ 2 ^ 149) (hk : n ≤ 1024) (hd : can .f32 d = fop .mul .f32 pl (floatOfInt .f32 (n : Int))) :
    d = fop .mul .f32 pl (floatOfInt .f32 (n : Int)) ∧ floatToIntVal .f32 d .i64 = some (wholeW d : Int) ∧ wholeW d ≤ 4096 := by
  have hU := one32_pos
  obtain ⟨s, m, i, hr, hm⟩ := lt_val hn h0 h1 (by omega)
  have hv : val .f32 (floatOfInt .f32 (n : Int)) = (n : Int) * one32 := val_int (by omega)
  have hv2 : val .f32 (floatOfInt .f32 (n : Int)) ≤ 2 ^ 159 := by
    rw [hv]
    have e2 : (1024 : Int) * one32 = 2 ^ 159 := by decide
    rw [← e2]
    exact Int.mul_le_mul_of_nonneg_right (by omega) (by omega)
  obtain ⟨t, q, j, hr2, hq⟩ := lt_val (isNan_int (n : Int)) (by rw [hv]; exact Int.mul_nonneg (by omega) (by omega)) hv2 (by omega)
  have hb : floatBits .mul .f32 pl (floatOfInt .f32 (n : Int)) = some (FloatKind.f32.format.nearest (s ^^ t) (m * q) (i + j)) := by
    simp only [floatBits, Ieee.Format.mul, hr, hr2, Ieee.Datum.product, Option.map_some]; rfl
  have hfp : fop .mul .f32 pl (floatOfInt .f32 (n : Int)) = FloatKind.f32.format.nearest (s ^^ t) (m * q) (i + j) := by
    unfold fop; rw [hb]; exact can_of_not (isNan_nearest _ _ _ _)
  have hnn : isNan .f32 (fop .mul .f32 pl (floatOfInt .f32 (n : Int))) = false := by rw [hfp]; exact isNan_nearest _ _ _ _
  have hde := of_can' hd hnn
  have key : 0 ≤ val .f32 d ∧ val .f32 d ≤ 4096 * one32 := by
    rw [hde, hfp]
    by_cases h : m * q = 0
    · rw [h, show FloatKind.f32.format.nearest (s ^^ t) 0 (i + j) = FloatKind.f32.format.word (s ^^ t) 0 by simp [Ieee.Format.nearest], val_word _ (by decide), show rv 0 = 0 by decide]
      have : 0 ≤ 4096 * one32 := Int.mul_nonneg (by omega) (by omega)
      cases (s ^^ t)
      · exact ⟨by simp, by simpa using this⟩
      · exact ⟨by simp, by simpa using this⟩
    · have m0 : m ≠ 0 := fun e => h (by rw [e, Nat.zero_mul])
      have q0 : q ≠ 0 := fun e => h (by rw [e, Nat.mul_zero])
      obtain ⟨rfl, a1⟩ := hm m0
      obtain ⟨rfl, a2⟩ := hq q0
      have hl := log2_mul_le m0 q0
      obtain ⟨v, hv3, hle⟩ := near_le (e := i + j) (A := 12) (false ^^ false) h (by omega) (by omega) (by omega)
      rw [hv3]
      have e2 : (4096 : Int) * one32 = 2 ^ 161 := by decide
      have hle' : v ≤ 2 ^ 161 := hle
      rw [e2]
      exact ⟨by simp, by simp only [Bool.xor_false, Bool.false_eq_true, if_false]; exact_mod_cast hle'⟩
  have q2 := Int.tdiv_le_tdiv hU key.2
  rw [Int.mul_tdiv_cancel _ (by omega)] at q2
  have q1 : 0 ≤ (val .f32 d).tdiv one32 := Int.tdiv_nonneg key.1 (by omega)
  have hdn : isNan .f32 d = false := by rw [hde]; exact hnn
  refine ⟨hde, ?_, by unfold wholeW; omega⟩
  rw [floatToInt_val32 hdn (by omega) (by omega)]
  unfold wholeW
  rw [Int.toNat_of_nonneg q1]
end Go.Fk

/- Values that stay exact: the whole number below, differences that are known to be small. Nothing here names a program. -/
namespace Go.Fk
open Go Go.RowKit

/-- What a wide number's datum is made of. -/
theorem read64 {b : Nat} {s : Bool} {m : Nat} {e : Int} (h : FloatKind.f64.format.read b = .number s m e) : -1074 ≤ e ∧ (m ≠ 0 → m.log2 ≤ 52 ∧ e + m.log2 + 1 ≤ 1024) := by
  refine ⟨?_, fun h0 => ⟨?_, lt64 h h0⟩⟩
  all_goals
    have e1 : Ieee.double.signWeight = 9223372036854775808 := by decide
    have e2 : Ieee.double.infRung = 9218868437227405312 := by decide
    have e3 : Ieee.double.binade = 4503599627370496 := by decide
    have e4 : Ieee.double.leastPlace = -1074 := by decide
    simp only [FloatKind.format, Ieee.Format.read, e1, e2, e3, e4] at h
    split at h
    · simp only [Ieee.Datum.number.injEq] at h
      obtain ⟨_, rfl, rfl⟩ := h
      first | omega | (have : (b % 9223372036854775808).log2 < 52 := (Nat.log2_lt h0).2 (by omega)
                       omega)
    · split at h
      · simp only [Ieee.Datum.number.injEq] at h
        obtain ⟨_, rfl, rfl⟩ := h
        first | omega | (have : (4503599627370496 + b % 9223372036854775808 % 4503599627370496).log2 < 53 := (Nat.log2_lt h0).2 (by omega)
                         omega)
      · split at h <;> cases h

/-- The value of what is written exactly. -/
theorem val_nearest {s : Bool} {m : Nat} {e : Int} (hm : m ≠ 0) (hp : m.log2 ≤ 52) (he : -1074 ≤ e) (ho : e + m.log2 ≤ 1023) :
    val .f64 (FloatKind.f64.format.nearest s m e) = Ieee.signed s m (e + 1074).toNat ∧ ∃ B, lt .f64 (FloatKind.f64.format.nearest s m e) B := by
  obtain ⟨b1, b2, b3, b4, b5⟩ := bits64
  obtain ⟨h5, _⟩ := read_nearest FloatKind.f64.format s m e hm (by omega) (by omega) (by rw [b1, b2, b3]; omega) (by omega)
  refine ⟨?_, _, _, _, _, h5, fun _ => Int.le_refl _⟩
  have h1 : lastOf FloatKind.f64.format m e ≤ e := by unfold lastOf; omega
  have h2 : -1074 ≤ lastOf FloatKind.f64.format m e := by unfold lastOf; omega
  simp only [val, h5]
  rw [signed_eq, signed_eq]
  have hu : ((unitOf .f64 : Nat) : Int) = 1074 := rfl
  rw [hu]
  generalize lastOf FloatKind.f64.format m e = last at *
  have e1 : (2 : Int) ^ (e + 1074).toNat = 2 ^ (e - last).toNat * 2 ^ (last + 1074).toNat := by
    rw [← Int.pow_add]; congr 1; omega
  rw [e1, Int.natCast_mul, Int.natCast_pow]
  cases s
  · simp [Int.mul_assoc]
  · simp [Int.mul_assoc, Int.neg_mul]

theorem cut_down (s : Bool) (n d : Nat) : Ieee.Toward.down.cut s n d = n / 2 ^ d + (s && (n % 2 ^ d != 0)).toNat := by
  simp only [Ieee.Toward.cut, Nat.one_shiftLeft]
  by_cases hd : d ≤ n.log2 + 2
  · rw [Nat.min_eq_left hd]
  · rw [Nat.min_eq_right (by omega)]
    have h1 : n < 2 ^ (n.log2 + 1) := Nat.lt_log2_self
    have h2 : 2 ^ (n.log2 + 1) ≤ 2 ^ (n.log2 + 2) := Nat.pow_le_pow_right (by omega) (by omega)
    have h3 : 2 ^ (n.log2 + 1) ≤ 2 ^ d := Nat.pow_le_pow_right (by omega) (by omega)
    rw [Nat.div_eq_of_lt (by omega), Nat.div_eq_of_lt (by omega), Nat.mod_eq_of_lt (by omega), Nat.mod_eq_of_lt (by omega)]

theorem floor_nat (s : Bool) (X U : Nat) (hU : 0 < U) : (if s then -((X / U + (s && (X % U != 0)).toNat : Nat) : Int) else ((X / U + (s && (X % U != 0)).toNat : Nat) : Int)) = (if s then -(X : Int) else (X : Int)) / (U : Int) := by
  cases s
  · simp
  · simp only [if_true, Bool.true_and]
    have h := Nat.div_add_mod X U
    have hl := Nat.mod_lt X hU
    symm
    by_cases h0 : X % U = 0
    · rw [h0]
      simp only [bne_self_eq_false, Bool.toNat_false, Nat.add_zero]
      refine Int.ediv_eq_of_eq_mul_left (by omega) ?_
      rw [h0, Nat.add_zero] at h
      rw [Int.neg_mul, Int.mul_comm]
      exact congrArg Neg.neg (by exact_mod_cast h.symm)
    · have h1 : (X % U != 0) = true := by simpa using h0
      rw [h1]
      simp only [Bool.toNat_true]
      have key : (-(X : Int)) = -(((X / U + 1 : Nat) : Int)) * U + (U - (X % U : Nat) : Int) := by
        have h' : (X : Int) = (U : Int) * ((X / U : Nat) : Int) + ((X % U : Nat) : Int) := by exact_mod_cast h.symm
        rw [h', Int.neg_mul, Int.natCast_add, Int.add_mul, Int.mul_comm ((X / U : Nat) : Int)]
        simp only [Int.natCast_one, Int.one_mul]
        omega
      rw [key, Int.mul_comm, Int.mul_add_ediv_left _ _ (by omega : (U : Int) ≠ 0), Int.ediv_eq_zero_of_lt (by omega) (by omega), Int.add_zero]

/-- The value of a wide number's whole part: that of the greatest whole number that is not above it. -/
theorem val_floor {b : Nat} {s : Bool} {m : Nat} {e : Int} (h : FloatKind.f64.format.read b = .number s m e) :
    val .f64 (integ .down b) = val .f64 b / 2 ^ 1074 * 2 ^ 1074 ∧ ∃ B, lt .f64 (integ .down b) B := by
  obtain ⟨hp, hm⟩ := read64 h
  have hv : val .f64 b = Ieee.signed s m (e + 1074).toNat := by simp only [val, h]; rfl
  have hd : FloatKind.f64.decode b = .number s m e := h
  have hi : integ .down b = FloatKind.f64.format.nearest s (Ieee.Toward.down.cut s (m <<< e.toNat) (-e).toNat) 0 := by
    simp only [integ, hd]; rfl
  have hX : val .f64 b = if s then -((m * 2 ^ (e + 1074).toNat : Nat) : Int) else ((m * 2 ^ (e + 1074).toNat : Nat) : Int) := by
    rw [hv]; unfold Ieee.signed; rw [Nat.shiftLeft_eq]
  have e1 : m <<< e.toNat / 2 ^ (-e).toNat = m * 2 ^ (e + 1074).toNat / 2 ^ 1074 := by
    rw [Nat.shiftLeft_eq]
    by_cases he : 0 ≤ e
    · rw [show (-e).toNat = 0 by omega, show (e + 1074).toNat = e.toNat + 1074 by omega, Nat.pow_add, ← Nat.mul_assoc]
      have hU := Nat.two_pow_pos 1074
      generalize (2 : Nat) ^ 1074 = U at *
      rw [Nat.mul_div_cancel _ hU, Nat.pow_zero, Nat.div_one]
    · rw [show e.toNat = 0 by omega]
      have hq : (1074 : Nat) = (-e).toNat + (e + 1074).toNat := by omega
      generalize hu : (e + 1074).toNat = u at *
      rw [show (2 : Nat) ^ 1074 = 2 ^ ((-e).toNat + u) by rw [← hq], Nat.pow_add, Nat.mul_div_mul_right _ _ (Nat.two_pow_pos _)]
      simp
  have e2 : (m <<< e.toNat % 2 ^ (-e).toNat != 0) = (m * 2 ^ (e + 1074).toNat % 2 ^ 1074 != 0) := by
    rw [Nat.shiftLeft_eq]
    by_cases he : 0 ≤ e
    · rw [show (-e).toNat = 0 by omega, show (e + 1074).toNat = e.toNat + 1074 by omega, Nat.pow_add, ← Nat.mul_assoc, Nat.mul_mod_left]
      simp [Nat.mod_one]
    · rw [show e.toNat = 0 by omega]
      have hq : (1074 : Nat) = (-e).toNat + (e + 1074).toNat := by omega
      generalize hu : (e + 1074).toNat = u at *
      rw [show (2 : Nat) ^ 1074 = 2 ^ ((-e).toNat + u) by rw [← hq], Nat.pow_add, Nat.mul_mod_mul_right, Nat.pow_zero, Nat.mul_one, Bool.eq_iff_iff, bne_iff_ne, bne_iff_ne]
      have := Nat.two_pow_pos u
      exact not_congr ⟨fun h => by rw [h, Nat.zero_mul], fun h => by rcases Nat.mul_eq_zero.1 h with h | h <;> omega⟩
  have hfl := floor_nat s (m * 2 ^ (e + 1074).toNat) (2 ^ 1074) (Nat.two_pow_pos _)
  rw [← hX, ← e1, ← e2, ← cut_down] at hfl
  rw [show (((2 ^ 1074 : Nat)) : Int) = 2 ^ 1074 from Int.natCast_pow 2 1074] at hfl
  rw [hi, ← hfl]
  by_cases hM : Ieee.Toward.down.cut s (m <<< e.toNat) (-e).toNat = 0
  · rw [hM]
    have : FloatKind.f64.format.nearest s 0 0 = FloatKind.f64.format.word s 0 := by simp [Ieee.Format.nearest]
    rw [this]
    cases s
    · exact ⟨by decide +kernel, 0, false, 0, -1074, by decide, fun h => absurd rfl h⟩
    · exact ⟨by decide +kernel, 0, true, 0, -1074, by decide, fun h => absurd rfl h⟩
  · have hgoal : val .f64 (FloatKind.f64.format.nearest s (Ieee.Toward.down.cut s (m <<< e.toNat) (-e).toNat) 0) = Ieee.signed s (Ieee.Toward.down.cut s (m <<< e.toNat) (-e).toNat) 1074 ∧ ∃ B, lt .f64 (FloatKind.f64.format.nearest s (Ieee.Toward.down.cut s (m <<< e.toNat) (-e).toNat) 0) B := by
      by_cases he : 0 ≤ e
      · have hcut : Ieee.Toward.down.cut s (m <<< e.toNat) (-e).toNat = m * 2 ^ e.toNat := by
          rw [cut_down, show (-e).toNat = 0 by omega, Nat.shiftLeft_eq]; simp [Nat.mod_one]
        rw [hcut] at hM ⊢
        have hm0 : m ≠ 0 := fun h => hM (by rw [h, Nat.zero_mul])
        obtain ⟨h3, h4⟩ := hm hm0
        have hs := nearest_scale FloatKind.f64.format s m e.toNat e
        rw [show e - (e.toNat : Int) = 0 by omega] at hs
        rw [hs]
        refine ⟨?_, (val_nearest hm0 h3 (by omega) (by omega)).2⟩
        rw [(val_nearest hm0 h3 (by omega) (by omega)).1, signed_eq, signed_eq]
        rw [show (e + 1074).toNat = e.toNat + 1074 by omega, Int.pow_add, Int.natCast_mul, Int.natCast_pow]
        generalize (2 : Int) ^ 1074 = U
        cases s
        · simp [Int.mul_assoc]
        · simp [Int.mul_assoc, Int.neg_mul]
      · have hle : Ieee.Toward.down.cut s (m <<< e.toNat) (-e).toNat < 2 ^ 53 := by
          rw [cut_down, show e.toNat = 0 by omega, Nat.shiftLeft_zero]
          have hb : ∀ b : Bool, b.toNat ≤ 1 := by intro b; cases b <;> simp
          have h1 : m < 2 ^ 53 := by
            by_cases m0 : m = 0
            · subst m0; decide
            · have := (hm m0).1
              exact Nat.lt_of_lt_of_le Nat.lt_log2_self (Nat.pow_le_pow_right (by omega) (by omega))
          have h2 : m / 2 ^ (-e).toNat ≤ m / 2 := by
            refine Nat.div_le_div_left ?_ (by omega)
            calc 2 = 2 ^ 1 := rfl
              _ ≤ _ := Nat.pow_le_pow_right (by omega) (by omega)
          have h3 := hb (s && (m % 2 ^ (-e).toNat != 0))
          omega
        have := (Nat.log2_lt hM).2 hle
        exact val_nearest hM (by omega) (by omega) (by omega)
    refine ⟨?_, hgoal.2⟩
    rw [hgoal.1, signed_eq]

/-- How small a difference is, from the values. -/
theorem diff_place {x y : Nat} {A : Int} {s t : Bool} {m n : Nat} {i j : Int} (hrx : FloatKind.f64.format.read x = .number s m i) (hry : FloatKind.f64.format.read y = .number t n j)
    (hA : -1074 ≤ A) (h : (val .f64 x - val .f64 y).natAbs < 2 ^ (A + 1074).toNat) (h0 : (Ieee.signed s m (i - min i j).toNat + Ieee.signed (!t) n (j - min i j).toNat).natAbs ≠ 0) :
    min i j + (Ieee.signed s m (i - min i j).toNat + Ieee.signed (!t) n (j - min i j).toNat).natAbs.log2 + 1 ≤ A := by
  have pi := (read64 hrx).1
  have pj := (read64 hry).1
  have vx : val .f64 x = Ieee.signed s m (i + 1074).toNat := by simp only [val, hrx]; rfl
  have vy : val .f64 y = Ieee.signed t n (j + 1074).toNat := by simp only [val, hry]; rfl
  have hneg : Ieee.signed (!t) n (j - min i j).toNat = -Ieee.signed t n (j - min i j).toNat := by
    unfold Ieee.signed; cases t <;> simp
  rw [hneg] at h0 ⊢
  have e1 : val .f64 x - val .f64 y = (Ieee.signed s m (i - min i j).toNat + -Ieee.signed t n (j - min i j).toNat) * 2 ^ (min i j + 1074).toNat := by
    rw [vx, vy, signed_eq, signed_eq, signed_eq, signed_eq, Int.add_mul, Int.neg_mul, Int.mul_assoc, Int.mul_assoc, ← Int.pow_add, ← Int.pow_add]
    rw [show (i - min i j).toNat + (min i j + 1074).toNat = (i + 1074).toNat by omega, show (j - min i j).toNat + (min i j + 1074).toNat = (j + 1074).toNat by omega]
    omega
  rw [e1, Int.natAbs_mul] at h
  generalize Ieee.signed s m (i - min i j).toNat + -Ieee.signed t n (j - min i j).toNat = T at *
  have e2 : ((2 : Int) ^ (min i j + 1074).toNat).natAbs = 2 ^ (min i j + 1074).toNat := by
    rw [Int.natAbs_pow]; rfl
  rw [e2] at h
  have h3 : 2 ^ (T.natAbs.log2 + (min i j + 1074).toNat) < 2 ^ (A + 1074).toNat := by
    refine Nat.lt_of_le_of_lt ?_ h
    rw [Nat.pow_add]
    exact Nat.mul_le_mul_right _ (Nat.log2_self_le h0)
  have h4 := (Nat.pow_lt_pow_iff_right (by omega : 1 < 2)).1 h3
  omega

/-- A difference is as small as the values tell. -/
theorem lt_sub_val {x y : Nat} {A : Int} (hx : (FloatKind.f64.format.read x).isNaN = false ∧ (FloatKind.f64.format.read x).isInfinity = false) (hy : (FloatKind.f64.format.read y).isNaN = false ∧ (FloatKind.f64.format.read y).isInfinity = false)
    (hA : -1074 ≤ A) (h : (val .f64 x - val .f64 y).natAbs < 2 ^ (A + 1074).toNat) (hf : fine .f64 A) :
    ∃ r, floatBits .sub .f64 x y = some r ∧ lt .f64 r (A + 1) := by
  cases hrx : FloatKind.f64.format.read x with
  | nan s t => rw [hrx] at hx; simp [Ieee.Datum.isNaN] at hx
  | infinity s => rw [hrx] at hx; simp [Ieee.Datum.isInfinity] at hx
  | number s m i =>
    cases hry : FloatKind.f64.format.read y with
    | nan s t => rw [hry] at hy; simp [Ieee.Datum.isNaN] at hy
    | infinity s => rw [hry] at hy; simp [Ieee.Datum.isInfinity] at hy
    | number t n j =>
      refine ⟨_, by simp only [floatBits, Ieee.Format.sub, hrx, hry, Ieee.Datum.opposite, Ieee.Datum.sum, Option.map_some]; rfl, ?_⟩
      refine lt_nearest .f64 _ _ _ _ (fun h0 => diff_place hrx hry hA h h0) hf.1 hf.2
end Go.Fk
namespace Go.Fk
open Go Go.RowKit
theorem le_nearest (s : Bool) (m : Nat) (e A : Int) (hA : m ≠ 0 → e + m.log2 + 1 ≤ A) (hf : fine .f64 A) :
    (val .f64 (FloatKind.f64.format.nearest s m e)).natAbs ≤ 2 ^ (A + 1074).toNat := by
  obtain ⟨b1, b2, b3, b4, b5⟩ := bits64
  have hb : FloatKind.f64.format.binade = 4503599627370496 := by decide
  have hlo := hf.1
  have hhi := hf.2
  rw [b2, b3] at hlo
  rw [b2, b3, hb, b5] at hhi
  by_cases hm : m = 0
  · subst hm
    have : FloatKind.f64.format.nearest s 0 e = FloatKind.f64.format.word s 0 := by simp [Ieee.Format.nearest]
    rw [this]
    have : (val .f64 (FloatKind.f64.format.word s 0)).natAbs = 0 := by cases s <;> decide +kernel
    rw [this]
    exact Nat.zero_le _
  · obtain ⟨r, hr, _, h2⟩ := nearest_rung FloatKind.f64.format s m e A hm (hA hm) (by rw [b2, b3]; omega)
    rw [b2, b3, hb] at h2
    rw [hr]
    have hru : r < FloatKind.f64.format.infRung := by rw [b5]; omega
    obtain ⟨s', m', e', hread, hm'⟩ := read_word .f64 s hru
    have hv : val .f64 (FloatKind.f64.format.word s r) = Ieee.signed s' m' (e' + 1074).toNat := by simp only [val, hread]; rfl
    have pe := (read64 hread).1
    rw [hv, signed_natAbs]
    by_cases m0 : m' = 0
    · subst m0; rw [Nat.zero_mul]; exact Nat.zero_le _
    obtain ⟨g1, g2⟩ := hm' m0
    rw [b2, b3, hb] at g2
    by_cases hq : r = ((A + 1023).toNat) * 4503599627370496
    · -- exactly the power
      have hread2 := hread
      unfold Ieee.Format.read at hread2
      have hs : FloatKind.f64.format.infRung < FloatKind.f64.format.signWeight := Ieee.Format.infRung_lt _
      rw [word_mod _ _ (Nat.lt_trans hru hs)] at hread2
      dsimp only at hread2
      have h3 : ¬ r < FloatKind.f64.format.binade := by rw [hb]; omega
      rw [if_neg h3, if_pos hru, hb, b3] at hread2
      simp only [Ieee.Datum.number.injEq] at hread2
      obtain ⟨_, rfl, rfl⟩ := hread2
      have h4 : r % 4503599627370496 = 0 := by omega
      have h5 : r / 4503599627370496 = (A + 1023).toNat := by omega
      rw [h4, h5, show 4503599627370496 + 0 = 2 ^ 52 by decide, ← Nat.pow_add]
      exact Nat.pow_le_pow_right (by omega) (by omega)
    · have h3 : r / 4503599627370496 ≤ (A + 1022).toNat := by omega
      have h4 : e' + m'.log2 + 1 ≤ A := by omega
      calc m' * 2 ^ (e' + 1074).toNat ≤ 2 ^ (m'.log2 + 1) * 2 ^ (e' + 1074).toNat := Nat.mul_le_mul_right _ (Nat.le_of_lt Nat.lt_log2_self)
        _ = 2 ^ (m'.log2 + 1 + (e' + 1074).toNat) := by rw [← Nat.pow_add]
        _ ≤ 2 ^ (A + 1074).toNat := Nat.pow_le_pow_right (by omega) (by omega)
/-- A number that is at most '2 ^ A' in size. -/
def leV (b : Nat) (A : Int) : Prop := lt .f64 b (A + 1) ∧ (val .f64 b).natAbs ≤ 2 ^ (A + 1074).toNat
theorem sub_leV {x y : Nat} {A : Int} (hx : ∃ B, lt .f64 x B) (hy : ∃ B, lt .f64 y B) (hA : -1074 ≤ A) (h : (val .f64 x - val .f64 y).natAbs < 2 ^ (A + 1074).toNat) (hf : fine .f64 A) :
    leV (fop .sub .f64 x y) A := by
  obtain ⟨_, s, m, i, hrx, _⟩ := hx
  obtain ⟨_, t, n, j, hry, _⟩ := hy
  have nx : (FloatKind.f64.format.read x).isNaN = false ∧ (FloatKind.f64.format.read x).isInfinity = false := by rw [hrx]; exact ⟨rfl, rfl⟩
  have ny : (FloatKind.f64.format.read y).isNaN = false ∧ (FloatKind.f64.format.read y).isInfinity = false := by rw [hry]; exact ⟨rfl, rfl⟩
  obtain ⟨r, hr, hl⟩ := lt_sub_val nx ny hA h hf
  have hfop : fop .sub .f64 x y = r := by unfold fop; rw [hr]; exact can_of_not hl.notNan
  rw [hfop]
  refine ⟨hl, ?_⟩
  simp only [floatBits, Ieee.Format.sub, hrx, hry, Ieee.Datum.opposite, Ieee.Datum.sum, Option.map_some, Option.some.injEq] at hr
  rw [← hr]
  refine le_nearest _ _ _ _ (fun h0 => ?_) hf
  exact diff_place hrx hry hA h h0
end Go.Fk

/- A place times a whole number, and the whole part of it as the wide floor gives it. Nothing here names a program. -/
namespace Go.Fk
open Go Go.RowKit
theorem far64 : 9223372036854775807 * (2 : Int) ^ 1074 < (far : Int) := by decide +kernel
theorem far64' : -(far : Int) < -9223372036854775808 * (2 : Int) ^ 1074 := by decide +kernel
theorem far4k : 4096 * one32 < (far : Int) := by decide +kernel
/-- The product of two numbers goes by no order. -/
theorem fmul_comm {x y : Nat} {s t : Bool} {m q : Nat} {i j : Int} (hx : FloatKind.f32.format.read x = .number s m i) (hy : FloatKind.f32.format.read y = .number t q j) : fop .mul .f32 x y = fop .mul .f32 y x := by
  have h1 : floatBits .mul .f32 x y = some (FloatKind.f32.format.nearest (s ^^ t) (m * q) (i + j)) := by
    simp only [floatBits, Ieee.Format.mul, hx, hy, Ieee.Datum.product, Option.map_some]; rfl
  have h2 : floatBits .mul .f32 y x = some (FloatKind.f32.format.nearest (t ^^ s) (q * m) (j + i)) := by
    simp only [floatBits, Ieee.Format.mul, hx, hy, Ieee.Datum.product, Option.map_some]; rfl
  unfold fop
  rw [h1, h2, Bool.xor_comm, Nat.mul_comm, Int.add_comm]
theorem val64_widen {d : Nat} {s : Bool} {m : Nat} {e : Int} (hr : FloatKind.f32.format.read d = .number s m e) : val .f64 (widen d) = val .f32 d * 2 ^ 925 := by
  obtain ⟨j, e', hw, he, _⟩ := read_widen hr
  obtain ⟨b1, _⟩ := read32 hr
  obtain ⟨b2, _⟩ := read64 hw
  have v1 : val .f32 d = Ieee.signed s m (e + 149).toNat := by simp only [val, hr]; rfl
  have v2 : val .f64 (widen d) = Ieee.signed s (m * 2 ^ j) (e' + 1074).toNat := by simp only [val, hw]; rfl
  obtain ⟨N, hN⟩ : ∃ N : Nat, N = 925 := ⟨_, rfl⟩
  rw [v1, v2, ← hN]
  unfold Ieee.signed
  rw [Nat.shiftLeft_eq, Nat.shiftLeft_eq]
  by_cases m0 : m = 0
  · subst m0
    generalize (2 : Int) ^ N = S9
    simp only [Nat.zero_mul, Int.natCast_zero, Int.neg_zero, ite_self, Int.zero_mul]
  · have e0 := he m0
    have ex : m * 2 ^ j * 2 ^ (e' + 1074).toNat = m * 2 ^ (e + 149).toNat * 2 ^ N := by
      rw [Nat.mul_assoc, Nat.mul_assoc, ← Nat.pow_add, ← Nat.pow_add]
      congr 2
      omega
    have c : ((2 ^ N : Nat) : Int) = (2 : Int) ^ N := Int.natCast_pow 2 N
    rw [ex]
    cases s
    · rw [if_neg (by decide), if_neg (by decide), Int.natCast_mul, c]
    · rw [if_pos rfl, if_pos rfl, Int.natCast_mul, c, Int.neg_mul]
theorem floor_int {d r : Nat} (hn : isNan .f32 d = false) (h0 : 0 ≤ val .f32 d) (h1 : val .f32 d ≤ 4096 * one32) (hr : can .f64 r = can .f64 (integ .down (widen d))) : floatToIntVal .f64 r .i64 = some (wholeW d : Int) := by
  obtain ⟨s, m, e, hrd⟩ : ∃ s m e, FloatKind.f32.format.read d = .number s m e := by
    cases h : FloatKind.f32.format.read d with
    | nan a b => simp [isNan, h, Ieee.Datum.isNaN] at hn
    | infinity a =>
      exfalso
      have hv : val .f32 d = if a then -(far : Int) else far := by simp only [val, h]
      have hf := far4k
      have hp : (0 : Int) < far := Int.ofNat_lt.2 far_pos
      rw [hv] at h0 h1
      cases a
      · simp only [Bool.false_eq_true, if_false] at h0 h1; omega
      · simp only [if_true] at h0 h1; omega
    | number s m e => exact ⟨s, m, e, rfl⟩
  have hv := val64_widen hrd
  obtain ⟨j, e', hw, _, _⟩ := read_widen hrd
  obtain ⟨hfl, Bd, hB⟩ := val_floor hw
  have hni : isNan .f64 (integ .down (widen d)) = false := by
    obtain ⟨s', m', e'', hr', _⟩ := hB
    simp [isNan, hr', Ieee.Datum.isNaN]
  have er : r = integ .down (widen d) := (eq_of_can hr.symm hni).symm
  subst er
  have hU : (0 : Int) < 2 ^ 149 := Int.pow_pos (by omega)
  have hS : (0 : Int) < 2 ^ 925 := Int.pow_pos (by omega)
  have hX : val .f64 (widen d) / 2 ^ 1074 = val .f32 d / 2 ^ 149 := by
    rw [hv, show (2 : Int) ^ 1074 = 2 ^ 149 * 2 ^ 925 by rw [← Int.pow_add]]
    exact Int.mul_ediv_mul_of_pos_left _ _ hS
  rw [hX] at hfl
  have o1 : one32 = 2 ^ 149 := rfl
  rw [o1] at h1
  have k0 : 0 ≤ val .f32 d / 2 ^ 149 := Int.ediv_nonneg h0 (by omega)
  have k1 : val .f32 d / 2 ^ 149 ≤ 4096 := by
    have := Int.ediv_le_ediv hU h1
    rwa [Int.mul_ediv_cancel _ (by omega)] at this
  have hwd : (wholeW d : Int) = val .f32 d / 2 ^ 149 := by
    unfold wholeW
    rw [o1, Int.tdiv_eq_ediv_of_nonneg h0, Int.toNat_of_nonneg k0]
  have hU64 : (0 : Int) < 2 ^ 1074 := Int.pow_pos (by omega)
  have f1 := far64
  have f2 := far64'
  rw [hwd]
  generalize hx : val .f32 d / 2 ^ 149 = X at *
  have key := floatToInt_val (k := .i64) hni (by
    show (-9223372036854775808 : Int) * 2 ^ 1074 ≤ _
    rw [hfl]; exact Int.mul_le_mul_of_nonneg_right (by omega) (Int.le_of_lt hU64)) (by
    show _ ≤ (9223372036854775807 : Int) * 2 ^ 1074
    rw [hfl]; exact Int.mul_le_mul_of_nonneg_right (by omega) (Int.le_of_lt hU64)) f1 f2
  rw [key, hfl, show (2 : Int) ^ unitOf .f64 = 2 ^ 1074 from rfl, Int.mul_tdiv_cancel _ (by omega)]
/-- A place times a whole number: neither NaN nor below 0. -/
theorem mult_pos {pl n : Nat} (hn : isNan .f32 pl = false) (h0 : 0 ≤ val .f32 pl) (h1 : val .f32 pl ≤ 2 ^ 149) (hk : n ≤ 1024) :
    isNan .f32 (fop .mul .f32 pl (floatOfInt .f32 (n : Int))) = false ∧ 0 ≤ val .f32 (fop .mul .f32 pl (floatOfInt .f32 (n : Int))) ∧ val .f32 (fop .mul .f32 pl (floatOfInt .f32 (n : Int))) ≤ 4096 * one32 ∧ fop .mul .f32 (floatOfInt .f32 (n : Int)) pl = fop .mul .f32 pl (floatOfInt .f32 (n : Int)) := by
  have hU := one32_pos
  obtain ⟨s, m, i, hr, hm⟩ := lt_val hn h0 h1 (by omega)
  have hv : val .f32 (floatOfInt .f32 (n : Int)) = (n : Int) * one32 := val_int (by omega)
  have hv2 : val .f32 (floatOfInt .f32 (n : Int)) ≤ 2 ^ 159 := by
    rw [hv]
    have e2 : (1024 : Int) * one32 = 2 ^ 159 := by decide
    rw [← e2]
    exact Int.mul_le_mul_of_nonneg_right (by omega) (by omega)
  obtain ⟨t, q, j, hr2, hq⟩ := lt_val (isNan_int (n : Int)) (by rw [hv]; exact Int.mul_nonneg (by omega) (by omega)) hv2 (by omega)
  have hb : floatBits .mul .f32 pl (floatOfInt .f32 (n : Int)) = some (FloatKind.f32.format.nearest (s ^^ t) (m * q) (i + j)) := by
    simp only [floatBits, Ieee.Format.mul, hr, hr2, Ieee.Datum.product, Option.map_some]; rfl
  have hfp : fop .mul .f32 pl (floatOfInt .f32 (n : Int)) = FloatKind.f32.format.nearest (s ^^ t) (m * q) (i + j) := by
    unfold fop; rw [hb]; exact can_of_not (isNan_nearest _ _ _ _)
  refine ⟨by rw [hfp]; exact isNan_nearest _ _ _ _, ?_⟩
  have key : 0 ≤ val .f32 (fop .mul .f32 pl (floatOfInt .f32 (n : Int))) ∧ val .f32 (fop .mul .f32 pl (floatOfInt .f32 (n : Int))) ≤ 4096 * one32 := by
    rw [hfp]
    by_cases h : m * q = 0
    · rw [h, show FloatKind.f32.format.nearest (s ^^ t) 0 (i + j) = FloatKind.f32.format.word (s ^^ t) 0 by simp [Ieee.Format.nearest], val_word _ (by decide), show rv 0 = 0 by decide]
      have : 0 ≤ 4096 * one32 := Int.mul_nonneg (by omega) (by omega)
      cases (s ^^ t)
      · exact ⟨by simp, by simpa using this⟩
      · exact ⟨by simp, by simpa using this⟩
    · have m0 : m ≠ 0 := fun e => h (by rw [e, Nat.zero_mul])
      have q0 : q ≠ 0 := fun e => h (by rw [e, Nat.mul_zero])
      obtain ⟨rfl, a1⟩ := hm m0
      obtain ⟨rfl, a2⟩ := hq q0
      have hl := log2_mul_le m0 q0
      obtain ⟨v, hv3, hle⟩ := near_le (e := i + j) (A := 12) (false ^^ false) h (by omega) (by omega) (by omega)
      rw [hv3]
      have e2 : (4096 : Int) * one32 = 2 ^ 161 := by decide
      have hle' : v ≤ 2 ^ 161 := hle
      rw [e2]
      exact ⟨by simp, by simp only [Bool.xor_false, Bool.false_eq_true, if_false]; exact_mod_cast hle'⟩
  exact ⟨key.1, key.2, fmul_comm hr2 hr⟩
/-- The place of a bow: the share that goes to the bridge. -/
def bowN (pl n : Nat) : Nat := min (max (wholeW (fop .mul .f32 pl (floatOfInt .f32 (n : Int)))) 1) (n - 1)
end Go.Fk

/- What math.Float64bits, math.Float64frombits and math.Abs give. -/
namespace Go.Fk
open Go Go.RowKit
theorem andNot_sign (x : Nat) (hx : fits .f64 x) : (bits .andNot .u64 (x : Int) 9223372036854775808).toNat = x % 9223372036854775808 := by
  have h : x < 18446744073709551616 := by simp only [fits, Lit.wf, decide_eq_true_eq] at hx; omega
  have h1 := u64_andNot_nat x 9223372036854775808 (by omega) (by omega)
  rw [show ((9223372036854775808 : Nat) : Int) = 9223372036854775808 by rfl] at h1
  rw [h1, Int.toNat_natCast]
  exact Nat.and_two_pow_sub_one_eq_mod x 63
end Go.Fk
namespace Go.Proofs.Ytgjdmoenobacgaa
open Go.RowKit Go.Fk
@[go_sem] theorem run_f64bits (x : Nat) (w : World) : (callFunc 150 #[.float .f64 x]).run Try.prog w = .ok (.value (.int .u64 x)) w := by
  rw [run_callFunc_extern (e := Extern.MathFloatBits.float64bits) Try.func150 (by kernel_rfl) (by kernel_rfl) (by kernel_rfl) (by kernel_rfl)]; rfl
@[go_sem] theorem run_f64from (x : Int) (w : World) : (callFunc 149 #[.int .u64 x]).run Try.prog w = .ok (.value (.float .f64 x.toNat)) w := by
  rw [run_callFunc_extern (e := Extern.MathFloatBits.float64frombits) Try.func149 (by kernel_rfl) (by kernel_rfl) (by kernel_rfl) (by kernel_rfl)]; rfl
theorem abs64 (x : Nat) (w : World) (hx : fits .f64 x) : Calls Try.prog 140 #[.float .f64 x] w fun e w' => e = .returned (.float .f64 (x % 9223372036854775808)) ∧ w = w' := by
  have hn := andNot_sign x hx
  go_enter Try.func140, Try.ntmps140
  go_wp2
  go_ret
  exact ⟨rfl, rfl⟩
end Go.Proofs.Ytgjdmoenobacgaa

/- The contracts of 'SineOf'. -/
namespace Go.Fk
open Go Go.RowKit
/-- The part of a turn. -/
def frS (x : Nat) : Nat := fop .sub .f64 (widen x) (integ .down (widen x))
theorem frS_le {x : Nat} (h : fin x = true) : leV (frS x) 0 := by
  cases hr : FloatKind.f32.format.read x with
  | nan s t => simp [fin, hr] at h
  | infinity s => simp [fin, hr] at h
  | number s m e =>
    obtain ⟨j, e', h1, _, _⟩ := read_widen hr
    obtain ⟨h2, h3⟩ := val_floor h1
    refine sub_leV ⟨_, _, _, _, h1, fun _ => Int.le_refl _⟩ h3 (by omega) ?_ (fine64 (by omega) (by omega))
    rw [h2, show ((0 : Int) + 1074).toNat = 1074 by decide]
    have hU : (0 : Int) < 2 ^ 1074 := Int.pow_pos (by omega)
    have hU2 : ((2 ^ 1074 : Nat) : Int) = 2 ^ 1074 := Int.natCast_pow 2 1074
    generalize (2 : Nat) ^ 1074 = UN at *
    generalize (2 : Int) ^ 1074 = U at *
    have := Int.emod_add_ediv_mul (val .f64 (widen x)) U
    have h4 := Int.emod_nonneg (val .f64 (widen x)) (show U ≠ 0 by omega)
    have h5 := Int.emod_lt_of_pos (val .f64 (widen x)) hU
    omega
/-- Is it in the second half? -/
def negS (x : Nat) : Bool := FloatKind.f64.format.order (frS x) 4602678819172646912 == some .gt || FloatKind.f64.format.order (frS x) 4602678819172646912 == some .eq
def f1S (x : Nat) : Nat := if negS x = true then fop .sub .f64 (frS x) 4602678819172646912 else frS x
def f2S (x : Nat) : Nat := if (FloatKind.f64.format.order (f1S x) 4598175219545276416 == some .gt) = true then fop .sub .f64 4602678819172646912 (f1S x) else f1S x
def xS (x : Nat) : Nat := fop .mul .f64 4618760256179416344 (f2S x)
def yS (x : Nat) : Nat := fop .mul .f64 (xS x) (xS x)
def denS (k : Nat) : Nat := floatOfInt .f64 (wrap64 (2 * (8 - (k : Int)) * (2 * (8 - (k : Int)) + 1)))
def tS (x : Nat) : Nat → Nat
  | 0 => 4607182418800017408
  | k + 1 => fop .sub .f64 4607182418800017408 (fop .mul .f64 (fop .quo .f64 (yS x) (denS k)) (tS x k))
def sS (x : Nat) : Nat := fop .mul .f64 (tS x 8) (xS x)
def sgS (x : Nat) : Nat := if negS x = true then neg .f64 (sS x) else sS x
/-- The sine of turns, up to the bits of NaN. -/
def sineW (x : Nat) : Nat := if fin x = true then can .f32 (narrow (sgS x)) else qnan .f32

theorem pow_two_up (n : Nat) : 2 ^ (n + 2) = 4 * 2 ^ n := by rw [Nat.pow_add]; omega
theorem half_le : leV 4602678819172646912 (-1) ∧ val .f64 4602678819172646912 = 2 * 2 ^ 1072 := by
  refine ⟨⟨⟨false, 4503599627370496, -53, by decide, by decide⟩, ?_⟩, ?_⟩ <;> decide +kernel
theorem quarter_val : val .f64 4598175219545276416 = 2 ^ 1072 ∧ isNan .f64 4598175219545276416 = false := by
  refine ⟨?_, ?_⟩ <;> decide +kernel
theorem order_gt {a b : Nat} (ha : isNan .f64 a = false) (hb : isNan .f64 b = false) : (FloatKind.f64.format.order a b == some .gt) = true ↔ val .f64 b < val .f64 a := by
  rw [order_val ha hb, beq_iff_eq, Option.some.injEq]
  exact Int.compare_eq_gt
theorem order_eq2 {a b : Nat} (ha : isNan .f64 a = false) (hb : isNan .f64 b = false) : (FloatKind.f64.format.order a b == some .eq) = true ↔ val .f64 a = val .f64 b := by
  rw [order_val ha hb, beq_iff_eq, Option.some.injEq]
  exact Int.compare_eq_eq
theorem f1S_le {x : Nat} (h : fin x = true) : leV (f1S x) 0 := by
  have hf := frS_le h
  have hh := half_le
  unfold f1S
  split
  · rename_i hn
    refine sub_leV ⟨_, hf.1⟩ ⟨_, hh.1.1⟩ (by omega) ?_ (fine64 (by omega) (by omega))
    have hv : val .f64 4602678819172646912 ≤ val .f64 (frS x) := by
      unfold negS at hn
      rw [Bool.or_eq_true, order_gt hf.1.notNan hh.1.1.notNan, order_eq2 hf.1.notNan hh.1.1.notNan] at hn
      omega
    have h2 := hf.2
    rw [hh.2] at hv ⊢
    rw [show ((0 : Int) + 1074).toNat = 1072 + 2 by rfl, pow_two_up 1072] at h2 ⊢
    have e : ((2 ^ 1072 : Nat) : Int) = 2 ^ 1072 := Int.natCast_pow 2 1072
    have e0 := Nat.two_pow_pos 1072
    generalize (2 : Nat) ^ 1072 = UN at *
    generalize (2 : Int) ^ 1072 = U at *
    omega
  · exact hf
theorem f2S_le {x : Nat} (h : fin x = true) : leV (f2S x) 0 := by
  have hf := f1S_le h
  have hh := half_le
  unfold f2S
  split
  · rename_i hn
    refine sub_leV ⟨_, hh.1.1⟩ ⟨_, hf.1⟩ (by omega) ?_ (fine64 (by omega) (by omega))
    rw [order_gt hf.1.notNan quarter_val.2, quarter_val.1] at hn
    have h2 := hf.2
    rw [hh.2]
    rw [show ((0 : Int) + 1074).toNat = 1072 + 2 by rfl, pow_two_up 1072] at h2 ⊢
    have e : ((2 ^ 1072 : Nat) : Int) = 2 ^ 1072 := Int.natCast_pow 2 1072
    have e0 := Nat.two_pow_pos 1072
    generalize (2 : Nat) ^ 1072 = UN at *
    generalize (2 : Int) ^ 1072 = U at *
    omega
  · exact hf
theorem fop_lt {op : BinOp} {a b : Nat} {C : Int} (h : ∃ r, floatBits op .f64 a b = some r ∧ lt .f64 r C) : lt .f64 (fop op .f64 a b) C := by
  obtain ⟨r, h1, h2⟩ := h
  unfold fop
  rw [h1]
  simp only
  rw [can_of_not h2.notNan]
  exact h2
theorem xS_lt {x : Nat} (h : fin x = true) : lt .f64 (xS x) 5 :=
  (fop_lt (lt_mul (A := 3) (B := 1) ⟨false, 7074237752028440, -50, by decide, by decide⟩ (f2S_le h).1 (fine64 (by omega) (by omega)))).mono (by omega)
theorem yS_lt {x : Nat} (h : fin x = true) : lt .f64 (yS x) 11 :=
  (fop_lt (lt_mul (A := 5) (B := 5) (xS_lt h) (xS_lt h) (fine64 (by omega) (by omega)))).mono (by omega)
theorem denS_ge {k : Nat} (h : k < 8) : ge .f64 (denS k) 2 := by
  have key : ∀ k : Fin 8, (match FloatKind.f64.format.read (denS k) with | .number _ m e => decide (m ≠ 0 ∧ 2 ≤ e + m.log2) | _ => false) = true := by decide +kernel
  have hk := key ⟨k, h⟩
  simp only at hk
  cases hr : FloatKind.f64.format.read (denS k) with
  | nan s t => rw [hr] at hk; cases hk
  | infinity s => rw [hr] at hk; cases hk
  | number s m e =>
    rw [hr] at hk
    simp only [decide_eq_true_eq] at hk
    exact ⟨s, m, e, hr, hk.1, hk.2⟩
theorem one_lt : lt .f64 4607182418800017408 1 := ⟨false, 4503599627370496, -52, by decide, by decide⟩
theorem qS_lt {x : Nat} (h : fin x = true) {k : Nat} (hk : k < 8) : lt .f64 (fop .quo .f64 (yS x) (denS k)) 11 :=
  (fop_lt (lt_quo (A := 11) (C := 2) (yS_lt h) (denS_ge hk) (fine64 (by omega) (by omega)))).mono (by omega)
theorem tS_lt {x : Nat} (h : fin x = true) (k : Nat) (hk : k ≤ 8) : lt .f64 (tS x k) (1 + 14 * k) := by
  induction k with
  | zero => exact one_lt
  | succ k ih =>
    have h1 := ih (by omega)
    have h2 := (fop_lt (lt_mul (qS_lt h (show k < 8 by omega)) h1 (fine64 (by omega) (by omega)))).mono (B := 13 + 14 * (k : Int)) (by omega)
    exact (fop_lt (lt_sub one_lt h2 (fine64 (by omega) (by omega)))).mono (by push_cast; omega)
theorem sS_lt {x : Nat} (h : fin x = true) : lt .f64 (sS x) 119 :=
  (fop_lt (lt_mul (A := 113) (B := 5) (tS_lt h 8 (by omega)) (xS_lt h) (fine64 (by omega) (by omega)))).mono (by omega)
theorem lt_neg {b : Nat} {A : Int} (h : lt .f64 b A) : lt .f64 (neg .f64 b) A := by
  obtain ⟨s, m, e, hr, hm⟩ := h
  have hx : neg .f64 b % FloatKind.f64.format.signWeight = b % FloatKind.f64.format.signWeight := xor_mod b 63
  unfold Ieee.Format.read at hr
  dsimp only at hr
  rw [← hx] at hr
  have key : ∃ s', FloatKind.f64.format.read (neg .f64 b) = .number s' m e := by
    unfold Ieee.Format.read
    dsimp only
    split
    · rename_i h1
      rw [if_pos h1] at hr
      simp only [Ieee.Datum.number.injEq] at hr ⊢
      exact ⟨_, rfl, hr.2⟩
    · rename_i h1
      rw [if_neg h1] at hr
      split
      · rename_i h2
        rw [if_pos h2] at hr
        simp only [Ieee.Datum.number.injEq] at hr ⊢
        exact ⟨_, rfl, hr.2⟩
      · rename_i h2
        rw [if_neg h2] at hr
        split at hr <;> cases hr
  obtain ⟨s', hs⟩ := key
  exact ⟨s', m, e, hs, hm⟩
theorem lt.narrowX {b : Nat} (h : lt .f64 b 126) : narrowableX b := by
  intro s m e hr
  obtain ⟨s', m', e', hr', hm⟩ := h
  rw [hr] at hr'
  cases hr'
  exact (lt_encode (k := .f32) (s := s) hm (fine32 (by omega) (by omega))).notInf
theorem wide_read {x r : Nat} (hx : fin x = true) (h : Hid (can .f64 r = can .f64 (widen x))) : ∃ s m e, FloatKind.f64.format.read r = .number s m e := by
  cases hr : FloatKind.f32.format.read x with
  | nan s t => simp [fin, hr] at hx
  | infinity s => simp [fin, hr] at hx
  | number s m e =>
    obtain ⟨j, e', h1, _, _⟩ := read_widen hr
    have : r = widen x := (eq_of_can h.out.symm (by simp [isNan, h1, Ieee.Datum.isNaN])).symm
    rw [this]
    exact ⟨_, _, _, h1⟩
theorem wide_num {x r : Nat} (hx : fin x = true) (h : Hid (can .f64 r = can .f64 (widen x))) : isNan .f64 r = false := by
  obtain ⟨s, m, e, hr⟩ := wide_read hx h
  simp [isNan, hr, Ieee.Datum.isNaN]
theorem wide_fin {x r : Nat} (hx : fin x = true) (h : Hid (can .f64 r = can .f64 (widen x))) : (FloatKind.f64.format.read r).isInfinity = false := by
  obtain ⟨s, m, e, hr⟩ := wide_read hx h
  simp [hr, Ieee.Datum.isInfinity]
theorem notInf_order {x : Nat} (hi : (FloatKind.f64.format.read x).isInfinity = false) (hn : isNan .f64 x = false) : (FloatKind.f64.format.order (x % 9223372036854775808) 9218868437227405311 == some .gt) = false := by
  cases hr : FloatKind.f64.format.read x with
  | nan s t => simp [isNan, hr, Ieee.Datum.isNaN] at hn
  | infinity s => rw [hr] at hi; simp [Ieee.Datum.isInfinity] at hi
  | number s m e =>
    obtain ⟨b1, b2, b3, b4, b5⟩ := bits64
    have h1 := read_mod hr
    rw [b4] at h1
    have n1 : isNan .f64 (x % 9223372036854775808) = false := by simp [isNan, h1, Ieee.Datum.isNaN]
    have n2 : isNan .f64 9218868437227405311 = false := by decide
    cases ho : (FloatKind.f64.format.order (x % 9223372036854775808) 9218868437227405311 == some .gt)
    · rfl
    · rw [order_gt n1 n2] at ho
      have hM : FloatKind.f64.format.read 9218868437227405311 = .number false 9007199254740991 971 := by decide
      have v1 : val .f64 9218868437227405311 = Ieee.signed false 9007199254740991 2045 := by simp only [val, hM]; rfl
      have v2 : val .f64 (x % 9223372036854775808) = Ieee.signed false m (e + 1074).toNat := by simp only [val, h1]; rfl
      generalize hZ : (2045 : Nat) = Z at v1
      rw [v1, v2, signed_eq, signed_eq] at ho
      simp only [Bool.false_eq_true, if_false] at ho
      obtain ⟨p1, p2⟩ := read64 hr
      exfalso
      have hle : m * 2 ^ (e + 1074).toNat ≤ 9007199254740991 * 2 ^ Z := by
        by_cases m0 : m = 0
        · subst m0; rw [Nat.zero_mul]; exact Nat.zero_le _
        · obtain ⟨q1, q2⟩ := p2 m0
          have hm : m ≤ 9007199254740991 := by
            have := @Nat.lt_log2_self m
            have h2 : 2 ^ (m.log2 + 1) ≤ 2 ^ 53 := Nat.pow_le_pow_right (by omega) (by omega)
            omega
          by_cases he : e ≤ 971
          · have hz : (e + 1074).toNat ≤ Z := by omega
            exact Nat.mul_le_mul hm (Nat.pow_le_pow_right (by omega) hz)
          · have h3 : m < 2 ^ (m.log2 + 1) := Nat.lt_log2_self
            have h4 : m * 2 ^ (e - 971).toNat < 2 ^ 53 := by
              calc m * 2 ^ (e - 971).toNat < 2 ^ (m.log2 + 1) * 2 ^ (e - 971).toNat := Nat.mul_lt_mul_of_pos_right h3 (Nat.two_pow_pos _)
                _ = 2 ^ (m.log2 + 1 + (e - 971).toNat) := by rw [← Nat.pow_add]
                _ ≤ 2 ^ 53 := Nat.pow_le_pow_right (by omega) (by omega)
            rw [show (e + 1074).toNat = (e - 971).toNat + Z by omega, Nat.pow_add, ← Nat.mul_assoc]
            exact Nat.mul_le_mul_right _ (by omega)
      have hle2 : ((m * 2 ^ (e + 1074).toNat : Nat) : Int) ≤ ((9007199254740991 * 2 ^ Z : Nat) : Int) := Int.ofNat_le.2 hle
      rw [Int.natCast_mul, Int.natCast_mul, Int.natCast_pow, Int.natCast_pow] at hle2
      exact absurd ho (Int.not_lt.2 hle2)
/-- A fresh pair, written. -/
theorem two_cells (w : World) (n : Nat) (old : Array Value) (u v : Value) (t : TypeId) : ∃ W, W = ((w.drewN n).alloc (.cells old t)).setRow w.heap.size #[u, v] ∧ Row W w.heap.size t #[u, v] ∧ True ∧ Below w.heap.size w W := by
  refine ⟨_, rfl, ?_, trivial, ?_⟩
  · exact (Row.new' _ _ _ (by simp)).setRow _
  · exact below_setRow ((below_drewN (Below.refl _ _) n).alloc (by simp) _) (by omega) _
def FloorRes (b r : Nat) : Prop := can .f64 r = can .f64 (integ .down b) ∧ fits .f64 r
theorem eq_fop {op : BinOp} {a b r : Nat} {C : Int} (h : can .f64 r = fop op .f64 a b) (hl : lt .f64 (fop op .f64 a b) C) : r = fop op .f64 a b := by
  refine (eq_of_can (k := .f64) ?_ hl.notNan).symm
  rw [h]; exact can_of_not hl.notNan
theorem frS_eq {x r s1 s2 fr : Nat} (hx : fin x = true) (hr : Hid (can .f64 r = fop .sub .f64 s1 fr)) (h1 : Hid (can .f64 s1 = can .f64 (widen x))) (hf : Hid (FloorRes s2 fr)) (h2 : Hid (can .f64 s2 = can .f64 (widen x))) : r = frS x := by
  have e : fop .sub .f64 s1 fr = frS x := fop_congr h1.out (by rw [hf.out.1, ← integ_can, h2.out, integ_can])
  have h := hr.out
  rw [e] at h
  exact eq_fop h (frS_le hx).1
theorem neg_yes {x r : Nat} (e : r = frS x) (h : (FloatKind.f64.format.order r 4602678819172646912 == some .gt) = true ∨ (FloatKind.f64.format.order r 4602678819172646912 == some .eq) = true) : negS x = true := by
  subst e; unfold negS; rw [Bool.or_eq_true]; exact h
theorem neg_no {x r : Nat} (e : r = frS x) (h : (FloatKind.f64.format.order r 4602678819172646912 == some .gt) = false ∧ (FloatKind.f64.format.order r 4602678819172646912 == some .eq) = false) : negS x = false := by
  subst e; unfold negS; rw [Bool.or_eq_false_iff]; exact h
theorem f1_neg {x r0 r1 : Nat} (hx : fin x = true) (e : r0 = frS x) (n : negS x = true) (h : Hid (can .f64 r1 = fop .sub .f64 r0 4602678819172646912)) : r1 = f1S x := by
  subst e
  have e : f1S x = fop .sub .f64 (frS x) 4602678819172646912 := if_pos n
  have hl := (f1S_le hx).1
  rw [e] at hl ⊢
  exact eq_fop h.out hl
theorem f1_pos {x r0 : Nat} (e : r0 = frS x) (n : negS x = false) : r0 = f1S x := by
  subst e; exact (if_neg (by rw [n]; simp)).symm
theorem f2_fold {x r0 r1 : Nat} (hx : fin x = true) (e : r0 = f1S x) (n : (FloatKind.f64.format.order r0 4598175219545276416 == some .gt) = true) (h : Hid (can .f64 r1 = fop .sub .f64 4602678819172646912 r0)) : r1 = f2S x := by
  subst e
  have e : f2S x = fop .sub .f64 4602678819172646912 (f1S x) := if_pos n
  have hl := (f2S_le hx).1
  rw [e] at hl ⊢
  exact eq_fop h.out hl
theorem f2_stay {x r0 : Nat} (e : r0 = f1S x) (n : (FloatKind.f64.format.order r0 4598175219545276416 == some .gt) = false) : r0 = f2S x := by
  subst e; exact (if_neg (by rw [n]; simp)).symm
theorem xS_eq {x r0 r : Nat} (hx : fin x = true) (e : r0 = f2S x) (h : Hid (can .f64 r = fop .mul .f64 4618760256179416344 r0)) : r = xS x := by
  subst e; exact eq_fop h.out (xS_lt hx)
theorem yS_eq {x r0 r : Nat} (hx : fin x = true) (e : r0 = xS x) (h : Hid (can .f64 r = fop .mul .f64 r0 r0)) : r = yS x := by
  subst e; exact eq_fop h.out (yS_lt hx)
theorem tS_eq {x q p t k : Nat} (hx : fin x = true) (hk : k < 8) (hq : Hid (can .f64 q = fop .quo .f64 (yS x) (denS k))) (hp : Hid (can .f64 p = fop .mul .f64 q (tS x k))) (ht : Hid (can .f64 t = fop .sub .f64 4607182418800017408 p)) : t = tS x (k + 1) := by
  have e1 := eq_fop hq.out (qS_lt hx hk)
  subst e1
  have h1 := tS_lt hx k (by omega)
  have e2 := eq_fop hp.out (fop_lt (lt_mul (qS_lt hx hk) h1 (fine64 (by omega) (by omega))))
  subst e2
  exact eq_fop ht.out (tS_lt hx (k + 1) (by omega))
theorem nar_s {x s : Nat} (hx : fin x = true) (h : Hid (can .f64 s = fop .mul .f64 (tS x 8) (xS x))) : narrowableX s := by
  have e : s = sS x := eq_fop h.out (sS_lt hx)
  rw [e]; exact ((sS_lt hx).mono (by omega)).narrowX
theorem nar_n {x s : Nat} (hx : fin x = true) (h : Hid (can .f64 s = fop .mul .f64 (tS x 8) (xS x))) : narrowableX (neg .f64 s) := by
  have e : s = sS x := eq_fop h.out (sS_lt hx)
  rw [e]; exact (lt_neg ((sS_lt hx).mono (by omega))).narrowX
theorem sine_pos {x s q : Nat} (hx : fin x = true) (n : negS x = false) (h : Hid (can .f64 s = fop .mul .f64 (tS x 8) (xS x))) (hq : Hid (can .f32 q = can .f32 (narrow s))) : can .f32 q = sineW x := by
  have e : s = sS x := eq_fop h.out (sS_lt hx)
  rw [hq.out, e, sineW, if_pos hx, sgS, if_neg (by rw [n]; simp)]
theorem sine_neg {x s q : Nat} (hx : fin x = true) (n : negS x = true) (h : Hid (can .f64 s = fop .mul .f64 (tS x 8) (xS x))) (hq : Hid (can .f32 q = can .f32 (narrow (neg .f64 s)))) : can .f32 q = sineW x := by
  have e : s = sS x := eq_fop h.out (sS_lt hx)
  rw [hq.out, e, sineW, if_pos hx, sgS, if_pos n]
theorem nanX {b : Nat} (h : isNan .f64 b = true) : narrowableX b := by
  intro s m e hr
  simp [isNan, hr, Ieee.Datum.isNaN] at h
theorem narrow_nan {b : Nat} (h : isNan .f64 b = true) : narrow b = qnan .f32 := by
  obtain ⟨s, t, hr⟩ := read_nan h
  simp only [narrow, hr]
/-- What a wide form of what is not finite is. -/
theorem not_fin {x r : Nat} (hx : fin x = false) (h : can .f64 r = can .f64 (widen x)) : isNan .f64 r = true ∨ (isNan .f64 r = false ∧ (FloatKind.f64.format.order (r % 9223372036854775808) 9218868437227405311 == some .gt) = true) := by
  cases hr : FloatKind.f32.format.read x with
  | nan s t =>
    left
    rw [isNan_of_can h]
    have : widen x = qnan .f64 := by simp only [widen, hr]
    rw [this]; exact isNan_qnan .f64
  | infinity s =>
    right
    have e : widen x = FloatKind.f64.encode (.infinity s) := by simp only [widen, hr]
    have hn : isNan .f64 (widen x) = false := by rw [e]; cases s <;> decide
    have e2 : r = widen x := (eq_of_can h.symm hn).symm
    rw [e2, hn, e]
    refine ⟨rfl, ?_⟩
    cases s <;> decide
  | number s m e => simp [fin, hr] at hx
theorem sS_eq {x s : Nat} (hx : fin x = true) (h : Hid (can .f64 s = fop .mul .f64 (tS x 8) (xS x))) : s = sS x := eq_fop h.out (sS_lt hx)
end Go.Fk
namespace Go.Proofs.Ytgjdmoenobacgaa
open Go.RowKit Go.Fk
theorem run_arch (b : Nat) (hb : fits .f64 b) (w : World) : ∃ r n, (callFunc 101 #[.float .f64 b]).run Try.prog w = .ok (.value (.float .f64 r)) (w.drewN n) ∧ FloorRes b r := by
  obtain ⟨r, n, h, h2⟩ := run_integral (P := Try.prog) "math.archFloor" .down w b hb
  refine ⟨r, n, ?_, h2⟩
  rw [run_callFunc_extern (e := Extern.MathFloor.toIntegral "math.archFloor" .down) Try.func101 (by kernel_rfl) (by kernel_rfl) (by kernel_rfl) (by kernel_rfl), h]; rfl
theorem arch_any (b : Nat) (hb : Hid (fits .f64 b)) : ∀ w, ∃ r n, (callFunc 101 #[.float .f64 b]).run Try.prog w = .ok (.value (.float .f64 r)) (w.drewN n) ∧ FloorRes b r := run_arch b hb
theorem floor_any (b : Nat) (w : World) (hb : Hid (fits .f64 b)) : Calls Try.prog 58 #[.float .f64 b] w fun e w' => ∃ r n, e = .returned (.float .f64 r) ∧ Hid (FloorRes b r) ∧ w' = w.drewN n := by
  go_enter Try.func58, Try.ntmps58
  go_wp2_with (refine wpList_extern rfl rfl rfl _ (arch_any _ (by assumption)) ?_; intro fr fn hfr)
  go_ret
  exact ⟨_, _, rfl, hfr, rfl⟩
theorem c_IsNaN (x : Nat) (w : World) : Calls Try.prog 128 #[.float .f64 x] w fun e w' => e = .returned (.bool (isNan .f64 x)) ∧ w = w' := by
  go_enter Try.func128, Try.ntmps128
  go_wp2
  go_ret
  exact ⟨rfl, rfl⟩
theorem c_IsInf (x : Nat) (w : World) (hx : fits .f64 x) (hi : (FloatKind.f64.format.read x).isInfinity = false) (hn : isNan .f64 x = false) : Calls Try.prog 129 #[.float .f64 x, .int .i64 0] w fun e w' => e = .returned (.bool false) ∧ w = w' := by
  have ho := notInf_order hi hn
  go_enter Try.func129, Try.ntmps129
  go_wp2_with (go_at_call 140; refine (abs64 _ _ hx).mono ?_; rintro e w' ⟨rfl, rfl⟩)
  go_ret
  exact ⟨rfl, rfl⟩
theorem c_IsInf_yes (x : Nat) (w : World) (hx : fits .f64 x) (ho : (FloatKind.f64.format.order (x % 9223372036854775808) 9218868437227405311 == some .gt) = true) : Calls Try.prog 129 #[.float .f64 x, .int .i64 0] w fun e w' => e = .returned (.bool true) ∧ w = w' := by
  go_enter Try.func129, Try.ntmps129
  go_wp2_with (go_at_call 140; refine (abs64 _ _ hx).mono ?_; rintro e w' ⟨rfl, rfl⟩)
  go_ret
  exact ⟨rfl, rfl⟩
end Go.Proofs.Ytgjdmoenobacgaa

/- Tables of 257 floats: 'laws.toTable', 'laws.eqTable'. -/
namespace Go.Proofs.Ytgjdmoenobacgaa
open Go.RowKit Go.Fk
end Go.Proofs.Ytgjdmoenobacgaa

/- (first part) 'TableAt' of both. -/
namespace Go.Fk
open Go Go.RowKit
def geB (x : Nat) : Bool := FloatKind.f32.format.order x 0 == some .gt || FloatKind.f32.format.order x 0 == some .eq
def leB (x : Nat) : Bool := FloatKind.f32.format.order x 1065353216 == some .lt || FloatKind.f32.format.order x 1065353216 == some .eq
/-- Between two values of a table. -/
def betwW (t : Nat → Nat) (x k : Nat) : Nat := fop .add .f32 (t k) (fop .mul .f32 (fop .sub .f32 (placeW x) (floatOfInt .f32 (k : Int))) (fop .sub .f32 (t (k + 1)) (t k)))
def atW (t : Nat → Nat) (x : Nat) : Nat := if inUnit x = true then (if indexW x = 256 then can .f32 (t 256) else betwW t x (indexW x)) else 0
def atC (x : Nat) : Int := if inUnit x = true then 0 else 2
theorem betw_ofT {t : Nat → Nat} {x k p d r1 r2 r : Nat} (hx : inUnit x = true) (hX : indexW x = k) (hN : ¬k = 256) (hp : can .f32 p = placeW x) (hd : can .f32 d = fop .sub .f32 p (floatOfInt .f32 (k : Int)))
    (h1 : can .f32 r1 = fop .sub .f32 (t (k + 1)) (t k)) (h2 : can .f32 r2 = fop .mul .f32 d r1) (h3 : can .f32 r = fop .add .f32 (t k) r2) : can .f32 r = atW t x := by
  unfold atW
  rw [if_pos hx, hX, if_neg hN]
  unfold betwW
  rw [h3, ← fop_can_r .add .f32 (t k) r2, h2, ← fop_can_l .mul .f32 d, hd, ← fop_can_r .mul .f32 _ r1, h1, ← fop_can_l .sub .f32 p, hp]
theorem indexW_lt {x : Nat} (hx : inUnit x = true) (h256 : ¬indexW x = 256) : indexW x < 256 := by
  unfold indexW at *
  obtain ⟨_, h0, h1⟩ := inUnit_val hx
  have hU := one32_pos
  have h : (val .f32 x * 256).tdiv one32 ≤ (256 * one32).tdiv one32 := Int.tdiv_le_tdiv hU (by omega)
  rw [Int.mul_tdiv_cancel _ (by omega)] at h
  omega
def OutTa (t : Nat → Nat) (x : Nat) (w : World) (e : Ending) (w' : World) : Prop := ∃ r, e = .returned (.tuple #[.float .f32 r, .int .i64 (atC x)]) ∧ can .f32 r = atW t x ∧ le w w'
section
variable {P : Program} {w : World} {ops : Array Oper} {rest : List Oper} {o : Oper} {a : Act} {Q : Exit → Act → World → Prop}
theorem wpList_toInt (hg : o.guard = none) {src dst : TypeId} {x : Operand} (hop : o.op = Op.convert src dst x) {b : Nat} (hx : a.eval x = .float .f32 b) {v : Value}
    (hr : ∀ w, (convert src dst (.float .f32 b)).run P w = .ok v w) (hK : wpList P ops Q rest (a.put o.dst v) w) : wpList P ops Q (o :: rest) a w := by
  refine wpList_plain hg fun K hK' => ?_
  unfold Oper.wp
  simp [execOp, hop, hx, hr w, Result.andThen]
  exact hK' _ _ hK
end
section
variable {P : Program} {ops : Array Oper} {w : World} {K : FuncId → Array Value → Value → Prop} {Q : Act → Prop} {o : Oper} {rest : List Oper} {a : Act}
theorem wpLoose_nil' (hg : o.guard = none) {x : Operand} (hop : o.op = Op.nilCheck x) {ad : Addr} (hx : a.eval x = .pointer (some ad))
    (hK : wpLoose P ops (fun w' => ∃ m, w' = w.drewN m) K Q rest (a.put o.dst (.pointer (some ad)))) : wpLoose P ops (fun w' => ∃ m, w' = w.drewN m) K Q (o :: rest) a := by
  refine wpLoose_any hg (· = .pointer (some ad)) (fun n => ?_) (by rintro v rfl; exact hK)
  simp [execOp, hop, hx, within, Result.andThen]
  exact ⟨_, rfl⟩
end
end Go.Fk
namespace Go.Proofs.Ytgjdmoenobacgaa
open Go.RowKit Go.Fk
theorem toInt_run {x p k : Nat} (hx : inUnit x = true) (hk : Hid (indexW x = k)) (hp : Hid (can .f32 p = placeW x)) : ∀ w, (convert 22 2 (.float .f32 p)).run Try.prog w = .ok (.int .i64 (k : Int)) w := by
  intro w
  have h := (place_int hx hp.out).2.1
  rw [hk.out] at h
  exact run_convert_float_int (P := Try.prog) w _ _ .f32 .i64 _ _ (by rw [Try.underlying22]; rfl) Try.underlying2 h
theorem toInt_run' {x p k : Nat} (hx : inUnit x = true) (hk : Hid (indexW x = k)) (hp : Hid (can .f32 p = placeW x)) : ∀ w, (convert 22 3 (.float .f32 p)).run Try.prog w = .ok (.int .i64 (k : Int)) w := by
  intro w
  have h := (place_int hx hp.out).2.1
  rw [hk.out] at h
  exact run_convert_float_int (P := Try.prog) w _ _ .f32 .i64 _ _ (by rw [Try.underlying22]; rfl) Try.underlying3 h
end Go.Proofs.Ytgjdmoenobacgaa

/- 'NewBow' of both. -/
namespace Go.Fk
open Go Go.RowKit
theorem in01 {pl : Nat} (h : withinB pl 0 1065353216 = true) : isNan .f32 pl = false ∧ 0 ≤ val .f32 pl ∧ val .f32 pl ≤ 2 ^ 149 := by
  obtain ⟨a, b, c⟩ := within_val val_zero.2 val_one.2 h
  rw [val_zero.1] at b
  rw [val_one.1] at c
  exact ⟨a, b, c⟩
def okNB (n : Int) (pl kp fr nr : Nat) : Bool := (decide (2 ≤ n) && decide (n ≤ 1024)) && withinB pl 0 1065353216 && partB kp && withinB fr 0 1065353216 && fin nr
def cdNB (nx ny kp nr fr : Nat) : List CD := [.sl 1 nx (fun _ => .fcn .f32 0), .int .i64 0, .sl 1 ny (fun _ => .fcn .f32 0), .int .i64 0, .int .i64 1, .fcn .f32 (fop .sub .f32 1065353216 kp), .fcn .f32 (can .f32 kp), .fcn .f32 0, .fcn .f32 0, .fcn .f32 0, .flt .f32 nr, .flt .f32 fr]
end Go.Fk
namespace Go.Proofs.Ytgjdmoenobacgaa
open Go.RowKit Go.Fk
theorem toI64N {d k : Nat} (h : floatToIntVal .f32 d .i64 = some (k : Int)) : ∀ w, (convert 22 2 (.float .f32 d)).run Try.prog w = .ok (.int .i64 (k : Int)) w := by
  intro w
  exact run_convert_float_int (P := Try.prog) w _ _ .f32 .i64 _ _ (by rw [Try.underlying22]; rfl) Try.underlying2 h
theorem cdNB_sh (nx ny kp nr fr : Nat) : ShOkL shBow (cdNB nx ny kp nr fr) :=
  (ShOkL.cons ⟨_, _, rfl, fun i hi j hj => by obtain rfl : j = 0 := (by omega); rfl⟩ (ShOkL.cons ⟨_, rfl⟩ (ShOkL.cons ⟨_, _, rfl, fun i hi j hj => by obtain rfl : j = 0 := (by omega); rfl⟩ (ShOkL.cons ⟨_, rfl⟩ (ShOkL.cons ⟨_, rfl⟩ (ShOkL.cons rfl (ShOkL.cons rfl (ShOkL.cons rfl (ShOkL.cons rfl (ShOkL.cons rfl (ShOkL.cons rfl (ShOkL.cons rfl ShOkL.nil))))))))))))
theorem cdNB_sz (nx ny kp nr fr : Nat) : szL (cdNB nx ny kp nr fr) = nx + ny := by
  have e1 := CD.sz_flts (n := nx) (x := fun _ => CD.fcn .f32 0) (fun i _ => rfl)
  have e2 := CD.sz_flts (n := ny) (x := fun _ => CD.fcn .f32 0) (fun i _ => rfl)
  simp only [cdNB, szL, List.map_cons, List.map_nil, List.sum_cons, List.sum_nil, e1, e2]
  simp [CD.sz]
theorem layNB (nx ny kp nr fr : Nat) {p0 p1 p2 p3 p4 : Nat} {lo : Nat} {s t : Value} {w : World} (h : Two lo (fun _ => 0) nx (fun _ => 0) ny s t w) (C1 : can .f32 p0 = fop .sub .f32 1065353216 kp ∧ can .f32 p1 = can .f32 kp ∧ can .f32 p2 = 0 ∧ can .f32 p3 = 0 ∧ can .f32 p4 = 0) (F1 : fits .f32 p0 ∧ fits .f32 p1 ∧ fits .f32 p2 ∧ fits .f32 p3 ∧ fits .f32 p4) (hnr : fits .f32 nr) (hfr : fits .f32 fr) : LayL w (rng lo w.heap.size) (cdNB nx ny kp nr fr) [s, .int .i64 0, t, .int .i64 0, .int .i64 1, .float .f32 p0, .float .f32 p1, .float .f32 p2, .float .f32 p3, .float .f32 p4, .float .f32 nr, .float .f32 fr] := by
  obtain ⟨k0, k1, k2, k3, k4⟩ := C1
  obtain ⟨f0, f1, f2, f3, f4⟩ := F1
  obtain ⟨bq, dq, h1, h2, h3, h4, h5, h6, h7⟩ := h
  have e1 : LayL w (rng dq (dq + 1)) ([.sl 1 ny (fun _ => .fcn .f32 0), .int .i64 0, .int .i64 1, .fcn .f32 (fop .sub .f32 1065353216 kp), .fcn .f32 (can .f32 kp), .fcn .f32 0, .fcn .f32 0, .fcn .f32 0, .flt .f32 nr, .flt .f32 fr] : List CD) [t, .int .i64 0, .int .i64 1, .float .f32 p0, .float .f32 p1, .float .f32 p2, .float .f32 p3, .float .f32 p4, .float .f32 nr, .float .f32 fr] := LayL.cons h2.lay (LayL.leaf ⟨rfl, by decide⟩ (LayL.leaf ⟨rfl, by decide⟩ (LayL.leaf ⟨_, rfl, f0, k0⟩ (LayL.leaf ⟨_, rfl, f1, k1⟩ (LayL.leaf ⟨_, rfl, f2, k2⟩ (LayL.leaf ⟨_, rfl, f3, k3⟩ (LayL.leaf ⟨_, rfl, f4, k4⟩ (LayL.leaf ⟨rfl, hnr⟩ (LayL.leaf ⟨rfl, hfr⟩ (LayL.nil _ (fun _ => False))))))))))) (fun _ h => h) (fun _ h => h.elim) (fun _ _ h => h)
  exact LayL.cons (S1 := rng bq (bq + 1)) (S2 := rng dq (dq + 1)) h1.lay (LayL.leaf ⟨rfl, by decide⟩ e1) (fun j h => ⟨Nat.le_trans h4 h.1, by have := h.2; omega⟩) (fun j h => ⟨Nat.le_trans h6 h.1, by have := h.2; omega⟩) (fun j h h2 => by have a1 := h.1; have a2 := h.2; have b1 := h2.1; have b2 := h2.2; omega)
set_option maxRecDepth 100000 in
set_option maxHeartbeats 4000000 in
theorem i_NewBow_no (n : Int) (pl kp fr nr : Nat) (hnr : fits .f32 nr) (w : World) (h : okNB n pl kp fr nr = false) : Calls Try.prog 16 #[.int .i64 n, .float .f32 pl, .float .f32 kp, .float .f32 fr, .float .f32 nr] w (OutV_Ti (cdBow (fun _ => 0) (fun _ => 0) 0 0 0 0 0 0 0 0 0 0 0 0) 2 w) := by
  have F := (Frg.nil w).box 31 #[.slice none 0 0, .int .i64 0, .slice none 0 0, .int .i64 0, .int .i64 0, .float .f32 0, .float .f32 0, .float .f32 0, .float .f32 0, .float .f32 0, .float .f32 0, .float .f32 0]
  have HP := hid (fun w' => i_isPart kp w')
  have H1 := hid (fun w' => i_isWithin pl 0 1065353216 w')
  have H2 := hid (fun w' => i_isWithin fr 0 1065353216 w')
  have HFI := hid (fun w' => i_isFinite nr w' hnr)
  by_cases hn : n < 2
  · clear h
    go_enter Try.func16, Try.ntmps16
    go_wp2_with (first | (go_at_call 63; ((with_reducible refine (HP.out _).mono ?_); rintro e w5 ⟨rfl, rfl⟩)) | (go_at_call 62; first | ((with_reducible refine (H1.out _).mono ?_); rintro e w5 ⟨rfl, rfl⟩) | ((with_reducible refine (H2.out _).mono ?_); rintro e w5 ⟨rfl, rfl⟩)) | (go_at_call 64; ((with_reducible refine (HFI.out _).mono ?_); rintro e w5 ⟨rfl, rfl⟩)) | (with_reducible refine stop_store (ty := 31) rfl ?_))
    show wpList _ _ _ _ _ _
    refine wpList_storeD rfl rfl rfl (cells := #[.slice none 0 0, .int .i64 0, .slice none 0 0, .int .i64 0, .int .i64 0, .float .f32 0, .float .f32 0, .float .f32 0, .float .f32 0, .float .f32 0, .float .f32 0, .float .f32 0]) rfl (F.row m0) uinfoBowI rfl (by simp [Value.oneCell']) (fun w4 K => ?_)
    have R := hid K.row
    have L := hid (F.wr0 K).below
    clear K F
    go_wp2
    exact bodyPost_ret (results_row2 rfl _ _ _ _ _ rfl R.out Try.underlying31 rfl uinfoBowI) rfl ⟨[.slice none 0 0, .int .i64 0, .slice none 0 0, .int .i64 0, .int .i64 0, .float .f32 0, .float .f32 0, .float .f32 0, .float .f32 0, .float .f32 0, .float .f32 0, .float .f32 0], rfl, layBow0 _ _, L.out⟩
  by_cases hn2 : 1024 < n
  · clear h
    go_enter Try.func16, Try.ntmps16
    go_wp2_with (first | (go_at_call 63; ((with_reducible refine (HP.out _).mono ?_); rintro e w5 ⟨rfl, rfl⟩)) | (go_at_call 62; first | ((with_reducible refine (H1.out _).mono ?_); rintro e w5 ⟨rfl, rfl⟩) | ((with_reducible refine (H2.out _).mono ?_); rintro e w5 ⟨rfl, rfl⟩)) | (go_at_call 64; ((with_reducible refine (HFI.out _).mono ?_); rintro e w5 ⟨rfl, rfl⟩)) | (with_reducible refine stop_store (ty := 31) rfl ?_))
    show wpList _ _ _ _ _ _
    refine wpList_storeD rfl rfl rfl (cells := #[.slice none 0 0, .int .i64 0, .slice none 0 0, .int .i64 0, .int .i64 0, .float .f32 0, .float .f32 0, .float .f32 0, .float .f32 0, .float .f32 0, .float .f32 0, .float .f32 0]) rfl (F.row m0) uinfoBowI rfl (by simp [Value.oneCell']) (fun w4 K => ?_)
    have R := hid K.row
    have L := hid (F.wr0 K).below
    clear K F
    go_wp2
    exact bodyPost_ret (results_row2 rfl _ _ _ _ _ rfl R.out Try.underlying31 rfl uinfoBowI) rfl ⟨[.slice none 0 0, .int .i64 0, .slice none 0 0, .int .i64 0, .int .i64 0, .float .f32 0, .float .f32 0, .float .f32 0, .float .f32 0, .float .f32 0, .float .f32 0, .float .f32 0], rfl, layBow0 _ _, L.out⟩
  cases e1 : withinB pl 0 1065353216
  · rw [e1] at H1; clear h e1
    go_enter Try.func16, Try.ntmps16
    go_wp2_with (first | (go_at_call 63; ((with_reducible refine (HP.out _).mono ?_); rintro e w5 ⟨rfl, rfl⟩)) | (go_at_call 62; first | ((with_reducible refine (H1.out _).mono ?_); rintro e w5 ⟨rfl, rfl⟩) | ((with_reducible refine (H2.out _).mono ?_); rintro e w5 ⟨rfl, rfl⟩)) | (go_at_call 64; ((with_reducible refine (HFI.out _).mono ?_); rintro e w5 ⟨rfl, rfl⟩)) | (with_reducible refine stop_store (ty := 31) rfl ?_))
    show wpList _ _ _ _ _ _
    refine wpList_storeD rfl rfl rfl (cells := #[.slice none 0 0, .int .i64 0, .slice none 0 0, .int .i64 0, .int .i64 0, .float .f32 0, .float .f32 0, .float .f32 0, .float .f32 0, .float .f32 0, .float .f32 0, .float .f32 0]) rfl (F.row m0) uinfoBowI rfl (by simp [Value.oneCell']) (fun w4 K => ?_)
    have R := hid K.row
    have L := hid (F.wr0 K).below
    clear K F
    go_wp2
    exact bodyPost_ret (results_row2 rfl _ _ _ _ _ rfl R.out Try.underlying31 rfl uinfoBowI) rfl ⟨[.slice none 0 0, .int .i64 0, .slice none 0 0, .int .i64 0, .int .i64 0, .float .f32 0, .float .f32 0, .float .f32 0, .float .f32 0, .float .f32 0, .float .f32 0, .float .f32 0], rfl, layBow0 _ _, L.out⟩
  rw [e1] at H1
  cases e2 : partB kp
  · rw [e2] at HP; clear h e1 e2
    go_enter Try.func16, Try.ntmps16
    go_wp2_with (first | (go_at_call 63; ((with_reducible refine (HP.out _).mono ?_); rintro e w5 ⟨rfl, rfl⟩)) | (go_at_call 62; first | ((with_reducible refine (H1.out _).mono ?_); rintro e w5 ⟨rfl, rfl⟩) | ((with_reducible refine (H2.out _).mono ?_); rintro e w5 ⟨rfl, rfl⟩)) | (go_at_call 64; ((with_reducible refine (HFI.out _).mono ?_); rintro e w5 ⟨rfl, rfl⟩)) | (with_reducible refine stop_store (ty := 31) rfl ?_))
    show wpList _ _ _ _ _ _
    refine wpList_storeD rfl rfl rfl (cells := #[.slice none 0 0, .int .i64 0, .slice none 0 0, .int .i64 0, .int .i64 0, .float .f32 0, .float .f32 0, .float .f32 0, .float .f32 0, .float .f32 0, .float .f32 0, .float .f32 0]) rfl (F.row m0) uinfoBowI rfl (by simp [Value.oneCell']) (fun w4 K => ?_)
    have R := hid K.row
    have L := hid (F.wr0 K).below
    clear K F
    go_wp2
    exact bodyPost_ret (results_row2 rfl _ _ _ _ _ rfl R.out Try.underlying31 rfl uinfoBowI) rfl ⟨[.slice none 0 0, .int .i64 0, .slice none 0 0, .int .i64 0, .int .i64 0, .float .f32 0, .float .f32 0, .float .f32 0, .float .f32 0, .float .f32 0, .float .f32 0, .float .f32 0], rfl, layBow0 _ _, L.out⟩
  rw [e2] at HP
  cases e3 : withinB fr 0 1065353216
  · rw [e3] at H2; clear h e1 e2 e3
    go_enter Try.func16, Try.ntmps16
    go_wp2_with (first | (go_at_call 63; ((with_reducible refine (HP.out _).mono ?_); rintro e w5 ⟨rfl, rfl⟩)) | (go_at_call 62; first | ((with_reducible refine (H1.out _).mono ?_); rintro e w5 ⟨rfl, rfl⟩) | ((with_reducible refine (H2.out _).mono ?_); rintro e w5 ⟨rfl, rfl⟩)) | (go_at_call 64; ((with_reducible refine (HFI.out _).mono ?_); rintro e w5 ⟨rfl, rfl⟩)) | (with_reducible refine stop_store (ty := 31) rfl ?_))
    show wpList _ _ _ _ _ _
    refine wpList_storeD rfl rfl rfl (cells := #[.slice none 0 0, .int .i64 0, .slice none 0 0, .int .i64 0, .int .i64 0, .float .f32 0, .float .f32 0, .float .f32 0, .float .f32 0, .float .f32 0, .float .f32 0, .float .f32 0]) rfl (F.row m0) uinfoBowI rfl (by simp [Value.oneCell']) (fun w4 K => ?_)
    have R := hid K.row
    have L := hid (F.wr0 K).below
    clear K F
    go_wp2
    exact bodyPost_ret (results_row2 rfl _ _ _ _ _ rfl R.out Try.underlying31 rfl uinfoBowI) rfl ⟨[.slice none 0 0, .int .i64 0, .slice none 0 0, .int .i64 0, .int .i64 0, .float .f32 0, .float .f32 0, .float .f32 0, .float .f32 0, .float .f32 0, .float .f32 0, .float .f32 0], rfl, layBow0 _ _, L.out⟩
  rw [e3] at H2
  cases e4 : fin nr
  · rw [e4] at HFI; clear h e1 e2 e3 e4
    go_enter Try.func16, Try.ntmps16
    go_wp2_with (first | (go_at_call 63; ((with_reducible refine (HP.out _).mono ?_); rintro e w5 ⟨rfl, rfl⟩)) | (go_at_call 62; first | ((with_reducible refine (H1.out _).mono ?_); rintro e w5 ⟨rfl, rfl⟩) | ((with_reducible refine (H2.out _).mono ?_); rintro e w5 ⟨rfl, rfl⟩)) | (go_at_call 64; ((with_reducible refine (HFI.out _).mono ?_); rintro e w5 ⟨rfl, rfl⟩)) | (with_reducible refine stop_store (ty := 31) rfl ?_))
    show wpList _ _ _ _ _ _
    refine wpList_storeD rfl rfl rfl (cells := #[.slice none 0 0, .int .i64 0, .slice none 0 0, .int .i64 0, .int .i64 0, .float .f32 0, .float .f32 0, .float .f32 0, .float .f32 0, .float .f32 0, .float .f32 0, .float .f32 0]) rfl (F.row m0) uinfoBowI rfl (by simp [Value.oneCell']) (fun w4 K => ?_)
    have R := hid K.row
    have L := hid (F.wr0 K).below
    clear K F
    go_wp2
    exact bodyPost_ret (results_row2 rfl _ _ _ _ _ rfl R.out Try.underlying31 rfl uinfoBowI) rfl ⟨[.slice none 0 0, .int .i64 0, .slice none 0 0, .int .i64 0, .int .i64 0, .float .f32 0, .float .f32 0, .float .f32 0, .float .f32 0, .float .f32 0, .float .f32 0, .float .f32 0], rfl, layBow0 _ _, L.out⟩
  exfalso
  simp [okNB, e1, e2, e3, e4] at h
  omega
set_option maxRecDepth 100000 in
set_option maxHeartbeats 4000000 in
theorem i_NewBow_yes (n pl kp fr nr : Nat) (w : World) (x1 : 2 ≤ n) (x2 : n ≤ 1024) (h1 : withinB pl 0 1065353216 = true) (h3 : partB kp = true) (h4 : withinB fr 0 1065353216 = true) (h5 : fin nr = true) (hkp : fits .f32 kp) (hnr : fits .f32 nr) (hfr : fits .f32 fr) : Calls Try.prog 16 #[.int .i64 (n : Int), .float .f32 pl, .float .f32 kp, .float .f32 fr, .float .f32 nr] w (OutV_Ti (cdNB (n - bowN pl n) (bowN pl n) kp nr fr) 0 w) := by
  have F := (Frg.nil w).box 31 #[.slice none 0 0, .int .i64 0, .slice none 0 0, .int .i64 0, .int .i64 0, .float .f32 0, .float .f32 0, .float .f32 0, .float .f32 0, .float .f32 0, .float .f32 0, .float .f32 0]
  have HP := hid (fun w' => i_isPart kp w')
  have H1 := hid (fun w' => i_isWithin pl 0 1065353216 w')
  have H2 := hid (fun w' => i_isWithin fr 0 1065353216 w')
  have HFI := hid (fun w' => i_isFinite nr w' hnr)
  obtain ⟨po1, po2, po3⟩ := in01 h1
  obtain ⟨q1, q2, q3, q4⟩ := mult_pos po1 po2 po3 x2
  obtain ⟨_, hi, hkk⟩ := mult_int po1 po2 po3 x2 (can_fop _ _ _ _ : can .f32 (fop .mul .f32 pl (floatOfInt .f32 (n : Int))) = fop .mul .f32 pl (floatOfInt .f32 (n : Int)))
  obtain ⟨nb, hnb⟩ : ∃ m, m = bowN pl n := ⟨_, rfl⟩
  have hb := hnb
  unfold bowN at hb
  rw [← hnb]
  obtain ⟨nx, hnx⟩ : ∃ m, m = n - nb := ⟨_, rfl⟩
  rw [← hnx]
  have HD : Hid (∀ d, Hid (can .f32 d = fop .mul .f32 (floatOfInt .f32 (n : Int)) pl) → d = fop .mul .f32 pl (floatOfInt .f32 (n : Int))) := fun d hd => of_can' (hd.out.trans q4) q1
  generalize fop .mul .f32 pl (floatOfInt .f32 (n : Int)) = D at *
  have HI := hid (toI64N hi)
  have hn2 : ¬ (n : Int) < 2 := by omega
  have hn3 : ¬ 1024 < (n : Int) := by omega
  generalize wholeW D = kk at *
  rw [h1] at H1; rw [h3] at HP; rw [h4] at H2; rw [h5] at HFI
  have y1 : 1 ≤ nb := by omega
  have y2 : nb ≤ 1024 := by omega
  have z1 : 1 ≤ nx := by omega
  have z2 : nx ≤ 1024 := by omega
  have HRG : Hid (∀ (k : Int) (m : Nat) (w' : World), k = m → 1 ≤ m → m ≤ 1024 → Calls Try.prog 65 #[.int .i64 k] w' (OutR m w')) := by
    rintro k m w' rfl a1 a2
    exact i_NewRing m w' a1 a2
  replace hb := hid hb; replace hnx := hid hnx
  have HBh := hb; have HNX := hnx
  clear h1 h3 h4 h5 hi hnb q1 q2 q3 q4 po1 po2 po3 hb hnx
  go_enter Try.func16, Try.ntmps16
  go_wp2_with (first | (go_at_call 63; ((with_reducible refine (HP.out _).mono ?_); rintro e w5 ⟨rfl, rfl⟩)) | (go_at_call 62; first | ((with_reducible refine (H1.out _).mono ?_); rintro e w5 ⟨rfl, rfl⟩) | ((with_reducible refine (H2.out _).mono ?_); rintro e w5 ⟨rfl, rfl⟩)) | (go_at_call 64; ((with_reducible refine (HFI.out _).mono ?_); rintro e w5 ⟨rfl, rfl⟩)) | (with_reducible refine wpList_farith rfl rfl rfl rfl rfl ?_; intro r3 n3 hr3 hf3; obtain rfl := HD.out r3 hr3; replace F := F.drewN n3) | (with_reducible refine wpList_toInt rfl rfl rfl HI.out ?_) | (go_at_call 65; first | ((with_reducible refine (HRG.out _ nb _ (by have hb := HBh.out; have hnx := HNX.out; omega) y1 y2).mono ?_); rintro e w1 ⟨b1, rfl, hbb1, hl, hr⟩; have hbzb1 := hbb1; simp only [World.size_alloc, World.heap_drewN] at hbzb1; replace F := F.rowS hl hbb1 hr; replace F := F.box 25 #[.slice (some ⟨b1, 0, none⟩) nb nb, .int .i64 0]; clear hl hr hbb1) | ((with_reducible refine (HRG.out _ nx _ (by have hb := HBh.out; have hnx := HNX.out; omega) z1 z2).mono ?_); rintro e w2 ⟨b2, rfl, hbb2, hl, hr⟩; have hbzb2 := hbb2; simp only [World.size_alloc, World.heap_drewN] at hbzb2; replace F := F.rowS hl hbb2 hr; replace F := F.box 25 #[.slice (some ⟨b2, 0, none⟩) nx nx, .int .i64 0]; clear hl hr hbb2)))
  all_goals
    have G := F.drewN 1
    refine region_tailZ (E := leX) (fun f args z w1 v => (f = 66 → FilV 1 (fop .sub .f32 1065353216 kp) (can .f32 kp) v)) 7 (by kernel_rfl) (by kernel_rfl) ?_
    simp only [List.take_succ_cons, List.take_zero, List.drop_succ_cons, List.drop_zero]
    refine wpFreeZ_loadW rfl rfl rfl [.slice (some ⟨b2, 0, none⟩) nx nx, .int .i64 0] (fun w1 h1 => Row.at_part (f := 0) ((G.row m0).le h1) (fun j hj => by rw [Nat.zero_add]; simp)) Try.underlying25 rfl uinfoRingI rfl ?_
    simp only [Act.put, List.setIfInBounds_toArray, List.set_cons_succ, List.set_cons_zero]
    refine wpFreeZ_loadW rfl rfl rfl [.slice (some ⟨b1, 0, none⟩) nb nb, .int .i64 0] (fun w1 h1 => Row.at_part (f := 0) ((G.row m2).le h1) (fun j hj => by rw [Nat.zero_add]; simp)) Try.underlying25 rfl uinfoRingI rfl ?_
    simp only [Act.put, List.setIfInBounds_toArray, List.set_cons_succ, List.set_cons_zero]
    refine wpFreeZ_one rfl (.float .f32 kp) (fun w1 _ => by kernel_rfl) ?_
    simp only [Act.put, List.setIfInBounds_toArray, List.set_cons_succ, List.set_cons_zero]
    refine wpFreeZ_callW (by kernel_rfl) rfl Try.func66 (by kernel_rfl) (by kernel_rfl) (args := #[.float .f32 kp]) (by simp [Act.eval]) (fun z v w1 w2 hw hv => hv) (fun wc hw1 hbe => ?_) ?_
    · refine (i_OnePoleV kp hkp wc).mono ?_
      rintro e w2 ⟨v, rfl, hv, hl⟩
      exact ⟨_, rfl, hl, fun _ => hv⟩
    rintro v1 ⟨z, wv, _, hv⟩
    obtain ⟨p0, p1, p2, p3, p4, rfl, hC1, hF1⟩ := hv rfl
    have HC1 := hid hC1; have HF1 := hid hF1
    clear hv hC1 hF1
    simp only [Act.put, List.setIfInBounds_toArray, List.set_cons_succ, List.set_cons_zero]
    refine wpFreeZ_one rfl (.float .f32 nr) (fun w1 _ => by kernel_rfl) ?_
    simp only [Act.put, List.setIfInBounds_toArray, List.set_cons_succ, List.set_cons_zero]
    refine wpFreeZ_one rfl (.float .f32 fr) (fun w1 _ => by kernel_rfl) ?_
    simp only [Act.put, List.setIfInBounds_toArray, List.set_cons_succ, List.set_cons_zero]
    refine wpFreeZ_one rfl (.agg #[.slice (some ⟨b2, 0, none⟩) nx nx, .int .i64 0, .slice (some ⟨b1, 0, none⟩) nb nb, .int .i64 0, .int .i64 1, .float .f32 p0, .float .f32 p1, .float .f32 p2, .float .f32 p3, .float .f32 p4, .float .f32 nr, .float .f32 fr]) (fun w1 _ => by kernel_rfl) ?_
    simp only [Act.put, List.setIfInBounds_toArray, List.set_cons_succ, List.set_cons_zero]
    refine wpFreeZ_nil (fun w3 zs hw3 hF hc => ?_)
    clear hF hc
    replace F := G.le hw3
    clear hw3 G
    refine wpList_storeD rfl rfl rfl (cells := #[.slice (some ⟨b2, 0, none⟩) nx nx, .int .i64 0, .slice (some ⟨b1, 0, none⟩) nb nb, .int .i64 0, .int .i64 1, .float .f32 p0, .float .f32 p1, .float .f32 p2, .float .f32 p3, .float .f32 p4, .float .f32 nr, .float .f32 fr]) rfl (F.row m4) uinfoBowI rfl (by simp [Value.oneCell']) (fun w9 K => ?_)
    have R := hid K.row
    replace F := F.wrI4 K
    have L := hid F.below
    have q1 := (F.row m1).lt
    have q3 := (F.row m3).lt
    have a1 := (List.pairwise_cons.1 (List.pairwise_cons.1 F.apart).2).1 (rowF b1 22 (ftab .f32 (fun _ => 0) nb)) (by simp)
    simp only [rowF] at a1
    have f3 := (F.facts (rowF b1 22 (ftab .f32 (fun _ => 0) nb)) m3).1
    simp only [rowF] at f3
    have LY := hid (layNB nx nb kp nr fr (lo := w.heap.size) ⟨b2, b1, own_zero (F.row m1) z2 (Nat.le_refl _) (Nat.lt_succ_self _), own_zero (F.row m3) y2 (Nat.le_refl _) (Nat.lt_succ_self _), by omega, by omega, q1, f3, q3⟩ HC1.out HF1.out hnr hfr)
    clear K F
    go_wp2
    exact bodyPost_ret (results_row2 rfl _ _ _ _ _ rfl R.out Try.underlying31 rfl uinfoBowI) rfl ⟨[.slice (some ⟨b2, 0, none⟩) nx nx, .int .i64 0, .slice (some ⟨b1, 0, none⟩) nb nb, .int .i64 0, .int .i64 1, .float .f32 p0, .float .f32 p1, .float .f32 p2, .float .f32 p3, .float .f32 p4, .float .f32 nr, .float .f32 fr], rfl, LY.out, L.out⟩
theorem s_MinN (a b : Int) (w : World) : Calls Try.prog 60 #[.int .i64 a, .int .i64 b] w fun e w' => ∃ r, e = .returned (.int .i64 r) ∧ r = (if a < b then a else b) ∧ w = w' := by
  by_cases h : a < b
  all_goals
    go_enter Try.func60, Try.ntmps60
    go_wp2
    go_ret
    exact ⟨_, rfl, by simp [h], rfl⟩
theorem s_MaxN (a b : Int) (w : World) : Calls Try.prog 59 #[.int .i64 a, .int .i64 b] w fun e w' => ∃ r, e = .returned (.int .i64 r) ∧ r = (if a > b then a else b) ∧ w = w' := by
  by_cases h : a > b
  all_goals
    go_enter Try.func59, Try.ntmps59
    go_wp2
    go_ret
    exact ⟨_, rfl, by simp [h], rfl⟩
theorem wpList_toInt64 {P : Program} {w : World} {ops : Array Oper} {rest : List Oper} {o : Oper} {a : Act} {Q : Exit → Act → World → Prop} (hg : o.guard = none) {src dst : TypeId} {x : Operand} (hop : o.op = Op.convert src dst x) {b : Nat} (hx : a.eval x = .float .f64 b) {v : Value}
    (hr : ∀ w, (convert src dst (.float .f64 b)).run P w = .ok v w) (hK : wpList P ops Q rest (a.put o.dst v) w) : wpList P ops Q (o :: rest) a w := by
  refine wpList_plain hg fun K hK' => ?_
  unfold Oper.wp
  simp [execOp, hop, hx, hr, Result.andThen]
  exact hK' _ _ hK
theorem toI64W {d k : Nat} (h : floatToIntVal .f64 d .i64 = some (k : Int)) : ∀ w, (convert 46 2 (.float .f64 d)).run Try.prog w = .ok (.int .i64 (k : Int)) w := by
  intro w
  exact run_convert_float_int (P := Try.prog) w _ _ .f64 .i64 _ _ (by rw [Try.underlying46]; rfl) Try.underlying2 h
set_option maxRecDepth 100000 in
set_option maxHeartbeats 4000000 in
theorem s_NewBow_no (n : Int) (pl kp fr nr : Nat) (w : World) (h : okNB n pl kp fr nr = false) : Calls Try.prog 15 #[.int .i64 n, .float .f32 pl, .float .f32 kp, .float .f32 fr, .float .f32 nr] w (OutV_Ti (cdBow (fun _ => 0) (fun _ => 0) 0 0 0 0 0 0 0 0 0 0 0 0) 2 w) := by
  have F := (Frg.nil w).box 31 #[.slice none 0 0, .int .i64 0, .slice none 0 0, .int .i64 0, .int .i64 0, .float .f32 0, .float .f32 0, .float .f32 0, .float .f32 0, .float .f32 0, .float .f32 0, .float .f32 0]
  have HA := hid (fun w' => s_In n 2 1024 w')
  have HFI := hid (fun w' => s_l01Finite nr w')
  cases e0 : (decide (2 ≤ n) && decide (n ≤ 1024))
  · rw [e0] at HA; clear h
    go_enter Try.func15, Try.ntmps15
    go_wp2_with (first | (go_at_call 56; ((with_reducible refine (HA.out _).mono ?_); rintro e w5 ⟨rfl, rfl⟩)) | (go_at_call 57; ((with_reducible refine (HFI.out _).mono ?_); rintro e w5 ⟨rfl, mf, rfl⟩; replace F := F.drewN mf; (try simp only [World.drewN_drewN] at F))) | (with_reducible refine stop_store (ty := 31) rfl ?_))
    show wpList _ _ _ _ _ _
    refine wpList_storeD rfl rfl rfl (cells := #[.slice none 0 0, .int .i64 0, .slice none 0 0, .int .i64 0, .int .i64 0, .float .f32 0, .float .f32 0, .float .f32 0, .float .f32 0, .float .f32 0, .float .f32 0, .float .f32 0]) rfl (F.row m0) uinfoBowI rfl (by simp [Value.oneCell']) (fun w4 K => ?_)
    have R := hid K.row
    have L := hid (F.wr0 K).below
    clear K F
    go_wp2
    exact bodyPost_ret (results_row2 rfl _ _ _ _ _ rfl R.out Try.underlying31 rfl uinfoBowI) rfl ⟨[.slice none 0 0, .int .i64 0, .slice none 0 0, .int .i64 0, .int .i64 0, .float .f32 0, .float .f32 0, .float .f32 0, .float .f32 0, .float .f32 0, .float .f32 0, .float .f32 0], rfl, layBow0 _ _, L.out⟩
  rw [e0] at HA
  cases e1 : (FloatKind.f32.format.order pl 0 == some .gt || FloatKind.f32.format.order pl 0 == some .eq)
  · clear h
    go_enter Try.func15, Try.ntmps15
    go_wp2_with (first | (go_at_call 56; ((with_reducible refine (HA.out _).mono ?_); rintro e w5 ⟨rfl, rfl⟩)) | (go_at_call 57; ((with_reducible refine (HFI.out _).mono ?_); rintro e w5 ⟨rfl, mf, rfl⟩; replace F := F.drewN mf; (try simp only [World.drewN_drewN] at F))) | (with_reducible refine stop_store (ty := 31) rfl ?_))
    show wpList _ _ _ _ _ _
    refine wpList_storeD rfl rfl rfl (cells := #[.slice none 0 0, .int .i64 0, .slice none 0 0, .int .i64 0, .int .i64 0, .float .f32 0, .float .f32 0, .float .f32 0, .float .f32 0, .float .f32 0, .float .f32 0, .float .f32 0]) rfl (F.row m0) uinfoBowI rfl (by simp [Value.oneCell']) (fun w4 K => ?_)
    have R := hid K.row
    have L := hid (F.wr0 K).below
    clear K F
    go_wp2
    exact bodyPost_ret (results_row2 rfl _ _ _ _ _ rfl R.out Try.underlying31 rfl uinfoBowI) rfl ⟨[.slice none 0 0, .int .i64 0, .slice none 0 0, .int .i64 0, .int .i64 0, .float .f32 0, .float .f32 0, .float .f32 0, .float .f32 0, .float .f32 0, .float .f32 0, .float .f32 0], rfl, layBow0 _ _, L.out⟩
  cases e2 : (FloatKind.f32.format.order pl 1065353216 == some .lt || FloatKind.f32.format.order pl 1065353216 == some .eq)
  · clear h
    go_enter Try.func15, Try.ntmps15
    go_wp2_with (first | (go_at_call 56; ((with_reducible refine (HA.out _).mono ?_); rintro e w5 ⟨rfl, rfl⟩)) | (go_at_call 57; ((with_reducible refine (HFI.out _).mono ?_); rintro e w5 ⟨rfl, mf, rfl⟩; replace F := F.drewN mf; (try simp only [World.drewN_drewN] at F))) | (with_reducible refine stop_store (ty := 31) rfl ?_))
    show wpList _ _ _ _ _ _
    refine wpList_storeD rfl rfl rfl (cells := #[.slice none 0 0, .int .i64 0, .slice none 0 0, .int .i64 0, .int .i64 0, .float .f32 0, .float .f32 0, .float .f32 0, .float .f32 0, .float .f32 0, .float .f32 0, .float .f32 0]) rfl (F.row m0) uinfoBowI rfl (by simp [Value.oneCell']) (fun w4 K => ?_)
    have R := hid K.row
    have L := hid (F.wr0 K).below
    clear K F
    go_wp2
    exact bodyPost_ret (results_row2 rfl _ _ _ _ _ rfl R.out Try.underlying31 rfl uinfoBowI) rfl ⟨[.slice none 0 0, .int .i64 0, .slice none 0 0, .int .i64 0, .int .i64 0, .float .f32 0, .float .f32 0, .float .f32 0, .float .f32 0, .float .f32 0, .float .f32 0, .float .f32 0], rfl, layBow0 _ _, L.out⟩
  cases e3 : (FloatKind.f32.format.order kp 0 == some .gt || FloatKind.f32.format.order kp 0 == some .eq)
  · clear h
    go_enter Try.func15, Try.ntmps15
    go_wp2_with (first | (go_at_call 56; ((with_reducible refine (HA.out _).mono ?_); rintro e w5 ⟨rfl, rfl⟩)) | (go_at_call 57; ((with_reducible refine (HFI.out _).mono ?_); rintro e w5 ⟨rfl, mf, rfl⟩; replace F := F.drewN mf; (try simp only [World.drewN_drewN] at F))) | (with_reducible refine stop_store (ty := 31) rfl ?_))
    show wpList _ _ _ _ _ _
    refine wpList_storeD rfl rfl rfl (cells := #[.slice none 0 0, .int .i64 0, .slice none 0 0, .int .i64 0, .int .i64 0, .float .f32 0, .float .f32 0, .float .f32 0, .float .f32 0, .float .f32 0, .float .f32 0, .float .f32 0]) rfl (F.row m0) uinfoBowI rfl (by simp [Value.oneCell']) (fun w4 K => ?_)
    have R := hid K.row
    have L := hid (F.wr0 K).below
    clear K F
    go_wp2
    exact bodyPost_ret (results_row2 rfl _ _ _ _ _ rfl R.out Try.underlying31 rfl uinfoBowI) rfl ⟨[.slice none 0 0, .int .i64 0, .slice none 0 0, .int .i64 0, .int .i64 0, .float .f32 0, .float .f32 0, .float .f32 0, .float .f32 0, .float .f32 0, .float .f32 0, .float .f32 0], rfl, layBow0 _ _, L.out⟩
  cases e4 : (FloatKind.f32.format.order kp 1065353216 == some .lt)
  · clear h
    go_enter Try.func15, Try.ntmps15
    go_wp2_with (first | (go_at_call 56; ((with_reducible refine (HA.out _).mono ?_); rintro e w5 ⟨rfl, rfl⟩)) | (go_at_call 57; ((with_reducible refine (HFI.out _).mono ?_); rintro e w5 ⟨rfl, mf, rfl⟩; replace F := F.drewN mf; (try simp only [World.drewN_drewN] at F))) | (with_reducible refine stop_store (ty := 31) rfl ?_))
    show wpList _ _ _ _ _ _
    refine wpList_storeD rfl rfl rfl (cells := #[.slice none 0 0, .int .i64 0, .slice none 0 0, .int .i64 0, .int .i64 0, .float .f32 0, .float .f32 0, .float .f32 0, .float .f32 0, .float .f32 0, .float .f32 0, .float .f32 0]) rfl (F.row m0) uinfoBowI rfl (by simp [Value.oneCell']) (fun w4 K => ?_)
    have R := hid K.row
    have L := hid (F.wr0 K).below
    clear K F
    go_wp2
    exact bodyPost_ret (results_row2 rfl _ _ _ _ _ rfl R.out Try.underlying31 rfl uinfoBowI) rfl ⟨[.slice none 0 0, .int .i64 0, .slice none 0 0, .int .i64 0, .int .i64 0, .float .f32 0, .float .f32 0, .float .f32 0, .float .f32 0, .float .f32 0, .float .f32 0, .float .f32 0], rfl, layBow0 _ _, L.out⟩
  cases e5 : (FloatKind.f32.format.order fr 0 == some .gt || FloatKind.f32.format.order fr 0 == some .eq)
  · clear h
    go_enter Try.func15, Try.ntmps15
    go_wp2_with (first | (go_at_call 56; ((with_reducible refine (HA.out _).mono ?_); rintro e w5 ⟨rfl, rfl⟩)) | (go_at_call 57; ((with_reducible refine (HFI.out _).mono ?_); rintro e w5 ⟨rfl, mf, rfl⟩; replace F := F.drewN mf; (try simp only [World.drewN_drewN] at F))) | (with_reducible refine stop_store (ty := 31) rfl ?_))
    show wpList _ _ _ _ _ _
    refine wpList_storeD rfl rfl rfl (cells := #[.slice none 0 0, .int .i64 0, .slice none 0 0, .int .i64 0, .int .i64 0, .float .f32 0, .float .f32 0, .float .f32 0, .float .f32 0, .float .f32 0, .float .f32 0, .float .f32 0]) rfl (F.row m0) uinfoBowI rfl (by simp [Value.oneCell']) (fun w4 K => ?_)
    have R := hid K.row
    have L := hid (F.wr0 K).below
    clear K F
    go_wp2
    exact bodyPost_ret (results_row2 rfl _ _ _ _ _ rfl R.out Try.underlying31 rfl uinfoBowI) rfl ⟨[.slice none 0 0, .int .i64 0, .slice none 0 0, .int .i64 0, .int .i64 0, .float .f32 0, .float .f32 0, .float .f32 0, .float .f32 0, .float .f32 0, .float .f32 0, .float .f32 0], rfl, layBow0 _ _, L.out⟩
  cases e6 : (FloatKind.f32.format.order fr 1065353216 == some .lt || FloatKind.f32.format.order fr 1065353216 == some .eq)
  · clear h
    go_enter Try.func15, Try.ntmps15
    go_wp2_with (first | (go_at_call 56; ((with_reducible refine (HA.out _).mono ?_); rintro e w5 ⟨rfl, rfl⟩)) | (go_at_call 57; ((with_reducible refine (HFI.out _).mono ?_); rintro e w5 ⟨rfl, mf, rfl⟩; replace F := F.drewN mf; (try simp only [World.drewN_drewN] at F))) | (with_reducible refine stop_store (ty := 31) rfl ?_))
    show wpList _ _ _ _ _ _
    refine wpList_storeD rfl rfl rfl (cells := #[.slice none 0 0, .int .i64 0, .slice none 0 0, .int .i64 0, .int .i64 0, .float .f32 0, .float .f32 0, .float .f32 0, .float .f32 0, .float .f32 0, .float .f32 0, .float .f32 0]) rfl (F.row m0) uinfoBowI rfl (by simp [Value.oneCell']) (fun w4 K => ?_)
    have R := hid K.row
    have L := hid (F.wr0 K).below
    clear K F
    go_wp2
    exact bodyPost_ret (results_row2 rfl _ _ _ _ _ rfl R.out Try.underlying31 rfl uinfoBowI) rfl ⟨[.slice none 0 0, .int .i64 0, .slice none 0 0, .int .i64 0, .int .i64 0, .float .f32 0, .float .f32 0, .float .f32 0, .float .f32 0, .float .f32 0, .float .f32 0, .float .f32 0], rfl, layBow0 _ _, L.out⟩
  cases e7 : fin nr
  · rw [e7] at HFI; clear h
    go_enter Try.func15, Try.ntmps15
    go_wp2_with (first | (go_at_call 56; ((with_reducible refine (HA.out _).mono ?_); rintro e w5 ⟨rfl, rfl⟩)) | (go_at_call 57; ((with_reducible refine (HFI.out _).mono ?_); rintro e w5 ⟨rfl, mf, rfl⟩; replace F := F.drewN mf; (try simp only [World.drewN_drewN] at F))) | (with_reducible refine stop_store (ty := 31) rfl ?_))
    show wpList _ _ _ _ _ _
    refine wpList_storeD rfl rfl rfl (cells := #[.slice none 0 0, .int .i64 0, .slice none 0 0, .int .i64 0, .int .i64 0, .float .f32 0, .float .f32 0, .float .f32 0, .float .f32 0, .float .f32 0, .float .f32 0, .float .f32 0]) rfl (F.row m0) uinfoBowI rfl (by simp [Value.oneCell']) (fun w4 K => ?_)
    have R := hid K.row
    have L := hid (F.wr0 K).below
    clear K F
    go_wp2
    exact bodyPost_ret (results_row2 rfl _ _ _ _ _ rfl R.out Try.underlying31 rfl uinfoBowI) rfl ⟨[.slice none 0 0, .int .i64 0, .slice none 0 0, .int .i64 0, .int .i64 0, .float .f32 0, .float .f32 0, .float .f32 0, .float .f32 0, .float .f32 0, .float .f32 0, .float .f32 0], rfl, layBow0 _ _, L.out⟩
  rw [e7] at HFI
  exfalso
  simp only [okNB, partB, withinB, e0, e1, e2, e3, e4, e5, e6, e7] at h
  exact absurd h (by decide)
set_option maxRecDepth 100000 in
set_option maxHeartbeats 4000000 in
theorem s_NewBow_yes (n pl kp fr nr : Nat) (w : World) (x1 : 2 ≤ n) (x2 : n ≤ 1024) (h1 : withinB pl 0 1065353216 = true) (h3 : partB kp = true) (h4 : withinB fr 0 1065353216 = true) (h5 : fin nr = true) (hkp : fits .f32 kp) (hnr : fits .f32 nr) (hfr : fits .f32 fr) : Calls Try.prog 15 #[.int .i64 (n : Int), .float .f32 pl, .float .f32 kp, .float .f32 fr, .float .f32 nr] w (OutV_Ti (cdNB (n - bowN pl n) (bowN pl n) kp nr fr) 0 w) := by
  have F := (Frg.nil w).box 31 #[.slice none 0 0, .int .i64 0, .slice none 0 0, .int .i64 0, .int .i64 0, .float .f32 0, .float .f32 0, .float .f32 0, .float .f32 0, .float .f32 0, .float .f32 0, .float .f32 0]
  have HA := hid (fun w' => s_In (n : Int) 2 1024 w')
  have HFI := hid (fun w' => s_l01Finite nr w')
  obtain ⟨po1, po2, po3⟩ := in01 h1
  obtain ⟨q1, q2, q3, q4⟩ := mult_pos po1 po2 po3 x2
  obtain ⟨_, hi, hkk⟩ := mult_int po1 po2 po3 x2 (can_fop _ _ _ _ : can .f32 (fop .mul .f32 pl (floatOfInt .f32 (n : Int))) = fop .mul .f32 pl (floatOfInt .f32 (n : Int)))
  obtain ⟨nb, hnb⟩ : ∃ m, m = bowN pl n := ⟨_, rfl⟩
  have hb := hnb
  unfold bowN at hb
  rw [← hnb]
  obtain ⟨nx, hnx⟩ : ∃ m, m = n - nb := ⟨_, rfl⟩
  rw [← hnx]
  obtain ⟨D, hD⟩ : ∃ D, D = fop .mul .f32 pl (floatOfInt .f32 (n : Int)) := ⟨_, rfl⟩
  rw [← hD] at q1 q2 q3 hkk hb
  have HD : Hid (∀ d, Hid (can .f32 d = fop .mul .f32 pl (floatOfInt .f32 (n : Int))) → d = D) := fun d hd => of_can' (hd.out.trans hD.symm) q1
  clear hD hi q4
  have HF : Hid (∀ s r, Hid (can .f64 s = can .f64 (widen D)) → Hid (FloorRes s r) → ∀ w, (convert 46 2 (.float .f64 r)).run Try.prog w = .ok (.int .i64 (wholeW D : Int)) w) := fun s r hs hf => by
    have es : s = widen D := (eq_of_can hs.out.symm (by rw [isNan_widen, q1])).symm
    subst es
    exact toI64W (floor_int q1 q2 q3 hf.out.1)
  generalize wholeW D = kk at *
  have eA : (decide (2 ≤ (n : Int)) && decide ((n : Int) ≤ 1024)) = true := by simp only [Bool.and_eq_true, decide_eq_true_eq]; omega
  rw [eA] at HA; rw [h5] at HFI
  have y1 : 1 ≤ nb := by omega
  have y2 : nb ≤ 1024 := by omega
  have z1 : 1 ≤ nx := by omega
  have z2 : nx ≤ 1024 := by omega
  have HM2 := hid (fun w => makeF nb (by omega) w)
  have HM1 : Hid (∀ w : World, (Instr.makeSlice 23 (.int .i64 ((n : Int) - (nb : Int))) (.int .i64 ((n : Int) - (nb : Int)))).run Try.prog w = .ok (.slice (some ⟨w.heap.size, 0, none⟩) nx nx) (w.alloc (.cells (ftab .f32 (fun _ => 0) nx) 22))) := fun w => by
    rw [show (n : Int) - (nb : Int) = (nx : Int) by omega]
    exact makeF nx (by omega) w
  simp only [partB, withinB, Bool.and_eq_true] at h1 h3 h4
  obtain ⟨g1, g2⟩ := h1
  obtain ⟨g3, g4⟩ := h3
  obtain ⟨g5, g6⟩ := h4
  have HBh := hid hb; have HNX := hid hnx
  clear eA h5 hnb q1 q2 q3 po1 po2 po3 hb hnx
  go_enter Try.func15, Try.ntmps15
  go_wp2_with (first | (go_at_call 56; ((with_reducible refine (HA.out _).mono ?_); rintro e w5 ⟨rfl, rfl⟩)) | (go_at_call 57; ((with_reducible refine (HFI.out _).mono ?_); rintro e w5 ⟨rfl, mf, rfl⟩; replace F := F.drewN mf; (try simp only [World.drewN_drewN] at F))) | (with_reducible refine wpList_farith rfl rfl rfl rfl rfl ?_; intro r3 n3 hr3 hf3; obtain rfl := HD.out r3 hr3; replace F := F.drewN n3; (try simp only [World.drewN_drewN] at F)) | (with_reducible refine wpList_widen rfl rfl rfl Try.underlying22 Try.underlying46 ?_; intro s1 n1 hs1 fs1; replace F := F.drewN n1; (try simp only [World.drewN_drewN] at F)) | (go_at_call 58; refine (floor_any _ _ (by assumption)).mono ?_; rintro e w' ⟨rf, fn, rfl, hfr9, rfl⟩; replace F := F.drewN fn; (try simp only [World.drewN_drewN] at F)) | (with_reducible refine wpList_toInt64 rfl rfl rfl (HF.out _ _ (by assumption) (by assumption)) ?_) | (go_at_call 60; ((with_reducible refine (s_MinN _ _ _).mono ?_); rintro e w5 ⟨rm, rfl, hrm, rfl⟩; replace hrm := hid hrm)) | (go_at_call 59; ((with_reducible refine (s_MaxN _ _ _).mono ?_); rintro e w5 ⟨rx, rfl, hrx, rfl⟩; obtain rfl : rx = (nb : Int) := (by have h9 := hrm.out; have hb := HBh.out; (split at h9 <;> split at hrx <;> omega)); clear hrx hrm)))
  clear g1 g2 g3 g4 g5 g6
  have G := F.drewN 1
  refine region_tailZ (E := leX) (fun f args z w1 v => (f = 61 → FilV 1 (fop .sub .f32 1065353216 kp) (can .f32 kp) v)) 13 (by kernel_rfl) (by kernel_rfl) ?_
  simp only [List.take_succ_cons, List.take_zero, List.drop_succ_cons, List.drop_zero]
  refine wpFreeZ_one rfl (.int .i64 (n : Int)) (fun w1 _ => by kernel_rfl) ?_
  simp only [Act.put, List.setIfInBounds_toArray, List.set_cons_succ, List.set_cons_zero]
  refine wpFreeZ_one rfl (.int .i64 (nb : Int)) (fun w1 _ => by kernel_rfl) ?_
  simp only [Act.put, List.setIfInBounds_toArray, List.set_cons_succ, List.set_cons_zero]
  refine wpFreeZ_one rfl (.int .i64 ((n : Int) - (nb : Int))) (fun w1 _ => ?_) ?_
  · go_simp
    exact IntWalk.i64_in _ (by omega)
  simp only [Act.put, List.setIfInBounds_toArray, List.set_cons_succ, List.set_cons_zero]
  refine wpFreeZ_made rfl rfl rfl rfl HM1.out (fun b1 => ?_)
  simp only [Act.put, List.setIfInBounds_toArray, List.set_cons_succ, List.set_cons_zero]
  refine wpFreeZ_one rfl (.agg #[.slice (some ⟨b1, 0, none⟩) nx nx, .int .i64 0]) (fun w1 _ => by kernel_rfl) ?_
  simp only [Act.put, List.setIfInBounds_toArray, List.set_cons_succ, List.set_cons_zero]
  refine wpFreeZ_one rfl (.int .i64 (nb : Int)) (fun w1 _ => by kernel_rfl) ?_
  simp only [Act.put, List.setIfInBounds_toArray, List.set_cons_succ, List.set_cons_zero]
  refine wpFreeZ_made rfl rfl rfl rfl HM2.out (fun b2 => ?_)
  simp only [Act.put, List.setIfInBounds_toArray, List.set_cons_succ, List.set_cons_zero]
  refine wpFreeZ_one rfl (.agg #[.slice (some ⟨b2, 0, none⟩) nb nb, .int .i64 0]) (fun w1 _ => by kernel_rfl) ?_
  simp only [Act.put, List.setIfInBounds_toArray, List.set_cons_succ, List.set_cons_zero]
  refine wpFreeZ_one rfl (.float .f32 kp) (fun w1 _ => by kernel_rfl) ?_
  simp only [Act.put, List.setIfInBounds_toArray, List.set_cons_succ, List.set_cons_zero]
  refine wpFreeZ_callW (by kernel_rfl) rfl Try.func61 (by kernel_rfl) (by kernel_rfl) (args := #[.float .f32 kp]) (by simp [Act.eval]) (fun z v w1 w2 hw hv => hv) (fun wc hw1 hbe => ?_) ?_
  · refine (s_OnePoleV kp hkp wc).mono ?_
    rintro e w2 ⟨v, rfl, hv, hl⟩
    exact ⟨_, rfl, hl, fun _ => hv⟩
  rintro v1 ⟨z, wv, _, hv⟩
  obtain ⟨p0, p1, p2, p3, p4, rfl, hC1, hF1⟩ := hv rfl
  have HC1 := hid hC1; have HF1 := hid hF1
  clear hv hC1 hF1
  simp only [Act.put, List.setIfInBounds_toArray, List.set_cons_succ, List.set_cons_zero]
  refine wpFreeZ_one rfl (.float .f32 nr) (fun w1 _ => by kernel_rfl) ?_
  simp only [Act.put, List.setIfInBounds_toArray, List.set_cons_succ, List.set_cons_zero]
  refine wpFreeZ_one rfl (.float .f32 fr) (fun w1 _ => by kernel_rfl) ?_
  simp only [Act.put, List.setIfInBounds_toArray, List.set_cons_succ, List.set_cons_zero]
  refine wpFreeZ_one rfl (.agg #[.slice (some ⟨b1, 0, none⟩) nx nx, .int .i64 0, .slice (some ⟨b2, 0, none⟩) nb nb, .int .i64 0, .int .i64 1, .float .f32 p0, .float .f32 p1, .float .f32 p2, .float .f32 p3, .float .f32 p4, .float .f32 nr, .float .f32 fr]) (fun w1 _ => by kernel_rfl) ?_
  simp only [Act.put, List.setIfInBounds_toArray, List.set_cons_succ, List.set_cons_zero]
  refine wpFreeZ_nil (fun w3 zs hw3 hF hc => ?_)
  obtain ⟨zz1, n1', r1⟩ := (hF 3).1.1.1.1.1.1.1.1.1.2 rfl
  obtain ⟨zz2, n2', r2⟩ := (hF 6).1.1.1.1.1.1.2 rfl
  have hne : b1 ≠ b2 := by
    rcases hc 3 6 (by decide) with ⟨wx, _, _, hz, hf⟩ | ⟨wx, _, _, hz, hf⟩
    · have := (hf.1.1.1.1.1.1.1.1.1.2 rfl).2.2.lt; omega
    · have := (hf.1.1.1.1.1.1.2 rfl).2.2.lt; omega
  rw [← zz1] at r1 n1'
  rw [← zz2] at r2 n2'
  simp only [World.heap_drewN, World.size_alloc] at n1' n2'
  clear hF hc zz1 zz2
  replace F := G.le hw3
  clear hw3 G
  refine wpList_storeD rfl rfl rfl (cells := #[.slice (some ⟨b1, 0, none⟩) nx nx, .int .i64 0, .slice (some ⟨b2, 0, none⟩) nb nb, .int .i64 0, .int .i64 1, .float .f32 p0, .float .f32 p1, .float .f32 p2, .float .f32 p3, .float .f32 p4, .float .f32 nr, .float .f32 fr]) rfl (F.row m0) uinfoBowI rfl (by simp [Value.oneCell']) (fun w9 K => ?_)
  have R := hid K.row
  have q1 := K.other _ _ _ (by omega) r1
  have q2 := K.other _ _ _ (by omega) r2
  have L := hid (F.wr0 K).below
  have LY := hid (layNB nx nb kp nr fr (lo := w.heap.size) ⟨b1, b2, own_zero q1 z2 (Nat.le_refl _) (Nat.lt_succ_self _), own_zero q2 y2 (Nat.le_refl _) (Nat.lt_succ_self _), hne, by omega, q1.lt, by omega, q2.lt⟩ HC1.out HF1.out hnr hfr)
  clear K F r1 r2 q1 q2
  go_wp2
  exact bodyPost_ret (results_row2 rfl _ _ _ _ _ rfl R.out Try.underlying31 rfl uinfoBowI) rfl ⟨[.slice (some ⟨b1, 0, none⟩) nx nx, .int .i64 0, .slice (some ⟨b2, 0, none⟩) nb nb, .int .i64 0, .int .i64 1, .float .f32 p0, .float .f32 p1, .float .f32 p2, .float .f32 p3, .float .f32 p4, .float .f32 nr, .float .f32 fr], rfl, LY.out, L.out⟩
theorem both_NewBow (n : Int) (pl kp fr nr : Nat) (hkp : fits .f32 kp) (hnr : fits .f32 nr) (hfr : fits .f32 fr) : ∃ (ar0 : List CD) (ar1 : Int), ShOkL shBow ar0 ∧ szL ar0 ≤ 1048576 ∧ (∀ (w : World), Calls Try.prog 15 #[.int .i64 n, .float .f32 pl, .float .f32 kp, .float .f32 fr, .float .f32 nr] w (OutV_Ti ar0 ar1 w)) ∧ (∀ (w : World), Calls Try.prog 16 #[.int .i64 n, .float .f32 pl, .float .f32 kp, .float .f32 fr, .float .f32 nr] w (OutV_Ti ar0 ar1 w)) := by
  cases h : okNB n pl kp fr nr
  · exact ⟨cdBow (fun _ => 0) (fun _ => 0) 0 0 0 0 0 0 0 0 0 0 0 0, 2, cdBow_sh _ _ _ _ _ _ _ _ _ _ _ _ _ _, by rw [cdBow_sz]; omega, fun w => s_NewBow_no n pl kp fr nr w h, fun w => i_NewBow_no n pl kp fr nr hnr w h⟩
  · simp only [okNB, Bool.and_eq_true, decide_eq_true_eq] at h
    obtain ⟨⟨⟨⟨h0, h1⟩, h3⟩, h4⟩, h5⟩ := h
    obtain ⟨m, rfl⟩ : ∃ m : Nat, n = m := ⟨n.toNat, by omega⟩
    have hb : bowN pl m ≤ m := by unfold bowN; omega
    exact ⟨cdNB (m - bowN pl m) (bowN pl m) kp nr fr, 0, cdNB_sh _ _ _ _ _, by rw [cdNB_sz]; omega, fun w => s_NewBow_yes m pl kp fr nr w (by omega) (by omega) h1 h3 h4 h5 hkp hnr hfr, fun w => i_NewBow_yes m pl kp fr nr w (by omega) (by omega) h1 h3 h4 h5 hkp hnr hfr⟩
end Go.Proofs.Ytgjdmoenobacgaa

/- The walk of 'FnExactNewBow'. -/
namespace Go.Proofs.Ytgjdmoenobacgaa.fnExactNewBow
open Go.RowKit Go.Fk
set_option maxRecDepth 100000 in
set_option maxHeartbeats 4000000 in
theorem core (a0 : Int) (a1 : Nat) (a2 : Nat) (a3 : Nat) (a4 : Nat) (ar0 : List CD) (ar1 : Int) (w : World)  (kr : ShOkL shBow ar0) (hzr : szL ar0 ≤ 1048576)
    (hS : ∀ (w : World) , Calls Try.prog 15 #[.int .i64 a0, .float .f32 a1, .float .f32 a2, .float .f32 a3, .float .f32 a4] w (OutV_Ti ar0 ar1 w))
    (hI : ∀ (w : World) , Calls Try.prog 16 #[.int .i64 a0, .float .f32 a1, .float .f32 a2, .float .f32 a3, .float .f32 a4] w (OutV_Ti ar0 ar1 w)) :
    Calls Try.prog 3 #[.int .i64 a0, .float .f32 a1, .float .f32 a2, .float .f32 a3, .float .f32 a4] w fun e w' => e = .returned (.bool true) ∧ Below w.heap.size w w' := by
  have hmr : mtL ar0 ≤ 1048576 := mtU_Bow kr ▸ hzr
  have KR := hid kr; clear kr
  obtain ⟨nb0, hnb0⟩ : ∃ a : Nat, a = mtL ar0 := ⟨_, rfl⟩
  rw [← hnb0] at hmr
  have hq2 : ¬ ((1 : Int) + (nb0 : Int) < 0) := by omega
  have HB0 := hid hnb0; clear hnb0
  have HS := hid hS; have HI := hid hI; clear hS hI
  have F := Frg.nil w
  go_enter Try.func3, Try.ntmps3
  go_wp2_with (first | (((with_reducible refine listN F ?_); clear F; intro wN F)) | fail)
  first | ((with_reducible refine callAt0 F ?_); clear F; intro wN F) | ((with_reducible refine callAtN F ?_); clear F; intro wN F)
  refine (HS.out _  ).mono ?_
  rintro e wS ⟨usS, rfl, oTS, hlS⟩
  have huS : Hid (usS.length = 12) := oTS.1.trans KR.out.1
  have hoS := hid oTS.all_one
  replace F := F.lay1 hlS oTS
  clear hlS oTS
  go_wp2_with (first | (((with_reducible refine listN F ?_); clear F; intro wN F)) | ((with_reducible refine at_store rfl ?_); first | (refine wpList_storeG F rfl rfl rfl rfl rfl (by simp only [List.size_toArray]; rw [huS.out]; exact uinfoBowI) (by simp only [List.size_toArray]; rw [huS.out]; rfl) (by exact hoS.out) ?_; clear F; intro W F zW; clear zW) | (refine wpList_storeG F rfl rfl rfl rfl rfl (by simp only [List.size_toArray]; rw [huI.out]; exact uinfoBowI) (by simp only [List.size_toArray]; rw [huI.out]; rfl) (by exact hoI.out) ?_; clear F; intro W F zW; clear zW) | (refine wpList_storeG F rfl rfl rfl rfl rfl (by simp only [List.size_toArray]; rw [huH.out]; exact uinfoBowI) (by simp only [List.size_toArray]; rw [huH.out]; rfl) (by exact hoH.out) ?_; clear F; intro W F zW; clear zW) | (refine wpList_storeG F rfl rfl rfl rfl rfl (by simp only [List.size_toArray]; rw [huS.out]; exact uinfoBowI) (by simp only [List.size_toArray]; rw [huS.out]; rfl) (by exact hoS.out) ?_; clear F; intro W F zW; clear zW)) | ((with_reducible refine at_loadU rfl rfl ?_); first | (with_reducible refine wpList_loadG F rfl rfl rfl (by first | exact m0 | exact m1 | exact m2 | exact m3 | exact m4 | exact m5 | exact m6 | exact m7 | exact m8 | exact m9 | exact m10 | exact m11 | exact m12 | exact m13 | exact m14 | exact m15 | exact m16 | exact m17) Try.underlying31 rfl uinfoBowI (by simp only [List.size_toArray]; first | exact huS.out | exact huI.out | exact huH.out) ?_) | (with_reducible refine wpList_loadG F rfl rfl rfl (by first | exact m0 | exact m1 | exact m2 | exact m3 | exact m4 | exact m5 | exact m6 | exact m7 | exact m8 | exact m9 | exact m10 | exact m11 | exact m12 | exact m13 | exact m14 | exact m15 | exact m16 | exact m17) Try.underlying40 rfl uinfoBowL (by simp only [List.size_toArray]; first | exact huS.out | exact huI.out | exact huH.out) ?_)) | ((with_reducible refine at_loadV rfl rfl ?_); first | (with_reducible refine wpList_loadGG F rfl rfl (by first | exact m0 | exact m1 | exact m2 | exact m3 | exact m4 | exact m5 | exact m6 | exact m7 | exact m8 | exact m9 | exact m10 | exact m11 | exact m12 | exact m13 | exact m14 | exact m15 | exact m16 | exact m17) Try.underlying31 rfl uinfoBowI (by simp only [List.size_toArray]; first | exact huS.out | exact huI.out | exact huH.out) (by kernel_rfl) ?_)))
  first | ((with_reducible refine callAt0 F ?_); clear F; intro wN F) | ((with_reducible refine callAtN F ?_); clear F; intro wN F)
  refine (HI.out _  ).mono ?_
  rintro e wI ⟨usI, rfl, oTI, hlI⟩
  have huI : Hid (usI.length = 12) := oTI.1.trans KR.out.1
  have hoI := hid oTI.all_one
  replace F := F.lay1 hlI oTI
  clear hlI oTI
  go_wp2_with (first | (((with_reducible refine listN F ?_); clear F; intro wN F)) | ((with_reducible refine at_store rfl ?_); first | (refine wpList_storeG F rfl rfl rfl rfl rfl (by simp only [List.size_toArray]; rw [huS.out]; exact uinfoBowI) (by simp only [List.size_toArray]; rw [huS.out]; rfl) (by exact hoS.out) ?_; clear F; intro W F zW; clear zW) | (refine wpList_storeG F rfl rfl rfl rfl rfl (by simp only [List.size_toArray]; rw [huI.out]; exact uinfoBowI) (by simp only [List.size_toArray]; rw [huI.out]; rfl) (by exact hoI.out) ?_; clear F; intro W F zW; clear zW) | (refine wpList_storeG F rfl rfl rfl rfl rfl (by simp only [List.size_toArray]; rw [huH.out]; exact uinfoBowI) (by simp only [List.size_toArray]; rw [huH.out]; rfl) (by exact hoH.out) ?_; clear F; intro W F zW; clear zW) | (refine wpList_storeG F rfl rfl rfl rfl rfl (by simp only [List.size_toArray]; rw [huS.out]; exact uinfoBowI) (by simp only [List.size_toArray]; rw [huS.out]; rfl) (by exact hoS.out) ?_; clear F; intro W F zW; clear zW)) | ((with_reducible refine at_loadU rfl rfl ?_); first | (with_reducible refine wpList_loadG F rfl rfl rfl (by first | exact m0 | exact m1 | exact m2 | exact m3 | exact m4 | exact m5 | exact m6 | exact m7 | exact m8 | exact m9 | exact m10 | exact m11 | exact m12 | exact m13 | exact m14 | exact m15 | exact m16 | exact m17) Try.underlying31 rfl uinfoBowI (by simp only [List.size_toArray]; first | exact huS.out | exact huI.out | exact huH.out) ?_) | (with_reducible refine wpList_loadG F rfl rfl rfl (by first | exact m0 | exact m1 | exact m2 | exact m3 | exact m4 | exact m5 | exact m6 | exact m7 | exact m8 | exact m9 | exact m10 | exact m11 | exact m12 | exact m13 | exact m14 | exact m15 | exact m16 | exact m17) Try.underlying40 rfl uinfoBowL (by simp only [List.size_toArray]; first | exact huS.out | exact huI.out | exact huH.out) ?_)) | ((with_reducible refine at_loadV rfl rfl ?_); first | (with_reducible refine wpList_loadGG F rfl rfl (by first | exact m0 | exact m1 | exact m2 | exact m3 | exact m4 | exact m5 | exact m6 | exact m7 | exact m8 | exact m9 | exact m10 | exact m11 | exact m12 | exact m13 | exact m14 | exact m15 | exact m16 | exact m17) Try.underlying31 rfl uinfoBowI (by simp only [List.size_toArray]; first | exact huS.out | exact huI.out | exact huH.out) (by kernel_rfl) ?_)) | (go_at_call 17; ((with_reducible refine (eqU_Bow _ _ ar0 _ _ _ (F.layR (by first | exact m0 | exact m1 | exact m2 | exact m3 | exact m4 | exact m5 | exact m6 | exact m7 | exact m8 | exact m9 | exact m10 | exact m11 | exact m12 | exact m13 | exact m14 | exact m15 | exact m16 | exact m17)) (F.layR (by first | exact m0 | exact m1 | exact m2 | exact m3 | exact m4 | exact m5 | exact m6 | exact m7 | exact m8 | exact m9 | exact m10 | exact m11 | exact m12 | exact m13 | exact m14 | exact m15 | exact m16 | exact m17)) KR.out hzr).mono ?_); rintro e w7 ⟨rfl, hb7⟩; replace F := F.le hb7)))
  first | ((with_reducible refine callAt0 F ?_); clear F; intro wN F) | ((with_reducible refine callAtN F ?_); clear F; intro wN F)
  refine (markU_Bow _ _ _ (1 : Int) _ KR.out (by rw [← HB0.out]; exact hmr) (by omega) (by rw [← HB0.out]; omega) (F.lay (by first | exact m0 | exact m1 | exact m2 | exact m3 | exact m4 | exact m5 | exact m6 | exact m7 | exact m8 | exact m9 | exact m10 | exact m11 | exact m12 | exact m13 | exact m14 | exact m15 | exact m16 | exact m17))).mono ?_
  rintro e w5 ⟨rfl, hR, hU⟩
  rw [← HB0.out]
  (first | replace F := F.markAt 0 hR hU rfl | replace F := F.markAt 1 hR hU rfl | replace F := F.markAt 2 hR hU rfl | replace F := F.markAt 3 hR hU rfl | replace F := F.markAt 4 hR hU rfl | replace F := F.markAt 5 hR hU rfl | replace F := F.markAt 6 hR hU rfl | replace F := F.markAt 7 hR hU rfl | replace F := F.markAt 8 hR hU rfl | replace F := F.markAt 9 hR hU rfl | replace F := F.markAt 10 hR hU rfl | replace F := F.markAt 11 hR hU rfl | replace F := F.markAt 12 hR hU rfl | replace F := F.markAt 13 hR hU rfl | replace F := F.markAt 14 hR hU rfl | replace F := F.markAt 15 hR hU rfl | replace F := F.markAt 16 hR hU rfl | replace F := F.markAt 17 hR hU rfl)
  simp only [List.set_cons_succ, List.set_cons_zero] at F
  clear hR hU
  go_wp2_with (first | (((with_reducible refine listN F ?_); clear F; intro wN F)) | ((with_reducible refine at_loadU rfl rfl ?_); first | (with_reducible refine wpList_loadG F rfl rfl rfl (by first | exact m0 | exact m1 | exact m2 | exact m3 | exact m4 | exact m5 | exact m6 | exact m7 | exact m8 | exact m9 | exact m10 | exact m11 | exact m12 | exact m13 | exact m14 | exact m15 | exact m16 | exact m17) Try.underlying31 rfl uinfoBowI (by simp only [List.size_toArray]; first | exact huS.out | exact huI.out | exact huH.out) ?_) | (with_reducible refine wpList_loadG F rfl rfl rfl (by first | exact m0 | exact m1 | exact m2 | exact m3 | exact m4 | exact m5 | exact m6 | exact m7 | exact m8 | exact m9 | exact m10 | exact m11 | exact m12 | exact m13 | exact m14 | exact m15 | exact m16 | exact m17) Try.underlying40 rfl uinfoBowL (by simp only [List.size_toArray]; first | exact huS.out | exact huI.out | exact huH.out) ?_)) | ((with_reducible refine at_loadV rfl rfl ?_); first | (with_reducible refine wpList_loadGG F rfl rfl (by first | exact m0 | exact m1 | exact m2 | exact m3 | exact m4 | exact m5 | exact m6 | exact m7 | exact m8 | exact m9 | exact m10 | exact m11 | exact m12 | exact m13 | exact m14 | exact m15 | exact m16 | exact m17) Try.underlying31 rfl uinfoBowI (by simp only [List.size_toArray]; first | exact huS.out | exact huI.out | exact huH.out) (by kernel_rfl) ?_)) | (go_at_call 19; ((with_reducible refine (heldU_Bow _ ar0 _ (1 : Int) _ KR.out (by rw [← HB0.out]; exact hmr) (by omega) (by rw [← HB0.out]; omega) (F.layR (by first | exact m0 | exact m1 | exact m2 | exact m3 | exact m4 | exact m5 | exact m6 | exact m7 | exact m8 | exact m9 | exact m10 | exact m11 | exact m12 | exact m13 | exact m14 | exact m15 | exact m16 | exact m17))).mono ?_); rintro e w6 ⟨rfl, hb6⟩; rw [← HB0.out]; replace F := F.le hb6)))
  first | ((with_reducible refine callAt0 F ?_); clear F; intro wN F) | ((with_reducible refine callAtN F ?_); clear F; intro wN F)
  refine (HI.out _  ).mono ?_
  rintro e wH ⟨usH, rfl, oTH, hlH⟩
  have huH : Hid (usH.length = 12) := oTH.1.trans KR.out.1
  have hoH := hid oTH.all_one
  replace F := F.lay1 hlH oTH
  clear hlH oTH
  go_wp2_with (first | (((with_reducible refine listN F ?_); clear F; intro wN F)) | ((with_reducible refine at_store rfl ?_); first | (refine wpList_storeG F rfl rfl rfl rfl rfl (by simp only [List.size_toArray]; rw [huS.out]; exact uinfoBowI) (by simp only [List.size_toArray]; rw [huS.out]; rfl) (by exact hoS.out) ?_; clear F; intro W F zW; clear zW) | (refine wpList_storeG F rfl rfl rfl rfl rfl (by simp only [List.size_toArray]; rw [huI.out]; exact uinfoBowI) (by simp only [List.size_toArray]; rw [huI.out]; rfl) (by exact hoI.out) ?_; clear F; intro W F zW; clear zW) | (refine wpList_storeG F rfl rfl rfl rfl rfl (by simp only [List.size_toArray]; rw [huH.out]; exact uinfoBowI) (by simp only [List.size_toArray]; rw [huH.out]; rfl) (by exact hoH.out) ?_; clear F; intro W F zW; clear zW) | (refine wpList_storeG F rfl rfl rfl rfl rfl (by simp only [List.size_toArray]; rw [huS.out]; exact uinfoBowI) (by simp only [List.size_toArray]; rw [huS.out]; rfl) (by exact hoS.out) ?_; clear F; intro W F zW; clear zW)) | ((with_reducible refine at_loadU rfl rfl ?_); first | (with_reducible refine wpList_loadG F rfl rfl rfl (by first | exact m0 | exact m1 | exact m2 | exact m3 | exact m4 | exact m5 | exact m6 | exact m7 | exact m8 | exact m9 | exact m10 | exact m11 | exact m12 | exact m13 | exact m14 | exact m15 | exact m16 | exact m17) Try.underlying31 rfl uinfoBowI (by simp only [List.size_toArray]; first | exact huS.out | exact huI.out | exact huH.out) ?_) | (with_reducible refine wpList_loadG F rfl rfl rfl (by first | exact m0 | exact m1 | exact m2 | exact m3 | exact m4 | exact m5 | exact m6 | exact m7 | exact m8 | exact m9 | exact m10 | exact m11 | exact m12 | exact m13 | exact m14 | exact m15 | exact m16 | exact m17) Try.underlying40 rfl uinfoBowL (by simp only [List.size_toArray]; first | exact huS.out | exact huI.out | exact huH.out) ?_)) | ((with_reducible refine at_loadV rfl rfl ?_); first | (with_reducible refine wpList_loadGG F rfl rfl (by first | exact m0 | exact m1 | exact m2 | exact m3 | exact m4 | exact m5 | exact m6 | exact m7 | exact m8 | exact m9 | exact m10 | exact m11 | exact m12 | exact m13 | exact m14 | exact m15 | exact m16 | exact m17) Try.underlying31 rfl uinfoBowI (by simp only [List.size_toArray]; first | exact huS.out | exact huI.out | exact huH.out) (by kernel_rfl) ?_)) | (go_at_call 17; ((with_reducible refine (eqU_Bow _ _ ar0 _ _ _ (F.layR (by first | exact m0 | exact m1 | exact m2 | exact m3 | exact m4 | exact m5 | exact m6 | exact m7 | exact m8 | exact m9 | exact m10 | exact m11 | exact m12 | exact m13 | exact m14 | exact m15 | exact m16 | exact m17)) (F.layR (by first | exact m0 | exact m1 | exact m2 | exact m3 | exact m4 | exact m5 | exact m6 | exact m7 | exact m8 | exact m9 | exact m10 | exact m11 | exact m12 | exact m13 | exact m14 | exact m15 | exact m16 | exact m17)) KR.out hzr).mono ?_); rintro e w7 ⟨rfl, hb7⟩; replace F := F.le hb7)) | (go_at_call 19; ((with_reducible refine (heldU_Bow _ ar0 _ (1 : Int) _ KR.out (by rw [← HB0.out]; exact hmr) (by omega) (by rw [← HB0.out]; omega) (F.layR (by first | exact m0 | exact m1 | exact m2 | exact m3 | exact m4 | exact m5 | exact m6 | exact m7 | exact m8 | exact m9 | exact m10 | exact m11 | exact m12 | exact m13 | exact m14 | exact m15 | exact m16 | exact m17))).mono ?_); rintro e w6 ⟨rfl, hb6⟩; rw [← HB0.out]; replace F := F.le hb6)))
  go_ret
  first | exact ⟨rfl, F.below⟩ | exact ⟨rfl, below_drewN F.below _⟩
theorem walk (a0 : Int) (a1 : Nat) (a2 : Nat) (a3 : Nat) (a4 : Nat) (w : World) (w0 : (Lit.int .i64 a0).wf = true) (w1 : fits .f32 a1) (w2 : fits .f32 a2) (w3 : fits .f32 a3) (w4 : fits .f32 a4) :
    Calls Try.prog 3 #[.int .i64 a0, .float .f32 a1, .float .f32 a2, .float .f32 a3, .float .f32 a4] w fun e w' => e = .returned (.bool true) ∧ Below w.heap.size w w' := by
  obtain ⟨ar0, ar1, kr, hzr, hS, hI⟩ := both_NewBow a0 a1 a2 a3 a4 w2 w4 w3
  exact core a0 a1 a2 a3 a4 ar0 ar1 w  kr hzr  hS hI
end Go.Proofs.Ytgjdmoenobacgaa.fnExactNewBow
