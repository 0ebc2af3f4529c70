/- Texts of the walk, laid in one file. -/
import Derived.Test.YteblmkamopfkiaaRows
import Derived.Handy
import Derived.Laws.BitsAllLaws
import Derived.Below
import Derived.Laws.EntriesVeiled
import Derived.IntWalk
import Derived.Test.YteblmkamopfkiaaMb
set_option linter.unusedVariables false
set_option linter.unusedSimpArgs false
/- Exactness: what a format has is written as it stands. Nothing here names a program. -/
namespace Go.Fk
open Go Go.RowKit

theorem cut_zero (s : Bool) (n : Nat) : Ieee.Toward.even.cut s n 0 = n := by
  simp [Ieee.Toward.cut, Nat.mod_one]

/-- What is cut off leaves nothing behind: the quotient. -/
theorem cut_exact (s : Bool) (n d : Nat) : Ieee.Toward.even.cut s (n * 2 ^ d) d = n := by
  by_cases hn : n = 0
  · subst hn
    have hp := Nat.two_pow_pos (min d (Nat.log2 0 + 2))
    simp only [Ieee.Toward.cut, Nat.zero_mul, Nat.one_shiftLeft, Nat.zero_div, Nat.zero_mod]
    simp
  · have h0 : n * 2 ^ d ≠ 0 := Nat.mul_ne_zero hn (Nat.ne_of_gt (Nat.two_pow_pos d))
    have hd : d ≤ (n * 2 ^ d).log2 := by
      refine (Nat.le_log2 h0).2 ?_
      exact Nat.le_mul_of_pos_left _ (by omega)
    have hp := Nat.two_pow_pos d
    simp only [Ieee.Toward.cut, Nat.one_shiftLeft]
    rw [Nat.min_eq_left (by omega), Nat.mul_div_cancel _ hp, Nat.mul_mod_left]
    simp

theorem cut_scale (s : Bool) (n d j : Nat) (hn : n ≠ 0) : Ieee.Toward.even.cut s (n * 2 ^ j) (d + j) = Ieee.Toward.even.cut s n d := by
  have hl : (n * 2 ^ j).log2 = n.log2 + j := by
    have h0 : n * 2 ^ j ≠ 0 := Nat.mul_ne_zero hn (Nat.ne_of_gt (Nat.two_pow_pos j))
    refine (Nat.log2_eq_iff h0).2 ⟨?_, ?_⟩
    · rw [Nat.pow_add]; exact Nat.mul_le_mul_right _ (Nat.log2_self_le hn)
    · rw [show n.log2 + j + 1 = (n.log2 + 1) + j by omega, Nat.pow_add]
      exact Nat.mul_lt_mul_of_pos_right Nat.lt_log2_self (Nat.two_pow_pos j)
  have hp := Nat.two_pow_pos j
  simp only [Ieee.Toward.cut, Nat.one_shiftLeft, hl]
  rw [show min (d + j) (n.log2 + j + 2) = min d (n.log2 + 2) + j by omega, Nat.pow_add, Nat.mul_div_mul_right _ _ hp, Nat.mul_mod_mul_right]
  generalize 2 ^ min d (n.log2 + 2) = g
  have e1 : decide (g * 2 ^ j < 2 * (n % g * 2 ^ j)) = decide (g < 2 * (n % g)) := by
    rw [← Nat.mul_assoc]
    exact decide_eq_decide.2 (Nat.mul_lt_mul_right hp)
  have e2 : (g * 2 ^ j == 2 * (n % g * 2 ^ j)) = (g == 2 * (n % g)) := by
    rw [← Nat.mul_assoc, Bool.eq_iff_iff, beq_iff_eq, beq_iff_eq]
    exact Nat.mul_left_inj (by omega)
  rw [e1, e2]

theorem log2_scale {n : Nat} (hn : n ≠ 0) (j : Nat) : (n * 2 ^ j).log2 = n.log2 + j := by
  have h0 : n * 2 ^ j ≠ 0 := Nat.mul_ne_zero hn (Nat.ne_of_gt (Nat.two_pow_pos j))
  refine (Nat.log2_eq_iff h0).2 ⟨?_, ?_⟩
  · rw [Nat.pow_add]; exact Nat.mul_le_mul_right _ (Nat.log2_self_le hn)
  · rw [show n.log2 + j + 1 = (n.log2 + 1) + j by omega, Nat.pow_add]
    exact Nat.mul_lt_mul_of_pos_right Nat.lt_log2_self (Nat.two_pow_pos j)

/-- What is written speaks of the number alone, not of how it is split. -/
theorem nearest_scale (f : Ieee.Format) (s : Bool) (m j : Nat) (e : Int) : f.nearest s (m * 2 ^ j) (e - j) = f.nearest s m e := by
  by_cases hm : m = 0
  · subst hm; simp [Ieee.Format.nearest]
  have h0 : m * 2 ^ j ≠ 0 := Nat.mul_ne_zero hm (Nat.ne_of_gt (Nat.two_pow_pos j))
  unfold Ieee.Format.nearest
  rw [if_neg hm, if_neg h0, log2_scale hm]
  rw [show e - (j : Int) + ((m.log2 + j : Nat) : Int) - f.fractionBits = e + m.log2 - f.fractionBits by omega]
  generalize max (e + (m.log2 : Int) - f.fractionBits) f.leastPlace = last
  dsimp only
  congr 3
  simp only [Nat.shiftLeft_eq]
  by_cases h1 : e ≤ last
  · rw [show (e - (j : Int) - last).toNat = 0 by omega, show (e - last).toNat = 0 by omega, show (last - (e - (j : Int))).toNat = (last - e).toNat + j by omega]
    simpa using cut_scale s m _ j hm
  · by_cases h2 : last ≤ e - j
    · rw [show (last - (e - (j : Int))).toNat = 0 by omega, show (last - e).toNat = 0 by omega, cut_zero, cut_zero, Nat.mul_assoc, ← Nat.pow_add,
        show j + (e - (j : Int) - last).toNat = (e - last).toNat by omega]
    · rw [show (e - (j : Int) - last).toNat = 0 by omega, show (last - e).toNat = 0 by omega, cut_zero, Nat.pow_zero, Nat.mul_one,
        show j = (e - last).toNat + (last - (e - (j : Int))).toNat by omega, Nat.pow_add, ← Nat.mul_assoc]
      rw [show (last - (e - (((e - last).toNat + (last - (e - (j : Int))).toNat : Nat) : Int))).toNat = (last - (e - (j : Int))).toNat by omega]
      exact cut_exact s _ _

/-- The place of the last digit that is kept. -/
def lastOf (f : Ieee.Format) (m : Nat) (e : Int) : Int := max (e + m.log2 - f.fractionBits) f.leastPlace

/-- A number that the format has is read as it was written, shifted to the format's own place. -/
theorem read_nearest (f : Ieee.Format) (s : Bool) (m : Nat) (e : Int) (hm : m ≠ 0) (hp : m.log2 ≤ f.fractionBits) (he : f.leastPlace ≤ e)
    (ho : e + m.log2 - f.fractionBits ≤ f.leastPlace + 2 ^ f.exponentBits - 3) (hx : 2 ≤ f.exponentBits) :
    f.read (f.nearest s m e) = .number s (m * 2 ^ (e - lastOf f m e).toNat) (lastOf f m e) ∧ f.nearest s m e % f.signWeight < f.infRung := by
  have hx4 : (4 : Int) ≤ 2 ^ f.exponentBits := by
    have h : 2 ^ 2 ≤ 2 ^ f.exponentBits := Nat.pow_le_pow_right (by omega) hx
    exact_mod_cast h
  have hb : f.binade = 2 ^ f.fractionBits := rfl
  have hbp : 0 < f.binade := by rw [hb]; exact Nat.two_pow_pos _
  have hl1 : lastOf f m e ≤ e := by unfold lastOf; omega
  have hl2 : f.leastPlace ≤ lastOf f m e := by unfold lastOf; omega
  have hl3 : lastOf f m e ≤ f.leastPlace + 2 ^ f.exponentBits - 3 := by unfold lastOf; omega
  have hlog : (m * 2 ^ (e - lastOf f m e).toNat).log2 = m.log2 + (e - lastOf f m e).toNat := log2_scale hm _
  have hM0 : m * 2 ^ (e - lastOf f m e).toNat ≠ 0 := Nat.mul_ne_zero hm (Nat.ne_of_gt (Nat.two_pow_pos _))
  have hM : m * 2 ^ (e - lastOf f m e).toNat < 2 * f.binade := by
    have h1 : m.log2 + (e - lastOf f m e).toNat ≤ f.fractionBits := by unfold lastOf; omega
    have := @Nat.lt_log2_self (m * 2 ^ (e - lastOf f m e).toNat)
    rw [hlog] at this
    calc _ < _ := this
      _ ≤ 2 ^ (f.fractionBits + 1) := Nat.pow_le_pow_right (by omega) (by omega)
      _ = 2 * f.binade := by rw [Nat.pow_succ, ← hb]; omega
  have hfull : f.leastPlace < lastOf f m e → f.binade ≤ m * 2 ^ (e - lastOf f m e).toNat := by
    intro h
    have h1 : m.log2 + (e - lastOf f m e).toNat = f.fractionBits := by unfold lastOf at h ⊢; omega
    have := Nat.log2_self_le hM0
    rw [hlog, h1, ← hb] at this
    exact this
  have hn : f.nearest s m e = f.word s (min ((lastOf f m e - f.leastPlace).toNat * f.binade + m * 2 ^ (e - lastOf f m e).toNat) f.infRung) := by
    unfold Ieee.Format.nearest
    rw [if_neg hm]
    show f.word s (min ((lastOf f m e - f.leastPlace).toNat * f.binade + Ieee.Toward.even.cut s (m <<< (e - lastOf f m e).toNat) (lastOf f m e - e).toNat) f.infRung) = _
    rw [show (lastOf f m e - e).toNat = 0 by omega, cut_zero, Nat.shiftLeft_eq]
  generalize hM' : m * 2 ^ (e - lastOf f m e).toNat = M at *
  generalize hq : (lastOf f m e - f.leastPlace).toNat = q at *
  have hq2 : q + 3 ≤ 2 ^ f.exponentBits := by
    have : (q : Int) + 3 ≤ ((2 ^ f.exponentBits : Nat) : Int) := by push_cast; omega
    exact_mod_cast this
  have hr : q * f.binade + M < f.infRung := by
    unfold Ieee.Format.infRung
    have h1 : (q + 2) * f.binade ≤ (2 ^ f.exponentBits - 1) * f.binade := Nat.mul_le_mul_right _ (by omega)
    rw [Nat.add_mul] at h1
    omega
  have hs : f.infRung < f.signWeight := Ieee.Format.infRung_lt _
  rw [Nat.min_eq_left (Nat.le_of_lt hr)] at hn
  rw [hn]
  have hmod := word_mod f s (r := q * f.binade + M) (by omega)
  refine ⟨?_, by rw [hmod]; exact hr⟩
  have hsg : (f.word s (q * f.binade + M) / f.signWeight % 2 == 1) = s := by
    unfold Ieee.Format.word
    cases s
    · simp [Nat.div_eq_of_lt (show q * f.binade + M < f.signWeight by omega)]
    · simp [Nat.add_div_left _ (show 0 < f.signWeight by omega), Nat.div_eq_of_lt (show q * f.binade + M < f.signWeight by omega)]
  unfold Ieee.Format.read
  simp only [hmod, hsg]
  by_cases hsub : q * f.binade + M < f.binade
  · rw [if_pos hsub]
    have hq0 : q = 0 := by
      apply Nat.eq_zero_of_not_pos
      intro h
      have : 1 * f.binade ≤ q * f.binade := Nat.mul_le_mul_right _ h
      omega
    rw [hq0]
    congr 1
    · simp
    · omega
  · rw [if_neg hsub, if_pos hr]
    have hMb : f.binade ≤ M := by
      by_cases h : f.leastPlace < lastOf f m e
      · exact hfull h
      · have : q = 0 := by omega
        rw [this] at hsub; omega
    have e1 : (q * f.binade + M) % f.binade = M - f.binade := by
      rw [Nat.mul_add_mod_self_right, Nat.mod_eq_sub_mod hMb, Nat.mod_eq_of_lt (by omega)]
    have e2 : (q * f.binade + M) / f.binade = q + 1 := by
      rw [Nat.mul_comm, Nat.mul_add_div hbp]
      congr 1
      rw [show M = f.binade + (M - f.binade) by omega, Nat.add_div_left _ hbp, Nat.div_eq_of_lt (by omega)]
    rw [e1, e2]
    congr 1
    · omega
    · omega

/-- What is read is written back. -/
theorem write_read (f : Ieee.Format) (hx : 2 ≤ f.exponentBits) (b : Nat) {s : Bool} {m : Nat} {e : Int} (h : f.read b = .number s m e) : f.nearest s m e = f.word s (b % f.signWeight) := by
  have hb : f.binade = 2 ^ f.fractionBits := rfl
  have hbp : 0 < f.binade := by rw [hb]; exact Nat.two_pow_pos _
  have hx4 : 4 ≤ 2 ^ f.exponentBits := Nat.pow_le_pow_right (n := 2) (by omega) hx
  have hinf : f.binade ≤ f.infRung := by
    unfold Ieee.Format.infRung
    exact Nat.le_mul_of_pos_left _ (by omega)
  unfold Ieee.Format.read at h
  dsimp only at h
  generalize b % f.signWeight = r at *
  split at h
  · rename_i h1
    simp only [Ieee.Datum.number.injEq] at h
    obtain ⟨_, rfl, rfl⟩ := h
    by_cases h0 : r = 0
    · subst h0; simp [Ieee.Format.nearest]
    · unfold Ieee.Format.nearest
      rw [if_neg h0]
      have h2 := h1
      rw [hb] at h2
      have := (Nat.log2_lt h0).2 h2
      rw [show max (f.leastPlace + (r.log2 : Int) - f.fractionBits) f.leastPlace = f.leastPlace by omega]
      simp only [Int.sub_self, Int.toNat_zero, Nat.shiftLeft_zero, cut_zero, Nat.zero_mul, Nat.zero_add]
      rw [Nat.min_eq_left (by omega)]
  · rename_i h1
    split at h
    · rename_i h2
      simp only [Ieee.Datum.number.injEq] at h
      obtain ⟨_, rfl, rfl⟩ := h
      have hlt := Nat.mod_lt r hbp
      have h0 : f.binade + r % f.binade ≠ 0 := by omega
      have e1 : (f.binade + r % f.binade).log2 = f.fractionBits := by
        refine (Nat.log2_eq_iff h0).2 ⟨?_, ?_⟩
        · rw [← hb]; omega
        · rw [Nat.pow_succ, ← hb]; omega
      have h3 : 1 ≤ r / f.binade := (Nat.le_div_iff_mul_le hbp).2 (by omega)
      unfold Ieee.Format.nearest
      rw [if_neg h0, e1]
      rw [show max (f.leastPlace + ((r / f.binade - 1 : Nat) : Int) + (f.fractionBits : Int) - f.fractionBits) f.leastPlace = f.leastPlace + ((r / f.binade - 1 : Nat) : Int) by omega]
      simp only [Int.sub_self, Int.toNat_zero, Nat.shiftLeft_zero, cut_zero]
      rw [show (f.leastPlace + ((r / f.binade - 1 : Nat) : Int) - f.leastPlace).toNat = r / f.binade - 1 by omega]
      have h4 : (r / f.binade - 1) * f.binade + (f.binade + r % f.binade) = r := by
        have h5 := Nat.div_add_mod r f.binade
        have h6 : (r / f.binade - 1) * f.binade + f.binade = r / f.binade * f.binade := by
          rw [← Nat.succ_mul]; congr 1; omega
        rw [Nat.mul_comm] at h5
        omega
      rw [h4, Nat.min_eq_left (by omega)]
    · split at h <;> cases h

theorem bits32 : FloatKind.f32.format.exponentBits = 8 ∧ FloatKind.f32.format.fractionBits = 23 ∧ FloatKind.f32.format.leastPlace = -149 ∧ FloatKind.f32.format.signWeight = 2147483648 ∧ FloatKind.f32.format.infRung = 2139095040 := by decide
theorem bits64 : FloatKind.f64.format.exponentBits = 11 ∧ FloatKind.f64.format.fractionBits = 52 ∧ FloatKind.f64.format.leastPlace = -1074 ∧ FloatKind.f64.format.signWeight = 9223372036854775808 ∧ FloatKind.f64.format.infRung = 9218868437227405312 := by decide

/-- What a narrow number's datum is made of. -/
theorem read32 {b : Nat} {s : Bool} {m : Nat} {e : Int} (h : FloatKind.f32.format.read b = .number s m e) : -149 ≤ e ∧ (m ≠ 0 → m.log2 ≤ 23 ∧ e + m.log2 + 1 ≤ 128) := by
  refine ⟨?_, fun h0 => ⟨?_, lt32 h h0⟩⟩
  all_goals
    have e1 : Ieee.single.signWeight = 2147483648 := by decide
    have e2 : Ieee.single.infRung = 2139095040 := by decide
    have e3 : Ieee.single.binade = 8388608 := by decide
    have e4 : Ieee.single.leastPlace = -149 := by decide
    simp only [FloatKind.format, Ieee.Format.read, e1, e2, e3, e4] at h
    split at h
    · simp only [Ieee.Datum.number.injEq] at h
      obtain ⟨_, rfl, rfl⟩ := h
      first | omega | (have : (b % 2147483648).log2 < 23 := (Nat.log2_lt h0).2 (by omega)
                       omega)
    · split at h
      · simp only [Ieee.Datum.number.injEq] at h
        obtain ⟨_, rfl, rfl⟩ := h
        first | omega | (have : (8388608 + b % 2147483648 % 8388608).log2 < 24 := (Nat.log2_lt h0).2 (by omega)
                         omega)
      · split at h <;> cases h

/-- A narrow number is widened exactly. -/
theorem read_widen {b : Nat} {s : Bool} {m : Nat} {e : Int} (h : FloatKind.f32.format.read b = .number s m e) :
    ∃ j : Nat, ∃ e', FloatKind.f64.format.read (widen b) = .number s (m * 2 ^ j) e' ∧ (m ≠ 0 → e' = e - j) ∧ widen b % 9223372036854775808 < 9218868437227405312 := by
  obtain ⟨b1, b2, b3, b4, b5⟩ := bits64
  obtain ⟨h1, h2⟩ := read32 h
  have hw : widen b = FloatKind.f64.format.nearest s m e := by simp only [widen, h]; rfl
  rw [hw]
  by_cases hm : m = 0
  · subst hm
    refine ⟨0, -1074, ?_, fun h => absurd rfl h, ?_⟩
    · cases s <;> simp [Ieee.Format.nearest, Ieee.Format.word] <;> decide
    · cases s <;> simp [Ieee.Format.nearest, Ieee.Format.word] <;> decide
  · obtain ⟨h3, h4⟩ := h2 hm
    obtain ⟨h5, h6⟩ := read_nearest FloatKind.f64.format s m e hm (by omega) (by omega) (by rw [b1, b2, b3]; omega) (by omega)
    rw [b4, b5] at h6
    refine ⟨_, _, h5, fun _ => ?_, h6⟩
    have : lastOf FloatKind.f64.format m e ≤ e := by unfold lastOf; omega
    omega
end Go.Fk
namespace Go.Fk
open Go Go.RowKit
theorem read_mod {k : FloatKind} {b : Nat} {s : Bool} {m : Nat} {e : Int} (h : k.format.read b = .number s m e) : k.format.read (b % k.format.signWeight) = .number false m e := by
  have hs : 0 < k.format.signWeight := by unfold Ieee.Format.signWeight; exact Nat.two_pow_pos _
  have e1 : (b % k.format.signWeight / k.format.signWeight % 2 == 1) = false := by
    rw [Nat.div_eq_of_lt (Nat.mod_lt _ hs)]; rfl
  unfold Ieee.Format.read at h ⊢
  dsimp only at h ⊢
  rw [e1, Nat.mod_mod]
  generalize b % k.format.signWeight = r at *
  split
  · rename_i h1
    rw [if_pos h1] at h
    simp only [Ieee.Datum.number.injEq] at h ⊢
    exact ⟨trivial, h.2⟩
  · rename_i h1
    rw [if_neg h1] at h
    split
    · rename_i h2
      rw [if_pos h2] at h
      simp only [Ieee.Datum.number.injEq] at h ⊢
      exact ⟨trivial, h.2⟩
    · rename_i h2
      rw [if_neg h2] at h
      split at h <;> cases h

/-- May be narrowed: what the language fixes, whole range. -/
def narrowableX (b : Nat) : Prop := ∀ s m e, FloatKind.f64.format.read b = .number s m e → (FloatKind.f32.decode (FloatKind.f32.encode (.number s m e))).isInfinity = false

/-- The size of a narrow number, by way of the wide ones. -/
theorem narrow_abs {b w : Nat} (hw : can .f64 w = can .f64 (widen b)) : narrowableX (w % 9223372036854775808) ∧ can .f32 (narrow (w % 9223372036854775808)) = can .f32 (b % 2147483648) := by
  obtain ⟨a1, a2, a3, a4, a5⟩ := bits32
  obtain ⟨b1, b2, b3, b4, b5⟩ := bits64
  cases hr : FloatKind.f32.format.read b with
  | nan s t =>
    have hn : isNan .f32 b = true := by simp [isNan, hr, Ieee.Datum.isNaN]
    have hq : widen b = qnan .f64 := by simp only [widen, hr]
    have hwn : isNan .f64 w = true := by rw [isNan_of_can hw, hq]; exact isNan_qnan _
    have hm : isNan .f64 (w % 9223372036854775808) = true := by rw [isNan_f64] at hwn ⊢; rwa [Nat.mod_mod]
    have hm2 : isNan .f32 (b % 2147483648) = true := by rw [isNan_f32] at hn ⊢; rwa [Nat.mod_mod]
    obtain ⟨s', t', hr'⟩ := read_nan hm
    refine ⟨fun s1 m1 e1 h => (by rw [hr'] at h; cases h), ?_⟩
    rw [can_of_nan hm2]
    simp only [narrow, hr', can_qnan]
  | infinity s =>
    have hb : b % 2147483648 = 2139095040 := by
      have e1 : Ieee.single.signWeight = 2147483648 := by decide
      have e2 : Ieee.single.infRung = 2139095040 := by decide
      simp only [FloatKind.format, Ieee.Format.read, e1, e2] at hr
      split at hr
      · cases hr
      · split at hr
        · cases hr
        · split at hr
          · assumption
          · cases hr
    have hq : widen b = FloatKind.f64.encode (.infinity s) := by simp only [widen, hr]
    have hwq : w = FloatKind.f64.encode (.infinity s) := by
      rw [hq] at hw
      exact (eq_of_can hw.symm (by cases s <;> decide)).symm
    rw [hwq, hb]
    have e1 : FloatKind.f64.format.read (FloatKind.f64.encode (.infinity s) % 9223372036854775808) = .infinity false := by cases s <;> decide
    refine ⟨fun s1 m1 e1' h => (by rw [e1] at h; cases h), ?_⟩
    simp only [narrow, e1]
    decide
  | number s m e =>
    obtain ⟨j, e', h1, h2, h3⟩ := read_widen hr
    have hwq : w = widen b := by
      refine (eq_of_can hw.symm ?_).symm
      simp [isNan, h1, Ieee.Datum.isNaN]
    rw [hwq]
    have h4 := read_mod h1
    have h5 := read_mod hr
    rw [b4] at h4
    rw [a4] at h5
    have h6 : FloatKind.f32.format.nearest false (m * 2 ^ j) e' = b % 2147483648 := by
      have h7 := write_read FloatKind.f32.format (by omega) (b % 2147483648) h5
      rw [a4, Nat.mod_mod] at h7
      by_cases hm : m = 0
      · subst hm
        rw [Nat.zero_mul]
        exact (show FloatKind.f32.format.nearest false 0 e' = FloatKind.f32.format.nearest false 0 e by simp [Ieee.Format.nearest]).trans h7
      · rw [h2 hm, nearest_scale, h7]; rfl
    have h8 : FloatKind.f32.encode (.number false (m * 2 ^ j) e') = b % 2147483648 := h6
    refine ⟨fun s1 m1 e1 h => ?_, ?_⟩
    · rw [h4] at h
      cases h
      rw [h8]
      have : FloatKind.f32.decode (b % 2147483648) = .number false m e := h5
      rw [this]; rfl
    · have : narrow (widen b % 9223372036854775808) = FloatKind.f32.encode (.number false (m * 2 ^ j) e') := by simp only [narrow, h4]
      rw [this, h8]

section
variable {P : Program}
theorem run_narrowX (w : World) (src dst : TypeId) (b : Nat) (hs : P.underlying src = some (.float .f64)) (hd : P.underlying dst = some (.float .f32)) (hb : narrowableX b) :
    ∃ r n, (convert src dst (.float .f64 b)).run P w = .ok (.float .f32 r) (w.drewN n) ∧ can .f32 r = can .f32 (narrow b) ∧ fits .f32 r := by
  cases hr : FloatKind.f64.format.read b with
  | nan s t =>
    refine ⟨(Question.nanConv .f32 b).cut (w.tape w.drawn (.nanConv .f32 b)), 1, ?_, ?_, (nan_conv .f32 b _).2⟩
    · simp [convert, run_underlying hs, run_underlying hd, Conv.floatToFloat, FloatKind.decode, hr, Question.forced]; rfl
    · rw [can_of_nan (nan_conv .f32 b _).1]; simp only [narrow, hr, can_qnan]
  | infinity s =>
    refine ⟨FloatKind.f32.encode (.infinity s), 0, ?_, by simp only [narrow, hr], encode_wf _ _⟩
    simp [convert, run_underlying hs, run_underlying hd, Conv.floatToFloat, FloatKind.decode, hr]; rfl
  | number s m e =>
    refine ⟨FloatKind.f32.encode (.number s m e), 0, ?_, by simp only [narrow, hr], encode_wf _ _⟩
    have h := hb s m e hr
    have hr' : FloatKind.f64.decode b = .number s m e := hr
    simp [convert, run_underlying hs, run_underlying hd, Conv.floatToFloat, hr', h]; rfl

variable {w : World} {ops : Array Oper} {rest : List Oper} {o : Oper} {a : Act} {Q : Exit → Act → World → Prop}
theorem wpList_narrowX (hg : o.guard = none) {src dst : TypeId} {x : Operand} (hop : o.op = Op.convert src dst x) {b : Nat} (hx : a.eval x = .float .f64 b)
    (hs : P.underlying src = some (.float .f64)) (hd : P.underlying dst = some (.float .f32)) (hb : narrowableX b)
    (hK : ∀ r n, Hid (can .f32 r = can .f32 (narrow b)) → Hid (fits .f32 r) → wpList P ops Q rest (a.put o.dst (.float .f32 r)) (w.drewN n)) : wpList P ops Q (o :: rest) a w := by
  refine wpList_plain hg fun K hK' => ?_
  obtain ⟨r, n, hrun, hr, hf⟩ := run_narrowX (P := P) w src dst b hs hd hb
  unfold Oper.wp
  simp [execOp, hop, hx, hrun, Result.andThen]
  exact hK' _ _ (hK r n hr hf)
end
end Go.Fk

/- The place in a table: a number of 0 to 1, times 256, and its integer. Nothing here names a program. -/
namespace Go.Fk
open Go Go.RowKit
def one32 : Int := 2 ^ unitOf .f32
theorem one32_pos : 0 < one32 := Int.pow_pos (by omega)
theorem far32 : 9223372036854775807 * one32 < (far : Int) := by decide +kernel
theorem far32' : -(far : Int) < -9223372036854775808 * one32 := by decide +kernel
theorem val_one : val .f32 1065353216 = one32 ∧ isNan .f32 1065353216 = false := by decide +kernel
theorem val_zero : val .f32 0 = 0 ∧ isNan .f32 0 = false := by decide +kernel
/-- A narrow float to an integer of 64 bits. -/
theorem floatToInt_val32 {b : Nat} (hn : isNan .f32 b = false) (hlo : -9223372036854775808 * one32 ≤ val .f32 b) (hhi : val .f32 b ≤ 9223372036854775807 * one32) :
    floatToIntVal .f32 b .i64 = some ((val .f32 b).tdiv one32) := by
  have hsmall := far32
  have hsmall' := far32'
  cases hr : FloatKind.f32.format.read b with
  | nan s t => simp [isNan, hr, Ieee.Datum.isNaN] at hn
  | infinity s =>
    have hv : val .f32 b = if s then -(far : Int) else far := by simp only [val, hr]
    rw [hv] at hlo hhi
    generalize (far : Int) = big at *
    cases s <;> simp at hlo hhi <;> omega
  | number s m e =>
    have ht := toInt_val hr
    unfold floatToIntVal
    rw [ht]
    have hU := one32_pos
    rw [show (2 : Int) ^ unitOf .f32 = one32 from rfl]
    generalize one32 = U at *
    generalize val .f32 b = v at *
    have h1 : IntKind.i64.min ≤ v.tdiv U := by
      have : IntKind.i64.min = (-9223372036854775808 * U).tdiv U := (Int.mul_tdiv_cancel _ (by omega)).symm
      rw [this]; exact Int.tdiv_le_tdiv hU hlo
    have h2 : v.tdiv U ≤ IntKind.i64.max := by
      have : IntKind.i64.max = (9223372036854775807 * U).tdiv U := (Int.mul_tdiv_cancel _ (by omega)).symm
      rw [this]; exact Int.tdiv_le_tdiv hU hhi
    simp only [h1, h2, and_self, if_true]
theorem val_nearest32 {s : Bool} {m : Nat} {e : Int} (hm : m ≠ 0) (hp : m.log2 ≤ 23) (he : -149 ≤ e) (ho : e + m.log2 ≤ 127) :
    val .f32 (FloatKind.f32.format.nearest s m e) = Ieee.signed s m (e + 149).toNat := by
  obtain ⟨b1, b2, b3, b4, b5⟩ := bits32
  obtain ⟨h5, _⟩ := read_nearest FloatKind.f32.format s m e hm (by omega) (by omega) (by rw [b1, b2, b3]; omega) (by omega)
  have h1 : lastOf FloatKind.f32.format m e ≤ e := by unfold lastOf; omega
  have h2 : -149 ≤ lastOf FloatKind.f32.format m e := by unfold lastOf; omega
  simp only [val, h5]
  rw [signed_eq, signed_eq]
  have hu : ((unitOf .f32 : Nat) : Int) = 149 := rfl
  rw [hu]
  generalize lastOf FloatKind.f32.format m e = last at *
  have e1 : (2 : Int) ^ (e + 149).toNat = 2 ^ (e - last).toNat * 2 ^ (last + 149).toNat := by
    rw [← Int.pow_add]; congr 1; omega
  rw [e1, Int.natCast_mul, Int.natCast_pow]
  cases s
  · simp [Int.mul_assoc]
  · simp [Int.mul_assoc, Int.neg_mul]
/-- The place of a number in a table. -/
def placeW (x : Nat) : Nat := fop .mul .f32 x 1132462080
def inUnit (x : Nat) : Bool := (FloatKind.f32.format.order x 0 == some .gt || FloatKind.f32.format.order x 0 == some .eq) && (FloatKind.f32.format.order x 1065353216 == some .lt || FloatKind.f32.format.order x 1065353216 == some .eq)
theorem inUnit_val {x : Nat} (h : inUnit x = true) : isNan .f32 x = false ∧ 0 ≤ val .f32 x ∧ val .f32 x ≤ one32 := by
  cases hn : isNan .f32 x
  · have h0 := order_val hn val_zero.2
    have h1 := order_val hn val_one.2
    unfold inUnit at h
    rw [h0, h1, val_zero.1, val_one.1] at h
    generalize one32 = U at *
    generalize val .f32 x = v at *
    refine ⟨rfl, ?_, ?_⟩
    · rcases Int.lt_trichotomy v 0 with c | c | c
      · rw [Int.compare_eq_lt.2 c] at h; simp at h
      · omega
      · omega
    · rcases Int.lt_trichotomy v U with c | c | c
      · omega
      · omega
      · rw [Int.compare_eq_gt.2 c] at h; simp at h
  · unfold inUnit at h
    rw [order_of_nan_l hn] at h
    simp at h
theorem place_val {x : Nat} (h : inUnit x = true) : isNan .f32 (placeW x) = false ∧ val .f32 (placeW x) = val .f32 x * 256 := by
  obtain ⟨hn, h0, h1⟩ := inUnit_val h
  have hc : FloatKind.f32.format.read 1132462080 = .number false 8388608 (-15) := by decide
  have hf := far32
  have hU := one32_pos
  cases hr : FloatKind.f32.format.read x with
  | nan s t => simp [isNan, hr, Ieee.Datum.isNaN] at hn
  | infinity s =>
    have hv : val .f32 x = if s then -(far : Int) else far := by simp only [val, hr]
    rw [hv] at h0 h1
    generalize (far : Int) = big at *
    cases s <;> simp at h0 h1 <;> omega
  | number s m e =>
    obtain ⟨he, hm⟩ := read32 hr
    have hb : floatBits .mul .f32 x 1132462080 = some (FloatKind.f32.format.nearest s m (e + 8)) := by
      have : floatBits .mul .f32 x 1132462080 = some (FloatKind.f32.format.nearest (s ^^ false) (m * 2 ^ 23) (e + -15)) := by
        simp only [floatBits, Ieee.Format.mul, hr, hc]; rfl
      rw [this, Bool.xor_false, ← nearest_scale _ s m 23 (e + 8), show e + 8 - ((23 : Nat) : Int) = e + -15 by omega]
    have hp : placeW x = FloatKind.f32.format.nearest s m (e + 8) := by
      unfold placeW fop
      rw [hb]
      exact can_of_not (isNan_nearest .f32 s m (e + 8))
    refine ⟨by rw [hp]; exact isNan_nearest .f32 s m (e + 8), ?_⟩
    have hv : val .f32 x = Ieee.signed s m (e + 149).toNat := by simp only [val, hr]; rfl
    rw [hp, hv]
    by_cases m0 : m = 0
    · subst m0
      have : FloatKind.f32.format.nearest s 0 (e + 8) = FloatKind.f32.format.word s 0 := by simp [Ieee.Format.nearest]
      rw [this, signed_eq]
      cases s <;> simp <;> decide
    · obtain ⟨hl, _⟩ := hm m0
      have hle : e + m.log2 ≤ 0 := by
        rw [hv, signed_eq] at h0 h1
        have hs : s = false := by
          cases s
          · rfl
          · simp only [if_true, Int.neg_mul] at h0
            have : 0 < (m : Int) * 2 ^ (e + 149).toNat := Int.mul_pos (by omega) (Int.pow_pos (by omega))
            omega
        subst hs
        simp only [Bool.false_eq_true, if_false] at h1
        have h2 : m * 2 ^ (e + 149).toNat ≤ 2 ^ 149 := by
          have h3 : ((m * 2 ^ (e + 149).toNat : Nat) : Int) ≤ ((2 ^ 149 : Nat) : Int) := by
            rw [Int.natCast_mul, Int.natCast_pow, Int.natCast_pow]; exact h1
          exact_mod_cast h3
        have h4 : 2 ^ (m.log2 + (e + 149).toNat) ≤ 2 ^ 149 := by
          rw [Nat.pow_add]
          exact Nat.le_trans (Nat.mul_le_mul_right _ (Nat.log2_self_le m0)) h2
        have h5 := (Nat.pow_le_pow_iff_right (a := 2) (by omega)).1 h4
        omega
      rw [val_nearest32 m0 hl (by omega) (by omega), signed_eq, signed_eq, show (e + 8 + 149).toNat = (e + 149).toNat + 8 by omega, Int.pow_add, Int.mul_assoc]
      rfl
/-- The index of a place. -/
def indexW (x : Nat) : Nat := ((val .f32 x * 256).tdiv one32).toNat
theorem place_int {x p : Nat} (h : inUnit x = true) (hp : can .f32 p = placeW x) : isNan .f32 p = false ∧ floatToIntVal .f32 p .i64 = some (indexW x : Int) ∧ indexW x ≤ 256 := by
  obtain ⟨hn, h0, h1⟩ := inUnit_val h
  obtain ⟨hn2, hv⟩ := place_val h
  have hpn : isNan .f32 p = false := by
    have := isNan_of_can (hp.trans (by unfold placeW; exact (can_fop _ _ _ _).symm) : can .f32 p = can .f32 (placeW x))
    rw [this, hn2]
  have e : p = placeW x := by rw [← can_of_not hpn, hp]
  have hU := one32_pos
  refine ⟨hpn, ?_, ?_⟩
  · rw [e, floatToInt_val32 hn2 (by rw [hv]; generalize one32 = U at *; omega) (by rw [hv]; generalize one32 = U at *; omega), hv]
    unfold indexW
    generalize one32 = U at *
    have : 0 ≤ (val .f32 x * 256).tdiv U := Int.tdiv_nonneg (by omega) (by omega)
    rw [Int.toNat_of_nonneg this]
  · unfold indexW
    generalize one32 = U at *
    have : (val .f32 x * 256).tdiv U ≤ (256 * U).tdiv U := Int.tdiv_le_tdiv hU (by omega)
    rw [Int.mul_tdiv_cancel _ (by omega)] at this
    omega
end Go.Fk

/- 'isWithin'. -/
namespace Go.Fk
open Go Go.RowKit
/-- Is a number from one to another? Not NaN. -/
def withinB (a l g : Nat) : Bool := (FloatKind.f32.format.order a l == some .gt || FloatKind.f32.format.order a l == some .eq) && (FloatKind.f32.format.order a g == some .lt || FloatKind.f32.format.order a g == some .eq)
end Go.Fk
namespace Go.Proofs.Yteblmkamopfkiaa
open Go.RowKit Go.Fk
theorem i_isWithin (a l g : Nat) (w : World) : Calls Try.prog 49 #[.float .f32 a, .float .f32 l, .float .f32 g] w fun e w' => e = .returned (.bool (withinB a l g)) ∧ w = w' := by
  rcases h0 : FloatKind.f32.format.order a l with _ | (_ | _ | _) <;> rcases h1 : FloatKind.f32.format.order a g with _ | (_ | _ | _)
  all_goals
    go_enter Try.func49, Try.ntmps49
    go_wp2
    go_ret
    exact ⟨ret_b (by unfold withinB; rw [h0, h1]; rfl), rfl⟩
end Go.Proofs.Yteblmkamopfkiaa

/- Whole numbers as floats, and what a number has above its whole part. Nothing here names a program. -/
namespace Go.Fk
open Go Go.RowKit
theorem val_int {k : Nat} (hk : k ≤ 4096) : val .f32 (floatOfInt .f32 (k : Int)) = (k : Int) * one32 := by
  have e : floatOfInt .f32 (k : Int) = FloatKind.f32.format.nearest false k 0 := by
    show FloatKind.f32.encode (.number (decide ((k : Int) < 0)) (k : Int).natAbs 0) = _
    rw [show decide ((k : Int) < 0) = false by simp, Int.natAbs_natCast]; rfl
  rw [e]
  by_cases h0 : k = 0
  · subst h0; decide +kernel
  · have hl : k.log2 ≤ 12 := Nat.le_of_lt_succ ((Nat.log2_lt h0).2 (by omega))
    rw [val_nearest32 h0 (by omega) (by omega) (by omega), signed_eq]
    simp only [Bool.false_eq_true, if_false, one32]
    rfl
theorem far_one : 4096 * one32 < (far : Int) := by decide +kernel
theorem finite_num {x : Nat} (hn : isNan .f32 x = false) (h1 : -(far : Int) < val .f32 x) (h2 : val .f32 x < far) : ∃ s m e, FloatKind.f32.format.read x = .number s m e := by
  cases hr : FloatKind.f32.format.read x with
  | nan s t => simp [isNan, hr, Ieee.Datum.isNaN] at hn
  | infinity s =>
    have hv : val .f32 x = if s then -(far : Int) else far := by simp only [val, hr]
    rw [hv] at h1 h2
    generalize (far : Int) = big at *
    cases s <;> simp at h1 h2
  | number s m e => exact ⟨s, m, e, rfl⟩
theorem sub_num {x y : Nat} {s t : Bool} {m n : Nat} {i j : Int} (hrx : FloatKind.f32.format.read x = .number s m i) (hry : FloatKind.f32.format.read y = .number t n j) :
    isNan .f32 (fop .sub .f32 x y) = false ∧ (val .f32 x = val .f32 y → FloatKind.f32.format.order (fop .sub .f32 x y) 0 = some .eq) := by
  obtain ⟨sg, hb⟩ : ∃ sg, floatBits .sub .f32 x y = some (FloatKind.f32.format.nearest sg (Ieee.signed s m (i - min i j).toNat + Ieee.signed (!t) n (j - min i j).toNat).natAbs (min i j)) := ⟨_, by
    simp only [floatBits, Ieee.Format.sub, hrx, hry, Ieee.Datum.opposite, Ieee.Datum.sum, Option.map_some]; rfl⟩
  have hf : fop .sub .f32 x y = FloatKind.f32.format.nearest sg (Ieee.signed s m (i - min i j).toNat + Ieee.signed (!t) n (j - min i j).toNat).natAbs (min i j) := by
    unfold fop; rw [hb]; exact can_of_not (isNan_nearest _ _ _ _)
  refine ⟨by rw [hf]; exact isNan_nearest _ _ _ _, fun h => ?_⟩
  have pi : -149 ≤ i := read_place hrx
  have pj : -149 ≤ j := read_place hry
  have vx : val .f32 x = Ieee.signed s m (i + 149).toNat := by simp only [val, hrx]; rfl
  have vy : val .f32 y = Ieee.signed t n (j + 149).toNat := by simp only [val, hry]; rfl
  have hneg : Ieee.signed (!t) n (j - min i j).toNat = -Ieee.signed t n (j - min i j).toNat := by
    unfold Ieee.signed; cases t <;> simp
  rw [hneg] at hf
  have e1 : val .f32 x - val .f32 y = (Ieee.signed s m (i - min i j).toNat + -Ieee.signed t n (j - min i j).toNat) * 2 ^ (min i j + 149).toNat := by
    rw [vx, vy, signed_eq, signed_eq, signed_eq, signed_eq, Int.add_mul, Int.neg_mul, Int.mul_assoc, Int.mul_assoc, ← Int.pow_add, ← Int.pow_add]
    rw [show (i - min i j).toNat + (min i j + 149).toNat = (i + 149).toNat by omega, show (j - min i j).toNat + (min i j + 149).toNat = (j + 149).toNat by omega]
    omega
  have hT : Ieee.signed s m (i - min i j).toNat + -Ieee.signed t n (j - min i j).toNat = 0 := by
    have h0 : (Ieee.signed s m (i - min i j).toNat + -Ieee.signed t n (j - min i j).toNat) * 2 ^ (min i j + 149).toNat = 0 := by rw [← e1, h]; omega
    exact (Int.mul_eq_zero.1 h0).resolve_right (Int.ne_of_gt (Int.pow_pos (by omega)))
  rw [hf, hT, Int.natAbs_zero]
  have : FloatKind.f32.format.nearest sg 0 (min i j) = FloatKind.f32.format.word sg 0 := by simp [Ieee.Format.nearest]
  rw [this]
  cases sg <;> decide +kernel
/-- A number's whole part. -/
def wholeW (d : Nat) : Nat := ((val .f32 d).tdiv one32).toNat
/-- What a number has above its whole part. -/
def shareW (d : Nat) : Nat := fop .sub .f32 d (floatOfInt .f32 (wholeW d : Int))
theorem into_val {d n : Nat} (hn : n ≤ 4096) (h : withinB d 1065353216 (floatOfInt .f32 (n : Int)) = true) : isNan .f32 d = false ∧ one32 ≤ val .f32 d ∧ val .f32 d ≤ n * one32 := by
  cases hd : isNan .f32 d
  · have h0 := order_val hd val_one.2
    have h1 := order_val hd (isNan_int (n : Int))
    unfold withinB at h
    rw [h0, h1, val_one.1, val_int hn] at h
    generalize one32 = U at *
    generalize val .f32 d = v at *
    generalize (n : Int) * U = T at *
    refine ⟨rfl, ?_, ?_⟩
    · rcases Int.lt_trichotomy v U with c | c | c
      · rw [Int.compare_eq_lt.2 c] at h; simp at h
      · omega
      · omega
    · rcases Int.lt_trichotomy v T with c | c | c
      · omega
      · omega
      · rw [Int.compare_eq_gt.2 c] at h; simp at h
  · unfold withinB at h
    rw [order_of_nan_l hd] at h
    simp at h
theorem into_int {d n : Nat} (hn : n ≤ 4096) (h : withinB d 1065353216 (floatOfInt .f32 (n : Int)) = true) :
    floatToIntVal .f32 d .i64 = some (wholeW d : Int) ∧ 1 ≤ wholeW d ∧ wholeW d ≤ n := by
  obtain ⟨hd, h0, h1⟩ := into_val hn h
  have hU := one32_pos
  have e1 : one32.tdiv one32 ≤ (val .f32 d).tdiv one32 := Int.tdiv_le_tdiv hU h0
  have e2 : (val .f32 d).tdiv one32 ≤ (n * one32).tdiv one32 := Int.tdiv_le_tdiv hU h1
  rw [Int.mul_tdiv_cancel _ (by omega)] at e2
  rw [Int.tdiv_self (by omega)] at e1
  have hn' : (n : Int) * one32 ≤ 9223372036854775807 * one32 := Int.mul_le_mul_of_nonneg_right (by omega) (by omega)
  refine ⟨?_, ?_, ?_⟩
  · rw [floatToInt_val32 hd (by omega) (by omega)]
    unfold wholeW
    rw [Int.toNat_of_nonneg (by omega)]
  · unfold wholeW; omega
  · unfold wholeW; omega
theorem into_share {d n : Nat} (hn : n ≤ 4096) (h : withinB d 1065353216 (floatOfInt .f32 (n : Int)) = true) :
    isNan .f32 (shareW d) = false ∧ ((FloatKind.f32.format.order (shareW d) 0 == some .eq) = false → wholeW d + 1 ≤ n) := by
  obtain ⟨hd, h0, h1⟩ := into_val hn h
  obtain ⟨_, k0, k1⟩ := into_int hn h
  have hU := one32_pos
  have hf := far_one
  have hn' : (n : Int) * one32 ≤ 4096 * one32 := Int.mul_le_mul_of_nonneg_right (by omega) (by omega)
  have hk' : (wholeW d : Int) * one32 ≤ 4096 * one32 := Int.mul_le_mul_of_nonneg_right (by omega) (by omega)
  have hk0 : 0 ≤ (wholeW d : Int) * one32 := Int.mul_nonneg (by omega) (by omega)
  obtain ⟨s, m, i, hr⟩ := finite_num hd (by omega) (by omega)
  obtain ⟨t, q, j, hr2⟩ := finite_num (isNan_int (wholeW d : Int)) (by rw [val_int (by omega)]; omega) (by rw [val_int (by omega)]; omega)
  obtain ⟨g1, g2⟩ := sub_num hr hr2
  refine ⟨g1, fun hz => ?_⟩
  apply Classical.byContradiction
  intro hc
  have hk : wholeW d = n := by omega
  have : val .f32 d = val .f32 (floatOfInt .f32 (wholeW d : Int)) := by
    rw [val_int (by omega), hk]
    have e3 : (wholeW d : Int) * one32 ≤ val .f32 d := by
      have e4 : (wholeW d : Int) = (val .f32 d).tdiv one32 := by unfold wholeW; rw [Int.toNat_of_nonneg (Int.tdiv_nonneg (by omega) (by omega))]
      rw [e4]
      rw [Int.tdiv_eq_ediv_of_nonneg (by omega)]
      exact Int.ediv_mul_le _ (by omega)
    rw [hk] at e3
    omega
  have hz' := g2 this
  unfold shareW at hz
  rw [hz'] at hz
  simp at hz
end Go.Fk

/- Bounds of what is rounded to the nearest narrow float. Nothing here names a program. -/
namespace Go.Fk
open Go Go.RowKit
/-- The size of a rung, in the least units. -/
def rv (r : Nat) : Nat := if r < 8388608 then r else (8388608 + r % 8388608) * 2 ^ (r / 8388608 - 1)
theorem f32_nums : FloatKind.f32.format.signWeight = 2147483648 ∧ FloatKind.f32.format.binade = 8388608 ∧ FloatKind.f32.format.infRung = 2139095040 ∧ FloatKind.f32.format.leastPlace = -149 ∧ FloatKind.f32.format.fractionBits = 23 := by decide
theorem val_word (s : Bool) {r : Nat} (h : r < 2139095040) : val .f32 (FloatKind.f32.format.word s r) = if s then -(rv r : Int) else (rv r : Int) := by
  obtain ⟨e1, e2, e3, e4, e5⟩ := f32_nums
  have hrung : FloatKind.f32.format.word s r % FloatKind.f32.format.signWeight = r := word_mod _ _ (by rw [e1]; omega)
  have hneg : (FloatKind.f32.format.word s r / FloatKind.f32.format.signWeight % 2 == 1) = s := by
    unfold Ieee.Format.word
    rw [e1]
    cases s
    · simp; omega
    · simp; omega
  have hu : (unitOf .f32 : Int) = 149 := rfl
  unfold val Ieee.Format.read
  rw [hrung, hneg, e2, e3, e4]
  dsimp only
  unfold rv
  by_cases h1 : r < 8388608
  · rw [if_pos h1, if_pos h1]
    simp only [signed_eq]
    rw [hu]
    cases s <;> simp
  · rw [if_neg h1, if_neg h1, if_pos h]
    simp only [signed_eq]
    rw [hu, show (-149 + ((r / 8388608 - 1 : Nat) : Int) + 149).toNat = r / 8388608 - 1 by omega]
    cases s
    · simp
    · simp [Int.neg_mul]
theorem rv_le {r c : Nat} (hc : 1 ≤ c) (h : r ≤ c * 8388608) : rv r ≤ 2 ^ (22 + c) := by
  unfold rv
  have hB : (8388608 : Nat) = 2 ^ 23 := by decide
  split
  · calc r ≤ 2 ^ 23 := by omega
      _ ≤ 2 ^ (22 + c) := Nat.pow_le_pow_right (by omega) (by omega)
  · rename_i h1
    have hq : r / 8388608 ≤ c := Nat.div_le_of_le_mul (by omega)
    rcases Nat.lt_or_ge (r / 8388608) c with h2 | h2
    · calc (8388608 + r % 8388608) * 2 ^ (r / 8388608 - 1) ≤ 2 ^ 24 * 2 ^ (r / 8388608 - 1) := Nat.mul_le_mul_right _ (by have := Nat.mod_lt r (show 0 < 8388608 by decide); omega)
        _ = 2 ^ (24 + (r / 8388608 - 1)) := by rw [← Nat.pow_add]
        _ ≤ 2 ^ (22 + c) := Nat.pow_le_pow_right (by omega) (by omega)
    · have h3 : r % 8388608 = 0 := by omega
      rw [h3, Nat.add_zero, hB, ← Nat.pow_add, ← hB]
      exact Nat.pow_le_pow_right (by omega) (by omega)
theorem rv_ge {r c : Nat} (hc : 1 ≤ c) (h : c * 8388608 ≤ r) : 2 ^ (22 + c) ≤ rv r := by
  unfold rv
  have hB : (8388608 : Nat) = 2 ^ 23 := by decide
  have hq : c ≤ r / 8388608 := (Nat.le_div_iff_mul_le (by decide)).2 h
  rw [if_neg (by omega)]
  calc 2 ^ (22 + c) ≤ 2 ^ (23 + (r / 8388608 - 1)) := Nat.pow_le_pow_right (by omega) (by omega)
    _ = 8388608 * 2 ^ (r / 8388608 - 1) := by rw [Nat.pow_add, ← hB]
    _ ≤ _ := Nat.mul_le_mul_right _ (by omega)
theorem cut_ge (s : Bool) (n d : Nat) : n / 2 ^ d ≤ Ieee.Toward.even.cut s n d := by
  have h : n / 2 ^ d ≤ n / 1 <<< min d (n.log2 + 2) := by
    rw [Nat.one_shiftLeft]
    exact Nat.div_le_div_left (Nat.pow_le_pow_right (by omega) (Nat.min_le_left _ _)) (Nat.two_pow_pos _)
  show n / 2 ^ d ≤ n / 1 <<< min d (n.log2 + 2) + _
  exact Nat.le_trans h (Nat.le_add_right _ _)
/-- What is nearest to a number below '2 ^ A' is at most this. -/
theorem near_le (s : Bool) {m : Nat} {e A : Int} (hm : m ≠ 0) (hA : e + m.log2 + 1 ≤ A) (h1 : -125 ≤ A) (h2 : A ≤ 126) : ∃ v : Nat, val .f32 (FloatKind.f32.format.nearest s m e) = (if s then -(v : Int) else (v : Int)) ∧ v ≤ 2 ^ (A + 149).toNat := by
  obtain ⟨e1, e2, e3, e4, e5⟩ := f32_nums
  obtain ⟨r, hr, h3, h4⟩ := nearest_rung FloatKind.f32.format s m e A hm hA (by rw [e4, e5]; omega)
  rw [e2, e4, e5] at h4
  have h5 : r ≤ (A + 127).toNat * 8388608 := by
    have e : (A - ((23 : Nat) : Int) - -149 + 1) = A + 127 := by omega
    rw [e] at h4
    omega
  have h7 : r < 2139095040 := by
    have : (A + 127).toNat ≤ 253 := by omega
    omega
  refine ⟨rv r, by rw [hr, val_word s h7], ?_⟩
  have := rv_le (r := r) (c := (A + 127).toNat) (by omega) h5
  rwa [show 22 + (A + 127).toNat = (A + 149).toNat by omega] at this
theorem aux_min {c l k B M : Nat} (h1 : c ≤ l + 1) (h2 : B ≤ k) (h3 : c ≤ 253) (h4 : 253 * B ≤ M) : c * B ≤ min (l * B + k) M := by
  refine Nat.le_min.2 ⟨?_, Nat.le_trans (Nat.mul_le_mul_right _ h3) h4⟩
  calc c * B ≤ (l + 1) * B := Nat.mul_le_mul_right _ h1
    _ = l * B + B := Nat.succ_mul _ _
    _ ≤ _ := Nat.add_le_add_left h2 _
/-- What is nearest to a number of at least '2 ^ C' is at least this. -/
theorem near_ge (s : Bool) {m : Nat} {e A C : Int} (hm : m ≠ 0) (hA : e + m.log2 + 1 ≤ A) (h1 : -125 ≤ C) (h2 : A ≤ 126) (hC : C ≤ e + m.log2) : ∃ v : Nat, val .f32 (FloatKind.f32.format.nearest s m e) = (if s then -(v : Int) else (v : Int)) ∧ v ≤ 2 ^ (A + 149).toNat ∧ 2 ^ (C + 149).toNat ≤ v := by
  obtain ⟨e1, e2, e3, e4, e5⟩ := f32_nums
  obtain ⟨v, hv, hle⟩ := near_le s hm hA (by omega) h2
  refine ⟨v, hv, hle, ?_⟩
  obtain ⟨r, hr, h3, h4⟩ := nearest_rung FloatKind.f32.format s m e A hm hA (by rw [e4, e5]; omega)
  have hr' := hr
  unfold Ieee.Format.nearest at hr
  rw [if_neg hm, e2, e3, e4, e5] at hr
  simp only [] at hr
  generalize hlast : max (e + (m.log2 : Int) - ((23 : Nat) : Int)) (-149) = last at hr
  have hl2 : last = e + m.log2 - 23 := by omega
  generalize hk : Ieee.Toward.even.cut s (m <<< (e - last).toNat) (last - e).toNat = kept at hr
  have hkept : 8388608 ≤ kept := by
    rw [← hk]
    refine Nat.le_trans ?_ (cut_ge _ _ _)
    rw [Nat.shiftLeft_eq]
    have hm2 := Nat.log2_self_le hm
    rw [Nat.le_div_iff_mul_le (Nat.two_pow_pos _)]
    have hB : (8388608 : Nat) = 2 ^ 23 := by decide
    calc 8388608 * 2 ^ (last - e).toNat = 2 ^ (23 + (last - e).toNat) := by rw [Nat.pow_add, ← hB]
      _ ≤ 2 ^ (m.log2 + (e - last).toNat) := Nat.pow_le_pow_right (by omega) (by omega)
      _ = 2 ^ m.log2 * 2 ^ (e - last).toNat := by rw [Nat.pow_add]
      _ ≤ m * 2 ^ (e - last).toNat := Nat.mul_le_mul_right _ hm2
  have hge : (C + 127).toNat * 8388608 ≤ min ((last - -149).toNat * 8388608 + kept) 2139095040 := by
    have h5 : (C + 127).toNat ≤ (last - -149).toNat + 1 := by omega
    have h7 : (C + 127).toNat ≤ 253 := by omega
    exact aux_min h5 hkept h7 (by decide)
  generalize min ((last - -149).toNat * 8388608 + kept) 2139095040 = q at hr hge
  have hq : r = q := by
    unfold Ieee.Format.word at hr
    split at hr <;> omega
  subst hq
  rw [hr', ] at hv
  have h7 : r < 2139095040 := by
    rw [e2, e4, e5] at h4
    have e : (A - ((23 : Nat) : Int) - -149 + 1) = A + 127 := by omega
    rw [e] at h4
    omega
  rw [val_word s h7] at hv
  have hvr : v = rv r := by cases s <;> simp at hv <;> omega
  rw [hvr]
  have := rv_ge (r := r) (c := (C + 127).toNat) (by omega) hge
  rwa [show 22 + (C + 127).toNat = (C + 149).toNat by omega] at this
end Go.Fk

/- Places and periods as numbers. Nothing here names a program. -/
namespace Go.Fk
open Go Go.RowKit
theorem within_val {x a b : Nat} (ha : isNan .f32 a = false) (hb : isNan .f32 b = false) (h : withinB x a b = true) : isNan .f32 x = false ∧ val .f32 a ≤ val .f32 x ∧ val .f32 x ≤ val .f32 b := by
  cases hd : isNan .f32 x
  · have h0 := order_val hd ha
    have h1 := order_val hd hb
    unfold withinB at h
    rw [h0, h1] at h
    generalize val .f32 x = v at *
    generalize val .f32 a = U at *
    generalize val .f32 b = T at *
    refine ⟨rfl, ?_, ?_⟩
    · rcases Int.lt_trichotomy v U with c | c | c
      · rw [Int.compare_eq_lt.2 c] at h; simp at h
      · omega
      · omega
    · rcases Int.lt_trichotomy v T with c | c | c
      · omega
      · omega
      · rw [Int.compare_eq_gt.2 c] at h; simp at h
  · unfold withinB at h
    rw [order_of_nan_l hd] at h
    simp at h
theorem val_3 : val .f32 1077936128 = 3 * 2 ^ 149 ∧ isNan .f32 1077936128 = false := by decide +kernel
theorem val_1024 : val .f32 1149239296 = 2 ^ 159 ∧ isNan .f32 1149239296 = false := by decide +kernel
theorem val_half : val .f32 1056964608 = 2 ^ 148 ∧ isNan .f32 1056964608 = false := by decide +kernel
theorem one_pow : one32 = 2 ^ 149 := rfl
theorem far_159 : (2 : Int) ^ 160 < (far : Int) := by decide +kernel
theorem pow2_of {m a b : Nat} (h : m * 2 ^ a = 2 ^ (m.log2 + a)) : m = 2 ^ m.log2 := by
  rw [Nat.pow_add] at h
  exact Nat.eq_of_mul_eq_mul_right (Nat.two_pow_pos a) h
/-- What is nearest to a number from 2 to 1024. -/
theorem near_in {m : Nat} {e : Int} (he : -149 ≤ e) (h1 : 2 ^ 150 ≤ m * 2 ^ (e + 149).toNat) (h2 : m * 2 ^ (e + 149).toNat ≤ 2 ^ 159) :
    2 ^ 150 ≤ val .f32 (FloatKind.f32.format.nearest false m e) ∧ val .f32 (FloatKind.f32.format.nearest false m e) ≤ 2 ^ 159 := by
  have hm : m ≠ 0 := by
    rintro rfl
    rw [Nat.zero_mul] at h1
    exact absurd h1 (by decide)
  have hlo : 150 ≤ m.log2 + (e + 149).toNat := by
    have a := @Nat.lt_log2_self m
    have b : 2 ^ 150 < 2 ^ (m.log2 + 1 + (e + 149).toNat) := by
      rw [Nat.pow_add]
      exact Nat.lt_of_le_of_lt h1 (Nat.mul_lt_mul_of_pos_right a (Nat.two_pow_pos _))
    have := (Nat.pow_lt_pow_iff_right (a := 2) (by omega)).1 b
    omega
  have hhi : m.log2 + (e + 149).toNat ≤ 159 := by
    have a := Nat.log2_self_le hm
    have b : 2 ^ (m.log2 + (e + 149).toNat) ≤ 2 ^ 159 := by
      rw [Nat.pow_add]
      exact Nat.le_trans (Nat.mul_le_mul_right _ a) h2
    exact (Nat.pow_le_pow_iff_right (a := 2) (by omega)).1 b
  rcases Nat.lt_or_ge (m.log2 + (e + 149).toNat) 159 with h3 | h3
  · obtain ⟨v, hv, h4, h5⟩ := near_ge (e := e) (A := 10) (C := 1) false hm (by omega) (by omega) (by omega) (by omega)
    rw [hv]
    simp only [Bool.false_eq_true, if_false]
    have h4' : v ≤ 2 ^ 159 := h4
    have h5' : 2 ^ 150 ≤ v := h5
    exact ⟨by exact_mod_cast h5', by exact_mod_cast h4'⟩
  · have h4 : m.log2 + (e + 149).toNat = 159 := by omega
    have h5 : m * 2 ^ (e + 149).toNat = 2 ^ (m.log2 + (e + 149).toNat) := by
      refine Nat.le_antisymm (by rw [h4]; exact h2) ?_
      rw [Nat.pow_add]
      exact Nat.mul_le_mul_right _ (Nat.log2_self_le hm)
    have h6 := pow2_of (b := 0) h5
    have h7 : FloatKind.f32.format.nearest false m e = FloatKind.f32.format.nearest false 1 10 := by
      have := nearest_scale FloatKind.f32.format false 1 m.log2 10
      rw [Nat.one_mul, ← h6] at this
      rw [← this]
      congr 1
      omega
    rw [h7]
    decide +kernel
/-- The delay of a string's ring and filters, and its whole part. -/
theorem period_int {p x d : Nat} (hp : withinB p 1077936128 1149239296 = true) (hx : withinB x 0 1056964608 = true) (hd : can .f32 d = fop .sub .f32 p x) :
    d = fop .sub .f32 p x ∧ isNan .f32 d = false ∧ floatToIntVal .f32 d .i64 = some (wholeW d : Int) ∧ 2 ≤ wholeW d ∧ wholeW d ≤ 1024 := by
  obtain ⟨n1, a1, a2⟩ := within_val val_3.2 val_1024.2 hp
  obtain ⟨n2, b1, b2⟩ := within_val val_zero.2 val_half.2 hx
  rw [val_3.1, val_1024.1] at *
  rw [val_zero.1, val_half.1] at *
  have hf := far_159
  have hpw : (2 : Int) ^ 159 < 2 ^ 160 := by decide
  have hpw2 : (2 : Int) ^ 148 < 2 ^ 160 := by decide
  have hz : (0 : Int) < 2 ^ 149 := by decide
  obtain ⟨s, m, i, hrx⟩ := finite_num n1 (by omega) (by omega)
  obtain ⟨t, n, j, hry⟩ := finite_num n2 (by omega) (by omega)
  have pi : -149 ≤ i := read_place hrx
  have pj : -149 ≤ j := read_place hry
  have vx : val .f32 p = Ieee.signed s m (i + 149).toNat := by simp only [val, hrx]; rfl
  have vy : val .f32 x = Ieee.signed t n (j + 149).toNat := by simp only [val, hry]; rfl
  have hneg : Ieee.signed (!t) n (j - min i j).toNat = -Ieee.signed t n (j - min i j).toNat := by
    unfold Ieee.signed; cases t <;> simp
  have e1 : val .f32 p - val .f32 x = (Ieee.signed s m (i - min i j).toNat + Ieee.signed (!t) n (j - min i j).toNat) * 2 ^ (min i j + 149).toNat := by
    rw [hneg, vx, vy, signed_eq, signed_eq, signed_eq, signed_eq, Int.add_mul, Int.neg_mul, Int.mul_assoc, Int.mul_assoc, ← Int.pow_add, ← Int.pow_add]
    rw [show (i - min i j).toNat + (min i j + 149).toNat = (i + 149).toNat by omega, show (j - min i j).toNat + (min i j + 149).toNat = (j + 149).toNat by omega]
    omega
  generalize hT : Ieee.signed s m (i - min i j).toNat + Ieee.signed (!t) n (j - min i j).toNat = T at e1
  have hD1 : (2 : Int) ^ 150 ≤ val .f32 p - val .f32 x := by
    have e2 : (2 : Int) ^ 150 = 2 * 2 ^ 149 := by decide
    have e3 : (2 : Int) ^ 149 = 2 * 2 ^ 148 := by decide
    omega
  have hD2 : val .f32 p - val .f32 x ≤ 2 ^ 159 := by omega
  rw [e1] at hD1 hD2
  have hpos : (0 : Int) < 2 ^ (min i j + 149).toNat := Int.pow_pos (by omega)
  have hTp : 0 < T := by
    rcases Int.lt_trichotomy T 0 with c | c | c
    · have : T * 2 ^ (min i j + 149).toNat < 0 := Int.mul_neg_of_neg_of_pos c hpos
      have h0 : (0 : Int) < 2 ^ 150 := by decide
      omega
    · subst c
      rw [Int.zero_mul] at hD1
      exact absurd hD1 (by decide)
    · exact c
  obtain ⟨M, rfl⟩ : ∃ M : Nat, T = M := ⟨T.toNat, by omega⟩
  have hb : floatBits .sub .f32 p x = some (FloatKind.f32.format.nearest false M (min i j)) := by
    have h0 : floatBits .sub .f32 p x = some (FloatKind.f32.format.nearest (if Ieee.signed s m (i - min i j).toNat + Ieee.signed (!t) n (j - min i j).toNat = 0 then s && !t else decide (Ieee.signed s m (i - min i j).toNat + Ieee.signed (!t) n (j - min i j).toNat < 0)) (Ieee.signed s m (i - min i j).toNat + Ieee.signed (!t) n (j - min i j).toNat).natAbs (min i j)) := by
      simp only [floatBits, Ieee.Format.sub, hrx, hry, Ieee.Datum.opposite, Ieee.Datum.sum, Option.map_some]; rfl
    rw [h0, hT, if_neg (by omega), decide_eq_false (by omega), Int.natAbs_natCast]
  have hfp : fop .sub .f32 p x = FloatKind.f32.format.nearest false M (min i j) := by
    unfold fop; rw [hb]; exact can_of_not (isNan_nearest _ _ _ _)
  have hn : isNan .f32 (fop .sub .f32 p x) = false := by rw [hfp]; exact isNan_nearest _ _ _ _
  have hdn : isNan .f32 d = false := by
    have := isNan_of_can (hd.trans (can_fop _ _ _ _).symm : can .f32 d = can .f32 (fop .sub .f32 p x))
    rw [this, hn]
  have hde : d = fop .sub .f32 p x := by rw [← can_of_not hdn, hd]
  obtain ⟨k1, k2⟩ := near_in (m := M) (e := min i j) (by omega) (by exact_mod_cast hD1) (by exact_mod_cast hD2)
  rw [← hfp, ← hde] at k1 k2
  have hU := one32_pos
  have q3 : 2 * one32 ≤ val .f32 d := by
    have e2 : (2 : Int) * 2 ^ 149 = 2 ^ 150 := by decide
    rw [one_pow, e2]; exact k1
  have q4 : val .f32 d ≤ 1024 * one32 := by
    have e2 : (1024 : Int) * 2 ^ 149 = 2 ^ 159 := by decide
    rw [one_pow, e2]; exact k2
  have q1 := Int.tdiv_le_tdiv hU q3
  have q2 := Int.tdiv_le_tdiv hU q4
  rw [Int.mul_tdiv_cancel _ (by omega)] at q1 q2
  refine ⟨hde, hdn, ?_, ?_, ?_⟩
  · rw [floatToInt_val32 hdn (by omega) (by omega)]
    unfold wholeW
    rw [Int.toNat_of_nonneg (by omega)]
  · unfold wholeW; omega
  · unfold wholeW; omega
end Go.Fk

/- 'OnePole', 'OneZero', 'BlockDc', 'AllpassFor'. -/
namespace Go.Fk
open Go Go.RowKit
/-- A filter is given, each of its numbers up to the bits of NaN. -/
def OutL (k : Int) (A B C X Y : Nat) (B0 : Nat) (w0 : World) (e : Ending) (w' : World) : Prop := ∃ a b c x y, e = .returned (.agg #[.int .i64 k, .float .f32 a, .float .f32 b, .float .f32 c, .float .f32 x, .float .f32 y]) ∧ (can .f32 a = A ∧ can .f32 b = B ∧ can .f32 c = C ∧ can .f32 x = X ∧ can .f32 y = Y) ∧ Below B0 w0 w'
def quoA (q : Nat) : Nat := fop .quo .f32 (fop .sub .f32 1065353216 q) (fop .add .f32 1065353216 q)
theorem Row.store6 {W : World} {g : Nat} {t : TypeId} {o0 o1 o2 o3 o4 o5 v0 v1 v2 v3 v4 v5 : Value} (h : Row W g t #[o0, o1, o2, o3, o4, o5]) :
    Row ((((((W.setCell ⟨g, 0, none⟩ v0).setCell ⟨g, 1, none⟩ v1).setCell ⟨g, 2, none⟩ v2).setCell ⟨g, 3, none⟩ v3).setCell ⟨g, 4, none⟩ v4).setCell ⟨g, 5, none⟩ v5) g t #[v0, v1, v2, v3, v4, v5] := by
  have := (((((h.set 0 v0).set 1 v1).set 2 v2).set 3 v3).set 4 v4).set 5 v5
  simpa using this
theorem can_zero : can .f32 0 = 0 := by decide
/-- Is it from 0 to 2? -/
def to2 (q : Nat) : Bool := (FloatKind.f32.format.order q 0 == some .gt || FloatKind.f32.format.order q 0 == some .eq) && (FloatKind.f32.format.order q 1073741824 == some .lt || FloatKind.f32.format.order q 1073741824 == some .eq)
/-- 'AllpassFor': a filter and OK, or none and ErrRange. -/
def OutA (q : Nat) (B0 : Nat) (w0 : World) (e : Ending) (w' : World) : Prop :=
  (to2 q = true → ∃ a, e = .returned (.tuple #[(.agg #[.int .i64 3, .float .f32 a, .float .f32 0, .float .f32 0, .float .f32 0, .float .f32 0]), .int .i64 0]) ∧ can .f32 a = quoA q) ∧ (to2 q = false → e = .returned (.tuple #[(.agg #[.int .i64 0, .float .f32 0, .float .f32 0, .float .f32 0, .float .f32 0, .float .f32 0]), .int .i64 2])) ∧ Below B0 w0 w'
end Go.Fk
namespace Go.Proofs.Yteblmkamopfkiaa
open Go.RowKit Go.Fk
end Go.Proofs.Yteblmkamopfkiaa

/- The numbers of a new string's filters are numbers. Nothing here names a program. -/
namespace Go.Fk
open Go Go.RowKit
theorem val_2 : val .f32 1073741824 = 2 ^ 150 ∧ isNan .f32 1073741824 = false := by decide +kernel
theorem read_1 : FloatKind.f32.format.read 1065353216 = .number false 8388608 (-23) := by decide
theorem num_of {x : Nat} (hn : isNan .f32 x = false) (h0 : 0 ≤ val .f32 x) (h1 : val .f32 x ≤ 2 ^ 150) : ∃ s m e, FloatKind.f32.format.read x = .number s m e ∧ -149 ≤ e ∧ val .f32 x = Ieee.signed s m (e + 149).toNat ∧ lt .f32 x 2 := by
  have hf := far_159
  have hp : (2 : Int) ^ 150 < 2 ^ 160 := by decide
  obtain ⟨s, m, e, hr⟩ := finite_num hn (by omega) (by omega)
  have hv : val .f32 x = Ieee.signed s m (e + 149).toNat := by simp only [val, hr]; rfl
  have pe : -149 ≤ e := read_place hr
  refine ⟨s, m, e, hr, pe, hv, s, m, e, hr, fun m0 => ?_⟩
  rw [hv, signed_eq] at h0 h1
  have hs : s = false := by
    cases s
    · rfl
    · simp only [if_true, Int.neg_mul] at h0
      have : 0 < (m : Int) * 2 ^ (e + 149).toNat := Int.mul_pos (by omega) (Int.pow_pos (by omega))
      omega
  subst hs
  simp only [Bool.false_eq_true, if_false] at h1
  have h2 : m * 2 ^ (e + 149).toNat ≤ 2 ^ 150 := by exact_mod_cast h1
  have b : 2 ^ (m.log2 + (e + 149).toNat) ≤ 2 ^ 150 := by
    rw [Nat.pow_add]
    exact Nat.le_trans (Nat.mul_le_mul_right _ (Nat.log2_self_le m0)) h2
  have := (Nat.pow_le_pow_iff_right (a := 2) (by omega)).1 b
  omega
theorem lt_one : lt .f32 1065353216 1 := ⟨false, 8388608, -23, read_1, fun _ => by decide⟩
theorem fop_of {op : BinOp} {x y r : Nat} {A : Int} (h : floatBits op .f32 x y = some r) (hl : lt .f32 r A) : fop op .f32 x y = r := by
  unfold fop; rw [h]; exact can_of_not hl.notNan
theorem ge_of {x : Nat} {v : Nat} {s : Bool} {m : Nat} {e : Int} (hr : FloatKind.f32.format.read x = .number s m e) (hv : val .f32 x = (v : Int)) (h : 2 ^ 149 ≤ v) : ge .f32 x 0 := by
  have pe : -149 ≤ e := read_place hr
  have hw : val .f32 x = Ieee.signed s m (e + 149).toNat := by simp only [val, hr]; rfl
  rw [hv, signed_eq] at hw
  have hs : s = false := by
    cases s
    · rfl
    · simp only [if_true, Int.neg_mul] at hw
      have h1 : 0 ≤ (m : Int) * 2 ^ (e + 149).toNat := Int.mul_nonneg (by omega) (Int.le_of_lt (Int.pow_pos (by omega)))
      have h2 : 0 < (v : Int) := by have := Nat.lt_of_lt_of_le (Nat.two_pow_pos 149) h; omega
      omega
  subst hs
  simp only [Bool.false_eq_true, if_false] at hw
  have hw' : v = m * 2 ^ (e + 149).toNat := by exact_mod_cast hw
  have m0 : m ≠ 0 := by
    rintro rfl
    rw [Nat.zero_mul] at hw'
    have := Nat.lt_of_lt_of_le (Nat.two_pow_pos 149) h
    omega
  refine ⟨false, m, e, hr, m0, ?_⟩
  have a := @Nat.lt_log2_self m
  have b : 2 ^ 149 < 2 ^ (m.log2 + 1 + (e + 149).toNat) := by
    rw [Nat.pow_add]
    refine Nat.lt_of_le_of_lt (hw' ▸ h) (Nat.mul_lt_mul_of_pos_right a (Nat.two_pow_pos _))
  have := (Nat.pow_lt_pow_iff_right (a := 2) (by omega)).1 b
  omega
theorem one_plus {f : Nat} (hn : isNan .f32 f = false) (h0 : 0 ≤ val .f32 f) (h1 : val .f32 f ≤ 2 ^ 150) : ge .f32 (fop .add .f32 1065353216 f) 0 := by
  obtain ⟨t, n, j, hr, pj, hv, hl⟩ := num_of hn h0 h1
  obtain ⟨r, hb, hlr⟩ := lt_add lt_one hl (fine32 (by decide) (by decide))
  have hfp := fop_of hb hlr
  obtain ⟨s', m', e', hr', _⟩ := hlr
  rw [hfp]
  generalize hT : Ieee.signed false 8388608 (-23 - min (-23) j).toNat + Ieee.signed t n (j - min (-23) j).toNat = T
  have e1 : 2 ^ 149 + val .f32 f = T * 2 ^ (min (-23) j + 149).toNat := by
    rw [← hT, hv, signed_eq, signed_eq, signed_eq, Int.add_mul, Int.mul_assoc, Int.mul_assoc, ← Int.pow_add, ← Int.pow_add]
    rw [show (-23 - min (-23) j).toNat + (min (-23) j + 149).toNat = 126 by omega, show (j - min (-23) j).toNat + (min (-23) j + 149).toNat = (j + 149).toNat by omega]
    simp only [Bool.false_eq_true, if_false]
    have : (2 : Int) ^ 149 = (8388608 : Nat) * 2 ^ 126 := by decide
    omega
  have hb2 : floatBits .add .f32 1065353216 f = some (FloatKind.f32.format.nearest (if T = 0 then false && t else decide (T < 0)) T.natAbs (min (-23) j)) := by
    rw [← hT]
    simp only [floatBits, Ieee.Format.add, read_1, hr, Ieee.Datum.sum, Option.map_some]; rfl
  have hpos : (0 : Int) < 2 ^ (min (-23) j + 149).toNat := Int.pow_pos (by omega)
  have hge : (2 : Int) ^ 149 ≤ T * 2 ^ (min (-23) j + 149).toNat := by omega
  have hle : T * 2 ^ (min (-23) j + 149).toNat ≤ (2 : Int) ^ 151 := by
    have : (2 : Int) ^ 151 = 2 ^ 150 + 2 ^ 149 + 2 ^ 149 := by decide
    have : (0 : Int) < 2 ^ 149 := by decide
    omega
  have hTp : 0 < T := by
    rcases Int.lt_trichotomy T 0 with c | c | c
    · have : T * 2 ^ (min (-23) j + 149).toNat < 0 := Int.mul_neg_of_neg_of_pos c hpos
      have h0 : (0 : Int) < 2 ^ 149 := by decide
      omega
    · subst c
      rw [Int.zero_mul] at hge
      exact absurd hge (by decide)
    · exact c
  obtain ⟨M, rfl⟩ : ∃ M : Nat, T = M := ⟨T.toNat, by omega⟩
  rw [if_neg (by omega), decide_eq_false (by omega), Int.natAbs_natCast, hb] at hb2
  have hrr : r = FloatKind.f32.format.nearest false M (min (-23) j) := by simpa using hb2
  have hm : M ≠ 0 := by omega
  have hgeN : 2 ^ 149 ≤ M * 2 ^ (min (-23) j + 149).toNat := by exact_mod_cast hge
  have hleN : M * 2 ^ (min (-23) j + 149).toNat ≤ 2 ^ 151 := by exact_mod_cast hle
  have hlo : 149 ≤ M.log2 + (min (-23) j + 149).toNat := by
    have a := @Nat.lt_log2_self M
    have b : 2 ^ 149 < 2 ^ (M.log2 + 1 + (min (-23) j + 149).toNat) := by
      rw [Nat.pow_add]
      exact Nat.lt_of_le_of_lt hgeN (Nat.mul_lt_mul_of_pos_right a (Nat.two_pow_pos _))
    have := (Nat.pow_lt_pow_iff_right (a := 2) (by omega)).1 b
    omega
  have hhi : M.log2 + (min (-23) j + 149).toNat ≤ 151 := by
    have b : 2 ^ (M.log2 + (min (-23) j + 149).toNat) ≤ 2 ^ 151 := by
      rw [Nat.pow_add]
      exact Nat.le_trans (Nat.mul_le_mul_right _ (Nat.log2_self_le hm)) hleN
    exact (Nat.pow_le_pow_iff_right (a := 2) (by omega)).1 b
  obtain ⟨v, hv2, _, h5⟩ := near_ge (e := min (-23) j) (A := 3) (C := 0) false hm (by omega) (by omega) (by omega) (by omega)
  rw [← hrr] at hv2
  simp only [Bool.false_eq_true, if_false] at hv2
  have h5' : 2 ^ 149 ≤ v := h5
  exact ge_of hr' hv2 h5'
/-- The number of an allpass filter is a number. -/
theorem quoA_num {f : Nat} (h : to2 f = true) : isNan .f32 (quoA f) = false := by
  obtain ⟨hn, h0, h1⟩ := within_val val_zero.2 val_2.2 (show withinB f 0 1073741824 = true from h)
  rw [val_zero.1] at h0
  rw [val_2.1] at h1
  obtain ⟨t, n, j, hr, pj, hv, hl⟩ := num_of hn h0 h1
  obtain ⟨r, hb, hlr⟩ := lt_sub lt_one hl (fine32 (by decide) (by decide))
  have hfp := fop_of hb hlr
  have hg := one_plus hn h0 h1
  obtain ⟨r2, hb2, hl2⟩ := lt_quo hlr hg (fine32 (by decide) (by decide))
  unfold quoA
  rw [hfp, fop_of hb2 hl2]
  exact hl2.notNan
/-- One less a mix is a number. -/
theorem mix_num {x : Nat} (h : withinB x 0 1056964608 = true) : isNan .f32 x = false ∧ isNan .f32 (fop .sub .f32 1065353216 x) = false := by
  obtain ⟨hn, h0, h1⟩ := within_val val_zero.2 val_half.2 h
  rw [val_zero.1] at h0
  rw [val_half.1] at h1
  have hp : (2 : Int) ^ 148 < 2 ^ 150 := by decide
  obtain ⟨t, n, j, hr, pj, hv, hl⟩ := num_of hn h0 (by omega)
  obtain ⟨r, hb, hlr⟩ := lt_sub lt_one hl (fine32 (by decide) (by decide))
  exact ⟨hn, by rw [fop_of hb hlr]; exact hlr.notNan⟩
end Go.Fk
namespace Go.Fk
open Go Go.RowKit
theorem of_can' {a A : Nat} (h : can .f32 a = A) (hn : isNan .f32 A = false) : a = A := by
  have hc : can .f32 a = can .f32 A := by rw [h, can_of_not hn]
  have : isNan .f32 a = false := by rw [isNan_of_can hc, hn]
  rw [← can_of_not this, h]
theorem lt_val {x A : Nat} (hn : isNan .f32 x = false) (h0 : 0 ≤ val .f32 x) (h1 : val .f32 x ≤ 2 ^ A) (hA : A ≤ 160) : ∃ s m e, FloatKind.f32.format.read x = .number s m e ∧ (m ≠ 0 → s = false ∧ e + m.log2 + 149 ≤ A) := by
  have hf := far_159
  have hp : (2 : Int) ^ A ≤ 2 ^ 160 := by exact_mod_cast Nat.pow_le_pow_right (n := 2) (by omega) hA
  obtain ⟨s, m, e, hr⟩ := finite_num hn (by omega) (by omega)
  have hv : val .f32 x = Ieee.signed s m (e + 149).toNat := by simp only [val, hr]; rfl
  have pe : -149 ≤ e := read_place hr
  refine ⟨s, m, e, hr, fun m0 => ?_⟩
  rw [hv, signed_eq] at h0 h1
  have hs : s = false := by
    cases s
    · rfl
    · simp only [if_true, Int.neg_mul] at h0
      have : 0 < (m : Int) * 2 ^ (e + 149).toNat := Int.mul_pos (by omega) (Int.pow_pos (by omega))
      omega
  subst hs
  simp only [Bool.false_eq_true, if_false] at h1
  have h2 : m * 2 ^ (e + 149).toNat ≤ 2 ^ A := by exact_mod_cast h1
  have b : 2 ^ (m.log2 + (e + 149).toNat) ≤ 2 ^ A := by
    rw [Nat.pow_add]
    exact Nat.le_trans (Nat.mul_le_mul_right _ (Nat.log2_self_le m0)) h2
  have := (Nat.pow_le_pow_iff_right (a := 2) (by omega)).1 b
  exact ⟨rfl, by omega⟩
/-- A place times a whole number. -/
theorem mult_int {pl n d : Nat} (hn : isNan .f32 pl = false) (h0 : 0 ≤ val .f32 pl) (h1 : val .f32 pl ≤ 2 ^ 149) (hk : n ≤ 1024) (hd : can .f32 d = fop .mul .f32 pl (floatOfInt .f32 (n : Int))) :
    d = fop .mul .f32 pl (floatOfInt .f32 (n : Int)) ∧ floatToIntVal .f32 d .i64 = some (wholeW d : Int) ∧ wholeW d ≤ 4096 := by
  have hU := one32_pos
  obtain ⟨s, m, i, hr, hm⟩ := lt_val hn h0 h1 (by omega)
  have hv : val .f32 (floatOfInt .f32 (n : Int)) = (n : Int) * one32 := val_int (by omega)
  have hv2 : val .f32 (floatOfInt .f32 (n : Int)) ≤ 2 ^ 159 := by
    rw [hv]
    have e2 : (1024 : Int) * one32 = 2 ^ 159 := by decide
    rw [← e2]
    exact Int.mul_le_mul_of_nonneg_right (by omega) (by omega)
  obtain ⟨t, q, j, hr2, hq⟩ := lt_val (isNan_int (n : Int)) (by rw [hv]; exact Int.mul_nonneg (by omega) (by omega)) hv2 (by omega)
  have hb : floatBits .mul .f32 pl (floatOfInt .f32 (n : Int)) = some (FloatKind.f32.format.nearest (s ^^ t) (m * q) (i + j)) := by
    simp only [floatBits, Ieee.Format.mul, hr, hr2, Ieee.Datum.product, Option.map_some]; rfl
  have hfp : fop .mul .f32 pl (floatOfInt .f32 (n : Int)) = FloatKind.f32.format.nearest (s ^^ t) (m * q) (i + j) := by
    unfold fop; rw [hb]; exact can_of_not (isNan_nearest _ _ _ _)
  have hnn : isNan .f32 (fop .mul .f32 pl (floatOfInt .f32 (n : Int))) = false := by rw [hfp]; exact isNan_nearest _ _ _ _
  have hde := of_can' hd hnn
  have key : 0 ≤ val .f32 d ∧ val .f32 d ≤ 4096 * one32 := by
    rw [hde, hfp]
    by_cases h : m * q = 0
    · rw [h, show FloatKind.f32.format.nearest (s ^^ t) 0 (i + j) = FloatKind.f32.format.word (s ^^ t) 0 by simp [Ieee.Format.nearest], val_word _ (by decide), show rv 0 = 0 by decide]
      have : 0 ≤ 4096 * one32 := Int.mul_nonneg (by omega) (by omega)
      cases (s ^^ t)
      · exact ⟨by simp, by simpa using this⟩
      · exact ⟨by simp, by simpa using this⟩
    · have m0 : m ≠ 0 := fun e => h (by rw [e, Nat.zero_mul])
      have q0 : q ≠ 0 := fun e => h (by rw [e, Nat.mul_zero])
      obtain ⟨rfl, a1⟩ := hm m0
      obtain ⟨rfl, a2⟩ := hq q0
      have hl := log2_mul_le m0 q0
      obtain ⟨v, hv3, hle⟩ := near_le (e := i + j) (A := 12) (false ^^ false) h (by omega) (by omega) (by omega)
      rw [hv3]
      have e2 : (4096 : Int) * one32 = 2 ^ 161 := by decide
      have hle' : v ≤ 2 ^ 161 := hle
      rw [e2]
      exact ⟨by simp, by simp only [Bool.xor_false, Bool.false_eq_true, if_false]; exact_mod_cast hle'⟩
  have q2 := Int.tdiv_le_tdiv hU key.2
  rw [Int.mul_tdiv_cancel _ (by omega)] at q2
  have q1 : 0 ≤ (val .f32 d).tdiv one32 := Int.tdiv_nonneg key.1 (by omega)
  have hdn : isNan .f32 d = false := by rw [hde]; exact hnn
  refine ⟨hde, ?_, by unfold wholeW; omega⟩
  rw [floatToInt_val32 hdn (by omega) (by omega)]
  unfold wholeW
  rw [Int.toNat_of_nonneg q1]
end Go.Fk

/- Values that stay exact: the whole number below, differences that are known to be small. Nothing here names a program. -/
namespace Go.Fk
open Go Go.RowKit

/-- What a wide number's datum is made of. -/
theorem read64 {b : Nat} {s : Bool} {m : Nat} {e : Int} (h : FloatKind.f64.format.read b = .number s m e) : -1074 ≤ e ∧ (m ≠ 0 → m.log2 ≤ 52 ∧ e + m.log2 + 1 ≤ 1024) := by
  refine ⟨?_, fun h0 => ⟨?_, lt64 h h0⟩⟩
  all_goals
    have e1 : Ieee.double.signWeight = 9223372036854775808 := by decide
    have e2 : Ieee.double.infRung = 9218868437227405312 := by decide
    have e3 : Ieee.double.binade = 4503599627370496 := by decide
    have e4 : Ieee.double.leastPlace = -1074 := by decide
    simp only [FloatKind.format, Ieee.Format.read, e1, e2, e3, e4] at h
    split at h
    · simp only [Ieee.Datum.number.injEq] at h
      obtain ⟨_, rfl, rfl⟩ := h
      first | omega | (have : (b % 9223372036854775808).log2 < 52 := (Nat.log2_lt h0).2 (by omega)
                       omega)
    · split at h
      · simp only [Ieee.Datum.number.injEq] at h
        obtain ⟨_, rfl, rfl⟩ := h
        first | omega | (have : (4503599627370496 + b % 9223372036854775808 % 4503599627370496).log2 < 53 := (Nat.log2_lt h0).2 (by omega)
                         omega)
      · split at h <;> cases h

/-- The value of what is written exactly. -/
theorem val_nearest {s : Bool} {m : Nat} {e : Int} (hm : m ≠ 0) (hp : m.log2 ≤ 52) (he : -1074 ≤ e) (ho : e + m.log2 ≤ 1023) :
    val .f64 (FloatKind.f64.format.nearest s m e) = Ieee.signed s m (e + 1074).toNat ∧ ∃ B, lt .f64 (FloatKind.f64.format.nearest s m e) B := by
  obtain ⟨b1, b2, b3, b4, b5⟩ := bits64
  obtain ⟨h5, _⟩ := read_nearest FloatKind.f64.format s m e hm (by omega) (by omega) (by rw [b1, b2, b3]; omega) (by omega)
  refine ⟨?_, _, _, _, _, h5, fun _ => Int.le_refl _⟩
  have h1 : lastOf FloatKind.f64.format m e ≤ e := by unfold lastOf; omega
  have h2 : -1074 ≤ lastOf FloatKind.f64.format m e := by unfold lastOf; omega
  simp only [val, h5]
  rw [signed_eq, signed_eq]
  have hu : ((unitOf .f64 : Nat) : Int) = 1074 := rfl
  rw [hu]
  generalize lastOf FloatKind.f64.format m e = last at *
  have e1 : (2 : Int) ^ (e + 1074).toNat = 2 ^ (e - last).toNat * 2 ^ (last + 1074).toNat := by
    rw [← Int.pow_add]; congr 1; omega
  rw [e1, Int.natCast_mul, Int.natCast_pow]
  cases s
  · simp [Int.mul_assoc]
  · simp [Int.mul_assoc, Int.neg_mul]

theorem cut_down (s : Bool) (n d : Nat) : Ieee.Toward.down.cut s n d = n / 2 ^ d + (s && (n % 2 ^ d != 0)).toNat := by
  simp only [Ieee.Toward.cut, Nat.one_shiftLeft]
  by_cases hd : d ≤ n.log2 + 2
  · rw [Nat.min_eq_left hd]
  · rw [Nat.min_eq_right (by omega)]
    have h1 : n < 2 ^ (n.log2 + 1) := Nat.lt_log2_self
    have h2 : 2 ^ (n.log2 + 1) ≤ 2 ^ (n.log2 + 2) := Nat.pow_le_pow_right (by omega) (by omega)
    have h3 : 2 ^ (n.log2 + 1) ≤ 2 ^ d := Nat.pow_le_pow_right (by omega) (by omega)
    rw [Nat.div_eq_of_lt (by omega), Nat.div_eq_of_lt (by omega), Nat.mod_eq_of_lt (by omega), Nat.mod_eq_of_lt (by omega)]

theorem floor_nat (s : Bool) (X U : Nat) (hU : 0 < U) : (if s then -((X / U + (s && (X % U != 0)).toNat : Nat) : Int) else ((X / U + (s && (X % U != 0)).toNat : Nat) : Int)) = (if s then -(X : Int) else (X : Int)) / (U : Int) := by
  cases s
  · simp
  · simp only [if_true, Bool.true_and]
    have h := Nat.div_add_mod X U
    have hl := Nat.mod_lt X hU
    symm
    by_cases h0 : X % U = 0
    · rw [h0]
      simp only [bne_self_eq_false, Bool.toNat_false, Nat.add_zero]
      refine Int.ediv_eq_of_eq_mul_left (by omega) ?_
      rw [h0, Nat.add_zero] at h
      rw [Int.neg_mul, Int.mul_comm]
      exact congrArg Neg.neg (by exact_mod_cast h.symm)
    · have h1 : (X % U != 0) = true := by simpa using h0
      rw [h1]
      simp only [Bool.toNat_true]
      have key : (-(X : Int)) = -(((X / U + 1 : Nat) : Int)) * U + (U - (X % U : Nat) : Int) := by
        have h' : (X : Int) = (U : Int) * ((X / U : Nat) : Int) + ((X % U : Nat) : Int) := by exact_mod_cast h.symm
        rw [h', Int.neg_mul, Int.natCast_add, Int.add_mul, Int.mul_comm ((X / U : Nat) : Int)]
        simp only [Int.natCast_one, Int.one_mul]
        omega
      rw [key, Int.mul_comm, Int.mul_add_ediv_left _ _ (by omega : (U : Int) ≠ 0), Int.ediv_eq_zero_of_lt (by omega) (by omega), Int.add_zero]

/-- The value of a wide number's whole part: that of the greatest whole number that is not above it. -/
theorem val_floor {b : Nat} {s : Bool} {m : Nat} {e : Int} (h : FloatKind.f64.format.read b = .number s m e) :
    val .f64 (integ .down b) = val .f64 b / 2 ^ 1074 * 2 ^ 1074 ∧ ∃ B, lt .f64 (integ .down b) B := by
  obtain ⟨hp, hm⟩ := read64 h
  have hv : val .f64 b = Ieee.signed s m (e + 1074).toNat := by simp only [val, h]; rfl
  have hd : FloatKind.f64.decode b = .number s m e := h
  have hi : integ .down b = FloatKind.f64.format.nearest s (Ieee.Toward.down.cut s (m <<< e.toNat) (-e).toNat) 0 := by
    simp only [integ, hd]; rfl
  have hX : val .f64 b = if s then -((m * 2 ^ (e + 1074).toNat : Nat) : Int) else ((m * 2 ^ (e + 1074).toNat : Nat) : Int) := by
    rw [hv]; unfold Ieee.signed; rw [Nat.shiftLeft_eq]
  have e1 : m <<< e.toNat / 2 ^ (-e).toNat = m * 2 ^ (e + 1074).toNat / 2 ^ 1074 := by
    rw [Nat.shiftLeft_eq]
    by_cases he : 0 ≤ e
    · rw [show (-e).toNat = 0 by omega, show (e + 1074).toNat = e.toNat + 1074 by omega, Nat.pow_add, ← Nat.mul_assoc]
      have hU := Nat.two_pow_pos 1074
      generalize (2 : Nat) ^ 1074 = U at *
      rw [Nat.mul_div_cancel _ hU, Nat.pow_zero, Nat.div_one]
    · rw [show e.toNat = 0 by omega]
      have hq : (1074 : Nat) = (-e).toNat + (e + 1074).toNat := by omega
      generalize hu : (e + 1074).toNat = u at *
      rw [show (2 : Nat) ^ 1074 = 2 ^ ((-e).toNat + u) by rw [← hq], Nat.pow_add, Nat.mul_div_mul_right _ _ (Nat.two_pow_pos _)]
      simp
  have e2 : (m <<< e.toNat % 2 ^ (-e).toNat != 0) = (m * 2 ^ (e + 1074).toNat % 2 ^ 1074 != 0) := by
    rw [Nat.shiftLeft_eq]
    by_cases he : 0 ≤ e
    · rw [show (-e).toNat = 0 by omega, show (e + 1074).toNat = e.toNat + 1074 by omega, Nat.pow_add, ← Nat.mul_assoc, Nat.mul_mod_left]
      simp [Nat.mod_one]
    · rw [show e.toNat = 0 by omega]
      have hq : (1074 : Nat) = (-e).toNat + (e + 1074).toNat := by omega
      generalize hu : (e + 1074).toNat = u at *
      rw [show (2 : Nat) ^ 1074 = 2 ^ ((-e).toNat + u) by rw [← hq], Nat.pow_add, Nat.mul_mod_mul_right, Nat.pow_zero, Nat.mul_one, Bool.eq_iff_iff, bne_iff_ne, bne_iff_ne]
      have := Nat.two_pow_pos u
      exact not_congr ⟨fun h => by rw [h, Nat.zero_mul], fun h => by rcases Nat.mul_eq_zero.1 h with h | h <;> omega⟩
  have hfl := floor_nat s (m * 2 ^ (e + 1074).toNat) (2 ^ 1074) (Nat.two_pow_pos _)
  rw [← hX, ← e1, ← e2, ← cut_down] at hfl
  rw [show (((2 ^ 1074 : Nat)) : Int) = 2 ^ 1074 from Int.natCast_pow 2 1074] at hfl
  rw [hi, ← hfl]
  by_cases hM : Ieee.Toward.down.cut s (m <<< e.toNat) (-e).toNat = 0
  · rw [hM]
    have : FloatKind.f64.format.nearest s 0 0 = FloatKind.f64.format.word s 0 := by simp [Ieee.Format.nearest]
    rw [this]
    cases s
    · exact ⟨by decide +kernel, 0, false, 0, -1074, by decide, fun h => absurd rfl h⟩
    · exact ⟨by decide +kernel, 0, true, 0, -1074, by decide, fun h => absurd rfl h⟩
  · have hgoal : val .f64 (FloatKind.f64.format.nearest s (Ieee.Toward.down.cut s (m <<< e.toNat) (-e).toNat) 0) = Ieee.signed s (Ieee.Toward.down.cut s (m <<< e.toNat) (-e).toNat) 1074 ∧ ∃ B, lt .f64 (FloatKind.f64.format.nearest s (Ieee.Toward.down.cut s (m <<< e.toNat) (-e).toNat) 0) B := by
      by_cases he : 0 ≤ e
      · have hcut : Ieee.Toward.down.cut s (m <<< e.toNat) (-e).toNat = m * 2 ^ e.toNat := by
          rw [cut_down, show (-e).toNat = 0 by omega, Nat.shiftLeft_eq]; simp [Nat.mod_one]
        rw [hcut] at hM ⊢
        have hm0 : m ≠ 0 := fun h => hM (by rw [h, Nat.zero_mul])
        obtain ⟨h3, h4⟩ := hm hm0
        have hs := nearest_scale FloatKind.f64.format s m e.toNat e
        rw [show e - (e.toNat : Int) = 0 by omega] at hs
        rw [hs]
        refine ⟨?_, (val_nearest hm0 h3 (by omega) (by omega)).2⟩
        rw [(val_nearest hm0 h3 (by omega) (by omega)).1, signed_eq, signed_eq]
        rw [show (e + 1074).toNat = e.toNat + 1074 by omega, Int.pow_add, Int.natCast_mul, Int.natCast_pow]
        generalize (2 : Int) ^ 1074 = U
        cases s
        · simp [Int.mul_assoc]
        · simp [Int.mul_assoc, Int.neg_mul]
      · have hle : Ieee.Toward.down.cut s (m <<< e.toNat) (-e).toNat < 2 ^ 53 := by
          rw [cut_down, show e.toNat = 0 by omega, Nat.shiftLeft_zero]
          have hb : ∀ b : Bool, b.toNat ≤ 1 := by intro b; cases b <;> simp
          have h1 : m < 2 ^ 53 := by
            by_cases m0 : m = 0
            · subst m0; decide
            · have := (hm m0).1
              exact Nat.lt_of_lt_of_le Nat.lt_log2_self (Nat.pow_le_pow_right (by omega) (by omega))
          have h2 : m / 2 ^ (-e).toNat ≤ m / 2 := by
            refine Nat.div_le_div_left ?_ (by omega)
            calc 2 = 2 ^ 1 := rfl
              _ ≤ _ := Nat.pow_le_pow_right (by omega) (by omega)
          have h3 := hb (s && (m % 2 ^ (-e).toNat != 0))
          omega
        have := (Nat.log2_lt hM).2 hle
        exact val_nearest hM (by omega) (by omega) (by omega)
    refine ⟨?_, hgoal.2⟩
    rw [hgoal.1, signed_eq]

/-- How small a difference is, from the values. -/
theorem diff_place {x y : Nat} {A : Int} {s t : Bool} {m n : Nat} {i j : Int} (hrx : FloatKind.f64.format.read x = .number s m i) (hry : FloatKind.f64.format.read y = .number t n j)
    (hA : -1074 ≤ A) (h : (val .f64 x - val .f64 y).natAbs < 2 ^ (A + 1074).toNat) (h0 : (Ieee.signed s m (i - min i j).toNat + Ieee.signed (!t) n (j - min i j).toNat).natAbs ≠ 0) :
    min i j + (Ieee.signed s m (i - min i j).toNat + Ieee.signed (!t) n (j - min i j).toNat).natAbs.log2 + 1 ≤ A := by
  have pi := (read64 hrx).1
  have pj := (read64 hry).1
  have vx : val .f64 x = Ieee.signed s m (i + 1074).toNat := by simp only [val, hrx]; rfl
  have vy : val .f64 y = Ieee.signed t n (j + 1074).toNat := by simp only [val, hry]; rfl
  have hneg : Ieee.signed (!t) n (j - min i j).toNat = -Ieee.signed t n (j - min i j).toNat := by
    unfold Ieee.signed; cases t <;> simp
  rw [hneg] at h0 ⊢
  have e1 : val .f64 x - val .f64 y = (Ieee.signed s m (i - min i j).toNat + -Ieee.signed t n (j - min i j).toNat) * 2 ^ (min i j + 1074).toNat := by
    rw [vx, vy, signed_eq, signed_eq, signed_eq, signed_eq, Int.add_mul, Int.neg_mul, Int.mul_assoc, Int.mul_assoc, ← Int.pow_add, ← Int.pow_add]
    rw [show (i - min i j).toNat + (min i j + 1074).toNat = (i + 1074).toNat by omega, show (j - min i j).toNat + (min i j + 1074).toNat = (j + 1074).toNat by omega]
    omega
  rw [e1, Int.natAbs_mul] at h
  generalize Ieee.signed s m (i - min i j).toNat + -Ieee.signed t n (j - min i j).toNat = T at *
  have e2 : ((2 : Int) ^ (min i j + 1074).toNat).natAbs = 2 ^ (min i j + 1074).toNat := by
    rw [Int.natAbs_pow]; rfl
  rw [e2] at h
  have h3 : 2 ^ (T.natAbs.log2 + (min i j + 1074).toNat) < 2 ^ (A + 1074).toNat := by
    refine Nat.lt_of_le_of_lt ?_ h
    rw [Nat.pow_add]
    exact Nat.mul_le_mul_right _ (Nat.log2_self_le h0)
  have h4 := (Nat.pow_lt_pow_iff_right (by omega : 1 < 2)).1 h3
  omega

/-- A difference is as small as the values tell. -/
theorem lt_sub_val {x y : Nat} {A : Int} (hx : (FloatKind.f64.format.read x).isNaN = false ∧ (FloatKind.f64.format.read x).isInfinity = false) (hy : (FloatKind.f64.format.read y).isNaN = false ∧ (FloatKind.f64.format.read y).isInfinity = false)
    (hA : -1074 ≤ A) (h : (val .f64 x - val .f64 y).natAbs < 2 ^ (A + 1074).toNat) (hf : fine .f64 A) :
    ∃ r, floatBits .sub .f64 x y = some r ∧ lt .f64 r (A + 1) := by
  cases hrx : FloatKind.f64.format.read x with
  | nan s t => rw [hrx] at hx; simp [Ieee.Datum.isNaN] at hx
  | infinity s => rw [hrx] at hx; simp [Ieee.Datum.isInfinity] at hx
  | number s m i =>
    cases hry : FloatKind.f64.format.read y with
    | nan s t => rw [hry] at hy; simp [Ieee.Datum.isNaN] at hy
    | infinity s => rw [hry] at hy; simp [Ieee.Datum.isInfinity] at hy
    | number t n j =>
      refine ⟨_, by simp only [floatBits, Ieee.Format.sub, hrx, hry, Ieee.Datum.opposite, Ieee.Datum.sum, Option.map_some]; rfl, ?_⟩
      refine lt_nearest .f64 _ _ _ _ (fun h0 => diff_place hrx hry hA h h0) hf.1 hf.2
end Go.Fk
namespace Go.Fk
open Go Go.RowKit
theorem le_nearest (s : Bool) (m : Nat) (e A : Int) (hA : m ≠ 0 → e + m.log2 + 1 ≤ A) (hf : fine .f64 A) :
    (val .f64 (FloatKind.f64.format.nearest s m e)).natAbs ≤ 2 ^ (A + 1074).toNat := by
  obtain ⟨b1, b2, b3, b4, b5⟩ := bits64
  have hb : FloatKind.f64.format.binade = 4503599627370496 := by decide
  have hlo := hf.1
  have hhi := hf.2
  rw [b2, b3] at hlo
  rw [b2, b3, hb, b5] at hhi
  by_cases hm : m = 0
  · subst hm
    have : FloatKind.f64.format.nearest s 0 e = FloatKind.f64.format.word s 0 := by simp [Ieee.Format.nearest]
    rw [this]
    have : (val .f64 (FloatKind.f64.format.word s 0)).natAbs = 0 := by cases s <;> decide +kernel
    rw [this]
    exact Nat.zero_le _
  · obtain ⟨r, hr, _, h2⟩ := nearest_rung FloatKind.f64.format s m e A hm (hA hm) (by rw [b2, b3]; omega)
    rw [b2, b3, hb] at h2
    rw [hr]
    have hru : r < FloatKind.f64.format.infRung := by rw [b5]; omega
    obtain ⟨s', m', e', hread, hm'⟩ := read_word .f64 s hru
    have hv : val .f64 (FloatKind.f64.format.word s r) = Ieee.signed s' m' (e' + 1074).toNat := by simp only [val, hread]; rfl
    have pe := (read64 hread).1
    rw [hv, signed_natAbs]
    by_cases m0 : m' = 0
    · subst m0; rw [Nat.zero_mul]; exact Nat.zero_le _
    obtain ⟨g1, g2⟩ := hm' m0
    rw [b2, b3, hb] at g2
    by_cases hq : r = ((A + 1023).toNat) * 4503599627370496
    · -- exactly the power
      have hread2 := hread
      unfold Ieee.Format.read at hread2
      have hs : FloatKind.f64.format.infRung < FloatKind.f64.format.signWeight := Ieee.Format.infRung_lt _
      rw [word_mod _ _ (Nat.lt_trans hru hs)] at hread2
      dsimp only at hread2
      have h3 : ¬ r < FloatKind.f64.format.binade := by rw [hb]; omega
      rw [if_neg h3, if_pos hru, hb, b3] at hread2
      simp only [Ieee.Datum.number.injEq] at hread2
      obtain ⟨_, rfl, rfl⟩ := hread2
      have h4 : r % 4503599627370496 = 0 := by omega
      have h5 : r / 4503599627370496 = (A + 1023).toNat := by omega
      rw [h4, h5, show 4503599627370496 + 0 = 2 ^ 52 by decide, ← Nat.pow_add]
      exact Nat.pow_le_pow_right (by omega) (by omega)
    · have h3 : r / 4503599627370496 ≤ (A + 1022).toNat := by omega
      have h4 : e' + m'.log2 + 1 ≤ A := by omega
      calc m' * 2 ^ (e' + 1074).toNat ≤ 2 ^ (m'.log2 + 1) * 2 ^ (e' + 1074).toNat := Nat.mul_le_mul_right _ (Nat.le_of_lt Nat.lt_log2_self)
        _ = 2 ^ (m'.log2 + 1 + (e' + 1074).toNat) := by rw [← Nat.pow_add]
        _ ≤ 2 ^ (A + 1074).toNat := Nat.pow_le_pow_right (by omega) (by omega)
/-- A number that is at most '2 ^ A' in size. -/
def leV (b : Nat) (A : Int) : Prop := lt .f64 b (A + 1) ∧ (val .f64 b).natAbs ≤ 2 ^ (A + 1074).toNat
theorem sub_leV {x y : Nat} {A : Int} (hx : ∃ B, lt .f64 x B) (hy : ∃ B, lt .f64 y B) (hA : -1074 ≤ A) (h : (val .f64 x - val .f64 y).natAbs < 2 ^ (A + 1074).toNat) (hf : fine .f64 A) :
    leV (fop .sub .f64 x y) A := by
  obtain ⟨_, s, m, i, hrx, _⟩ := hx
  obtain ⟨_, t, n, j, hry, _⟩ := hy
  have nx : (FloatKind.f64.format.read x).isNaN = false ∧ (FloatKind.f64.format.read x).isInfinity = false := by rw [hrx]; exact ⟨rfl, rfl⟩
  have ny : (FloatKind.f64.format.read y).isNaN = false ∧ (FloatKind.f64.format.read y).isInfinity = false := by rw [hry]; exact ⟨rfl, rfl⟩
  obtain ⟨r, hr, hl⟩ := lt_sub_val nx ny hA h hf
  have hfop : fop .sub .f64 x y = r := by unfold fop; rw [hr]; exact can_of_not hl.notNan
  rw [hfop]
  refine ⟨hl, ?_⟩
  simp only [floatBits, Ieee.Format.sub, hrx, hry, Ieee.Datum.opposite, Ieee.Datum.sum, Option.map_some, Option.some.injEq] at hr
  rw [← hr]
  refine le_nearest _ _ _ _ (fun h0 => ?_) hf
  exact diff_place hrx hry hA h h0
end Go.Fk

/- Wide numbers above 0 that are normal: as words, and their products by powers of 2. Nothing here names a program. -/
namespace Go.Fk
open Go Go.RowKit
/-- The word of a normal number above 0. -/
def nrm (E f : Nat) : Nat := E * 4503599627370496 + f
theorem bin64 : FloatKind.f64.format.binade = 4503599627370496 := by decide
theorem nrm_read {E f : Nat} (h1 : 1 ≤ E) (h2 : E ≤ 2046) (hf : f < 4503599627370496) : FloatKind.f64.format.read (nrm E f) = .number false (4503599627370496 + f) ((E : Int) - 1075) := by
  obtain ⟨_, _, e3, e4, e5⟩ := bits64
  have e6 := bin64
  have hr : nrm E f % 9223372036854775808 = nrm E f := Nat.mod_eq_of_lt (by unfold nrm; omega)
  have hd : nrm E f / 9223372036854775808 % 2 = 0 := by rw [Nat.div_eq_of_lt (by unfold nrm; omega)]
  have a1 : nrm E f % 4503599627370496 = f := by unfold nrm; omega
  have a2 : nrm E f / 4503599627370496 = E := by unfold nrm; omega
  unfold Ieee.Format.read
  simp only [e3, e4, e5, e6, hr, hd, a1, a2]
  rw [if_neg (by unfold nrm; omega), if_pos (by unfold nrm; omega)]
  congr 1
  omega
theorem nrm_nan {E f : Nat} (h1 : 1 ≤ E) (h2 : E ≤ 2046) (hf : f < 4503599627370496) : isNan .f64 (nrm E f) = false := by
  unfold isNan
  rw [nrm_read h1 h2 hf]
  rfl
/-- What is read is written. -/
theorem near_of {r m : Nat} {e : Int} (h : FloatKind.f64.format.read r = .number false m e) (hr : r < 9223372036854775808) : FloatKind.f64.format.nearest false m e = r := by
  have k := write_read FloatKind.f64.format (by decide) r h
  rw [bits64.2.2.2.1, Nat.mod_eq_of_lt hr] at k
  rw [k]
  unfold Ieee.Format.word
  exact if_neg (by decide)
/-- A product that is exact. -/
theorem mul_of {x y r m n m' k : Nat} {i j e : Int} (hx : FloatKind.f64.format.read x = .number false m i) (hy : FloatKind.f64.format.read y = .number false n j) (hr : FloatKind.f64.format.read r = .number false m' e) (hm : m * n = m' * 2 ^ k) (he : i + j = e - (k : Int)) (hlt : r < 9223372036854775808) : fop .mul .f64 x y = r := by
  have hb : floatBits .mul .f64 x y = some (FloatKind.f64.format.nearest (false ^^ false) (m * n) (i + j)) := by
    simp only [floatBits, Ieee.Format.mul, hx, hy, Ieee.Datum.product, Option.map_some]; rfl
  rw [hm, he, Bool.xor_self, nearest_scale, near_of hr hlt] at hb
  unfold fop
  rw [hb]
  exact can_of_not (by simp [isNan, hr, Ieee.Datum.isNaN])
/-- A quotient that is exact. -/
theorem quo_of {x y r m n m' k : Nat} {i j e : Int} (hx : FloatKind.f64.format.read x = .number false m i) (hy : FloatKind.f64.format.read y = .number false n j) (n0 : n ≠ 0) (hr : FloatKind.f64.format.read r = .number false m' e) (hm : 2 * m * 2 ^ (54 + n.log2 - m.log2) = m' * 2 ^ k * n) (h2 : ∃ q, m' * 2 ^ k = 2 * q) (he : i - j - ((54 + n.log2 - m.log2 : Nat) : Int) - 1 = e - (k : Int)) (hlt : r < 9223372036854775808) : fop .quo .f64 x y = r := by
  obtain ⟨q, hq⟩ := h2
  have hb : floatBits .quo .f64 x y = some (FloatKind.f64.format.nearest (false ^^ false) (2 * (m <<< (52 + 2 + n.log2 - m.log2) / n) + (m <<< (52 + 2 + n.log2 - m.log2) % n != 0).toNat) (i - j - ((52 + 2 + n.log2 - m.log2 : Nat) : Int) - 1)) := by
    simp only [floatBits, Ieee.Format.div, hx, hy, Ieee.Datum.quotient, if_neg n0, Option.map_some, bits64.2.1]; rfl
  have e1 : m <<< (52 + 2 + n.log2 - m.log2) = q * n := by
    rw [Nat.shiftLeft_eq]
    rw [hq, Nat.mul_assoc, Nat.mul_assoc] at hm
    exact Nat.eq_of_mul_eq_mul_left (by decide : 0 < 2) hm
  rw [e1, Nat.mul_div_cancel _ (by omega), Nat.mul_mod_left, bne_self_eq_false, Bool.toNat_false, Nat.add_zero, ← hq, Bool.xor_self, show 52 + 2 + n.log2 - m.log2 = 54 + n.log2 - m.log2 by omega, he, nearest_scale, near_of hr hlt] at hb
  unfold fop
  rw [hb]
  exact can_of_not (by simp [isNan, hr, Ieee.Datum.isNaN])
theorem nrm_lt {E f : Nat} (h2 : E ≤ 2046) (hf : f < 4503599627370496) : nrm E f < 9223372036854775808 := by unfold nrm; omega
theorem nrm_near {E f : Nat} (h1 : 1 ≤ E) (h2 : E ≤ 2046) (hf : f < 4503599627370496) : FloatKind.f64.format.nearest false (4503599627370496 + f) ((E : Int) - 1075) = nrm E f := near_of (nrm_read h1 h2 hf) (nrm_lt h2 hf)
theorem nrm_fits {E f : Nat} (h2 : E ≤ 2046) (hf : f < 4503599627370496) : fits .f64 (nrm E f) := by
  unfold fits Lit.wf nrm
  simp only [decide_eq_true_eq]
  show E * 4503599627370496 + f < 18446744073709551616
  omega
theorem nrm_log {f : Nat} (hf : f < 4503599627370496) : (4503599627370496 + f).log2 = 52 := (Nat.log2_eq_iff (by omega)).2 ⟨by omega, by omega⟩
theorem p52 : (2 : Nat) ^ 52 = 4503599627370496 := by decide
theorem p55 : (2 : Nat) ^ 55 = 8 * 4503599627370496 := by decide
theorem p54 : (2 : Nat) ^ 54 = 4 * 4503599627370496 := by decide
/-- A product by a power of 2. -/
theorem nrm_mul {E f G : Nat} (h1 : 1 ≤ E) (h2 : E ≤ 2046) (hf : f < 4503599627370496) (g1 : 1 ≤ G) (g2 : G ≤ 2046) (l1 : 1024 ≤ E + G) (l2 : E + G ≤ 3069) :
    fop .mul .f64 (nrm E f) (nrm G 0) = nrm (E + G - 1023) f ∧ fop .mul .f64 (nrm G 0) (nrm E f) = nrm (E + G - 1023) f := by
  have hr := nrm_read h1 h2 hf
  have hg := nrm_read (f := 0) g1 g2 (by omega)
  have ho := nrm_read (E := E + G - 1023) (f := f) (by omega) (by omega) hf
  have hl := nrm_lt (E := E + G - 1023) (f := f) (by omega) hf
  have he : ((E : Int) - 1075) + ((G : Int) - 1075) = (((E + G - 1023 : Nat) : Int) - 1075) - ((52 : Nat) : Int) := by omega
  have p := p52
  constructor
  · refine mul_of hr hg ho (k := 52) ?_ he hl
    rw [p, Nat.add_zero]
  · refine mul_of hg hr ho (k := 52) ?_ (by omega) hl
    rw [p, Nat.add_zero, Nat.mul_comm]
/-- A quotient by 2. -/
theorem nrm_half {E f : Nat} (h1 : 2 ≤ E) (h2 : E ≤ 2046) (hf : f < 4503599627370496) : fop .quo .f64 (nrm E f) 4611686018427387904 = nrm (E - 1) f := by
  have hr := nrm_read (by omega) h2 hf
  have h2r : FloatKind.f64.format.read 4611686018427387904 = .number false 4503599627370496 (-51) := by decide
  have ho := nrm_read (E := E - 1) (f := f) (by omega) (by omega) hf
  have hl := nrm_lt (E := E - 1) (f := f) (by omega) hf
  have hl2 : (4503599627370496 : Nat).log2 = 52 := by decide
  have p := p54
  refine quo_of hr h2r (by decide) ho (k := 3) ?_ ⟨(4503599627370496 + f) * 4, ?_⟩ ?_ hl
  · rw [nrm_log hf, hl2, show 54 + 52 - 52 = 54 from rfl, p]
    generalize 4503599627370496 + f = m
    generalize (4503599627370496 : Nat) = c
    rw [show (2 : Nat) ^ 3 = 8 from rfl, Nat.mul_comm 2 m, Nat.mul_assoc, Nat.mul_assoc]
    congr 1
    omega
  · generalize 4503599627370496 + f = m
    rw [show (2 : Nat) ^ 3 = 8 from rfl]
    omega
  · rw [nrm_log hf, hl2]
    omega
/-- A wide number that is nearest to a positive one is normal, if that is not too small and not too great. -/
theorem near_nrm {m : Nat} {e : Int} (hm : m ≠ 0) (h1 : -1022 ≤ e + m.log2) (h2 : e + m.log2 ≤ 1022) :
    ∃ E f, FloatKind.f64.format.nearest false m e = nrm E f ∧ f < 4503599627370496 ∧ ((E : Int) = e + m.log2 + 1023 ∨ (E : Int) = e + m.log2 + 1024) := by
  obtain ⟨_, e2, e3, e4, e5⟩ := bits64
  have e6 := bin64
  have hp52 : (2 : Nat) ^ 52 = 4503599627370496 := by decide
  have key : ∃ kept, FloatKind.f64.format.nearest false m e = ((e + m.log2 + 1022).toNat * 4503599627370496 + kept) ∧ 4503599627370496 ≤ kept ∧ kept ≤ 9007199254740992 := by
    have main : ∀ kept, kept = Ieee.Toward.even.cut false (m <<< (e - (e + m.log2 - 52)).toNat) ((e + m.log2 - 52) - e).toNat → 4503599627370496 ≤ kept → kept ≤ 9007199254740992 → FloatKind.f64.format.nearest false m e = ((e + m.log2 + 1022).toNat * 4503599627370496 + kept) := by
      intro kept hk k1 k2
      unfold Ieee.Format.nearest
      rw [if_neg hm]
      simp only [e2, e3, e5, e6]
      rw [show max (e + (m.log2 : Int) - ((52 : Nat) : Int)) (-1074) = e + m.log2 - 52 by omega, ← hk]
      rw [Nat.min_eq_left (by omega)]
      simp only [Ieee.Format.word, Bool.false_eq_true, if_false]
      congr 2
      omega
    rcases Nat.lt_or_ge m.log2 53 with hl | hl
    · refine ⟨m * 2 ^ (52 - m.log2), main _ ?_ ?_ ?_, ?_, ?_⟩
      · rw [show (e + (m.log2 : Int) - 52 - e).toNat = 0 by omega, cut_zero, Nat.shiftLeft_eq, show (e - (e + (m.log2 : Int) - 52)).toNat = 52 - m.log2 by omega]
      all_goals
        have a := Nat.log2_self_le hm
        have b := @Nat.lt_log2_self m
        first
        | (calc 4503599627370496 = 2 ^ m.log2 * 2 ^ (52 - m.log2) := by rw [← Nat.pow_add, show m.log2 + (52 - m.log2) = 52 by omega, hp52]
            _ ≤ _ := Nat.mul_le_mul_right _ a)
        | (calc m * 2 ^ (52 - m.log2) ≤ 2 ^ (m.log2 + 1) * 2 ^ (52 - m.log2) := Nat.mul_le_mul_right _ (Nat.le_of_lt b)
            _ = 9007199254740992 := by rw [← Nat.pow_add, show m.log2 + 1 + (52 - m.log2) = 53 by omega])
    · refine ⟨Ieee.Toward.even.cut false m (m.log2 - 52), main _ ?_ ?_ ?_, ?_, ?_⟩
      · rw [show (e - (e + (m.log2 : Int) - 52)).toNat = 0 by omega, Nat.shiftLeft_zero, show (e + (m.log2 : Int) - 52 - e).toNat = m.log2 - 52 by omega]
      all_goals
        have a := Nat.log2_self_le hm
        have b := @Nat.lt_log2_self m
        first
        | (refine Nat.le_trans ?_ (cut_ge false m (m.log2 - 52))
           rw [Nat.le_div_iff_mul_le (Nat.two_pow_pos _), ← hp52, ← Nat.pow_add]
           rw [show 52 + (m.log2 - 52) = m.log2 by omega]
           exact a)
        | (have := cut_le false m (m.log2 - 52) 53 (by rw [show 53 + (m.log2 - 52) = m.log2 + 1 by omega]; exact b)
           exact Nat.le_trans this (by decide))
  obtain ⟨kept, hk, k1, k2⟩ := key
  rw [hk]
  by_cases c : kept = 9007199254740992
  · exact ⟨(e + m.log2 + 1022).toNat + 2, 0, by unfold nrm; omega, by omega, by omega⟩
  · exact ⟨(e + m.log2 + 1022).toNat + 1, kept - 4503599627370496, by unfold nrm; omega, by omega, by omega⟩
/-- A number that is not below 0 and at most 2 ^ A. -/
def nv (b : Nat) (A : Int) : Prop := ∃ s m e, FloatKind.f64.format.read b = .number s m e ∧ (m ≠ 0 → s = false ∧ (e + m.log2 + 1 ≤ A ∨ (m = 2 ^ m.log2 ∧ e + m.log2 = A)))
theorem nv.mono {b : Nat} {A B : Int} (h : nv b A) (hAB : A ≤ B) : nv b B := by
  obtain ⟨s, m, e, hr, hm⟩ := h
  refine ⟨s, m, e, hr, fun h => ⟨(hm h).1, ?_⟩⟩
  rcases (hm h).2 with h1 | ⟨h1, h2⟩
  · exact .inl (by omega)
  · by_cases c : A = B
    · exact .inr ⟨h1, by omega⟩
    · exact .inl (by omega)
theorem nv.lt {b : Nat} {A : Int} (h : nv b A) : lt .f64 b (A + 1) := by
  obtain ⟨s, m, e, hr, hm⟩ := h
  refine ⟨s, m, e, hr, fun h => ?_⟩
  rcases (hm h).2 with h1 | ⟨_, h2⟩ <;> omega
theorem nv_of_can {r b : Nat} {A : Int} (h : can .f64 r = can .f64 b) (hb : nv b A) : nv r A := by
  have : r = b := (eq_of_can h.symm hb.lt.notNan).symm
  rw [this]; exact hb
theorem nrm_of (r : Nat) : r = nrm (r / 4503599627370496) (r % 4503599627370496) ∧ r % 4503599627370496 < 4503599627370496 := by unfold nrm; omega
theorem nv_zero (s : Bool) (e A : Int) : nv (FloatKind.f64.format.nearest s 0 e) A := by
  have h1 : FloatKind.f64.format.nearest s 0 e = FloatKind.f64.format.word s 0 := by simp [Ieee.Format.nearest]
  have hz : FloatKind.f64.format.read (FloatKind.f64.format.word s 0) = .number s 0 (-1074) := by cases s <;> decide
  rw [h1]
  exact ⟨_, _, _, hz, fun h => absurd rfl h⟩
/-- What is nearest to a number that is not below 0 and at most 2 ^ A. -/
theorem nv_near {s : Bool} {m : Nat} {e A : Int} (h : m ≠ 0 → s = false ∧ (e + m.log2 + 1 ≤ A ∨ (m = 2 ^ m.log2 ∧ e + m.log2 = A))) (a1 : -1021 ≤ A) (a2 : A ≤ 1022) : nv (FloatKind.f64.format.nearest s m e) A := by
  by_cases hm : m = 0
  · subst hm; exact nv_zero s e A
  obtain ⟨rfl, hc⟩ := h hm
  rcases hc with h1 | ⟨h1, h2⟩
  · obtain ⟨r, hw, _, h2⟩ := nearest_rung FloatKind.f64.format false m e A hm h1 (fine64 a1 a2).1
    rw [hw, show FloatKind.f64.format.word false r = r by simp [Ieee.Format.word]]
    obtain ⟨_, e2, e3, _, e5⟩ := bits64
    rw [e2, e3, bin64] at h2
    obtain ⟨hn, hf⟩ := nrm_of r
    by_cases c : r / 4503599627370496 = 0
    · have hr : FloatKind.f64.format.read r = .number false r (-1074) := by
        obtain ⟨_, _, e3, e4, e5⟩ := bits64
        have e6 := bin64
        unfold Ieee.Format.read
        simp only [e3, e4, e6]
        rw [Nat.mod_eq_of_lt (by omega), Nat.div_eq_of_lt (by omega), if_pos (by omega)]
        rfl
      refine ⟨_, _, _, hr, fun h0 => ⟨rfl, .inl ?_⟩⟩
      have := (Nat.log2_lt h0 (k := 52)).2 (Nat.lt_of_lt_of_eq (by omega) (show 4503599627370496 = 2 ^ 52 by decide))
      omega
    · have hE : ((r / 4503599627370496 : Nat) : Int) ≤ A + 1023 := by omega
      generalize r / 4503599627370496 = E at *
      generalize r % 4503599627370496 = f at *
      subst hn
      refine ⟨_, _, _, nrm_read (by omega) (by omega) hf, fun _ => ⟨rfl, ?_⟩⟩
      rw [nrm_log hf]
      by_cases c2 : (E : Int) = A + 1023
      · have hf0 : f = 0 := by unfold nrm at h2; omega
        subst hf0
        exact .inr ⟨by decide, by omega⟩
      · exact .inl (by omega)
  · have key : FloatKind.f64.format.nearest false m e = nrm (A + 1023).toNat 0 := by
      have k1 := nearest_scale FloatKind.f64.format false 1 m.log2 (e + m.log2)
      rw [Nat.one_mul, ← h1, show e + (m.log2 : Int) - m.log2 = e by omega, h2] at k1
      have k2 := nearest_scale FloatKind.f64.format false 1 52 A
      rw [k1, ← k2, ← nrm_near (E := (A + 1023).toNat) (f := 0) (by omega) (by omega) (by omega)]
      congr 1
      omega
    rw [key]
    refine ⟨_, _, _, nrm_read (by omega) (by omega) (by omega), fun _ => ⟨rfl, .inr ⟨?_, ?_⟩⟩⟩
    · rw [nrm_log (by omega)]
    · rw [nrm_log (by omega)]; omega
theorem fop_some {op : BinOp} {x y r : Nat} {k : FloatKind} (h : floatBits op k x y = some r) (hn : isNan k r = false) : fop op k x y = r := by
  unfold fop; rw [h]; exact can_of_not hn
theorem nv_mul {x y : Nat} {A B : Int} (hx : nv x A) (hy : nv y B) (a1 : -1021 ≤ A + B) (a2 : A + B ≤ 1022) : nv (fop .mul .f64 x y) (A + B) := by
  obtain ⟨s, m, i, hr, hm⟩ := hx
  obtain ⟨t, n, j, hr2, hn⟩ := hy
  have hb : floatBits .mul .f64 x y = some (FloatKind.f64.format.nearest (s ^^ t) (m * n) (i + j)) := by
    simp only [floatBits, Ieee.Format.mul, hr, hr2, Ieee.Datum.product, Option.map_some]; rfl
  have key : nv (FloatKind.f64.format.nearest (s ^^ t) (m * n) (i + j)) (A + B) := nv_near (fun h0 => by
    have m0 : m ≠ 0 := fun h => h0 (by rw [h, Nat.zero_mul])
    have n0 : n ≠ 0 := fun h => h0 (by rw [h, Nat.mul_zero])
    have hl := log2_mul_le m0 n0
    obtain ⟨rfl, h1⟩ := hm m0
    obtain ⟨rfl, h2⟩ := hn n0
    refine ⟨rfl, ?_⟩
    rcases h1 with h1 | ⟨h1, h3⟩
    · rcases h2 with h2 | ⟨h2, h4⟩
      · exact .inl (by omega)
      · have : (m * n).log2 = m.log2 + n.log2 := by rw [h2, log2_scale m0, ← h2]
        exact .inl (by omega)
    · have e1 : (m * n).log2 = m.log2 + n.log2 := by rw [h1, Nat.mul_comm, log2_scale n0, ← h1]; omega
      rcases h2 with h2 | ⟨h2, h4⟩
      · exact .inl (by omega)
      · refine .inr ⟨?_, by omega⟩
        rw [e1, Nat.pow_add, ← h1, ← h2]) a1 a2
  rw [fop_some hb key.lt.notNan]; exact key
theorem nv_quo {x y : Nat} {A C : Int} (hx : nv x A) (hy : ∃ m e, FloatKind.f64.format.read y = .number false m e ∧ m ≠ 0 ∧ C ≤ e + m.log2) (a1 : -1021 ≤ A - C) (a2 : A - C ≤ 1020) : nv (fop .quo .f64 x y) (A - C) := by
  obtain ⟨n, j, hr2, n0, hn⟩ := hy
  obtain ⟨s, m, i, hr, hm⟩ := hx
  have hb2 : floatBits .quo .f64 x y = some (FloatKind.f64.format.nearest (s ^^ false) (2 * (m <<< (52 + 2 + n.log2 - m.log2) / n) + (m <<< (52 + 2 + n.log2 - m.log2) % n != 0).toNat) (i - j - ((52 + 2 + n.log2 - m.log2 : Nat) : Int) - 1)) := by
    simp only [floatBits, Ieee.Format.div, hr, hr2, Ieee.Datum.quotient, if_neg n0, Option.map_some, bits64.2.1]; rfl
  have key : nv (FloatKind.f64.format.nearest (s ^^ false) (2 * (m <<< (52 + 2 + n.log2 - m.log2) / n) + (m <<< (52 + 2 + n.log2 - m.log2) % n != 0).toNat) (i - j - ((52 + 2 + n.log2 - m.log2 : Nat) : Int) - 1)) (A - C) := by
    by_cases m0 : m = 0
    · subst m0
      simp only [Nat.zero_shiftLeft, Nat.zero_div, Nat.zero_mod, bne_self_eq_false, Bool.toNat_false, Nat.mul_zero, Nat.add_zero]
      exact nv_zero _ _ _
    · obtain ⟨rfl, h1⟩ := hm m0
      refine nv_near (fun h0 => ⟨rfl, ?_⟩) a1 (by omega)
      generalize hmore : 52 + 2 + n.log2 - m.log2 = more at *
      have h2 : 2 ^ n.log2 ≤ n := Nat.log2_self_le n0
      have hb : ∀ b : Bool, b.toNat ≤ 1 := by intro b; cases b <;> simp
      have hge : n.log2 ≤ m.log2 + more := by omega
      -- the general bound, for a dividend below 2 ^ L
      have gen : ∀ L, n.log2 ≤ L → m <<< more < 2 ^ L → (2 * (m <<< more / n) + (m <<< more % n != 0).toNat).log2 < L - n.log2 + 1 := by
        intro L hL h1'
        refine (Nat.log2_lt h0).2 ?_
        have h3 : m <<< more / n < 2 ^ (L - n.log2) := by
          rw [Nat.div_lt_iff_lt_mul (by omega)]
          calc m <<< more < 2 ^ L := h1'
            _ = 2 ^ (L - n.log2) * 2 ^ n.log2 := by rw [← Nat.pow_add]; congr 1; omega
            _ ≤ 2 ^ (L - n.log2) * n := Nat.mul_le_mul_left _ h2
        have := hb (m <<< more % n != 0)
        rw [Nat.pow_succ]
        omega
      rcases h1 with h1 | ⟨h1, h3⟩
      · have h1' : m <<< more < 2 ^ (m.log2 + 1 + more) := by
          rw [Nat.shiftLeft_eq, Nat.pow_add]
          exact Nat.mul_lt_mul_of_pos_right Nat.lt_log2_self (Nat.two_pow_pos _)
        have := gen _ (by omega) h1'
        exact .inl (by omega)
      · have e1 : m <<< more = 2 ^ (m.log2 + more) := by
          rw [Nat.shiftLeft_eq, Nat.pow_add, ← h1]
        rcases Nat.lt_or_ge (2 ^ n.log2) n with c | c
        · -- the divisor is more than its power of 2
          have h4 : m <<< more / n < 2 ^ (m.log2 + more - n.log2) := by
            rw [Nat.div_lt_iff_lt_mul (by omega), e1]
            calc 2 ^ (m.log2 + more) = 2 ^ (m.log2 + more - n.log2) * 2 ^ n.log2 := by rw [← Nat.pow_add]; congr 1; omega
              _ < 2 ^ (m.log2 + more - n.log2) * n := Nat.mul_lt_mul_of_pos_left c (Nat.two_pow_pos _)
          have h5 : (2 * (m <<< more / n) + (m <<< more % n != 0).toNat).log2 < m.log2 + more - n.log2 + 1 := by
            refine (Nat.log2_lt h0).2 ?_
            have := hb (m <<< more % n != 0)
            rw [Nat.pow_succ]
            omega
          exact .inl (by omega)
        · have hn2 : n = 2 ^ n.log2 := by omega
          have e2 : m <<< more = 2 ^ (m.log2 + more - n.log2) * n := by
            rw [e1]
            conv => rhs; rw [hn2]
            rw [Nat.log2_two_pow, ← Nat.pow_add]; congr 1; omega
          have hnp : 0 < n := by omega
          have e3 : 2 * (m <<< more / n) + (m <<< more % n != 0).toNat = 2 ^ (m.log2 + more - n.log2 + 1) := by
            rw [e2, Nat.mul_div_cancel _ hnp, Nat.mul_mod_left, Nat.pow_succ]
            simp
            omega
          rw [e3, Nat.log2_two_pow]
          by_cases c2 : j + (n.log2 : Int) = C
          · exact .inr ⟨rfl, by omega⟩
          · exact .inl (by omega)
  rw [fop_some hb2 key.lt.notNan]; exact key
/-- 1 and a number that is not below 0: normal, from 1 on. -/
theorem one_nv {x : Nat} {A : Int} (hx : nv x A) (h1 : 0 ≤ A) (h2 : A ≤ 1000) : ∃ E f, fop .add .f64 4607182418800017408 x = nrm E f ∧ f < 4503599627370496 ∧ 1023 ≤ E ∧ (E : Int) ≤ A + 1024 ∧ nv (nrm E f) (A + 1) := by
  obtain ⟨t, n, j, hr2, hn⟩ := hx
  have hr : FloatKind.f64.format.read 4607182418800017408 = .number false 4503599627370496 (-52) := by decide
  have pj := (read64 hr2).1
  have hb : floatBits .add .f64 4607182418800017408 x = some (FloatKind.f64.format.nearest (if Ieee.signed false 4503599627370496 (-52 - min (-52) j).toNat + Ieee.signed t n (j - min (-52) j).toNat = 0 then false && t else decide (Ieee.signed false 4503599627370496 (-52 - min (-52) j).toNat + Ieee.signed t n (j - min (-52) j).toNat < 0)) (Ieee.signed false 4503599627370496 (-52 - min (-52) j).toNat + Ieee.signed t n (j - min (-52) j).toNat).natAbs (min (-52) j)) := by
    simp only [floatBits, Ieee.Format.add, hr, hr2, Ieee.Datum.sum, Option.map_some]; rfl
  have hs : Ieee.signed t n (j - min (-52) j).toNat = ((n * 2 ^ (j - min (-52) j).toNat : Nat) : Int) := by
    unfold Ieee.signed
    rw [Nat.shiftLeft_eq]
    by_cases n0 : n = 0
    · subst n0; simp
    · obtain ⟨rfl, _⟩ := hn n0; simp
  have hs1 : Ieee.signed false 4503599627370496 (-52 - min (-52) j).toNat = ((2 ^ (-(min (-52) j)).toNat : Nat) : Int) := by
    unfold Ieee.signed
    rw [Nat.shiftLeft_eq]
    simp only [Bool.false_eq_true, if_false]
    rw [show (4503599627370496 : Nat) = 2 ^ 52 by decide, ← Nat.pow_add]
    congr 2
    omega
  rw [hs, hs1, ← Int.natCast_add] at hb
  generalize hT : 2 ^ (-(min (-52) j)).toNat + n * 2 ^ (j - min (-52) j).toNat = T at hb
  have hp := Nat.two_pow_pos (-(min (-52) j)).toNat
  have hT0 : T ≠ 0 := by omega
  rw [if_neg (by omega), decide_eq_false (by omega), Int.natAbs_natCast] at hb
  have lo : (-(min (-52) j)).toNat ≤ T.log2 := (Nat.le_log2 hT0).2 (by omega)
  have hu : T ≤ 2 ^ ((-(min (-52) j)).toNat + A.toNat + 1) := by
    have a1 : 2 ^ (-(min (-52) j)).toNat ≤ 2 ^ ((-(min (-52) j)).toNat + A.toNat) := Nat.pow_le_pow_right (by omega) (by omega)
    have a2 : n * 2 ^ (j - min (-52) j).toNat ≤ 2 ^ ((-(min (-52) j)).toNat + A.toNat) := by
      by_cases n0 : n = 0
      · subst n0; rw [Nat.zero_mul]; exact Nat.zero_le _
      · obtain ⟨_, h3⟩ := hn n0
        rcases h3 with h3 | ⟨h3, h4⟩
        · calc n * 2 ^ (j - min (-52) j).toNat ≤ 2 ^ (n.log2 + 1) * 2 ^ (j - min (-52) j).toNat := Nat.mul_le_mul_right _ (Nat.le_of_lt Nat.lt_log2_self)
            _ = 2 ^ (n.log2 + 1 + (j - min (-52) j).toNat) := by rw [← Nat.pow_add]
            _ ≤ _ := Nat.pow_le_pow_right (by omega) (by omega)
        · calc n * 2 ^ (j - min (-52) j).toNat = 2 ^ n.log2 * 2 ^ (j - min (-52) j).toNat := by rw [← h3]
            _ = 2 ^ (n.log2 + (j - min (-52) j).toNat) := by rw [← Nat.pow_add]
            _ ≤ _ := Nat.pow_le_pow_right (by omega) (by omega)
    rw [Nat.pow_succ]
    omega
  have hi : T.log2 ≤ (-(min (-52) j)).toNat + A.toNat + 1 := by
    have := Nat.le_trans (Nat.log2_self_le hT0) hu
    exact (Nat.pow_le_pow_iff_right (a := 2) (by omega)).1 this
  obtain ⟨E, f, he, hf, hE⟩ := near_nrm (m := T) (e := min (-52) j) hT0 (by omega) (by omega)
  have hc : nv (FloatKind.f64.format.nearest false T (min (-52) j)) (A + 1) := nv_near (fun _ => ⟨rfl, by
    rcases Nat.lt_or_ge T.log2 ((-(min (-52) j)).toNat + A.toNat + 1) with c | c
    · exact .inl (by omega)
    · have e1 : T.log2 = (-(min (-52) j)).toNat + A.toNat + 1 := by omega
      refine .inr ⟨Nat.le_antisymm (by rw [e1]; exact hu) (Nat.log2_self_le hT0), by omega⟩⟩) (by omega) (by omega)
  rw [he] at hb hc
  have hE0 : 1023 ≤ E := by omega
  have hE1 : E ≤ 2046 := by omega
  refine ⟨E, f, fop_some hb (nrm_nan (by omega) hE1 hf), hf, hE0, ?_, hc⟩
  obtain ⟨s', m', e', hr', hm'⟩ := hc
  rw [nrm_read (by omega) hE1 hf] at hr'
  cases hr'
  rcases (hm' (by omega)).2 with h3 | ⟨_, h3⟩ <;> rw [nrm_log hf] at h3 <;> omega
end Go.Fk

/- A place times a whole number, and the whole part of it as the wide floor gives it. Nothing here names a program. -/
namespace Go.Fk
open Go Go.RowKit
theorem far64 : 9223372036854775807 * (2 : Int) ^ 1074 < (far : Int) := by decide +kernel
theorem far64' : -(far : Int) < -9223372036854775808 * (2 : Int) ^ 1074 := by decide +kernel
theorem far4k : 4096 * one32 < (far : Int) := by decide +kernel
/-- The product of two numbers goes by no order. -/
theorem fmul_comm {x y : Nat} {s t : Bool} {m q : Nat} {i j : Int} (hx : FloatKind.f32.format.read x = .number s m i) (hy : FloatKind.f32.format.read y = .number t q j) : fop .mul .f32 x y = fop .mul .f32 y x := by
  have h1 : floatBits .mul .f32 x y = some (FloatKind.f32.format.nearest (s ^^ t) (m * q) (i + j)) := by
    simp only [floatBits, Ieee.Format.mul, hx, hy, Ieee.Datum.product, Option.map_some]; rfl
  have h2 : floatBits .mul .f32 y x = some (FloatKind.f32.format.nearest (t ^^ s) (q * m) (j + i)) := by
    simp only [floatBits, Ieee.Format.mul, hx, hy, Ieee.Datum.product, Option.map_some]; rfl
  unfold fop
  rw [h1, h2, Bool.xor_comm, Nat.mul_comm, Int.add_comm]
theorem val64_widen {d : Nat} {s : Bool} {m : Nat} {e : Int} (hr : FloatKind.f32.format.read d = .number s m e) : val .f64 (widen d) = val .f32 d * 2 ^ 925 := by
  obtain ⟨j, e', hw, he, _⟩ := read_widen hr
  obtain ⟨b1, _⟩ := read32 hr
  obtain ⟨b2, _⟩ := read64 hw
  have v1 : val .f32 d = Ieee.signed s m (e + 149).toNat := by simp only [val, hr]; rfl
  have v2 : val .f64 (widen d) = Ieee.signed s (m * 2 ^ j) (e' + 1074).toNat := by simp only [val, hw]; rfl
  obtain ⟨N, hN⟩ : ∃ N : Nat, N = 925 := ⟨_, rfl⟩
  rw [v1, v2, ← hN]
  unfold Ieee.signed
  rw [Nat.shiftLeft_eq, Nat.shiftLeft_eq]
  by_cases m0 : m = 0
  · subst m0
    generalize (2 : Int) ^ N = S9
    simp only [Nat.zero_mul, Int.natCast_zero, Int.neg_zero, ite_self, Int.zero_mul]
  · have e0 := he m0
    have ex : m * 2 ^ j * 2 ^ (e' + 1074).toNat = m * 2 ^ (e + 149).toNat * 2 ^ N := by
      rw [Nat.mul_assoc, Nat.mul_assoc, ← Nat.pow_add, ← Nat.pow_add]
      congr 2
      omega
    have c : ((2 ^ N : Nat) : Int) = (2 : Int) ^ N := Int.natCast_pow 2 N
    rw [ex]
    cases s
    · rw [if_neg (by decide), if_neg (by decide), Int.natCast_mul, c]
    · rw [if_pos rfl, if_pos rfl, Int.natCast_mul, c, Int.neg_mul]
theorem floor_int {d r : Nat} (hn : isNan .f32 d = false) (h0 : 0 ≤ val .f32 d) (h1 : val .f32 d ≤ 4096 * one32) (hr : can .f64 r = can .f64 (integ .down (widen d))) : floatToIntVal .f64 r .i64 = some (wholeW d : Int) := by
  obtain ⟨s, m, e, hrd⟩ : ∃ s m e, FloatKind.f32.format.read d = .number s m e := by
    cases h : FloatKind.f32.format.read d with
    | nan a b => simp [isNan, h, Ieee.Datum.isNaN] at hn
    | infinity a =>
      exfalso
      have hv : val .f32 d = if a then -(far : Int) else far := by simp only [val, h]
      have hf := far4k
      have hp : (0 : Int) < far := Int.ofNat_lt.2 far_pos
      rw [hv] at h0 h1
      cases a
      · simp only [Bool.false_eq_true, if_false] at h0 h1; omega
      · simp only [if_true] at h0 h1; omega
    | number s m e => exact ⟨s, m, e, rfl⟩
  have hv := val64_widen hrd
  obtain ⟨j, e', hw, _, _⟩ := read_widen hrd
  obtain ⟨hfl, Bd, hB⟩ := val_floor hw
  have hni : isNan .f64 (integ .down (widen d)) = false := by
    obtain ⟨s', m', e'', hr', _⟩ := hB
    simp [isNan, hr', Ieee.Datum.isNaN]
  have er : r = integ .down (widen d) := (eq_of_can hr.symm hni).symm
  subst er
  have hU : (0 : Int) < 2 ^ 149 := Int.pow_pos (by omega)
  have hS : (0 : Int) < 2 ^ 925 := Int.pow_pos (by omega)
  have hX : val .f64 (widen d) / 2 ^ 1074 = val .f32 d / 2 ^ 149 := by
    rw [hv, show (2 : Int) ^ 1074 = 2 ^ 149 * 2 ^ 925 by rw [← Int.pow_add]]
    exact Int.mul_ediv_mul_of_pos_left _ _ hS
  rw [hX] at hfl
  have o1 : one32 = 2 ^ 149 := rfl
  rw [o1] at h1
  have k0 : 0 ≤ val .f32 d / 2 ^ 149 := Int.ediv_nonneg h0 (by omega)
  have k1 : val .f32 d / 2 ^ 149 ≤ 4096 := by
    have := Int.ediv_le_ediv hU h1
    rwa [Int.mul_ediv_cancel _ (by omega)] at this
  have hwd : (wholeW d : Int) = val .f32 d / 2 ^ 149 := by
    unfold wholeW
    rw [o1, Int.tdiv_eq_ediv_of_nonneg h0, Int.toNat_of_nonneg k0]
  have hU64 : (0 : Int) < 2 ^ 1074 := Int.pow_pos (by omega)
  have f1 := far64
  have f2 := far64'
  rw [hwd]
  generalize hx : val .f32 d / 2 ^ 149 = X at *
  have key := floatToInt_val (k := .i64) hni (by
    show (-9223372036854775808 : Int) * 2 ^ 1074 ≤ _
    rw [hfl]; exact Int.mul_le_mul_of_nonneg_right (by omega) (Int.le_of_lt hU64)) (by
    show _ ≤ (9223372036854775807 : Int) * 2 ^ 1074
    rw [hfl]; exact Int.mul_le_mul_of_nonneg_right (by omega) (Int.le_of_lt hU64)) f1 f2
  rw [key, hfl, show (2 : Int) ^ unitOf .f64 = 2 ^ 1074 from rfl, Int.mul_tdiv_cancel _ (by omega)]
/-- A place times a whole number: neither NaN nor below 0. -/
theorem mult_pos {pl n : Nat} (hn : isNan .f32 pl = false) (h0 : 0 ≤ val .f32 pl) (h1 : val .f32 pl ≤ 2 ^ 149) (hk : n ≤ 1024) :
    isNan .f32 (fop .mul .f32 pl (floatOfInt .f32 (n : Int))) = false ∧ 0 ≤ val .f32 (fop .mul .f32 pl (floatOfInt .f32 (n : Int))) ∧ val .f32 (fop .mul .f32 pl (floatOfInt .f32 (n : Int))) ≤ 4096 * one32 ∧ fop .mul .f32 (floatOfInt .f32 (n : Int)) pl = fop .mul .f32 pl (floatOfInt .f32 (n : Int)) := by
  have hU := one32_pos
  obtain ⟨s, m, i, hr, hm⟩ := lt_val hn h0 h1 (by omega)
  have hv : val .f32 (floatOfInt .f32 (n : Int)) = (n : Int) * one32 := val_int (by omega)
  have hv2 : val .f32 (floatOfInt .f32 (n : Int)) ≤ 2 ^ 159 := by
    rw [hv]
    have e2 : (1024 : Int) * one32 = 2 ^ 159 := by decide
    rw [← e2]
    exact Int.mul_le_mul_of_nonneg_right (by omega) (by omega)
  obtain ⟨t, q, j, hr2, hq⟩ := lt_val (isNan_int (n : Int)) (by rw [hv]; exact Int.mul_nonneg (by omega) (by omega)) hv2 (by omega)
  have hb : floatBits .mul .f32 pl (floatOfInt .f32 (n : Int)) = some (FloatKind.f32.format.nearest (s ^^ t) (m * q) (i + j)) := by
    simp only [floatBits, Ieee.Format.mul, hr, hr2, Ieee.Datum.product, Option.map_some]; rfl
  have hfp : fop .mul .f32 pl (floatOfInt .f32 (n : Int)) = FloatKind.f32.format.nearest (s ^^ t) (m * q) (i + j) := by
    unfold fop; rw [hb]; exact can_of_not (isNan_nearest _ _ _ _)
  refine ⟨by rw [hfp]; exact isNan_nearest _ _ _ _, ?_⟩
  have key : 0 ≤ val .f32 (fop .mul .f32 pl (floatOfInt .f32 (n : Int))) ∧ val .f32 (fop .mul .f32 pl (floatOfInt .f32 (n : Int))) ≤ 4096 * one32 := by
    rw [hfp]
    by_cases h : m * q = 0
    · rw [h, show FloatKind.f32.format.nearest (s ^^ t) 0 (i + j) = FloatKind.f32.format.word (s ^^ t) 0 by simp [Ieee.Format.nearest], val_word _ (by decide), show rv 0 = 0 by decide]
      have : 0 ≤ 4096 * one32 := Int.mul_nonneg (by omega) (by omega)
      cases (s ^^ t)
      · exact ⟨by simp, by simpa using this⟩
      · exact ⟨by simp, by simpa using this⟩
    · have m0 : m ≠ 0 := fun e => h (by rw [e, Nat.zero_mul])
      have q0 : q ≠ 0 := fun e => h (by rw [e, Nat.mul_zero])
      obtain ⟨rfl, a1⟩ := hm m0
      obtain ⟨rfl, a2⟩ := hq q0
      have hl := log2_mul_le m0 q0
      obtain ⟨v, hv3, hle⟩ := near_le (e := i + j) (A := 12) (false ^^ false) h (by omega) (by omega) (by omega)
      rw [hv3]
      have e2 : (4096 : Int) * one32 = 2 ^ 161 := by decide
      have hle' : v ≤ 2 ^ 161 := hle
      rw [e2]
      exact ⟨by simp, by simp only [Bool.xor_false, Bool.false_eq_true, if_false]; exact_mod_cast hle'⟩
  exact ⟨key.1, key.2, fmul_comm hr2 hr⟩
/-- The place of a bow: the share that goes to the bridge. -/
def bowN (pl n : Nat) : Nat := min (max (wholeW (fop .mul .f32 pl (floatOfInt .f32 (n : Int)))) 1) (n - 1)
end Go.Fk

/- Powers of 2 in wide numbers: the sum, and its bounds. Nothing here names a program. -/
namespace Go.Fk
open Go Go.RowKit
def pwD (x : Nat) : Nat := fop .sub .f64 (widen x) (integ .down (widen x))
def pwY (x : Nat) : Nat := fop .mul .f64 (pwD x) 4604418534313441775
/-- The sum behind j of the 14 steps. -/
def pwS (y : Nat) : Nat → Nat
  | 0 => 4607182418800017408
  | j + 1 => fop .add .f64 4607182418800017408 (fop .mul .f64 (fop .quo .f64 y (floatOfInt .f64 (14 - (j : Int)))) (pwS y j))
/-- The greatest whole number that is at most x. -/
def pwQ (x : Nat) : Int := val .f64 (widen x) / 2 ^ 1074
def pwV (x : Nat) : Nat := can .f32 (narrow ((pwS (pwY x) 14 : Int) + pwQ x * 4503599627370496).toNat)
theorem int_read {j : Int} (h1 : 1 ≤ j) (h2 : j ≤ 14) : ∃ m e, FloatKind.f64.format.read (floatOfInt .f64 j) = .number false m e ∧ m ≠ 0 ∧ (0 : Int) ≤ e + m.log2 ∧ (2 ≤ j → (1 : Int) ≤ e + m.log2) := by
  have c : j = 1 ∨ j = 2 ∨ j = 3 ∨ j = 4 ∨ j = 5 ∨ j = 6 ∨ j = 7 ∨ j = 8 ∨ j = 9 ∨ j = 10 ∨ j = 11 ∨ j = 12 ∨ j = 13 ∨ j = 14 := by omega
  rcases c with rfl | rfl | rfl | rfl | rfl | rfl | rfl | rfl | rfl | rfl | rfl | rfl | rfl | rfl
  · exact ⟨4503599627370496, -52, by decide +kernel, by decide, by decide +kernel, by decide +kernel⟩
  · exact ⟨4503599627370496, -51, by decide +kernel, by decide, by decide +kernel, by decide +kernel⟩
  · exact ⟨6755399441055744, -51, by decide +kernel, by decide, by decide +kernel, by decide +kernel⟩
  · exact ⟨4503599627370496, -50, by decide +kernel, by decide, by decide +kernel, by decide +kernel⟩
  · exact ⟨5629499534213120, -50, by decide +kernel, by decide, by decide +kernel, by decide +kernel⟩
  · exact ⟨6755399441055744, -50, by decide +kernel, by decide, by decide +kernel, by decide +kernel⟩
  · exact ⟨7881299347898368, -50, by decide +kernel, by decide, by decide +kernel, by decide +kernel⟩
  · exact ⟨4503599627370496, -49, by decide +kernel, by decide, by decide +kernel, by decide +kernel⟩
  · exact ⟨5066549580791808, -49, by decide +kernel, by decide, by decide +kernel, by decide +kernel⟩
  · exact ⟨5629499534213120, -49, by decide +kernel, by decide, by decide +kernel, by decide +kernel⟩
  · exact ⟨6192449487634432, -49, by decide +kernel, by decide, by decide +kernel, by decide +kernel⟩
  · exact ⟨6755399441055744, -49, by decide +kernel, by decide, by decide +kernel, by decide +kernel⟩
  · exact ⟨7318349394477056, -49, by decide +kernel, by decide, by decide +kernel, by decide +kernel⟩
  · exact ⟨7881299347898368, -49, by decide +kernel, by decide, by decide +kernel, by decide +kernel⟩
theorem one_nrm : (4607182418800017408 : Nat) = nrm 1023 0 := by decide
theorem pwS_nv {y : Nat} (hy : nv y 0) : ∀ j, j ≤ 13 → nv (pwS y j) 1 := by
  intro j
  induction j with
  | zero =>
    intro _
    exact ⟨false, 4503599627370496, -52, by show FloatKind.f64.format.read 4607182418800017408 = _; decide, fun _ => ⟨rfl, .inl (by decide +kernel)⟩⟩
  | succ j ih =>
    intro hj
    obtain ⟨m, e, hr, hm, _, h2⟩ := int_read (j := 14 - (j : Int)) (by omega) (by omega)
    have q := nv_quo hy ⟨m, e, hr, hm, h2 (by omega)⟩ (by decide) (by decide)
    have p := nv_mul q (ih (by omega)) (by decide) (by decide)
    obtain ⟨E, f, he, _, _, _, hn⟩ := one_nv (p.mono (B := 0) (by decide)) (by decide) (by decide)
    show nv (fop .add .f64 4607182418800017408 _) 1
    rw [he]
    exact hn
theorem pwS_nrm {y : Nat} (hy : nv y 0) : ∃ E f, pwS y 14 = nrm E f ∧ f < 4503599627370496 ∧ 1023 ≤ E ∧ E ≤ 1025 := by
  obtain ⟨m, e, hr, hm, h1, _⟩ := int_read (j := 14 - ((13 : Nat) : Int)) (by decide) (by decide)
  have q := nv_quo hy ⟨m, e, hr, hm, h1⟩ (by decide) (by decide)
  have p := nv_mul q (pwS_nv hy 13 (by omega)) (by decide) (by decide)
  obtain ⟨E, f, he, hf, h2, h3, _⟩ := one_nv (p.mono (B := 1) (by decide)) (by decide) (by decide)
  refine ⟨E, f, he, hf, h2, by omega⟩
theorem pw_vals : val .f32 3270508544 = -120 * 2 ^ 149 ∧ isNan .f32 3270508544 = false ∧ val .f32 1123024896 = 120 * 2 ^ 149 ∧ isNan .f32 1123024896 = false := by decide +kernel
theorem far_120 : (121 : Int) * 2 ^ 149 < (far : Int) := by decide +kernel
theorem i64_min : IntKind.i64.min = -9223372036854775808 := by decide
theorem i64_max : IntKind.i64.max = 9223372036854775807 := by decide
/-- What is known of a power that is asked within the range. -/
theorem pw_ok {x : Nat} (h : withinB x 3270508544 1123024896 = true) :
    (∃ E f, pwS (pwY x) 14 = nrm E f ∧ f < 4503599627370496 ∧ 1023 ≤ E ∧ E ≤ 1025) ∧ -120 ≤ pwQ x ∧ pwQ x ≤ 120 ∧ isNan .f64 (integ .down (widen x)) = false ∧ floatToIntVal .f64 (integ .down (widen x)) .i64 = some (pwQ x) := by
  obtain ⟨v1, n1, v2, n2⟩ := pw_vals
  obtain ⟨hn, h1, h2⟩ := within_val n1 n2 h
  rw [v1] at h1
  rw [v2] at h2
  have hf := far_120
  have hU : (0 : Int) < 2 ^ 149 := Int.pow_pos (by omega)
  obtain ⟨s, m, e, hr⟩ := finite_num hn (by generalize (2 : Int) ^ 149 = U at *; omega) (by generalize (2 : Int) ^ 149 = U at *; omega)
  have hv := val64_widen hr
  obtain ⟨j, e', hw, _, _⟩ := read_widen hr
  obtain ⟨hfl, Bd, hB⟩ := val_floor hw
  have hS : (0 : Int) < 2 ^ 925 := Int.pow_pos (by omega)
  have hX : pwQ x = val .f32 x / 2 ^ 149 := by
    unfold pwQ
    rw [hv, show (2 : Int) ^ 1074 = 2 ^ 149 * 2 ^ 925 by rw [← Int.pow_add]]
    exact Int.mul_ediv_mul_of_pos_left _ _ hS
  have q1 : -120 ≤ pwQ x := by
    rw [hX]
    have := Int.ediv_le_ediv hU h1
    rwa [Int.mul_ediv_cancel _ (by omega)] at this
  have q2 : pwQ x ≤ 120 := by
    rw [hX]
    have := Int.ediv_le_ediv hU h2
    rwa [Int.mul_ediv_cancel _ (by omega)] at this
  have hni : isNan .f64 (integ .down (widen x)) = false := by
    obtain ⟨s', m', e'', hr', _⟩ := hB
    simp [isNan, hr', Ieee.Datum.isNaN]
  have hU64 : (0 : Int) < 2 ^ 1074 := Int.pow_pos (by omega)
  have hQ : val .f64 (integ .down (widen x)) = pwQ x * 2 ^ 1074 := hfl
  refine ⟨?_, q1, q2, hni, ?_⟩
  · refine pwS_nrm ?_
    have hD : nv (pwD x) 0 := by
      obtain ⟨t, n, i, hrk, _⟩ := hB
      have hb : floatBits .sub .f64 (widen x) (integ .down (widen x)) = some (FloatKind.f64.format.nearest (if Ieee.signed s (m * 2 ^ j) (e' - min e' i).toNat + Ieee.signed (!t) n (i - min e' i).toNat = 0 then s && !t else decide (Ieee.signed s (m * 2 ^ j) (e' - min e' i).toNat + Ieee.signed (!t) n (i - min e' i).toNat < 0)) (Ieee.signed s (m * 2 ^ j) (e' - min e' i).toNat + Ieee.signed (!t) n (i - min e' i).toNat).natAbs (min e' i)) := by
        simp only [floatBits, Ieee.Format.sub, hw, hrk, Ieee.Datum.opposite, Ieee.Datum.sum, Option.map_some]; rfl
      have pi := (read64 hw).1
      have pj := (read64 hrk).1
      have vx : val .f64 (widen x) = Ieee.signed s (m * 2 ^ j) (e' + 1074).toNat := by simp only [val, hw]; rfl
      have vy : val .f64 (integ .down (widen x)) = Ieee.signed t n (i + 1074).toNat := by simp only [val, hrk]; rfl
      have hneg : Ieee.signed (!t) n (i - min e' i).toNat = -Ieee.signed t n (i - min e' i).toNat := by
        unfold Ieee.signed; cases t <;> simp
      have e1 : val .f64 (widen x) - val .f64 (integ .down (widen x)) = (Ieee.signed s (m * 2 ^ j) (e' - min e' i).toNat + Ieee.signed (!t) n (i - min e' i).toNat) * 2 ^ (min e' i + 1074).toNat := by
        rw [hneg, vx, vy, signed_eq, signed_eq, signed_eq, signed_eq, Int.add_mul, Int.neg_mul, Int.mul_assoc, Int.mul_assoc, ← Int.pow_add, ← Int.pow_add]
        rw [show (e' - min e' i).toNat + (min e' i + 1074).toNat = (e' + 1074).toNat by omega, show (i - min e' i).toNat + (min e' i + 1074).toNat = (i + 1074).toNat by omega]
        omega
      have hmod : val .f64 (widen x) - val .f64 (integ .down (widen x)) = val .f64 (widen x) % 2 ^ 1074 := by
        rw [hQ]; unfold pwQ
        rw [Int.emod_def, Int.mul_comm]
      have d0 : 0 ≤ val .f64 (widen x) - val .f64 (integ .down (widen x)) := by rw [hmod]; exact Int.emod_nonneg _ (Int.ne_of_gt hU64)
      have d1 : val .f64 (widen x) - val .f64 (integ .down (widen x)) < 2 ^ 1074 := by rw [hmod]; exact Int.emod_lt_of_pos _ hU64
      have d2 : ∀ N : Nat, val .f64 (widen x) - val .f64 (integ .down (widen x)) < (2 : Int) ^ N → (val .f64 (widen x) - val .f64 (integ .down (widen x))).natAbs < 2 ^ N := fun N h => by
        have h2 : ((val .f64 (widen x) - val .f64 (integ .down (widen x))).natAbs : Int) < ((2 ^ N : Nat) : Int) := by
          rw [Int.natCast_pow]
          show _ < (2 : Int) ^ N
          omega
        exact Int.ofNat_lt.1 h2
      have e9 : ((0 : Int) + 1074).toNat = 1074 := by decide
      have d3 := d2 _ d1
      rw [← e9] at d3
      have hpl := fun h0 => diff_place (A := 0) hw hrk (by decide) d3 h0
      have hT : 0 ≤ Ieee.signed s (m * 2 ^ j) (e' - min e' i).toNat + Ieee.signed (!t) n (i - min e' i).toNat := by
        rw [e1] at d0
        exact Int.nonneg_of_mul_nonneg_left d0 (Int.pow_pos (by omega))
      generalize Ieee.signed s (m * 2 ^ j) (e' - min e' i).toNat + Ieee.signed (!t) n (i - min e' i).toNat = T at *
      have key : nv (FloatKind.f64.format.nearest (if T = 0 then s && !t else decide (T < 0)) T.natAbs (min e' i)) 0 := nv_near (fun h0 => ⟨by rw [if_neg (by omega)]; exact decide_eq_false (by omega), .inl (hpl h0)⟩) (by decide) (by decide)
      unfold pwD
      rw [fop_some hb key.lt.notNan]
      exact key
    have hl : nv 4604418534313441775 0 := ⟨false, 6243314768165359, -53, by decide +kernel, fun _ => ⟨rfl, .inl (by decide +kernel)⟩⟩
    exact nv_mul hD hl (by decide) (by decide)
  · have f1 := far64
    have f2 := far64'
    have key := floatToInt_val (k := .i64) hni (by
      rw [i64_min]; show (-9223372036854775808 : Int) * 2 ^ 1074 ≤ _
      rw [hQ]; exact Int.mul_le_mul_of_nonneg_right (by omega) (Int.le_of_lt hU64)) (by
      rw [i64_max]; show _ ≤ (9223372036854775807 : Int) * 2 ^ 1074
      rw [hQ]; exact Int.mul_le_mul_of_nonneg_right (by omega) (Int.le_of_lt hU64)) f1 f2
    rw [key, hQ, show (2 : Int) ^ unitOf .f64 = 2 ^ 1074 from rfl, Int.mul_tdiv_cancel _ (by omega)]
/-- The word of a normal number times a power of 2. -/
theorem nrm_shift {E f : Nat} {q : Int} (h : 0 ≤ (E : Int) + q) : ((nrm E f : Int) + q * 4503599627370496).toNat = nrm (E + q).toNat f := by unfold nrm; omega
theorem nrm_narrowable {E f : Nat} (h1 : 1 ≤ E) (h2 : E ≤ 1148) (hf : f < 4503599627370496) : narrowable (nrm E f) :=
  .inr (.inr ⟨_, _, _, nrm_read h1 (by omega) hf, fun _ => by rw [nrm_log hf]; omega⟩)
theorem pwV_eq {x E f : Nat} (he : pwS (pwY x) 14 = nrm E f) (h : 0 ≤ (E : Int) + pwQ x) : pwV x = can .f32 (narrow (nrm (E + pwQ x).toNat f)) := by
  unfold pwV; rw [he, nrm_shift h]
theorem pw_congr {x y : Nat} (h : can .f32 x = can .f32 y) : pwY x = pwY y ∧ pwQ x = pwQ y ∧ pwV x = pwV y := by
  have hw := widen_congr h
  have e1 : pwY x = pwY y := by unfold pwY pwD; rw [hw]
  have e2 : pwQ x = pwQ y := by unfold pwQ; rw [hw]
  exact ⟨e1, e2, by unfold pwV; rw [e1, e2]⟩
end Go.Fk

/- What math.Float64bits, math.Float64frombits and math.Abs give. -/
namespace Go.Fk
open Go Go.RowKit
theorem andNot_sign (x : Nat) (hx : fits .f64 x) : (bits .andNot .u64 (x : Int) 9223372036854775808).toNat = x % 9223372036854775808 := by
  have h : x < 18446744073709551616 := by simp only [fits, Lit.wf, decide_eq_true_eq] at hx; omega
  have h1 := u64_andNot_nat x 9223372036854775808 (by omega) (by omega)
  rw [show ((9223372036854775808 : Nat) : Int) = 9223372036854775808 by rfl] at h1
  rw [h1, Int.toNat_natCast]
  exact Nat.and_two_pow_sub_one_eq_mod x 63
end Go.Fk
namespace Go.Proofs.Yteblmkamopfkiaa
open Go.RowKit Go.Fk
@[go_sem] theorem run_f64bits (x : Nat) (w : World) : (callFunc 92 #[.float .f64 x]).run Try.prog w = .ok (.value (.int .u64 x)) w := by
  rw [run_callFunc_extern (e := Extern.MathFloatBits.float64bits) Try.func92 (by kernel_rfl) (by kernel_rfl) (by kernel_rfl) (by kernel_rfl)]; rfl
@[go_sem] theorem run_f64from (x : Int) (w : World) : (callFunc 91 #[.int .u64 x]).run Try.prog w = .ok (.value (.float .f64 x.toNat)) w := by
  rw [run_callFunc_extern (e := Extern.MathFloatBits.float64frombits) Try.func91 (by kernel_rfl) (by kernel_rfl) (by kernel_rfl) (by kernel_rfl)]; rfl
theorem abs64 (x : Nat) (w : World) (hx : fits .f64 x) : Calls Try.prog 76 #[.float .f64 x] w fun e w' => e = .returned (.float .f64 (x % 9223372036854775808)) ∧ w = w' := by
  have hn := andNot_sign x hx
  go_enter Try.func76, Try.ntmps76
  go_wp2
  go_ret
  exact ⟨rfl, rfl⟩
end Go.Proofs.Yteblmkamopfkiaa

/- The contracts of 'SineOf'. -/
namespace Go.Fk
open Go Go.RowKit
/-- The part of a turn. -/
def frS (x : Nat) : Nat := fop .sub .f64 (widen x) (integ .down (widen x))
theorem frS_le {x : Nat} (h : fin x = true) : leV (frS x) 0 := by
  cases hr : FloatKind.f32.format.read x with
  | nan s t => simp [fin, hr] at h
  | infinity s => simp [fin, hr] at h
  | number s m e =>
    obtain ⟨j, e', h1, _, _⟩ := read_widen hr
    obtain ⟨h2, h3⟩ := val_floor h1
    refine sub_leV ⟨_, _, _, _, h1, fun _ => Int.le_refl _⟩ h3 (by omega) ?_ (fine64 (by omega) (by omega))
    rw [h2, show ((0 : Int) + 1074).toNat = 1074 by decide]
    have hU : (0 : Int) < 2 ^ 1074 := Int.pow_pos (by omega)
    have hU2 : ((2 ^ 1074 : Nat) : Int) = 2 ^ 1074 := Int.natCast_pow 2 1074
    generalize (2 : Nat) ^ 1074 = UN at *
    generalize (2 : Int) ^ 1074 = U at *
    have := Int.emod_add_ediv_mul (val .f64 (widen x)) U
    have h4 := Int.emod_nonneg (val .f64 (widen x)) (show U ≠ 0 by omega)
    have h5 := Int.emod_lt_of_pos (val .f64 (widen x)) hU
    omega
/-- Is it in the second half? -/
def negS (x : Nat) : Bool := FloatKind.f64.format.order (frS x) 4602678819172646912 == some .gt || FloatKind.f64.format.order (frS x) 4602678819172646912 == some .eq
def f1S (x : Nat) : Nat := if negS x = true then fop .sub .f64 (frS x) 4602678819172646912 else frS x
def f2S (x : Nat) : Nat := if (FloatKind.f64.format.order (f1S x) 4598175219545276416 == some .gt) = true then fop .sub .f64 4602678819172646912 (f1S x) else f1S x
def xS (x : Nat) : Nat := fop .mul .f64 4618760256179416344 (f2S x)
def yS (x : Nat) : Nat := fop .mul .f64 (xS x) (xS x)
def denS (k : Nat) : Nat := floatOfInt .f64 (wrap64 (2 * (8 - (k : Int)) * (2 * (8 - (k : Int)) + 1)))
def tS (x : Nat) : Nat → Nat
  | 0 => 4607182418800017408
  | k + 1 => fop .sub .f64 4607182418800017408 (fop .mul .f64 (fop .quo .f64 (yS x) (denS k)) (tS x k))
def sS (x : Nat) : Nat := fop .mul .f64 (tS x 8) (xS x)
def sgS (x : Nat) : Nat := if negS x = true then neg .f64 (sS x) else sS x
/-- The sine of turns, up to the bits of NaN. -/
def sineW (x : Nat) : Nat := if fin x = true then can .f32 (narrow (sgS x)) else qnan .f32

theorem pow_two_up (n : Nat) : 2 ^ (n + 2) = 4 * 2 ^ n := by rw [Nat.pow_add]; omega
theorem half_le : leV 4602678819172646912 (-1) ∧ val .f64 4602678819172646912 = 2 * 2 ^ 1072 := by
  refine ⟨⟨⟨false, 4503599627370496, -53, by decide, by decide⟩, ?_⟩, ?_⟩ <;> decide +kernel
theorem quarter_val : val .f64 4598175219545276416 = 2 ^ 1072 ∧ isNan .f64 4598175219545276416 = false := by
  refine ⟨?_, ?_⟩ <;> decide +kernel
theorem order_gt {a b : Nat} (ha : isNan .f64 a = false) (hb : isNan .f64 b = false) : (FloatKind.f64.format.order a b == some .gt) = true ↔ val .f64 b < val .f64 a := by
  rw [order_val ha hb, beq_iff_eq, Option.some.injEq]
  exact Int.compare_eq_gt
theorem order_eq2 {a b : Nat} (ha : isNan .f64 a = false) (hb : isNan .f64 b = false) : (FloatKind.f64.format.order a b == some .eq) = true ↔ val .f64 a = val .f64 b := by
  rw [order_val ha hb, beq_iff_eq, Option.some.injEq]
  exact Int.compare_eq_eq
theorem f1S_le {x : Nat} (h : fin x = true) : leV (f1S x) 0 := by
  have hf := frS_le h
  have hh := half_le
  unfold f1S
  split
  · rename_i hn
    refine sub_leV ⟨_, hf.1⟩ ⟨_, hh.1.1⟩ (by omega) ?_ (fine64 (by omega) (by omega))
    have hv : val .f64 4602678819172646912 ≤ val .f64 (frS x) := by
      unfold negS at hn
      rw [Bool.or_eq_true, order_gt hf.1.notNan hh.1.1.notNan, order_eq2 hf.1.notNan hh.1.1.notNan] at hn
      omega
    have h2 := hf.2
    rw [hh.2] at hv ⊢
    rw [show ((0 : Int) + 1074).toNat = 1072 + 2 by rfl, pow_two_up 1072] at h2 ⊢
    have e : ((2 ^ 1072 : Nat) : Int) = 2 ^ 1072 := Int.natCast_pow 2 1072
    have e0 := Nat.two_pow_pos 1072
    generalize (2 : Nat) ^ 1072 = UN at *
    generalize (2 : Int) ^ 1072 = U at *
    omega
  · exact hf
theorem f2S_le {x : Nat} (h : fin x = true) : leV (f2S x) 0 := by
  have hf := f1S_le h
  have hh := half_le
  unfold f2S
  split
  · rename_i hn
    refine sub_leV ⟨_, hh.1.1⟩ ⟨_, hf.1⟩ (by omega) ?_ (fine64 (by omega) (by omega))
    rw [order_gt hf.1.notNan quarter_val.2, quarter_val.1] at hn
    have h2 := hf.2
    rw [hh.2]
    rw [show ((0 : Int) + 1074).toNat = 1072 + 2 by rfl, pow_two_up 1072] at h2 ⊢
    have e : ((2 ^ 1072 : Nat) : Int) = 2 ^ 1072 := Int.natCast_pow 2 1072
    have e0 := Nat.two_pow_pos 1072
    generalize (2 : Nat) ^ 1072 = UN at *
    generalize (2 : Int) ^ 1072 = U at *
    omega
  · exact hf
theorem fop_lt {op : BinOp} {a b : Nat} {C : Int} (h : ∃ r, floatBits op .f64 a b = some r ∧ lt .f64 r C) : lt .f64 (fop op .f64 a b) C := by
  obtain ⟨r, h1, h2⟩ := h
  unfold fop
  rw [h1]
  simp only
  rw [can_of_not h2.notNan]
  exact h2
theorem xS_lt {x : Nat} (h : fin x = true) : lt .f64 (xS x) 5 :=
  (fop_lt (lt_mul (A := 3) (B := 1) ⟨false, 7074237752028440, -50, by decide, by decide⟩ (f2S_le h).1 (fine64 (by omega) (by omega)))).mono (by omega)
theorem yS_lt {x : Nat} (h : fin x = true) : lt .f64 (yS x) 11 :=
  (fop_lt (lt_mul (A := 5) (B := 5) (xS_lt h) (xS_lt h) (fine64 (by omega) (by omega)))).mono (by omega)
theorem denS_ge {k : Nat} (h : k < 8) : ge .f64 (denS k) 2 := by
  have key : ∀ k : Fin 8, (match FloatKind.f64.format.read (denS k) with | .number _ m e => decide (m ≠ 0 ∧ 2 ≤ e + m.log2) | _ => false) = true := by decide +kernel
  have hk := key ⟨k, h⟩
  simp only at hk
  cases hr : FloatKind.f64.format.read (denS k) with
  | nan s t => rw [hr] at hk; cases hk
  | infinity s => rw [hr] at hk; cases hk
  | number s m e =>
    rw [hr] at hk
    simp only [decide_eq_true_eq] at hk
    exact ⟨s, m, e, hr, hk.1, hk.2⟩
theorem one_lt : lt .f64 4607182418800017408 1 := ⟨false, 4503599627370496, -52, by decide, by decide⟩
theorem qS_lt {x : Nat} (h : fin x = true) {k : Nat} (hk : k < 8) : lt .f64 (fop .quo .f64 (yS x) (denS k)) 11 :=
  (fop_lt (lt_quo (A := 11) (C := 2) (yS_lt h) (denS_ge hk) (fine64 (by omega) (by omega)))).mono (by omega)
theorem tS_lt {x : Nat} (h : fin x = true) (k : Nat) (hk : k ≤ 8) : lt .f64 (tS x k) (1 + 14 * k) := by
  induction k with
  | zero => exact one_lt
  | succ k ih =>
    have h1 := ih (by omega)
    have h2 := (fop_lt (lt_mul (qS_lt h (show k < 8 by omega)) h1 (fine64 (by omega) (by omega)))).mono (B := 13 + 14 * (k : Int)) (by omega)
    exact (fop_lt (lt_sub one_lt h2 (fine64 (by omega) (by omega)))).mono (by push_cast; omega)
theorem sS_lt {x : Nat} (h : fin x = true) : lt .f64 (sS x) 119 :=
  (fop_lt (lt_mul (A := 113) (B := 5) (tS_lt h 8 (by omega)) (xS_lt h) (fine64 (by omega) (by omega)))).mono (by omega)
theorem lt_neg {b : Nat} {A : Int} (h : lt .f64 b A) : lt .f64 (neg .f64 b) A := by
  obtain ⟨s, m, e, hr, hm⟩ := h
  have hx : neg .f64 b % FloatKind.f64.format.signWeight = b % FloatKind.f64.format.signWeight := xor_mod b 63
  unfold Ieee.Format.read at hr
  dsimp only at hr
  rw [← hx] at hr
  have key : ∃ s', FloatKind.f64.format.read (neg .f64 b) = .number s' m e := by
    unfold Ieee.Format.read
    dsimp only
    split
    · rename_i h1
      rw [if_pos h1] at hr
      simp only [Ieee.Datum.number.injEq] at hr ⊢
      exact ⟨_, rfl, hr.2⟩
    · rename_i h1
      rw [if_neg h1] at hr
      split
      · rename_i h2
        rw [if_pos h2] at hr
        simp only [Ieee.Datum.number.injEq] at hr ⊢
        exact ⟨_, rfl, hr.2⟩
      · rename_i h2
        rw [if_neg h2] at hr
        split at hr <;> cases hr
  obtain ⟨s', hs⟩ := key
  exact ⟨s', m, e, hs, hm⟩
theorem lt.narrowX {b : Nat} (h : lt .f64 b 126) : narrowableX b := by
  intro s m e hr
  obtain ⟨s', m', e', hr', hm⟩ := h
  rw [hr] at hr'
  cases hr'
  exact (lt_encode (k := .f32) (s := s) hm (fine32 (by omega) (by omega))).notInf
theorem wide_read {x r : Nat} (hx : fin x = true) (h : Hid (can .f64 r = can .f64 (widen x))) : ∃ s m e, FloatKind.f64.format.read r = .number s m e := by
  cases hr : FloatKind.f32.format.read x with
  | nan s t => simp [fin, hr] at hx
  | infinity s => simp [fin, hr] at hx
  | number s m e =>
    obtain ⟨j, e', h1, _, _⟩ := read_widen hr
    have : r = widen x := (eq_of_can h.out.symm (by simp [isNan, h1, Ieee.Datum.isNaN])).symm
    rw [this]
    exact ⟨_, _, _, h1⟩
theorem wide_num {x r : Nat} (hx : fin x = true) (h : Hid (can .f64 r = can .f64 (widen x))) : isNan .f64 r = false := by
  obtain ⟨s, m, e, hr⟩ := wide_read hx h
  simp [isNan, hr, Ieee.Datum.isNaN]
theorem wide_fin {x r : Nat} (hx : fin x = true) (h : Hid (can .f64 r = can .f64 (widen x))) : (FloatKind.f64.format.read r).isInfinity = false := by
  obtain ⟨s, m, e, hr⟩ := wide_read hx h
  simp [hr, Ieee.Datum.isInfinity]
theorem notInf_order {x : Nat} (hi : (FloatKind.f64.format.read x).isInfinity = false) (hn : isNan .f64 x = false) : (FloatKind.f64.format.order (x % 9223372036854775808) 9218868437227405311 == some .gt) = false := by
  cases hr : FloatKind.f64.format.read x with
  | nan s t => simp [isNan, hr, Ieee.Datum.isNaN] at hn
  | infinity s => rw [hr] at hi; simp [Ieee.Datum.isInfinity] at hi
  | number s m e =>
    obtain ⟨b1, b2, b3, b4, b5⟩ := bits64
    have h1 := read_mod hr
    rw [b4] at h1
    have n1 : isNan .f64 (x % 9223372036854775808) = false := by simp [isNan, h1, Ieee.Datum.isNaN]
    have n2 : isNan .f64 9218868437227405311 = false := by decide
    cases ho : (FloatKind.f64.format.order (x % 9223372036854775808) 9218868437227405311 == some .gt)
    · rfl
    · rw [order_gt n1 n2] at ho
      have hM : FloatKind.f64.format.read 9218868437227405311 = .number false 9007199254740991 971 := by decide
      have v1 : val .f64 9218868437227405311 = Ieee.signed false 9007199254740991 2045 := by simp only [val, hM]; rfl
      have v2 : val .f64 (x % 9223372036854775808) = Ieee.signed false m (e + 1074).toNat := by simp only [val, h1]; rfl
      generalize hZ : (2045 : Nat) = Z at v1
      rw [v1, v2, signed_eq, signed_eq] at ho
      simp only [Bool.false_eq_true, if_false] at ho
      obtain ⟨p1, p2⟩ := read64 hr
      exfalso
      have hle : m * 2 ^ (e + 1074).toNat ≤ 9007199254740991 * 2 ^ Z := by
        by_cases m0 : m = 0
        · subst m0; rw [Nat.zero_mul]; exact Nat.zero_le _
        · obtain ⟨q1, q2⟩ := p2 m0
          have hm : m ≤ 9007199254740991 := by
            have := @Nat.lt_log2_self m
            have h2 : 2 ^ (m.log2 + 1) ≤ 2 ^ 53 := Nat.pow_le_pow_right (by omega) (by omega)
            omega
          by_cases he : e ≤ 971
          · have hz : (e + 1074).toNat ≤ Z := by omega
            exact Nat.mul_le_mul hm (Nat.pow_le_pow_right (by omega) hz)
          · have h3 : m < 2 ^ (m.log2 + 1) := Nat.lt_log2_self
            have h4 : m * 2 ^ (e - 971).toNat < 2 ^ 53 := by
              calc m * 2 ^ (e - 971).toNat < 2 ^ (m.log2 + 1) * 2 ^ (e - 971).toNat := Nat.mul_lt_mul_of_pos_right h3 (Nat.two_pow_pos _)
                _ = 2 ^ (m.log2 + 1 + (e - 971).toNat) := by rw [← Nat.pow_add]
                _ ≤ 2 ^ 53 := Nat.pow_le_pow_right (by omega) (by omega)
            rw [show (e + 1074).toNat = (e - 971).toNat + Z by omega, Nat.pow_add, ← Nat.mul_assoc]
            exact Nat.mul_le_mul_right _ (by omega)
      have hle2 : ((m * 2 ^ (e + 1074).toNat : Nat) : Int) ≤ ((9007199254740991 * 2 ^ Z : Nat) : Int) := Int.ofNat_le.2 hle
      rw [Int.natCast_mul, Int.natCast_mul, Int.natCast_pow, Int.natCast_pow] at hle2
      exact absurd ho (Int.not_lt.2 hle2)
/-- A fresh pair, written. -/
theorem two_cells (w : World) (n : Nat) (old : Array Value) (u v : Value) (t : TypeId) : ∃ W, W = ((w.drewN n).alloc (.cells old t)).setRow w.heap.size #[u, v] ∧ Row W w.heap.size t #[u, v] ∧ True ∧ Below w.heap.size w W := by
  refine ⟨_, rfl, ?_, trivial, ?_⟩
  · exact (Row.new' _ _ _ (by simp)).setRow _
  · exact below_setRow ((below_drewN (Below.refl _ _) n).alloc (by simp) _) (by omega) _
def FloorRes (b r : Nat) : Prop := can .f64 r = can .f64 (integ .down b) ∧ fits .f64 r
theorem eq_fop {op : BinOp} {a b r : Nat} {C : Int} (h : can .f64 r = fop op .f64 a b) (hl : lt .f64 (fop op .f64 a b) C) : r = fop op .f64 a b := by
  refine (eq_of_can (k := .f64) ?_ hl.notNan).symm
  rw [h]; exact can_of_not hl.notNan
theorem frS_eq {x r s1 s2 fr : Nat} (hx : fin x = true) (hr : Hid (can .f64 r = fop .sub .f64 s1 fr)) (h1 : Hid (can .f64 s1 = can .f64 (widen x))) (hf : Hid (FloorRes s2 fr)) (h2 : Hid (can .f64 s2 = can .f64 (widen x))) : r = frS x := by
  have e : fop .sub .f64 s1 fr = frS x := fop_congr h1.out (by rw [hf.out.1, ← integ_can, h2.out, integ_can])
  have h := hr.out
  rw [e] at h
  exact eq_fop h (frS_le hx).1
theorem neg_yes {x r : Nat} (e : r = frS x) (h : (FloatKind.f64.format.order r 4602678819172646912 == some .gt) = true ∨ (FloatKind.f64.format.order r 4602678819172646912 == some .eq) = true) : negS x = true := by
  subst e; unfold negS; rw [Bool.or_eq_true]; exact h
theorem neg_no {x r : Nat} (e : r = frS x) (h : (FloatKind.f64.format.order r 4602678819172646912 == some .gt) = false ∧ (FloatKind.f64.format.order r 4602678819172646912 == some .eq) = false) : negS x = false := by
  subst e; unfold negS; rw [Bool.or_eq_false_iff]; exact h
theorem f1_neg {x r0 r1 : Nat} (hx : fin x = true) (e : r0 = frS x) (n : negS x = true) (h : Hid (can .f64 r1 = fop .sub .f64 r0 4602678819172646912)) : r1 = f1S x := by
  subst e
  have e : f1S x = fop .sub .f64 (frS x) 4602678819172646912 := if_pos n
  have hl := (f1S_le hx).1
  rw [e] at hl ⊢
  exact eq_fop h.out hl
theorem f1_pos {x r0 : Nat} (e : r0 = frS x) (n : negS x = false) : r0 = f1S x := by
  subst e; exact (if_neg (by rw [n]; simp)).symm
theorem f2_fold {x r0 r1 : Nat} (hx : fin x = true) (e : r0 = f1S x) (n : (FloatKind.f64.format.order r0 4598175219545276416 == some .gt) = true) (h : Hid (can .f64 r1 = fop .sub .f64 4602678819172646912 r0)) : r1 = f2S x := by
  subst e
  have e : f2S x = fop .sub .f64 4602678819172646912 (f1S x) := if_pos n
  have hl := (f2S_le hx).1
  rw [e] at hl ⊢
  exact eq_fop h.out hl
theorem f2_stay {x r0 : Nat} (e : r0 = f1S x) (n : (FloatKind.f64.format.order r0 4598175219545276416 == some .gt) = false) : r0 = f2S x := by
  subst e; exact (if_neg (by rw [n]; simp)).symm
theorem xS_eq {x r0 r : Nat} (hx : fin x = true) (e : r0 = f2S x) (h : Hid (can .f64 r = fop .mul .f64 4618760256179416344 r0)) : r = xS x := by
  subst e; exact eq_fop h.out (xS_lt hx)
theorem yS_eq {x r0 r : Nat} (hx : fin x = true) (e : r0 = xS x) (h : Hid (can .f64 r = fop .mul .f64 r0 r0)) : r = yS x := by
  subst e; exact eq_fop h.out (yS_lt hx)
theorem tS_eq {x q p t k : Nat} (hx : fin x = true) (hk : k < 8) (hq : Hid (can .f64 q = fop .quo .f64 (yS x) (denS k))) (hp : Hid (can .f64 p = fop .mul .f64 q (tS x k))) (ht : Hid (can .f64 t = fop .sub .f64 4607182418800017408 p)) : t = tS x (k + 1) := by
  have e1 := eq_fop hq.out (qS_lt hx hk)
  subst e1
  have h1 := tS_lt hx k (by omega)
  have e2 := eq_fop hp.out (fop_lt (lt_mul (qS_lt hx hk) h1 (fine64 (by omega) (by omega))))
  subst e2
  exact eq_fop ht.out (tS_lt hx (k + 1) (by omega))
theorem nar_s {x s : Nat} (hx : fin x = true) (h : Hid (can .f64 s = fop .mul .f64 (tS x 8) (xS x))) : narrowableX s := by
  have e : s = sS x := eq_fop h.out (sS_lt hx)
  rw [e]; exact ((sS_lt hx).mono (by omega)).narrowX
theorem nar_n {x s : Nat} (hx : fin x = true) (h : Hid (can .f64 s = fop .mul .f64 (tS x 8) (xS x))) : narrowableX (neg .f64 s) := by
  have e : s = sS x := eq_fop h.out (sS_lt hx)
  rw [e]; exact (lt_neg ((sS_lt hx).mono (by omega))).narrowX
theorem sine_pos {x s q : Nat} (hx : fin x = true) (n : negS x = false) (h : Hid (can .f64 s = fop .mul .f64 (tS x 8) (xS x))) (hq : Hid (can .f32 q = can .f32 (narrow s))) : can .f32 q = sineW x := by
  have e : s = sS x := eq_fop h.out (sS_lt hx)
  rw [hq.out, e, sineW, if_pos hx, sgS, if_neg (by rw [n]; simp)]
theorem sine_neg {x s q : Nat} (hx : fin x = true) (n : negS x = true) (h : Hid (can .f64 s = fop .mul .f64 (tS x 8) (xS x))) (hq : Hid (can .f32 q = can .f32 (narrow (neg .f64 s)))) : can .f32 q = sineW x := by
  have e : s = sS x := eq_fop h.out (sS_lt hx)
  rw [hq.out, e, sineW, if_pos hx, sgS, if_pos n]
theorem nanX {b : Nat} (h : isNan .f64 b = true) : narrowableX b := by
  intro s m e hr
  simp [isNan, hr, Ieee.Datum.isNaN] at h
theorem narrow_nan {b : Nat} (h : isNan .f64 b = true) : narrow b = qnan .f32 := by
  obtain ⟨s, t, hr⟩ := read_nan h
  simp only [narrow, hr]
/-- What a wide form of what is not finite is. -/
theorem not_fin {x r : Nat} (hx : fin x = false) (h : can .f64 r = can .f64 (widen x)) : isNan .f64 r = true ∨ (isNan .f64 r = false ∧ (FloatKind.f64.format.order (r % 9223372036854775808) 9218868437227405311 == some .gt) = true) := by
  cases hr : FloatKind.f32.format.read x with
  | nan s t =>
    left
    rw [isNan_of_can h]
    have : widen x = qnan .f64 := by simp only [widen, hr]
    rw [this]; exact isNan_qnan .f64
  | infinity s =>
    right
    have e : widen x = FloatKind.f64.encode (.infinity s) := by simp only [widen, hr]
    have hn : isNan .f64 (widen x) = false := by rw [e]; cases s <;> decide
    have e2 : r = widen x := (eq_of_can h.symm hn).symm
    rw [e2, hn, e]
    refine ⟨rfl, ?_⟩
    cases s <;> decide
  | number s m e => simp [fin, hr] at hx
theorem sS_eq {x s : Nat} (hx : fin x = true) (h : Hid (can .f64 s = fop .mul .f64 (tS x 8) (xS x))) : s = sS x := eq_fop h.out (sS_lt hx)
end Go.Fk
namespace Go.Proofs.Yteblmkamopfkiaa
open Go.RowKit Go.Fk
theorem run_arch (b : Nat) (hb : fits .f64 b) (w : World) : ∃ r n, (callFunc 79 #[.float .f64 b]).run Try.prog w = .ok (.value (.float .f64 r)) (w.drewN n) ∧ FloorRes b r := by
  obtain ⟨r, n, h, h2⟩ := run_integral (P := Try.prog) "math.archFloor" .down w b hb
  refine ⟨r, n, ?_, h2⟩
  rw [run_callFunc_extern (e := Extern.MathFloor.toIntegral "math.archFloor" .down) Try.func79 (by kernel_rfl) (by kernel_rfl) (by kernel_rfl) (by kernel_rfl), h]; rfl
theorem arch_any (b : Nat) (hb : Hid (fits .f64 b)) : ∀ w, ∃ r n, (callFunc 79 #[.float .f64 b]).run Try.prog w = .ok (.value (.float .f64 r)) (w.drewN n) ∧ FloorRes b r := run_arch b hb
theorem floor_any (b : Nat) (w : World) (hb : Hid (fits .f64 b)) : Calls Try.prog 50 #[.float .f64 b] w fun e w' => ∃ r n, e = .returned (.float .f64 r) ∧ Hid (FloorRes b r) ∧ w' = w.drewN n := by
  go_enter Try.func50, Try.ntmps50
  go_wp2_with (refine wpList_extern rfl rfl rfl _ (arch_any _ (by assumption)) ?_; intro fr fn hfr)
  go_ret
  exact ⟨_, _, rfl, hfr, rfl⟩
theorem c_IsNaN (x : Nat) (w : World) : Calls Try.prog 93 #[.float .f64 x] w fun e w' => e = .returned (.bool (isNan .f64 x)) ∧ w = w' := by
  go_enter Try.func93, Try.ntmps93
  go_wp2
  go_ret
  exact ⟨rfl, rfl⟩
theorem c_IsInf (x : Nat) (w : World) (hx : fits .f64 x) (hi : (FloatKind.f64.format.read x).isInfinity = false) (hn : isNan .f64 x = false) : Calls Try.prog 94 #[.float .f64 x, .int .i64 0] w fun e w' => e = .returned (.bool false) ∧ w = w' := by
  have ho := notInf_order hi hn
  go_enter Try.func94, Try.ntmps94
  go_wp2_with (go_at_call 76; refine (abs64 _ _ hx).mono ?_; rintro e w' ⟨rfl, rfl⟩)
  go_ret
  exact ⟨rfl, rfl⟩
theorem c_IsInf_yes (x : Nat) (w : World) (hx : fits .f64 x) (ho : (FloatKind.f64.format.order (x % 9223372036854775808) 9218868437227405311 == some .gt) = true) : Calls Try.prog 94 #[.float .f64 x, .int .i64 0] w fun e w' => e = .returned (.bool true) ∧ w = w' := by
  go_enter Try.func94, Try.ntmps94
  go_wp2_with (go_at_call 76; refine (abs64 _ _ hx).mono ?_; rintro e w' ⟨rfl, rfl⟩)
  go_ret
  exact ⟨rfl, rfl⟩
end Go.Proofs.Yteblmkamopfkiaa

/- 'math.Ldexp' of normal numbers. -/
namespace Go.Fk
open Go Go.RowKit
theorem of_canK {k : FloatKind} {a A : Nat} (h : can k a = A) (hn : isNan k A = false) : a = A :=
  (eq_of_can (h.trans (can_of_not hn).symm).symm hn).symm
theorem i64_and2047 (n : Int) : bits .and .i64 n 2047 = n % 2048 := by
  have h127 : (BitVec.ofInt 64 2047).toNat = 2 ^ 11 - 1 := by decide
  have key : (BitVec.ofInt 64 n &&& BitVec.ofInt 64 2047).toNat = (n % ((2 ^ 64 : Nat) : Int)).toNat % 2 ^ 11 := by
    rw [BitVec.toNat_and, BitVec.toNat_ofInt, h127, Nat.and_two_pow_sub_one_eq_mod]
  show IntKind.i64.wrap ((BitVec.ofInt 64 n &&& BitVec.ofInt 64 2047).toNat : Nat) = n % 2048
  rw [key, IntKind.wrap_i64]
  omega
theorem andNot_exp {x : Nat} (h : x < 9223372036854775808) : bits .andNot .u64 (x : Int) 9218868437227405312 = ((x % 4503599627370496 : Nat) : Int) := by
  have h1 := u64_andNot_nat x 9218868437227405312 (by omega) (by omega)
  rw [show ((9218868437227405312 : Nat) : Int) = 9218868437227405312 by rfl] at h1
  rw [h1, show 18446744073709551615 - 9218868437227405312 = 9227875636482146303 by decide]
  congr 1
  have h2 : x &&& 9227875636482146303 < 2 ^ 63 := Nat.lt_of_le_of_lt Nat.and_le_left (Nat.lt_of_lt_of_eq h (by decide))
  have h3 : (x &&& 9227875636482146303) % 2 ^ 63 = (x % 2 ^ 63) &&& (9227875636482146303 % 2 ^ 63) := Nat.and_mod_two_pow
  rw [Nat.mod_eq_of_lt h2, Nat.mod_eq_of_lt (Nat.lt_of_lt_of_eq h (by decide)), show 9227875636482146303 % 2 ^ 63 = 2 ^ 52 - 1 by decide, Nat.and_two_pow_sub_one_eq_mod] at h3
  rw [h3, p52]
theorem or_exp {G f : Nat} (hG : G ≤ 2047) (hf : f < 4503599627370496) : bits .or .u64 (f : Int) ((G : Int) * 4503599627370496) = (nrm G f : Int) := by
  have h1 := u64_or_nat f (G * 4503599627370496) (by omega) (by omega)
  rw [Int.natCast_mul] at h1
  rw [show ((4503599627370496 : Nat) : Int) = 4503599627370496 by rfl] at h1
  rw [h1]
  congr 1
  have h2 := Nat.two_pow_add_eq_or_of_lt (i := 52) (Nat.lt_of_lt_of_eq hf p52.symm) G
  rw [p52] at h2
  rw [Nat.or_comm, Nat.mul_comm G, ← h2]
  unfold nrm
  rw [Nat.mul_comm]
theorem nrm_mod {E f : Nat} (h2 : E ≤ 2046) (hf : f < 4503599627370496) : nrm E f % 9223372036854775808 = nrm E f := Nat.mod_eq_of_lt (nrm_lt h2 hf)
end Go.Fk
namespace Go.Fk
open Go Go.RowKit
theorem val_of {b m : Nat} {e : Int} (h : FloatKind.f64.format.read b = .number false m e) : val .f64 b = (m : Int) * 2 ^ (e + 1074).toNat := by
  have : val .f64 b = Ieee.signed false m (e + 1074).toNat := by simp only [val, h]; rfl
  rw [this, signed_eq]
  simp
theorem nrm_val {E f : Nat} (h1 : 1 ≤ E) (h2 : E ≤ 2046) (hf : f < 4503599627370496) : val .f64 (nrm E f) = ((4503599627370496 + f : Nat) : Int) * 2 ^ (E - 1) := by
  rw [val_of (nrm_read h1 h2 hf), show ((E : Int) - 1075 + 1074).toNat = E - 1 by omega]
theorem nrm_mono {E f E' f' : Nat} (h1 : 1 ≤ E) (hf : f < 4503599627370496) (h1' : 1 ≤ E') (hf' : f' < 4503599627370496) (h : nrm E f < nrm E' f') : (4503599627370496 + f) * 2 ^ (E - 1) < (4503599627370496 + f') * 2 ^ (E' - 1) := by
  unfold nrm at h
  by_cases c : E = E'
  · subst c
    exact Nat.mul_lt_mul_of_pos_right (by omega) (Nat.two_pow_pos _)
  · have hlt : E < E' := by omega
    calc (4503599627370496 + f) * 2 ^ (E - 1) < (2 * 4503599627370496) * 2 ^ (E - 1) := Nat.mul_lt_mul_of_pos_right (by omega) (Nat.two_pow_pos _)
      _ = 4503599627370496 * 2 ^ (E - 1 + 1) := by rw [Nat.pow_succ, Nat.mul_comm 2, Nat.mul_assoc, Nat.mul_comm 2]
      _ ≤ 4503599627370496 * 2 ^ (E' - 1) := Nat.mul_le_mul_left _ (Nat.pow_le_pow_right (by omega) (by omega))
      _ ≤ (4503599627370496 + f') * 2 ^ (E' - 1) := Nat.mul_le_mul_right _ (by omega)
theorem nrm_order {E f E' f' : Nat} (h1 : 1 ≤ E) (h2 : E ≤ 2046) (hf : f < 4503599627370496) (h1' : 1 ≤ E') (h2' : E' ≤ 2046) (hf' : f' < 4503599627370496) : FloatKind.f64.format.order (nrm E f) (nrm E' f') = some (compare (nrm E f) (nrm E' f')) := by
  rw [order_val (nrm_nan h1 h2 hf) (nrm_nan h1' h2' hf'), nrm_val h1 h2 hf, nrm_val h1' h2' hf']
  have c1 : ((2 : Int) ^ (E - 1)) = ((2 ^ (E - 1) : Nat) : Int) := by rw [Int.natCast_pow]; rfl
  have c2 : ((2 : Int) ^ (E' - 1)) = ((2 ^ (E' - 1) : Nat) : Int) := by rw [Int.natCast_pow]; rfl
  rw [c1, c2, ← Int.natCast_mul, ← Int.natCast_mul]
  congr 1
  rcases Nat.lt_trichotomy (nrm E f) (nrm E' f') with c | c | c
  · rw [Nat.compare_eq_lt.2 c]
    exact Int.compare_eq_lt.2 (Int.ofNat_lt.2 (nrm_mono h1 hf h1' hf' c))
  · have e : E = E' ∧ f = f' := by unfold nrm at c; omega
    obtain ⟨rfl, rfl⟩ := e
    rw [Nat.compare_eq_eq.2 rfl]
    exact Int.compare_eq_eq.2 rfl
  · rw [Nat.compare_eq_gt.2 c]
    exact Int.compare_eq_gt.2 (Int.ofNat_lt.2 (nrm_mono h1' hf' h1 hf c))
theorem nrm_ne0 {E f : Nat} (h1 : 1 ≤ E) (h2 : E ≤ 2046) (hf : f < 4503599627370496) : (FloatKind.f64.format.order (nrm E f) 0 == some .eq) = false := by
  rw [order_val (nrm_nan h1 h2 hf) (by decide), nrm_val h1 h2 hf, show val .f64 0 = 0 by decide +kernel]
  have hp : (0 : Int) < ((4503599627370496 + f : Nat) : Int) * 2 ^ (E - 1) := Int.mul_pos (by omega) (Int.pow_pos (by omega))
  rw [Int.compare_eq_gt.2 hp]
  rfl
theorem nrm_max {E f : Nat} (h1 : 1 ≤ E) (h2 : E ≤ 2046) (hf : f < 4503599627370496) : (FloatKind.f64.format.order (nrm E f) 9218868437227405311 == some .gt) = false := by
  have h := nrm_order (E' := 2046) (f' := 4503599627370495) h1 h2 hf (by omega) (by omega) (by omega)
  rw [show nrm 2046 4503599627370495 = 9218868437227405311 by decide] at h
  rw [h]
  have hle : nrm E f ≤ 9218868437227405311 := by unfold nrm; omega
  rcases Nat.lt_or_ge (nrm E f) 9218868437227405311 with c | c
  · rw [Nat.compare_eq_lt.2 c]; rfl
  · rw [Nat.compare_eq_eq.2 (Nat.le_antisymm hle c)]; rfl
theorem nrm_min {E f : Nat} (h1 : 1 ≤ E) (h2 : E ≤ 2046) (hf : f < 4503599627370496) : (FloatKind.f64.format.order (nrm E f) 4503599627370496 == some .lt) = false := by
  have h := nrm_order (E' := 1) (f' := 0) h1 h2 hf (by omega) (by omega) (by omega)
  rw [show nrm 1 0 = 4503599627370496 by decide] at h
  rw [h]
  have hle : 4503599627370496 ≤ nrm E f := by unfold nrm; omega
  rcases Nat.lt_or_ge 4503599627370496 (nrm E f) with c | c
  · rw [Nat.compare_eq_gt.2 c]; rfl
  · rw [Nat.compare_eq_eq.2 (Nat.le_antisymm c hle)]; rfl
end Go.Fk
namespace Go.Proofs.Yteblmkamopfkiaa
open Go.RowKit Go.Fk
theorem c_normalize (x : Nat) (w : World) (hx : fits .f64 x) (h : (FloatKind.f64.format.order (x % 9223372036854775808) 4503599627370496 == some .lt) = false) : Calls Try.prog 96 #[.float .f64 x] w fun e w' => e = .returned (.tuple #[.float .f64 x, .int .i64 0]) ∧ w = w' := by
  have HA := hid (fun w' => abs64 x w' hx)
  clear hx
  go_enter Try.func96, Try.ntmps96
  go_wp2_with (go_at_call 76; ((with_reducible refine (HA.out _).mono ?_); rintro e w1 ⟨rfl, rfl⟩))
  go_ret2
  exact ⟨rfl, rfl⟩
theorem c_IsInf0 (x : Nat) (w : World) (hx : fits .f64 x) (h : (FloatKind.f64.format.order (x % 9223372036854775808) 9218868437227405311 == some .gt) = false) : Calls Try.prog 94 #[.float .f64 x, .int .i64 0] w fun e w' => e = .returned (.bool false) ∧ w = w' := by
  have HA := hid (fun w' => abs64 x w' hx)
  clear hx
  go_enter Try.func94, Try.ntmps94
  go_wp2_with (go_at_call 76; ((with_reducible refine (HA.out _).mono ?_); rintro e w1 ⟨rfl, rfl⟩))
  go_ret
  exact ⟨rfl, rfl⟩
set_option maxRecDepth 100000 in
set_option maxHeartbeats 2000000 in
theorem c_ldexp (E f G : Nat) (w : World) (h1 : 1 ≤ E) (h2 : E ≤ 2046) (hf : f < 4503599627370496) (k1 : 1 ≤ G) (k2 : G ≤ 2046) :
    Calls Try.prog 82 #[.float .f64 (nrm E f), .int .i64 ((G : Int) - E)] w fun e w' => e = .returned (.float .f64 (nrm G f)) ∧ le w w' := by
  have hw := nrm_fits h2 hf
  have hn := nrm_nan h1 h2 hf
  have hm := nrm_mod h2 hf
  have hv := nrm_val h1 h2 hf
  have HI : Hid (∀ w', Calls Try.prog 94 #[.float .f64 (nrm E f), .int .i64 0] w' fun e w'' => e = .returned (.bool false) ∧ w' = w'') := fun w' => c_IsInf0 (nrm E f) w' hw (by rw [hm]; exact nrm_max h1 h2 hf)
  have HN : Hid (∀ w', Calls Try.prog 96 #[.float .f64 (nrm E f)] w' fun e w'' => e = .returned (.tuple #[.float .f64 (nrm E f), .int .i64 0]) ∧ w' = w'') := fun w' => c_normalize (nrm E f) w' hw (by rw [hm]; exact nrm_min h1 h2 hf)
  have HQ := hid (fun w' => c_IsNaN (nrm E f) w')
  rw [hn] at HQ
  have h0 := nrm_ne0 h1 h2 hf
  have g1 : (nrm E f : Int) / 4503599627370496 = (E : Int) := by unfold nrm; omega
  have g2 : wrap64 (E : Int) = (E : Int) := IntWalk.wrap64_in _ (by omega)
  have g3 : bits .and .i64 (E : Int) 2047 = (E : Int) := by rw [i64_and2047]; omega
  have g4 : wrap64 ((E : Int) - 1023) = (E : Int) - 1023 := IntWalk.wrap64_in _ (by omega)
  have g5 : wrap64 ((G : Int) - E + ((E : Int) - 1023)) = (G : Int) - 1023 := by rw [IntWalk.wrap64_in _ (by omega)]; omega
  have d1 : decide ((G : Int) - 1023 < -1075) = false := decide_eq_false (by omega)
  have d2 : decide ((1023 : Int) < (G : Int) - 1023) = false := decide_eq_false (by omega)
  have d3 : decide ((G : Int) - 1023 < -1022) = false := decide_eq_false (by omega)
  have g6 : bits .andNot .u64 (nrm E f : Int) 9218868437227405312 = (f : Int) := by
    rw [andNot_exp (nrm_lt h2 hf)]
    congr 1
    unfold nrm; omega
  have g7 := or_exp (show G ≤ 2047 by omega) hf
  have HF := hid (nrm_mul (E := G) (G := 1023) k1 k2 hf (by omega) (by omega) (by omega) (by omega)).2
  have HG := hid (nrm_nan k1 k2 hf)
  have G7 : Hid ((bits .or .u64 (f : Int) (((G : Int) - E + ((E : Int) - 1023) + 1023) * 4503599627370496)).toNat = nrm G f) := by
    show Int.toNat _ = _
    rw [show (G : Int) - E + ((E : Int) - 1023) + 1023 = G by omega, g7, Int.toNat_natCast]
  clear g7
  clear hw hn hm hv
  go_enter Try.func82, Try.ntmps82
  go_wp2_with (first | (go_at_call 94; ((with_reducible refine (HI.out _).mono ?_); rintro e w1 ⟨rfl, rfl⟩)) | (go_at_call 93; ((with_reducible refine (HQ.out _).mono ?_); rintro e w1 ⟨rfl, rfl⟩)) | (go_at_call 96; ((with_reducible refine (HN.out _).mono ?_); rintro e w1 ⟨rfl, rfl⟩)) | (with_reducible refine wpList_farith rfl rfl rfl rfl rfl ?_; intro r n hr hrf))
  go_ret
  refine ⟨ret_f ?_, le_drewN _ _⟩
  have h := hr.out
  rw [G7.out, one_nrm, HF.out, show G + 1023 - 1023 = G by omega] at h
  exact of_canK h HG.out
theorem c_Ldexp (E f G : Nat) (w : World) (h1 : 1 ≤ E) (h2 : E ≤ 2046) (hf : f < 4503599627370496) (k1 : 1 ≤ G) (k2 : G ≤ 2046) :
    Calls Try.prog 51 #[.float .f64 (nrm E f), .int .i64 ((G : Int) - E)] w fun e w' => e = .returned (.float .f64 (nrm G f)) ∧ le w w' := by
  have HL := hid (fun w' => c_ldexp E f G w' h1 h2 hf k1 k2)
  clear h1 h2 hf k1 k2
  go_enter Try.func51, Try.ntmps51
  go_wp2_with (go_at_call 82; ((with_reducible refine (HL.out _).mono ?_); rintro e w1 ⟨rfl, hl⟩))
  go_ret
  exact ⟨rfl, by assumption⟩
end Go.Proofs.Yteblmkamopfkiaa

/- Whole numbers of 2 ^ -30 in wide numbers, and logarithms out of them. Nothing here names a program. -/
namespace Go.Fk
open Go Go.RowKit
/-- The wide number of so many parts of 2 ^ -30. -/
def flN (a : Int) : Nat := FloatKind.f64.format.nearest (decide (a < 0)) a.natAbs (-30)
theorem flN_read {a : Int} (h : a.natAbs < 4503599627370496) : ∃ (s : Bool) (m : Nat) (e : Int), FloatKind.f64.format.read (flN a) = .number s m e ∧ e ≤ -30 ∧ -1074 ≤ e ∧ s = decide (a < 0) ∧ (∀ base : Int, base ≤ e → Ieee.signed s m (e - base).toNat = a * 2 ^ (-30 - base).toNat) := by
  by_cases h0 : a = 0
  · subst h0
    have e1 : flN 0 = 0 := by simp [flN, Ieee.Format.nearest, Ieee.Format.word]
    rw [e1]
    exact ⟨false, 0, -1074, by decide, by decide, by decide, by decide, fun base _ => by simp [Ieee.signed]⟩
  · have hn0 : a.natAbs ≠ 0 := by omega
    have hl : a.natAbs.log2 < 52 := (Nat.log2_lt hn0).2 (Nat.lt_of_lt_of_eq h p52.symm)
    obtain ⟨h5, _⟩ := read_nearest FloatKind.f64.format (decide (a < 0)) a.natAbs (-30) hn0 (by rw [bits64.2.1]; omega) (by decide) (by rw [bits64.1, bits64.2.1, bits64.2.2.1]; omega) (by decide)
    have h6 : lastOf FloatKind.f64.format a.natAbs (-30) = (a.natAbs.log2 : Int) - 82 := by unfold lastOf; rw [bits64.2.1, bits64.2.2.1]; omega
    rw [h6] at h5
    refine ⟨_, _, _, h5, by omega, by omega, rfl, fun base hb => ?_⟩
    rw [signed_eq]
    have e2 : a = (if (decide (a < 0)) = true then -(a.natAbs : Int) else (a.natAbs : Int)) := by
      by_cases c : a < 0
      · rw [decide_eq_true c, if_pos rfl]; omega
      · rw [decide_eq_false c, if_neg (by decide)]; omega
    conv => rhs; rw [e2]
    have e3 : ((a.natAbs * 2 ^ (-30 - ((a.natAbs.log2 : Int) - 82)).toNat : Nat) : Int) = (a.natAbs : Int) * 2 ^ (-30 - ((a.natAbs.log2 : Int) - 82)).toNat := by
      rw [Int.natCast_mul, Int.natCast_pow]; rfl
    rw [e3]
    have e4 : ((2 : Int) ^ (-30 - ((a.natAbs.log2 : Int) - 82)).toNat) * 2 ^ ((a.natAbs.log2 : Int) - 82 - base).toNat = 2 ^ (-30 - base).toNat := by
      rw [← Int.pow_add]; congr 1; omega
    split
    · rw [Int.neg_mul, Int.neg_mul, Int.mul_assoc, e4]
    · rw [Int.mul_assoc, e4]
theorem isNan_flN (a : Int) : isNan .f64 (flN a) = false := isNan_nearest _ _ _ _
theorem near_fl (T : Int) (k : Nat) (s : Bool) (hs : T ≠ 0 → s = decide (T < 0)) (h0 : T = 0 → s = false) : FloatKind.f64.format.nearest s (T * 2 ^ k).natAbs (-30 - (k : Int)) = flN T := by
  have hp : (T * 2 ^ k).natAbs = T.natAbs * 2 ^ k := by rw [Int.natAbs_mul, Int.natAbs_pow]; rfl
  rw [hp, nearest_scale]
  by_cases c : T = 0
  · rw [h0 c]; subst c; rfl
  · rw [hs c]; rfl
theorem fl_add {a b : Int} (ha : a.natAbs < 4503599627370496) (hb : b.natAbs < 4503599627370496) : fop .add .f64 (flN a) (flN b) = flN (a + b) := by
  obtain ⟨s, m, i, hr, i1, i2, hs, hv⟩ := flN_read ha
  obtain ⟨t, n, j, hr2, j1, j2, ht, hw⟩ := flN_read hb
  have hb : floatBits .add .f64 (flN a) (flN b) = some (FloatKind.f64.format.nearest (if Ieee.signed s m (i - min i j).toNat + Ieee.signed t n (j - min i j).toNat = 0 then s && t else decide (Ieee.signed s m (i - min i j).toNat + Ieee.signed t n (j - min i j).toNat < 0)) (Ieee.signed s m (i - min i j).toNat + Ieee.signed t n (j - min i j).toNat).natAbs (min i j)) := by
    simp only [floatBits, Ieee.Format.add, hr, hr2, Ieee.Datum.sum, Option.map_some]; rfl
  rw [hv _ (by omega), hw _ (by omega), ← Int.add_mul] at hb
  have hp : (0 : Int) < 2 ^ (-30 - min i j).toNat := Int.pow_pos (by omega)
  have key := near_fl (a + b) (-30 - min i j).toNat (if (a + b) * 2 ^ (-30 - min i j).toNat = 0 then s && t else decide ((a + b) * 2 ^ (-30 - min i j).toNat < 0)) (fun h0 => by
      rw [if_neg (Int.mul_ne_zero h0 (by omega))]
      by_cases c : a + b < 0
      · rw [decide_eq_true c, decide_eq_true (Int.mul_neg_of_neg_of_pos c hp)]
      · rw [decide_eq_false c, decide_eq_false (by have := Int.mul_nonneg (show 0 ≤ a + b by omega) (Int.le_of_lt hp); omega)]) (fun h0 => by
      rw [h0, Int.zero_mul, if_pos rfl, hs, ht]
      by_cases c : a < 0
      · rw [decide_eq_false (show ¬ b < 0 by omega), Bool.and_false]
      · rw [decide_eq_false c, Bool.false_and])
  rw [show -30 - (((-30 - min i j).toNat : Nat) : Int) = min i j by omega] at key
  rw [key] at hb
  exact fop_some hb (isNan_flN _)
theorem fl_sub {a b : Int} (ha : a.natAbs < 4503599627370496) (hb : b.natAbs < 4503599627370496) : fop .sub .f64 (flN a) (flN b) = flN (a - b) := by
  obtain ⟨s, m, i, hr, i1, i2, hs, hv⟩ := flN_read ha
  obtain ⟨t, n, j, hr2, j1, j2, ht, hw⟩ := flN_read hb
  have hb : floatBits .sub .f64 (flN a) (flN b) = some (FloatKind.f64.format.nearest (if Ieee.signed s m (i - min i j).toNat + Ieee.signed (!t) n (j - min i j).toNat = 0 then s && !t else decide (Ieee.signed s m (i - min i j).toNat + Ieee.signed (!t) n (j - min i j).toNat < 0)) (Ieee.signed s m (i - min i j).toNat + Ieee.signed (!t) n (j - min i j).toNat).natAbs (min i j)) := by
    simp only [floatBits, Ieee.Format.sub, hr, hr2, Ieee.Datum.opposite, Ieee.Datum.sum, Option.map_some]; rfl
  have hneg : Ieee.signed (!t) n (j - min i j).toNat = -Ieee.signed t n (j - min i j).toNat := by
    unfold Ieee.signed; cases t <;> simp
  rw [hneg, hv _ (by omega), hw _ (by omega), ← Int.neg_mul, ← Int.add_mul, ← Int.sub_eq_add_neg] at hb
  have hp : (0 : Int) < 2 ^ (-30 - min i j).toNat := Int.pow_pos (by omega)
  have key := near_fl (a - b) (-30 - min i j).toNat (if (a - b) * 2 ^ (-30 - min i j).toNat = 0 then s && !t else decide ((a - b) * 2 ^ (-30 - min i j).toNat < 0)) (fun h0 => by
      rw [if_neg (Int.mul_ne_zero h0 (by omega))]
      by_cases c : a - b < 0
      · rw [decide_eq_true c, decide_eq_true (Int.mul_neg_of_neg_of_pos c hp)]
      · rw [decide_eq_false c, decide_eq_false (by have := Int.mul_nonneg (show 0 ≤ a - b by omega) (Int.le_of_lt hp); omega)]) (fun h0 => by
      rw [h0, Int.zero_mul, if_pos rfl, hs, ht]
      by_cases c : a < 0
      · rw [decide_eq_true (show b < 0 by omega), Bool.not_true, Bool.and_false]
      · rw [decide_eq_false c, Bool.false_and])
  rw [show -30 - (((-30 - min i j).toNat : Nat) : Int) = min i j by omega] at key
  rw [key] at hb
  exact fop_some hb (isNan_flN _)
/-- A whole number. -/
theorem fl_int (e : Int) : floatOfInt .f64 e = flN (e * 1073741824) := by
  have h1 : floatOfInt .f64 e = FloatKind.f64.format.nearest (decide (e < 0)) e.natAbs 0 := rfl
  have h2 := nearest_scale FloatKind.f64.format (decide (e < 0)) e.natAbs 30 0
  rw [h1, ← h2]
  unfold flN
  have e1 : (e * 1073741824).natAbs = e.natAbs * 2 ^ 30 := by
    rw [Int.natAbs_mul]; rfl
  rw [e1, show decide (e * 1073741824 < 0) = decide (e < 0) from decide_eq_decide.2 (by omega)]
  rfl
theorem fl_one : (4607182418800017408 : Nat) = flN 1073741824 := by decide +kernel
theorem fl_zero : (0 : Nat) = flN 0 := by decide +kernel
/-- A power of 2 below 1. -/
theorem fl_part {i : Nat} (h : i ≤ 30) : nrm (1023 - i) 0 = flN (2 ^ (30 - i) : Nat) := by
  have h1 := nrm_near (E := 1023 - i) (f := 0) (by omega) (by omega) (by omega)
  have h2 := nearest_scale FloatKind.f64.format false 1 52 (-(i : Int))
  have h3 := nearest_scale FloatKind.f64.format false 1 (30 - i) (-(i : Int))
  rw [← h1]
  unfold flN
  rw [show decide (((2 ^ (30 - i) : Nat) : Int) < 0) = false from decide_eq_false (Int.not_lt.2 (Int.natCast_nonneg _)), Int.natAbs_natCast]
  have e1 : (4503599627370496 + 0 : Nat) = 1 * 2 ^ 52 := by decide
  rw [e1, show ((1023 - i : Nat) : Int) - 1075 = -(i : Int) - (52 : Nat) by omega, h2, ← h3, Nat.one_mul]
  congr 1
  omega
/-- Ldexp of a whole number above 0, by -30. -/
theorem fl_ldexp {D : Nat} (h0 : D ≠ 0) (h : D < 1073741824) : ∃ E f, floatOfInt .f64 (D : Int) = nrm E f ∧ f < 4503599627370496 ∧ 1023 ≤ E ∧ E ≤ 1053 ∧ nrm (E - 30) f = flN (D : Int) := by
  have hl : D.log2 < 30 := (Nat.log2_lt h0).2 (Nat.lt_of_lt_of_eq h (by decide))
  have e1 : floatOfInt .f64 (D : Int) = FloatKind.f64.format.nearest false D 0 := by
    show FloatKind.f64.encode (.number (decide ((D : Int) < 0)) (D : Int).natAbs 0) = _
    rw [decide_eq_false (by omega), Int.natAbs_natCast]
    rfl
  obtain ⟨E, f, he, hf, hE⟩ := near_nrm (m := D) (e := 0) h0 (by omega) (by omega)
  obtain ⟨h5, _⟩ := read_nearest FloatKind.f64.format false D 0 h0 (by rw [bits64.2.1]; omega) (by decide) (by rw [bits64.1, bits64.2.1, bits64.2.2.1]; omega) (by decide)
  have h6 : lastOf FloatKind.f64.format D 0 = (D.log2 : Int) - 52 := by unfold lastOf; rw [bits64.2.1, bits64.2.2.1]; omega
  rw [h6, he, nrm_read (by omega) (by omega) hf] at h5
  simp only [Ieee.Datum.number.injEq, true_and] at h5
  obtain ⟨h7, h8⟩ := h5
  refine ⟨E, f, e1.trans he, hf, by omega, by omega, ?_⟩
  rw [← nrm_near (E := E - 30) (f := f) (by omega) (by omega) hf, h7]
  have h9 := nearest_scale FloatKind.f64.format false D (0 - ((D.log2 : Int) - 52)).toNat (-30)
  unfold flN
  rw [show decide ((D : Int) < 0) = false from decide_eq_false (by omega), Int.natAbs_natCast, ← h9]
  congr 1
  omega
/-- The number between 1 and 2 that is squared, behind i rounds; its digits. -/
def lgZ (f : Nat) : Nat → Nat
  | 0 => nrm 1023 f
  | i + 1 => if FloatKind.f64.format.order (fop .mul .f64 (lgZ f i) (lgZ f i)) 4611686018427387904 == some .gt || FloatKind.f64.format.order (fop .mul .f64 (lgZ f i) (lgZ f i)) 4611686018427387904 == some .eq then fop .quo .f64 (fop .mul .f64 (lgZ f i) (lgZ f i)) 4611686018427387904 else fop .mul .f64 (lgZ f i) (lgZ f i)
def lgB (f i : Nat) : Bool := FloatKind.f64.format.order (fop .mul .f64 (lgZ f i) (lgZ f i)) 4611686018427387904 == some .gt || FloatKind.f64.format.order (fop .mul .f64 (lgZ f i) (lgZ f i)) 4611686018427387904 == some .eq
def lgD (f : Nat) : Nat → Nat
  | 0 => 0
  | i + 1 => 2 * lgD f i + (lgB f i).toNat
theorem lgD_lt (f i : Nat) : lgD f i < 2 ^ i := by
  induction i with
  | zero => show 0 < 2 ^ 0; decide
  | succ i ih =>
    have hb : (lgB f i).toNat ≤ 1 := by cases lgB f i <;> decide
    show 2 * lgD f i + (lgB f i).toNat < 2 ^ (i + 1)
    rw [Nat.pow_succ]
    omega
theorem lgZ_yes {f i : Nat} (h : lgB f i = true) : lgZ f (i + 1) = fop .quo .f64 (fop .mul .f64 (lgZ f i) (lgZ f i)) 4611686018427387904 := if_pos h
theorem lgZ_no {f i : Nat} (h : lgB f i = false) : lgZ f (i + 1) = fop .mul .f64 (lgZ f i) (lgZ f i) := if_neg (by
  have h' : (FloatKind.f64.format.order (fop .mul .f64 (lgZ f i) (lgZ f i)) 4611686018427387904 == some .gt || FloatKind.f64.format.order (fop .mul .f64 (lgZ f i) (lgZ f i)) 4611686018427387904 == some .eq) = false := h
  rw [h']; decide)
/-- A round of the squaring, of words that may be any NaN. -/
theorem lg_sq {f i z p : Nat} (hz : can .f64 z = can .f64 (lgZ f i)) (hp : can .f64 p = fop .mul .f64 z z) : can .f64 p = can .f64 (fop .mul .f64 (lgZ f i) (lgZ f i)) := by
  rw [hp, can_fop]; exact fop_congr hz hz
theorem lg_bit {f i z p : Nat} (hz : can .f64 z = can .f64 (lgZ f i)) (hp : can .f64 p = fop .mul .f64 z z) : (FloatKind.f64.format.order p 4611686018427387904 == some .gt || FloatKind.f64.format.order p 4611686018427387904 == some .eq) = lgB f i := by
  unfold lgB
  rw [order_congr (lg_sq hz hp) rfl]
theorem lg_yes {f i z p q : Nat} (hz : can .f64 z = can .f64 (lgZ f i)) (hp : can .f64 p = fop .mul .f64 z z) (hq : can .f64 q = fop .quo .f64 p 4611686018427387904) (h : lgB f i = true) : can .f64 q = can .f64 (lgZ f (i + 1)) := by
  rw [lgZ_yes h, hq, can_fop]; exact fop_congr (lg_sq hz hp) rfl
theorem lg_no {f i z p : Nat} (hz : can .f64 z = can .f64 (lgZ f i)) (hp : can .f64 p = fop .mul .f64 z z) (h : lgB f i = false) : can .f64 p = can .f64 (lgZ f (i + 1)) := by
  rw [lgZ_no h]; exact lg_sq hz hp
theorem lgD_yes {f i : Nat} (h : lgB f i = true) : lgD f (i + 1) = 2 * lgD f i + 1 := by show 2 * lgD f i + (lgB f i).toNat = _; rw [h]; rfl
theorem lgD_no {f i : Nat} (h : lgB f i = false) : lgD f (i + 1) = 2 * lgD f i := by show 2 * lgD f i + (lgB f i).toNat = _; rw [h]; rfl
/-- A finite number above 0, as a wide one. -/
def okLg (x : Nat) : Bool := fin x && (FloatKind.f32.format.order x 0 == some .gt)
theorem lg_wide {x : Nat} (h : okLg x = true) : ∃ E f, widen x = nrm E f ∧ f < 4503599627370496 ∧ 874 ≤ E ∧ E ≤ 1151 := by
  unfold okLg at h
  rw [Bool.and_eq_true] at h
  obtain ⟨hf, hg⟩ := h
  have hn := fin_num hf
  have hz : FloatKind.f32.format.read 0 = .number false 0 (-149) := by decide
  cases hr : FloatKind.f32.format.read x with
  | nan s t => simp [fin, hr] at hf
  | infinity s => simp [fin, hr] at hf
  | number s m e =>
    obtain ⟨b1, b2⟩ := read32 hr
    rw [order_val hn (by decide), show val .f32 0 = 0 by decide +kernel] at hg
    have hv : val .f32 x = Ieee.signed s m (e + 149).toNat := by simp only [val, hr]; rfl
    have hpos : 0 < val .f32 x := by
      rcases Int.lt_trichotomy (val .f32 x) 0 with c | c | c
      · rw [Int.compare_eq_lt.2 c] at hg; simp at hg
      · rw [c] at hg; simp at hg
      · exact c
    have m0 : m ≠ 0 := by rintro rfl; rw [hv] at hpos; simp [Ieee.signed] at hpos
    have hs : s = false := by
      cases s
      · rfl
      · exfalso
        rw [hv, signed_eq] at hpos
        simp only [if_true] at hpos
        have : (0 : Int) ≤ (m : Int) * 2 ^ (e + 149).toNat := Int.mul_nonneg (by omega) (Int.le_of_lt (Int.pow_pos (by omega)))
        rw [Int.neg_mul] at hpos
        omega
    subst hs
    have hw : widen x = FloatKind.f64.format.nearest false m e := by simp only [widen, hr]; rfl
    obtain ⟨c1, c2⟩ := b2 m0
    obtain ⟨E, f, he, hf2, hE⟩ := near_nrm (m := m) (e := e) m0 (by omega) (by omega)
    exact ⟨E, f, hw.trans he, hf2, by omega, by omega⟩
/-- The logarithm's words. -/
def lgV (x : Nat) : Nat := can .f32 (narrow (flN (((widen x / 4503599627370496 : Nat) : Int) * 1073741824 - 1023 * 1073741824 + lgD (widen x % 4503599627370496) 30)))
theorem lgV_eq {x E f : Nat} (h : widen x = nrm E f) (hf : f < 4503599627370496) : lgV x = can .f32 (narrow (flN (((E : Int) - 1023) * 1073741824 + lgD f 30))) := by
  unfold lgV
  rw [h, show nrm E f / 4503599627370496 = E by unfold nrm; omega, show nrm E f % 4503599627370496 = f by unfold nrm; omega, Int.sub_mul]
def lgR (x : Nat) : Nat := if okLg x then lgV x else 0
theorem lg_congr {x y : Nat} (h : can .f32 x = can .f32 y) : lgV x = lgV y ∧ okLg x = okLg y ∧ lgR x = lgR y := by
  have e1 : lgV x = lgV y := by unfold lgV; rw [widen_congr h]
  have e2 : okLg x = okLg y := by unfold okLg; rw [fin_can h, order_congr h rfl]
  exact ⟨e1, e2, by unfold lgR; rw [e1, e2]⟩
theorem fl_lt {a : Int} (h : a.natAbs < 4503599627370496) : narrowable (flN a) := by
  refine .inr (.inr ?_)
  refine (lt_nearest .f64 _ _ _ 60 (fun h0 => ?_) (fine64 (by decide) (by decide)).1 (fine64 (by decide) (by decide)).2).mono (by decide)
  have := (Nat.log2_lt h0).2 (Nat.lt_of_lt_of_eq h p52.symm)
  omega
end Go.Fk

/- Tables of 257 floats: 'laws.toTable', 'laws.eqTable'. -/
namespace Go.Proofs.Yteblmkamopfkiaa
open Go.RowKit Go.Fk
end Go.Proofs.Yteblmkamopfkiaa

/- (first part) 'TableAt' of both. -/
namespace Go.Fk
open Go Go.RowKit
def geB (x : Nat) : Bool := FloatKind.f32.format.order x 0 == some .gt || FloatKind.f32.format.order x 0 == some .eq
def leB (x : Nat) : Bool := FloatKind.f32.format.order x 1065353216 == some .lt || FloatKind.f32.format.order x 1065353216 == some .eq
/-- Between two values of a table. -/
def betwW (t : Nat → Nat) (x k : Nat) : Nat := fop .add .f32 (t k) (fop .mul .f32 (fop .sub .f32 (placeW x) (floatOfInt .f32 (k : Int))) (fop .sub .f32 (t (k + 1)) (t k)))
def atW (t : Nat → Nat) (x : Nat) : Nat := if inUnit x = true then (if indexW x = 256 then can .f32 (t 256) else betwW t x (indexW x)) else 0
def atC (x : Nat) : Int := if inUnit x = true then 0 else 2
theorem betw_ofT {t : Nat → Nat} {x k p d r1 r2 r : Nat} (hx : inUnit x = true) (hX : indexW x = k) (hN : ¬k = 256) (hp : can .f32 p = placeW x) (hd : can .f32 d = fop .sub .f32 p (floatOfInt .f32 (k : Int)))
    (h1 : can .f32 r1 = fop .sub .f32 (t (k + 1)) (t k)) (h2 : can .f32 r2 = fop .mul .f32 d r1) (h3 : can .f32 r = fop .add .f32 (t k) r2) : can .f32 r = atW t x := by
  unfold atW
  rw [if_pos hx, hX, if_neg hN]
  unfold betwW
  rw [h3, ← fop_can_r .add .f32 (t k) r2, h2, ← fop_can_l .mul .f32 d, hd, ← fop_can_r .mul .f32 _ r1, h1, ← fop_can_l .sub .f32 p, hp]
theorem indexW_lt {x : Nat} (hx : inUnit x = true) (h256 : ¬indexW x = 256) : indexW x < 256 := by
  unfold indexW at *
  obtain ⟨_, h0, h1⟩ := inUnit_val hx
  have hU := one32_pos
  have h : (val .f32 x * 256).tdiv one32 ≤ (256 * one32).tdiv one32 := Int.tdiv_le_tdiv hU (by omega)
  rw [Int.mul_tdiv_cancel _ (by omega)] at h
  omega
def OutTa (t : Nat → Nat) (x : Nat) (w : World) (e : Ending) (w' : World) : Prop := ∃ r, e = .returned (.tuple #[.float .f32 r, .int .i64 (atC x)]) ∧ can .f32 r = atW t x ∧ le w w'
section
variable {P : Program} {w : World} {ops : Array Oper} {rest : List Oper} {o : Oper} {a : Act} {Q : Exit → Act → World → Prop}
theorem wpList_toInt (hg : o.guard = none) {src dst : TypeId} {x : Operand} (hop : o.op = Op.convert src dst x) {b : Nat} (hx : a.eval x = .float .f32 b) {v : Value}
    (hr : ∀ w, (convert src dst (.float .f32 b)).run P w = .ok v w) (hK : wpList P ops Q rest (a.put o.dst v) w) : wpList P ops Q (o :: rest) a w := by
  refine wpList_plain hg fun K hK' => ?_
  unfold Oper.wp
  simp [execOp, hop, hx, hr w, Result.andThen]
  exact hK' _ _ hK
end
section
variable {P : Program} {ops : Array Oper} {w : World} {K : FuncId → Array Value → Value → Prop} {Q : Act → Prop} {o : Oper} {rest : List Oper} {a : Act}
theorem wpLoose_nil' (hg : o.guard = none) {x : Operand} (hop : o.op = Op.nilCheck x) {ad : Addr} (hx : a.eval x = .pointer (some ad))
    (hK : wpLoose P ops (fun w' => ∃ m, w' = w.drewN m) K Q rest (a.put o.dst (.pointer (some ad)))) : wpLoose P ops (fun w' => ∃ m, w' = w.drewN m) K Q (o :: rest) a := by
  refine wpLoose_any hg (· = .pointer (some ad)) (fun n => ?_) (by rintro v rfl; exact hK)
  simp [execOp, hop, hx, within, Result.andThen]
  exact ⟨_, rfl⟩
end
end Go.Fk
namespace Go.Proofs.Yteblmkamopfkiaa
open Go.RowKit Go.Fk
theorem toInt_run {x p k : Nat} (hx : inUnit x = true) (hk : Hid (indexW x = k)) (hp : Hid (can .f32 p = placeW x)) : ∀ w, (convert 22 2 (.float .f32 p)).run Try.prog w = .ok (.int .i64 (k : Int)) w := by
  intro w
  have h := (place_int hx hp.out).2.1
  rw [hk.out] at h
  exact run_convert_float_int (P := Try.prog) w _ _ .f32 .i64 _ _ (by rw [Try.underlying22]; rfl) Try.underlying2 h
theorem toInt_run' {x p k : Nat} (hx : inUnit x = true) (hk : Hid (indexW x = k)) (hp : Hid (can .f32 p = placeW x)) : ∀ w, (convert 22 3 (.float .f32 p)).run Try.prog w = .ok (.int .i64 (k : Int)) w := by
  intro w
  have h := (place_int hx hp.out).2.1
  rw [hk.out] at h
  exact run_convert_float_int (P := Try.prog) w _ _ .f32 .i64 _ _ (by rw [Try.underlying22]; rfl) Try.underlying3 h
end Go.Proofs.Yteblmkamopfkiaa
