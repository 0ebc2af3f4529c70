/- Texts of the walk, laid in one file. -/
import Derived.BigQuiet
import Derived.RegionTactic
import Derived.Test.YtkcpdddmabkkgaaMe
set_option linter.unusedVariables false
set_option linter.unusedSimpArgs false
/- Exactness: what a format has is written as it stands. Nothing here names a program. -/
namespace Go.Fk
open Go Go.RowKit

theorem cut_zero (s : Bool) (n : Nat) : Ieee.Toward.even.cut s n 0 = n := by
  simp [Ieee.Toward.cut, Nat.mod_one]

/-- What is cut off leaves nothing behind: the quotient. -/
theorem cut_exact (s : Bool) (n d : Nat) : Ieee.Toward.even.cut s (n * 2 ^ d) d = n := by
  by_cases hn : n = 0
  · subst hn
    have hp := Nat.two_pow_pos (min d (Nat.log2 0 + 2))
    simp only [Ieee.Toward.cut, Nat.zero_mul, Nat.one_shiftLeft, Nat.zero_div, Nat.zero_mod]
    simp
  · have h0 : n * 2 ^ d ≠ 0 := Nat.mul_ne_zero hn (Nat.ne_of_gt (Nat.two_pow_pos d))
    have hd : d ≤ (n * 2 ^ d).log2 := by
      refine (Nat.le_log2 h0).2 ?_
      exact Nat.le_mul_of_pos_left _ (by omega)
    have hp := Nat.two_pow_pos d
    simp only [Ieee.Toward.cut, Nat.one_shiftLeft]
    rw [Nat.min_eq_left (by omega), Nat.mul_div_cancel _ hp, Nat.mul_mod_left]
    simp

theorem cut_scale (s : Bool) (n d j : Nat) (hn : n ≠ 0) : Ieee.Toward.even.cut s (n * 2 ^ j) (d + j) = Ieee.Toward.even.cut s n d := by
  have hl : (n * 2 ^ j).log2 = n.log2 + j := by
    have h0 : n * 2 ^ j ≠ 0 := Nat.mul_ne_zero hn (Nat.ne_of_gt (Nat.two_pow_pos j))
    refine (Nat.log2_eq_iff h0).2 ⟨?_, ?_⟩
    · rw [Nat.pow_add]; exact Nat.mul_le_mul_right _ (Nat.log2_self_le hn)
    · rw [show n.log2 + j + 1 = (n.log2 + 1) + j by omega, Nat.pow_add]
      exact Nat.mul_lt_mul_of_pos_right Nat.lt_log2_self (Nat.two_pow_pos j)
  have hp := Nat.two_pow_pos j
  simp only [Ieee.Toward.cut, Nat.one_shiftLeft, hl]
  rw [show min (d + j) (n.log2 + j + 2) = min d (n.log2 + 2) + j by omega, Nat.pow_add, Nat.mul_div_mul_right _ _ hp, Nat.mul_mod_mul_right]
  generalize 2 ^ min d (n.log2 + 2) = g
  have e1 : decide (g * 2 ^ j < 2 * (n % g * 2 ^ j)) = decide (g < 2 * (n % g)) := by
    rw [← Nat.mul_assoc]
    exact decide_eq_decide.2 (Nat.mul_lt_mul_right hp)
  have e2 : (g * 2 ^ j == 2 * (n % g * 2 ^ j)) = (g == 2 * (n % g)) := by
    rw [← Nat.mul_assoc, Bool.eq_iff_iff, beq_iff_eq, beq_iff_eq]
    exact Nat.mul_left_inj (by omega)
  rw [e1, e2]

theorem log2_scale {n : Nat} (hn : n ≠ 0) (j : Nat) : (n * 2 ^ j).log2 = n.log2 + j := by
  have h0 : n * 2 ^ j ≠ 0 := Nat.mul_ne_zero hn (Nat.ne_of_gt (Nat.two_pow_pos j))
  refine (Nat.log2_eq_iff h0).2 ⟨?_, ?_⟩
  · rw [Nat.pow_add]; exact Nat.mul_le_mul_right _ (Nat.log2_self_le hn)
  · rw [show n.log2 + j + 1 = (n.log2 + 1) + j by omega, Nat.pow_add]
    exact Nat.mul_lt_mul_of_pos_right Nat.lt_log2_self (Nat.two_pow_pos j)

/-- What is written speaks of the number alone, not of how it is split. -/
theorem nearest_scale (f : Ieee.Format) (s : Bool) (m j : Nat) (e : Int) : f.nearest s (m * 2 ^ j) (e - j) = f.nearest s m e := by
  by_cases hm : m = 0
  · subst hm; simp [Ieee.Format.nearest]
  have h0 : m * 2 ^ j ≠ 0 := Nat.mul_ne_zero hm (Nat.ne_of_gt (Nat.two_pow_pos j))
  unfold Ieee.Format.nearest
  rw [if_neg hm, if_neg h0, log2_scale hm]
  rw [show e - (j : Int) + ((m.log2 + j : Nat) : Int) - f.fractionBits = e + m.log2 - f.fractionBits by omega]
  generalize max (e + (m.log2 : Int) - f.fractionBits) f.leastPlace = last
  dsimp only
  congr 3
  simp only [Nat.shiftLeft_eq]
  by_cases h1 : e ≤ last
  · rw [show (e - (j : Int) - last).toNat = 0 by omega, show (e - last).toNat = 0 by omega, show (last - (e - (j : Int))).toNat = (last - e).toNat + j by omega]
    simpa using cut_scale s m _ j hm
  · by_cases h2 : last ≤ e - j
    · rw [show (last - (e - (j : Int))).toNat = 0 by omega, show (last - e).toNat = 0 by omega, cut_zero, cut_zero, Nat.mul_assoc, ← Nat.pow_add,
        show j + (e - (j : Int) - last).toNat = (e - last).toNat by omega]
    · rw [show (e - (j : Int) - last).toNat = 0 by omega, show (last - e).toNat = 0 by omega, cut_zero, Nat.pow_zero, Nat.mul_one,
        show j = (e - last).toNat + (last - (e - (j : Int))).toNat by omega, Nat.pow_add, ← Nat.mul_assoc]
      rw [show (last - (e - (((e - last).toNat + (last - (e - (j : Int))).toNat : Nat) : Int))).toNat = (last - (e - (j : Int))).toNat by omega]
      exact cut_exact s _ _

/-- The place of the last digit that is kept. -/
def lastOf (f : Ieee.Format) (m : Nat) (e : Int) : Int := max (e + m.log2 - f.fractionBits) f.leastPlace

/-- A number that the format has is read as it was written, shifted to the format's own place. -/
theorem read_nearest (f : Ieee.Format) (s : Bool) (m : Nat) (e : Int) (hm : m ≠ 0) (hp : m.log2 ≤ f.fractionBits) (he : f.leastPlace ≤ e)
    (ho : e + m.log2 - f.fractionBits ≤ f.leastPlace + 2 ^ f.exponentBits - 3) (hx : 2 ≤ f.exponentBits) :
    f.read (f.nearest s m e) = .number s (m * 2 ^ (e - lastOf f m e).toNat) (lastOf f m e) ∧ f.nearest s m e % f.signWeight < f.infRung := by
  have hx4 : (4 : Int) ≤ 2 ^ f.exponentBits := by
    have h : 2 ^ 2 ≤ 2 ^ f.exponentBits := Nat.pow_le_pow_right (by omega) hx
    exact_mod_cast h
  have hb : f.binade = 2 ^ f.fractionBits := rfl
  have hbp : 0 < f.binade := by rw [hb]; exact Nat.two_pow_pos _
  have hl1 : lastOf f m e ≤ e := by unfold lastOf; omega
  have hl2 : f.leastPlace ≤ lastOf f m e := by unfold lastOf; omega
  have hl3 : lastOf f m e ≤ f.leastPlace + 2 ^ f.exponentBits - 3 := by unfold lastOf; omega
  have hlog : (m * 2 ^ (e - lastOf f m e).toNat).log2 = m.log2 + (e - lastOf f m e).toNat := log2_scale hm _
  have hM0 : m * 2 ^ (e - lastOf f m e).toNat ≠ 0 := Nat.mul_ne_zero hm (Nat.ne_of_gt (Nat.two_pow_pos _))
  have hM : m * 2 ^ (e - lastOf f m e).toNat < 2 * f.binade := by
    have h1 : m.log2 + (e - lastOf f m e).toNat ≤ f.fractionBits := by unfold lastOf; omega
    have := @Nat.lt_log2_self (m * 2 ^ (e - lastOf f m e).toNat)
    rw [hlog] at this
    calc _ < _ := this
      _ ≤ 2 ^ (f.fractionBits + 1) := Nat.pow_le_pow_right (by omega) (by omega)
      _ = 2 * f.binade := by rw [Nat.pow_succ, ← hb]; omega
  have hfull : f.leastPlace < lastOf f m e → f.binade ≤ m * 2 ^ (e - lastOf f m e).toNat := by
    intro h
    have h1 : m.log2 + (e - lastOf f m e).toNat = f.fractionBits := by unfold lastOf at h ⊢; omega
    have := Nat.log2_self_le hM0
    rw [hlog, h1, ← hb] at this
    exact this
  have hn : f.nearest s m e = f.word s (min ((lastOf f m e - f.leastPlace).toNat * f.binade + m * 2 ^ (e - lastOf f m e).toNat) f.infRung) := by
    unfold Ieee.Format.nearest
    rw [if_neg hm]
    show f.word s (min ((lastOf f m e - f.leastPlace).toNat * f.binade + Ieee.Toward.even.cut s (m <<< (e - lastOf f m e).toNat) (lastOf f m e - e).toNat) f.infRung) = _
    rw [show (lastOf f m e - e).toNat = 0 by omega, cut_zero, Nat.shiftLeft_eq]
  generalize hM' : m * 2 ^ (e - lastOf f m e).toNat = M at *
  generalize hq : (lastOf f m e - f.leastPlace).toNat = q at *
  have hq2 : q + 3 ≤ 2 ^ f.exponentBits := by
    have : (q : Int) + 3 ≤ ((2 ^ f.exponentBits : Nat) : Int) := by push_cast; omega
    exact_mod_cast this
  have hr : q * f.binade + M < f.infRung := by
    unfold Ieee.Format.infRung
    have h1 : (q + 2) * f.binade ≤ (2 ^ f.exponentBits - 1) * f.binade := Nat.mul_le_mul_right _ (by omega)
    rw [Nat.add_mul] at h1
    omega
  have hs : f.infRung < f.signWeight := Ieee.Format.infRung_lt _
  rw [Nat.min_eq_left (Nat.le_of_lt hr)] at hn
  rw [hn]
  have hmod := word_mod f s (r := q * f.binade + M) (by omega)
  refine ⟨?_, by rw [hmod]; exact hr⟩
  have hsg : (f.word s (q * f.binade + M) / f.signWeight % 2 == 1) = s := by
    unfold Ieee.Format.word
    cases s
    · simp [Nat.div_eq_of_lt (show q * f.binade + M < f.signWeight by omega)]
    · simp [Nat.add_div_left _ (show 0 < f.signWeight by omega), Nat.div_eq_of_lt (show q * f.binade + M < f.signWeight by omega)]
  unfold Ieee.Format.read
  simp only [hmod, hsg]
  by_cases hsub : q * f.binade + M < f.binade
  · rw [if_pos hsub]
    have hq0 : q = 0 := by
      apply Nat.eq_zero_of_not_pos
      intro h
      have : 1 * f.binade ≤ q * f.binade := Nat.mul_le_mul_right _ h
      omega
    rw [hq0]
    congr 1
    · simp
    · omega
  · rw [if_neg hsub, if_pos hr]
    have hMb : f.binade ≤ M := by
      by_cases h : f.leastPlace < lastOf f m e
      · exact hfull h
      · have : q = 0 := by omega
        rw [this] at hsub; omega
    have e1 : (q * f.binade + M) % f.binade = M - f.binade := by
      rw [Nat.mul_add_mod_self_right, Nat.mod_eq_sub_mod hMb, Nat.mod_eq_of_lt (by omega)]
    have e2 : (q * f.binade + M) / f.binade = q + 1 := by
      rw [Nat.mul_comm, Nat.mul_add_div hbp]
      congr 1
      rw [show M = f.binade + (M - f.binade) by omega, Nat.add_div_left _ hbp, Nat.div_eq_of_lt (by omega)]
    rw [e1, e2]
    congr 1
    · omega
    · omega

/-- What is read is written back. -/
theorem write_read (f : Ieee.Format) (hx : 2 ≤ f.exponentBits) (b : Nat) {s : Bool} {m : Nat} {e : Int} (h : f.read b = .number s m e) : f.nearest s m e = f.word s (b % f.signWeight) := by
  have hb : f.binade = 2 ^ f.fractionBits := rfl
  have hbp : 0 < f.binade := by rw [hb]; exact Nat.two_pow_pos _
  have hx4 : 4 ≤ 2 ^ f.exponentBits := Nat.pow_le_pow_right (n := 2) (by omega) hx
  have hinf : f.binade ≤ f.infRung := by
    unfold Ieee.Format.infRung
    exact Nat.le_mul_of_pos_left _ (by omega)
  unfold Ieee.Format.read at h
  dsimp only at h
  generalize b % f.signWeight = r at *
  split at h
  · rename_i h1
    simp only [Ieee.Datum.number.injEq] at h
    obtain ⟨_, rfl, rfl⟩ := h
    by_cases h0 : r = 0
    · subst h0; simp [Ieee.Format.nearest]
    · unfold Ieee.Format.nearest
      rw [if_neg h0]
      have h2 := h1
      rw [hb] at h2
      have := (Nat.log2_lt h0).2 h2
      rw [show max (f.leastPlace + (r.log2 : Int) - f.fractionBits) f.leastPlace = f.leastPlace by omega]
      simp only [Int.sub_self, Int.toNat_zero, Nat.shiftLeft_zero, cut_zero, Nat.zero_mul, Nat.zero_add]
      rw [Nat.min_eq_left (by omega)]
  · rename_i h1
    split at h
    · rename_i h2
      simp only [Ieee.Datum.number.injEq] at h
      obtain ⟨_, rfl, rfl⟩ := h
      have hlt := Nat.mod_lt r hbp
      have h0 : f.binade + r % f.binade ≠ 0 := by omega
      have e1 : (f.binade + r % f.binade).log2 = f.fractionBits := by
        refine (Nat.log2_eq_iff h0).2 ⟨?_, ?_⟩
        · rw [← hb]; omega
        · rw [Nat.pow_succ, ← hb]; omega
      have h3 : 1 ≤ r / f.binade := (Nat.le_div_iff_mul_le hbp).2 (by omega)
      unfold Ieee.Format.nearest
      rw [if_neg h0, e1]
      rw [show max (f.leastPlace + ((r / f.binade - 1 : Nat) : Int) + (f.fractionBits : Int) - f.fractionBits) f.leastPlace = f.leastPlace + ((r / f.binade - 1 : Nat) : Int) by omega]
      simp only [Int.sub_self, Int.toNat_zero, Nat.shiftLeft_zero, cut_zero]
      rw [show (f.leastPlace + ((r / f.binade - 1 : Nat) : Int) - f.leastPlace).toNat = r / f.binade - 1 by omega]
      have h4 : (r / f.binade - 1) * f.binade + (f.binade + r % f.binade) = r := by
        have h5 := Nat.div_add_mod r f.binade
        have h6 : (r / f.binade - 1) * f.binade + f.binade = r / f.binade * f.binade := by
          rw [← Nat.succ_mul]; congr 1; omega
        rw [Nat.mul_comm] at h5
        omega
      rw [h4, Nat.min_eq_left (by omega)]
    · split at h <;> cases h

theorem bits32 : FloatKind.f32.format.exponentBits = 8 ∧ FloatKind.f32.format.fractionBits = 23 ∧ FloatKind.f32.format.leastPlace = -149 ∧ FloatKind.f32.format.signWeight = 2147483648 ∧ FloatKind.f32.format.infRung = 2139095040 := by decide
theorem bits64 : FloatKind.f64.format.exponentBits = 11 ∧ FloatKind.f64.format.fractionBits = 52 ∧ FloatKind.f64.format.leastPlace = -1074 ∧ FloatKind.f64.format.signWeight = 9223372036854775808 ∧ FloatKind.f64.format.infRung = 9218868437227405312 := by decide

/-- What a narrow number's datum is made of. -/
theorem read32 {b : Nat} {s : Bool} {m : Nat} {e : Int} (h : FloatKind.f32.format.read b = .number s m e) : -149 ≤ e ∧ (m ≠ 0 → m.log2 ≤ 23 ∧ e + m.log2 + 1 ≤ 128) := by
  refine ⟨?_, fun h0 => ⟨?_, lt32 h h0⟩⟩
  all_goals
    have e1 : Ieee.single.signWeight = 2147483648 := by decide
    have e2 : Ieee.single.infRung = 2139095040 := by decide
    have e3 : Ieee.single.binade = 8388608 := by decide
    have e4 : Ieee.single.leastPlace = -149 := by decide
    simp only [FloatKind.format, Ieee.Format.read, e1, e2, e3, e4] at h
    split at h
    · simp only [Ieee.Datum.number.injEq] at h
      obtain ⟨_, rfl, rfl⟩ := h
      first | omega | (have : (b % 2147483648).log2 < 23 := (Nat.log2_lt h0).2 (by omega)
                       omega)
    · split at h
      · simp only [Ieee.Datum.number.injEq] at h
        obtain ⟨_, rfl, rfl⟩ := h
        first | omega | (have : (8388608 + b % 2147483648 % 8388608).log2 < 24 := (Nat.log2_lt h0).2 (by omega)
                         omega)
      · split at h <;> cases h

/-- A narrow number is widened exactly. -/
theorem read_widen {b : Nat} {s : Bool} {m : Nat} {e : Int} (h : FloatKind.f32.format.read b = .number s m e) :
    ∃ j : Nat, ∃ e', FloatKind.f64.format.read (widen b) = .number s (m * 2 ^ j) e' ∧ (m ≠ 0 → e' = e - j) ∧ widen b % 9223372036854775808 < 9218868437227405312 := by
  obtain ⟨b1, b2, b3, b4, b5⟩ := bits64
  obtain ⟨h1, h2⟩ := read32 h
  have hw : widen b = FloatKind.f64.format.nearest s m e := by simp only [widen, h]; rfl
  rw [hw]
  by_cases hm : m = 0
  · subst hm
    refine ⟨0, -1074, ?_, fun h => absurd rfl h, ?_⟩
    · cases s <;> simp [Ieee.Format.nearest, Ieee.Format.word] <;> decide
    · cases s <;> simp [Ieee.Format.nearest, Ieee.Format.word] <;> decide
  · obtain ⟨h3, h4⟩ := h2 hm
    obtain ⟨h5, h6⟩ := read_nearest FloatKind.f64.format s m e hm (by omega) (by omega) (by rw [b1, b2, b3]; omega) (by omega)
    rw [b4, b5] at h6
    refine ⟨_, _, h5, fun _ => ?_, h6⟩
    have : lastOf FloatKind.f64.format m e ≤ e := by unfold lastOf; omega
    omega
end Go.Fk
namespace Go.Fk
open Go Go.RowKit
theorem read_mod {k : FloatKind} {b : Nat} {s : Bool} {m : Nat} {e : Int} (h : k.format.read b = .number s m e) : k.format.read (b % k.format.signWeight) = .number false m e := by
  have hs : 0 < k.format.signWeight := by unfold Ieee.Format.signWeight; exact Nat.two_pow_pos _
  have e1 : (b % k.format.signWeight / k.format.signWeight % 2 == 1) = false := by
    rw [Nat.div_eq_of_lt (Nat.mod_lt _ hs)]; rfl
  unfold Ieee.Format.read at h ⊢
  dsimp only at h ⊢
  rw [e1, Nat.mod_mod]
  generalize b % k.format.signWeight = r at *
  split
  · rename_i h1
    rw [if_pos h1] at h
    simp only [Ieee.Datum.number.injEq] at h ⊢
    exact ⟨trivial, h.2⟩
  · rename_i h1
    rw [if_neg h1] at h
    split
    · rename_i h2
      rw [if_pos h2] at h
      simp only [Ieee.Datum.number.injEq] at h ⊢
      exact ⟨trivial, h.2⟩
    · rename_i h2
      rw [if_neg h2] at h
      split at h <;> cases h

/-- May be narrowed: what the language fixes, whole range. -/
def narrowableX (b : Nat) : Prop := ∀ s m e, FloatKind.f64.format.read b = .number s m e → (FloatKind.f32.decode (FloatKind.f32.encode (.number s m e))).isInfinity = false

/-- The size of a narrow number, by way of the wide ones. -/
theorem narrow_abs {b w : Nat} (hw : can .f64 w = can .f64 (widen b)) : narrowableX (w % 9223372036854775808) ∧ can .f32 (narrow (w % 9223372036854775808)) = can .f32 (b % 2147483648) := by
  obtain ⟨a1, a2, a3, a4, a5⟩ := bits32
  obtain ⟨b1, b2, b3, b4, b5⟩ := bits64
  cases hr : FloatKind.f32.format.read b with
  | nan s t =>
    have hn : isNan .f32 b = true := by simp [isNan, hr, Ieee.Datum.isNaN]
    have hq : widen b = qnan .f64 := by simp only [widen, hr]
    have hwn : isNan .f64 w = true := by rw [isNan_of_can hw, hq]; exact isNan_qnan _
    have hm : isNan .f64 (w % 9223372036854775808) = true := by rw [isNan_f64] at hwn ⊢; rwa [Nat.mod_mod]
    have hm2 : isNan .f32 (b % 2147483648) = true := by rw [isNan_f32] at hn ⊢; rwa [Nat.mod_mod]
    obtain ⟨s', t', hr'⟩ := read_nan hm
    refine ⟨fun s1 m1 e1 h => (by rw [hr'] at h; cases h), ?_⟩
    rw [can_of_nan hm2]
    simp only [narrow, hr', can_qnan]
  | infinity s =>
    have hb : b % 2147483648 = 2139095040 := by
      have e1 : Ieee.single.signWeight = 2147483648 := by decide
      have e2 : Ieee.single.infRung = 2139095040 := by decide
      simp only [FloatKind.format, Ieee.Format.read, e1, e2] at hr
      split at hr
      · cases hr
      · split at hr
        · cases hr
        · split at hr
          · assumption
          · cases hr
    have hq : widen b = FloatKind.f64.encode (.infinity s) := by simp only [widen, hr]
    have hwq : w = FloatKind.f64.encode (.infinity s) := by
      rw [hq] at hw
      exact (eq_of_can hw.symm (by cases s <;> decide)).symm
    rw [hwq, hb]
    have e1 : FloatKind.f64.format.read (FloatKind.f64.encode (.infinity s) % 9223372036854775808) = .infinity false := by cases s <;> decide
    refine ⟨fun s1 m1 e1' h => (by rw [e1] at h; cases h), ?_⟩
    simp only [narrow, e1]
    decide
  | number s m e =>
    obtain ⟨j, e', h1, h2, h3⟩ := read_widen hr
    have hwq : w = widen b := by
      refine (eq_of_can hw.symm ?_).symm
      simp [isNan, h1, Ieee.Datum.isNaN]
    rw [hwq]
    have h4 := read_mod h1
    have h5 := read_mod hr
    rw [b4] at h4
    rw [a4] at h5
    have h6 : FloatKind.f32.format.nearest false (m * 2 ^ j) e' = b % 2147483648 := by
      have h7 := write_read FloatKind.f32.format (by omega) (b % 2147483648) h5
      rw [a4, Nat.mod_mod] at h7
      by_cases hm : m = 0
      · subst hm
        rw [Nat.zero_mul]
        exact (show FloatKind.f32.format.nearest false 0 e' = FloatKind.f32.format.nearest false 0 e by simp [Ieee.Format.nearest]).trans h7
      · rw [h2 hm, nearest_scale, h7]; rfl
    have h8 : FloatKind.f32.encode (.number false (m * 2 ^ j) e') = b % 2147483648 := h6
    refine ⟨fun s1 m1 e1 h => ?_, ?_⟩
    · rw [h4] at h
      cases h
      rw [h8]
      have : FloatKind.f32.decode (b % 2147483648) = .number false m e := h5
      rw [this]; rfl
    · have : narrow (widen b % 9223372036854775808) = FloatKind.f32.encode (.number false (m * 2 ^ j) e') := by simp only [narrow, h4]
      rw [this, h8]

section
variable {P : Program}
theorem run_narrowX (w : World) (src dst : TypeId) (b : Nat) (hs : P.underlying src = some (.float .f64)) (hd : P.underlying dst = some (.float .f32)) (hb : narrowableX b) :
    ∃ r n, (convert src dst (.float .f64 b)).run P w = .ok (.float .f32 r) (w.drewN n) ∧ can .f32 r = can .f32 (narrow b) ∧ fits .f32 r := by
  cases hr : FloatKind.f64.format.read b with
  | nan s t =>
    refine ⟨(Question.nanConv .f32 b).cut (w.tape w.drawn (.nanConv .f32 b)), 1, ?_, ?_, (nan_conv .f32 b _).2⟩
    · simp [convert, run_underlying hs, run_underlying hd, Conv.floatToFloat, FloatKind.decode, hr, Question.forced]; rfl
    · rw [can_of_nan (nan_conv .f32 b _).1]; simp only [narrow, hr, can_qnan]
  | infinity s =>
    refine ⟨FloatKind.f32.encode (.infinity s), 0, ?_, by simp only [narrow, hr], encode_wf _ _⟩
    simp [convert, run_underlying hs, run_underlying hd, Conv.floatToFloat, FloatKind.decode, hr]; rfl
  | number s m e =>
    refine ⟨FloatKind.f32.encode (.number s m e), 0, ?_, by simp only [narrow, hr], encode_wf _ _⟩
    have h := hb s m e hr
    have hr' : FloatKind.f64.decode b = .number s m e := hr
    simp [convert, run_underlying hs, run_underlying hd, Conv.floatToFloat, hr', h]; rfl

variable {w : World} {ops : Array Oper} {rest : List Oper} {o : Oper} {a : Act} {Q : Exit → Act → World → Prop}
theorem wpList_narrowX (hg : o.guard = none) {src dst : TypeId} {x : Operand} (hop : o.op = Op.convert src dst x) {b : Nat} (hx : a.eval x = .float .f64 b)
    (hs : P.underlying src = some (.float .f64)) (hd : P.underlying dst = some (.float .f32)) (hb : narrowableX b)
    (hK : ∀ r n, Hid (can .f32 r = can .f32 (narrow b)) → Hid (fits .f32 r) → wpList P ops Q rest (a.put o.dst (.float .f32 r)) (w.drewN n)) : wpList P ops Q (o :: rest) a w := by
  refine wpList_plain hg fun K hK' => ?_
  obtain ⟨r, n, hrun, hr, hf⟩ := run_narrowX (P := P) w src dst b hs hd hb
  unfold Oper.wp
  simp [execOp, hop, hx, hrun, Result.andThen]
  exact hK' _ _ (hK r n hr hf)
end
end Go.Fk

/- The place in a table: a number of 0 to 1, times 256, and its integer. Nothing here names a program. -/
namespace Go.Fk
open Go Go.RowKit
def one32 : Int := 2 ^ unitOf .f32
theorem one32_pos : 0 < one32 := Int.pow_pos (by omega)
theorem far32 : 9223372036854775807 * one32 < (far : Int) := by decide +kernel
theorem far32' : -(far : Int) < -9223372036854775808 * one32 := by decide +kernel
theorem val_one : val .f32 1065353216 = one32 ∧ isNan .f32 1065353216 = false := by decide +kernel
theorem val_zero : val .f32 0 = 0 ∧ isNan .f32 0 = false := by decide +kernel
/-- A narrow float to an integer of 64 bits. -/
theorem floatToInt_val32 {b : Nat} (hn : isNan .f32 b = false) (hlo : -9223372036854775808 * one32 ≤ val .f32 b) (hhi : val .f32 b ≤ 9223372036854775807 * one32) :
    floatToIntVal .f32 b .i64 = some ((val .f32 b).tdiv one32) := by
  have hsmall := far32
  have hsmall' := far32'
  cases hr : FloatKind.f32.format.read b with
  | nan s t => simp [isNan, hr, Ieee.Datum.isNaN] at hn
  | infinity s =>
    have hv : val .f32 b = if s then -(far : Int) else far := by simp only [val, hr]
    rw [hv] at hlo hhi
    generalize (far : Int) = big at *
    cases s <;> simp at hlo hhi <;> omega
  | number s m e =>
    have ht := toInt_val hr
    unfold floatToIntVal
    rw [ht]
    have hU := one32_pos
    rw [show (2 : Int) ^ unitOf .f32 = one32 from rfl]
    generalize one32 = U at *
    generalize val .f32 b = v at *
    have h1 : IntKind.i64.min ≤ v.tdiv U := by
      have : IntKind.i64.min = (-9223372036854775808 * U).tdiv U := (Int.mul_tdiv_cancel _ (by omega)).symm
      rw [this]; exact Int.tdiv_le_tdiv hU hlo
    have h2 : v.tdiv U ≤ IntKind.i64.max := by
      have : IntKind.i64.max = (9223372036854775807 * U).tdiv U := (Int.mul_tdiv_cancel _ (by omega)).symm
      rw [this]; exact Int.tdiv_le_tdiv hU hhi
    simp only [h1, h2, and_self, if_true]
theorem val_nearest32 {s : Bool} {m : Nat} {e : Int} (hm : m ≠ 0) (hp : m.log2 ≤ 23) (he : -149 ≤ e) (ho : e + m.log2 ≤ 127) :
    val .f32 (FloatKind.f32.format.nearest s m e) = Ieee.signed s m (e + 149).toNat := by
  obtain ⟨b1, b2, b3, b4, b5⟩ := bits32
  obtain ⟨h5, _⟩ := read_nearest FloatKind.f32.format s m e hm (by omega) (by omega) (by rw [b1, b2, b3]; omega) (by omega)
  have h1 : lastOf FloatKind.f32.format m e ≤ e := by unfold lastOf; omega
  have h2 : -149 ≤ lastOf FloatKind.f32.format m e := by unfold lastOf; omega
  simp only [val, h5]
  rw [signed_eq, signed_eq]
  have hu : ((unitOf .f32 : Nat) : Int) = 149 := rfl
  rw [hu]
  generalize lastOf FloatKind.f32.format m e = last at *
  have e1 : (2 : Int) ^ (e + 149).toNat = 2 ^ (e - last).toNat * 2 ^ (last + 149).toNat := by
    rw [← Int.pow_add]; congr 1; omega
  rw [e1, Int.natCast_mul, Int.natCast_pow]
  cases s
  · simp [Int.mul_assoc]
  · simp [Int.mul_assoc, Int.neg_mul]
/-- The place of a number in a table. -/
def placeW (x : Nat) : Nat := fop .mul .f32 x 1132462080
def inUnit (x : Nat) : Bool := (FloatKind.f32.format.order x 0 == some .gt || FloatKind.f32.format.order x 0 == some .eq) && (FloatKind.f32.format.order x 1065353216 == some .lt || FloatKind.f32.format.order x 1065353216 == some .eq)
theorem inUnit_val {x : Nat} (h : inUnit x = true) : isNan .f32 x = false ∧ 0 ≤ val .f32 x ∧ val .f32 x ≤ one32 := by
  cases hn : isNan .f32 x
  · have h0 := order_val hn val_zero.2
    have h1 := order_val hn val_one.2
    unfold inUnit at h
    rw [h0, h1, val_zero.1, val_one.1] at h
    generalize one32 = U at *
    generalize val .f32 x = v at *
    refine ⟨rfl, ?_, ?_⟩
    · rcases Int.lt_trichotomy v 0 with c | c | c
      · rw [Int.compare_eq_lt.2 c] at h; simp at h
      · omega
      · omega
    · rcases Int.lt_trichotomy v U with c | c | c
      · omega
      · omega
      · rw [Int.compare_eq_gt.2 c] at h; simp at h
  · unfold inUnit at h
    rw [order_of_nan_l hn] at h
    simp at h
theorem place_val {x : Nat} (h : inUnit x = true) : isNan .f32 (placeW x) = false ∧ val .f32 (placeW x) = val .f32 x * 256 := by
  obtain ⟨hn, h0, h1⟩ := inUnit_val h
  have hc : FloatKind.f32.format.read 1132462080 = .number false 8388608 (-15) := by decide
  have hf := far32
  have hU := one32_pos
  cases hr : FloatKind.f32.format.read x with
  | nan s t => simp [isNan, hr, Ieee.Datum.isNaN] at hn
  | infinity s =>
    have hv : val .f32 x = if s then -(far : Int) else far := by simp only [val, hr]
    rw [hv] at h0 h1
    generalize (far : Int) = big at *
    cases s <;> simp at h0 h1 <;> omega
  | number s m e =>
    obtain ⟨he, hm⟩ := read32 hr
    have hb : floatBits .mul .f32 x 1132462080 = some (FloatKind.f32.format.nearest s m (e + 8)) := by
      have : floatBits .mul .f32 x 1132462080 = some (FloatKind.f32.format.nearest (s ^^ false) (m * 2 ^ 23) (e + -15)) := by
        simp only [floatBits, Ieee.Format.mul, hr, hc]; rfl
      rw [this, Bool.xor_false, ← nearest_scale _ s m 23 (e + 8), show e + 8 - ((23 : Nat) : Int) = e + -15 by omega]
    have hp : placeW x = FloatKind.f32.format.nearest s m (e + 8) := by
      unfold placeW fop
      rw [hb]
      exact can_of_not (isNan_nearest .f32 s m (e + 8))
    refine ⟨by rw [hp]; exact isNan_nearest .f32 s m (e + 8), ?_⟩
    have hv : val .f32 x = Ieee.signed s m (e + 149).toNat := by simp only [val, hr]; rfl
    rw [hp, hv]
    by_cases m0 : m = 0
    · subst m0
      have : FloatKind.f32.format.nearest s 0 (e + 8) = FloatKind.f32.format.word s 0 := by simp [Ieee.Format.nearest]
      rw [this, signed_eq]
      cases s <;> simp <;> decide
    · obtain ⟨hl, _⟩ := hm m0
      have hle : e + m.log2 ≤ 0 := by
        rw [hv, signed_eq] at h0 h1
        have hs : s = false := by
          cases s
          · rfl
          · simp only [if_true, Int.neg_mul] at h0
            have : 0 < (m : Int) * 2 ^ (e + 149).toNat := Int.mul_pos (by omega) (Int.pow_pos (by omega))
            omega
        subst hs
        simp only [Bool.false_eq_true, if_false] at h1
        have h2 : m * 2 ^ (e + 149).toNat ≤ 2 ^ 149 := by
          have h3 : ((m * 2 ^ (e + 149).toNat : Nat) : Int) ≤ ((2 ^ 149 : Nat) : Int) := by
            rw [Int.natCast_mul, Int.natCast_pow, Int.natCast_pow]; exact h1
          exact_mod_cast h3
        have h4 : 2 ^ (m.log2 + (e + 149).toNat) ≤ 2 ^ 149 := by
          rw [Nat.pow_add]
          exact Nat.le_trans (Nat.mul_le_mul_right _ (Nat.log2_self_le m0)) h2
        have h5 := (Nat.pow_le_pow_iff_right (a := 2) (by omega)).1 h4
        omega
      rw [val_nearest32 m0 hl (by omega) (by omega), signed_eq, signed_eq, show (e + 8 + 149).toNat = (e + 149).toNat + 8 by omega, Int.pow_add, Int.mul_assoc]
      rfl
/-- The index of a place. -/
def indexW (x : Nat) : Nat := ((val .f32 x * 256).tdiv one32).toNat
theorem place_int {x p : Nat} (h : inUnit x = true) (hp : can .f32 p = placeW x) : isNan .f32 p = false ∧ floatToIntVal .f32 p .i64 = some (indexW x : Int) ∧ indexW x ≤ 256 := by
  obtain ⟨hn, h0, h1⟩ := inUnit_val h
  obtain ⟨hn2, hv⟩ := place_val h
  have hpn : isNan .f32 p = false := by
    have := isNan_of_can (hp.trans (by unfold placeW; exact (can_fop _ _ _ _).symm) : can .f32 p = can .f32 (placeW x))
    rw [this, hn2]
  have e : p = placeW x := by rw [← can_of_not hpn, hp]
  have hU := one32_pos
  refine ⟨hpn, ?_, ?_⟩
  · rw [e, floatToInt_val32 hn2 (by rw [hv]; generalize one32 = U at *; omega) (by rw [hv]; generalize one32 = U at *; omega), hv]
    unfold indexW
    generalize one32 = U at *
    have : 0 ≤ (val .f32 x * 256).tdiv U := Int.tdiv_nonneg (by omega) (by omega)
    rw [Int.toNat_of_nonneg this]
  · unfold indexW
    generalize one32 = U at *
    have : (val .f32 x * 256).tdiv U ≤ (256 * U).tdiv U := Int.tdiv_le_tdiv hU (by omega)
    rw [Int.mul_tdiv_cancel _ (by omega)] at this
    omega
end Go.Fk

/- Whole numbers as floats, and what a number has above its whole part. Nothing here names a program. -/
namespace Go.Fk
open Go Go.RowKit
theorem val_int {k : Nat} (hk : k ≤ 4096) : val .f32 (floatOfInt .f32 (k : Int)) = (k : Int) * one32 := by
  have e : floatOfInt .f32 (k : Int) = FloatKind.f32.format.nearest false k 0 := by
    show FloatKind.f32.encode (.number (decide ((k : Int) < 0)) (k : Int).natAbs 0) = _
    rw [show decide ((k : Int) < 0) = false by simp, Int.natAbs_natCast]; rfl
  rw [e]
  by_cases h0 : k = 0
  · subst h0; decide +kernel
  · have hl : k.log2 ≤ 12 := Nat.le_of_lt_succ ((Nat.log2_lt h0).2 (by omega))
    rw [val_nearest32 h0 (by omega) (by omega) (by omega), signed_eq]
    simp only [Bool.false_eq_true, if_false, one32]
    rfl
theorem far_one : 4096 * one32 < (far : Int) := by decide +kernel
theorem finite_num {x : Nat} (hn : isNan .f32 x = false) (h1 : -(far : Int) < val .f32 x) (h2 : val .f32 x < far) : ∃ s m e, FloatKind.f32.format.read x = .number s m e := by
  cases hr : FloatKind.f32.format.read x with
  | nan s t => simp [isNan, hr, Ieee.Datum.isNaN] at hn
  | infinity s =>
    have hv : val .f32 x = if s then -(far : Int) else far := by simp only [val, hr]
    rw [hv] at h1 h2
    generalize (far : Int) = big at *
    cases s <;> simp at h1 h2
  | number s m e => exact ⟨s, m, e, rfl⟩
theorem sub_num {x y : Nat} {s t : Bool} {m n : Nat} {i j : Int} (hrx : FloatKind.f32.format.read x = .number s m i) (hry : FloatKind.f32.format.read y = .number t n j) :
    isNan .f32 (fop .sub .f32 x y) = false ∧ (val .f32 x = val .f32 y → FloatKind.f32.format.order (fop .sub .f32 x y) 0 = some .eq) := by
  obtain ⟨sg, hb⟩ : ∃ sg, floatBits .sub .f32 x y = some (FloatKind.f32.format.nearest sg (Ieee.signed s m (i - min i j).toNat + Ieee.signed (!t) n (j - min i j).toNat).natAbs (min i j)) := ⟨_, by
    simp only [floatBits, Ieee.Format.sub, hrx, hry, Ieee.Datum.opposite, Ieee.Datum.sum, Option.map_some]; rfl⟩
  have hf : fop .sub .f32 x y = FloatKind.f32.format.nearest sg (Ieee.signed s m (i - min i j).toNat + Ieee.signed (!t) n (j - min i j).toNat).natAbs (min i j) := by
    unfold fop; rw [hb]; exact can_of_not (isNan_nearest _ _ _ _)
  refine ⟨by rw [hf]; exact isNan_nearest _ _ _ _, fun h => ?_⟩
  have pi : -149 ≤ i := read_place hrx
  have pj : -149 ≤ j := read_place hry
  have vx : val .f32 x = Ieee.signed s m (i + 149).toNat := by simp only [val, hrx]; rfl
  have vy : val .f32 y = Ieee.signed t n (j + 149).toNat := by simp only [val, hry]; rfl
  have hneg : Ieee.signed (!t) n (j - min i j).toNat = -Ieee.signed t n (j - min i j).toNat := by
    unfold Ieee.signed; cases t <;> simp
  rw [hneg] at hf
  have e1 : val .f32 x - val .f32 y = (Ieee.signed s m (i - min i j).toNat + -Ieee.signed t n (j - min i j).toNat) * 2 ^ (min i j + 149).toNat := by
    rw [vx, vy, signed_eq, signed_eq, signed_eq, signed_eq, Int.add_mul, Int.neg_mul, Int.mul_assoc, Int.mul_assoc, ← Int.pow_add, ← Int.pow_add]
    rw [show (i - min i j).toNat + (min i j + 149).toNat = (i + 149).toNat by omega, show (j - min i j).toNat + (min i j + 149).toNat = (j + 149).toNat by omega]
    omega
  have hT : Ieee.signed s m (i - min i j).toNat + -Ieee.signed t n (j - min i j).toNat = 0 := by
    have h0 : (Ieee.signed s m (i - min i j).toNat + -Ieee.signed t n (j - min i j).toNat) * 2 ^ (min i j + 149).toNat = 0 := by rw [← e1, h]; omega
    exact (Int.mul_eq_zero.1 h0).resolve_right (Int.ne_of_gt (Int.pow_pos (by omega)))
  rw [hf, hT, Int.natAbs_zero]
  have : FloatKind.f32.format.nearest sg 0 (min i j) = FloatKind.f32.format.word sg 0 := by simp [Ieee.Format.nearest]
  rw [this]
  cases sg <;> decide +kernel
/-- A number's whole part. -/
def wholeW (d : Nat) : Nat := ((val .f32 d).tdiv one32).toNat
/-- What a number has above its whole part. -/
def shareW (d : Nat) : Nat := fop .sub .f32 d (floatOfInt .f32 (wholeW d : Int))
theorem into_val {d n : Nat} (hn : n ≤ 4096) (h : withinB d 1065353216 (floatOfInt .f32 (n : Int)) = true) : isNan .f32 d = false ∧ one32 ≤ val .f32 d ∧ val .f32 d ≤ n * one32 := by
  cases hd : isNan .f32 d
  · have h0 := order_val hd val_one.2
    have h1 := order_val hd (isNan_int (n : Int))
    unfold withinB at h
    rw [h0, h1, val_one.1, val_int hn] at h
    generalize one32 = U at *
    generalize val .f32 d = v at *
    generalize (n : Int) * U = T at *
    refine ⟨rfl, ?_, ?_⟩
    · rcases Int.lt_trichotomy v U with c | c | c
      · rw [Int.compare_eq_lt.2 c] at h; simp at h
      · omega
      · omega
    · rcases Int.lt_trichotomy v T with c | c | c
      · omega
      · omega
      · rw [Int.compare_eq_gt.2 c] at h; simp at h
  · unfold withinB at h
    rw [order_of_nan_l hd] at h
    simp at h
theorem into_int {d n : Nat} (hn : n ≤ 4096) (h : withinB d 1065353216 (floatOfInt .f32 (n : Int)) = true) :
    floatToIntVal .f32 d .i64 = some (wholeW d : Int) ∧ 1 ≤ wholeW d ∧ wholeW d ≤ n := by
  obtain ⟨hd, h0, h1⟩ := into_val hn h
  have hU := one32_pos
  have e1 : one32.tdiv one32 ≤ (val .f32 d).tdiv one32 := Int.tdiv_le_tdiv hU h0
  have e2 : (val .f32 d).tdiv one32 ≤ (n * one32).tdiv one32 := Int.tdiv_le_tdiv hU h1
  rw [Int.mul_tdiv_cancel _ (by omega)] at e2
  rw [Int.tdiv_self (by omega)] at e1
  have hn' : (n : Int) * one32 ≤ 9223372036854775807 * one32 := Int.mul_le_mul_of_nonneg_right (by omega) (by omega)
  refine ⟨?_, ?_, ?_⟩
  · rw [floatToInt_val32 hd (by omega) (by omega)]
    unfold wholeW
    rw [Int.toNat_of_nonneg (by omega)]
  · unfold wholeW; omega
  · unfold wholeW; omega
theorem into_share {d n : Nat} (hn : n ≤ 4096) (h : withinB d 1065353216 (floatOfInt .f32 (n : Int)) = true) :
    isNan .f32 (shareW d) = false ∧ ((FloatKind.f32.format.order (shareW d) 0 == some .eq) = false → wholeW d + 1 ≤ n) := by
  obtain ⟨hd, h0, h1⟩ := into_val hn h
  obtain ⟨_, k0, k1⟩ := into_int hn h
  have hU := one32_pos
  have hf := far_one
  have hn' : (n : Int) * one32 ≤ 4096 * one32 := Int.mul_le_mul_of_nonneg_right (by omega) (by omega)
  have hk' : (wholeW d : Int) * one32 ≤ 4096 * one32 := Int.mul_le_mul_of_nonneg_right (by omega) (by omega)
  have hk0 : 0 ≤ (wholeW d : Int) * one32 := Int.mul_nonneg (by omega) (by omega)
  obtain ⟨s, m, i, hr⟩ := finite_num hd (by omega) (by omega)
  obtain ⟨t, q, j, hr2⟩ := finite_num (isNan_int (wholeW d : Int)) (by rw [val_int (by omega)]; omega) (by rw [val_int (by omega)]; omega)
  obtain ⟨g1, g2⟩ := sub_num hr hr2
  refine ⟨g1, fun hz => ?_⟩
  apply Classical.byContradiction
  intro hc
  have hk : wholeW d = n := by omega
  have : val .f32 d = val .f32 (floatOfInt .f32 (wholeW d : Int)) := by
    rw [val_int (by omega), hk]
    have e3 : (wholeW d : Int) * one32 ≤ val .f32 d := by
      have e4 : (wholeW d : Int) = (val .f32 d).tdiv one32 := by unfold wholeW; rw [Int.toNat_of_nonneg (Int.tdiv_nonneg (by omega) (by omega))]
      rw [e4]
      rw [Int.tdiv_eq_ediv_of_nonneg (by omega)]
      exact Int.ediv_mul_le _ (by omega)
    rw [hk] at e3
    omega
  have hz' := g2 this
  unfold shareW at hz
  rw [hz'] at hz
  simp at hz
end Go.Fk

/- Bounds of what is rounded to the nearest narrow float. Nothing here names a program. -/
namespace Go.Fk
open Go Go.RowKit
/-- The size of a rung, in the least units. -/
def rv (r : Nat) : Nat := if r < 8388608 then r else (8388608 + r % 8388608) * 2 ^ (r / 8388608 - 1)
theorem f32_nums : FloatKind.f32.format.signWeight = 2147483648 ∧ FloatKind.f32.format.binade = 8388608 ∧ FloatKind.f32.format.infRung = 2139095040 ∧ FloatKind.f32.format.leastPlace = -149 ∧ FloatKind.f32.format.fractionBits = 23 := by decide
theorem val_word (s : Bool) {r : Nat} (h : r < 2139095040) : val .f32 (FloatKind.f32.format.word s r) = if s then -(rv r : Int) else (rv r : Int) := by
  obtain ⟨e1, e2, e3, e4, e5⟩ := f32_nums
  have hrung : FloatKind.f32.format.word s r % FloatKind.f32.format.signWeight = r := word_mod _ _ (by rw [e1]; omega)
  have hneg : (FloatKind.f32.format.word s r / FloatKind.f32.format.signWeight % 2 == 1) = s := by
    unfold Ieee.Format.word
    rw [e1]
    cases s
    · simp; omega
    · simp; omega
  have hu : (unitOf .f32 : Int) = 149 := rfl
  unfold val Ieee.Format.read
  rw [hrung, hneg, e2, e3, e4]
  dsimp only
  unfold rv
  by_cases h1 : r < 8388608
  · rw [if_pos h1, if_pos h1]
    simp only [signed_eq]
    rw [hu]
    cases s <;> simp
  · rw [if_neg h1, if_neg h1, if_pos h]
    simp only [signed_eq]
    rw [hu, show (-149 + ((r / 8388608 - 1 : Nat) : Int) + 149).toNat = r / 8388608 - 1 by omega]
    cases s
    · simp
    · simp [Int.neg_mul]
theorem rv_le {r c : Nat} (hc : 1 ≤ c) (h : r ≤ c * 8388608) : rv r ≤ 2 ^ (22 + c) := by
  unfold rv
  have hB : (8388608 : Nat) = 2 ^ 23 := by decide
  split
  · calc r ≤ 2 ^ 23 := by omega
      _ ≤ 2 ^ (22 + c) := Nat.pow_le_pow_right (by omega) (by omega)
  · rename_i h1
    have hq : r / 8388608 ≤ c := Nat.div_le_of_le_mul (by omega)
    rcases Nat.lt_or_ge (r / 8388608) c with h2 | h2
    · calc (8388608 + r % 8388608) * 2 ^ (r / 8388608 - 1) ≤ 2 ^ 24 * 2 ^ (r / 8388608 - 1) := Nat.mul_le_mul_right _ (by have := Nat.mod_lt r (show 0 < 8388608 by decide); omega)
        _ = 2 ^ (24 + (r / 8388608 - 1)) := by rw [← Nat.pow_add]
        _ ≤ 2 ^ (22 + c) := Nat.pow_le_pow_right (by omega) (by omega)
    · have h3 : r % 8388608 = 0 := by omega
      rw [h3, Nat.add_zero, hB, ← Nat.pow_add, ← hB]
      exact Nat.pow_le_pow_right (by omega) (by omega)
theorem rv_ge {r c : Nat} (hc : 1 ≤ c) (h : c * 8388608 ≤ r) : 2 ^ (22 + c) ≤ rv r := by
  unfold rv
  have hB : (8388608 : Nat) = 2 ^ 23 := by decide
  have hq : c ≤ r / 8388608 := (Nat.le_div_iff_mul_le (by decide)).2 h
  rw [if_neg (by omega)]
  calc 2 ^ (22 + c) ≤ 2 ^ (23 + (r / 8388608 - 1)) := Nat.pow_le_pow_right (by omega) (by omega)
    _ = 8388608 * 2 ^ (r / 8388608 - 1) := by rw [Nat.pow_add, ← hB]
    _ ≤ _ := Nat.mul_le_mul_right _ (by omega)
theorem cut_ge (s : Bool) (n d : Nat) : n / 2 ^ d ≤ Ieee.Toward.even.cut s n d := by
  have h : n / 2 ^ d ≤ n / 1 <<< min d (n.log2 + 2) := by
    rw [Nat.one_shiftLeft]
    exact Nat.div_le_div_left (Nat.pow_le_pow_right (by omega) (Nat.min_le_left _ _)) (Nat.two_pow_pos _)
  show n / 2 ^ d ≤ n / 1 <<< min d (n.log2 + 2) + _
  exact Nat.le_trans h (Nat.le_add_right _ _)
/-- What is nearest to a number below '2 ^ A' is at most this. -/
theorem near_le (s : Bool) {m : Nat} {e A : Int} (hm : m ≠ 0) (hA : e + m.log2 + 1 ≤ A) (h1 : -125 ≤ A) (h2 : A ≤ 126) : ∃ v : Nat, val .f32 (FloatKind.f32.format.nearest s m e) = (if s then -(v : Int) else (v : Int)) ∧ v ≤ 2 ^ (A + 149).toNat := by
  obtain ⟨e1, e2, e3, e4, e5⟩ := f32_nums
  obtain ⟨r, hr, h3, h4⟩ := nearest_rung FloatKind.f32.format s m e A hm hA (by rw [e4, e5]; omega)
  rw [e2, e4, e5] at h4
  have h5 : r ≤ (A + 127).toNat * 8388608 := by
    have e : (A - ((23 : Nat) : Int) - -149 + 1) = A + 127 := by omega
    rw [e] at h4
    omega
  have h7 : r < 2139095040 := by
    have : (A + 127).toNat ≤ 253 := by omega
    omega
  refine ⟨rv r, by rw [hr, val_word s h7], ?_⟩
  have := rv_le (r := r) (c := (A + 127).toNat) (by omega) h5
  rwa [show 22 + (A + 127).toNat = (A + 149).toNat by omega] at this
theorem aux_min {c l k B M : Nat} (h1 : c ≤ l + 1) (h2 : B ≤ k) (h3 : c ≤ 253) (h4 : 253 * B ≤ M) : c * B ≤ min (l * B + k) M := by
  refine Nat.le_min.2 ⟨?_, Nat.le_trans (Nat.mul_le_mul_right _ h3) h4⟩
  calc c * B ≤ (l + 1) * B := Nat.mul_le_mul_right _ h1
    _ = l * B + B := Nat.succ_mul _ _
    _ ≤ _ := Nat.add_le_add_left h2 _
/-- What is nearest to a number of at least '2 ^ C' is at least this. -/
theorem near_ge (s : Bool) {m : Nat} {e A C : Int} (hm : m ≠ 0) (hA : e + m.log2 + 1 ≤ A) (h1 : -125 ≤ C) (h2 : A ≤ 126) (hC : C ≤ e + m.log2) : ∃ v : Nat, val .f32 (FloatKind.f32.format.nearest s m e) = (if s then -(v : Int) else (v : Int)) ∧ v ≤ 2 ^ (A + 149).toNat ∧ 2 ^ (C + 149).toNat ≤ v := by
  obtain ⟨e1, e2, e3, e4, e5⟩ := f32_nums
  obtain ⟨v, hv, hle⟩ := near_le s hm hA (by omega) h2
  refine ⟨v, hv, hle, ?_⟩
  obtain ⟨r, hr, h3, h4⟩ := nearest_rung FloatKind.f32.format s m e A hm hA (by rw [e4, e5]; omega)
  have hr' := hr
  unfold Ieee.Format.nearest at hr
  rw [if_neg hm, e2, e3, e4, e5] at hr
  simp only [] at hr
  generalize hlast : max (e + (m.log2 : Int) - ((23 : Nat) : Int)) (-149) = last at hr
  have hl2 : last = e + m.log2 - 23 := by omega
  generalize hk : Ieee.Toward.even.cut s (m <<< (e - last).toNat) (last - e).toNat = kept at hr
  have hkept : 8388608 ≤ kept := by
    rw [← hk]
    refine Nat.le_trans ?_ (cut_ge _ _ _)
    rw [Nat.shiftLeft_eq]
    have hm2 := Nat.log2_self_le hm
    rw [Nat.le_div_iff_mul_le (Nat.two_pow_pos _)]
    have hB : (8388608 : Nat) = 2 ^ 23 := by decide
    calc 8388608 * 2 ^ (last - e).toNat = 2 ^ (23 + (last - e).toNat) := by rw [Nat.pow_add, ← hB]
      _ ≤ 2 ^ (m.log2 + (e - last).toNat) := Nat.pow_le_pow_right (by omega) (by omega)
      _ = 2 ^ m.log2 * 2 ^ (e - last).toNat := by rw [Nat.pow_add]
      _ ≤ m * 2 ^ (e - last).toNat := Nat.mul_le_mul_right _ hm2
  have hge : (C + 127).toNat * 8388608 ≤ min ((last - -149).toNat * 8388608 + kept) 2139095040 := by
    have h5 : (C + 127).toNat ≤ (last - -149).toNat + 1 := by omega
    have h7 : (C + 127).toNat ≤ 253 := by omega
    exact aux_min h5 hkept h7 (by decide)
  generalize min ((last - -149).toNat * 8388608 + kept) 2139095040 = q at hr hge
  have hq : r = q := by
    unfold Ieee.Format.word at hr
    split at hr <;> omega
  subst hq
  rw [hr', ] at hv
  have h7 : r < 2139095040 := by
    rw [e2, e4, e5] at h4
    have e : (A - ((23 : Nat) : Int) - -149 + 1) = A + 127 := by omega
    rw [e] at h4
    omega
  rw [val_word s h7] at hv
  have hvr : v = rv r := by cases s <;> simp at hv <;> omega
  rw [hvr]
  have := rv_ge (r := r) (c := (C + 127).toNat) (by omega) hge
  rwa [show 22 + (C + 127).toNat = (C + 149).toNat by omega] at this
end Go.Fk

/- Places and periods as numbers. Nothing here names a program. -/
namespace Go.Fk
open Go Go.RowKit
theorem within_val {x a b : Nat} (ha : isNan .f32 a = false) (hb : isNan .f32 b = false) (h : withinB x a b = true) : isNan .f32 x = false ∧ val .f32 a ≤ val .f32 x ∧ val .f32 x ≤ val .f32 b := by
  cases hd : isNan .f32 x
  · have h0 := order_val hd ha
    have h1 := order_val hd hb
    unfold withinB at h
    rw [h0, h1] at h
    generalize val .f32 x = v at *
    generalize val .f32 a = U at *
    generalize val .f32 b = T at *
    refine ⟨rfl, ?_, ?_⟩
    · rcases Int.lt_trichotomy v U with c | c | c
      · rw [Int.compare_eq_lt.2 c] at h; simp at h
      · omega
      · omega
    · rcases Int.lt_trichotomy v T with c | c | c
      · omega
      · omega
      · rw [Int.compare_eq_gt.2 c] at h; simp at h
  · unfold withinB at h
    rw [order_of_nan_l hd] at h
    simp at h
theorem val_3 : val .f32 1077936128 = 3 * 2 ^ 149 ∧ isNan .f32 1077936128 = false := by decide +kernel
theorem val_1024 : val .f32 1149239296 = 2 ^ 159 ∧ isNan .f32 1149239296 = false := by decide +kernel
theorem val_half : val .f32 1056964608 = 2 ^ 148 ∧ isNan .f32 1056964608 = false := by decide +kernel
theorem one_pow : one32 = 2 ^ 149 := rfl
theorem far_159 : (2 : Int) ^ 160 < (far : Int) := by decide +kernel
theorem pow2_of {m a b : Nat} (h : m * 2 ^ a = 2 ^ (m.log2 + a)) : m = 2 ^ m.log2 := by
  rw [Nat.pow_add] at h
  exact Nat.eq_of_mul_eq_mul_right (Nat.two_pow_pos a) h
/-- What is nearest to a number from 2 to 1024. -/
theorem near_in {m : Nat} {e : Int} (he : -149 ≤ e) (h1 : 2 ^ 150 ≤ m * 2 ^ (e + 149).toNat) (h2 : m * 2 ^ (e + 149).toNat ≤ 2 ^ 159) :
    2 ^ 150 ≤ val .f32 (FloatKind.f32.format.nearest false m e) ∧ val .f32 (FloatKind.f32.format.nearest false m e) ≤ 2 ^ 159 := by
  have hm : m ≠ 0 := by
    rintro rfl
    rw [Nat.zero_mul] at h1
    exact absurd h1 (by decide)
  have hlo : 150 ≤ m.log2 + (e + 149).toNat := by
    have a := @Nat.lt_log2_self m
    have b : 2 ^ 150 < 2 ^ (m.log2 + 1 + (e + 149).toNat) := by
      rw [Nat.pow_add]
      exact Nat.lt_of_le_of_lt h1 (Nat.mul_lt_mul_of_pos_right a (Nat.two_pow_pos _))
    have := (Nat.pow_lt_pow_iff_right (a := 2) (by omega)).1 b
    omega
  have hhi : m.log2 + (e + 149).toNat ≤ 159 := by
    have a := Nat.log2_self_le hm
    have b : 2 ^ (m.log2 + (e + 149).toNat) ≤ 2 ^ 159 := by
      rw [Nat.pow_add]
      exact Nat.le_trans (Nat.mul_le_mul_right _ a) h2
    exact (Nat.pow_le_pow_iff_right (a := 2) (by omega)).1 b
  rcases Nat.lt_or_ge (m.log2 + (e + 149).toNat) 159 with h3 | h3
  · obtain ⟨v, hv, h4, h5⟩ := near_ge (e := e) (A := 10) (C := 1) false hm (by omega) (by omega) (by omega) (by omega)
    rw [hv]
    simp only [Bool.false_eq_true, if_false]
    have h4' : v ≤ 2 ^ 159 := h4
    have h5' : 2 ^ 150 ≤ v := h5
    exact ⟨by exact_mod_cast h5', by exact_mod_cast h4'⟩
  · have h4 : m.log2 + (e + 149).toNat = 159 := by omega
    have h5 : m * 2 ^ (e + 149).toNat = 2 ^ (m.log2 + (e + 149).toNat) := by
      refine Nat.le_antisymm (by rw [h4]; exact h2) ?_
      rw [Nat.pow_add]
      exact Nat.mul_le_mul_right _ (Nat.log2_self_le hm)
    have h6 := pow2_of (b := 0) h5
    have h7 : FloatKind.f32.format.nearest false m e = FloatKind.f32.format.nearest false 1 10 := by
      have := nearest_scale FloatKind.f32.format false 1 m.log2 10
      rw [Nat.one_mul, ← h6] at this
      rw [← this]
      congr 1
      omega
    rw [h7]
    decide +kernel
/-- The delay of a string's ring and filters, and its whole part. -/
theorem period_int {p x d : Nat} (hp : withinB p 1077936128 1149239296 = true) (hx : withinB x 0 1056964608 = true) (hd : can .f32 d = fop .sub .f32 p x) :
    d = fop .sub .f32 p x ∧ isNan .f32 d = false ∧ floatToIntVal .f32 d .i64 = some (wholeW d : Int) ∧ 2 ≤ wholeW d ∧ wholeW d ≤ 1024 := by
  obtain ⟨n1, a1, a2⟩ := within_val val_3.2 val_1024.2 hp
  obtain ⟨n2, b1, b2⟩ := within_val val_zero.2 val_half.2 hx
  rw [val_3.1, val_1024.1] at *
  rw [val_zero.1, val_half.1] at *
  have hf := far_159
  have hpw : (2 : Int) ^ 159 < 2 ^ 160 := by decide
  have hpw2 : (2 : Int) ^ 148 < 2 ^ 160 := by decide
  have hz : (0 : Int) < 2 ^ 149 := by decide
  obtain ⟨s, m, i, hrx⟩ := finite_num n1 (by omega) (by omega)
  obtain ⟨t, n, j, hry⟩ := finite_num n2 (by omega) (by omega)
  have pi : -149 ≤ i := read_place hrx
  have pj : -149 ≤ j := read_place hry
  have vx : val .f32 p = Ieee.signed s m (i + 149).toNat := by simp only [val, hrx]; rfl
  have vy : val .f32 x = Ieee.signed t n (j + 149).toNat := by simp only [val, hry]; rfl
  have hneg : Ieee.signed (!t) n (j - min i j).toNat = -Ieee.signed t n (j - min i j).toNat := by
    unfold Ieee.signed; cases t <;> simp
  have e1 : val .f32 p - val .f32 x = (Ieee.signed s m (i - min i j).toNat + Ieee.signed (!t) n (j - min i j).toNat) * 2 ^ (min i j + 149).toNat := by
    rw [hneg, vx, vy, signed_eq, signed_eq, signed_eq, signed_eq, Int.add_mul, Int.neg_mul, Int.mul_assoc, Int.mul_assoc, ← Int.pow_add, ← Int.pow_add]
    rw [show (i - min i j).toNat + (min i j + 149).toNat = (i + 149).toNat by omega, show (j - min i j).toNat + (min i j + 149).toNat = (j + 149).toNat by omega]
    omega
  generalize hT : Ieee.signed s m (i - min i j).toNat + Ieee.signed (!t) n (j - min i j).toNat = T at e1
  have hD1 : (2 : Int) ^ 150 ≤ val .f32 p - val .f32 x := by
    have e2 : (2 : Int) ^ 150 = 2 * 2 ^ 149 := by decide
    have e3 : (2 : Int) ^ 149 = 2 * 2 ^ 148 := by decide
    omega
  have hD2 : val .f32 p - val .f32 x ≤ 2 ^ 159 := by omega
  rw [e1] at hD1 hD2
  have hpos : (0 : Int) < 2 ^ (min i j + 149).toNat := Int.pow_pos (by omega)
  have hTp : 0 < T := by
    rcases Int.lt_trichotomy T 0 with c | c | c
    · have : T * 2 ^ (min i j + 149).toNat < 0 := Int.mul_neg_of_neg_of_pos c hpos
      have h0 : (0 : Int) < 2 ^ 150 := by decide
      omega
    · subst c
      rw [Int.zero_mul] at hD1
      exact absurd hD1 (by decide)
    · exact c
  obtain ⟨M, rfl⟩ : ∃ M : Nat, T = M := ⟨T.toNat, by omega⟩
  have hb : floatBits .sub .f32 p x = some (FloatKind.f32.format.nearest false M (min i j)) := by
    have h0 : floatBits .sub .f32 p x = some (FloatKind.f32.format.nearest (if Ieee.signed s m (i - min i j).toNat + Ieee.signed (!t) n (j - min i j).toNat = 0 then s && !t else decide (Ieee.signed s m (i - min i j).toNat + Ieee.signed (!t) n (j - min i j).toNat < 0)) (Ieee.signed s m (i - min i j).toNat + Ieee.signed (!t) n (j - min i j).toNat).natAbs (min i j)) := by
      simp only [floatBits, Ieee.Format.sub, hrx, hry, Ieee.Datum.opposite, Ieee.Datum.sum, Option.map_some]; rfl
    rw [h0, hT, if_neg (by omega), decide_eq_false (by omega), Int.natAbs_natCast]
  have hfp : fop .sub .f32 p x = FloatKind.f32.format.nearest false M (min i j) := by
    unfold fop; rw [hb]; exact can_of_not (isNan_nearest _ _ _ _)
  have hn : isNan .f32 (fop .sub .f32 p x) = false := by rw [hfp]; exact isNan_nearest _ _ _ _
  have hdn : isNan .f32 d = false := by
    have := isNan_of_can (hd.trans (can_fop _ _ _ _).symm : can .f32 d = can .f32 (fop .sub .f32 p x))
    rw [this, hn]
  have hde : d = fop .sub .f32 p x := by rw [← can_of_not hdn, hd]
  obtain ⟨k1, k2⟩ := near_in (m := M) (e := min i j) (by omega) (by exact_mod_cast hD1) (by exact_mod_cast hD2)
  rw [← hfp, ← hde] at k1 k2
  have hU := one32_pos
  have q3 : 2 * one32 ≤ val .f32 d := by
    have e2 : (2 : Int) * 2 ^ 149 = 2 ^ 150 := by decide
    rw [one_pow, e2]; exact k1
  have q4 : val .f32 d ≤ 1024 * one32 := by
    have e2 : (1024 : Int) * 2 ^ 149 = 2 ^ 159 := by decide
    rw [one_pow, e2]; exact k2
  have q1 := Int.tdiv_le_tdiv hU q3
  have q2 := Int.tdiv_le_tdiv hU q4
  rw [Int.mul_tdiv_cancel _ (by omega)] at q1 q2
  refine ⟨hde, hdn, ?_, ?_, ?_⟩
  · rw [floatToInt_val32 hdn (by omega) (by omega)]
    unfold wholeW
    rw [Int.toNat_of_nonneg (by omega)]
  · unfold wholeW; omega
  · unfold wholeW; omega
end Go.Fk

/- The numbers of a new string's filters are numbers. Nothing here names a program. -/
namespace Go.Fk
open Go Go.RowKit
theorem val_2 : val .f32 1073741824 = 2 ^ 150 ∧ isNan .f32 1073741824 = false := by decide +kernel
theorem read_1 : FloatKind.f32.format.read 1065353216 = .number false 8388608 (-23) := by decide
theorem num_of {x : Nat} (hn : isNan .f32 x = false) (h0 : 0 ≤ val .f32 x) (h1 : val .f32 x ≤ 2 ^ 150) : ∃ s m e, FloatKind.f32.format.read x = .number s m e ∧ -149 ≤ e ∧ val .f32 x = Ieee.signed s m (e + 149).toNat ∧ lt .f32 x 2 := by
  have hf := far_159
  have hp : (2 : Int) ^ 150 < 2 ^ 160 := by decide
  obtain ⟨s, m, e, hr⟩ := finite_num hn (by omega) (by omega)
  have hv : val .f32 x = Ieee.signed s m (e + 149).toNat := by simp only [val, hr]; rfl
  have pe : -149 ≤ e := read_place hr
  refine ⟨s, m, e, hr, pe, hv, s, m, e, hr, fun m0 => ?_⟩
  rw [hv, signed_eq] at h0 h1
  have hs : s = false := by
    cases s
    · rfl
    · simp only [if_true, Int.neg_mul] at h0
      have : 0 < (m : Int) * 2 ^ (e + 149).toNat := Int.mul_pos (by omega) (Int.pow_pos (by omega))
      omega
  subst hs
  simp only [Bool.false_eq_true, if_false] at h1
  have h2 : m * 2 ^ (e + 149).toNat ≤ 2 ^ 150 := by exact_mod_cast h1
  have b : 2 ^ (m.log2 + (e + 149).toNat) ≤ 2 ^ 150 := by
    rw [Nat.pow_add]
    exact Nat.le_trans (Nat.mul_le_mul_right _ (Nat.log2_self_le m0)) h2
  have := (Nat.pow_le_pow_iff_right (a := 2) (by omega)).1 b
  omega
theorem lt_one : lt .f32 1065353216 1 := ⟨false, 8388608, -23, read_1, fun _ => by decide⟩
theorem fop_of {op : BinOp} {x y r : Nat} {A : Int} (h : floatBits op .f32 x y = some r) (hl : lt .f32 r A) : fop op .f32 x y = r := by
  unfold fop; rw [h]; exact can_of_not hl.notNan
theorem ge_of {x : Nat} {v : Nat} {s : Bool} {m : Nat} {e : Int} (hr : FloatKind.f32.format.read x = .number s m e) (hv : val .f32 x = (v : Int)) (h : 2 ^ 149 ≤ v) : ge .f32 x 0 := by
  have pe : -149 ≤ e := read_place hr
  have hw : val .f32 x = Ieee.signed s m (e + 149).toNat := by simp only [val, hr]; rfl
  rw [hv, signed_eq] at hw
  have hs : s = false := by
    cases s
    · rfl
    · simp only [if_true, Int.neg_mul] at hw
      have h1 : 0 ≤ (m : Int) * 2 ^ (e + 149).toNat := Int.mul_nonneg (by omega) (Int.le_of_lt (Int.pow_pos (by omega)))
      have h2 : 0 < (v : Int) := by have := Nat.lt_of_lt_of_le (Nat.two_pow_pos 149) h; omega
      omega
  subst hs
  simp only [Bool.false_eq_true, if_false] at hw
  have hw' : v = m * 2 ^ (e + 149).toNat := by exact_mod_cast hw
  have m0 : m ≠ 0 := by
    rintro rfl
    rw [Nat.zero_mul] at hw'
    have := Nat.lt_of_lt_of_le (Nat.two_pow_pos 149) h
    omega
  refine ⟨false, m, e, hr, m0, ?_⟩
  have a := @Nat.lt_log2_self m
  have b : 2 ^ 149 < 2 ^ (m.log2 + 1 + (e + 149).toNat) := by
    rw [Nat.pow_add]
    refine Nat.lt_of_le_of_lt (hw' ▸ h) (Nat.mul_lt_mul_of_pos_right a (Nat.two_pow_pos _))
  have := (Nat.pow_lt_pow_iff_right (a := 2) (by omega)).1 b
  omega
theorem one_plus {f : Nat} (hn : isNan .f32 f = false) (h0 : 0 ≤ val .f32 f) (h1 : val .f32 f ≤ 2 ^ 150) : ge .f32 (fop .add .f32 1065353216 f) 0 := by
  obtain ⟨t, n, j, hr, pj, hv, hl⟩ := num_of hn h0 h1
  obtain ⟨r, hb, hlr⟩ := lt_add lt_one hl (fine32 (by decide) (by decide))
  have hfp := fop_of hb hlr
  obtain ⟨s', m', e', hr', _⟩ := hlr
  rw [hfp]
  generalize hT : Ieee.signed false 8388608 (-23 - min (-23) j).toNat + Ieee.signed t n (j - min (-23) j).toNat = T
  have e1 : 2 ^ 149 + val .f32 f = T * 2 ^ (min (-23) j + 149).toNat := by
    rw [← hT, hv, signed_eq, signed_eq, signed_eq, Int.add_mul, Int.mul_assoc, Int.mul_assoc, ← Int.pow_add, ← Int.pow_add]
    rw [show (-23 - min (-23) j).toNat + (min (-23) j + 149).toNat = 126 by omega, show (j - min (-23) j).toNat + (min (-23) j + 149).toNat = (j + 149).toNat by omega]
    simp only [Bool.false_eq_true, if_false]
    have : (2 : Int) ^ 149 = (8388608 : Nat) * 2 ^ 126 := by decide
    omega
  have hb2 : floatBits .add .f32 1065353216 f = some (FloatKind.f32.format.nearest (if T = 0 then false && t else decide (T < 0)) T.natAbs (min (-23) j)) := by
    rw [← hT]
    simp only [floatBits, Ieee.Format.add, read_1, hr, Ieee.Datum.sum, Option.map_some]; rfl
  have hpos : (0 : Int) < 2 ^ (min (-23) j + 149).toNat := Int.pow_pos (by omega)
  have hge : (2 : Int) ^ 149 ≤ T * 2 ^ (min (-23) j + 149).toNat := by omega
  have hle : T * 2 ^ (min (-23) j + 149).toNat ≤ (2 : Int) ^ 151 := by
    have : (2 : Int) ^ 151 = 2 ^ 150 + 2 ^ 149 + 2 ^ 149 := by decide
    have : (0 : Int) < 2 ^ 149 := by decide
    omega
  have hTp : 0 < T := by
    rcases Int.lt_trichotomy T 0 with c | c | c
    · have : T * 2 ^ (min (-23) j + 149).toNat < 0 := Int.mul_neg_of_neg_of_pos c hpos
      have h0 : (0 : Int) < 2 ^ 149 := by decide
      omega
    · subst c
      rw [Int.zero_mul] at hge
      exact absurd hge (by decide)
    · exact c
  obtain ⟨M, rfl⟩ : ∃ M : Nat, T = M := ⟨T.toNat, by omega⟩
  rw [if_neg (by omega), decide_eq_false (by omega), Int.natAbs_natCast, hb] at hb2
  have hrr : r = FloatKind.f32.format.nearest false M (min (-23) j) := by simpa using hb2
  have hm : M ≠ 0 := by omega
  have hgeN : 2 ^ 149 ≤ M * 2 ^ (min (-23) j + 149).toNat := by exact_mod_cast hge
  have hleN : M * 2 ^ (min (-23) j + 149).toNat ≤ 2 ^ 151 := by exact_mod_cast hle
  have hlo : 149 ≤ M.log2 + (min (-23) j + 149).toNat := by
    have a := @Nat.lt_log2_self M
    have b : 2 ^ 149 < 2 ^ (M.log2 + 1 + (min (-23) j + 149).toNat) := by
      rw [Nat.pow_add]
      exact Nat.lt_of_le_of_lt hgeN (Nat.mul_lt_mul_of_pos_right a (Nat.two_pow_pos _))
    have := (Nat.pow_lt_pow_iff_right (a := 2) (by omega)).1 b
    omega
  have hhi : M.log2 + (min (-23) j + 149).toNat ≤ 151 := by
    have b : 2 ^ (M.log2 + (min (-23) j + 149).toNat) ≤ 2 ^ 151 := by
      rw [Nat.pow_add]
      exact Nat.le_trans (Nat.mul_le_mul_right _ (Nat.log2_self_le hm)) hleN
    exact (Nat.pow_le_pow_iff_right (a := 2) (by omega)).1 b
  obtain ⟨v, hv2, _, h5⟩ := near_ge (e := min (-23) j) (A := 3) (C := 0) false hm (by omega) (by omega) (by omega) (by omega)
  rw [← hrr] at hv2
  simp only [Bool.false_eq_true, if_false] at hv2
  have h5' : 2 ^ 149 ≤ v := h5
  exact ge_of hr' hv2 h5'
/-- The number of an allpass filter is a number. -/
theorem quoA_num {f : Nat} (h : to2 f = true) : isNan .f32 (quoA f) = false := by
  obtain ⟨hn, h0, h1⟩ := within_val val_zero.2 val_2.2 (show withinB f 0 1073741824 = true from h)
  rw [val_zero.1] at h0
  rw [val_2.1] at h1
  obtain ⟨t, n, j, hr, pj, hv, hl⟩ := num_of hn h0 h1
  obtain ⟨r, hb, hlr⟩ := lt_sub lt_one hl (fine32 (by decide) (by decide))
  have hfp := fop_of hb hlr
  have hg := one_plus hn h0 h1
  obtain ⟨r2, hb2, hl2⟩ := lt_quo hlr hg (fine32 (by decide) (by decide))
  unfold quoA
  rw [hfp, fop_of hb2 hl2]
  exact hl2.notNan
/-- One less a mix is a number. -/
theorem mix_num {x : Nat} (h : withinB x 0 1056964608 = true) : isNan .f32 x = false ∧ isNan .f32 (fop .sub .f32 1065353216 x) = false := by
  obtain ⟨hn, h0, h1⟩ := within_val val_zero.2 val_half.2 h
  rw [val_zero.1] at h0
  rw [val_half.1] at h1
  have hp : (2 : Int) ^ 148 < 2 ^ 150 := by decide
  obtain ⟨t, n, j, hr, pj, hv, hl⟩ := num_of hn h0 (by omega)
  obtain ⟨r, hb, hlr⟩ := lt_sub lt_one hl (fine32 (by decide) (by decide))
  exact ⟨hn, by rw [fop_of hb hlr]; exact hlr.notNan⟩
end Go.Fk
namespace Go.Fk
open Go Go.RowKit
theorem of_can' {a A : Nat} (h : can .f32 a = A) (hn : isNan .f32 A = false) : a = A := by
  have hc : can .f32 a = can .f32 A := by rw [h, can_of_not hn]
  have : isNan .f32 a = false := by rw [isNan_of_can hc, hn]
  rw [← can_of_not this, h]
theorem lt_val {x A : Nat} (hn : isNan .f32 x = false) (h0 : 0 ≤ val .f32 x) (h1 : val .f32 x ≤ 2 ^ A) (hA : A ≤ 160) : ∃ s m e, FloatKind.f32.format.read x = .number s m e ∧ (m ≠ 0 → s = false ∧ e + m.log2 + 149 ≤ A) := by
  have hf := far_159
  have hp : (2 : Int) ^ A ≤ 2 ^ 160 := by exact_mod_cast Nat.pow_le_pow_right (n := 2) (by omega) hA
  obtain ⟨s, m, e, hr⟩ := finite_num hn (by omega) (by omega)
  have hv : val .f32 x = Ieee.signed s m (e + 149).toNat := by simp only [val, hr]; rfl
  have pe : -149 ≤ e := read_place hr
  refine ⟨s, m, e, hr, fun m0 => ?_⟩
  rw [hv, signed_eq] at h0 h1
  have hs : s = false := by
    cases s
    · rfl
    · simp only [if_true, Int.neg_mul] at h0
      have : 0 < (m : Int) * 2 ^ (e + 149).toNat := Int.mul_pos (by omega) (Int.pow_pos (by omega))
      omega
  subst hs
  simp only [Bool.false_eq_true, if_false] at h1
  have h2 : m * 2 ^ (e + 149).toNat ≤ 2 ^ A := by exact_mod_cast h1
  have b : 2 ^ (m.log2 + (e + 149).toNat) ≤ 2 ^ A := by
    rw [Nat.pow_add]
    exact Nat.le_trans (Nat.mul_le_mul_right _ (Nat.log2_self_le m0)) h2
  have := (Nat.pow_le_pow_iff_right (a := 2) (by omega)).1 b
  exact ⟨rfl, by omega⟩
/-- A place times a whole number. -/
theorem mult_int {pl n d : Nat} (hn : isNan .f32 pl = false) (h0 : 0 ≤ val .f32 pl) (h1 : val .f32 pl ≤ 2 ^ 149) (hk : n ≤ 1024) (hd : can .f32 d = fop .mul .f32 pl (floatOfInt .f32 (n : Int))) :
    d = fop .mul .f32 pl (floatOfInt .f32 (n : Int)) ∧ floatToIntVal .f32 d .i64 = some (wholeW d : Int) ∧ wholeW d ≤ 4096 := by
  have hU := one32_pos
  obtain ⟨s, m, i, hr, hm⟩ := lt_val hn h0 h1 (by omega)
  have hv : val .f32 (floatOfInt .f32 (n : Int)) = (n : Int) * one32 := val_int (by omega)
  have hv2 : val .f32 (floatOfInt .f32 (n : Int)) ≤ 2 ^ 159 := by
    rw [hv]
    have e2 : (1024 : Int) * one32 = 2 ^ 159 := by decide
    rw [← e2]
    exact Int.mul_le_mul_of_nonneg_right (by omega) (by omega)
  obtain ⟨t, q, j, hr2, hq⟩ := lt_val (isNan_int (n : Int)) (by rw [hv]; exact Int.mul_nonneg (by omega) (by omega)) hv2 (by omega)
  have hb : floatBits .mul .f32 pl (floatOfInt .f32 (n : Int)) = some (FloatKind.f32.format.nearest (s ^^ t) (m * q) (i + j)) := by
    simp only [floatBits, Ieee.Format.mul, hr, hr2, Ieee.Datum.product, Option.map_some]; rfl
  have hfp : fop .mul .f32 pl (floatOfInt .f32 (n : Int)) = FloatKind.f32.format.nearest (s ^^ t) (m * q) (i + j) := by
    unfold fop; rw [hb]; exact can_of_not (isNan_nearest _ _ _ _)
  have hnn : isNan .f32 (fop .mul .f32 pl (floatOfInt .f32 (n : Int))) = false := by rw [hfp]; exact isNan_nearest _ _ _ _
  have hde := of_can' hd hnn
  have key : 0 ≤ val .f32 d ∧ val .f32 d ≤ 4096 * one32 := by
    rw [hde, hfp]
    by_cases h : m * q = 0
    · rw [h, show FloatKind.f32.format.nearest (s ^^ t) 0 (i + j) = FloatKind.f32.format.word (s ^^ t) 0 by simp [Ieee.Format.nearest], val_word _ (by decide), show rv 0 = 0 by decide]
      have : 0 ≤ 4096 * one32 := Int.mul_nonneg (by omega) (by omega)
      cases (s ^^ t)
      · exact ⟨by simp, by simpa using this⟩
      · exact ⟨by simp, by simpa using this⟩
    · have m0 : m ≠ 0 := fun e => h (by rw [e, Nat.zero_mul])
      have q0 : q ≠ 0 := fun e => h (by rw [e, Nat.mul_zero])
      obtain ⟨rfl, a1⟩ := hm m0
      obtain ⟨rfl, a2⟩ := hq q0
      have hl := log2_mul_le m0 q0
      obtain ⟨v, hv3, hle⟩ := near_le (e := i + j) (A := 12) (false ^^ false) h (by omega) (by omega) (by omega)
      rw [hv3]
      have e2 : (4096 : Int) * one32 = 2 ^ 161 := by decide
      have hle' : v ≤ 2 ^ 161 := hle
      rw [e2]
      exact ⟨by simp, by simp only [Bool.xor_false, Bool.false_eq_true, if_false]; exact_mod_cast hle'⟩
  have q2 := Int.tdiv_le_tdiv hU key.2
  rw [Int.mul_tdiv_cancel _ (by omega)] at q2
  have q1 : 0 ≤ (val .f32 d).tdiv one32 := Int.tdiv_nonneg key.1 (by omega)
  have hdn : isNan .f32 d = false := by rw [hde]; exact hnn
  refine ⟨hde, ?_, by unfold wholeW; omega⟩
  rw [floatToInt_val32 hdn (by omega) (by omega)]
  unfold wholeW
  rw [Int.toNat_of_nonneg q1]
end Go.Fk

/- Tunings: data, 'ValidTuning', 'SameTuning' of both. -/
namespace Go.Fk
open Go Go.RowKit
def gtB (a b : Nat) : Bool := FloatKind.f32.format.order a b == some .gt
def ltB (a b : Nat) : Bool := FloatKind.f32.format.order a b == some .lt
theorem gtB_congr {a a' b b' : Nat} (h : can .f32 a = can .f32 a') (k : can .f32 b = can .f32 b') : gtB a b = gtB a' b' := by unfold gtB; rw [order_congr h k]
theorem ltB_congr {a a' b b' : Nat} (h : can .f32 a = can .f32 a') (k : can .f32 b = can .f32 b') : ltB a b = ltB a' b' := by unfold ltB; rw [order_congr h k]
theorem gtB_val {a b : Nat} : gtB a b = true ↔ isNan .f32 a = false ∧ isNan .f32 b = false ∧ val .f32 b < val .f32 a := by
  unfold gtB
  cases ha : isNan .f32 a
  · cases hb : isNan .f32 b
    · rw [order_val ha hb]
      rcases Int.lt_trichotomy (val .f32 a) (val .f32 b) with c | c | c
      · rw [Int.compare_eq_lt.2 c]; simp; omega
      · rw [Int.compare_eq_eq.2 c]; simp; omega
      · rw [Int.compare_eq_gt.2 c]; simp; omega
    · rw [order_of_nan_r hb]; simp
  · rw [order_of_nan_l ha]; simp
theorem ltB_val {a b : Nat} : ltB a b = true ↔ isNan .f32 a = false ∧ isNan .f32 b = false ∧ val .f32 a < val .f32 b := by
  unfold ltB
  cases ha : isNan .f32 a
  · cases hb : isNan .f32 b
    · rw [order_val ha hb]
      rcases Int.lt_trichotomy (val .f32 a) (val .f32 b) with c | c | c
      · rw [Int.compare_eq_lt.2 c]; simp; omega
      · rw [Int.compare_eq_eq.2 c]; simp; omega
      · rw [Int.compare_eq_gt.2 c]; simp; omega
    · rw [order_of_nan_r hb]; simp
  · rw [order_of_nan_l ha]; simp
/-- Degrees that ascend, the last one below the octave. -/
def degB (x : Nat → Nat) (n o : Nat) : Bool := decide (1 ≤ n) && (decide (n ≤ 31) && (sameB (x 0) 0 && (allB (fun i => gtB (x (i + 1)) (x i)) (n - 1) && ltB (x (n - 1)) o)))
/-- The same, as the model asks for it: each degree above the one before it, and below the octave. -/
def stepD (x : Nat → Nat) (o i : Nat) : Bool := (i == 0 || gtB (x i) (x (i - 1))) && ltB (x i) o
theorem deg_eq {x : Nat → Nat} {n o : Nat} (h : 1 ≤ n) : allB (stepD x o) n = (allB (fun i => gtB (x (i + 1)) (x i)) (n - 1) && ltB (x (n - 1)) o) := by
  cases hm : allB (stepD x o) n
  · symm
    rw [Bool.eq_false_iff]
    intro hh
    rw [Bool.and_eq_true] at hh
    obtain ⟨h1, h2⟩ := hh
    obtain ⟨i, hi, hf⟩ := allB_ex hm
    have key : ∀ k, k ≤ n - 1 → ltB (x (n - 1 - k)) o = true := by
      intro k
      induction k with
      | zero => intro _; exact h2
      | succ k ih =>
        intro hk
        have a := allB_all h1 (n - 1 - (k + 1)) (by omega)
        have b := ih (by omega)
        replace a : gtB (x (n - 1 - (k + 1) + 1)) (x (n - 1 - (k + 1))) = true := a
        rw [show n - 1 - (k + 1) + 1 = n - 1 - k by omega] at a
        obtain ⟨a1, a2, a3⟩ := gtB_val.1 a
        obtain ⟨b1, b2, b3⟩ := ltB_val.1 b
        exact ltB_val.2 ⟨a2, b2, by omega⟩
    have hl := key (n - 1 - i) (by omega)
    rw [show n - 1 - (n - 1 - i) = i by omega] at hl
    unfold stepD at hf
    rw [hl, Bool.and_true] at hf
    by_cases h0 : i = 0
    · subst h0; simp at hf
    · have a := allB_all h1 (i - 1) (by omega)
      replace a : gtB (x (i - 1 + 1)) (x (i - 1)) = true := a
      rw [show i - 1 + 1 = i by omega] at a
      rw [a] at hf
      simp at hf
  · symm
    rw [Bool.and_eq_true]
    refine ⟨allB_yes (fun i hi => ?_), ?_⟩
    · have a := allB_all hm (i + 1) (by omega)
      unfold stepD at a
      simp at a
      exact a.1
    · have a := allB_all hm (n - 1) (by omega)
      unfold stepD at a
      rw [Bool.and_eq_true] at a
      exact a.2
def okT (b o : Nat) (x : Nat → Nat) (n : Nat) : Bool := withinB b 1065353216 1184645120 && (withinB o 1065353216 1167458304 && degB x n o)
/-- A slice of floats, opened. -/
theorem slT_raw {x : Nat → Nat} {n B : Nat} {s : Value} {w : World} (h : (slT x n).RdN w B s) (hn : 1 ≤ n) : ∃ (b p cap : Nat) (y : Nat → Nat), s = .slice (some ⟨b, p, none⟩) n cap ∧ n ≤ cap ∧ cap ≤ maxLen ∧ ∀ i, i < n → w.cell? ⟨b, p + i, none⟩ = some (.float .f32 (y i)) ∧ fits .f32 (y i) ∧ can .f32 (y i) = x i := by
  rcases h with ⟨_, rfl⟩ | ⟨b, p, cap, rfl, h2, h3, h4⟩
  · omega
  have : ∀ i, ∃ y, i < n → w.cell? ⟨b, p + i, none⟩ = some (.float .f32 y) ∧ fits .f32 y ∧ can .f32 y = x i := fun i => by
    by_cases hi : i < n
    · obtain ⟨_, u, e, y, rfl, f, c⟩ := h4 i (by omega)
      exact ⟨y, fun _ => ⟨e, f, c⟩⟩
    · exact ⟨0, fun h => absurd h hi⟩
  obtain ⟨y, hy⟩ := Classical.skolem.1 this
  exact ⟨b, p, cap, y, rfl, h2, h3, hy⟩
end Go.Fk
namespace Go.Proofs.Ytkcpdddmabkkgaa
open Go.RowKit Go.Fk
set_option maxRecDepth 100000 in
set_option maxHeartbeats 2000000 in
theorem i_areDegrees (B : Nat) (s : Value) (x : Nat → Nat) (n o : Nat) (w : World) (hs : (slT x n).RdN w B s) : Calls Try.prog 38 #[s, .float .f32 o] w fun e w' => e = .returned (.bool (degB x n o)) ∧ w = w' := by
  by_cases h0 : n = 0
  · subst h0
    rcases hs.form with ⟨rfl, _⟩ | ⟨b, p, cap, rfl, hc, hm⟩
    all_goals
      clear hs
      go_enter Try.func38, Try.ntmps38
      go_wp2
      go_ret
      exact ⟨rfl, rfl⟩
  obtain ⟨m, rfl⟩ : ∃ m, n = m + 1 := ⟨n - 1, by omega⟩
  obtain ⟨b, p, cap, y, rfl, hc, hm, hx⟩ := slT_raw hs (by omega)
  unfold maxLen at hm
  clear hs h0
  have EQ : ∀ i, i < m + 1 → can .f32 (y i) = can .f32 (x i) := fun i hi => by rw [← (hx i hi).2.2, can_can]
  have c0 : w.cell? ⟨b, p, none⟩ = some (.float .f32 (y 0)) := (hx 0 (by omega)).1
  have cl := (hx m (by omega)).1
  have hd1 : decide ((m : Int) + 1 < 1) = false := decide_eq_false (by omega)
  have S0 : Hid (sameB (y 0) 0 = sameB (x 0) 0) := by unfold sameB Hid; rw [EQ 0 (by omega)]
  have HL : Hid (ltB (y m) o = ltB (x m) o) := ltB_congr (EQ m (by omega)) rfl
  have HG : Hid (∀ i, i < m → gtB (y (i + 1)) (y i) = gtB (x (i + 1)) (x i)) := fun i hi => gtB_congr (EQ _ (by omega)) (EQ _ (by omega))
  have HC := hid (fun i hi => (hx i hi).1)
  have HD : Hid (degB x (m + 1) o = (decide (m + 1 ≤ 31) && (sameB (x 0) 0 && (allB (fun i => gtB (x (i + 1)) (x i)) m && ltB (x m) o)))) := by
    unfold Hid degB
    rw [decide_eq_true (by omega : 1 ≤ m + 1), Bool.true_and, Nat.add_sub_cancel]
  clear EQ hx
  by_cases h31 : m + 1 ≤ 31
  · have hd2 : decide ((31 : Int) < (m : Int) + 1) = false := decide_eq_false (by omega)
    cases hs0 : sameB (y 0) 0
    · have R : Hid (degB x (m + 1) o = false) := by
        show degB x (m + 1) o = false
        rw [HD.out, ← S0.out, hs0, Bool.false_and, Bool.and_false]
      clear HD
      have HS := hid (fun w' => i_SameSample (y 0) 0 w')
      rw [hs0] at HS
      clear hs0
      go_enter Try.func38, Try.ntmps38
      go_wp2_with (go_at_call 57; ((with_reducible refine (HS.out _).mono ?_); rintro e w' ⟨rfl, rfl⟩))
      go_ret
      exact ⟨ret_b R.out.symm, rfl⟩
    · have R : Hid (degB x (m + 1) o = (allB (fun i => gtB (x (i + 1)) (x i)) m && ltB (x m) o)) := by
        show degB x (m + 1) o = _
        rw [HD.out, ← S0.out, hs0, Bool.true_and, decide_eq_true h31, Bool.true_and]
      clear HD
      have HS := hid (fun w' => i_SameSample (y 0) 0 w')
      rw [hs0] at HS
      clear hs0
      by_cases hcp : cap = 1
      · obtain rfl : m = 0 := by omega
        subst hcp
        go_enter Try.func38, Try.ntmps38
        go_wp2_with (go_at_call 57; ((with_reducible refine (HS.out _).mono ?_); rintro e w' ⟨rfl, rfl⟩))
        go_loop [26] (fun i => i = .int .i64 0) (fun _ => 0)
        case atStart => rfl
        case round =>
          obtain rfl := hrel
          go_wp2
          go_ret
          exact ⟨ret_b (R.out.trans (by rw [allB_yes (fun i hi => absurd hi (by omega)), Bool.true_and]; exact HL.out.symm)).symm, rfl⟩
      · have hcp1 : ¬ (cap : Int) = 1 := by omega
        have hcp2 : ¬ 1 = cap := by omega
        go_enter Try.func38, Try.ntmps38
        go_wp2_with (go_at_call 57; ((with_reducible refine (HS.out _).mono ?_); rintro e w' ⟨rfl, rfl⟩))
        go_loop [26] (fun i => ∃ k : Nat, k ≤ m ∧ i = .int .i64 k ∧ Hid (∀ i, i < k → gtB (x (i + 1)) (x i) = true)) (fun i => m - (intOf i).toNat)
        case atStart => exact ⟨0, by omega, rfl, fun i hi => absurd hi (by omega)⟩
        case round =>
          obtain ⟨k, hk, rfl, HK⟩ := hrel
          by_cases hlt : k < m
          · have ck := HC.out k (by omega)
            have ck' := HC.out (k + 1) (by omega)
            rw [show p + (k + 1) = p + 1 + k by omega] at ck'
            have HE := hid (HG.out k hlt)
            cases hb : gtB (y (k + 1)) (y k)
            · have hb' : (FloatKind.f32.format.order (y (k + 1)) (y k) == some .gt) = false := hb
              have HB := hid hb
              clear hb
              go_wp2
              go_ret
              exact ⟨ret_b (R.out.trans (by rw [allB_no hlt (HE.out.symm.trans HB.out), Bool.false_and])).symm, rfl⟩
            · have hb' : (FloatKind.f32.format.order (y (k + 1)) (y k) == some .gt) = true := hb
              have HB := hid hb
              clear hb
              go_wp2
              go_round
              case rel => exact ⟨k + 1, by omega, by go_num, all_step (p := fun j => gtB (x (j + 1)) (x j) = true) HK.out (HE.out.symm.trans HB.out)⟩
              case measure => simp [intOf]; omega
          · obtain rfl : k = m := by omega
            go_wp2
            go_ret
            exact ⟨ret_b (R.out.trans (by rw [allB_yes HK.out, Bool.true_and]; exact HL.out.symm)).symm, rfl⟩
  · have R : Hid (degB x (m + 1) o = false) := by
      show degB x (m + 1) o = false
      rw [HD.out, decide_eq_false h31, Bool.false_and]
    clear HD
    have hd2 : decide ((31 : Int) < (m : Int) + 1) = true := decide_eq_true (by omega)
    go_enter Try.func38, Try.ntmps38
    go_wp2
    go_ret
    exact ⟨ret_b R.out.symm, rfl⟩
set_option maxRecDepth 100000 in
set_option maxHeartbeats 4000000 in
theorem i_ValidTuning (b o : Nat) (x : Nat → Nat) (n : Nat) (B : Nat) (s : Value) (w : World) (hs : (slT x n).RdN w B s) :
    Calls Try.prog 23 #[.agg #[.float .f32 b, .float .f32 o, s]] w (Out_b (okT b o x n) w) := by
  have H1 := hid (fun (w' : World) => i_isWithin b 1065353216 1184645120 w')
  have H2 := hid (fun (w' : World) => i_isWithin o 1065353216 1167458304 w')
  have H3 := hid (fun (w' : World) (hl : le w w') => i_areDegrees B s x n o w' (hs.le hl))
  clear hs
  change Calls _ _ _ _ (Out_b (withinB b 1065353216 1184645120 && (withinB o 1065353216 1167458304 && degB x n o)) w)
  cases h1 : withinB b 1065353216 1184645120 <;> cases h2 : withinB o 1065353216 1167458304
  all_goals
    rw [h1] at H1; rw [h2] at H2
    clear h1 h2
    have F := (Frg.nil w).box 34 #[.float .f32 b, .float .f32 o, s]
    have c0 := (F.row m0).cell? 0
    have c1 := (F.row m0).cell? 1
    have c2 := (F.row m0).cell? 2
    go_enter Try.func23, Try.ntmps23
    go_wp2_with (first | (go_at_call 22; ((first | with_reducible refine (H1.out _).mono ?_ | with_reducible refine (H2.out _).mono ?_); rintro e w1 ⟨rfl, rfl⟩)) | (go_at_call 38; ((with_reducible refine (H3.out _ F.below).mono ?_); rintro e w2 ⟨rfl, rfl⟩)))
    go_ret
    exact ⟨rfl, F.below⟩
set_option maxRecDepth 100000 in
set_option maxHeartbeats 4000000 in
theorem s_l07Base (b : Nat) (w : World) : Calls Try.prog 67 #[.float .f32 b] w fun e w' => e = .returned (.bool (withinB b 1065353216 1184645120)) ∧ w = w' := by
  rcases h0 : FloatKind.f32.format.order b 1065353216 with _ | (_ | _ | _) <;> rcases h1 : FloatKind.f32.format.order b 1184645120 with _ | (_ | _ | _)
  all_goals
    go_enter Try.func67, Try.ntmps67
    go_wp2
    go_ret
    exact ⟨ret_b (by unfold withinB; rw [h0, h1]; rfl), rfl⟩
set_option maxRecDepth 100000 in
set_option maxHeartbeats 4000000 in
theorem s_l07Ok (b o : Nat) (x : Nat → Nat) (n : Nat) (B : Nat) (s : Value) (w : World) (hs : (slT x n).RdN w B s) (g : Nat) (R : Row w g 34 #[.float .f32 b, .float .f32 o, s]) : Calls Try.prog 49 #[.pointer (some ⟨g, 0, none⟩)] w (Out_b (okT b o x n) w) := by
  have H1 := hid (fun (w' : World) => s_l07Base b w')
  have c0 := R.cell? 0
  have c1 := R.cell? 1
  have c2 := R.cell? 2
  clear R
  change Calls _ _ _ _ (Out_b (withinB b 1065353216 1184645120 && (withinB o 1065353216 1167458304 && degB x n o)) w)
  cases h1 : withinB b 1065353216 1184645120
  · rw [h1] at H1
    clear h1
    rcases CD.RdN.form hs with ⟨rfl, _⟩ | ⟨b', p, cap, rfl, hc, hm⟩
    all_goals
      clear hs
      go_enter Try.func49, Try.ntmps49
      go_wp2_with (go_at_call 67; ((with_reducible refine (H1.out _).mono ?_); rintro e w1 ⟨rfl, rfl⟩))
      go_ret
      exact ⟨rfl, le_refl _⟩
  rw [h1] at H1
  clear h1
  rw [Bool.true_and]
  cases e1 : (FloatKind.f32.format.order o 1065353216 == some .gt || FloatKind.f32.format.order o 1065353216 == some .eq)
  · have HW : Hid (withinB o 1065353216 1167458304 = false) := by show withinB o 1065353216 1167458304 = false; unfold withinB; rw [e1, Bool.false_and]
    rcases CD.RdN.form hs with ⟨rfl, _⟩ | ⟨b', p, cap, rfl, hc, hm⟩
    all_goals
      clear hs
      go_enter Try.func49, Try.ntmps49
      go_wp2_with (go_at_call 67; ((with_reducible refine (H1.out _).mono ?_); rintro e w1 ⟨rfl, rfl⟩))
      go_ret
      exact ⟨ret_b (by rw [HW.out, Bool.false_and]), le_refl _⟩
  cases e2 : (FloatKind.f32.format.order o 1167458304 == some .lt || FloatKind.f32.format.order o 1167458304 == some .eq)
  · have HW : Hid (withinB o 1065353216 1167458304 = false) := by show withinB o 1065353216 1167458304 = false; unfold withinB; rw [e1, e2, Bool.true_and]
    rcases CD.RdN.form hs with ⟨rfl, _⟩ | ⟨b', p, cap, rfl, hc, hm⟩
    all_goals
      clear hs
      go_enter Try.func49, Try.ntmps49
      go_wp2_with (go_at_call 67; ((with_reducible refine (H1.out _).mono ?_); rintro e w1 ⟨rfl, rfl⟩))
      go_ret
      exact ⟨ret_b (by rw [HW.out, Bool.false_and]), le_refl _⟩
  have HW : withinB o 1065353216 1167458304 = true := by unfold withinB; rw [e1, e2, Bool.true_and]
  rw [HW, Bool.true_and]
  clear HW
  by_cases h0 : n = 0
  · subst h0
    rcases CD.RdN.form hs with ⟨rfl, _⟩ | ⟨b', p, cap, rfl, hc, hm⟩
    all_goals
      clear hs
      go_enter Try.func49, Try.ntmps49
      go_wp2_with (go_at_call 67; ((with_reducible refine (H1.out _).mono ?_); rintro e w1 ⟨rfl, rfl⟩))
      go_ret
      exact ⟨rfl, le_refl _⟩
  have HD : Hid (degB x n o = (decide (n ≤ 31) && (sameB (x 0) 0 && allB (stepD x o) n))) := by
    show degB x n o = _
    unfold degB
    rw [decide_eq_true (by omega : 1 ≤ n), Bool.true_and, deg_eq (by omega)]
  obtain ⟨b', p, cap, y, rfl, hc, hm, hx⟩ := slT_raw hs (by omega)
  unfold maxLen at hm
  clear hs
  have EQ : ∀ i, i < n → can .f32 (y i) = can .f32 (x i) := fun i hi => by rw [← (hx i hi).2.2, can_can]
  have d0 : w.cell? ⟨b', p, none⟩ = some (.float .f32 (y 0)) := (hx 0 (by omega)).1
  have hd1 : decide ((n : Int) < 1) = false := decide_eq_false (by omega)
  have S0 : Hid (sameB (y 0) 0 = sameB (x 0) 0) := by unfold sameB Hid; rw [EQ 0 (by omega)]
  have HL : Hid (∀ i, i < n → ltB (y i) o = ltB (x i) o) := fun i hi => ltB_congr (EQ i hi) rfl
  have HG : Hid (∀ i, i + 1 < n → gtB (y (i + 1)) (y i) = gtB (x (i + 1)) (x i)) := fun i hi => gtB_congr (EQ _ hi) (EQ _ (by omega))
  have HC := hid (fun i hi => (hx i hi).1)
  clear EQ hx
  by_cases h31 : n ≤ 31
  · have hd2 : decide ((31 : Int) < (n : Int)) = false := decide_eq_false (by omega)
    have HS := hid (fun w' => s_l01Same (y 0) 0 w')
    cases hs0 : sameB (y 0) 0
    · have RR : Hid (degB x n o = false) := by
        show degB x n o = false
        rw [HD.out, ← S0.out, hs0, Bool.false_and, Bool.and_false]
      clear HD
      rw [hs0] at HS
      clear hs0
      go_enter Try.func49, Try.ntmps49
      go_wp2_with (first | (go_at_call 67; ((with_reducible refine (H1.out _).mono ?_); rintro e w1 ⟨rfl, rfl⟩)) | (go_at_call 53; ((with_reducible refine (HS.out _).mono ?_); rintro e w1 ⟨rfl, rfl⟩)))
      go_ret
      exact ⟨ret_b RR.out.symm, le_refl _⟩
    · have RR : Hid (degB x n o = allB (stepD x o) n) := by
        show degB x n o = _
        rw [HD.out, ← S0.out, hs0, Bool.true_and, decide_eq_true h31, Bool.true_and]
      clear HD
      rw [hs0] at HS
      clear hs0
      go_enter Try.func49, Try.ntmps49
      go_wp2_with (first | (go_at_call 67; ((with_reducible refine (H1.out _).mono ?_); rintro e w1 ⟨rfl, rfl⟩)) | (go_at_call 53; ((with_reducible refine (HS.out _).mono ?_); rintro e w1 ⟨rfl, rfl⟩)))
      go_loopw [4] (fun i wr => ∃ k : Nat, k ≤ n ∧ i = .int .i64 k ∧ (∃ q, wr = w.drewN q) ∧ Hid (∀ i, i < k → stepD x o i = true)) (fun i _ => n - (intOf i).toNat)
      case atStart => exact ⟨0, by omega, rfl, ⟨0, rfl⟩, fun i hi => absurd hi (by omega)⟩
      case round =>
        obtain ⟨k, hk, rfl, ⟨q, rfl⟩, HK⟩ := hrel
        by_cases hlt : k < n
        · have ck := HC.out k hlt
          have HLk := hid (HL.out k hlt)
          have hki : (k : Int) < (n : Int) := by omega
          by_cases hk0 : k = 0
          · subst hk0
            cases hb : ltB (y 0) o
            · have hb' : (FloatKind.f32.format.order (y 0) o == some .lt) = false := hb
              have ST : Hid (stepD x o 0 = false) := by show stepD x o 0 = false; unfold stepD; rw [← HLk.out, hb, Bool.and_false]
              clear hb
              go_wp2_with fail
              go_quiet (fail)
              go_wp2
              go_ret
              exact ⟨ret_b (RR.out.trans (allB_no hlt ST.out)).symm, le_trans (le_drewN _ _) (le_drewN _ _)⟩
            · have hb' : (FloatKind.f32.format.order (y 0) o == some .lt) = true := hb
              have ST : Hid (stepD x o 0 = true) := by show stepD x o 0 = true; unfold stepD; rw [← HLk.out, hb]; rfl
              clear hb
              go_wp2_with fail
              go_quiet (fail)
              go_wp2
              go_roundw
              case rel => exact ⟨0 + 1, by omega, by go_num, ⟨_, rfl⟩, all_step (p := fun j => stepD x o j = true) HK.out ST.out⟩
              case measure => simp [intOf]; omega
          · obtain ⟨j, rfl⟩ : ∃ j, k = j + 1 := ⟨k - 1, by omega⟩
            have cj := HC.out j (by omega)
            have HGj := hid (HG.out j hlt)
            have ej : Hid (stepD x o (j + 1) = (gtB (y (j + 1)) (y j) && ltB (y (j + 1)) o)) := by
              show stepD x o (j + 1) = _
              unfold stepD
              rw [HGj.out, HLk.out, Nat.add_sub_cancel]
              rfl
            have hj0 : decide ((0 : Int) < (j : Int) + 1) = true := decide_eq_true (by omega)
            clear HGj HLk
            cases hg : gtB (y (j + 1)) (y j)
            · have hg' : (FloatKind.f32.format.order (y (j + 1)) (y j) == some .gt) = false := hg
              have ST : Hid (stepD x o (j + 1) = false) := ej.out.trans (by rw [hg, Bool.false_and])
              clear hg ej
              go_wp2_with fail
              go_quiet (fail)
              go_wp2
              go_ret
              exact ⟨ret_b (RR.out.trans (allB_no hlt ST.out)).symm, le_trans (le_drewN _ _) (le_drewN _ _)⟩
            · have hg' : (FloatKind.f32.format.order (y (j + 1)) (y j) == some .gt) = true := hg
              rw [hg, Bool.true_and] at ej
              clear hg
              cases hb : ltB (y (j + 1)) o
              · have hb' : (FloatKind.f32.format.order (y (j + 1)) o == some .lt) = false := hb
                have ST : Hid (stepD x o (j + 1) = false) := ej.out.trans hb
                clear hb ej
                go_wp2_with fail
                go_quiet (fail)
                go_wp2
                go_ret
                exact ⟨ret_b (RR.out.trans (allB_no hlt ST.out)).symm, le_trans (le_drewN _ _) (le_drewN _ _)⟩
              · have hb' : (FloatKind.f32.format.order (y (j + 1)) o == some .lt) = true := hb
                have ST : Hid (stepD x o (j + 1) = true) := ej.out.trans hb
                clear hb ej
                go_wp2_with fail
                go_quiet (fail)
                go_wp2
                go_roundw
                case rel => exact ⟨j + 1 + 1, by omega, by go_num, ⟨_, rfl⟩, all_step (p := fun j => stepD x o j = true) HK.out ST.out⟩
                case measure => simp [intOf]; omega
        · obtain rfl : k = n := by omega
          go_wp2
          go_ret
          exact ⟨ret_b (RR.out.trans (allB_yes HK.out)).symm, le_drewN _ _⟩
  · have hd2 : decide ((31 : Int) < (n : Int)) = true := decide_eq_true (by omega)
    have RR : Hid (degB x n o = false) := by
      show degB x n o = false
      rw [HD.out, decide_eq_false h31, Bool.false_and]
    clear HD
    go_enter Try.func49, Try.ntmps49
    go_wp2_with (go_at_call 67; ((with_reducible refine (H1.out _).mono ?_); rintro e w1 ⟨rfl, rfl⟩))
    go_ret
    exact ⟨ret_b RR.out.symm, le_refl _⟩
set_option maxRecDepth 100000 in
set_option maxHeartbeats 4000000 in
theorem s_ValidTuning (b o : Nat) (x : Nat → Nat) (n : Nat) (B : Nat) (s : Value) (w : World) (hs : (slT x n).RdN w B s) :
    Calls Try.prog 32 #[.agg #[.float .f32 b, .float .f32 o, s]] w (Out_b (okT b o x n) w) := by
  have HV := hid (fun (w' : World) (g : Nat) (hl : le w w') (R : Row w' g 34 #[.float .f32 b, .float .f32 o, s]) => s_l07Ok b o x n B s w' (hs.le hl) g R)
  clear hs
  have F := (Frg.nil w).box 34 #[.float .f32 b, .float .f32 o, s]
  go_enter Try.func32, Try.ntmps32
  go_wp2_with (go_at_call 49; ((with_reducible refine (HV.out _ _ F.below (F.row m0)).mono ?_); rintro e w1 ⟨rfl, hl⟩; replace F := F.le hl; clear hl))
  go_ret
  exact ⟨rfl, F.below⟩
def sameT (b o : Nat) (x : Nat → Nat) (n : Nat) (b' o' : Nat) (x' : Nat → Nat) (n' : Nat) : Bool := sameB b b' && (sameB o o' && sameS x x' n n')
theorem tun_data {cs : List CD} (h : HasShL shTuning cs) : ∃ (b o : Nat) (xs : Nat → CD) (n : Nat), cs = [.flt .f32 b, .flt .f32 o, .sl 1 n xs] ∧ (∀ i, i < n → (xs i).flk = some .f32) := by
  obtain ⟨c0, cs, rfl, q0, h⟩ := h.inv
  obtain ⟨c1, cs, rfl, q1, h⟩ := h.inv
  obtain ⟨c2, cs, rfl, q2, h⟩ := h.inv
  obtain rfl := h.inv0
  obtain ⟨b, rfl⟩ := q0
  obtain ⟨o, rfl⟩ := q1
  obtain ⟨n, xs, rfl, r0⟩ := q2
  exact ⟨b, o, xs, n, rfl, fun i hi => ShOk.flts (fun i hi j hj => (r0 i hi j hj).ok) rfl i hi⟩
theorem tun_open {b o : Nat} {xs : Nat → CD} {n : Nat} {w : World} {B : Nat} {u : List Value} (h : RdLN w B (([.flt .f32 b, .flt .f32 o, .sl 1 n xs] : List CD).map CD.cp) u) (hx : ∀ i, i < n → (xs i).flk = some .f32) : ∃ s : Value, u = [.float .f32 b, .float .f32 o, s] ∧ (slT (fun i => (xs i).fx) n).RdN w B s ∧ fits .f32 b ∧ fits .f32 o := by
  simp only [List.map_cons, List.map_nil] at h
  obtain ⟨v0, u0, rfl, q0, hh0⟩ := h.inv
  obtain ⟨v1, u1, rfl, q1, hh1⟩ := hh0.inv
  obtain ⟨v2, u2, rfl, q2, hh2⟩ := hh1.inv
  obtain rfl := hh2.inv0
  obtain ⟨rfl, f1⟩ := q0
  obtain ⟨rfl, f2⟩ := q1
  exact ⟨v2, rfl, q2.congr (slT_cp hx), f1, f2⟩
end Go.Proofs.Ytkcpdddmabkkgaa

/- 'ValidScore' of the program. -/
namespace Go.Proofs.Ytkcpdddmabkkgaa
open Go.RowKit Go.Fk
theorem tunAtP (r b o : Nat) (sD sI sE : Value) : ∀ j, j < [Value.float .f32 b, .float .f32 o, sD].length → (#[Value.float .f32 r, .float .f32 b, .float .f32 o, sD, sI, sE] : Array Value)[1 + j]? = [Value.float .f32 b, .float .f32 o, sD][j]? := fun j hj => by match j, hj with | 0, _ => rfl | 1, _ => rfl | 2, _ => rfl
/-- Is a score valid? -/
def okSc (r b o : Nat) (xD : Nat → Nat) (nD : Nat) (xI : Nat → CD) (nI : Nat) (xE : Nat → CD) (nE : Nat) : Bool := withinB r 1065353216 1232348160 && okT b o xD nD && aiB xI nI && okE ((nE / 2 : Nat) : Int) (nI : Int) xE nE
theorem len_of {wd n : Nat} {x : Nat → CD} {w : World} {B : Nat} {s : Value} (h : (CD.sl wd n x).RdN w B s) : n ≤ maxLen ∧ ∃ p cap, s = .slice p n cap := by
  rcases h.form with ⟨rfl, e0⟩ | ⟨b, o, cap, rfl, hc, hm⟩
  · exact ⟨by rw [e0]; exact Nat.zero_le _, none, 0, by rw [e0]⟩
  · exact ⟨Nat.le_trans hc hm, _, _, rfl⟩
set_option maxRecDepth 100000 in
set_option maxHeartbeats 4000000 in
theorem i_ValidScore (B : Nat) (sD : Value) (pI : Option Addr) (capI : Nat) (pE : Option Addr) (capE : Nat) (r b o : Nat) (xD : Nat → Nat) (nD : Nat) (xI : Nat → CD) (nI : Nat) (xE : Nat → CD) (nE : Nat) (w : World) (hD : (slT xD nD).RdN w B sD) (hI : (CD.sl 5 nI xI).RdN w B (.slice pI nI capI)) (hE : (CD.sl 6 nE xE).RdN w B (.slice pE nE capE)) (kI : InsOk xI nI) (kE : EvsOk xE nE) : Calls Try.prog 12 #[.agg #[.float .f32 r, .float .f32 b, .float .f32 o, sD, .slice pI nI capI, .slice pE nE capE]] w (Out_b (okSc r b o xD nD xI nI xE nE) w) := by
  have H0 := hid (fun (w' : World) => i_isWithin r 1065353216 1232348160 w')
  have H1 := hid (fun (w1 : World) (hl : le w w1) => i_ValidTuning b o xD nD B sD w1 (hD.le hl))
  have H2 := hid (fun (w1 : World) (hl : le w w1) => i_areInstruments B xI pI nI capI w1 (hI.le hl) kI)
  have H3 := hid (fun (w1 : World) (hl : le w w1) => i_hasNotes B xE r b o sD pI nI capI pE nE capE w1 (hE.le hl) kE ⟨(len_of hE).1, (len_of hI).1⟩)
  clear hD hI hE kI kE
  have F := (Frg.nil w).box 38 #[.float .f32 r, .float .f32 b, .float .f32 o, sD, .slice pI nI capI, .slice pE nE capE]
  rcases bool_ft (withinB r 1065353216 1232348160) with h0 | h0
  · have E := hid (show okSc r b o xD nD xI nI xE nE = false by unfold okSc; simp only [h0, Bool.false_and, Bool.and_false, Bool.true_and])
    rw [h0] at H0
    clear h0
    go_enter Try.func12, Try.ntmps12
    go_wp2_with (first | ((with_reducible refine at_load rfl ?_); first | (with_reducible refine wpList_load1C rfl (g := w.heap.size) (f := 0) rfl (v := .float .f32 r) (by kernel_rfl) (F.row m0) rfl ukindFloat32 ?_) | (with_reducible refine wpList_load1C rfl (g := w.heap.size) (f := 4) rfl (v := .slice pI nI capI) (by kernel_rfl) (F.row m0) rfl ukindInstrumentSI ?_) | (with_reducible refine wpList_loadWC rfl (p := ⟨w.heap.size, 1, none⟩) rfl [.float .f32 b, .float .f32 o, sD] (by kernel_rfl) (Row.at_part (F.row m0) (tunAtP r b o sD (.slice pI nI capI) (.slice pE nE capE))) Try.underlying34 rfl uinfoTuningI rfl ?_)) | (go_at_call 22; ((with_reducible refine (H0.out _).mono ?_); rintro e w1 ⟨rfl, rfl⟩; skip)) | (go_at_call 23; ((with_reducible refine (H1.out _ F.below).mono ?_); rintro e w1 ⟨rfl, hl⟩; replace F := F.le hl; clear hl)) | (go_at_call 24; ((with_reducible refine (H2.out _ F.below).mono ?_); rintro e w1 ⟨rfl, hl⟩; replace F := F.le hl; clear hl)) | (go_at_call 25; ((with_reducible refine (H3.out _ F.below).mono ?_); rintro e w1 ⟨rfl, hl⟩; replace F := F.le hl; clear hl)) | ((with_reducible refine listN F ?_); clear F; intro wN F))
    go_ret
    exact ⟨ret_b E.out.symm, F.below⟩
  have p0 := hid h0
  rw [h0] at H0
  clear h0
  rcases bool_ft (okT b o xD nD) with h1 | h1
  · have E := hid (show okSc r b o xD nD xI nI xE nE = false by unfold okSc; simp only [p0.out, h1, Bool.false_and, Bool.and_false, Bool.true_and])
    rw [h1] at H1
    clear h1
    go_enter Try.func12, Try.ntmps12
    go_wp2_with (first | ((with_reducible refine at_load rfl ?_); first | (with_reducible refine wpList_load1C rfl (g := w.heap.size) (f := 0) rfl (v := .float .f32 r) (by kernel_rfl) (F.row m0) rfl ukindFloat32 ?_) | (with_reducible refine wpList_load1C rfl (g := w.heap.size) (f := 4) rfl (v := .slice pI nI capI) (by kernel_rfl) (F.row m0) rfl ukindInstrumentSI ?_) | (with_reducible refine wpList_loadWC rfl (p := ⟨w.heap.size, 1, none⟩) rfl [.float .f32 b, .float .f32 o, sD] (by kernel_rfl) (Row.at_part (F.row m0) (tunAtP r b o sD (.slice pI nI capI) (.slice pE nE capE))) Try.underlying34 rfl uinfoTuningI rfl ?_)) | (go_at_call 22; ((with_reducible refine (H0.out _).mono ?_); rintro e w1 ⟨rfl, rfl⟩; skip)) | (go_at_call 23; ((with_reducible refine (H1.out _ F.below).mono ?_); rintro e w1 ⟨rfl, hl⟩; replace F := F.le hl; clear hl)) | (go_at_call 24; ((with_reducible refine (H2.out _ F.below).mono ?_); rintro e w1 ⟨rfl, hl⟩; replace F := F.le hl; clear hl)) | (go_at_call 25; ((with_reducible refine (H3.out _ F.below).mono ?_); rintro e w1 ⟨rfl, hl⟩; replace F := F.le hl; clear hl)) | ((with_reducible refine listN F ?_); clear F; intro wN F))
    go_ret
    exact ⟨ret_b E.out.symm, F.below⟩
  have p1 := hid h1
  rw [h1] at H1
  clear h1
  rcases bool_ft (aiB xI nI) with h2 | h2
  · have E := hid (show okSc r b o xD nD xI nI xE nE = false by unfold okSc; simp only [p0.out, p1.out, h2, Bool.false_and, Bool.and_false, Bool.true_and])
    rw [h2] at H2
    clear h2
    go_enter Try.func12, Try.ntmps12
    go_wp2_with (first | ((with_reducible refine at_load rfl ?_); first | (with_reducible refine wpList_load1C rfl (g := w.heap.size) (f := 0) rfl (v := .float .f32 r) (by kernel_rfl) (F.row m0) rfl ukindFloat32 ?_) | (with_reducible refine wpList_load1C rfl (g := w.heap.size) (f := 4) rfl (v := .slice pI nI capI) (by kernel_rfl) (F.row m0) rfl ukindInstrumentSI ?_) | (with_reducible refine wpList_loadWC rfl (p := ⟨w.heap.size, 1, none⟩) rfl [.float .f32 b, .float .f32 o, sD] (by kernel_rfl) (Row.at_part (F.row m0) (tunAtP r b o sD (.slice pI nI capI) (.slice pE nE capE))) Try.underlying34 rfl uinfoTuningI rfl ?_)) | (go_at_call 22; ((with_reducible refine (H0.out _).mono ?_); rintro e w1 ⟨rfl, rfl⟩; skip)) | (go_at_call 23; ((with_reducible refine (H1.out _ F.below).mono ?_); rintro e w1 ⟨rfl, hl⟩; replace F := F.le hl; clear hl)) | (go_at_call 24; ((with_reducible refine (H2.out _ F.below).mono ?_); rintro e w1 ⟨rfl, hl⟩; replace F := F.le hl; clear hl)) | (go_at_call 25; ((with_reducible refine (H3.out _ F.below).mono ?_); rintro e w1 ⟨rfl, hl⟩; replace F := F.le hl; clear hl)) | ((with_reducible refine listN F ?_); clear F; intro wN F))
    go_ret
    exact ⟨ret_b E.out.symm, F.below⟩
  have p2 := hid h2
  rw [h2] at H2
  clear h2
  have E := hid (show okSc r b o xD nD xI nI xE nE = okE ((nE / 2 : Nat) : Int) (nI : Int) xE nE by unfold okSc; simp only [p0.out, p1.out, p2.out, Bool.true_and])
  go_enter Try.func12, Try.ntmps12
  go_wp2_with (first | ((with_reducible refine at_load rfl ?_); first | (with_reducible refine wpList_load1C rfl (g := w.heap.size) (f := 0) rfl (v := .float .f32 r) (by kernel_rfl) (F.row m0) rfl ukindFloat32 ?_) | (with_reducible refine wpList_load1C rfl (g := w.heap.size) (f := 4) rfl (v := .slice pI nI capI) (by kernel_rfl) (F.row m0) rfl ukindInstrumentSI ?_) | (with_reducible refine wpList_loadWC rfl (p := ⟨w.heap.size, 1, none⟩) rfl [.float .f32 b, .float .f32 o, sD] (by kernel_rfl) (Row.at_part (F.row m0) (tunAtP r b o sD (.slice pI nI capI) (.slice pE nE capE))) Try.underlying34 rfl uinfoTuningI rfl ?_) | (with_reducible refine wpList_loadWC rfl (p := ⟨w.heap.size, 0, none⟩) rfl [.float .f32 r, .float .f32 b, .float .f32 o, sD, .slice pI nI capI, .slice pE nE capE] (by kernel_rfl) (Row.at_part (f := 0) (F.row m0) (fun j hj => by rw [Nat.zero_add]; simp)) Try.underlying38 rfl uinfoScoreI rfl ?_)) | (go_at_call 22; ((with_reducible refine (H0.out _).mono ?_); rintro e w1 ⟨rfl, rfl⟩; skip)) | (go_at_call 23; ((with_reducible refine (H1.out _ F.below).mono ?_); rintro e w1 ⟨rfl, hl⟩; replace F := F.le hl; clear hl)) | (go_at_call 24; ((with_reducible refine (H2.out _ F.below).mono ?_); rintro e w1 ⟨rfl, hl⟩; replace F := F.le hl; clear hl)) | (go_at_call 25; ((with_reducible refine (H3.out _ F.below).mono ?_); rintro e w1 ⟨rfl, hl⟩; replace F := F.le hl; clear hl)) | ((with_reducible refine listN F ?_); clear F; intro wN F))
  go_ret
  exact ⟨ret_b E.out.symm, F.below⟩
end Go.Proofs.Ytkcpdddmabkkgaa

/- The model's 'l08Instrument', its cells told one by one. -/
namespace Go.Proofs.Ytkcpdddmabkkgaa
open Go.RowKit Go.Fk
set_option maxRecDepth 100000 in
set_option maxHeartbeats 4000000 in
theorem s_l08InstrumentC (t : ByteArray) (k : Int) (a b c g f : Nat) (w : World) (hc : ∀ j v, [Value.string t, .int .i64 k, .float .f32 a, .float .f32 b, .float .f32 c][j]? = some v → w.cell? ((⟨g, f, none⟩ : Addr).add j) = some v) (ht : t.size ≤ maxLen) (hf : fits .f32 a ∧ fits .f32 b ∧ fits .f32 c) : Calls Try.prog 33 #[.pointer (some ⟨g, f, none⟩)] w (Out_b (okI t k a b c) w) := by
  have F := Frg.nil w
  have e0 := hid (fun (w' : World) (hl : le w w') => show w'.cell? ⟨g, f, none⟩ = some (.string t) by have h := hc 0 _ rfl; rw [add_none] at h; exact (Below.cell hl (cell_lt' h)).trans h)
  have e1 := hid (fun (w' : World) (hl : le w w') => show w'.cell? ⟨g, f + 1, none⟩ = some (.int .i64 k) by have h := hc 1 _ rfl; rw [add_none] at h; exact (Below.cell hl (cell_lt' h)).trans h)
  have e2 := hid (fun (w' : World) (hl : le w w') => show w'.cell? ⟨g, f + 2, none⟩ = some (.float .f32 a) by have h := hc 2 _ rfl; rw [add_none] at h; exact (Below.cell hl (cell_lt' h)).trans h)
  have e3 := hid (fun (w' : World) (hl : le w w') => show w'.cell? ⟨g, f + 3, none⟩ = some (.float .f32 b) by have h := hc 3 _ rfl; rw [add_none] at h; exact (Below.cell hl (cell_lt' h)).trans h)
  have e4 := hid (fun (w' : World) (hl : le w w') => show w'.cell? ⟨g, f + 4, none⟩ = some (.float .f32 c) by have h := hc 4 _ rfl; rw [add_none] at h; exact (Below.cell hl (cell_lt' h)).trans h)
  clear hc
  have Hnm := hid (fun (w' : World) => s_l08Name t w' ht)
  have Hwb := hid (fun (w' : World) => s_Between0 b 1065353216 w')
  have Hwa := hid (fun (w' : World) => s_Between0 a 1056964608 w')
  have Hpa := hid (fun (w' : World) => s_Between1 a w')
  have Hpc := hid (fun (w' : World) => s_Between1 c w')
  have Hfc := hid (fun (w' : World) => s_l01Finite c w')
  clear hf ht
  rcases bool_ft (nameB t) with hnm | hnm
  · have E := hid (show okI t k a b c = false by unfold okI; simp [hnm])
    rw [hnm] at Hnm
    clear hnm
    go_enter Try.func33, Try.ntmps33
    go_wp2_with (first | ((with_reducible refine at_load rfl ?_); first | (with_reducible refine wpList_load1G rfl (p := ⟨g, f, none⟩) rfl (v := .string t) (by kernel_rfl) (e0.out _ F.below) ukindString ?_) | (with_reducible refine wpList_load1G rfl (p := ⟨g, f + 1, none⟩) rfl (v := .int .i64 _) (by kernel_rfl) (e1.out _ F.below) ukindInt64 ?_) | (with_reducible refine wpList_load1G rfl (p := ⟨g, f + 2, none⟩) rfl (v := .float .f32 a) (by kernel_rfl) (e2.out _ F.below) ukindFloat32 ?_) | (with_reducible refine wpList_load1G rfl (p := ⟨g, f + 3, none⟩) rfl (v := .float .f32 b) (by kernel_rfl) (e3.out _ F.below) ukindFloat32 ?_) | (with_reducible refine wpList_load1G rfl (p := ⟨g, f + 4, none⟩) rfl (v := .float .f32 c) (by kernel_rfl) (e4.out _ F.below) ukindFloat32 ?_)) | (go_at_call 50; first | ((with_reducible refine (Hnm.out _).mono ?_); rintro e w1 ⟨rfl, hl⟩; replace F := F.le hl; clear hl)) | (go_at_call 51; first | ((with_reducible refine (Hwb.out _).mono ?_); rintro e w1 ⟨rfl, rfl⟩; skip) | ((with_reducible refine (Hwa.out _).mono ?_); rintro e w1 ⟨rfl, rfl⟩; skip) | ((with_reducible refine (Hpa.out _).mono ?_); rintro e w1 ⟨rfl, rfl⟩; skip) | ((with_reducible refine (Hpc.out _).mono ?_); rintro e w1 ⟨rfl, rfl⟩; skip)) | (go_at_call 52; first | ((with_reducible refine (Hfc.out _).mono ?_); rintro e w1 ⟨rfl, q, rfl⟩; replace F := F.drewN q)) | ((with_reducible refine listN F ?_); clear F; intro wN F))
    go_ret
    exact ⟨ret_b E.out.symm, F.below⟩
  have tnm := hid hnm
  rw [hnm] at Hnm
  clear hnm
  rcases bool_ft (withinB b 0 1065353216) with hwb | hwb
  · have E := hid (show okI t k a b c = false by unfold okI; simp [tnm.out, hwb])
    rw [hwb] at Hwb
    clear hwb
    go_enter Try.func33, Try.ntmps33
    go_wp2_with (first | ((with_reducible refine at_load rfl ?_); first | (with_reducible refine wpList_load1G rfl (p := ⟨g, f, none⟩) rfl (v := .string t) (by kernel_rfl) (e0.out _ F.below) ukindString ?_) | (with_reducible refine wpList_load1G rfl (p := ⟨g, f + 1, none⟩) rfl (v := .int .i64 _) (by kernel_rfl) (e1.out _ F.below) ukindInt64 ?_) | (with_reducible refine wpList_load1G rfl (p := ⟨g, f + 2, none⟩) rfl (v := .float .f32 a) (by kernel_rfl) (e2.out _ F.below) ukindFloat32 ?_) | (with_reducible refine wpList_load1G rfl (p := ⟨g, f + 3, none⟩) rfl (v := .float .f32 b) (by kernel_rfl) (e3.out _ F.below) ukindFloat32 ?_) | (with_reducible refine wpList_load1G rfl (p := ⟨g, f + 4, none⟩) rfl (v := .float .f32 c) (by kernel_rfl) (e4.out _ F.below) ukindFloat32 ?_)) | (go_at_call 50; first | ((with_reducible refine (Hnm.out _).mono ?_); rintro e w1 ⟨rfl, hl⟩; replace F := F.le hl; clear hl)) | (go_at_call 51; first | ((with_reducible refine (Hwb.out _).mono ?_); rintro e w1 ⟨rfl, rfl⟩; skip) | ((with_reducible refine (Hwa.out _).mono ?_); rintro e w1 ⟨rfl, rfl⟩; skip) | ((with_reducible refine (Hpa.out _).mono ?_); rintro e w1 ⟨rfl, rfl⟩; skip) | ((with_reducible refine (Hpc.out _).mono ?_); rintro e w1 ⟨rfl, rfl⟩; skip)) | (go_at_call 52; first | ((with_reducible refine (Hfc.out _).mono ?_); rintro e w1 ⟨rfl, q, rfl⟩; replace F := F.drewN q)) | ((with_reducible refine listN F ?_); clear F; intro wN F))
    go_ret
    exact ⟨ret_b E.out.symm, F.below⟩
  have twb := hid hwb
  rw [hwb] at Hwb
  clear hwb
  by_cases k1 : k = 1
  · subst k1
    rcases bool_ft (withinB a 0 1056964608) with hwa | hwa
    · have E := hid (show okI t 1 a b c = false by unfold okI; simp [tnm.out, twb.out, hwa])
      rw [hwa] at Hwa
      clear hwa
      go_enter Try.func33, Try.ntmps33
      go_wp2_with (first | ((with_reducible refine at_load rfl ?_); first | (with_reducible refine wpList_load1G rfl (p := ⟨g, f, none⟩) rfl (v := .string t) (by kernel_rfl) (e0.out _ F.below) ukindString ?_) | (with_reducible refine wpList_load1G rfl (p := ⟨g, f + 1, none⟩) rfl (v := .int .i64 _) (by kernel_rfl) (e1.out _ F.below) ukindInt64 ?_) | (with_reducible refine wpList_load1G rfl (p := ⟨g, f + 2, none⟩) rfl (v := .float .f32 a) (by kernel_rfl) (e2.out _ F.below) ukindFloat32 ?_) | (with_reducible refine wpList_load1G rfl (p := ⟨g, f + 3, none⟩) rfl (v := .float .f32 b) (by kernel_rfl) (e3.out _ F.below) ukindFloat32 ?_) | (with_reducible refine wpList_load1G rfl (p := ⟨g, f + 4, none⟩) rfl (v := .float .f32 c) (by kernel_rfl) (e4.out _ F.below) ukindFloat32 ?_)) | (go_at_call 50; first | ((with_reducible refine (Hnm.out _).mono ?_); rintro e w1 ⟨rfl, hl⟩; replace F := F.le hl; clear hl)) | (go_at_call 51; first | ((with_reducible refine (Hwb.out _).mono ?_); rintro e w1 ⟨rfl, rfl⟩; skip) | ((with_reducible refine (Hwa.out _).mono ?_); rintro e w1 ⟨rfl, rfl⟩; skip) | ((with_reducible refine (Hpa.out _).mono ?_); rintro e w1 ⟨rfl, rfl⟩; skip) | ((with_reducible refine (Hpc.out _).mono ?_); rintro e w1 ⟨rfl, rfl⟩; skip)) | (go_at_call 52; first | ((with_reducible refine (Hfc.out _).mono ?_); rintro e w1 ⟨rfl, q, rfl⟩; replace F := F.drewN q)) | ((with_reducible refine listN F ?_); clear F; intro wN F))
      go_ret
      exact ⟨ret_b E.out.symm, F.below⟩
    have twa := hid hwa
    rw [hwa] at Hwa
    clear hwa
    have E := hid (show okI t 1 a b c = partQ c by unfold okI; simp [tnm.out, twb.out, twa.out])
    go_enter Try.func33, Try.ntmps33
    go_wp2_with (first | ((with_reducible refine at_load rfl ?_); first | (with_reducible refine wpList_load1G rfl (p := ⟨g, f, none⟩) rfl (v := .string t) (by kernel_rfl) (e0.out _ F.below) ukindString ?_) | (with_reducible refine wpList_load1G rfl (p := ⟨g, f + 1, none⟩) rfl (v := .int .i64 _) (by kernel_rfl) (e1.out _ F.below) ukindInt64 ?_) | (with_reducible refine wpList_load1G rfl (p := ⟨g, f + 2, none⟩) rfl (v := .float .f32 a) (by kernel_rfl) (e2.out _ F.below) ukindFloat32 ?_) | (with_reducible refine wpList_load1G rfl (p := ⟨g, f + 3, none⟩) rfl (v := .float .f32 b) (by kernel_rfl) (e3.out _ F.below) ukindFloat32 ?_) | (with_reducible refine wpList_load1G rfl (p := ⟨g, f + 4, none⟩) rfl (v := .float .f32 c) (by kernel_rfl) (e4.out _ F.below) ukindFloat32 ?_)) | (go_at_call 50; first | ((with_reducible refine (Hnm.out _).mono ?_); rintro e w1 ⟨rfl, hl⟩; replace F := F.le hl; clear hl)) | (go_at_call 51; first | ((with_reducible refine (Hwb.out _).mono ?_); rintro e w1 ⟨rfl, rfl⟩; skip) | ((with_reducible refine (Hwa.out _).mono ?_); rintro e w1 ⟨rfl, rfl⟩; skip) | ((with_reducible refine (Hpa.out _).mono ?_); rintro e w1 ⟨rfl, rfl⟩; skip) | ((with_reducible refine (Hpc.out _).mono ?_); rintro e w1 ⟨rfl, rfl⟩; skip)) | (go_at_call 52; first | ((with_reducible refine (Hfc.out _).mono ?_); rintro e w1 ⟨rfl, q, rfl⟩; replace F := F.drewN q)) | ((with_reducible refine listN F ?_); clear F; intro wN F))
    go_ret
    exact ⟨ret_b E.out.symm, F.below⟩
  have n1 : (k == 1) = false := by simpa using k1
  by_cases k2 : k = 2
  · subst k2
    rcases bool_ft (partQ a) with hpa | hpa
    · have E := hid (show okI t 2 a b c = false by unfold okI; simp [tnm.out, twb.out, hpa])
      rw [hpa] at Hpa
      clear hpa
      go_enter Try.func33, Try.ntmps33
      go_wp2_with (first | ((with_reducible refine at_load rfl ?_); first | (with_reducible refine wpList_load1G rfl (p := ⟨g, f, none⟩) rfl (v := .string t) (by kernel_rfl) (e0.out _ F.below) ukindString ?_) | (with_reducible refine wpList_load1G rfl (p := ⟨g, f + 1, none⟩) rfl (v := .int .i64 _) (by kernel_rfl) (e1.out _ F.below) ukindInt64 ?_) | (with_reducible refine wpList_load1G rfl (p := ⟨g, f + 2, none⟩) rfl (v := .float .f32 a) (by kernel_rfl) (e2.out _ F.below) ukindFloat32 ?_) | (with_reducible refine wpList_load1G rfl (p := ⟨g, f + 3, none⟩) rfl (v := .float .f32 b) (by kernel_rfl) (e3.out _ F.below) ukindFloat32 ?_) | (with_reducible refine wpList_load1G rfl (p := ⟨g, f + 4, none⟩) rfl (v := .float .f32 c) (by kernel_rfl) (e4.out _ F.below) ukindFloat32 ?_)) | (go_at_call 50; first | ((with_reducible refine (Hnm.out _).mono ?_); rintro e w1 ⟨rfl, hl⟩; replace F := F.le hl; clear hl)) | (go_at_call 51; first | ((with_reducible refine (Hwb.out _).mono ?_); rintro e w1 ⟨rfl, rfl⟩; skip) | ((with_reducible refine (Hwa.out _).mono ?_); rintro e w1 ⟨rfl, rfl⟩; skip) | ((with_reducible refine (Hpa.out _).mono ?_); rintro e w1 ⟨rfl, rfl⟩; skip) | ((with_reducible refine (Hpc.out _).mono ?_); rintro e w1 ⟨rfl, rfl⟩; skip)) | (go_at_call 52; first | ((with_reducible refine (Hfc.out _).mono ?_); rintro e w1 ⟨rfl, q, rfl⟩; replace F := F.drewN q)) | ((with_reducible refine listN F ?_); clear F; intro wN F))
      go_ret
      exact ⟨ret_b E.out.symm, F.below⟩
    have tpa := hid hpa
    rw [hpa] at Hpa
    clear hpa
    rcases ho : FloatKind.f32.format.order c 0 with _ | (_ | _ | _) <;> rcases hp : FloatKind.f32.format.order c 1065353216 with _ | (_ | _ | _)
    all_goals
      first
      | (have E := hid (show okI t 2 a b c = true by unfold okI isQ; rw [ho, hp]; simp [tnm.out, twb.out, tpa.out])
         go_enter Try.func33, Try.ntmps33
         go_wp2_with (first | ((with_reducible refine at_load rfl ?_); first | (with_reducible refine wpList_load1G rfl (p := ⟨g, f, none⟩) rfl (v := .string t) (by kernel_rfl) (e0.out _ F.below) ukindString ?_) | (with_reducible refine wpList_load1G rfl (p := ⟨g, f + 1, none⟩) rfl (v := .int .i64 _) (by kernel_rfl) (e1.out _ F.below) ukindInt64 ?_) | (with_reducible refine wpList_load1G rfl (p := ⟨g, f + 2, none⟩) rfl (v := .float .f32 a) (by kernel_rfl) (e2.out _ F.below) ukindFloat32 ?_) | (with_reducible refine wpList_load1G rfl (p := ⟨g, f + 3, none⟩) rfl (v := .float .f32 b) (by kernel_rfl) (e3.out _ F.below) ukindFloat32 ?_) | (with_reducible refine wpList_load1G rfl (p := ⟨g, f + 4, none⟩) rfl (v := .float .f32 c) (by kernel_rfl) (e4.out _ F.below) ukindFloat32 ?_)) | (go_at_call 50; first | ((with_reducible refine (Hnm.out _).mono ?_); rintro e w1 ⟨rfl, hl⟩; replace F := F.le hl; clear hl)) | (go_at_call 51; first | ((with_reducible refine (Hwb.out _).mono ?_); rintro e w1 ⟨rfl, rfl⟩; skip) | ((with_reducible refine (Hwa.out _).mono ?_); rintro e w1 ⟨rfl, rfl⟩; skip) | ((with_reducible refine (Hpa.out _).mono ?_); rintro e w1 ⟨rfl, rfl⟩; skip) | ((with_reducible refine (Hpc.out _).mono ?_); rintro e w1 ⟨rfl, rfl⟩; skip)) | (go_at_call 52; first | ((with_reducible refine (Hfc.out _).mono ?_); rintro e w1 ⟨rfl, q, rfl⟩; replace F := F.drewN q)) | ((with_reducible refine listN F ?_); clear F; intro wN F))
         go_ret
         exact ⟨ret_b E.out.symm, F.below⟩
         done)
      | (have E := hid (show okI t 2 a b c = false by unfold okI isQ; rw [ho, hp]; simp [tnm.out, twb.out, tpa.out])
         go_enter Try.func33, Try.ntmps33
         go_wp2_with (first | ((with_reducible refine at_load rfl ?_); first | (with_reducible refine wpList_load1G rfl (p := ⟨g, f, none⟩) rfl (v := .string t) (by kernel_rfl) (e0.out _ F.below) ukindString ?_) | (with_reducible refine wpList_load1G rfl (p := ⟨g, f + 1, none⟩) rfl (v := .int .i64 _) (by kernel_rfl) (e1.out _ F.below) ukindInt64 ?_) | (with_reducible refine wpList_load1G rfl (p := ⟨g, f + 2, none⟩) rfl (v := .float .f32 a) (by kernel_rfl) (e2.out _ F.below) ukindFloat32 ?_) | (with_reducible refine wpList_load1G rfl (p := ⟨g, f + 3, none⟩) rfl (v := .float .f32 b) (by kernel_rfl) (e3.out _ F.below) ukindFloat32 ?_) | (with_reducible refine wpList_load1G rfl (p := ⟨g, f + 4, none⟩) rfl (v := .float .f32 c) (by kernel_rfl) (e4.out _ F.below) ukindFloat32 ?_)) | (go_at_call 50; first | ((with_reducible refine (Hnm.out _).mono ?_); rintro e w1 ⟨rfl, hl⟩; replace F := F.le hl; clear hl)) | (go_at_call 51; first | ((with_reducible refine (Hwb.out _).mono ?_); rintro e w1 ⟨rfl, rfl⟩; skip) | ((with_reducible refine (Hwa.out _).mono ?_); rintro e w1 ⟨rfl, rfl⟩; skip) | ((with_reducible refine (Hpa.out _).mono ?_); rintro e w1 ⟨rfl, rfl⟩; skip) | ((with_reducible refine (Hpc.out _).mono ?_); rintro e w1 ⟨rfl, rfl⟩; skip)) | (go_at_call 52; first | ((with_reducible refine (Hfc.out _).mono ?_); rintro e w1 ⟨rfl, q, rfl⟩; replace F := F.drewN q)) | ((with_reducible refine listN F ?_); clear F; intro wN F))
         go_ret
         exact ⟨ret_b E.out.symm, F.below⟩
         done)
  have n2 : (k == 2) = false := by simpa using k2
  by_cases k3 : k = 3
  · subst k3
    rcases bool_ft (partQ a) with hpa | hpa
    · have E := hid (show okI t 3 a b c = false by unfold okI; simp [tnm.out, twb.out, hpa])
      rw [hpa] at Hpa
      clear hpa
      go_enter Try.func33, Try.ntmps33
      go_wp2_with (first | ((with_reducible refine at_load rfl ?_); first | (with_reducible refine wpList_load1G rfl (p := ⟨g, f, none⟩) rfl (v := .string t) (by kernel_rfl) (e0.out _ F.below) ukindString ?_) | (with_reducible refine wpList_load1G rfl (p := ⟨g, f + 1, none⟩) rfl (v := .int .i64 _) (by kernel_rfl) (e1.out _ F.below) ukindInt64 ?_) | (with_reducible refine wpList_load1G rfl (p := ⟨g, f + 2, none⟩) rfl (v := .float .f32 a) (by kernel_rfl) (e2.out _ F.below) ukindFloat32 ?_) | (with_reducible refine wpList_load1G rfl (p := ⟨g, f + 3, none⟩) rfl (v := .float .f32 b) (by kernel_rfl) (e3.out _ F.below) ukindFloat32 ?_) | (with_reducible refine wpList_load1G rfl (p := ⟨g, f + 4, none⟩) rfl (v := .float .f32 c) (by kernel_rfl) (e4.out _ F.below) ukindFloat32 ?_)) | (go_at_call 50; first | ((with_reducible refine (Hnm.out _).mono ?_); rintro e w1 ⟨rfl, hl⟩; replace F := F.le hl; clear hl)) | (go_at_call 51; first | ((with_reducible refine (Hwb.out _).mono ?_); rintro e w1 ⟨rfl, rfl⟩; skip) | ((with_reducible refine (Hwa.out _).mono ?_); rintro e w1 ⟨rfl, rfl⟩; skip) | ((with_reducible refine (Hpa.out _).mono ?_); rintro e w1 ⟨rfl, rfl⟩; skip) | ((with_reducible refine (Hpc.out _).mono ?_); rintro e w1 ⟨rfl, rfl⟩; skip)) | (go_at_call 52; first | ((with_reducible refine (Hfc.out _).mono ?_); rintro e w1 ⟨rfl, q, rfl⟩; replace F := F.drewN q)) | ((with_reducible refine listN F ?_); clear F; intro wN F))
      go_ret
      exact ⟨ret_b E.out.symm, F.below⟩
    have tpa := hid hpa
    rw [hpa] at Hpa
    clear hpa
    have E := hid (show okI t 3 a b c = fin c by unfold okI; simp [tnm.out, twb.out, tpa.out])
    go_enter Try.func33, Try.ntmps33
    go_wp2_with (first | ((with_reducible refine at_load rfl ?_); first | (with_reducible refine wpList_load1G rfl (p := ⟨g, f, none⟩) rfl (v := .string t) (by kernel_rfl) (e0.out _ F.below) ukindString ?_) | (with_reducible refine wpList_load1G rfl (p := ⟨g, f + 1, none⟩) rfl (v := .int .i64 _) (by kernel_rfl) (e1.out _ F.below) ukindInt64 ?_) | (with_reducible refine wpList_load1G rfl (p := ⟨g, f + 2, none⟩) rfl (v := .float .f32 a) (by kernel_rfl) (e2.out _ F.below) ukindFloat32 ?_) | (with_reducible refine wpList_load1G rfl (p := ⟨g, f + 3, none⟩) rfl (v := .float .f32 b) (by kernel_rfl) (e3.out _ F.below) ukindFloat32 ?_) | (with_reducible refine wpList_load1G rfl (p := ⟨g, f + 4, none⟩) rfl (v := .float .f32 c) (by kernel_rfl) (e4.out _ F.below) ukindFloat32 ?_)) | (go_at_call 50; first | ((with_reducible refine (Hnm.out _).mono ?_); rintro e w1 ⟨rfl, hl⟩; replace F := F.le hl; clear hl)) | (go_at_call 51; first | ((with_reducible refine (Hwb.out _).mono ?_); rintro e w1 ⟨rfl, rfl⟩; skip) | ((with_reducible refine (Hwa.out _).mono ?_); rintro e w1 ⟨rfl, rfl⟩; skip) | ((with_reducible refine (Hpa.out _).mono ?_); rintro e w1 ⟨rfl, rfl⟩; skip) | ((with_reducible refine (Hpc.out _).mono ?_); rintro e w1 ⟨rfl, rfl⟩; skip)) | (go_at_call 52; first | ((with_reducible refine (Hfc.out _).mono ?_); rintro e w1 ⟨rfl, q, rfl⟩; replace F := F.drewN q)) | ((with_reducible refine listN F ?_); clear F; intro wN F))
    go_ret
    exact ⟨ret_b E.out.symm, F.below⟩
  have n3 : (k == 3) = false := by simpa using k3
  have E := hid (show okI t k a b c = false by unfold okI; simp [k1, k2, k3])
  go_enter Try.func33, Try.ntmps33
  go_wp2_with (first | ((with_reducible refine at_load rfl ?_); first | (with_reducible refine wpList_load1G rfl (p := ⟨g, f, none⟩) rfl (v := .string t) (by kernel_rfl) (e0.out _ F.below) ukindString ?_) | (with_reducible refine wpList_load1G rfl (p := ⟨g, f + 1, none⟩) rfl (v := .int .i64 _) (by kernel_rfl) (e1.out _ F.below) ukindInt64 ?_) | (with_reducible refine wpList_load1G rfl (p := ⟨g, f + 2, none⟩) rfl (v := .float .f32 a) (by kernel_rfl) (e2.out _ F.below) ukindFloat32 ?_) | (with_reducible refine wpList_load1G rfl (p := ⟨g, f + 3, none⟩) rfl (v := .float .f32 b) (by kernel_rfl) (e3.out _ F.below) ukindFloat32 ?_) | (with_reducible refine wpList_load1G rfl (p := ⟨g, f + 4, none⟩) rfl (v := .float .f32 c) (by kernel_rfl) (e4.out _ F.below) ukindFloat32 ?_)) | (go_at_call 50; first | ((with_reducible refine (Hnm.out _).mono ?_); rintro e w1 ⟨rfl, hl⟩; replace F := F.le hl; clear hl)) | (go_at_call 51; first | ((with_reducible refine (Hwb.out _).mono ?_); rintro e w1 ⟨rfl, rfl⟩; skip) | ((with_reducible refine (Hwa.out _).mono ?_); rintro e w1 ⟨rfl, rfl⟩; skip) | ((with_reducible refine (Hpa.out _).mono ?_); rintro e w1 ⟨rfl, rfl⟩; skip) | ((with_reducible refine (Hpc.out _).mono ?_); rintro e w1 ⟨rfl, rfl⟩; skip)) | (go_at_call 52; first | ((with_reducible refine (Hfc.out _).mono ?_); rintro e w1 ⟨rfl, q, rfl⟩; replace F := F.drewN q)) | ((with_reducible refine listN F ?_); clear F; intro wN F))
  go_ret
  exact ⟨ret_b E.out.symm, F.below⟩
end Go.Proofs.Ytkcpdddmabkkgaa

/- Events: the model's small functions. -/
namespace Go.Proofs.Ytkcpdddmabkkgaa
open Go.RowKit Go.Fk
theorem s_InB (a b c : Int) (w : World) : Calls Try.prog 18 #[.int .i64 a, .int .i64 b, .int .i64 c] w fun e w' => e = .returned (.bool (decide (b ≤ a) && decide (a ≤ c))) ∧ w = w' := by
  by_cases h1 : b ≤ a
  · by_cases h2 : a ≤ c
    · have E := hid (show (decide (b ≤ a) && decide (a ≤ c)) = true by simp [h1, h2])
      go_enter Try.func18, Try.ntmps18
      go_wp2
      go_ret
      exact ⟨ret_b E.out.symm, rfl⟩
    · have E := hid (show (decide (b ≤ a) && decide (a ≤ c)) = false by simp [h2])
      have D := hid (decide_eq_false h2)
      go_enter Try.func18, Try.ntmps18
      go_wp2
      go_ret
      exact ⟨ret_b D.out.symm, rfl⟩
  · have E := hid (show (decide (b ≤ a) && decide (a ≤ c)) = false by simp [h1])
    go_enter Try.func18, Try.ntmps18
    go_wp2
    go_ret
    exact ⟨ret_b E.out.symm, rfl⟩
set_option maxRecDepth 100000 in
set_option maxHeartbeats 4000000 in
theorem s_Start (B : Nat) (x : Nat → CD) (b o n cap : Nat) (v A : Int) (w : World) (hs : (CD.sl 6 n x).RdN w B (.slice (some ⟨b, o, none⟩) n cap)) (hx : EvsOk x n) (hm : n ≤ maxLen) (hu : ∀ i, i < n → evK x i = 2 → evN x i = v → evA x i = A) (he : ∃ i, i < n ∧ evK x i = 2 ∧ evN x i = v) :
    Calls Try.prog 55 #[.slice (some ⟨b, o, none⟩) n cap, .int .i64 v] w fun e w' => e = .returned (.int .i64 A) ∧ le w w' := by
  have HA := hid (fun k (hk : k < n) => hx.vals hs hk)
  have HU := hid hu
  obtain ⟨i0, hi0, hk0, hv0⟩ := he
  have H0 := hid (And.intro hk0 hv0)
  unfold maxLen at hm
  clear hs hx hu hk0 hv0
  go_enter Try.func55, Try.ntmps55
  go_wp2
  go_loopw [5] (fun i wr => ∃ j : Nat, j ≤ i0 ∧ i = .int .i64 j ∧ Hid (le w wr)) (fun i _ => n - (intOf i).toNat)
  case atStart => exact ⟨0, Nat.zero_le _, rfl, le_refl _⟩
  case round =>
    obtain ⟨j, hj, rfl, HL⟩ := hrel
    rename_i wr _
    have hlt : j < n := by omega
    obtain ⟨y, _, _, _, cu⟩ := HA.out j hlt
    have c0 : wr.cell? ⟨b, o + j * 6, none⟩ = some (.int .i64 (evA x j)) := by have h := cu 0 _ rfl; rw [add_none] at h; exact (Below.cell HL.out (cell_lt' h)).trans h
    have c1 : wr.cell? ⟨b, o + j * 6 + 1, none⟩ = some (.int .i64 (evK x j)) := by have h := cu 1 _ rfl; rw [add_none] at h; exact (Below.cell HL.out (cell_lt' h)).trans h
    have c2 : wr.cell? ⟨b, o + j * 6 + 2, none⟩ = some (.int .i64 (evN x j)) := by have h := cu 2 _ rfl; rw [add_none] at h; exact (Below.cell HL.out (cell_lt' h)).trans h
    have HJ0 := hid (show j = i0 → evK x j = 2 ∧ evN x j = v from fun e => by rw [e]; exact H0.out)
    clear cu HA H0
    by_cases hk : evK x j = 2
    · have HUk := hid (HU.out j hlt hk)
      generalize evK x j = KK at *
      subst hk
      by_cases hv : evN x j = v
      · have HE := hid (HUk.out hv)
        generalize evN x j = NN at *
        subst hv
        generalize evA x j = AA at *
        obtain rfl := HE.out
        clear HE HUk HU HJ0
        go_wp2
        go_ret
        exact ⟨rfl, HL.out⟩
      · have hv2 : (evN x j == v) = false := by simpa using hv
        have hne : j ≠ i0 := fun e => hv (HJ0.out e).2
        clear HUk HU HJ0
        go_wp2
        go_roundw
        case rel => exact ⟨j + 1, by omega, by go_num, HL.out⟩
        case measure => simp [intOf]; omega
    · have hk2 : (evK x j == 2) = false := by simpa using hk
      have hne : j ≠ i0 := fun e => hk (HJ0.out e).1
      clear HU HJ0
      go_wp2
      go_roundw
      case rel => exact ⟨j + 1, by omega, by go_num, HL.out⟩
      case measure => simp [intOf]; omega
set_option maxRecDepth 100000 in
set_option maxHeartbeats 4000000 in
theorem s_Less (a0 a1 a2 a3 b0 b1 b2 b3 : Int) (w : World) : Calls Try.prog 56 #[.agg #[.int .i64 a0, .int .i64 a1, .int .i64 a2, .int .i64 a3], .agg #[.int .i64 b0, .int .i64 b1, .int .i64 b2, .int .i64 b3]] w (Out_b (ltL [a0, a1, a2, a3] [b0, b1, b2, b3]) w) := by
  obtain ⟨Z, hZ⟩ : ∃ Z, Z = ltL [a0, a1, a2, a3] [b0, b1, b2, b3] := ⟨_, rfl⟩
  rw [← hZ]
  have F := ((Frg.nil w).box 103 #[.int .i64 a0, .int .i64 a1, .int .i64 a2, .int .i64 a3]).box 103 #[.int .i64 b0, .int .i64 b1, .int .i64 b2, .int .i64 b3]
  simp only [World.size_alloc] at F
  have RA := hid (F.row m1); have RB := hid (F.row m0); have LB := hid F.below
  clear F
  go_enter Try.func56, Try.ntmps56
  go_wp2
  go_loopw [5] (fun i wr => ∃ j : Nat, j ≤ 4 ∧ i = .int .i64 j ∧ Hid (ltL ([a0, a1, a2, a3].drop j) ([b0, b1, b2, b3].drop j) = Z) ∧ Hid (Row wr w.heap.size 103 #[.int .i64 a0, .int .i64 a1, .int .i64 a2, .int .i64 a3]) ∧ Hid (Row wr (w.heap.size + 1) 103 #[.int .i64 b0, .int .i64 b1, .int .i64 b2, .int .i64 b3]) ∧ Hid (le w wr)) (fun i _ => 4 - (intOf i).toNat)
  case atStart => exact ⟨0, by omega, rfl, hZ.symm, RA.out, RB.out, LB.out⟩
  case round =>
    clear hZ RA RB LB
    obtain ⟨j, hj, rfl, HZ, HA, HB, HL⟩ := hrel
    rename_i wr _
    match j, hj with
    | 0, _ =>
      have e : (if a0 = b0 then ltL [a1, a2, a3] [b1, b2, b3] else decide (a0 < b0)) = Z := HZ.out
      have c0 : wr.cell? ⟨w.heap.size, 0, none⟩ = some (.int .i64 a0) := HA.out.cell? 0
      have c1 : wr.cell? ⟨w.heap.size + 1, 0, none⟩ = some (.int .i64 b0) := HB.out.cell? 0
      clear HZ
      by_cases h : a0 = b0
      · rw [if_pos h] at e
        have HE := hid e
        clear e
        subst h
        go_wp2
        go_big_quiet (fail)
        go_wp2
        go_roundw
        case rel => exact ⟨1, by omega, by go_num, HE.out, HA.out.drewN _, HB.out.drewN _, le_trans HL.out (le_drewN _ _)⟩
        case measure => simp [intOf]
      · rw [if_neg h] at e
        subst e
        have h2 : (a0 != b0) = true := by simpa using h
        go_wp2
        go_big_quiet (fail)
        go_wp2
        go_big_quiet (fail)
        go_wp2
        go_ret
        exact ⟨rfl, le_trans HL.out (by first | exact le_drewN _ _ | exact le_trans (le_drewN _ _) (le_drewN _ _))⟩
    | 1, _ =>
      have e : (if a1 = b1 then ltL [a2, a3] [b2, b3] else decide (a1 < b1)) = Z := HZ.out
      have c0 : wr.cell? ⟨w.heap.size, 1, none⟩ = some (.int .i64 a1) := HA.out.cell? 1
      have c1 : wr.cell? ⟨w.heap.size + 1, 1, none⟩ = some (.int .i64 b1) := HB.out.cell? 1
      clear HZ
      by_cases h : a1 = b1
      · rw [if_pos h] at e
        have HE := hid e
        clear e
        subst h
        go_wp2
        go_big_quiet (fail)
        go_wp2
        go_roundw
        case rel => exact ⟨2, by omega, by go_num, HE.out, HA.out.drewN _, HB.out.drewN _, le_trans HL.out (le_drewN _ _)⟩
        case measure => simp [intOf]
      · rw [if_neg h] at e
        subst e
        have h2 : (a1 != b1) = true := by simpa using h
        go_wp2
        go_big_quiet (fail)
        go_wp2
        go_big_quiet (fail)
        go_wp2
        go_ret
        exact ⟨rfl, le_trans HL.out (by first | exact le_drewN _ _ | exact le_trans (le_drewN _ _) (le_drewN _ _))⟩
    | 2, _ =>
      have e : (if a2 = b2 then ltL [a3] [b3] else decide (a2 < b2)) = Z := HZ.out
      have c0 : wr.cell? ⟨w.heap.size, 2, none⟩ = some (.int .i64 a2) := HA.out.cell? 2
      have c1 : wr.cell? ⟨w.heap.size + 1, 2, none⟩ = some (.int .i64 b2) := HB.out.cell? 2
      clear HZ
      by_cases h : a2 = b2
      · rw [if_pos h] at e
        have HE := hid e
        clear e
        subst h
        go_wp2
        go_big_quiet (fail)
        go_wp2
        go_roundw
        case rel => exact ⟨3, by omega, by go_num, HE.out, HA.out.drewN _, HB.out.drewN _, le_trans HL.out (le_drewN _ _)⟩
        case measure => simp [intOf]
      · rw [if_neg h] at e
        subst e
        have h2 : (a2 != b2) = true := by simpa using h
        go_wp2
        go_big_quiet (fail)
        go_wp2
        go_big_quiet (fail)
        go_wp2
        go_ret
        exact ⟨rfl, le_trans HL.out (by first | exact le_drewN _ _ | exact le_trans (le_drewN _ _) (le_drewN _ _))⟩
    | 3, _ =>
      have e : (if a3 = b3 then ltL [] [] else decide (a3 < b3)) = Z := HZ.out
      have c0 : wr.cell? ⟨w.heap.size, 3, none⟩ = some (.int .i64 a3) := HA.out.cell? 3
      have c1 : wr.cell? ⟨w.heap.size + 1, 3, none⟩ = some (.int .i64 b3) := HB.out.cell? 3
      clear HZ
      by_cases h : a3 = b3
      · rw [if_pos h] at e
        have HE := hid e
        clear e
        subst h
        go_wp2
        go_big_quiet (fail)
        go_wp2
        go_roundw
        case rel => exact ⟨4, by omega, by go_num, HE.out, HA.out.drewN _, HB.out.drewN _, le_trans HL.out (le_drewN _ _)⟩
        case measure => simp [intOf]
      · rw [if_neg h] at e
        subst e
        have h2 : (a3 != b3) = true := by simpa using h
        go_wp2
        go_big_quiet (fail)
        go_wp2
        go_big_quiet (fail)
        go_wp2
        go_ret
        exact ⟨rfl, le_trans HL.out (by first | exact le_drewN _ _ | exact le_trans (le_drewN _ _) (le_drewN _ _))⟩
    | 4, _ =>
      have e : false = Z := HZ.out
      subst e
      go_wp2
      go_ret
      exact ⟨rfl, HL.out⟩
end Go.Proofs.Ytkcpdddmabkkgaa

/- Events: the model's 'l08Key'. -/
namespace Go.Proofs.Ytkcpdddmabkkgaa
open Go.RowKit Go.Fk
set_option maxRecDepth 100000 in
set_option maxHeartbeats 4000000 in
theorem s_Key (a k n s : Int) (b q : Nat) (w : World) (hk : k = 1 ∨ k = 2) (h0 : w.cell? ⟨b, q, none⟩ = some (.int .i64 a)) (h1 : w.cell? ⟨b, q + 1, none⟩ = some (.int .i64 k)) (h2 : w.cell? ⟨b, q + 2, none⟩ = some (.int .i64 n)) :
    Calls Try.prog 54 #[.pointer (some ⟨b, q, none⟩), .int .i64 s] w fun e w' => e = .returned (.agg (intsV (keyE a k n s)).toArray) ∧ le w w' := by
  have C0 := hid (fun (w' : World) (hl : le w w') => (Below.cell hl (cell_lt' h0)).trans h0)
  have C1 := hid (fun (w' : World) (hl : le w w') => (Below.cell hl (cell_lt' h1)).trans h1)
  have C2 := hid (fun (w' : World) (hl : le w w') => (Below.cell hl (cell_lt' h2)).trans h2)
  clear h0 h1 h2
  obtain ⟨Z, hZ⟩ : ∃ Z, keyE a k n s = Z := ⟨_, rfl⟩
  rw [hZ]
  replace hZ := hid hZ
  have F := (Frg.nil w).box 103 #[.int .i64 0, .int .i64 0, .int .i64 0, .int .i64 0]
  have G := F.drewN 1
  go_enter Try.func54, Try.ntmps54
  go_wp2_with fail
  refine region_tailZ (E := leX) (fun _ _ _ _ _ => True) 10 (by kernel_rfl) (by kernel_rfl) ?_
  simp only [List.take_succ_cons, List.take_zero, List.drop_succ_cons, List.drop_zero]
  refine wpFreeZ_one rfl (.pointer (some ⟨b, q, none⟩)) (fun w1 _ => by kernel_rfl) ?_
  simp only [Act.put, List.setIfInBounds_toArray, List.set_cons_succ, List.set_cons_zero]
  refine wpFreeZ_one rfl (.pointer (some ⟨b, q, none⟩)) (fun w1 _ => by kernel_rfl) ?_
  simp only [Act.put, List.setIfInBounds_toArray, List.set_cons_succ, List.set_cons_zero]
  refine wpFreeZ_one rfl (.pointer (some ⟨b, q, none⟩)) (fun w1 _ => by kernel_rfl) ?_
  simp only [Act.put, List.setIfInBounds_toArray, List.set_cons_succ, List.set_cons_zero]
  refine wpFreeZ_load1 rfl rfl rfl (p := ⟨b, q, none⟩) (v := .int .i64 a) (fun w1 h1 => C0.out w1 (le_trans G.below h1)) ukindInt64 ?_
  simp only [Act.put, List.setIfInBounds_toArray, List.set_cons_succ, List.set_cons_zero]
  refine wpFreeZ_one rfl (.pointer (some ⟨b, q, none⟩)) (fun w1 _ => by kernel_rfl) ?_
  simp only [Act.put, List.setIfInBounds_toArray, List.set_cons_succ, List.set_cons_zero]
  refine wpFreeZ_one rfl (.pointer (some ⟨b, q, none⟩)) (fun w1 _ => by kernel_rfl) ?_
  simp only [Act.put, List.setIfInBounds_toArray, List.set_cons_succ, List.set_cons_zero]
  refine wpFreeZ_one rfl (.pointer (some ⟨b, q + 2, none⟩)) (fun w1 _ => by kernel_rfl) ?_
  simp only [Act.put, List.setIfInBounds_toArray, List.set_cons_succ, List.set_cons_zero]
  refine wpFreeZ_load1 rfl rfl rfl (p := ⟨b, q + 2, none⟩) (v := .int .i64 n) (fun w1 h1 => C2.out w1 (le_trans G.below h1)) ukindInt64 ?_
  simp only [Act.put, List.setIfInBounds_toArray, List.set_cons_succ, List.set_cons_zero]
  refine wpFreeZ_one rfl (.agg #[.int .i64 a, .int .i64 1, .int .i64 n, .int .i64 0]) (fun w1 _ => by kernel_rfl) ?_
  simp only [Act.put, List.setIfInBounds_toArray, List.set_cons_succ, List.set_cons_zero]
  refine wpFreeZ_alloc rfl rfl #[.int .i64 0, .int .i64 0, .int .i64 0, .int .i64 0] (fun w => by go_simp) (fun b5 => ?_)
  simp only [Act.put, List.setIfInBounds_toArray, List.set_cons_succ, List.set_cons_zero]
  refine wpFreeZ_nil (fun w3 zs hw3 hF _ => ?_)
  obtain ⟨e5, l5, r5⟩ := (hF 9).2 rfl
  rw [← e5] at l5 r5
  clear hF e5
  replace F := G.le hw3
  have g5 : b5 ≠ w.heap.size := by
    have h := (G.row m0).lt
    omega
  have g6 : w.heap.size ≤ b5 := Nat.le_trans G.below.size l5
  clear hw3 G l5
  show wpList _ _ _ _ _ _
  refine wpList_storeD rfl rfl rfl (cells := #[.int .i64 a, .int .i64 1, .int .i64 n, .int .i64 0]) rfl r5 infoA4 rfl (by simp [Value.oneCell']) (fun w4 K => ?_)
  have F : Frg w w4 [rowF b5 103 #[.int .i64 a, .int .i64 1, .int .i64 n, .int .i64 0], rowF w.heap.size 103 #[.int .i64 0, .int .i64 0, .int .i64 0, .int .i64 0]] := by
    have RO := K.other _ _ _ (fun h => g5 h.symm) (F.row m0)
    have LB := K.below _ _ F.below g6
    have q5 := K.row.lt; have qO := RO.lt
    refine ⟨LB, fun e he => ?_, ?_⟩
    · simp only [List.mem_cons, List.not_mem_nil, or_false] at he
      rcases he with rfl | rfl
      · exact ⟨g6, q5, K.row⟩
      · exact ⟨Nat.le_refl _, qO, RO⟩
    · refine List.pairwise_cons.2 ⟨fun e he => ?_, List.pairwise_singleton _ _⟩
      simp only [List.mem_cons, List.not_mem_nil, or_false] at he
      subst he
      show w.heap.size + 1 ≤ b5
      omega
  clear K r5
  rcases hk with rfl | rfl
  · by_cases hs : s < a
    · have E := hid (show keyE a 1 n s = [a, 0, n, 1] by unfold keyE; rw [if_neg (by decide), if_pos hs])
      go_wp2_with (first | ((with_reducible refine listN F ?_); clear F; intro wN F) | ((with_reducible refine at_load rfl ?_); first | (with_reducible refine wpList_load1G rfl (p := ⟨b, q + 1, none⟩) rfl (v := .int .i64 _) (by kernel_rfl) (C1.out _ F.below) ukindInt64 ?_) | (with_reducible refine wpList_load1G rfl (p := ⟨b, q, none⟩) rfl (v := .int .i64 _) (by kernel_rfl) (C0.out _ F.below) ukindInt64 ?_) | (with_reducible refine wpList_loadWC rfl (p := ⟨b5, 0, none⟩) rfl [.int .i64 a, .int .i64 0, .int .i64 n, .int .i64 1] (by kernel_rfl) (Row.at_part (f := 0) (F.row m0) (fun j hj => by rw [Nat.zero_add]; simp)) Try.underlying103 rfl infoA4 rfl ?_)) | ((with_reducible refine at_store rfl ?_); (refine wpList_store1 rfl rfl (f := 3) rfl rfl (F.row m0) uinfo1Int64 (by simp) rfl #[.int .i64 a, .int .i64 1, .int .i64 n, .int .i64 1] rfl ?_; intro w5 K5; replace F := F.wr0 K5; clear K5)) | ((with_reducible refine at_store rfl ?_); (refine wpList_store1 rfl rfl (f := 1) rfl rfl (F.row m0) uinfo1Int64 (by simp) rfl #[.int .i64 a, .int .i64 0, .int .i64 n, .int .i64 1] rfl ?_; intro w5 K5; replace F := F.wr0 K5; clear K5)) | ((with_reducible refine at_store rfl ?_); (refine wpList_storeD rfl rfl rfl (cells := #[.int .i64 a, .int .i64 0, .int .i64 n, .int .i64 1]) rfl (F.row m1) infoA4 rfl (by simp [Value.oneCell']) ?_; intro w6 K6; have R6 := hid K6.row; replace F := F.wr1 K6; clear K6)))
      exact bodyPost_ret (results_row1 rfl _ _ _ _ _ rfl R6.out Try.underlying103 rfl infoA4) rfl ⟨by rw [← hZ.out, E.out]; rfl, F.below⟩
    · have E := hid (show keyE a 1 n s = [a, 1, n, 1] by unfold keyE; rw [if_neg (by decide), if_neg hs])
      go_wp2_with (first | ((with_reducible refine listN F ?_); clear F; intro wN F) | ((with_reducible refine at_load rfl ?_); first | (with_reducible refine wpList_load1G rfl (p := ⟨b, q + 1, none⟩) rfl (v := .int .i64 _) (by kernel_rfl) (C1.out _ F.below) ukindInt64 ?_) | (with_reducible refine wpList_load1G rfl (p := ⟨b, q, none⟩) rfl (v := .int .i64 _) (by kernel_rfl) (C0.out _ F.below) ukindInt64 ?_) | (with_reducible refine wpList_loadWC rfl (p := ⟨b5, 0, none⟩) rfl [.int .i64 a, .int .i64 1, .int .i64 n, .int .i64 1] (by kernel_rfl) (Row.at_part (f := 0) (F.row m0) (fun j hj => by rw [Nat.zero_add]; simp)) Try.underlying103 rfl infoA4 rfl ?_)) | ((with_reducible refine at_store rfl ?_); (refine wpList_store1 rfl rfl (f := 3) rfl rfl (F.row m0) uinfo1Int64 (by simp) rfl #[.int .i64 a, .int .i64 1, .int .i64 n, .int .i64 1] rfl ?_; intro w5 K5; replace F := F.wr0 K5; clear K5)) | ((with_reducible refine at_store rfl ?_); (refine wpList_storeD rfl rfl rfl (cells := #[.int .i64 a, .int .i64 1, .int .i64 n, .int .i64 1]) rfl (F.row m1) infoA4 rfl (by simp [Value.oneCell']) ?_; intro w6 K6; have R6 := hid K6.row; replace F := F.wr1 K6; clear K6)))
      exact bodyPost_ret (results_row1 rfl _ _ _ _ _ rfl R6.out Try.underlying103 rfl infoA4) rfl ⟨by rw [← hZ.out, E.out]; rfl, F.below⟩
  · have E := hid (show keyE a 2 n s = [a, 1, n, 0] from rfl)
    go_wp2_with (first | ((with_reducible refine listN F ?_); clear F; intro wN F) | ((with_reducible refine at_load rfl ?_); first | (with_reducible refine wpList_load1G rfl (p := ⟨b, q + 1, none⟩) rfl (v := .int .i64 _) (by kernel_rfl) (C1.out _ F.below) ukindInt64 ?_) | (with_reducible refine wpList_load1G rfl (p := ⟨b, q, none⟩) rfl (v := .int .i64 _) (by kernel_rfl) (C0.out _ F.below) ukindInt64 ?_) | (with_reducible refine wpList_loadWC rfl (p := ⟨b5, 0, none⟩) rfl [.int .i64 a, .int .i64 1, .int .i64 n, .int .i64 0] (by kernel_rfl) (Row.at_part (f := 0) (F.row m0) (fun j hj => by rw [Nat.zero_add]; simp)) Try.underlying103 rfl infoA4 rfl ?_)) | fail | ((with_reducible refine at_store rfl ?_); (refine wpList_storeD rfl rfl rfl (cells := #[.int .i64 a, .int .i64 1, .int .i64 n, .int .i64 0]) rfl (F.row m1) infoA4 rfl (by simp [Value.oneCell']) ?_; intro w6 K6; have R6 := hid K6.row; replace F := F.wr1 K6; clear K6)))
    exact bodyPost_ret (results_row1 rfl _ _ _ _ _ rfl R6.out Try.underlying103 rfl infoA4) rfl ⟨by rw [← hZ.out, E.out]; rfl, F.below⟩
end Go.Proofs.Ytkcpdddmabkkgaa
