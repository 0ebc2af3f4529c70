/- Texts of the walk, laid in one file. -/
import Derived.Test.YtmacednkpjfokaaRows
import Derived.Handy
import Derived.OwnWalk
import Derived.Test.YtmacednkpjfokaaMe
set_option linter.unusedVariables false
set_option linter.unusedSimpArgs false
/- Exactness: what a format has is written as it stands. Nothing here names a program. -/
namespace Go.Fk
open Go Go.RowKit

theorem cut_zero (s : Bool) (n : Nat) : Ieee.Toward.even.cut s n 0 = n := by
  simp [Ieee.Toward.cut, Nat.mod_one]

/-- What is cut off leaves nothing behind: the quotient. -/
theorem cut_exact (s : Bool) (n d : Nat) : Ieee.Toward.even.cut s (n * 2 ^ d) d = n := by
  by_cases hn : n = 0
  · subst hn
    have hp := Nat.two_pow_pos (min d (Nat.log2 0 + 2))
    simp only [Ieee.Toward.cut, Nat.zero_mul, Nat.one_shiftLeft, Nat.zero_div, Nat.zero_mod]
    simp
  · have h0 : n * 2 ^ d ≠ 0 := Nat.mul_ne_zero hn (Nat.ne_of_gt (Nat.two_pow_pos d))
    have hd : d ≤ (n * 2 ^ d).log2 := by
      refine (Nat.le_log2 h0).2 ?_
      exact Nat.le_mul_of_pos_left _ (by omega)
    have hp := Nat.two_pow_pos d
    simp only [Ieee.Toward.cut, Nat.one_shiftLeft]
    rw [Nat.min_eq_left (by omega), Nat.mul_div_cancel _ hp, Nat.mul_mod_left]
    simp

theorem cut_scale (s : Bool) (n d j : Nat) (hn : n ≠ 0) : Ieee.Toward.even.cut s (n * 2 ^ j) (d + j) = Ieee.Toward.even.cut s n d := by
  have hl : (n * 2 ^ j).log2 = n.log2 + j := by
    have h0 : n * 2 ^ j ≠ 0 := Nat.mul_ne_zero hn (Nat.ne_of_gt (Nat.two_pow_pos j))
    refine (Nat.log2_eq_iff h0).2 ⟨?_, ?_⟩
    · rw [Nat.pow_add]; exact Nat.mul_le_mul_right _ (Nat.log2_self_le hn)
    · rw [show n.log2 + j + 1 = (n.log2 + 1) + j by omega, Nat.pow_add]
      exact Nat.mul_lt_mul_of_pos_right Nat.lt_log2_self (Nat.two_pow_pos j)
  have hp := Nat.two_pow_pos j
  simp only [Ieee.Toward.cut, Nat.one_shiftLeft, hl]
  rw [show min (d + j) (n.log2 + j + 2) = min d (n.log2 + 2) + j by omega, Nat.pow_add, Nat.mul_div_mul_right _ _ hp, Nat.mul_mod_mul_right]
  generalize 2 ^ min d (n.log2 + 2) = g
  have e1 : decide (g * 2 ^ j < 2 * (n % g * 2 ^ j)) = decide (g < 2 * (n % g)) := by
    rw [← Nat.mul_assoc]
    exact decide_eq_decide.2 (Nat.mul_lt_mul_right hp)
  have e2 : (g * 2 ^ j == 2 * (n % g * 2 ^ j)) = (g == 2 * (n % g)) := by
    rw [← Nat.mul_assoc, Bool.eq_iff_iff, beq_iff_eq, beq_iff_eq]
    exact Nat.mul_left_inj (by omega)
  rw [e1, e2]

theorem log2_scale {n : Nat} (hn : n ≠ 0) (j : Nat) : (n * 2 ^ j).log2 = n.log2 + j := by
  have h0 : n * 2 ^ j ≠ 0 := Nat.mul_ne_zero hn (Nat.ne_of_gt (Nat.two_pow_pos j))
  refine (Nat.log2_eq_iff h0).2 ⟨?_, ?_⟩
  · rw [Nat.pow_add]; exact Nat.mul_le_mul_right _ (Nat.log2_self_le hn)
  · rw [show n.log2 + j + 1 = (n.log2 + 1) + j by omega, Nat.pow_add]
    exact Nat.mul_lt_mul_of_pos_right Nat.lt_log2_self (Nat.two_pow_pos j)

/-- What is written speaks of the number alone, not of how it is split. -/
theorem nearest_scale (f : Ieee.Format) (s : Bool) (m j : Nat) (e : Int) : f.nearest s (m * 2 ^ j) (e - j) = f.nearest s m e := by
  by_cases hm : m = 0
  · subst hm; simp [Ieee.Format.nearest]
  have h0 : m * 2 ^ j ≠ 0 := Nat.mul_ne_zero hm (Nat.ne_of_gt (Nat.two_pow_pos j))
  unfold Ieee.Format.nearest
  rw [if_neg hm, if_neg h0, log2_scale hm]
  rw [show e - (j : Int) + ((m.log2 + j : Nat) : Int) - f.fractionBits = e + m.log2 - f.fractionBits by omega]
  generalize max (e + (m.log2 : Int) - f.fractionBits) f.leastPlace = last
  dsimp only
  congr 3
  simp only [Nat.shiftLeft_eq]
  by_cases h1 : e ≤ last
  · rw [show (e - (j : Int) - last).toNat = 0 by omega, show (e - last).toNat = 0 by omega, show (last - (e - (j : Int))).toNat = (last - e).toNat + j by omega]
    simpa using cut_scale s m _ j hm
  · by_cases h2 : last ≤ e - j
    · rw [show (last - (e - (j : Int))).toNat = 0 by omega, show (last - e).toNat = 0 by omega, cut_zero, cut_zero, Nat.mul_assoc, ← Nat.pow_add,
        show j + (e - (j : Int) - last).toNat = (e - last).toNat by omega]
    · rw [show (e - (j : Int) - last).toNat = 0 by omega, show (last - e).toNat = 0 by omega, cut_zero, Nat.pow_zero, Nat.mul_one,
        show j = (e - last).toNat + (last - (e - (j : Int))).toNat by omega, Nat.pow_add, ← Nat.mul_assoc]
      rw [show (last - (e - (((e - last).toNat + (last - (e - (j : Int))).toNat : Nat) : Int))).toNat = (last - (e - (j : Int))).toNat by omega]
      exact cut_exact s _ _

/-- The place of the last digit that is kept. -/
def lastOf (f : Ieee.Format) (m : Nat) (e : Int) : Int := max (e + m.log2 - f.fractionBits) f.leastPlace

/-- A number that the format has is read as it was written, shifted to the format's own place. -/
theorem read_nearest (f : Ieee.Format) (s : Bool) (m : Nat) (e : Int) (hm : m ≠ 0) (hp : m.log2 ≤ f.fractionBits) (he : f.leastPlace ≤ e)
    (ho : e + m.log2 - f.fractionBits ≤ f.leastPlace + 2 ^ f.exponentBits - 3) (hx : 2 ≤ f.exponentBits) :
    f.read (f.nearest s m e) = .number s (m * 2 ^ (e - lastOf f m e).toNat) (lastOf f m e) ∧ f.nearest s m e % f.signWeight < f.infRung := by
  have hx4 : (4 : Int) ≤ 2 ^ f.exponentBits := by
    have h : 2 ^ 2 ≤ 2 ^ f.exponentBits := Nat.pow_le_pow_right (by omega) hx
    exact_mod_cast h
  have hb : f.binade = 2 ^ f.fractionBits := rfl
  have hbp : 0 < f.binade := by rw [hb]; exact Nat.two_pow_pos _
  have hl1 : lastOf f m e ≤ e := by unfold lastOf; omega
  have hl2 : f.leastPlace ≤ lastOf f m e := by unfold lastOf; omega
  have hl3 : lastOf f m e ≤ f.leastPlace + 2 ^ f.exponentBits - 3 := by unfold lastOf; omega
  have hlog : (m * 2 ^ (e - lastOf f m e).toNat).log2 = m.log2 + (e - lastOf f m e).toNat := log2_scale hm _
  have hM0 : m * 2 ^ (e - lastOf f m e).toNat ≠ 0 := Nat.mul_ne_zero hm (Nat.ne_of_gt (Nat.two_pow_pos _))
  have hM : m * 2 ^ (e - lastOf f m e).toNat < 2 * f.binade := by
    have h1 : m.log2 + (e - lastOf f m e).toNat ≤ f.fractionBits := by unfold lastOf; omega
    have := @Nat.lt_log2_self (m * 2 ^ (e - lastOf f m e).toNat)
    rw [hlog] at this
    calc _ < _ := this
      _ ≤ 2 ^ (f.fractionBits + 1) := Nat.pow_le_pow_right (by omega) (by omega)
      _ = 2 * f.binade := by rw [Nat.pow_succ, ← hb]; omega
  have hfull : f.leastPlace < lastOf f m e → f.binade ≤ m * 2 ^ (e - lastOf f m e).toNat := by
    intro h
    have h1 : m.log2 + (e - lastOf f m e).toNat = f.fractionBits := by unfold lastOf at h ⊢; omega
    have := Nat.log2_self_le hM0
    rw [hlog, h1, ← hb] at this
    exact this
  have hn : f.nearest s m e = f.word s (min ((lastOf f m e - f.leastPlace).toNat * f.binade + m * 2 ^ (e - lastOf f m e).toNat) f.infRung) := by
    unfold Ieee.Format.nearest
    rw [if_neg hm]
    show f.word s (min ((lastOf f m e - f.leastPlace).toNat * f.binade + Ieee.Toward.even.cut s (m <<< (e - lastOf f m e).toNat) (lastOf f m e - e).toNat) f.infRung) = _
    rw [show (lastOf f m e - e).toNat = 0 by omega, cut_zero, Nat.shiftLeft_eq]
  generalize hM' : m * 2 ^ (e - lastOf f m e).toNat = M at *
  generalize hq : (lastOf f m e - f.leastPlace).toNat = q at *
  have hq2 : q + 3 ≤ 2 ^ f.exponentBits := by
    have : (q : Int) + 3 ≤ ((2 ^ f.exponentBits : Nat) : Int) := by push_cast; omega
    exact_mod_cast this
  have hr : q * f.binade + M < f.infRung := by
    unfold Ieee.Format.infRung
    have h1 : (q + 2) * f.binade ≤ (2 ^ f.exponentBits - 1) * f.binade := Nat.mul_le_mul_right _ (by omega)
    rw [Nat.add_mul] at h1
    omega
  have hs : f.infRung < f.signWeight := Ieee.Format.infRung_lt _
  rw [Nat.min_eq_left (Nat.le_of_lt hr)] at hn
  rw [hn]
  have hmod := word_mod f s (r := q * f.binade + M) (by omega)
  refine ⟨?_, by rw [hmod]; exact hr⟩
  have hsg : (f.word s (q * f.binade + M) / f.signWeight % 2 == 1) = s := by
    unfold Ieee.Format.word
    cases s
    · simp [Nat.div_eq_of_lt (show q * f.binade + M < f.signWeight by omega)]
    · simp [Nat.add_div_left _ (show 0 < f.signWeight by omega), Nat.div_eq_of_lt (show q * f.binade + M < f.signWeight by omega)]
  unfold Ieee.Format.read
  simp only [hmod, hsg]
  by_cases hsub : q * f.binade + M < f.binade
  · rw [if_pos hsub]
    have hq0 : q = 0 := by
      apply Nat.eq_zero_of_not_pos
      intro h
      have : 1 * f.binade ≤ q * f.binade := Nat.mul_le_mul_right _ h
      omega
    rw [hq0]
    congr 1
    · simp
    · omega
  · rw [if_neg hsub, if_pos hr]
    have hMb : f.binade ≤ M := by
      by_cases h : f.leastPlace < lastOf f m e
      · exact hfull h
      · have : q = 0 := by omega
        rw [this] at hsub; omega
    have e1 : (q * f.binade + M) % f.binade = M - f.binade := by
      rw [Nat.mul_add_mod_self_right, Nat.mod_eq_sub_mod hMb, Nat.mod_eq_of_lt (by omega)]
    have e2 : (q * f.binade + M) / f.binade = q + 1 := by
      rw [Nat.mul_comm, Nat.mul_add_div hbp]
      congr 1
      rw [show M = f.binade + (M - f.binade) by omega, Nat.add_div_left _ hbp, Nat.div_eq_of_lt (by omega)]
    rw [e1, e2]
    congr 1
    · omega
    · omega

/-- What is read is written back. -/
theorem write_read (f : Ieee.Format) (hx : 2 ≤ f.exponentBits) (b : Nat) {s : Bool} {m : Nat} {e : Int} (h : f.read b = .number s m e) : f.nearest s m e = f.word s (b % f.signWeight) := by
  have hb : f.binade = 2 ^ f.fractionBits := rfl
  have hbp : 0 < f.binade := by rw [hb]; exact Nat.two_pow_pos _
  have hx4 : 4 ≤ 2 ^ f.exponentBits := Nat.pow_le_pow_right (n := 2) (by omega) hx
  have hinf : f.binade ≤ f.infRung := by
    unfold Ieee.Format.infRung
    exact Nat.le_mul_of_pos_left _ (by omega)
  unfold Ieee.Format.read at h
  dsimp only at h
  generalize b % f.signWeight = r at *
  split at h
  · rename_i h1
    simp only [Ieee.Datum.number.injEq] at h
    obtain ⟨_, rfl, rfl⟩ := h
    by_cases h0 : r = 0
    · subst h0; simp [Ieee.Format.nearest]
    · unfold Ieee.Format.nearest
      rw [if_neg h0]
      have h2 := h1
      rw [hb] at h2
      have := (Nat.log2_lt h0).2 h2
      rw [show max (f.leastPlace + (r.log2 : Int) - f.fractionBits) f.leastPlace = f.leastPlace by omega]
      simp only [Int.sub_self, Int.toNat_zero, Nat.shiftLeft_zero, cut_zero, Nat.zero_mul, Nat.zero_add]
      rw [Nat.min_eq_left (by omega)]
  · rename_i h1
    split at h
    · rename_i h2
      simp only [Ieee.Datum.number.injEq] at h
      obtain ⟨_, rfl, rfl⟩ := h
      have hlt := Nat.mod_lt r hbp
      have h0 : f.binade + r % f.binade ≠ 0 := by omega
      have e1 : (f.binade + r % f.binade).log2 = f.fractionBits := by
        refine (Nat.log2_eq_iff h0).2 ⟨?_, ?_⟩
        · rw [← hb]; omega
        · rw [Nat.pow_succ, ← hb]; omega
      have h3 : 1 ≤ r / f.binade := (Nat.le_div_iff_mul_le hbp).2 (by omega)
      unfold Ieee.Format.nearest
      rw [if_neg h0, e1]
      rw [show max (f.leastPlace + ((r / f.binade - 1 : Nat) : Int) + (f.fractionBits : Int) - f.fractionBits) f.leastPlace = f.leastPlace + ((r / f.binade - 1 : Nat) : Int) by omega]
      simp only [Int.sub_self, Int.toNat_zero, Nat.shiftLeft_zero, cut_zero]
      rw [show (f.leastPlace + ((r / f.binade - 1 : Nat) : Int) - f.leastPlace).toNat = r / f.binade - 1 by omega]
      have h4 : (r / f.binade - 1) * f.binade + (f.binade + r % f.binade) = r := by
        have h5 := Nat.div_add_mod r f.binade
        have h6 : (r / f.binade - 1) * f.binade + f.binade = r / f.binade * f.binade := by
          rw [← Nat.succ_mul]; congr 1; omega
        rw [Nat.mul_comm] at h5
        omega
      rw [h4, Nat.min_eq_left (by omega)]
    · split at h <;> cases h

theorem bits32 : FloatKind.f32.format.exponentBits = 8 ∧ FloatKind.f32.format.fractionBits = 23 ∧ FloatKind.f32.format.leastPlace = -149 ∧ FloatKind.f32.format.signWeight = 2147483648 ∧ FloatKind.f32.format.infRung = 2139095040 := by decide
theorem bits64 : FloatKind.f64.format.exponentBits = 11 ∧ FloatKind.f64.format.fractionBits = 52 ∧ FloatKind.f64.format.leastPlace = -1074 ∧ FloatKind.f64.format.signWeight = 9223372036854775808 ∧ FloatKind.f64.format.infRung = 9218868437227405312 := by decide

/-- What a narrow number's datum is made of. -/
theorem read32 {b : Nat} {s : Bool} {m : Nat} {e : Int} (h : FloatKind.f32.format.read b = .number s m e) : -149 ≤ e ∧ (m ≠ 0 → m.log2 ≤ 23 ∧ e + m.log2 + 1 ≤ 128) := by
  refine ⟨?_, fun h0 => ⟨?_, lt32 h h0⟩⟩
  all_goals
    have e1 : Ieee.single.signWeight = 2147483648 := by decide
    have e2 : Ieee.single.infRung = 2139095040 := by decide
    have e3 : Ieee.single.binade = 8388608 := by decide
    have e4 : Ieee.single.leastPlace = -149 := by decide
    simp only [FloatKind.format, Ieee.Format.read, e1, e2, e3, e4] at h
    split at h
    · simp only [Ieee.Datum.number.injEq] at h
      obtain ⟨_, rfl, rfl⟩ := h
      first | omega | (have : (b % 2147483648).log2 < 23 := (Nat.log2_lt h0).2 (by omega)
                       omega)
    · split at h
      · simp only [Ieee.Datum.number.injEq] at h
        obtain ⟨_, rfl, rfl⟩ := h
        first | omega | (have : (8388608 + b % 2147483648 % 8388608).log2 < 24 := (Nat.log2_lt h0).2 (by omega)
                         omega)
      · split at h <;> cases h

/-- A narrow number is widened exactly. -/
theorem read_widen {b : Nat} {s : Bool} {m : Nat} {e : Int} (h : FloatKind.f32.format.read b = .number s m e) :
    ∃ j : Nat, ∃ e', FloatKind.f64.format.read (widen b) = .number s (m * 2 ^ j) e' ∧ (m ≠ 0 → e' = e - j) ∧ widen b % 9223372036854775808 < 9218868437227405312 := by
  obtain ⟨b1, b2, b3, b4, b5⟩ := bits64
  obtain ⟨h1, h2⟩ := read32 h
  have hw : widen b = FloatKind.f64.format.nearest s m e := by simp only [widen, h]; rfl
  rw [hw]
  by_cases hm : m = 0
  · subst hm
    refine ⟨0, -1074, ?_, fun h => absurd rfl h, ?_⟩
    · cases s <;> simp [Ieee.Format.nearest, Ieee.Format.word] <;> decide
    · cases s <;> simp [Ieee.Format.nearest, Ieee.Format.word] <;> decide
  · obtain ⟨h3, h4⟩ := h2 hm
    obtain ⟨h5, h6⟩ := read_nearest FloatKind.f64.format s m e hm (by omega) (by omega) (by rw [b1, b2, b3]; omega) (by omega)
    rw [b4, b5] at h6
    refine ⟨_, _, h5, fun _ => ?_, h6⟩
    have : lastOf FloatKind.f64.format m e ≤ e := by unfold lastOf; omega
    omega
end Go.Fk
namespace Go.Fk
open Go Go.RowKit
theorem read_mod {k : FloatKind} {b : Nat} {s : Bool} {m : Nat} {e : Int} (h : k.format.read b = .number s m e) : k.format.read (b % k.format.signWeight) = .number false m e := by
  have hs : 0 < k.format.signWeight := by unfold Ieee.Format.signWeight; exact Nat.two_pow_pos _
  have e1 : (b % k.format.signWeight / k.format.signWeight % 2 == 1) = false := by
    rw [Nat.div_eq_of_lt (Nat.mod_lt _ hs)]; rfl
  unfold Ieee.Format.read at h ⊢
  dsimp only at h ⊢
  rw [e1, Nat.mod_mod]
  generalize b % k.format.signWeight = r at *
  split
  · rename_i h1
    rw [if_pos h1] at h
    simp only [Ieee.Datum.number.injEq] at h ⊢
    exact ⟨trivial, h.2⟩
  · rename_i h1
    rw [if_neg h1] at h
    split
    · rename_i h2
      rw [if_pos h2] at h
      simp only [Ieee.Datum.number.injEq] at h ⊢
      exact ⟨trivial, h.2⟩
    · rename_i h2
      rw [if_neg h2] at h
      split at h <;> cases h

/-- May be narrowed: what the language fixes, whole range. -/
def narrowableX (b : Nat) : Prop := ∀ s m e, FloatKind.f64.format.read b = .number s m e → (FloatKind.f32.decode (FloatKind.f32.encode (.number s m e))).isInfinity = false

/-- The size of a narrow number, by way of the wide ones. -/
theorem narrow_abs {b w : Nat} (hw : can .f64 w = can .f64 (widen b)) : narrowableX (w % 9223372036854775808) ∧ can .f32 (narrow (w % 9223372036854775808)) = can .f32 (b % 2147483648) := by
  obtain ⟨a1, a2, a3, a4, a5⟩ := bits32
  obtain ⟨b1, b2, b3, b4, b5⟩ := bits64
  cases hr : FloatKind.f32.format.read b with
  | nan s t =>
    have hn : isNan .f32 b = true := by simp [isNan, hr, Ieee.Datum.isNaN]
    have hq : widen b = qnan .f64 := by simp only [widen, hr]
    have hwn : isNan .f64 w = true := by rw [isNan_of_can hw, hq]; exact isNan_qnan _
    have hm : isNan .f64 (w % 9223372036854775808) = true := by rw [isNan_f64] at hwn ⊢; rwa [Nat.mod_mod]
    have hm2 : isNan .f32 (b % 2147483648) = true := by rw [isNan_f32] at hn ⊢; rwa [Nat.mod_mod]
    obtain ⟨s', t', hr'⟩ := read_nan hm
    refine ⟨fun s1 m1 e1 h => (by rw [hr'] at h; cases h), ?_⟩
    rw [can_of_nan hm2]
    simp only [narrow, hr', can_qnan]
  | infinity s =>
    have hb : b % 2147483648 = 2139095040 := by
      have e1 : Ieee.single.signWeight = 2147483648 := by decide
      have e2 : Ieee.single.infRung = 2139095040 := by decide
      simp only [FloatKind.format, Ieee.Format.read, e1, e2] at hr
      split at hr
      · cases hr
      · split at hr
        · cases hr
        · split at hr
          · assumption
          · cases hr
    have hq : widen b = FloatKind.f64.encode (.infinity s) := by simp only [widen, hr]
    have hwq : w = FloatKind.f64.encode (.infinity s) := by
      rw [hq] at hw
      exact (eq_of_can hw.symm (by cases s <;> decide)).symm
    rw [hwq, hb]
    have e1 : FloatKind.f64.format.read (FloatKind.f64.encode (.infinity s) % 9223372036854775808) = .infinity false := by cases s <;> decide
    refine ⟨fun s1 m1 e1' h => (by rw [e1] at h; cases h), ?_⟩
    simp only [narrow, e1]
    decide
  | number s m e =>
    obtain ⟨j, e', h1, h2, h3⟩ := read_widen hr
    have hwq : w = widen b := by
      refine (eq_of_can hw.symm ?_).symm
      simp [isNan, h1, Ieee.Datum.isNaN]
    rw [hwq]
    have h4 := read_mod h1
    have h5 := read_mod hr
    rw [b4] at h4
    rw [a4] at h5
    have h6 : FloatKind.f32.format.nearest false (m * 2 ^ j) e' = b % 2147483648 := by
      have h7 := write_read FloatKind.f32.format (by omega) (b % 2147483648) h5
      rw [a4, Nat.mod_mod] at h7
      by_cases hm : m = 0
      · subst hm
        rw [Nat.zero_mul]
        exact (show FloatKind.f32.format.nearest false 0 e' = FloatKind.f32.format.nearest false 0 e by simp [Ieee.Format.nearest]).trans h7
      · rw [h2 hm, nearest_scale, h7]; rfl
    have h8 : FloatKind.f32.encode (.number false (m * 2 ^ j) e') = b % 2147483648 := h6
    refine ⟨fun s1 m1 e1 h => ?_, ?_⟩
    · rw [h4] at h
      cases h
      rw [h8]
      have : FloatKind.f32.decode (b % 2147483648) = .number false m e := h5
      rw [this]; rfl
    · have : narrow (widen b % 9223372036854775808) = FloatKind.f32.encode (.number false (m * 2 ^ j) e') := by simp only [narrow, h4]
      rw [this, h8]

section
variable {P : Program}
theorem run_narrowX (w : World) (src dst : TypeId) (b : Nat) (hs : P.underlying src = some (.float .f64)) (hd : P.underlying dst = some (.float .f32)) (hb : narrowableX b) :
    ∃ r n, (convert src dst (.float .f64 b)).run P w = .ok (.float .f32 r) (w.drewN n) ∧ can .f32 r = can .f32 (narrow b) ∧ fits .f32 r := by
  cases hr : FloatKind.f64.format.read b with
  | nan s t =>
    refine ⟨(Question.nanConv .f32 b).cut (w.tape w.drawn (.nanConv .f32 b)), 1, ?_, ?_, (nan_conv .f32 b _).2⟩
    · simp [convert, run_underlying hs, run_underlying hd, Conv.floatToFloat, FloatKind.decode, hr, Question.forced]; rfl
    · rw [can_of_nan (nan_conv .f32 b _).1]; simp only [narrow, hr, can_qnan]
  | infinity s =>
    refine ⟨FloatKind.f32.encode (.infinity s), 0, ?_, by simp only [narrow, hr], encode_wf _ _⟩
    simp [convert, run_underlying hs, run_underlying hd, Conv.floatToFloat, FloatKind.decode, hr]; rfl
  | number s m e =>
    refine ⟨FloatKind.f32.encode (.number s m e), 0, ?_, by simp only [narrow, hr], encode_wf _ _⟩
    have h := hb s m e hr
    have hr' : FloatKind.f64.decode b = .number s m e := hr
    simp [convert, run_underlying hs, run_underlying hd, Conv.floatToFloat, hr', h]; rfl

variable {w : World} {ops : Array Oper} {rest : List Oper} {o : Oper} {a : Act} {Q : Exit → Act → World → Prop}
theorem wpList_narrowX (hg : o.guard = none) {src dst : TypeId} {x : Operand} (hop : o.op = Op.convert src dst x) {b : Nat} (hx : a.eval x = .float .f64 b)
    (hs : P.underlying src = some (.float .f64)) (hd : P.underlying dst = some (.float .f32)) (hb : narrowableX b)
    (hK : ∀ r n, Hid (can .f32 r = can .f32 (narrow b)) → Hid (fits .f32 r) → wpList P ops Q rest (a.put o.dst (.float .f32 r)) (w.drewN n)) : wpList P ops Q (o :: rest) a w := by
  refine wpList_plain hg fun K hK' => ?_
  obtain ⟨r, n, hrun, hr, hf⟩ := run_narrowX (P := P) w src dst b hs hd hb
  unfold Oper.wp
  simp [execOp, hop, hx, hrun, Result.andThen]
  exact hK' _ _ (hK r n hr hf)
end
end Go.Fk

/- The place in a table: a number of 0 to 1, times 256, and its integer. Nothing here names a program. -/
namespace Go.Fk
open Go Go.RowKit
def one32 : Int := 2 ^ unitOf .f32
theorem one32_pos : 0 < one32 := Int.pow_pos (by omega)
theorem far32 : 9223372036854775807 * one32 < (far : Int) := by decide +kernel
theorem far32' : -(far : Int) < -9223372036854775808 * one32 := by decide +kernel
theorem val_one : val .f32 1065353216 = one32 ∧ isNan .f32 1065353216 = false := by decide +kernel
theorem val_zero : val .f32 0 = 0 ∧ isNan .f32 0 = false := by decide +kernel
/-- A narrow float to an integer of 64 bits. -/
theorem floatToInt_val32 {b : Nat} (hn : isNan .f32 b = false) (hlo : -9223372036854775808 * one32 ≤ val .f32 b) (hhi : val .f32 b ≤ 9223372036854775807 * one32) :
    floatToIntVal .f32 b .i64 = some ((val .f32 b).tdiv one32) := by
  have hsmall := far32
  have hsmall' := far32'
  cases hr : FloatKind.f32.format.read b with
  | nan s t => simp [isNan, hr, Ieee.Datum.isNaN] at hn
  | infinity s =>
    have hv : val .f32 b = if s then -(far : Int) else far := by simp only [val, hr]
    rw [hv] at hlo hhi
    generalize (far : Int) = big at *
    cases s <;> simp at hlo hhi <;> omega
  | number s m e =>
    have ht := toInt_val hr
    unfold floatToIntVal
    rw [ht]
    have hU := one32_pos
    rw [show (2 : Int) ^ unitOf .f32 = one32 from rfl]
    generalize one32 = U at *
    generalize val .f32 b = v at *
    have h1 : IntKind.i64.min ≤ v.tdiv U := by
      have : IntKind.i64.min = (-9223372036854775808 * U).tdiv U := (Int.mul_tdiv_cancel _ (by omega)).symm
      rw [this]; exact Int.tdiv_le_tdiv hU hlo
    have h2 : v.tdiv U ≤ IntKind.i64.max := by
      have : IntKind.i64.max = (9223372036854775807 * U).tdiv U := (Int.mul_tdiv_cancel _ (by omega)).symm
      rw [this]; exact Int.tdiv_le_tdiv hU hhi
    simp only [h1, h2, and_self, if_true]
theorem val_nearest32 {s : Bool} {m : Nat} {e : Int} (hm : m ≠ 0) (hp : m.log2 ≤ 23) (he : -149 ≤ e) (ho : e + m.log2 ≤ 127) :
    val .f32 (FloatKind.f32.format.nearest s m e) = Ieee.signed s m (e + 149).toNat := by
  obtain ⟨b1, b2, b3, b4, b5⟩ := bits32
  obtain ⟨h5, _⟩ := read_nearest FloatKind.f32.format s m e hm (by omega) (by omega) (by rw [b1, b2, b3]; omega) (by omega)
  have h1 : lastOf FloatKind.f32.format m e ≤ e := by unfold lastOf; omega
  have h2 : -149 ≤ lastOf FloatKind.f32.format m e := by unfold lastOf; omega
  simp only [val, h5]
  rw [signed_eq, signed_eq]
  have hu : ((unitOf .f32 : Nat) : Int) = 149 := rfl
  rw [hu]
  generalize lastOf FloatKind.f32.format m e = last at *
  have e1 : (2 : Int) ^ (e + 149).toNat = 2 ^ (e - last).toNat * 2 ^ (last + 149).toNat := by
    rw [← Int.pow_add]; congr 1; omega
  rw [e1, Int.natCast_mul, Int.natCast_pow]
  cases s
  · simp [Int.mul_assoc]
  · simp [Int.mul_assoc, Int.neg_mul]
/-- The place of a number in a table. -/
def placeW (x : Nat) : Nat := fop .mul .f32 x 1132462080
def inUnit (x : Nat) : Bool := (FloatKind.f32.format.order x 0 == some .gt || FloatKind.f32.format.order x 0 == some .eq) && (FloatKind.f32.format.order x 1065353216 == some .lt || FloatKind.f32.format.order x 1065353216 == some .eq)
theorem inUnit_val {x : Nat} (h : inUnit x = true) : isNan .f32 x = false ∧ 0 ≤ val .f32 x ∧ val .f32 x ≤ one32 := by
  cases hn : isNan .f32 x
  · have h0 := order_val hn val_zero.2
    have h1 := order_val hn val_one.2
    unfold inUnit at h
    rw [h0, h1, val_zero.1, val_one.1] at h
    generalize one32 = U at *
    generalize val .f32 x = v at *
    refine ⟨rfl, ?_, ?_⟩
    · rcases Int.lt_trichotomy v 0 with c | c | c
      · rw [Int.compare_eq_lt.2 c] at h; simp at h
      · omega
      · omega
    · rcases Int.lt_trichotomy v U with c | c | c
      · omega
      · omega
      · rw [Int.compare_eq_gt.2 c] at h; simp at h
  · unfold inUnit at h
    rw [order_of_nan_l hn] at h
    simp at h
theorem place_val {x : Nat} (h : inUnit x = true) : isNan .f32 (placeW x) = false ∧ val .f32 (placeW x) = val .f32 x * 256 := by
  obtain ⟨hn, h0, h1⟩ := inUnit_val h
  have hc : FloatKind.f32.format.read 1132462080 = .number false 8388608 (-15) := by decide
  have hf := far32
  have hU := one32_pos
  cases hr : FloatKind.f32.format.read x with
  | nan s t => simp [isNan, hr, Ieee.Datum.isNaN] at hn
  | infinity s =>
    have hv : val .f32 x = if s then -(far : Int) else far := by simp only [val, hr]
    rw [hv] at h0 h1
    generalize (far : Int) = big at *
    cases s <;> simp at h0 h1 <;> omega
  | number s m e =>
    obtain ⟨he, hm⟩ := read32 hr
    have hb : floatBits .mul .f32 x 1132462080 = some (FloatKind.f32.format.nearest s m (e + 8)) := by
      have : floatBits .mul .f32 x 1132462080 = some (FloatKind.f32.format.nearest (s ^^ false) (m * 2 ^ 23) (e + -15)) := by
        simp only [floatBits, Ieee.Format.mul, hr, hc]; rfl
      rw [this, Bool.xor_false, ← nearest_scale _ s m 23 (e + 8), show e + 8 - ((23 : Nat) : Int) = e + -15 by omega]
    have hp : placeW x = FloatKind.f32.format.nearest s m (e + 8) := by
      unfold placeW fop
      rw [hb]
      exact can_of_not (isNan_nearest .f32 s m (e + 8))
    refine ⟨by rw [hp]; exact isNan_nearest .f32 s m (e + 8), ?_⟩
    have hv : val .f32 x = Ieee.signed s m (e + 149).toNat := by simp only [val, hr]; rfl
    rw [hp, hv]
    by_cases m0 : m = 0
    · subst m0
      have : FloatKind.f32.format.nearest s 0 (e + 8) = FloatKind.f32.format.word s 0 := by simp [Ieee.Format.nearest]
      rw [this, signed_eq]
      cases s <;> simp <;> decide
    · obtain ⟨hl, _⟩ := hm m0
      have hle : e + m.log2 ≤ 0 := by
        rw [hv, signed_eq] at h0 h1
        have hs : s = false := by
          cases s
          · rfl
          · simp only [if_true, Int.neg_mul] at h0
            have : 0 < (m : Int) * 2 ^ (e + 149).toNat := Int.mul_pos (by omega) (Int.pow_pos (by omega))
            omega
        subst hs
        simp only [Bool.false_eq_true, if_false] at h1
        have h2 : m * 2 ^ (e + 149).toNat ≤ 2 ^ 149 := by
          have h3 : ((m * 2 ^ (e + 149).toNat : Nat) : Int) ≤ ((2 ^ 149 : Nat) : Int) := by
            rw [Int.natCast_mul, Int.natCast_pow, Int.natCast_pow]; exact h1
          exact_mod_cast h3
        have h4 : 2 ^ (m.log2 + (e + 149).toNat) ≤ 2 ^ 149 := by
          rw [Nat.pow_add]
          exact Nat.le_trans (Nat.mul_le_mul_right _ (Nat.log2_self_le m0)) h2
        have h5 := (Nat.pow_le_pow_iff_right (a := 2) (by omega)).1 h4
        omega
      rw [val_nearest32 m0 hl (by omega) (by omega), signed_eq, signed_eq, show (e + 8 + 149).toNat = (e + 149).toNat + 8 by omega, Int.pow_add, Int.mul_assoc]
      rfl
/-- The index of a place. -/
def indexW (x : Nat) : Nat := ((val .f32 x * 256).tdiv one32).toNat
theorem place_int {x p : Nat} (h : inUnit x = true) (hp : can .f32 p = placeW x) : isNan .f32 p = false ∧ floatToIntVal .f32 p .i64 = some (indexW x : Int) ∧ indexW x ≤ 256 := by
  obtain ⟨hn, h0, h1⟩ := inUnit_val h
  obtain ⟨hn2, hv⟩ := place_val h
  have hpn : isNan .f32 p = false := by
    have := isNan_of_can (hp.trans (by unfold placeW; exact (can_fop _ _ _ _).symm) : can .f32 p = can .f32 (placeW x))
    rw [this, hn2]
  have e : p = placeW x := by rw [← can_of_not hpn, hp]
  have hU := one32_pos
  refine ⟨hpn, ?_, ?_⟩
  · rw [e, floatToInt_val32 hn2 (by rw [hv]; generalize one32 = U at *; omega) (by rw [hv]; generalize one32 = U at *; omega), hv]
    unfold indexW
    generalize one32 = U at *
    have : 0 ≤ (val .f32 x * 256).tdiv U := Int.tdiv_nonneg (by omega) (by omega)
    rw [Int.toNat_of_nonneg this]
  · unfold indexW
    generalize one32 = U at *
    have : (val .f32 x * 256).tdiv U ≤ (256 * U).tdiv U := Int.tdiv_le_tdiv hU (by omega)
    rw [Int.mul_tdiv_cancel _ (by omega)] at this
    omega
end Go.Fk

/- 'isWithin'. -/
namespace Go.Fk
open Go Go.RowKit
/-- Is a number from one to another? Not NaN. -/
def withinB (a l g : Nat) : Bool := (FloatKind.f32.format.order a l == some .gt || FloatKind.f32.format.order a l == some .eq) && (FloatKind.f32.format.order a g == some .lt || FloatKind.f32.format.order a g == some .eq)
end Go.Fk
namespace Go.Proofs.Ytmacednkpjfokaa
open Go.RowKit Go.Fk
end Go.Proofs.Ytmacednkpjfokaa

/- Whole numbers as floats, and what a number has above its whole part. Nothing here names a program. -/
namespace Go.Fk
open Go Go.RowKit
theorem val_int {k : Nat} (hk : k ≤ 4096) : val .f32 (floatOfInt .f32 (k : Int)) = (k : Int) * one32 := by
  have e : floatOfInt .f32 (k : Int) = FloatKind.f32.format.nearest false k 0 := by
    show FloatKind.f32.encode (.number (decide ((k : Int) < 0)) (k : Int).natAbs 0) = _
    rw [show decide ((k : Int) < 0) = false by simp, Int.natAbs_natCast]; rfl
  rw [e]
  by_cases h0 : k = 0
  · subst h0; decide +kernel
  · have hl : k.log2 ≤ 12 := Nat.le_of_lt_succ ((Nat.log2_lt h0).2 (by omega))
    rw [val_nearest32 h0 (by omega) (by omega) (by omega), signed_eq]
    simp only [Bool.false_eq_true, if_false, one32]
    rfl
theorem far_one : 4096 * one32 < (far : Int) := by decide +kernel
theorem finite_num {x : Nat} (hn : isNan .f32 x = false) (h1 : -(far : Int) < val .f32 x) (h2 : val .f32 x < far) : ∃ s m e, FloatKind.f32.format.read x = .number s m e := by
  cases hr : FloatKind.f32.format.read x with
  | nan s t => simp [isNan, hr, Ieee.Datum.isNaN] at hn
  | infinity s =>
    have hv : val .f32 x = if s then -(far : Int) else far := by simp only [val, hr]
    rw [hv] at h1 h2
    generalize (far : Int) = big at *
    cases s <;> simp at h1 h2
  | number s m e => exact ⟨s, m, e, rfl⟩
theorem sub_num {x y : Nat} {s t : Bool} {m n : Nat} {i j : Int} (hrx : FloatKind.f32.format.read x = .number s m i) (hry : FloatKind.f32.format.read y = .number t n j) :
    isNan .f32 (fop .sub .f32 x y) = false ∧ (val .f32 x = val .f32 y → FloatKind.f32.format.order (fop .sub .f32 x y) 0 = some .eq) := by
  obtain ⟨sg, hb⟩ : ∃ sg, floatBits .sub .f32 x y = some (FloatKind.f32.format.nearest sg (Ieee.signed s m (i - min i j).toNat + Ieee.signed (!t) n (j - min i j).toNat).natAbs (min i j)) := ⟨_, by
    simp only [floatBits, Ieee.Format.sub, hrx, hry, Ieee.Datum.opposite, Ieee.Datum.sum, Option.map_some]; rfl⟩
  have hf : fop .sub .f32 x y = FloatKind.f32.format.nearest sg (Ieee.signed s m (i - min i j).toNat + Ieee.signed (!t) n (j - min i j).toNat).natAbs (min i j) := by
    unfold fop; rw [hb]; exact can_of_not (isNan_nearest _ _ _ _)
  refine ⟨by rw [hf]; exact isNan_nearest _ _ _ _, fun h => ?_⟩
  have pi : -149 ≤ i := read_place hrx
  have pj : -149 ≤ j := read_place hry
  have vx : val .f32 x = Ieee.signed s m (i + 149).toNat := by simp only [val, hrx]; rfl
  have vy : val .f32 y = Ieee.signed t n (j + 149).toNat := by simp only [val, hry]; rfl
  have hneg : Ieee.signed (!t) n (j - min i j).toNat = -Ieee.signed t n (j - min i j).toNat := by
    unfold Ieee.signed; cases t <;> simp
  rw [hneg] at hf
  have e1 : val .f32 x - val .f32 y = (Ieee.signed s m (i - min i j).toNat + -Ieee.signed t n (j - min i j).toNat) * 2 ^ (min i j + 149).toNat := by
    rw [vx, vy, signed_eq, signed_eq, signed_eq, signed_eq, Int.add_mul, Int.neg_mul, Int.mul_assoc, Int.mul_assoc, ← Int.pow_add, ← Int.pow_add]
    rw [show (i - min i j).toNat + (min i j + 149).toNat = (i + 149).toNat by omega, show (j - min i j).toNat + (min i j + 149).toNat = (j + 149).toNat by omega]
    omega
  have hT : Ieee.signed s m (i - min i j).toNat + -Ieee.signed t n (j - min i j).toNat = 0 := by
    have h0 : (Ieee.signed s m (i - min i j).toNat + -Ieee.signed t n (j - min i j).toNat) * 2 ^ (min i j + 149).toNat = 0 := by rw [← e1, h]; omega
    exact (Int.mul_eq_zero.1 h0).resolve_right (Int.ne_of_gt (Int.pow_pos (by omega)))
  rw [hf, hT, Int.natAbs_zero]
  have : FloatKind.f32.format.nearest sg 0 (min i j) = FloatKind.f32.format.word sg 0 := by simp [Ieee.Format.nearest]
  rw [this]
  cases sg <;> decide +kernel
/-- A number's whole part. -/
def wholeW (d : Nat) : Nat := ((val .f32 d).tdiv one32).toNat
/-- What a number has above its whole part. -/
def shareW (d : Nat) : Nat := fop .sub .f32 d (floatOfInt .f32 (wholeW d : Int))
theorem into_val {d n : Nat} (hn : n ≤ 4096) (h : withinB d 1065353216 (floatOfInt .f32 (n : Int)) = true) : isNan .f32 d = false ∧ one32 ≤ val .f32 d ∧ val .f32 d ≤ n * one32 := by
  cases hd : isNan .f32 d
  · have h0 := order_val hd val_one.2
    have h1 := order_val hd (isNan_int (n : Int))
    unfold withinB at h
    rw [h0, h1, val_one.1, val_int hn] at h
    generalize one32 = U at *
    generalize val .f32 d = v at *
    generalize (n : Int) * U = T at *
    refine ⟨rfl, ?_, ?_⟩
    · rcases Int.lt_trichotomy v U with c | c | c
      · rw [Int.compare_eq_lt.2 c] at h; simp at h
      · omega
      · omega
    · rcases Int.lt_trichotomy v T with c | c | c
      · omega
      · omega
      · rw [Int.compare_eq_gt.2 c] at h; simp at h
  · unfold withinB at h
    rw [order_of_nan_l hd] at h
    simp at h
theorem into_int {d n : Nat} (hn : n ≤ 4096) (h : withinB d 1065353216 (floatOfInt .f32 (n : Int)) = true) :
    floatToIntVal .f32 d .i64 = some (wholeW d : Int) ∧ 1 ≤ wholeW d ∧ wholeW d ≤ n := by
  obtain ⟨hd, h0, h1⟩ := into_val hn h
  have hU := one32_pos
  have e1 : one32.tdiv one32 ≤ (val .f32 d).tdiv one32 := Int.tdiv_le_tdiv hU h0
  have e2 : (val .f32 d).tdiv one32 ≤ (n * one32).tdiv one32 := Int.tdiv_le_tdiv hU h1
  rw [Int.mul_tdiv_cancel _ (by omega)] at e2
  rw [Int.tdiv_self (by omega)] at e1
  have hn' : (n : Int) * one32 ≤ 9223372036854775807 * one32 := Int.mul_le_mul_of_nonneg_right (by omega) (by omega)
  refine ⟨?_, ?_, ?_⟩
  · rw [floatToInt_val32 hd (by omega) (by omega)]
    unfold wholeW
    rw [Int.toNat_of_nonneg (by omega)]
  · unfold wholeW; omega
  · unfold wholeW; omega
theorem into_share {d n : Nat} (hn : n ≤ 4096) (h : withinB d 1065353216 (floatOfInt .f32 (n : Int)) = true) :
    isNan .f32 (shareW d) = false ∧ ((FloatKind.f32.format.order (shareW d) 0 == some .eq) = false → wholeW d + 1 ≤ n) := by
  obtain ⟨hd, h0, h1⟩ := into_val hn h
  obtain ⟨_, k0, k1⟩ := into_int hn h
  have hU := one32_pos
  have hf := far_one
  have hn' : (n : Int) * one32 ≤ 4096 * one32 := Int.mul_le_mul_of_nonneg_right (by omega) (by omega)
  have hk' : (wholeW d : Int) * one32 ≤ 4096 * one32 := Int.mul_le_mul_of_nonneg_right (by omega) (by omega)
  have hk0 : 0 ≤ (wholeW d : Int) * one32 := Int.mul_nonneg (by omega) (by omega)
  obtain ⟨s, m, i, hr⟩ := finite_num hd (by omega) (by omega)
  obtain ⟨t, q, j, hr2⟩ := finite_num (isNan_int (wholeW d : Int)) (by rw [val_int (by omega)]; omega) (by rw [val_int (by omega)]; omega)
  obtain ⟨g1, g2⟩ := sub_num hr hr2
  refine ⟨g1, fun hz => ?_⟩
  apply Classical.byContradiction
  intro hc
  have hk : wholeW d = n := by omega
  have : val .f32 d = val .f32 (floatOfInt .f32 (wholeW d : Int)) := by
    rw [val_int (by omega), hk]
    have e3 : (wholeW d : Int) * one32 ≤ val .f32 d := by
      have e4 : (wholeW d : Int) = (val .f32 d).tdiv one32 := by unfold wholeW; rw [Int.toNat_of_nonneg (Int.tdiv_nonneg (by omega) (by omega))]
      rw [e4]
      rw [Int.tdiv_eq_ediv_of_nonneg (by omega)]
      exact Int.ediv_mul_le _ (by omega)
    rw [hk] at e3
    omega
  have hz' := g2 this
  unfold shareW at hz
  rw [hz'] at hz
  simp at hz
end Go.Fk

/- Bounds of what is rounded to the nearest narrow float. Nothing here names a program. -/
namespace Go.Fk
open Go Go.RowKit
/-- The size of a rung, in the least units. -/
def rv (r : Nat) : Nat := if r < 8388608 then r else (8388608 + r % 8388608) * 2 ^ (r / 8388608 - 1)
theorem f32_nums : FloatKind.f32.format.signWeight = 2147483648 ∧ FloatKind.f32.format.binade = 8388608 ∧ FloatKind.f32.format.infRung = 2139095040 ∧ FloatKind.f32.format.leastPlace = -149 ∧ FloatKind.f32.format.fractionBits = 23 := by decide
theorem val_word (s : Bool) {r : Nat} (h : r < 2139095040) : val .f32 (FloatKind.f32.format.word s r) = if s then -(rv r : Int) else (rv r : Int) := by
  obtain ⟨e1, e2, e3, e4, e5⟩ := f32_nums
  have hrung : FloatKind.f32.format.word s r % FloatKind.f32.format.signWeight = r := word_mod _ _ (by rw [e1]; omega)
  have hneg : (FloatKind.f32.format.word s r / FloatKind.f32.format.signWeight % 2 == 1) = s := by
    unfold Ieee.Format.word
    rw [e1]
    cases s
    · simp; omega
    · simp; omega
  have hu : (unitOf .f32 : Int) = 149 := rfl
  unfold val Ieee.Format.read
  rw [hrung, hneg, e2, e3, e4]
  dsimp only
  unfold rv
  by_cases h1 : r < 8388608
  · rw [if_pos h1, if_pos h1]
    simp only [signed_eq]
    rw [hu]
    cases s <;> simp
  · rw [if_neg h1, if_neg h1, if_pos h]
    simp only [signed_eq]
    rw [hu, show (-149 + ((r / 8388608 - 1 : Nat) : Int) + 149).toNat = r / 8388608 - 1 by omega]
    cases s
    · simp
    · simp [Int.neg_mul]
theorem rv_le {r c : Nat} (hc : 1 ≤ c) (h : r ≤ c * 8388608) : rv r ≤ 2 ^ (22 + c) := by
  unfold rv
  have hB : (8388608 : Nat) = 2 ^ 23 := by decide
  split
  · calc r ≤ 2 ^ 23 := by omega
      _ ≤ 2 ^ (22 + c) := Nat.pow_le_pow_right (by omega) (by omega)
  · rename_i h1
    have hq : r / 8388608 ≤ c := Nat.div_le_of_le_mul (by omega)
    rcases Nat.lt_or_ge (r / 8388608) c with h2 | h2
    · calc (8388608 + r % 8388608) * 2 ^ (r / 8388608 - 1) ≤ 2 ^ 24 * 2 ^ (r / 8388608 - 1) := Nat.mul_le_mul_right _ (by have := Nat.mod_lt r (show 0 < 8388608 by decide); omega)
        _ = 2 ^ (24 + (r / 8388608 - 1)) := by rw [← Nat.pow_add]
        _ ≤ 2 ^ (22 + c) := Nat.pow_le_pow_right (by omega) (by omega)
    · have h3 : r % 8388608 = 0 := by omega
      rw [h3, Nat.add_zero, hB, ← Nat.pow_add, ← hB]
      exact Nat.pow_le_pow_right (by omega) (by omega)
theorem rv_ge {r c : Nat} (hc : 1 ≤ c) (h : c * 8388608 ≤ r) : 2 ^ (22 + c) ≤ rv r := by
  unfold rv
  have hB : (8388608 : Nat) = 2 ^ 23 := by decide
  have hq : c ≤ r / 8388608 := (Nat.le_div_iff_mul_le (by decide)).2 h
  rw [if_neg (by omega)]
  calc 2 ^ (22 + c) ≤ 2 ^ (23 + (r / 8388608 - 1)) := Nat.pow_le_pow_right (by omega) (by omega)
    _ = 8388608 * 2 ^ (r / 8388608 - 1) := by rw [Nat.pow_add, ← hB]
    _ ≤ _ := Nat.mul_le_mul_right _ (by omega)
theorem cut_ge (s : Bool) (n d : Nat) : n / 2 ^ d ≤ Ieee.Toward.even.cut s n d := by
  have h : n / 2 ^ d ≤ n / 1 <<< min d (n.log2 + 2) := by
    rw [Nat.one_shiftLeft]
    exact Nat.div_le_div_left (Nat.pow_le_pow_right (by omega) (Nat.min_le_left _ _)) (Nat.two_pow_pos _)
  show n / 2 ^ d ≤ n / 1 <<< min d (n.log2 + 2) + _
  exact Nat.le_trans h (Nat.le_add_right _ _)
/-- What is nearest to a number below '2 ^ A' is at most this. -/
theorem near_le (s : Bool) {m : Nat} {e A : Int} (hm : m ≠ 0) (hA : e + m.log2 + 1 ≤ A) (h1 : -125 ≤ A) (h2 : A ≤ 126) : ∃ v : Nat, val .f32 (FloatKind.f32.format.nearest s m e) = (if s then -(v : Int) else (v : Int)) ∧ v ≤ 2 ^ (A + 149).toNat := by
  obtain ⟨e1, e2, e3, e4, e5⟩ := f32_nums
  obtain ⟨r, hr, h3, h4⟩ := nearest_rung FloatKind.f32.format s m e A hm hA (by rw [e4, e5]; omega)
  rw [e2, e4, e5] at h4
  have h5 : r ≤ (A + 127).toNat * 8388608 := by
    have e : (A - ((23 : Nat) : Int) - -149 + 1) = A + 127 := by omega
    rw [e] at h4
    omega
  have h7 : r < 2139095040 := by
    have : (A + 127).toNat ≤ 253 := by omega
    omega
  refine ⟨rv r, by rw [hr, val_word s h7], ?_⟩
  have := rv_le (r := r) (c := (A + 127).toNat) (by omega) h5
  rwa [show 22 + (A + 127).toNat = (A + 149).toNat by omega] at this
theorem aux_min {c l k B M : Nat} (h1 : c ≤ l + 1) (h2 : B ≤ k) (h3 : c ≤ 253) (h4 : 253 * B ≤ M) : c * B ≤ min (l * B + k) M := by
  refine Nat.le_min.2 ⟨?_, Nat.le_trans (Nat.mul_le_mul_right _ h3) h4⟩
  calc c * B ≤ (l + 1) * B := Nat.mul_le_mul_right _ h1
    _ = l * B + B := Nat.succ_mul _ _
    _ ≤ _ := Nat.add_le_add_left h2 _
/-- What is nearest to a number of at least '2 ^ C' is at least this. -/
theorem near_ge (s : Bool) {m : Nat} {e A C : Int} (hm : m ≠ 0) (hA : e + m.log2 + 1 ≤ A) (h1 : -125 ≤ C) (h2 : A ≤ 126) (hC : C ≤ e + m.log2) : ∃ v : Nat, val .f32 (FloatKind.f32.format.nearest s m e) = (if s then -(v : Int) else (v : Int)) ∧ v ≤ 2 ^ (A + 149).toNat ∧ 2 ^ (C + 149).toNat ≤ v := by
  obtain ⟨e1, e2, e3, e4, e5⟩ := f32_nums
  obtain ⟨v, hv, hle⟩ := near_le s hm hA (by omega) h2
  refine ⟨v, hv, hle, ?_⟩
  obtain ⟨r, hr, h3, h4⟩ := nearest_rung FloatKind.f32.format s m e A hm hA (by rw [e4, e5]; omega)
  have hr' := hr
  unfold Ieee.Format.nearest at hr
  rw [if_neg hm, e2, e3, e4, e5] at hr
  simp only [] at hr
  generalize hlast : max (e + (m.log2 : Int) - ((23 : Nat) : Int)) (-149) = last at hr
  have hl2 : last = e + m.log2 - 23 := by omega
  generalize hk : Ieee.Toward.even.cut s (m <<< (e - last).toNat) (last - e).toNat = kept at hr
  have hkept : 8388608 ≤ kept := by
    rw [← hk]
    refine Nat.le_trans ?_ (cut_ge _ _ _)
    rw [Nat.shiftLeft_eq]
    have hm2 := Nat.log2_self_le hm
    rw [Nat.le_div_iff_mul_le (Nat.two_pow_pos _)]
    have hB : (8388608 : Nat) = 2 ^ 23 := by decide
    calc 8388608 * 2 ^ (last - e).toNat = 2 ^ (23 + (last - e).toNat) := by rw [Nat.pow_add, ← hB]
      _ ≤ 2 ^ (m.log2 + (e - last).toNat) := Nat.pow_le_pow_right (by omega) (by omega)
      _ = 2 ^ m.log2 * 2 ^ (e - last).toNat := by rw [Nat.pow_add]
      _ ≤ m * 2 ^ (e - last).toNat := Nat.mul_le_mul_right _ hm2
  have hge : (C + 127).toNat * 8388608 ≤ min ((last - -149).toNat * 8388608 + kept) 2139095040 := by
    have h5 : (C + 127).toNat ≤ (last - -149).toNat + 1 := by omega
    have h7 : (C + 127).toNat ≤ 253 := by omega
    exact aux_min h5 hkept h7 (by decide)
  generalize min ((last - -149).toNat * 8388608 + kept) 2139095040 = q at hr hge
  have hq : r = q := by
    unfold Ieee.Format.word at hr
    split at hr <;> omega
  subst hq
  rw [hr', ] at hv
  have h7 : r < 2139095040 := by
    rw [e2, e4, e5] at h4
    have e : (A - ((23 : Nat) : Int) - -149 + 1) = A + 127 := by omega
    rw [e] at h4
    omega
  rw [val_word s h7] at hv
  have hvr : v = rv r := by cases s <;> simp at hv <;> omega
  rw [hvr]
  have := rv_ge (r := r) (c := (C + 127).toNat) (by omega) hge
  rwa [show 22 + (C + 127).toNat = (C + 149).toNat by omega] at this
end Go.Fk

/- Places and periods as numbers. Nothing here names a program. -/
namespace Go.Fk
open Go Go.RowKit
theorem within_val {x a b : Nat} (ha : isNan .f32 a = false) (hb : isNan .f32 b = false) (h : withinB x a b = true) : isNan .f32 x = false ∧ val .f32 a ≤ val .f32 x ∧ val .f32 x ≤ val .f32 b := by
  cases hd : isNan .f32 x
  · have h0 := order_val hd ha
    have h1 := order_val hd hb
    unfold withinB at h
    rw [h0, h1] at h
    generalize val .f32 x = v at *
    generalize val .f32 a = U at *
    generalize val .f32 b = T at *
    refine ⟨rfl, ?_, ?_⟩
    · rcases Int.lt_trichotomy v U with c | c | c
      · rw [Int.compare_eq_lt.2 c] at h; simp at h
      · omega
      · omega
    · rcases Int.lt_trichotomy v T with c | c | c
      · omega
      · omega
      · rw [Int.compare_eq_gt.2 c] at h; simp at h
  · unfold withinB at h
    rw [order_of_nan_l hd] at h
    simp at h
theorem val_3 : val .f32 1077936128 = 3 * 2 ^ 149 ∧ isNan .f32 1077936128 = false := by decide +kernel
theorem val_1024 : val .f32 1149239296 = 2 ^ 159 ∧ isNan .f32 1149239296 = false := by decide +kernel
theorem val_half : val .f32 1056964608 = 2 ^ 148 ∧ isNan .f32 1056964608 = false := by decide +kernel
theorem one_pow : one32 = 2 ^ 149 := rfl
theorem far_159 : (2 : Int) ^ 160 < (far : Int) := by decide +kernel
theorem pow2_of {m a b : Nat} (h : m * 2 ^ a = 2 ^ (m.log2 + a)) : m = 2 ^ m.log2 := by
  rw [Nat.pow_add] at h
  exact Nat.eq_of_mul_eq_mul_right (Nat.two_pow_pos a) h
/-- What is nearest to a number from 2 to 1024. -/
theorem near_in {m : Nat} {e : Int} (he : -149 ≤ e) (h1 : 2 ^ 150 ≤ m * 2 ^ (e + 149).toNat) (h2 : m * 2 ^ (e + 149).toNat ≤ 2 ^ 159) :
    2 ^ 150 ≤ val .f32 (FloatKind.f32.format.nearest false m e) ∧ val .f32 (FloatKind.f32.format.nearest false m e) ≤ 2 ^ 159 := by
  have hm : m ≠ 0 := by
    rintro rfl
    rw [Nat.zero_mul] at h1
    exact absurd h1 (by decide)
  have hlo : 150 ≤ m.log2 + (e + 149).toNat := by
    have a := @Nat.lt_log2_self m
    have b : 2 ^ 150 < 2 ^ (m.log2 + 1 + (e + 149).toNat) := by
      rw [Nat.pow_add]
      exact Nat.lt_of_le_of_lt h1 (Nat.mul_lt_mul_of_pos_right a (Nat.two_pow_pos _))
    have := (Nat.pow_lt_pow_iff_right (a := 2) (by omega)).1 b
    omega
  have hhi : m.log2 + (e + 149).toNat ≤ 159 := by
    have a := Nat.log2_self_le hm
    have b : 2 ^ (m.log2 + (e + 149).toNat) ≤ 2 ^ 159 := by
      rw [Nat.pow_add]
      exact Nat.le_trans (Nat.mul_le_mul_right _ a) h2
    exact (Nat.pow_le_pow_iff_right (a := 2) (by omega)).1 b
  rcases Nat.lt_or_ge (m.log2 + (e + 149).toNat) 159 with h3 | h3
  · obtain ⟨v, hv, h4, h5⟩ := near_ge (e := e) (A := 10) (C := 1) false hm (by omega) (by omega) (by omega) (by omega)
    rw [hv]
    simp only [Bool.false_eq_true, if_false]
    have h4' : v ≤ 2 ^ 159 := h4
    have h5' : 2 ^ 150 ≤ v := h5
    exact ⟨by exact_mod_cast h5', by exact_mod_cast h4'⟩
  · have h4 : m.log2 + (e + 149).toNat = 159 := by omega
    have h5 : m * 2 ^ (e + 149).toNat = 2 ^ (m.log2 + (e + 149).toNat) := by
      refine Nat.le_antisymm (by rw [h4]; exact h2) ?_
      rw [Nat.pow_add]
      exact Nat.mul_le_mul_right _ (Nat.log2_self_le hm)
    have h6 := pow2_of (b := 0) h5
    have h7 : FloatKind.f32.format.nearest false m e = FloatKind.f32.format.nearest false 1 10 := by
      have := nearest_scale FloatKind.f32.format false 1 m.log2 10
      rw [Nat.one_mul, ← h6] at this
      rw [← this]
      congr 1
      omega
    rw [h7]
    decide +kernel
/-- The delay of a string's ring and filters, and its whole part. -/
theorem period_int {p x d : Nat} (hp : withinB p 1077936128 1149239296 = true) (hx : withinB x 0 1056964608 = true) (hd : can .f32 d = fop .sub .f32 p x) :
    d = fop .sub .f32 p x ∧ isNan .f32 d = false ∧ floatToIntVal .f32 d .i64 = some (wholeW d : Int) ∧ 2 ≤ wholeW d ∧ wholeW d ≤ 1024 := by
  obtain ⟨n1, a1, a2⟩ := within_val val_3.2 val_1024.2 hp
  obtain ⟨n2, b1, b2⟩ := within_val val_zero.2 val_half.2 hx
  rw [val_3.1, val_1024.1] at *
  rw [val_zero.1, val_half.1] at *
  have hf := far_159
  have hpw : (2 : Int) ^ 159 < 2 ^ 160 := by decide
  have hpw2 : (2 : Int) ^ 148 < 2 ^ 160 := by decide
  have hz : (0 : Int) < 2 ^ 149 := by decide
  obtain ⟨s, m, i, hrx⟩ := finite_num n1 (by omega) (by omega)
  obtain ⟨t, n, j, hry⟩ := finite_num n2 (by omega) (by omega)
  have pi : -149 ≤ i := read_place hrx
  have pj : -149 ≤ j := read_place hry
  have vx : val .f32 p = Ieee.signed s m (i + 149).toNat := by simp only [val, hrx]; rfl
  have vy : val .f32 x = Ieee.signed t n (j + 149).toNat := by simp only [val, hry]; rfl
  have hneg : Ieee.signed (!t) n (j - min i j).toNat = -Ieee.signed t n (j - min i j).toNat := by
    unfold Ieee.signed; cases t <;> simp
  have e1 : val .f32 p - val .f32 x = (Ieee.signed s m (i - min i j).toNat + Ieee.signed (!t) n (j - min i j).toNat) * 2 ^ (min i j + 149).toNat := by
    rw [hneg, vx, vy, signed_eq, signed_eq, signed_eq, signed_eq, Int.add_mul, Int.neg_mul, Int.mul_assoc, Int.mul_assoc, ← Int.pow_add, ← Int.pow_add]
    rw [show (i - min i j).toNat + (min i j + 149).toNat = (i + 149).toNat by omega, show (j - min i j).toNat + (min i j + 149).toNat = (j + 149).toNat by omega]
    omega
  generalize hT : Ieee.signed s m (i - min i j).toNat + Ieee.signed (!t) n (j - min i j).toNat = T at e1
  have hD1 : (2 : Int) ^ 150 ≤ val .f32 p - val .f32 x := by
    have e2 : (2 : Int) ^ 150 = 2 * 2 ^ 149 := by decide
    have e3 : (2 : Int) ^ 149 = 2 * 2 ^ 148 := by decide
    omega
  have hD2 : val .f32 p - val .f32 x ≤ 2 ^ 159 := by omega
  rw [e1] at hD1 hD2
  have hpos : (0 : Int) < 2 ^ (min i j + 149).toNat := Int.pow_pos (by omega)
  have hTp : 0 < T := by
    rcases Int.lt_trichotomy T 0 with c | c | c
    · have : T * 2 ^ (min i j + 149).toNat < 0 := Int.mul_neg_of_neg_of_pos c hpos
      have h0 : (0 : Int) < 2 ^ 150 := by decide
      omega
    · subst c
      rw [Int.zero_mul] at hD1
      exact absurd hD1 (by decide)
    · exact c
  obtain ⟨M, rfl⟩ : ∃ M : Nat, T = M := ⟨T.toNat, by omega⟩
  have hb : floatBits .sub .f32 p x = some (FloatKind.f32.format.nearest false M (min i j)) := by
    have h0 : floatBits .sub .f32 p x = some (FloatKind.f32.format.nearest (if Ieee.signed s m (i - min i j).toNat + Ieee.signed (!t) n (j - min i j).toNat = 0 then s && !t else decide (Ieee.signed s m (i - min i j).toNat + Ieee.signed (!t) n (j - min i j).toNat < 0)) (Ieee.signed s m (i - min i j).toNat + Ieee.signed (!t) n (j - min i j).toNat).natAbs (min i j)) := by
      simp only [floatBits, Ieee.Format.sub, hrx, hry, Ieee.Datum.opposite, Ieee.Datum.sum, Option.map_some]; rfl
    rw [h0, hT, if_neg (by omega), decide_eq_false (by omega), Int.natAbs_natCast]
  have hfp : fop .sub .f32 p x = FloatKind.f32.format.nearest false M (min i j) := by
    unfold fop; rw [hb]; exact can_of_not (isNan_nearest _ _ _ _)
  have hn : isNan .f32 (fop .sub .f32 p x) = false := by rw [hfp]; exact isNan_nearest _ _ _ _
  have hdn : isNan .f32 d = false := by
    have := isNan_of_can (hd.trans (can_fop _ _ _ _).symm : can .f32 d = can .f32 (fop .sub .f32 p x))
    rw [this, hn]
  have hde : d = fop .sub .f32 p x := by rw [← can_of_not hdn, hd]
  obtain ⟨k1, k2⟩ := near_in (m := M) (e := min i j) (by omega) (by exact_mod_cast hD1) (by exact_mod_cast hD2)
  rw [← hfp, ← hde] at k1 k2
  have hU := one32_pos
  have q3 : 2 * one32 ≤ val .f32 d := by
    have e2 : (2 : Int) * 2 ^ 149 = 2 ^ 150 := by decide
    rw [one_pow, e2]; exact k1
  have q4 : val .f32 d ≤ 1024 * one32 := by
    have e2 : (1024 : Int) * 2 ^ 149 = 2 ^ 159 := by decide
    rw [one_pow, e2]; exact k2
  have q1 := Int.tdiv_le_tdiv hU q3
  have q2 := Int.tdiv_le_tdiv hU q4
  rw [Int.mul_tdiv_cancel _ (by omega)] at q1 q2
  refine ⟨hde, hdn, ?_, ?_, ?_⟩
  · rw [floatToInt_val32 hdn (by omega) (by omega)]
    unfold wholeW
    rw [Int.toNat_of_nonneg (by omega)]
  · unfold wholeW; omega
  · unfold wholeW; omega
end Go.Fk

/- 'OnePole', 'OneZero', 'BlockDc', 'AllpassFor'. -/
namespace Go.Fk
open Go Go.RowKit
/-- A filter is given, each of its numbers up to the bits of NaN. -/
def OutL (k : Int) (A B C X Y : Nat) (B0 : Nat) (w0 : World) (e : Ending) (w' : World) : Prop := ∃ a b c x y, e = .returned (.agg #[.int .i64 k, .float .f32 a, .float .f32 b, .float .f32 c, .float .f32 x, .float .f32 y]) ∧ (can .f32 a = A ∧ can .f32 b = B ∧ can .f32 c = C ∧ can .f32 x = X ∧ can .f32 y = Y) ∧ Below B0 w0 w'
def quoA (q : Nat) : Nat := fop .quo .f32 (fop .sub .f32 1065353216 q) (fop .add .f32 1065353216 q)
theorem Row.store6 {W : World} {g : Nat} {t : TypeId} {o0 o1 o2 o3 o4 o5 v0 v1 v2 v3 v4 v5 : Value} (h : Row W g t #[o0, o1, o2, o3, o4, o5]) :
    Row ((((((W.setCell ⟨g, 0, none⟩ v0).setCell ⟨g, 1, none⟩ v1).setCell ⟨g, 2, none⟩ v2).setCell ⟨g, 3, none⟩ v3).setCell ⟨g, 4, none⟩ v4).setCell ⟨g, 5, none⟩ v5) g t #[v0, v1, v2, v3, v4, v5] := by
  have := (((((h.set 0 v0).set 1 v1).set 2 v2).set 3 v3).set 4 v4).set 5 v5
  simpa using this
theorem can_zero : can .f32 0 = 0 := by decide
/-- Is it from 0 to 2? -/
def to2 (q : Nat) : Bool := (FloatKind.f32.format.order q 0 == some .gt || FloatKind.f32.format.order q 0 == some .eq) && (FloatKind.f32.format.order q 1073741824 == some .lt || FloatKind.f32.format.order q 1073741824 == some .eq)
/-- 'AllpassFor': a filter and OK, or none and ErrRange. -/
def OutA (q : Nat) (B0 : Nat) (w0 : World) (e : Ending) (w' : World) : Prop :=
  (to2 q = true → ∃ a, e = .returned (.tuple #[(.agg #[.int .i64 3, .float .f32 a, .float .f32 0, .float .f32 0, .float .f32 0, .float .f32 0]), .int .i64 0]) ∧ can .f32 a = quoA q) ∧ (to2 q = false → e = .returned (.tuple #[(.agg #[.int .i64 0, .float .f32 0, .float .f32 0, .float .f32 0, .float .f32 0, .float .f32 0]), .int .i64 2])) ∧ Below B0 w0 w'
end Go.Fk
namespace Go.Proofs.Ytmacednkpjfokaa
open Go.RowKit Go.Fk
end Go.Proofs.Ytmacednkpjfokaa

/- The numbers of a new string's filters are numbers. Nothing here names a program. -/
namespace Go.Fk
open Go Go.RowKit
theorem val_2 : val .f32 1073741824 = 2 ^ 150 ∧ isNan .f32 1073741824 = false := by decide +kernel
theorem read_1 : FloatKind.f32.format.read 1065353216 = .number false 8388608 (-23) := by decide
theorem num_of {x : Nat} (hn : isNan .f32 x = false) (h0 : 0 ≤ val .f32 x) (h1 : val .f32 x ≤ 2 ^ 150) : ∃ s m e, FloatKind.f32.format.read x = .number s m e ∧ -149 ≤ e ∧ val .f32 x = Ieee.signed s m (e + 149).toNat ∧ lt .f32 x 2 := by
  have hf := far_159
  have hp : (2 : Int) ^ 150 < 2 ^ 160 := by decide
  obtain ⟨s, m, e, hr⟩ := finite_num hn (by omega) (by omega)
  have hv : val .f32 x = Ieee.signed s m (e + 149).toNat := by simp only [val, hr]; rfl
  have pe : -149 ≤ e := read_place hr
  refine ⟨s, m, e, hr, pe, hv, s, m, e, hr, fun m0 => ?_⟩
  rw [hv, signed_eq] at h0 h1
  have hs : s = false := by
    cases s
    · rfl
    · simp only [if_true, Int.neg_mul] at h0
      have : 0 < (m : Int) * 2 ^ (e + 149).toNat := Int.mul_pos (by omega) (Int.pow_pos (by omega))
      omega
  subst hs
  simp only [Bool.false_eq_true, if_false] at h1
  have h2 : m * 2 ^ (e + 149).toNat ≤ 2 ^ 150 := by exact_mod_cast h1
  have b : 2 ^ (m.log2 + (e + 149).toNat) ≤ 2 ^ 150 := by
    rw [Nat.pow_add]
    exact Nat.le_trans (Nat.mul_le_mul_right _ (Nat.log2_self_le m0)) h2
  have := (Nat.pow_le_pow_iff_right (a := 2) (by omega)).1 b
  omega
theorem lt_one : lt .f32 1065353216 1 := ⟨false, 8388608, -23, read_1, fun _ => by decide⟩
theorem fop_of {op : BinOp} {x y r : Nat} {A : Int} (h : floatBits op .f32 x y = some r) (hl : lt .f32 r A) : fop op .f32 x y = r := by
  unfold fop; rw [h]; exact can_of_not hl.notNan
theorem ge_of {x : Nat} {v : Nat} {s : Bool} {m : Nat} {e : Int} (hr : FloatKind.f32.format.read x = .number s m e) (hv : val .f32 x = (v : Int)) (h : 2 ^ 149 ≤ v) : ge .f32 x 0 := by
  have pe : -149 ≤ e := read_place hr
  have hw : val .f32 x = Ieee.signed s m (e + 149).toNat := by simp only [val, hr]; rfl
  rw [hv, signed_eq] at hw
  have hs : s = false := by
    cases s
    · rfl
    · simp only [if_true, Int.neg_mul] at hw
      have h1 : 0 ≤ (m : Int) * 2 ^ (e + 149).toNat := Int.mul_nonneg (by omega) (Int.le_of_lt (Int.pow_pos (by omega)))
      have h2 : 0 < (v : Int) := by have := Nat.lt_of_lt_of_le (Nat.two_pow_pos 149) h; omega
      omega
  subst hs
  simp only [Bool.false_eq_true, if_false] at hw
  have hw' : v = m * 2 ^ (e + 149).toNat := by exact_mod_cast hw
  have m0 : m ≠ 0 := by
    rintro rfl
    rw [Nat.zero_mul] at hw'
    have := Nat.lt_of_lt_of_le (Nat.two_pow_pos 149) h
    omega
  refine ⟨false, m, e, hr, m0, ?_⟩
  have a := @Nat.lt_log2_self m
  have b : 2 ^ 149 < 2 ^ (m.log2 + 1 + (e + 149).toNat) := by
    rw [Nat.pow_add]
    refine Nat.lt_of_le_of_lt (hw' ▸ h) (Nat.mul_lt_mul_of_pos_right a (Nat.two_pow_pos _))
  have := (Nat.pow_lt_pow_iff_right (a := 2) (by omega)).1 b
  omega
theorem one_plus {f : Nat} (hn : isNan .f32 f = false) (h0 : 0 ≤ val .f32 f) (h1 : val .f32 f ≤ 2 ^ 150) : ge .f32 (fop .add .f32 1065353216 f) 0 := by
  obtain ⟨t, n, j, hr, pj, hv, hl⟩ := num_of hn h0 h1
  obtain ⟨r, hb, hlr⟩ := lt_add lt_one hl (fine32 (by decide) (by decide))
  have hfp := fop_of hb hlr
  obtain ⟨s', m', e', hr', _⟩ := hlr
  rw [hfp]
  generalize hT : Ieee.signed false 8388608 (-23 - min (-23) j).toNat + Ieee.signed t n (j - min (-23) j).toNat = T
  have e1 : 2 ^ 149 + val .f32 f = T * 2 ^ (min (-23) j + 149).toNat := by
    rw [← hT, hv, signed_eq, signed_eq, signed_eq, Int.add_mul, Int.mul_assoc, Int.mul_assoc, ← Int.pow_add, ← Int.pow_add]
    rw [show (-23 - min (-23) j).toNat + (min (-23) j + 149).toNat = 126 by omega, show (j - min (-23) j).toNat + (min (-23) j + 149).toNat = (j + 149).toNat by omega]
    simp only [Bool.false_eq_true, if_false]
    have : (2 : Int) ^ 149 = (8388608 : Nat) * 2 ^ 126 := by decide
    omega
  have hb2 : floatBits .add .f32 1065353216 f = some (FloatKind.f32.format.nearest (if T = 0 then false && t else decide (T < 0)) T.natAbs (min (-23) j)) := by
    rw [← hT]
    simp only [floatBits, Ieee.Format.add, read_1, hr, Ieee.Datum.sum, Option.map_some]; rfl
  have hpos : (0 : Int) < 2 ^ (min (-23) j + 149).toNat := Int.pow_pos (by omega)
  have hge : (2 : Int) ^ 149 ≤ T * 2 ^ (min (-23) j + 149).toNat := by omega
  have hle : T * 2 ^ (min (-23) j + 149).toNat ≤ (2 : Int) ^ 151 := by
    have : (2 : Int) ^ 151 = 2 ^ 150 + 2 ^ 149 + 2 ^ 149 := by decide
    have : (0 : Int) < 2 ^ 149 := by decide
    omega
  have hTp : 0 < T := by
    rcases Int.lt_trichotomy T 0 with c | c | c
    · have : T * 2 ^ (min (-23) j + 149).toNat < 0 := Int.mul_neg_of_neg_of_pos c hpos
      have h0 : (0 : Int) < 2 ^ 149 := by decide
      omega
    · subst c
      rw [Int.zero_mul] at hge
      exact absurd hge (by decide)
    · exact c
  obtain ⟨M, rfl⟩ : ∃ M : Nat, T = M := ⟨T.toNat, by omega⟩
  rw [if_neg (by omega), decide_eq_false (by omega), Int.natAbs_natCast, hb] at hb2
  have hrr : r = FloatKind.f32.format.nearest false M (min (-23) j) := by simpa using hb2
  have hm : M ≠ 0 := by omega
  have hgeN : 2 ^ 149 ≤ M * 2 ^ (min (-23) j + 149).toNat := by exact_mod_cast hge
  have hleN : M * 2 ^ (min (-23) j + 149).toNat ≤ 2 ^ 151 := by exact_mod_cast hle
  have hlo : 149 ≤ M.log2 + (min (-23) j + 149).toNat := by
    have a := @Nat.lt_log2_self M
    have b : 2 ^ 149 < 2 ^ (M.log2 + 1 + (min (-23) j + 149).toNat) := by
      rw [Nat.pow_add]
      exact Nat.lt_of_le_of_lt hgeN (Nat.mul_lt_mul_of_pos_right a (Nat.two_pow_pos _))
    have := (Nat.pow_lt_pow_iff_right (a := 2) (by omega)).1 b
    omega
  have hhi : M.log2 + (min (-23) j + 149).toNat ≤ 151 := by
    have b : 2 ^ (M.log2 + (min (-23) j + 149).toNat) ≤ 2 ^ 151 := by
      rw [Nat.pow_add]
      exact Nat.le_trans (Nat.mul_le_mul_right _ (Nat.log2_self_le hm)) hleN
    exact (Nat.pow_le_pow_iff_right (a := 2) (by omega)).1 b
  obtain ⟨v, hv2, _, h5⟩ := near_ge (e := min (-23) j) (A := 3) (C := 0) false hm (by omega) (by omega) (by omega) (by omega)
  rw [← hrr] at hv2
  simp only [Bool.false_eq_true, if_false] at hv2
  have h5' : 2 ^ 149 ≤ v := h5
  exact ge_of hr' hv2 h5'
/-- The number of an allpass filter is a number. -/
theorem quoA_num {f : Nat} (h : to2 f = true) : isNan .f32 (quoA f) = false := by
  obtain ⟨hn, h0, h1⟩ := within_val val_zero.2 val_2.2 (show withinB f 0 1073741824 = true from h)
  rw [val_zero.1] at h0
  rw [val_2.1] at h1
  obtain ⟨t, n, j, hr, pj, hv, hl⟩ := num_of hn h0 h1
  obtain ⟨r, hb, hlr⟩ := lt_sub lt_one hl (fine32 (by decide) (by decide))
  have hfp := fop_of hb hlr
  have hg := one_plus hn h0 h1
  obtain ⟨r2, hb2, hl2⟩ := lt_quo hlr hg (fine32 (by decide) (by decide))
  unfold quoA
  rw [hfp, fop_of hb2 hl2]
  exact hl2.notNan
/-- One less a mix is a number. -/
theorem mix_num {x : Nat} (h : withinB x 0 1056964608 = true) : isNan .f32 x = false ∧ isNan .f32 (fop .sub .f32 1065353216 x) = false := by
  obtain ⟨hn, h0, h1⟩ := within_val val_zero.2 val_half.2 h
  rw [val_zero.1] at h0
  rw [val_half.1] at h1
  have hp : (2 : Int) ^ 148 < 2 ^ 150 := by decide
  obtain ⟨t, n, j, hr, pj, hv, hl⟩ := num_of hn h0 (by omega)
  obtain ⟨r, hb, hlr⟩ := lt_sub lt_one hl (fine32 (by decide) (by decide))
  exact ⟨hn, by rw [fop_of hb hlr]; exact hlr.notNan⟩
end Go.Fk
namespace Go.Fk
open Go Go.RowKit
theorem of_can' {a A : Nat} (h : can .f32 a = A) (hn : isNan .f32 A = false) : a = A := by
  have hc : can .f32 a = can .f32 A := by rw [h, can_of_not hn]
  have : isNan .f32 a = false := by rw [isNan_of_can hc, hn]
  rw [← can_of_not this, h]
theorem lt_val {x A : Nat} (hn : isNan .f32 x = false) (h0 : 0 ≤ val .f32 x) (h1 : val .f32 x ≤ 2 ^ A) (hA : A ≤ 160) : ∃ s m e, FloatKind.f32.format.read x = .number s m e ∧ (m ≠ 0 → s = false ∧ e + m.log2 + 149 ≤ A) := by
  have hf := far_159
  have hp : (2 : Int) ^ A ≤ 2 ^ 160 := by exact_mod_cast Nat.pow_le_pow_right (n := 2) (by omega) hA
  obtain ⟨s, m, e, hr⟩ := finite_num hn (by omega) (by omega)
  have hv : val .f32 x = Ieee.signed s m (e + 149).toNat := by simp only [val, hr]; rfl
  have pe : -149 ≤ e := read_place hr
  refine ⟨s, m, e, hr, fun m0 => ?_⟩
  rw [hv, signed_eq] at h0 h1
  have hs : s = false := by
    cases s
    · rfl
    · simp only [if_true, Int.neg_mul] at h0
      have : 0 < (m : Int) * 2 ^ (e + 149).toNat := Int.mul_pos (by omega) (Int.pow_pos (by omega))
      omega
  subst hs
  simp only [Bool.false_eq_true, if_false] at h1
  have h2 : m * 2 ^ (e + 149).toNat ≤ 2 ^ A := by exact_mod_cast h1
  have b : 2 ^ (m.log2 + (e + 149).toNat) ≤ 2 ^ A := by
    rw [Nat.pow_add]
    exact Nat.le_trans (Nat.mul_le_mul_right _ (Nat.log2_self_le m0)) h2
  have := (Nat.pow_le_pow_iff_right (a := 2) (by omega)).1 b
  exact ⟨rfl, by omega⟩
/-- A place times a whole number. -/
theorem mult_int {pl n d : Nat} (hn : isNan .f32 pl = false) (h0 : 0 ≤ val .f32 pl) (h1 : val .f32 pl ≤ 2 ^ 149) (hk : n ≤ 1024) (hd : can .f32 d = fop .mul .f32 pl (floatOfInt .f32 (n : Int))) :
    d = fop .mul .f32 pl (floatOfInt .f32 (n : Int)) ∧ floatToIntVal .f32 d .i64 = some (wholeW d : Int) ∧ wholeW d ≤ 4096 := by
  have hU := one32_pos
  obtain ⟨s, m, i, hr, hm⟩ := lt_val hn h0 h1 (by omega)
  have hv : val .f32 (floatOfInt .f32 (n : Int)) = (n : Int) * one32 := val_int (by omega)
  have hv2 : val .f32 (floatOfInt .f32 (n : Int)) ≤ 2 ^ 159 := by
    rw [hv]
    have e2 : (1024 : Int) * one32 = 2 ^ 159 := by decide
    rw [← e2]
    exact Int.mul_le_mul_of_nonneg_right (by omega) (by omega)
  obtain ⟨t, q, j, hr2, hq⟩ := lt_val (isNan_int (n : Int)) (by rw [hv]; exact Int.mul_nonneg (by omega) (by omega)) hv2 (by omega)
  have hb : floatBits .mul .f32 pl (floatOfInt .f32 (n : Int)) = some (FloatKind.f32.format.nearest (s ^^ t) (m * q) (i + j)) := by
    simp only [floatBits, Ieee.Format.mul, hr, hr2, Ieee.Datum.product, Option.map_some]; rfl
  have hfp : fop .mul .f32 pl (floatOfInt .f32 (n : Int)) = FloatKind.f32.format.nearest (s ^^ t) (m * q) (i + j) := by
    unfold fop; rw [hb]; exact can_of_not (isNan_nearest _ _ _ _)
  have hnn : isNan .f32 (fop .mul .f32 pl (floatOfInt .f32 (n : Int))) = false := by rw [hfp]; exact isNan_nearest _ _ _ _
  have hde := of_can' hd hnn
  have key : 0 ≤ val .f32 d ∧ val .f32 d ≤ 4096 * one32 := by
    rw [hde, hfp]
    by_cases h : m * q = 0
    · rw [h, show FloatKind.f32.format.nearest (s ^^ t) 0 (i + j) = FloatKind.f32.format.word (s ^^ t) 0 by simp [Ieee.Format.nearest], val_word _ (by decide), show rv 0 = 0 by decide]
      have : 0 ≤ 4096 * one32 := Int.mul_nonneg (by omega) (by omega)
      cases (s ^^ t)
      · exact ⟨by simp, by simpa using this⟩
      · exact ⟨by simp, by simpa using this⟩
    · have m0 : m ≠ 0 := fun e => h (by rw [e, Nat.zero_mul])
      have q0 : q ≠ 0 := fun e => h (by rw [e, Nat.mul_zero])
      obtain ⟨rfl, a1⟩ := hm m0
      obtain ⟨rfl, a2⟩ := hq q0
      have hl := log2_mul_le m0 q0
      obtain ⟨v, hv3, hle⟩ := near_le (e := i + j) (A := 12) (false ^^ false) h (by omega) (by omega) (by omega)
      rw [hv3]
      have e2 : (4096 : Int) * one32 = 2 ^ 161 := by decide
      have hle' : v ≤ 2 ^ 161 := hle
      rw [e2]
      exact ⟨by simp, by simp only [Bool.xor_false, Bool.false_eq_true, if_false]; exact_mod_cast hle'⟩
  have q2 := Int.tdiv_le_tdiv hU key.2
  rw [Int.mul_tdiv_cancel _ (by omega)] at q2
  have q1 : 0 ≤ (val .f32 d).tdiv one32 := Int.tdiv_nonneg key.1 (by omega)
  have hdn : isNan .f32 d = false := by rw [hde]; exact hnn
  refine ⟨hde, ?_, by unfold wholeW; omega⟩
  rw [floatToInt_val32 hdn (by omega) (by omega)]
  unfold wholeW
  rw [Int.toNat_of_nonneg q1]
end Go.Fk

/- 'ReadBack' of both. -/
namespace Go.Fk
open Go Go.RowKit
/-- Where a sample lies that came k samples ago. -/
def backJ (n j k : Nat) : Nat := (j + n - k) % n
theorem backJ_lt {n j k : Nat} (hn : 1 ≤ n) : backJ n j k < n := Nat.mod_lt _ (by omega)
def OutBk (x : Nat → Nat) (n j k : Nat) (w : World) (e : Ending) (w' : World) : Prop := ∃ y, e = .returned (.float .f32 y) ∧ can .f32 y = x (backJ n j k) ∧ fits .f32 y ∧ le w w'
end Go.Fk
namespace Go.Proofs.Ytmacednkpjfokaa
open Go.RowKit Go.Fk
end Go.Proofs.Ytmacednkpjfokaa

/- Tables of 257 floats: 'laws.toTable', 'laws.eqTable'. -/
namespace Go.Proofs.Ytmacednkpjfokaa
open Go.RowKit Go.Fk
end Go.Proofs.Ytmacednkpjfokaa

/- (first part) 'TableAt' of both. -/
namespace Go.Fk
open Go Go.RowKit
def geB (x : Nat) : Bool := FloatKind.f32.format.order x 0 == some .gt || FloatKind.f32.format.order x 0 == some .eq
def leB (x : Nat) : Bool := FloatKind.f32.format.order x 1065353216 == some .lt || FloatKind.f32.format.order x 1065353216 == some .eq
/-- Between two values of a table. -/
def betwW (t : Nat → Nat) (x k : Nat) : Nat := fop .add .f32 (t k) (fop .mul .f32 (fop .sub .f32 (placeW x) (floatOfInt .f32 (k : Int))) (fop .sub .f32 (t (k + 1)) (t k)))
def atW (t : Nat → Nat) (x : Nat) : Nat := if inUnit x = true then (if indexW x = 256 then can .f32 (t 256) else betwW t x (indexW x)) else 0
def atC (x : Nat) : Int := if inUnit x = true then 0 else 2
theorem betw_ofT {t : Nat → Nat} {x k p d r1 r2 r : Nat} (hx : inUnit x = true) (hX : indexW x = k) (hN : ¬k = 256) (hp : can .f32 p = placeW x) (hd : can .f32 d = fop .sub .f32 p (floatOfInt .f32 (k : Int)))
    (h1 : can .f32 r1 = fop .sub .f32 (t (k + 1)) (t k)) (h2 : can .f32 r2 = fop .mul .f32 d r1) (h3 : can .f32 r = fop .add .f32 (t k) r2) : can .f32 r = atW t x := by
  unfold atW
  rw [if_pos hx, hX, if_neg hN]
  unfold betwW
  rw [h3, ← fop_can_r .add .f32 (t k) r2, h2, ← fop_can_l .mul .f32 d, hd, ← fop_can_r .mul .f32 _ r1, h1, ← fop_can_l .sub .f32 p, hp]
theorem indexW_lt {x : Nat} (hx : inUnit x = true) (h256 : ¬indexW x = 256) : indexW x < 256 := by
  unfold indexW at *
  obtain ⟨_, h0, h1⟩ := inUnit_val hx
  have hU := one32_pos
  have h : (val .f32 x * 256).tdiv one32 ≤ (256 * one32).tdiv one32 := Int.tdiv_le_tdiv hU (by omega)
  rw [Int.mul_tdiv_cancel _ (by omega)] at h
  omega
def OutTa (t : Nat → Nat) (x : Nat) (w : World) (e : Ending) (w' : World) : Prop := ∃ r, e = .returned (.tuple #[.float .f32 r, .int .i64 (atC x)]) ∧ can .f32 r = atW t x ∧ le w w'
section
variable {P : Program} {w : World} {ops : Array Oper} {rest : List Oper} {o : Oper} {a : Act} {Q : Exit → Act → World → Prop}
theorem wpList_toInt (hg : o.guard = none) {src dst : TypeId} {x : Operand} (hop : o.op = Op.convert src dst x) {b : Nat} (hx : a.eval x = .float .f32 b) {v : Value}
    (hr : ∀ w, (convert src dst (.float .f32 b)).run P w = .ok v w) (hK : wpList P ops Q rest (a.put o.dst v) w) : wpList P ops Q (o :: rest) a w := by
  refine wpList_plain hg fun K hK' => ?_
  unfold Oper.wp
  simp [execOp, hop, hx, hr w, Result.andThen]
  exact hK' _ _ hK
end
section
variable {P : Program} {ops : Array Oper} {w : World} {K : FuncId → Array Value → Value → Prop} {Q : Act → Prop} {o : Oper} {rest : List Oper} {a : Act}
theorem wpLoose_nil' (hg : o.guard = none) {x : Operand} (hop : o.op = Op.nilCheck x) {ad : Addr} (hx : a.eval x = .pointer (some ad))
    (hK : wpLoose P ops (fun w' => ∃ m, w' = w.drewN m) K Q rest (a.put o.dst (.pointer (some ad)))) : wpLoose P ops (fun w' => ∃ m, w' = w.drewN m) K Q (o :: rest) a := by
  refine wpLoose_any hg (· = .pointer (some ad)) (fun n => ?_) (by rintro v rfl; exact hK)
  simp [execOp, hop, hx, within, Result.andThen]
  exact ⟨_, rfl⟩
end
end Go.Fk
namespace Go.Proofs.Ytmacednkpjfokaa
open Go.RowKit Go.Fk
theorem toInt_run {x p k : Nat} (hx : inUnit x = true) (hk : Hid (indexW x = k)) (hp : Hid (can .f32 p = placeW x)) : ∀ w, (convert 22 2 (.float .f32 p)).run Try.prog w = .ok (.int .i64 (k : Int)) w := by
  intro w
  have h := (place_int hx hp.out).2.1
  rw [hk.out] at h
  exact run_convert_float_int (P := Try.prog) w _ _ .f32 .i64 _ _ (by rw [Try.underlying22]; rfl) Try.underlying2 h
theorem toInt_run' {x p k : Nat} (hx : inUnit x = true) (hk : Hid (indexW x = k)) (hp : Hid (can .f32 p = placeW x)) : ∀ w, (convert 22 3 (.float .f32 p)).run Try.prog w = .ok (.int .i64 (k : Int)) w := by
  intro w
  have h := (place_int hx hp.out).2.1
  rw [hk.out] at h
  exact run_convert_float_int (P := Try.prog) w _ _ .f32 .i64 _ _ (by rw [Try.underlying22]; rfl) Try.underlying3 h
end Go.Proofs.Ytmacednkpjfokaa

/- What grows by append, beside facts of memory. Nothing here names a program. -/
namespace Go.Fk
open Go Go.RowKit
theorem ownsRow_chS {S : Nat → Prop} {w w' : World} {e : TypeId} {n B : Nat} {xs : List Value} {v : Value} (hw : Chg S w w') (h : w.ownsRow B e 1 v n xs) (hS : ∀ i, S i → i < B) : w'.ownsRow B e 1 v n xs := by
  obtain ⟨h1, h2⟩ := h
  refine ⟨h1, ?_⟩
  rcases h2 with h2 | ⟨q, cap, cur, e1, e2, e3, e4⟩
  · exact .inl h2
  · exact .inr ⟨q, cap, cur, e1, e2, by have := hw.row (g := q) (t := e) (cs := cur) e3 (fun hq => by have := hS q hq; omega); exact this, e4⟩
theorem ownBlock_ge {w : World} {B : Nat} {e : TypeId} {z : Nat} {v : Value} {n : Nat} {xs : List Value} (h : w.ownsRow B e z v n xs) : ∀ k, v.ownBlock = some k → B ≤ k := by
  rcases h.2 with ⟨rfl, _⟩ | ⟨q, cap, cur, rfl, hb, _⟩
  · intro k hk; cases hk
  · intro k hk; simp only [Value.ownBlock, Option.some.injEq] at hk; omega
theorem chg_grown {w w' : World} {row : Option Nat} {B : Nat} (h : w.grownBy w' row) (hr : ∀ k, row = some k → B ≤ k) : Chg (B ≤ ·) w w' :=
  ⟨h.os, h.tape, h.output, h.size, fun k hk hn => h.block k hk (fun e => hn (hr k e.symm))⟩
theorem Frg.up {w0 w w' : World} {L : List Fact} {B : Nat} (h : Frg w0 w L) (k : Chg (B ≤ ·) w w') (hB : ∀ e ∈ L, e.hi ≤ B) (h0 : w0.heap.size ≤ B) : Frg w0 w' L :=
  ⟨h.below.trans (k.below (fun i hi => Nat.le_trans h0 hi) h.size), fun e he => by
    obtain ⟨h1, h2, h3⟩ := h.facts e he
    exact ⟨h1, Nat.le_trans h2 k.size, e.ok w w' h3 (fun i _ hi => k.block i (by omega) (fun hb => by have := hB e he; omega))⟩, h.apart⟩
theorem flist_snoc (y : Nat → Nat) (n a : Nat) : flist y n ++ [.float .f32 a] = flist (fun j => if j = n then a else y j) (n + 1) := by
  have h := flist_app y (fun _ => a) n 1
  have h1 : flist (fun _ => a) 1 = [.float .f32 a] := by simp [flist]
  rw [h1] at h
  rw [h]
  apply List.ext_getElem?
  intro i
  by_cases hi : i < n + 1
  · rw [flist_get' _ hi, flist_get' _ hi]
    by_cases e : i = n
    · simp [e]
    · simp [e, show i < n by omega]
  · rw [List.getElem?_eq_none (by rw [flist_length]; omega), List.getElem?_eq_none (by rw [flist_length]; omega)]
theorem Frg.own2 {w0 w w' : World} {L : List Fact} {q n n' : Nat} {s s' : Value} {x x' : Nat → Nat} (h : Frg w0 w L) (k : Below w.heap.size w w') (h1 : w.heap.size ≤ q) (h2 : q ≤ w'.heap.size) (o1 : OwnS w' w.heap.size q s x n) (o2 : OwnS w' q w'.heap.size s' x' n') :
    Frg w0 w' (ownF q w'.heap.size s' x' n' :: ownF w.heap.size q s x n :: L) := by
  refine ⟨(h.le k).below, fun e he => ?_, .cons (fun e he => ?_) (.cons (fun e he => (h.facts e he).2.1) h.apart)⟩
  · rcases List.mem_cons.1 he with rfl | he
    · exact ⟨Nat.le_trans h.size h1, Nat.le_refl _, o2⟩
    · rcases List.mem_cons.1 he with rfl | he
      · exact ⟨h.size, h2, o1⟩
      · exact (h.le k).facts e he
  · rcases List.mem_cons.1 he with rfl | he
    · exact Nat.le_refl q
    · exact Nat.le_trans (h.facts e he).2.1 h1
theorem m12 {b0 b1 b2 b3 b4 b5 b6 b7 b8 b9 b10 b11 a : Fact} {l : List Fact} : a ∈ b0 :: b1 :: b2 :: b3 :: b4 :: b5 :: b6 :: b7 :: b8 :: b9 :: b10 :: b11 :: a :: l := List.mem_cons_of_mem _ (List.mem_cons_of_mem _ (List.mem_cons_of_mem _ (List.mem_cons_of_mem _ (List.mem_cons_of_mem _ (List.mem_cons_of_mem _ (List.mem_cons_of_mem _ (List.mem_cons_of_mem _ (List.mem_cons_of_mem _ (List.mem_cons_of_mem _ (List.mem_cons_of_mem _ (List.mem_cons_of_mem _ (List.mem_cons_self))))))))))))
theorem m13 {b0 b1 b2 b3 b4 b5 b6 b7 b8 b9 b10 b11 b12 a : Fact} {l : List Fact} : a ∈ b0 :: b1 :: b2 :: b3 :: b4 :: b5 :: b6 :: b7 :: b8 :: b9 :: b10 :: b11 :: b12 :: a :: l := List.mem_cons_of_mem _ (List.mem_cons_of_mem _ (List.mem_cons_of_mem _ (List.mem_cons_of_mem _ (List.mem_cons_of_mem _ (List.mem_cons_of_mem _ (List.mem_cons_of_mem _ (List.mem_cons_of_mem _ (List.mem_cons_of_mem _ (List.mem_cons_of_mem _ (List.mem_cons_of_mem _ (List.mem_cons_of_mem _ (List.mem_cons_of_mem _ (List.mem_cons_self)))))))))))))
theorem m14 {b0 b1 b2 b3 b4 b5 b6 b7 b8 b9 b10 b11 b12 b13 a : Fact} {l : List Fact} : a ∈ b0 :: b1 :: b2 :: b3 :: b4 :: b5 :: b6 :: b7 :: b8 :: b9 :: b10 :: b11 :: b12 :: b13 :: a :: l := List.mem_cons_of_mem _ (List.mem_cons_of_mem _ (List.mem_cons_of_mem _ (List.mem_cons_of_mem _ (List.mem_cons_of_mem _ (List.mem_cons_of_mem _ (List.mem_cons_of_mem _ (List.mem_cons_of_mem _ (List.mem_cons_of_mem _ (List.mem_cons_of_mem _ (List.mem_cons_of_mem _ (List.mem_cons_of_mem _ (List.mem_cons_of_mem _ (List.mem_cons_of_mem _ (List.mem_cons_self))))))))))))))
theorem m15 {b0 b1 b2 b3 b4 b5 b6 b7 b8 b9 b10 b11 b12 b13 b14 a : Fact} {l : List Fact} : a ∈ b0 :: b1 :: b2 :: b3 :: b4 :: b5 :: b6 :: b7 :: b8 :: b9 :: b10 :: b11 :: b12 :: b13 :: b14 :: a :: l := List.mem_cons_of_mem _ (List.mem_cons_of_mem _ (List.mem_cons_of_mem _ (List.mem_cons_of_mem _ (List.mem_cons_of_mem _ (List.mem_cons_of_mem _ (List.mem_cons_of_mem _ (List.mem_cons_of_mem _ (List.mem_cons_of_mem _ (List.mem_cons_of_mem _ (List.mem_cons_of_mem _ (List.mem_cons_of_mem _ (List.mem_cons_of_mem _ (List.mem_cons_of_mem _ (List.mem_cons_of_mem _ (List.mem_cons_self)))))))))))))))
theorem m16 {b0 b1 b2 b3 b4 b5 b6 b7 b8 b9 b10 b11 b12 b13 b14 b15 a : Fact} {l : List Fact} : a ∈ b0 :: b1 :: b2 :: b3 :: b4 :: b5 :: b6 :: b7 :: b8 :: b9 :: b10 :: b11 :: b12 :: b13 :: b14 :: b15 :: a :: l := List.mem_cons_of_mem _ (List.mem_cons_of_mem _ (List.mem_cons_of_mem _ (List.mem_cons_of_mem _ (List.mem_cons_of_mem _ (List.mem_cons_of_mem _ (List.mem_cons_of_mem _ (List.mem_cons_of_mem _ (List.mem_cons_of_mem _ (List.mem_cons_of_mem _ (List.mem_cons_of_mem _ (List.mem_cons_of_mem _ (List.mem_cons_of_mem _ (List.mem_cons_of_mem _ (List.mem_cons_of_mem _ (List.mem_cons_of_mem _ (List.mem_cons_self))))))))))))))))
theorem m17 {b0 b1 b2 b3 b4 b5 b6 b7 b8 b9 b10 b11 b12 b13 b14 b15 b16 a : Fact} {l : List Fact} : a ∈ b0 :: b1 :: b2 :: b3 :: b4 :: b5 :: b6 :: b7 :: b8 :: b9 :: b10 :: b11 :: b12 :: b13 :: b14 :: b15 :: b16 :: a :: l := List.mem_cons_of_mem _ (List.mem_cons_of_mem _ (List.mem_cons_of_mem _ (List.mem_cons_of_mem _ (List.mem_cons_of_mem _ (List.mem_cons_of_mem _ (List.mem_cons_of_mem _ (List.mem_cons_of_mem _ (List.mem_cons_of_mem _ (List.mem_cons_of_mem _ (List.mem_cons_of_mem _ (List.mem_cons_of_mem _ (List.mem_cons_of_mem _ (List.mem_cons_of_mem _ (List.mem_cons_of_mem _ (List.mem_cons_of_mem _ (List.mem_cons_of_mem _ (List.mem_cons_self)))))))))))))))))
theorem m18 {b0 b1 b2 b3 b4 b5 b6 b7 b8 b9 b10 b11 b12 b13 b14 b15 b16 b17 a : Fact} {l : List Fact} : a ∈ b0 :: b1 :: b2 :: b3 :: b4 :: b5 :: b6 :: b7 :: b8 :: b9 :: b10 :: b11 :: b12 :: b13 :: b14 :: b15 :: b16 :: b17 :: a :: l := List.mem_cons_of_mem _ (List.mem_cons_of_mem _ (List.mem_cons_of_mem _ (List.mem_cons_of_mem _ (List.mem_cons_of_mem _ (List.mem_cons_of_mem _ (List.mem_cons_of_mem _ (List.mem_cons_of_mem _ (List.mem_cons_of_mem _ (List.mem_cons_of_mem _ (List.mem_cons_of_mem _ (List.mem_cons_of_mem _ (List.mem_cons_of_mem _ (List.mem_cons_of_mem _ (List.mem_cons_of_mem _ (List.mem_cons_of_mem _ (List.mem_cons_of_mem _ (List.mem_cons_of_mem _ (List.mem_cons_self))))))))))))))))))
theorem m19 {b0 b1 b2 b3 b4 b5 b6 b7 b8 b9 b10 b11 b12 b13 b14 b15 b16 b17 b18 a : Fact} {l : List Fact} : a ∈ b0 :: b1 :: b2 :: b3 :: b4 :: b5 :: b6 :: b7 :: b8 :: b9 :: b10 :: b11 :: b12 :: b13 :: b14 :: b15 :: b16 :: b17 :: b18 :: a :: l := List.mem_cons_of_mem _ (List.mem_cons_of_mem _ (List.mem_cons_of_mem _ (List.mem_cons_of_mem _ (List.mem_cons_of_mem _ (List.mem_cons_of_mem _ (List.mem_cons_of_mem _ (List.mem_cons_of_mem _ (List.mem_cons_of_mem _ (List.mem_cons_of_mem _ (List.mem_cons_of_mem _ (List.mem_cons_of_mem _ (List.mem_cons_of_mem _ (List.mem_cons_of_mem _ (List.mem_cons_of_mem _ (List.mem_cons_of_mem _ (List.mem_cons_of_mem _ (List.mem_cons_of_mem _ (List.mem_cons_of_mem _ (List.mem_cons_self)))))))))))))))))))
theorem Frg.mark10 {w0 w w' : World} {lo hi n : Nat} {s : Value} {x x' : Nat → Nat} {l : List Fact} {b0 b1 b2 b3 b4 b5 b6 b7 b8 b9 : Fact} (h : Frg w0 w (b0 :: b1 :: b2 :: b3 :: b4 :: b5 :: b6 :: b7 :: b8 :: b9 :: ownF lo hi s x n :: l)) (hp : OwnS w' lo hi s x' n) (k : Chg (rng lo hi) w w') : Frg w0 w' (b0 :: b1 :: b2 :: b3 :: b4 :: b5 :: b6 :: b7 :: b8 :: b9 :: ownF lo hi s x' n :: l) :=
  Frg.chg [b0, b1, b2, b3, b4, b5, b6, b7, b8, b9] (e := ownF lo hi s x n) (e' := ownF lo hi s x' n) h k hp rfl rfl
theorem Frg.mark11 {w0 w w' : World} {lo hi n : Nat} {s : Value} {x x' : Nat → Nat} {l : List Fact} {b0 b1 b2 b3 b4 b5 b6 b7 b8 b9 b10 : Fact} (h : Frg w0 w (b0 :: b1 :: b2 :: b3 :: b4 :: b5 :: b6 :: b7 :: b8 :: b9 :: b10 :: ownF lo hi s x n :: l)) (hp : OwnS w' lo hi s x' n) (k : Chg (rng lo hi) w w') : Frg w0 w' (b0 :: b1 :: b2 :: b3 :: b4 :: b5 :: b6 :: b7 :: b8 :: b9 :: b10 :: ownF lo hi s x' n :: l) :=
  Frg.chg [b0, b1, b2, b3, b4, b5, b6, b7, b8, b9, b10] (e := ownF lo hi s x n) (e' := ownF lo hi s x' n) h k hp rfl rfl
theorem Frg.mark12 {w0 w w' : World} {lo hi n : Nat} {s : Value} {x x' : Nat → Nat} {l : List Fact} {b0 b1 b2 b3 b4 b5 b6 b7 b8 b9 b10 b11 : Fact} (h : Frg w0 w (b0 :: b1 :: b2 :: b3 :: b4 :: b5 :: b6 :: b7 :: b8 :: b9 :: b10 :: b11 :: ownF lo hi s x n :: l)) (hp : OwnS w' lo hi s x' n) (k : Chg (rng lo hi) w w') : Frg w0 w' (b0 :: b1 :: b2 :: b3 :: b4 :: b5 :: b6 :: b7 :: b8 :: b9 :: b10 :: b11 :: ownF lo hi s x' n :: l) :=
  Frg.chg [b0, b1, b2, b3, b4, b5, b6, b7, b8, b9, b10, b11] (e := ownF lo hi s x n) (e' := ownF lo hi s x' n) h k hp rfl rfl
theorem Frg.mark13 {w0 w w' : World} {lo hi n : Nat} {s : Value} {x x' : Nat → Nat} {l : List Fact} {b0 b1 b2 b3 b4 b5 b6 b7 b8 b9 b10 b11 b12 : Fact} (h : Frg w0 w (b0 :: b1 :: b2 :: b3 :: b4 :: b5 :: b6 :: b7 :: b8 :: b9 :: b10 :: b11 :: b12 :: ownF lo hi s x n :: l)) (hp : OwnS w' lo hi s x' n) (k : Chg (rng lo hi) w w') : Frg w0 w' (b0 :: b1 :: b2 :: b3 :: b4 :: b5 :: b6 :: b7 :: b8 :: b9 :: b10 :: b11 :: b12 :: ownF lo hi s x' n :: l) :=
  Frg.chg [b0, b1, b2, b3, b4, b5, b6, b7, b8, b9, b10, b11, b12] (e := ownF lo hi s x n) (e' := ownF lo hi s x' n) h k hp rfl rfl
theorem Frg.mark14 {w0 w w' : World} {lo hi n : Nat} {s : Value} {x x' : Nat → Nat} {l : List Fact} {b0 b1 b2 b3 b4 b5 b6 b7 b8 b9 b10 b11 b12 b13 : Fact} (h : Frg w0 w (b0 :: b1 :: b2 :: b3 :: b4 :: b5 :: b6 :: b7 :: b8 :: b9 :: b10 :: b11 :: b12 :: b13 :: ownF lo hi s x n :: l)) (hp : OwnS w' lo hi s x' n) (k : Chg (rng lo hi) w w') : Frg w0 w' (b0 :: b1 :: b2 :: b3 :: b4 :: b5 :: b6 :: b7 :: b8 :: b9 :: b10 :: b11 :: b12 :: b13 :: ownF lo hi s x' n :: l) :=
  Frg.chg [b0, b1, b2, b3, b4, b5, b6, b7, b8, b9, b10, b11, b12, b13] (e := ownF lo hi s x n) (e' := ownF lo hi s x' n) h k hp rfl rfl
theorem Frg.mark15 {w0 w w' : World} {lo hi n : Nat} {s : Value} {x x' : Nat → Nat} {l : List Fact} {b0 b1 b2 b3 b4 b5 b6 b7 b8 b9 b10 b11 b12 b13 b14 : Fact} (h : Frg w0 w (b0 :: b1 :: b2 :: b3 :: b4 :: b5 :: b6 :: b7 :: b8 :: b9 :: b10 :: b11 :: b12 :: b13 :: b14 :: ownF lo hi s x n :: l)) (hp : OwnS w' lo hi s x' n) (k : Chg (rng lo hi) w w') : Frg w0 w' (b0 :: b1 :: b2 :: b3 :: b4 :: b5 :: b6 :: b7 :: b8 :: b9 :: b10 :: b11 :: b12 :: b13 :: b14 :: ownF lo hi s x' n :: l) :=
  Frg.chg [b0, b1, b2, b3, b4, b5, b6, b7, b8, b9, b10, b11, b12, b13, b14] (e := ownF lo hi s x n) (e' := ownF lo hi s x' n) h k hp rfl rfl
theorem Frg.mark16 {w0 w w' : World} {lo hi n : Nat} {s : Value} {x x' : Nat → Nat} {l : List Fact} {b0 b1 b2 b3 b4 b5 b6 b7 b8 b9 b10 b11 b12 b13 b14 b15 : Fact} (h : Frg w0 w (b0 :: b1 :: b2 :: b3 :: b4 :: b5 :: b6 :: b7 :: b8 :: b9 :: b10 :: b11 :: b12 :: b13 :: b14 :: b15 :: ownF lo hi s x n :: l)) (hp : OwnS w' lo hi s x' n) (k : Chg (rng lo hi) w w') : Frg w0 w' (b0 :: b1 :: b2 :: b3 :: b4 :: b5 :: b6 :: b7 :: b8 :: b9 :: b10 :: b11 :: b12 :: b13 :: b14 :: b15 :: ownF lo hi s x' n :: l) :=
  Frg.chg [b0, b1, b2, b3, b4, b5, b6, b7, b8, b9, b10, b11, b12, b13, b14, b15] (e := ownF lo hi s x n) (e' := ownF lo hi s x' n) h k hp rfl rfl
end Go.Fk

/- Filling a list, one by one. Nothing here names a program. -/
namespace Go.Fk
open Go Go.RowKit
/-- So many outputs, then the inputs. -/
def upto (j : Nat) (h z : Nat → Nat) : Nat → Nat := fun i => if i < j then h i else z i
theorem upto_zero (h z : Nat → Nat) : upto 0 h z = z := by funext i; simp [upto]
theorem upto_set (j : Nat) (h z : Nat → Nat) (r : Nat) : (fun i => if i = j then r else upto j h z i) = upto (j + 1) (fun i => if i = j then r else h i) z := by
  funext i
  unfold upto
  by_cases e : i = j
  · subst e; simp
  · by_cases l : i < j
    · simp [e, l, show i < j + 1 by omega]
    · simp [e, l, show ¬ i < j + 1 by omega]
theorem upto_full (h z : Nat → Nat) : ftab .f32 (upto 16 h z) 16 = ftab .f32 h 16 := ftab_congr (fun j hj => if_pos hj)
end Go.Fk

/- 'BreathRamp' of both; 'between'. -/
namespace Go.Fk
open Go Go.RowKit
/-- A number that lies behind a share of the way. -/
def betwV (p q s : Nat) : Nat := fop .add .f32 p (fop .mul .f32 (fop .sub .f32 q p) s)
theorem betw_of {p q s d m r : Nat} (hd : can .f32 d = fop .sub .f32 q p) (hm : can .f32 m = fop .mul .f32 d s) (hr : can .f32 r = fop .add .f32 p m) : can .f32 r = betwV p q s := by
  rw [hr, betwV]
  refine fop_congr rfl (hm.trans ?_)
  rw [can_fop]
  exact fop_congr (hd.trans (can_fop _ _ _ _).symm) rfl
theorem betw_congr {p q s s' : Nat} (h : can .f32 s = can .f32 s') : betwV p q s = betwV p q s' := fop_congr rfl (by rw [can_fop, can_fop]; exact fop_congr rfl h)
def OutFd (v : Nat) (w : World) (e : Ending) (w' : World) : Prop := ∃ y, e = .returned (.float .f32 y) ∧ can .f32 y = v ∧ fits .f32 y ∧ ∃ n, w' = w.drewN n
theorem ownsRow_drewN {w : World} {e : TypeId} {n B : Nat} {xs : List Value} {v : Value} (h : w.ownsRow B e 1 v n xs) (m : Nat) : (w.drewN m).ownsRow B e 1 v n xs := ownsRow_chS (S := fun _ => False) (Chg.of_le (le_drewN w m)) h (fun _ k => k.elim)
def rampV (p q K j : Nat) : Nat := betwV p q (fop .quo .f32 (floatOfInt .f32 (j : Int)) (floatOfInt .f32 (K : Int)))
end Go.Fk
namespace Go.Proofs.Ytmacednkpjfokaa
open Go.RowKit Go.Fk
end Go.Proofs.Ytmacednkpjfokaa

/- 'TableAt' of the program between two numbers of its table (for code that calls 'between'). -/
namespace Go.Fk
open Go Go.RowKit
theorem fop_mul_comm (x y : Nat) : fop .mul .f32 x y = fop .mul .f32 y x := by
  have h : floatBits .mul .f32 x y = floatBits .mul .f32 y x := by
    simp only [floatBits, Ieee.Format.mul]
    cases FloatKind.f32.format.read x <;> cases FloatKind.f32.format.read y <;> simp [Ieee.Datum.product, Bool.xor_comm, Nat.mul_comm, Int.add_comm]
  unfold fop
  rw [h]
theorem betwV_congr {p q s s' : Nat} (h : can .f32 s = can .f32 s') : betwV p q s = betwV p q s' := by
  unfold betwV
  rw [fop_congr (op := .mul) (k := .f32) rfl h]
end Go.Fk
namespace Go.Proofs.Ytmacednkpjfokaa
open Go.RowKit Go.Fk
end Go.Proofs.Ytmacednkpjfokaa

/- 'TableAt' of both. -/
namespace Go.Proofs.Ytmacednkpjfokaa
open Go.RowKit Go.Fk
end Go.Proofs.Ytmacednkpjfokaa

/- 'ReadBetween' of both. -/
namespace Go.Fk
open Go Go.RowKit
/-- Is a number from 1 to a length? In two parts. -/
def ge1 (d : Nat) : Bool := FloatKind.f32.format.order d 1065353216 == some .gt || FloatKind.f32.format.order d 1065353216 == some .eq
def leN (d n : Nat) : Bool := FloatKind.f32.format.order d (floatOfInt .f32 (n : Int)) == some .lt || FloatKind.f32.format.order d (floatOfInt .f32 (n : Int)) == some .eq
def inTo (d n : Nat) : Bool := withinB d 1065353216 (floatOfInt .f32 (n : Int))
/-- What lies between two samples. -/
def betwR (x : Nat → Nat) (n j d : Nat) : Nat :=
  if (FloatKind.f32.format.order (shareW d) 0 == some .eq) = true then x (backJ n j (wholeW d))
  else fop .add .f32 (x (backJ n j (wholeW d))) (fop .mul .f32 (shareW d) (fop .sub .f32 (x (backJ n j (wholeW d + 1))) (x (backJ n j (wholeW d)))))
def BetwC (x : Nat → Nat) (n : Nat) (k : Int) (d v : Nat) (c : Int) : Prop :=
  (okRing n k = false ∧ v = 0 ∧ c = 1) ∨ (okRing n k = true ∧ inTo d n = false ∧ v = 0 ∧ c = 2) ∨ (okRing n k = true ∧ inTo d n = true ∧ v = betwR x n k.toNat d ∧ c = 0)
theorem betw_val {x : Nat → Nat} {n j d p y1 y2 r1 r2 r : Nat} (hz : (FloatKind.f32.format.order (shareW d) 0 == some .eq) = false) (hp : p = shareW d) (h1 : can .f32 y1 = x (backJ n j (wholeW d))) (h2 : can .f32 y2 = x (backJ n j (wholeW d + 1)))
    (e1 : can .f32 r1 = fop .sub .f32 y2 y1) (e2 : can .f32 r2 = fop .mul .f32 p r1) (e3 : can .f32 r = fop .add .f32 y1 r2) : can .f32 r = betwR x n j d := by
  unfold betwR
  rw [if_neg (by rw [hz]; decide), ← h1, ← h2, fop_can_l, fop_can_l .sub, fop_can_r .sub, ← hp, e3, ← fop_can_r .add .f32 y1 r2, e2, ← fop_can_r .mul .f32 p r1, e1]
theorem betw_valB {x : Nat → Nat} {n j d p y1 y2 r : Nat} (hz : (FloatKind.f32.format.order (shareW d) 0 == some .eq) = false) (hp : p = shareW d) (h1 : can .f32 y1 = x (backJ n j (wholeW d))) (h2 : can .f32 y2 = x (backJ n j (wholeW d + 1)))
    (e3 : can .f32 r = betwV y1 y2 p) : can .f32 r = betwR x n j d := by
  unfold betwR
  rw [if_neg (by rw [hz]; decide), ← h1, ← h2, fop_can_l, fop_can_l .sub, fop_can_r .sub, ← hp, e3]
  unfold betwV
  rw [fop_mul_comm (fop .sub .f32 y2 y1) p, ← fop_can_r .sub .f32 y2 y1]
end Go.Fk
namespace Go.Proofs.Ytmacednkpjfokaa
open Go.RowKit Go.Fk
theorem toI64 {d k : Nat} (h : floatToIntVal .f32 d .i64 = some (k : Int)) : ∀ w, (convert 22 2 (.float .f32 d)).run Try.prog w = .ok (.int .i64 (k : Int)) w := by
  intro w
  exact run_convert_float_int (P := Try.prog) w _ _ .f32 .i64 _ _ (by rw [Try.underlying22]; rfl) Try.underlying2 h
end Go.Proofs.Ytmacednkpjfokaa

/- 'StrikeString' of both. -/
namespace Go.Fk
open Go Go.RowKit
/-- From which sample on a hammer strikes. -/
def kSt (n pl : Nat) : Nat := wholeW (fop .mul .f32 pl (floatOfInt .f32 (n : Int)))
theorem finB_can {x y : Nat → Nat} {n : Nat} (h : ∀ i, i < n → can .f32 (y i) = x i) : finB y n = finB x n := by
  cases hb : finB x n
  · obtain ⟨i, hi, hf⟩ := finB_ex hb
    exact finB_no (f := y) (i := i) hi ((fin_can (show can .f32 (y i) = can .f32 (x i) by rw [← h i hi, can_can])).trans hf)
  · exact finB_yes (f := y) (fun i hi => (fin_can (show can .f32 (y i) = can .f32 (x i) by rw [← h i hi, can_can])).trans (finB_all hb i hi))
theorem place_ok {pl : Nat} (h : placeB pl = true) : isNan .f32 pl = false ∧ 0 ≤ val .f32 pl ∧ val .f32 pl ≤ 2 ^ 149 := by
  have h1 : withinB pl 0 1065353216 = true := by
    unfold placeB at h
    unfold withinB
    rw [Bool.and_eq_true] at h ⊢
    exact ⟨h.1, by rw [h.2]; rfl⟩
  obtain ⟨a, b, c⟩ := within_val val_zero.2 val_one.2 h1
  rw [val_zero.1] at b
  rw [val_one.1] at c
  exact ⟨a, b, c⟩
end Go.Fk
namespace Go.Proofs.Ytmacednkpjfokaa
open Go.RowKit Go.Fk
theorem i_areFiniteR (B : Nat) (s : Value) (x : Nat → Nat) (n : Nat) (w : World) (hs : RdS w B s x n) : Calls Try.prog 74 #[s] w fun e w' => e = .returned (.bool (finB x n)) ∧ w = w' := by
  by_cases h0 : n = 0
  · subst h0
    rcases hs with ⟨rfl, _⟩ | ⟨a, cap, rfl, h2, h3, h4⟩
    · exact i_areFinite_nil x w
    · exact i_areFinite x a 0 cap w (by omega) (fun i hi => absurd hi (by omega)) (fun i hi => absurd hi (by omega))
  · have hsm := hs.small
    obtain ⟨a, cap, y, rfl, hc, hm, hx⟩ := hs.raw (by omega)
    rw [← finB_can (fun i hi => (hx i hi).2.2)]
    exact i_areFinite y a n cap w hsm (fun i hi => (hx i hi).2.1) (fun i hi => (hx i hi).1)
theorem toInt2 {d k : Nat} (h : floatToIntVal .f32 d .i64 = some (k : Int)) : ∀ w, (convert 22 3 (.float .f32 d)).run Try.prog w = .ok (.int .i64 (k : Int)) w := by
  intro w
  exact run_convert_float_int (P := Try.prog) w _ _ .f32 .i64 _ _ (by rw [Try.underlying22]; rfl) Try.underlying3 h
set_option maxRecDepth 100000 in
set_option maxHeartbeats 4000000 in
theorem i_str1 (B2 : Nat) (u2 : Value) (x2 : Nat → Nat) (mh k i bh bk : Nat) (w : World) (hs : RdS w B2 u2 x2 mh) (h1 : k ≤ i) (h2 : i - k < mh) (h3 : i ≤ 8192) (Rh : Row w bh 40 #[u2]) (Rk : Row w bk 3 #[.int .i64 (k : Nat)]) :
    Calls Try.prog 75 #[.int .i64 (i : Nat), .pointer (some ⟨bh, 0, none⟩), .pointer (some ⟨bk, 0, none⟩)] w fun e w' => ∃ r, e = .returned (.float .f32 r) ∧ (can .f32 r = can .f32 (x2 (i - k)) ∧ fits .f32 r) ∧ ∃ m, w' = w.drewN m := by
  obtain ⟨a, cap, y, rfl, hc, hm, hx⟩ := hs.raw (by omega)
  unfold maxLen at hm
  have c0 := Rh.cell? 0
  have c1 := Rk.cell? 0
  obtain ⟨j, rfl⟩ : ∃ j, i = k + j := ⟨i - k, by omega⟩
  rw [Nat.add_sub_cancel_left] at h2 ⊢
  obtain ⟨cj, fj, ej⟩ := hx j h2
  have EJ := hid ej
  have FJ := hid fj
  clear hx ej fj hs Rh Rk
  go_enter Try.func75, Try.ntmps75
  go_wp2
  go_ret
  exact ⟨y j, rfl, ⟨by rw [← EJ.out, can_can], FJ.out⟩, 0, rfl⟩
set_option maxRecDepth 100000 in
set_option maxHeartbeats 4000000 in
theorem i_StrikeString_no (B : Nat) (s : Value) (x : Nat → Nat) (n : Nat) (k tk : Int) (ta tb tc tx ty : Nat) (dk : Int) (da db dc dx dy l : Nat) (pl : Nat) (B2 : Nat) (u2 : Value) (x2 : Nat → Nat) (mh : Nat) (w : World) (hs : RdS w B s x n) (H2 : RdS w B2 u2 x2 mh) (hf : fits .f32 ta ∧ fits .f32 tb ∧ fits .f32 tc ∧ fits .f32 tx ∧ fits .f32 ty) (hg : fits .f32 da ∧ fits .f32 db ∧ fits .f32 dc ∧ fits .f32 dx ∧ fits .f32 dy) (hl2 : fits .f32 l) (hv : okStr n k tk ta tb tc tx ty dk da db dc dx dy l = false) :
    Calls Try.prog 30 #[.agg #[s, .int .i64 k, .int .i64 tk, .float .f32 ta, .float .f32 tb, .float .f32 tc, .float .f32 tx, .float .f32 ty, .int .i64 dk, .float .f32 da, .float .f32 db, .float .f32 dc, .float .f32 dx, .float .f32 dy, .float .f32 l], .float .f32 pl, u2] w (Out_si (fun _ => 0) 0 0 0 0 0 0 0 0 0 0 0 0 0 0 0 1 w) := by
  have HV := hid (fun (w' : World) (hl : le w w') => hv ▸ i_ValidStringR B s x n k tk ta tb tc tx ty dk da db dc dx dy l w' (hs.le hl) hf hg hl2)
  have F := (((Frg.nil w).box 48 #[s, .int .i64 k, .int .i64 tk, .float .f32 ta, .float .f32 tb, .float .f32 tc, .float .f32 tx, .float .f32 ty, .int .i64 dk, .float .f32 da, .float .f32 db, .float .f32 dc, .float .f32 dx, .float .f32 dy, .float .f32 l]).box 40 #[u2]).box 48 #[.slice none 0 0, .int .i64 0, .int .i64 0, .float .f32 0, .float .f32 0, .float .f32 0, .float .f32 0, .float .f32 0, .int .i64 0, .float .f32 0, .float .f32 0, .float .f32 0, .float .f32 0, .float .f32 0, .float .f32 0]
  simp only [World.size_alloc] at F
  have OH := hid (RdS.one H2)
  clear hs hv hf hg hl2
  go_enter Try.func30, Try.ntmps30
  go_wp2_with (first | ((with_reducible refine at_loadU rfl rfl ?_); (with_reducible refine wpList_loadG F rfl rfl rfl (by first | exact m0 | exact m1 | exact m2 | exact m3 | exact m4 | exact m5) Try.underlying48 rfl infoStr rfl ?_)) | (go_at_call 66; ((with_reducible refine (HV.out _ F.below).mono ?_); rintro e w1 ⟨rfl, hl⟩; replace F := F.le hl; clear hl)) | ((with_reducible refine stop_store rfl ?_)))
  show wpList _ _ _ _ _ _
  refine wpList_storeD rfl rfl rfl (cells := #[.slice none 0 0, .int .i64 0, .int .i64 0, .float .f32 0, .float .f32 0, .float .f32 0, .float .f32 0, .float .f32 0, .int .i64 0, .float .f32 0, .float .f32 0, .float .f32 0, .float .f32 0, .float .f32 0, .float .f32 0]) rfl (F.row m0) infoStr rfl (by simp [Value.oneCell']) (fun w4 K => ?_)
  have R := hid K.row
  have L := hid (F.wr0 K).below
  clear K F
  go_wp2
  exact bodyPost_ret (results_row2 rfl _ _ _ _ _ rfl R.out Try.underlying48 rfl infoStr) rfl ⟨_, rfl, .inl ⟨rfl, rfl⟩, L.out⟩
set_option maxRecDepth 100000 in
set_option maxHeartbeats 4000000 in
theorem i_StrikeString_out (B : Nat) (s : Value) (q : StS) (pl : Nat) (B2 : Nat) (u2 : Value) (x2 : Nat → Nat) (mh : Nat) (w : World) (hs : RdS w B s q.x q.n) (H2 : RdS w B2 u2 x2 mh) (ok : q.Ok) (hv : okStr q.n (q.j : Nat) 3 q.ta q.tb q.tc q.tx q.ty 2 q.da q.db q.dc q.dx q.dy q.l = true) (hp : (placeB pl && finB x2 mh) = false) :
    Calls Try.prog 30 #[.agg #[s, .int .i64 (q.j : Nat), .int .i64 3, .float .f32 (q.ta), .float .f32 (q.tb), .float .f32 (q.tc), .float .f32 (q.tx), .float .f32 (q.ty), .int .i64 2, .float .f32 (q.da), .float .f32 (q.db), .float .f32 (q.dc), .float .f32 (q.dx), .float .f32 (q.dy), .float .f32 (q.l)], .float .f32 pl, u2] w (Out_si (fun _ => 0) 0 0 0 0 0 0 0 0 0 0 0 0 0 0 0 2 w) := by
  have HV := hid (fun (w' : World) (hl : le w w') => hv ▸ i_ValidStringR B s q.x q.n (q.j : Nat) 3 q.ta q.tb q.tc q.tx q.ty 2 q.da q.db q.dc q.dx q.dy q.l w' (hs.le hl) ⟨ok.fta, ok.ftb, ok.ftc, ok.ftx, ok.fty⟩ ⟨ok.fda, ok.fdb, ok.fdc, ok.fdx, ok.fdy⟩ ok.fl)
  have HPL := hid (fun (w : World) => i_isPlace pl w)
  have HFI := hid (fun (w' : World) (hl : le w w') => i_areFiniteR B2 u2 x2 mh w' (H2.le hl))
  clear hs hv ok
  cases h1 : placeB pl
  · rw [h1] at HPL
    clear hp h1 HFI
    have F := (((Frg.nil w).box 48 #[s, .int .i64 (q.j : Nat), .int .i64 3, .float .f32 (q.ta), .float .f32 (q.tb), .float .f32 (q.tc), .float .f32 (q.tx), .float .f32 (q.ty), .int .i64 2, .float .f32 (q.da), .float .f32 (q.db), .float .f32 (q.dc), .float .f32 (q.dx), .float .f32 (q.dy), .float .f32 (q.l)]).box 40 #[u2]).box 48 #[.slice none 0 0, .int .i64 0, .int .i64 0, .float .f32 0, .float .f32 0, .float .f32 0, .float .f32 0, .float .f32 0, .int .i64 0, .float .f32 0, .float .f32 0, .float .f32 0, .float .f32 0, .float .f32 0, .float .f32 0]
    simp only [World.size_alloc] at F
    have OH := hid (RdS.one H2)
    go_enter Try.func30, Try.ntmps30
    go_wp2_with (first | ((with_reducible refine at_loadU rfl rfl ?_); (with_reducible refine wpList_loadG F rfl rfl rfl (by first | exact m0 | exact m1 | exact m2 | exact m3 | exact m4 | exact m5) Try.underlying48 rfl infoStr rfl ?_)) | (go_at_call 66; ((with_reducible refine (HV.out _ F.below).mono ?_); rintro e w1 ⟨rfl, hl⟩; replace F := F.le hl; clear hl; have ch := (F.row (g := w.heap.size + 1) m1).cell? 0)) | (go_at_call 67; ((with_reducible refine (HPL.out _).mono ?_); rintro e w8 ⟨rfl, rfl⟩)) | (go_at_call 74; ((with_reducible refine (HFI.out _ F.below).mono ?_); rintro e w8 ⟨rfl, rfl⟩)) | ((with_reducible refine stop_store rfl ?_)))
    show wpList _ _ _ _ _ _
    refine wpList_storeD rfl rfl rfl (cells := #[.slice none 0 0, .int .i64 0, .int .i64 0, .float .f32 0, .float .f32 0, .float .f32 0, .float .f32 0, .float .f32 0, .int .i64 0, .float .f32 0, .float .f32 0, .float .f32 0, .float .f32 0, .float .f32 0, .float .f32 0]) rfl (F.row m0) infoStr rfl (by simp [Value.oneCell']) (fun w4 K => ?_)
    have R := hid K.row
    have L := hid (F.wr0 K).below
    clear K F
    go_wp2
    exact bodyPost_ret (results_row2 rfl _ _ _ _ _ rfl R.out Try.underlying48 rfl infoStr) rfl ⟨_, rfl, .inl ⟨rfl, rfl⟩, L.out⟩
  · have h2 : finB x2 mh = false := by rw [h1] at hp; simpa using hp
    rw [h1] at HPL
    rw [h2] at HFI
    clear hp h1 h2
    have F := (((Frg.nil w).box 48 #[s, .int .i64 (q.j : Nat), .int .i64 3, .float .f32 (q.ta), .float .f32 (q.tb), .float .f32 (q.tc), .float .f32 (q.tx), .float .f32 (q.ty), .int .i64 2, .float .f32 (q.da), .float .f32 (q.db), .float .f32 (q.dc), .float .f32 (q.dx), .float .f32 (q.dy), .float .f32 (q.l)]).box 40 #[u2]).box 48 #[.slice none 0 0, .int .i64 0, .int .i64 0, .float .f32 0, .float .f32 0, .float .f32 0, .float .f32 0, .float .f32 0, .int .i64 0, .float .f32 0, .float .f32 0, .float .f32 0, .float .f32 0, .float .f32 0, .float .f32 0]
    simp only [World.size_alloc] at F
    have OH := hid (RdS.one H2)
    go_enter Try.func30, Try.ntmps30
    go_wp2_with (first | ((with_reducible refine at_loadU rfl rfl ?_); (with_reducible refine wpList_loadG F rfl rfl rfl (by first | exact m0 | exact m1 | exact m2 | exact m3 | exact m4 | exact m5) Try.underlying48 rfl infoStr rfl ?_)) | (go_at_call 66; ((with_reducible refine (HV.out _ F.below).mono ?_); rintro e w1 ⟨rfl, hl⟩; replace F := F.le hl; clear hl; have ch := (F.row (g := w.heap.size + 1) m1).cell? 0)) | (go_at_call 67; ((with_reducible refine (HPL.out _).mono ?_); rintro e w8 ⟨rfl, rfl⟩)) | (go_at_call 74; ((with_reducible refine (HFI.out _ F.below).mono ?_); rintro e w8 ⟨rfl, rfl⟩)) | ((with_reducible refine stop_store rfl ?_)))
    show wpList _ _ _ _ _ _
    refine wpList_storeD rfl rfl rfl (cells := #[.slice none 0 0, .int .i64 0, .int .i64 0, .float .f32 0, .float .f32 0, .float .f32 0, .float .f32 0, .float .f32 0, .int .i64 0, .float .f32 0, .float .f32 0, .float .f32 0, .float .f32 0, .float .f32 0, .float .f32 0]) rfl (F.row m0) infoStr rfl (by simp [Value.oneCell']) (fun w4 K => ?_)
    have R := hid K.row
    have L := hid (F.wr0 K).below
    clear K F
    go_wp2
    exact bodyPost_ret (results_row2 rfl _ _ _ _ _ rfl R.out Try.underlying48 rfl infoStr) rfl ⟨_, rfl, .inl ⟨rfl, rfl⟩, L.out⟩
set_option maxRecDepth 100000 in
set_option maxHeartbeats 4000000 in
theorem i_StrikeString_yes (B : Nat) (s : Value) (q : StS) (pl : Nat) (B2 : Nat) (u2 : Value) (x2 : Nat → Nat) (mh : Nat) (w : World) (hs : RdS w B s q.x q.n) (H2 : RdS w B2 u2 x2 mh) (ok : q.Ok) (hv : okStr q.n (q.j : Nat) 3 q.ta q.tb q.tc q.tx q.ty 2 q.da q.db q.dc q.dx q.dy q.l = true) (hp : (placeB pl && finB x2 mh) = true) :
    Calls Try.prog 30 #[.agg #[s, .int .i64 (q.j : Nat), .int .i64 3, .float .f32 (q.ta), .float .f32 (q.tb), .float .f32 (q.tc), .float .f32 (q.tx), .float .f32 (q.ty), .int .i64 2, .float .f32 (q.da), .float .f32 (q.db), .float .f32 (q.dc), .float .f32 (q.dx), .float .f32 (q.dy), .float .f32 (q.l)], .float .f32 pl, u2] w (Out_si (addN q.x q.n q.j (fun i => x2 (i - kSt q.n pl)) (kSt q.n pl) (min (q.n - kSt q.n pl) mh)) q.n (q.j : Nat) 3 q.ta q.tb q.tc q.tx q.ty 2 q.da q.db q.dc q.dx q.dy q.l 0 w) := by
  have HV := hid (fun (w' : World) (hl : le w w') => hv ▸ i_ValidStringR B s q.x q.n (q.j : Nat) 3 q.ta q.tb q.tc q.tx q.ty 2 q.da q.db q.dc q.dx q.dy q.l w' (hs.le hl) ⟨ok.fta, ok.ftb, ok.ftc, ok.ftx, ok.fty⟩ ⟨ok.fda, ok.fdb, ok.fdc, ok.fdx, ok.fdy⟩ ok.fl)
  have HPL := hid (fun (w : World) => i_isPlace pl w)
  have HFI := hid (fun (w' : World) (hl : le w w') => i_areFiniteR B2 u2 x2 mh w' (H2.le hl))
  have n1 := ok.n1
  have n2 := ok.n2
  have hp2 := Bool.and_eq_true_iff.1 hp
  rw [hp2.1] at HPL
  rw [hp2.2] at HFI
  have hsm := H2.small
  obtain ⟨po1, po2, po3⟩ := place_ok hp2.1
  have HD := hid (fun (d : Nat) (hd : Hid (can .f32 d = fop .mul .f32 pl (floatOfInt .f32 (q.n : Int)))) => (mult_int po1 po2 po3 n2 hd.out).1)
  obtain ⟨_, hi, hk⟩ := mult_int po1 po2 po3 n2 (can_fop _ _ _ _ : can .f32 (fop .mul .f32 pl (floatOfInt .f32 (q.n : Int))) = fop .mul .f32 pl (floatOfInt .f32 (q.n : Int)))
  have HI := hid (toInt2 hi)
  have HZ2 := hid H2
  have HW := hid (fun (w' : World) (hl : le w w') (bh bk k : Nat) (c : Int) (hk : k = kSt q.n pl) (hk2 : k ≤ 4096) (hc : c = min ((q.n : Int) - k) mh) (Rh : Row w' bh 40 #[u2]) (Rk : Row w' bk 3 #[.int .i64 (k : Nat)]) => i_withAdded_str B s q k (min (q.n - k) mh) c (fun i => x2 (i - k)) (.pointer (some ⟨bh, 0, none⟩)) (.pointer (some ⟨bk, 0, none⟩)) w' (hs.le hl) ok ⟨hk2, by omega⟩ ⟨by omega, by omega⟩ (fun w'' i hl2 hi1 hi2 => i_str1 B2 u2 x2 mh k i bh bk w'' (H2.le (le_trans hl hl2)) hi1 (by omega) (by omega) (Rh.le hl2) (Rk.le hl2)))
  obtain ⟨a0, cap, y0, rfl, hc, hm, _⟩ := hs.raw n1
  unfold maxLen at hm
  have HK : Hid (kSt q.n pl = wholeW (fop .mul .f32 pl (floatOfInt .f32 (q.n : Int)))) := rfl
  generalize kSt q.n pl = kk at *
  generalize wholeW (fop .mul .f32 pl (floatOfInt .f32 (q.n : Int))) = kw at *
  obtain rfl : kk = kw := HK.out
  clear hs hv ok hp hp2 po1 po2 po3 hi HK
  have F := (((Frg.nil w).box 48 #[(.slice (some a0) q.n cap), .int .i64 (q.j : Nat), .int .i64 3, .float .f32 (q.ta), .float .f32 (q.tb), .float .f32 (q.tc), .float .f32 (q.tx), .float .f32 (q.ty), .int .i64 2, .float .f32 (q.da), .float .f32 (q.db), .float .f32 (q.dc), .float .f32 (q.dx), .float .f32 (q.dy), .float .f32 (q.l)]).box 40 #[u2]).box 48 #[.slice none 0 0, .int .i64 0, .int .i64 0, .float .f32 0, .float .f32 0, .float .f32 0, .float .f32 0, .float .f32 0, .int .i64 0, .float .f32 0, .float .f32 0, .float .f32 0, .float .f32 0, .float .f32 0, .float .f32 0]
  simp only [World.size_alloc] at F
  have OH := hid (RdS.one H2)
  clear H2
  go_enter Try.func30, Try.ntmps30
  go_wp2_with (first | ((with_reducible refine at_loadU (ty := 48) rfl rfl ?_); first | (with_reducible refine wpList_loadG F rfl rfl rfl (by first | exact m0 | exact m1 | exact m2 | exact m3 | exact m4 | exact m5) Try.underlying48 rfl infoStr rfl ?_) | (replace F := F.box 3 #[.int .i64 (kk : Nat)]; simp only [World.heap_drewN] at F; have ck := (F.row m0).cell? 0; have ch := (F.row (g := w.heap.size + 1) m2).cell? 0; (with_reducible refine wpList_loadG F rfl rfl rfl (by first | exact m0 | exact m1 | exact m2 | exact m3 | exact m4 | exact m5) Try.underlying48 rfl infoStr rfl ?_))) | (go_at_call 66; ((with_reducible refine (HV.out _ F.below).mono ?_); rintro e w1 ⟨rfl, hl⟩; replace F := F.le hl; clear hl; have c0 := (F.row (g := w.heap.size) m2).cell? 0; have ch := (F.row (g := w.heap.size + 1) m1).cell? 0)) | (go_at_call 67; ((with_reducible refine (HPL.out _).mono ?_); rintro e w8 ⟨rfl, rfl⟩)) | (go_at_call 74; ((with_reducible refine (HFI.out _ F.below).mono ?_); rintro e w8 ⟨rfl, rfl⟩)) | (with_reducible refine wpList_farith (op := .mul) rfl rfl rfl rfl rfl ?_; intro d n1' hd fd; rw [HD.out d hd]; replace F := F.drewN n1'; clear ch c0) | (with_reducible refine wpList_toInt rfl rfl rfl HI.out ?_) | (with_reducible refine wpList_lenR rfl rfl rfl Try.underlying40 HZ2.out ?_) | ((with_reducible refine stop_store (ty := 3) rfl ?_)))
  show wpList _ _ _ _ _ _
  replace F := F.box 3 #[.int .i64 0]
  simp only [World.heap_drewN] at F
  have f0 := (F.row m0).frozen 0
  have k0 := (F.row m0).cell? 0
  go_wp2_with (first | ((with_reducible refine at_loadU (ty := 48) rfl rfl ?_); replace F := (show Frg _ _ (rowF _ _ #[.int .i64 (kk : Nat)] :: _) from F.set0 0 (.int .i64 (kk : Nat))); clear f0 k0; have ck := (F.row m0).cell? 0; have ch := (F.row (g := w.heap.size + 1) m2).cell? 0; (with_reducible refine wpList_loadG F rfl rfl rfl (by first | exact m0 | exact m1 | exact m2 | exact m3 | exact m4 | exact m5) Try.underlying48 rfl infoStr rfl ?_)) | (with_reducible refine wpList_lenR rfl rfl rfl Try.underlying40 HZ2.out ?_))
  all_goals
    have fz := hid (F.facts (rowF (w.heap.size + 1 + 1) 48 #[.slice none 0 0, .int .i64 0, .int .i64 0, .float .f32 0, .float .f32 0, .float .f32 0, .float .f32 0, .float .f32 0, .int .i64 0, .float .f32 0, .float .f32 0, .float .f32 0, .float .f32 0, .float .f32 0, .float .f32 0]) m1).2.1
    refine (HW.out _ F.below (w.heap.size + 1) w1.heap.size kk _ rfl hk (by omega) (F.row m2) (F.row m0)).mono ?_
    rintro e w5 ⟨s', rfl, ho, hl⟩
    have O5 := hid ho
    have OC5 := hid (OwnS.one ho)
    replace F := F.le hl
    clear ho hl ck ch
    go_wp2_with ((with_reducible refine stop_store (ty := 48) rfl ?_))
    show wpList _ _ _ _ _ _
    refine wpList_storeD rfl rfl rfl (cells := #[s', .int .i64 (q.j : Nat), .int .i64 3, .float .f32 (q.ta), .float .f32 (q.tb), .float .f32 (q.tc), .float .f32 (q.tx), .float .f32 (q.ty), .int .i64 2, .float .f32 (q.da), .float .f32 (q.db), .float .f32 (q.dc), .float .f32 (q.dx), .float .f32 (q.dy), .float .f32 (q.l)]) rfl (F.row m1) infoStr rfl (one_head OC5.out rfl) (fun w6 K => ?_)
    have RW := hid K.row
    have hcg : Chg (· = w.heap.size + 1 + 1) _ w6 := (Chg.refl _ _).wrote K rfl
    have L := hid (F.wr1 K).below
    have O6 := hid ((OwnS.chgS O5.out hcg (fun i a b e => by have e' : i = w.heap.size + 1 + 1 := e; have := fz.out; simp only [rowF] at this; omega)).mono (lo' := w.heap.size) (hi' := w6.heap.size) (by have := fz.out; simp only [rowF] at this; omega) hcg.size)
    clear hcg K F
    go_wp2
    exact bodyPost_ret (results_row2 rfl _ _ _ _ _ rfl RW.out Try.underlying48 rfl infoStr) rfl ⟨_, rfl, O6.out, L.out⟩
set_option maxRecDepth 100000 in
set_option maxHeartbeats 4000000 in
theorem s_StrikeString_no (B : Nat) (s : Value) (x : Nat → Nat) (n : Nat) (k tk : Int) (ta tb tc tx ty : Nat) (dk : Int) (da db dc dx dy l : Nat) (pl : Nat) (B2 : Nat) (u2 : Value) (x2 : Nat → Nat) (mh : Nat) (w : World) (hs : RdS w B s x n) (hk : (Lit.int .i64 k).wf = true) (hv : okStr n k tk ta tb tc tx ty dk da db dc dx dy l = false) :
    Calls Try.prog 28 #[.agg #[s, .int .i64 k, .int .i64 tk, .float .f32 ta, .float .f32 tb, .float .f32 tc, .float .f32 tx, .float .f32 ty, .int .i64 dk, .float .f32 da, .float .f32 db, .float .f32 dc, .float .f32 dx, .float .f32 dy, .float .f32 l], .float .f32 pl, u2] w (Out_si (fun _ => 0) 0 0 0 0 0 0 0 0 0 0 0 0 0 0 0 1 w) := by
  have HV := hid (fun (w' : World) (g : Nat) (hl : le w w') (R : Row w' g 48 #[s, .int .i64 k, .int .i64 tk, .float .f32 ta, .float .f32 tb, .float .f32 tc, .float .f32 tx, .float .f32 ty, .int .i64 dk, .float .f32 da, .float .f32 db, .float .f32 dc, .float .f32 dx, .float .f32 dy, .float .f32 l]) => hv ▸ s_l03Ok B s x n k tk ta tb tc tx ty dk da db dc dx dy l g w' (hs.le hl) R hk)
  clear hs hk hv
  have F := ((Frg.nil w).box 48 #[s, .int .i64 k, .int .i64 tk, .float .f32 ta, .float .f32 tb, .float .f32 tc, .float .f32 tx, .float .f32 ty, .int .i64 dk, .float .f32 da, .float .f32 db, .float .f32 dc, .float .f32 dx, .float .f32 dy, .float .f32 l]).box 48 #[.slice none 0 0, .int .i64 0, .int .i64 0, .float .f32 0, .float .f32 0, .float .f32 0, .float .f32 0, .float .f32 0, .int .i64 0, .float .f32 0, .float .f32 0, .float .f32 0, .float .f32 0, .float .f32 0, .float .f32 0]
  simp only [World.size_alloc] at F
  go_enter Try.func28, Try.ntmps28
  go_wp2_with (first | (go_at_call 61; ((with_reducible refine (HV.out _ _ F.below (F.row (by first | exact m0 | exact m1 | exact m2 | exact m3 | exact m4 | exact m5))).mono ?_); rintro e w1 ⟨rfl, m, rfl⟩; replace F := F.drewN m)) | ((with_reducible refine stop_store rfl ?_)))
  show wpList _ _ _ _ _ _
  refine wpList_storeD rfl rfl rfl (cells := #[.slice none 0 0, .int .i64 0, .int .i64 0, .float .f32 0, .float .f32 0, .float .f32 0, .float .f32 0, .float .f32 0, .int .i64 0, .float .f32 0, .float .f32 0, .float .f32 0, .float .f32 0, .float .f32 0, .float .f32 0]) rfl (F.row m0) infoStr rfl (by simp [Value.oneCell']) (fun w4 K => ?_)
  have R := hid K.row
  have L := hid (F.wr0 K).below
  clear K F
  go_wp2
  exact bodyPost_ret (results_row2 rfl _ _ _ _ _ rfl R.out Try.underlying48 rfl infoStr) rfl ⟨_, rfl, .inl ⟨rfl, rfl⟩, L.out⟩
set_option maxRecDepth 100000 in
set_option maxHeartbeats 4000000 in
theorem s_StrikeString_out (B : Nat) (s : Value) (q : StS) (pl : Nat) (B2 : Nat) (u2 : Value) (x2 : Nat → Nat) (mh : Nat) (w : World) (hs : RdS w B s q.x q.n) (H2 : RdS w B2 u2 x2 mh) (ok : q.Ok) (hk : (Lit.int .i64 (q.j : Nat)).wf = true) (hv : okStr q.n (q.j : Nat) 3 q.ta q.tb q.tc q.tx q.ty 2 q.da q.db q.dc q.dx q.dy q.l = true) (hp : (placeB pl && finB x2 mh) = false) :
    Calls Try.prog 28 #[.agg #[s, .int .i64 (q.j : Nat), .int .i64 3, .float .f32 (q.ta), .float .f32 (q.tb), .float .f32 (q.tc), .float .f32 (q.tx), .float .f32 (q.ty), .int .i64 2, .float .f32 (q.da), .float .f32 (q.db), .float .f32 (q.dc), .float .f32 (q.dx), .float .f32 (q.dy), .float .f32 (q.l)], .float .f32 pl, u2] w (Out_si (fun _ => 0) 0 0 0 0 0 0 0 0 0 0 0 0 0 0 0 2 w) := by
  have HV := hid (fun (w' : World) (g : Nat) (hl : le w w') (R : Row w' g 48 #[s, .int .i64 (q.j : Nat), .int .i64 3, .float .f32 (q.ta), .float .f32 (q.tb), .float .f32 (q.tc), .float .f32 (q.tx), .float .f32 (q.ty), .int .i64 2, .float .f32 (q.da), .float .f32 (q.db), .float .f32 (q.dc), .float .f32 (q.dx), .float .f32 (q.dy), .float .f32 (q.l)]) => hv ▸ s_l03Ok B s q.x q.n (q.j : Nat) 3 q.ta q.tb q.tc q.tx q.ty 2 q.da q.db q.dc q.dx q.dy q.l g w' (hs.le hl) R hk)
  have hsm := H2.small
  have HZ2 := hid H2
  clear hs hk hv ok H2
  unfold placeB at hp
  cases h1 : (FloatKind.f32.format.order pl 0 == some .gt || FloatKind.f32.format.order pl 0 == some .eq)
  · clear hp HZ2
    have F := ((Frg.nil w).box 48 #[s, .int .i64 (q.j : Nat), .int .i64 3, .float .f32 (q.ta), .float .f32 (q.tb), .float .f32 (q.tc), .float .f32 (q.tx), .float .f32 (q.ty), .int .i64 2, .float .f32 (q.da), .float .f32 (q.db), .float .f32 (q.dc), .float .f32 (q.dx), .float .f32 (q.dy), .float .f32 (q.l)]).box 48 #[.slice none 0 0, .int .i64 0, .int .i64 0, .float .f32 0, .float .f32 0, .float .f32 0, .float .f32 0, .float .f32 0, .int .i64 0, .float .f32 0, .float .f32 0, .float .f32 0, .float .f32 0, .float .f32 0, .float .f32 0]
    simp only [World.size_alloc] at F
    go_enter Try.func28, Try.ntmps28
    go_wp2_with (first | (go_at_call 61; ((with_reducible refine (HV.out _ _ F.below (F.row (by first | exact m0 | exact m1 | exact m2 | exact m3 | exact m4 | exact m5))).mono ?_); rintro e w1 ⟨rfl, m, rfl⟩; replace F := F.drewN m)) | ((with_reducible refine stop_store rfl ?_)))
    show wpList _ _ _ _ _ _
    refine wpList_storeD rfl rfl rfl (cells := #[.slice none 0 0, .int .i64 0, .int .i64 0, .float .f32 0, .float .f32 0, .float .f32 0, .float .f32 0, .float .f32 0, .int .i64 0, .float .f32 0, .float .f32 0, .float .f32 0, .float .f32 0, .float .f32 0, .float .f32 0]) rfl (F.row m0) infoStr rfl (by simp [Value.oneCell']) (fun w4 K => ?_)
    have R := hid K.row
    have L := hid (F.wr0 K).below
    clear K F
    go_wp2
    exact bodyPost_ret (results_row2 rfl _ _ _ _ _ rfl R.out Try.underlying48 rfl infoStr) rfl ⟨_, rfl, .inl ⟨rfl, rfl⟩, L.out⟩
  · cases h2 : (FloatKind.f32.format.order pl 1065353216 == some .lt)
    · clear hp HZ2
      have F := ((Frg.nil w).box 48 #[s, .int .i64 (q.j : Nat), .int .i64 3, .float .f32 (q.ta), .float .f32 (q.tb), .float .f32 (q.tc), .float .f32 (q.tx), .float .f32 (q.ty), .int .i64 2, .float .f32 (q.da), .float .f32 (q.db), .float .f32 (q.dc), .float .f32 (q.dx), .float .f32 (q.dy), .float .f32 (q.l)]).box 48 #[.slice none 0 0, .int .i64 0, .int .i64 0, .float .f32 0, .float .f32 0, .float .f32 0, .float .f32 0, .float .f32 0, .int .i64 0, .float .f32 0, .float .f32 0, .float .f32 0, .float .f32 0, .float .f32 0, .float .f32 0]
      simp only [World.size_alloc] at F
      go_enter Try.func28, Try.ntmps28
      go_wp2_with (first | (go_at_call 61; ((with_reducible refine (HV.out _ _ F.below (F.row (by first | exact m0 | exact m1 | exact m2 | exact m3 | exact m4 | exact m5))).mono ?_); rintro e w1 ⟨rfl, m, rfl⟩; replace F := F.drewN m)) | ((with_reducible refine stop_store rfl ?_)))
      show wpList _ _ _ _ _ _
      refine wpList_storeD rfl rfl rfl (cells := #[.slice none 0 0, .int .i64 0, .int .i64 0, .float .f32 0, .float .f32 0, .float .f32 0, .float .f32 0, .float .f32 0, .int .i64 0, .float .f32 0, .float .f32 0, .float .f32 0, .float .f32 0, .float .f32 0, .float .f32 0]) rfl (F.row m0) infoStr rfl (by simp [Value.oneCell']) (fun w4 K => ?_)
      have R := hid K.row
      have L := hid (F.wr0 K).below
      clear K F
      go_wp2
      exact bodyPost_ret (results_row2 rfl _ _ _ _ _ rfl R.out Try.underlying48 rfl infoStr) rfl ⟨_, rfl, .inl ⟨rfl, rfl⟩, L.out⟩
    · have HFB : Hid (finB x2 mh = false) := by unfold Hid; rw [h1, h2] at hp; simpa using hp
      clear hp
      have F := ((Frg.nil w).box 48 #[s, .int .i64 (q.j : Nat), .int .i64 3, .float .f32 (q.ta), .float .f32 (q.tb), .float .f32 (q.tc), .float .f32 (q.tx), .float .f32 (q.ty), .int .i64 2, .float .f32 (q.da), .float .f32 (q.db), .float .f32 (q.dc), .float .f32 (q.dx), .float .f32 (q.dy), .float .f32 (q.l)]).box 48 #[.slice none 0 0, .int .i64 0, .int .i64 0, .float .f32 0, .float .f32 0, .float .f32 0, .float .f32 0, .float .f32 0, .int .i64 0, .float .f32 0, .float .f32 0, .float .f32 0, .float .f32 0, .float .f32 0, .float .f32 0]
      simp only [World.size_alloc] at F
      go_enter Try.func28, Try.ntmps28
      go_wp2_with (first | (go_at_call 61; ((with_reducible refine (HV.out _ _ F.below (F.row (by first | exact m0 | exact m1 | exact m2 | exact m3 | exact m4 | exact m5))).mono ?_); rintro e w1 ⟨rfl, m, rfl⟩; replace F := F.drewN m)))
      go_loopw [8] (fun i wr => ∃ (k : Nat) (wz : World), wz = wr ∧ k ≤ mh ∧ i = .int .i64 k ∧ Hid (∀ i, i < k → fin (x2 i) = true) ∧ Hid (Frg w wr [rowF (w.heap.size + 1) 48 #[.slice none 0 0, .int .i64 0, .int .i64 0, .float .f32 0, .float .f32 0, .float .f32 0, .float .f32 0, .float .f32 0, .int .i64 0, .float .f32 0, .float .f32 0, .float .f32 0, .float .f32 0, .float .f32 0, .float .f32 0], rowF w.heap.size 48 #[s, .int .i64 (q.j : Nat), .int .i64 3, .float .f32 (q.ta), .float .f32 (q.tb), .float .f32 (q.tc), .float .f32 (q.tx), .float .f32 (q.ty), .int .i64 2, .float .f32 (q.da), .float .f32 (q.db), .float .f32 (q.dc), .float .f32 (q.dx), .float .f32 (q.dy), .float .f32 (q.l)]])) (fun i _ => mh - (intOf i).toNat)
      case atStart => exact ⟨0, _, rfl, by omega, rfl, fun i hi => absurd hi (by omega), F⟩
      case round =>
        obtain ⟨k, wz, hwz, hk, rfl, HK, FJ⟩ := hrel
        subst hwz
        clear F
        by_cases hlt : k < mh
        · have HZ3 := hid (HZ2.out.le FJ.out.below)
          obtain ⟨a2, cap2, y2, rfl, hc2, hm2, hx2⟩ := HZ3.out.raw (by omega)
          unfold maxLen at hm2
          obtain ⟨ck, fk, ek⟩ := hx2 k hlt
          have EK := hid ek
          clear hx2 ek HZ3
          cases hb : fin (y2 k)
          · have hFF := hid (fun w' => hb ▸ s_l01Finite (y2 k) w')
            clear hb
            go_wp2_with (first | (with_reducible refine wpList_lenR rfl rfl rfl Try.underlying40 HZ2.out ?_) | (go_at_call 62; ((with_reducible refine (hFF.out _).mono ?_); rintro e w8 ⟨rfl, mf, rfl⟩; replace FJ := FJ.out.drewN mf; replace FJ := hid FJ)) | ((with_reducible refine stop_store rfl ?_)))
            show wpList _ _ _ _ _ _
            refine wpList_storeD rfl rfl rfl (cells := #[.slice none 0 0, .int .i64 0, .int .i64 0, .float .f32 0, .float .f32 0, .float .f32 0, .float .f32 0, .float .f32 0, .int .i64 0, .float .f32 0, .float .f32 0, .float .f32 0, .float .f32 0, .float .f32 0, .float .f32 0]) rfl (FJ.out.row m0) infoStr rfl (by simp [Value.oneCell']) (fun w4 K => ?_)
            have R := hid K.row
            have L := hid (FJ.out.wr0 K).below
            clear K FJ
            go_wp2
            exact bodyPost_ret (results_row2 rfl _ _ _ _ _ rfl R.out Try.underlying48 rfl infoStr) rfl ⟨_, rfl, .inl ⟨rfl, rfl⟩, L.out⟩
          · have HB := hid ((fin_can (show can .f32 (y2 k) = can .f32 (x2 k) by rw [← EK.out, can_can])).symm.trans hb)
            have hFF := hid (fun w' => hb ▸ s_l01Finite (y2 k) w')
            clear hb
            go_wp2_with (first | (with_reducible refine wpList_lenR rfl rfl rfl Try.underlying40 HZ2.out ?_) | (go_at_call 62; ((with_reducible refine (hFF.out _).mono ?_); rintro e w8 ⟨rfl, mf, rfl⟩; replace FJ := FJ.out.drewN mf; replace FJ := hid FJ)))
            go_roundw
            case rel => exact ⟨k + 1, _, rfl, by omega, by go_num, all_step (p := fun j => fin (x2 j) = true) HK.out HB.out, FJ⟩
            case measure => simp [intOf]; omega
        · obtain rfl : k = mh := by omega
          obtain ⟨i, hi, hf⟩ := finB_ex HFB.out
          rw [HK.out i hi] at hf
          cases hf
set_option maxRecDepth 100000 in
set_option maxHeartbeats 4000000 in
theorem s_StrikeString_yes (B : Nat) (s : Value) (q : StS) (pl : Nat) (B2 : Nat) (u2 : Value) (x2 : Nat → Nat) (mh : Nat) (w : World) (hs : RdS w B s q.x q.n) (H2 : RdS w B2 u2 x2 mh) (ok : q.Ok) (hk : (Lit.int .i64 (q.j : Nat)).wf = true) (hv : okStr q.n (q.j : Nat) 3 q.ta q.tb q.tc q.tx q.ty 2 q.da q.db q.dc q.dx q.dy q.l = true) (hp : (placeB pl && finB x2 mh) = true) :
    Calls Try.prog 28 #[.agg #[s, .int .i64 (q.j : Nat), .int .i64 3, .float .f32 (q.ta), .float .f32 (q.tb), .float .f32 (q.tc), .float .f32 (q.tx), .float .f32 (q.ty), .int .i64 2, .float .f32 (q.da), .float .f32 (q.db), .float .f32 (q.dc), .float .f32 (q.dx), .float .f32 (q.dy), .float .f32 (q.l)], .float .f32 pl, u2] w (Out_si (addN q.x q.n q.j (fun i => x2 (i - kSt q.n pl)) (kSt q.n pl) (min (q.n - kSt q.n pl) mh)) q.n (q.j : Nat) 3 q.ta q.tb q.tc q.tx q.ty 2 q.da q.db q.dc q.dx q.dy q.l 0 w) := by
  have HV := hid (fun (w' : World) (g : Nat) (hl : le w w') (R : Row w' g 48 #[s, .int .i64 (q.j : Nat), .int .i64 3, .float .f32 (q.ta), .float .f32 (q.tb), .float .f32 (q.tc), .float .f32 (q.tx), .float .f32 (q.ty), .int .i64 2, .float .f32 (q.da), .float .f32 (q.db), .float .f32 (q.dc), .float .f32 (q.dx), .float .f32 (q.dy), .float .f32 (q.l)]) => hv ▸ s_l03Ok B s q.x q.n (q.j : Nat) 3 q.ta q.tb q.tc q.tx q.ty 2 q.da q.db q.dc q.dx q.dy q.l g w' (hs.le hl) R hk)
  have HCP := hid (fun (w' : World) (g : Nat) (hl : le w w') (R : Row w' g 48 #[s, .int .i64 (q.j : Nat), .int .i64 3, .float .f32 (q.ta), .float .f32 (q.tb), .float .f32 (q.tc), .float .f32 (q.tx), .float .f32 (q.ty), .int .i64 2, .float .f32 (q.da), .float .f32 (q.db), .float .f32 (q.dc), .float .f32 (q.dx), .float .f32 (q.dy), .float .f32 (q.l)]) => s_l03Copy B s q.x q.n (q.j : Nat) 3 q.ta q.tb q.tc q.tx q.ty 2 q.da q.db q.dc q.dx q.dy q.l g w' (hs.le hl) R ok.n1 ok.n2)
  have n1 := ok.n1
  have n2 := ok.n2
  have j1 := ok.j1
  have hp2 := Bool.and_eq_true_iff.1 hp
  have hp3 : (FloatKind.f32.format.order pl 0 == some .gt || FloatKind.f32.format.order pl 0 == some .eq) = true ∧ (FloatKind.f32.format.order pl 1065353216 == some .lt) = true := Bool.and_eq_true_iff.1 hp2.1
  have h1 := hp3.1
  have h2 := hp3.2
  have hsm := H2.small
  obtain ⟨po1, po2, po3⟩ := place_ok hp2.1
  have HFB := hid hp2.2
  have HD := hid (fun (d : Nat) (hd : Hid (can .f32 d = fop .mul .f32 pl (floatOfInt .f32 (q.n : Int)))) => (mult_int po1 po2 po3 n2 hd.out).1)
  obtain ⟨_, hi, hkk⟩ := mult_int po1 po2 po3 n2 (can_fop _ _ _ _ : can .f32 (fop .mul .f32 pl (floatOfInt .f32 (q.n : Int))) = fop .mul .f32 pl (floatOfInt .f32 (q.n : Int)))
  have HI := hid (toI64 hi)
  have HZ2 := hid H2
  obtain ⟨a0, cap, y0, rfl, hc, hm, _⟩ := hs.raw n1
  unfold maxLen at hm
  have HKK : Hid (kSt q.n pl = wholeW (fop .mul .f32 pl (floatOfInt .f32 (q.n : Int)))) := rfl
  generalize kSt q.n pl = kk at *
  generalize wholeW (fop .mul .f32 pl (floatOfInt .f32 (q.n : Int))) = kw at *
  obtain rfl : kk = kw := HKK.out
  clear hs hv ok hp hp2 hp3 po1 po2 po3 hi HKK hk H2
  have F := ((Frg.nil w).box 48 #[(.slice (some a0) q.n cap), .int .i64 (q.j : Nat), .int .i64 3, .float .f32 (q.ta), .float .f32 (q.tb), .float .f32 (q.tc), .float .f32 (q.tx), .float .f32 (q.ty), .int .i64 2, .float .f32 (q.da), .float .f32 (q.db), .float .f32 (q.dc), .float .f32 (q.dx), .float .f32 (q.dy), .float .f32 (q.l)]).box 48 #[.slice none 0 0, .int .i64 0, .int .i64 0, .float .f32 0, .float .f32 0, .float .f32 0, .float .f32 0, .float .f32 0, .int .i64 0, .float .f32 0, .float .f32 0, .float .f32 0, .float .f32 0, .float .f32 0, .float .f32 0]
  simp only [World.size_alloc] at F
  go_enter Try.func28, Try.ntmps28
  go_wp2_with (first | (go_at_call 61; ((with_reducible refine (HV.out _ _ F.below (F.row (by first | exact m0 | exact m1 | exact m2 | exact m3 | exact m4 | exact m5))).mono ?_); rintro e w1 ⟨rfl, m, rfl⟩; replace F := F.drewN m)))
  go_loopw [8] (fun i wr => ∃ (k : Nat) (wz : World), wz = wr ∧ k ≤ mh ∧ i = .int .i64 k ∧ Hid (∀ i, i < k → fin (x2 i) = true) ∧ Hid (Frg w wr [rowF (w.heap.size + 1) 48 #[.slice none 0 0, .int .i64 0, .int .i64 0, .float .f32 0, .float .f32 0, .float .f32 0, .float .f32 0, .float .f32 0, .int .i64 0, .float .f32 0, .float .f32 0, .float .f32 0, .float .f32 0, .float .f32 0, .float .f32 0], rowF w.heap.size 48 #[(.slice (some a0) q.n cap), .int .i64 (q.j : Nat), .int .i64 3, .float .f32 (q.ta), .float .f32 (q.tb), .float .f32 (q.tc), .float .f32 (q.tx), .float .f32 (q.ty), .int .i64 2, .float .f32 (q.da), .float .f32 (q.db), .float .f32 (q.dc), .float .f32 (q.dx), .float .f32 (q.dy), .float .f32 (q.l)]])) (fun i _ => mh - (intOf i).toNat)
  case atStart => exact ⟨0, _, rfl, by omega, rfl, fun i hi => absurd hi (by omega), F⟩
  case round =>
    obtain ⟨k, wz, hwz, hk, rfl, HK, FJ⟩ := hrel
    subst hwz
    clear F
    by_cases hlt : k < mh
    · have HZ3 := hid (HZ2.out.le FJ.out.below)
      obtain ⟨a2, cap2, y2, rfl, hc2, hm2, hx2⟩ := HZ3.out.raw (by omega)
      unfold maxLen at hm2
      obtain ⟨ck, fk, ek⟩ := hx2 k hlt
      have EK := hid ek
      clear hx2 ek HZ3
      cases hb : fin (y2 k)
      · have hbb := finB_all HFB.out k hlt
        rw [← fin_can (show can .f32 (y2 k) = can .f32 (x2 k) by rw [← EK.out, can_can]), hb] at hbb
        cases hbb
      · have HB := hid ((fin_can (show can .f32 (y2 k) = can .f32 (x2 k) by rw [← EK.out, can_can])).symm.trans hb)
        have hFF := hid (fun w' => hb ▸ s_l01Finite (y2 k) w')
        clear hb
        go_wp2_with (first | (with_reducible refine wpList_lenR rfl rfl rfl Try.underlying40 HZ2.out ?_) | (go_at_call 62; ((with_reducible refine (hFF.out _).mono ?_); rintro e w8 ⟨rfl, mf, rfl⟩; replace FJ := FJ.out.drewN mf; replace FJ := hid FJ)))
        go_roundw
        case rel => exact ⟨k + 1, _, rfl, by omega, by go_num, all_step (p := fun j => fin (x2 j) = true) HK.out HB.out, FJ⟩
        case measure => simp [intOf]; omega
    · obtain rfl : k = mh := by omega
      replace FJ := FJ.out
      go_wp2_with (first | (with_reducible refine wpList_lenR rfl rfl rfl Try.underlying40 HZ2.out ?_) | (go_at_call 63; ((with_reducible refine (HCP.out _ _ FJ.below (FJ.row (by first | exact m0 | exact m1 | exact m2 | exact m3 | exact m4 | exact m5))).mono ?_); rintro e w2 ⟨s', rfl, ho, hl⟩; have OC := hid (OwnS.one ho); have hzz := hid (Nat.le_trans (FJ.facts (rowF (w.heap.size + 1) 48 #[.slice none 0 0, .int .i64 0, .int .i64 0, .float .f32 0, .float .f32 0, .float .f32 0, .float .f32 0, .float .f32 0, .int .i64 0, .float .f32 0, .float .f32 0, .float .f32 0, .float .f32 0, .float .f32 0, .float .f32 0]) m0).2.1 (Nat.le_refl _)); replace FJ := hid (FJ.push (e := ownF _ w2.heap.size s' q.x q.n) hl ho (Nat.le_refl _) (Nat.le_refl _)); clear ho hl)) | (refine wpList_storeG FJ.out rfl rfl rfl rfl rfl infoStr rfl (one_head OC.out rfl) ?_; clear FJ; intro W3 FJ zW; clear zW; replace FJ := hid FJ; have c0 := (FJ.out.row (g := w.heap.size) m3).cell? 0) | (with_reducible refine wpList_farith (op := .mul) rfl rfl rfl rfl rfl ?_; intro d n1' hd fd; rw [HD.out d hd]; replace FJ := hid (FJ.out.drewN n1'); clear c0) | (with_reducible refine wpList_toInt rfl rfl rfl HI.out ?_))
      obtain ⟨b3, o3, cap3, rfl, hc3, hm3, hb3, hb4⟩ := (FJ.out.own (lo := wz.heap.size) (hi := w2.heap.size) m1).form n1
      unfold maxLen at hm3
      have HAD := hid (fun (wq : World) (xx : Nat → Nat) (k r : Nat) (hk : kk + k < q.n) (hs : OwnS wq wz.heap.size w2.heap.size (.slice (some ⟨b3, o3, none⟩) q.n cap3) xx q.n) (hr : Row wq w2.heap.size 48 #[(.slice (some ⟨b3, o3, none⟩) q.n cap3), .int .i64 (q.j : Nat), .int .i64 3, .float .f32 (q.ta), .float .f32 (q.tb), .float .f32 (q.tc), .float .f32 (q.tx), .float .f32 (q.ty), .int .i64 2, .float .f32 (q.da), .float .f32 (q.db), .float .f32 (q.dc), .float .f32 (q.dx), .float .f32 (q.dy), .float .f32 (q.l)]) (fr : fits .f32 r) => (show Calls Try.prog 64 #[.pointer (some ⟨w2.heap.size, 0, none⟩), .int .i64 ((kk : Int) + k), .float .f32 r] wq (fun e w' => e = .returned (.tuple #[]) ∧ Row w' w2.heap.size 48 #[(.slice (some ⟨b3, o3, none⟩) q.n cap3), .int .i64 (q.j : Nat), .int .i64 3, .float .f32 (q.ta), .float .f32 (q.tb), .float .f32 (q.tc), .float .f32 (q.tx), .float .f32 (q.ty), .int .i64 2, .float .f32 (q.da), .float .f32 (q.db), .float .f32 (q.dc), .float .f32 (q.dx), .float .f32 (q.dy), .float .f32 (q.l)] ∧ OwnS w' wz.heap.size w2.heap.size (.slice (some ⟨b3, o3, none⟩) q.n cap3) (addX xx ((q.j + (kk + k)) % q.n) r) q.n ∧ Chg (rng wz.heap.size w2.heap.size) wq w') from by have h := s_l03Add wz.heap.size w2.heap.size (.slice (some ⟨b3, o3, none⟩) q.n cap3) xx q.n q.j (kk + k) r w2.heap.size 0 48 #[(.slice (some ⟨b3, o3, none⟩) q.n cap3), .int .i64 (q.j : Nat), .int .i64 3, .float .f32 (q.ta), .float .f32 (q.tb), .float .f32 (q.tc), .float .f32 (q.tx), .float .f32 (q.ty), .int .i64 2, .float .f32 (q.da), .float .f32 (q.db), .float .f32 (q.dc), .float .f32 (q.dx), .float .f32 (q.dy), .float .f32 (q.l)] wq hs hr rfl rfl (by omega) j1 hk n2 fr; rw [Int.natCast_add] at h; exact h))
      go_loopw [12] (fun i wq => ∃ z : Nat, z ≤ min (q.n - kk) k ∧ i = .int .i64 z ∧ Hid (Frg w wq [rowF w2.heap.size 48 #[(.slice (some ⟨b3, o3, none⟩) q.n cap3), .int .i64 (q.j : Nat), .int .i64 3, .float .f32 (q.ta), .float .f32 (q.tb), .float .f32 (q.tc), .float .f32 (q.tx), .float .f32 (q.ty), .int .i64 2, .float .f32 (q.da), .float .f32 (q.db), .float .f32 (q.dc), .float .f32 (q.dx), .float .f32 (q.dy), .float .f32 (q.l)], ownF wz.heap.size w2.heap.size (.slice (some ⟨b3, o3, none⟩) q.n cap3) (addN q.x q.n q.j (fun i => x2 (i - kk)) kk z) q.n, rowF (w.heap.size + 1) 48 #[.slice none 0 0, .int .i64 0, .int .i64 0, .float .f32 0, .float .f32 0, .float .f32 0, .float .f32 0, .float .f32 0, .int .i64 0, .float .f32 0, .float .f32 0, .float .f32 0, .float .f32 0, .float .f32 0, .float .f32 0], rowF w.heap.size 48 #[(.slice (some a0) q.n cap), .int .i64 (q.j : Nat), .int .i64 3, .float .f32 (q.ta), .float .f32 (q.tb), .float .f32 (q.tc), .float .f32 (q.tx), .float .f32 (q.ty), .int .i64 2, .float .f32 (q.da), .float .f32 (q.db), .float .f32 (q.dc), .float .f32 (q.dx), .float .f32 (q.dy), .float .f32 (q.l)]])) (fun i _ => min (q.n - kk) k - (intOf i).toNat)
      case atStart => exact ⟨0, by omega, rfl, FJ.out⟩
      case round =>
        obtain ⟨z, hz, rfl, FK⟩ := hrel
        clear FJ
        by_cases hlt2 : z < min (q.n - kk) k
        · have hz1 : (z : Int) < k := by omega
          have hz2 : (kk : Int) + z < q.n := by omega
          have HZ3 := hid (HZ2.out.le FK.out.below)
          obtain ⟨a2, cap2, y2, rfl, hc2, hm2, hx2⟩ := HZ3.out.raw (by omega)
          unfold maxLen at hm2
          obtain ⟨ck, fk, ek⟩ := hx2 z (by omega)
          have EK := hid ek
          have FKK := hid fk
          clear hx2 ek fk HZ3
          go_wp2_with (first | (with_reducible refine wpList_lenR rfl rfl rfl Try.underlying40 HZ2.out ?_) | (go_at_call 64; ((with_reducible refine (HAD.out _ _ z (y2 z) (by omega) (FK.out.own m1) (FK.out.row m0) FKK.out).mono ?_); rintro e w6 ⟨rfl, _, hown, hch⟩; have FK2 := hid (FK.out.mark1 hown hch); clear FK hown hch)))
          go_roundw
          case rel =>
            refine ⟨z + 1, by omega, by go_num, ?_⟩
            unfold addN
            have e2 : can .f32 (x2 (kk + z - kk)) = can .f32 (y2 z) := by rw [Nat.add_sub_cancel_left, ← EK.out, can_can]
            try simp only []
            rw [addX_can e2]
            exact FK2
          case measure => simp [intOf]; omega
        · obtain rfl : z = min (q.n - kk) k := by omega
          replace FK := FK.out
          by_cases h3 : min (q.n - kk) k < k
          · have h4 : ¬ (kk : Int) + (min (q.n - kk) k : Nat) < q.n := by omega
            have h5 : ((min (q.n - kk) k : Nat) : Int) < k := by omega
            generalize hzz : min (q.n - kk) k = zz at *
            go_wp2_with (first | (with_reducible refine wpList_lenR rfl rfl rfl Try.underlying40 HZ2.out ?_) | ((with_reducible refine at_loadU rfl rfl ?_); (with_reducible refine wpList_loadG FK rfl rfl rfl (by first | exact m0 | exact m1 | exact m2 | exact m3 | exact m4 | exact m5) Try.underlying48 rfl infoStr rfl ?_)) | ((with_reducible refine stop_store (ty := 48) rfl ?_)))
            show wpList _ _ _ _ _ _
            refine wpList_storeD rfl rfl rfl (cells := #[(.slice (some ⟨b3, o3, none⟩) q.n cap3), .int .i64 (q.j : Nat), .int .i64 3, .float .f32 (q.ta), .float .f32 (q.tb), .float .f32 (q.tc), .float .f32 (q.tx), .float .f32 (q.ty), .int .i64 2, .float .f32 (q.da), .float .f32 (q.db), .float .f32 (q.dc), .float .f32 (q.dx), .float .f32 (q.dy), .float .f32 (q.l)]) rfl (FK.row (g := w.heap.size + 1) m2) infoStr rfl (by simp [Value.oneCell']) (fun w7 K => ?_)
            replace FK := FK.wr2 K
            have RW := hid K.row
            have L := hid FK.below
            have O := FK.facts (ownF wz.heap.size w2.heap.size (.slice (some ⟨b3, o3, none⟩) q.n cap3) (addN q.x q.n q.j (fun i => x2 (i - kk)) kk zz) q.n) m1
            have O7 := hid (OwnS.mono (lo' := w.heap.size) (hi' := w7.heap.size) O.2.2 O.1 O.2.1)
            clear K FK O
            go_wp2
            exact bodyPost_ret (results_row2 rfl _ _ _ _ _ rfl RW.out Try.underlying48 rfl infoStr) rfl ⟨_, rfl, by rw [hzz]; exact O7.out, L.out⟩
          · have h5 : ¬ ((min (q.n - kk) k : Nat) : Int) < k := by omega
            generalize hzz : min (q.n - kk) k = zz at *
            go_wp2_with (first | (with_reducible refine wpList_lenR rfl rfl rfl Try.underlying40 HZ2.out ?_) | ((with_reducible refine at_loadU rfl rfl ?_); (with_reducible refine wpList_loadG FK rfl rfl rfl (by first | exact m0 | exact m1 | exact m2 | exact m3 | exact m4 | exact m5) Try.underlying48 rfl infoStr rfl ?_)) | ((with_reducible refine stop_store (ty := 48) rfl ?_)))
            show wpList _ _ _ _ _ _
            refine wpList_storeD rfl rfl rfl (cells := #[(.slice (some ⟨b3, o3, none⟩) q.n cap3), .int .i64 (q.j : Nat), .int .i64 3, .float .f32 (q.ta), .float .f32 (q.tb), .float .f32 (q.tc), .float .f32 (q.tx), .float .f32 (q.ty), .int .i64 2, .float .f32 (q.da), .float .f32 (q.db), .float .f32 (q.dc), .float .f32 (q.dx), .float .f32 (q.dy), .float .f32 (q.l)]) rfl (FK.row (g := w.heap.size + 1) m2) infoStr rfl (by simp [Value.oneCell']) (fun w7 K => ?_)
            replace FK := FK.wr2 K
            have RW := hid K.row
            have L := hid FK.below
            have O := FK.facts (ownF wz.heap.size w2.heap.size (.slice (some ⟨b3, o3, none⟩) q.n cap3) (addN q.x q.n q.j (fun i => x2 (i - kk)) kk zz) q.n) m1
            have O7 := hid (OwnS.mono (lo' := w.heap.size) (hi' := w7.heap.size) O.2.2 O.1 O.2.1)
            clear K FK O
            go_wp2
            exact bodyPost_ret (results_row2 rfl _ _ _ _ _ rfl RW.out Try.underlying48 rfl infoStr) rfl ⟨_, rfl, by rw [hzz]; exact O7.out, L.out⟩
theorem both_StrikeString (x : Nat → Nat) (n : Nat) (k tk : Int) (ta tb tc tx ty : Nat) (dk : Int) (da db dc dx dy l : Nat) (pl : Nat) (x2 : Nat → Nat) (mh : Nat) (hw : (Lit.int .i64 k).wf = true ∧ (Lit.int .i64 tk).wf = true ∧ fits .f32 ta ∧ fits .f32 tb ∧ fits .f32 tc ∧ fits .f32 tx ∧ fits .f32 ty ∧ (Lit.int .i64 dk).wf = true ∧ fits .f32 da ∧ fits .f32 db ∧ fits .f32 dc ∧ fits .f32 dx ∧ fits .f32 dy ∧ fits .f32 l) : ∃ (xr0 : Nat → Nat) (nr0 : Nat) (kr0 tkr0 : Int) (tar0 tbr0 tcr0 txr0 tyr0 : Nat) (dkr0 : Int) (dar0 dbr0 dcr0 dxr0 dyr0 lr0 : Nat) (ar1 : Int), nr0 ≤ 1048576 ∧ (∀ (w : World) (B : Nat) (u : Value) (B2 : Nat) (u2 : Value), RdS w B u x n → RdS w B2 u2 x2 mh → Calls Try.prog 28 #[.agg #[u, .int .i64 k, .int .i64 tk, .float .f32 ta, .float .f32 tb, .float .f32 tc, .float .f32 tx, .float .f32 ty, .int .i64 dk, .float .f32 da, .float .f32 db, .float .f32 dc, .float .f32 dx, .float .f32 dy, .float .f32 l], .float .f32 pl, u2] w (Out_si xr0 nr0 kr0 tkr0 tar0 tbr0 tcr0 txr0 tyr0 dkr0 dar0 dbr0 dcr0 dxr0 dyr0 lr0 ar1 w)) ∧ (∀ (w : World) (B : Nat) (u : Value) (B2 : Nat) (u2 : Value), RdS w B u x n → RdS w B2 u2 x2 mh → Calls Try.prog 30 #[.agg #[u, .int .i64 k, .int .i64 tk, .float .f32 ta, .float .f32 tb, .float .f32 tc, .float .f32 tx, .float .f32 ty, .int .i64 dk, .float .f32 da, .float .f32 db, .float .f32 dc, .float .f32 dx, .float .f32 dy, .float .f32 l], .float .f32 pl, u2] w (Out_si xr0 nr0 kr0 tkr0 tar0 tbr0 tcr0 txr0 tyr0 dkr0 dar0 dbr0 dcr0 dxr0 dyr0 lr0 ar1 w)) := by
  obtain ⟨hk, _, h1, h2, h3, h4, h5, _, g1, g2, g3, g4, g5, hl⟩ := hw
  cases hv : okStr n k tk ta tb tc tx ty dk da db dc dx dy l
  · exact ⟨(fun _ => 0), 0, 0, 0, 0, 0, 0, 0, 0, 0, 0, 0, 0, 0, 0, 0, 1, by omega, fun w B u B2 u2 h _ => s_StrikeString_no B u x n k tk ta tb tc tx ty dk da db dc dx dy l pl B2 u2 x2 mh w h hk hv, fun w B u B2 u2 h h' => i_StrikeString_no B u x n k tk ta tb tc tx ty dk da db dc dx dy l pl B2 u2 x2 mh w h h' ⟨h1, h2, h3, h4, h5⟩ ⟨g1, g2, g3, g4, g5⟩ hl hv⟩
  · obtain ⟨j, rfl, rfl, rfl, ok⟩ := okStr_q (x := x) hv ⟨h1, h2, h3, h4, h5⟩ ⟨g1, g2, g3, g4, g5⟩ hl
    cases hp : (placeB pl && finB x2 mh)
    · exact ⟨(fun _ => 0), 0, 0, 0, 0, 0, 0, 0, 0, 0, 0, 0, 0, 0, 0, 0, 2, by omega, fun w B u B2 u2 h h' => s_StrikeString_out B u (⟨x, n, j, ta, tb, tc, tx, ty, da, db, dc, dx, dy, l⟩ : StS) pl B2 u2 x2 mh w h h' ok hk hv hp, fun w B u B2 u2 h h' => i_StrikeString_out B u (⟨x, n, j, ta, tb, tc, tx, ty, da, db, dc, dx, dy, l⟩ : StS) pl B2 u2 x2 mh w h h' ok hv hp⟩
    · exact ⟨_, _, _, _, _, _, _, _, _, _, _, _, _, _, _, _, _, Nat.le_trans ok.n2 (by decide), fun w B u B2 u2 h h' => s_StrikeString_yes B u (⟨x, n, j, ta, tb, tc, tx, ty, da, db, dc, dx, dy, l⟩ : StS) pl B2 u2 x2 mh w h h' ok hk hv hp, fun w B u B2 u2 h h' => i_StrikeString_yes B u (⟨x, n, j, ta, tb, tc, tx, ty, da, db, dc, dx, dy, l⟩ : StS) pl B2 u2 x2 mh w h h' ok hv hp⟩
end Go.Proofs.Ytmacednkpjfokaa

/- The walk of 'FnExactStrikeString'. -/
namespace Go.Proofs.Ytmacednkpjfokaa.fnExactStrikeString
open Go.RowKit Go.Fk
set_option maxRecDepth 100000 in
set_option maxHeartbeats 4000000 in
theorem core (s0 : Value) (x0 : Nat → Nat) (n0 : Nat) (k0 : Int) (tk0 : Int) (ta0 : Nat) (tb0 : Nat) (tc0 : Nat) (tx0 : Nat) (ty0 : Nat) (dk0 : Int) (da0 : Nat) (db0 : Nat) (dc0 : Nat) (dx0 : Nat) (dy0 : Nat) (l0 : Nat) (a1 : Nat) (s2 : Value) (x2 : Nat → Nat) (n2 : Nat) (xr0 : Nat → Nat) (nr0 : Nat) (kr0 : Int) (tkr0 : Int) (tar0 : Nat) (tbr0 : Nat) (tcr0 : Nat) (txr0 : Nat) (tyr0 : Nat) (dkr0 : Int) (dar0 : Nat) (dbr0 : Nat) (dcr0 : Nat) (dxr0 : Nat) (dyr0 : Nat) (lr0 : Nat) (ar1 : Int) (w : World) (z0 : RdS w w.heap.size s0 x0 n0) (hn0 : n0 ≤ 1048576) (z2 : RdS w w.heap.size s2 x2 n2) (hn2 : n2 ≤ 1048576) (hr0 : nr0 ≤ 1048576)
    (hS : ∀ (w : World) (B0 : Nat) (u0 : Value) (B2 : Nat) (u2 : Value), RdS w B0 u0 x0 n0 → RdS w B2 u2 x2 n2 → Calls Try.prog 28 #[.agg #[u0, .int .i64 k0, .int .i64 tk0, .float .f32 ta0, .float .f32 tb0, .float .f32 tc0, .float .f32 tx0, .float .f32 ty0, .int .i64 dk0, .float .f32 da0, .float .f32 db0, .float .f32 dc0, .float .f32 dx0, .float .f32 dy0, .float .f32 l0], .float .f32 a1, u2] w (Out_si xr0 nr0 kr0 tkr0 tar0 tbr0 tcr0 txr0 tyr0 dkr0 dar0 dbr0 dcr0 dxr0 dyr0 lr0 ar1 w))
    (hI : ∀ (w : World) (B0 : Nat) (u0 : Value) (B2 : Nat) (u2 : Value), RdS w B0 u0 x0 n0 → RdS w B2 u2 x2 n2 → Calls Try.prog 30 #[.agg #[u0, .int .i64 k0, .int .i64 tk0, .float .f32 ta0, .float .f32 tb0, .float .f32 tc0, .float .f32 tx0, .float .f32 ty0, .int .i64 dk0, .float .f32 da0, .float .f32 db0, .float .f32 dc0, .float .f32 dx0, .float .f32 dy0, .float .f32 l0], .float .f32 a1, u2] w (Out_si xr0 nr0 kr0 tkr0 tar0 tbr0 tcr0 txr0 tyr0 dkr0 dar0 dbr0 dcr0 dxr0 dyr0 lr0 ar1 w)) :
    Calls Try.prog 6 #[.agg #[s0, .int .i64 k0, .int .i64 tk0, .float .f32 ta0, .float .f32 tb0, .float .f32 tc0, .float .f32 tx0, .float .f32 ty0, .int .i64 dk0, .float .f32 da0, .float .f32 db0, .float .f32 dc0, .float .f32 dx0, .float .f32 dy0, .float .f32 l0], .float .f32 a1, s2] w fun e w' => e = .returned (.bool true) ∧ Below w.heap.size w w' := by
  have Z0 := hid z0; clear z0
  have hm0 : ¬ (1048576 : Int) - n0 < 0 := by omega
  have Z2 := hid z2; clear z2
  have hm2 : ¬ (1048576 : Int) < n2 := by omega
  have hq : decide ((1 : Int) + n0 + n2 < 0) = false := by simp; omega
  have HS := hid hS; have HI := hid hI; clear hS hI
  have F := Frg.nil w
  replace F := F.box 44 (#[s0, .int .i64 k0, .int .i64 tk0, .float .f32 ta0, .float .f32 tb0, .float .f32 tc0, .float .f32 tx0, .float .f32 ty0, .int .i64 dk0, .float .f32 da0, .float .f32 db0, .float .f32 dc0, .float .f32 dx0, .float .f32 dy0, .float .f32 l0])
  go_enter Try.func6, Try.ntmps6
  go_wp2_with (first | (((with_reducible refine listN F ?_); clear F; intro wN F)) | ((with_reducible refine at_loadU rfl rfl ?_); first | (with_reducible refine wpList_loadG F rfl rfl rfl (by first | exact m0 | exact m1 | exact m2 | exact m3 | exact m4 | exact m5 | exact m6 | exact m7 | exact m8 | exact m9 | exact m10 | exact m11 | exact m12 | exact m13 | exact m14 | exact m15 | exact m16 | exact m17 | exact m18 | exact m19) Try.underlying48 rfl infoStr (by first | rfl | simp [size_ftab]) ?_) | (with_reducible refine wpList_loadG F rfl rfl rfl (by first | exact m0 | exact m1 | exact m2 | exact m3 | exact m4 | exact m5 | exact m6 | exact m7 | exact m8 | exact m9 | exact m10 | exact m11 | exact m12 | exact m13 | exact m14 | exact m15 | exact m16 | exact m17 | exact m18 | exact m19) Try.underlying44 rfl infoStrL (by first | rfl | simp [size_ftab]) ?_)) | ((with_reducible refine at_loadV rfl rfl ?_); first | (with_reducible refine wpList_loadGG F rfl rfl (by first | exact m0 | exact m1 | exact m2 | exact m3 | exact m4 | exact m5 | exact m6 | exact m7 | exact m8 | exact m9 | exact m10 | exact m11 | exact m12 | exact m13 | exact m14 | exact m15 | exact m16 | exact m17 | exact m18 | exact m19) Try.underlying48 rfl infoStr (by first | rfl | simp [size_ftab]) (by kernel_rfl) ?_) | (with_reducible refine wpList_loadGG F rfl rfl (by first | exact m0 | exact m1 | exact m2 | exact m3 | exact m4 | exact m5 | exact m6 | exact m7 | exact m8 | exact m9 | exact m10 | exact m11 | exact m12 | exact m13 | exact m14 | exact m15 | exact m16 | exact m17 | exact m18 | exact m19) Try.underlying44 rfl infoStrL (by first | rfl | simp [size_ftab]) (by kernel_rfl) ?_)) | (with_reducible refine wpList_lenR rfl rfl rfl Try.underlying40 Z2.out ?_) | (go_at_call 21; ((with_reducible refine (szStringR_yes _ s0 x0 n0 k0 tk0 ta0 tb0 tc0 tx0 ty0 dk0 da0 db0 dc0 dx0 dy0 l0 _ (Z0.out.le (by first | exact F.below)) hn0).mono ?_); rintro e w1 ⟨rfl, hb1⟩; (replace F := F.le hb1))) | (go_at_call 23; ((with_reducible refine (toStringR _ s0 x0 n0 k0 tk0 ta0 tb0 tc0 tx0 ty0 dk0 da0 db0 dc0 dx0 dy0 l0 _ (Z0.out.le (by first | exact F.below)) hn0).mono ?_); rintro e w1 ⟨tA0, rfl, ho1, hl1⟩; have oc := hid (OwnS.one ho1); (first | replace F := F.own1 hl1 ho1); clear hl1 ho1)) | (go_at_call 29; ((with_reducible refine (toR _ s2 x2 n2 _ (Z2.out.le (by first | exact F.below)) hn2).mono ?_); rintro e w1 ⟨tA2, rfl, ho1, hl1⟩; have oc := hid (OwnS.one ho1); (first | replace F := F.own1 hl1 ho1); clear hl1 ho1)))
  first | ((with_reducible refine callAt0 F ?_); clear F; intro wN F) | ((with_reducible refine callAtN F ?_); clear F; intro wN F)
  refine (HS.out _ _ _ _ _ (by first | exact (F.own (by first | exact m0 | exact m1 | exact m2 | exact m3 | exact m4 | exact m5 | exact m6 | exact m7 | exact m8 | exact m9 | exact m10 | exact m11 | exact m12 | exact m13 | exact m14 | exact m15 | exact m16 | exact m17 | exact m18 | exact m19)).rd) (by first | exact (F.own (by first | exact m0 | exact m1 | exact m2 | exact m3 | exact m4 | exact m5 | exact m6 | exact m7 | exact m8 | exact m9 | exact m10 | exact m11 | exact m12 | exact m13 | exact m14 | exact m15 | exact m16 | exact m17 | exact m18 | exact m19)).rd)).mono ?_
  rintro e wS ⟨vS0, rfl, oS0, hlS⟩
  have oc := hid (OwnS.one oS0); (first | replace F := F.own1 hlS oS0); clear hlS oS0
  go_wp2_with (first | (((with_reducible refine listN F ?_); clear F; intro wN F)) | ((with_reducible refine at_store rfl ?_); first | (refine wpList_storeG F rfl rfl rfl rfl rfl infoStr rfl (by first | exact one_head (Hid.out (by assumption)) rfl | (simp [Value.oneCell']; done)) ?_; clear F; intro W F zW; clear zW)) | ((with_reducible refine at_loadU rfl rfl ?_); first | (with_reducible refine wpList_loadG F rfl rfl rfl (by first | exact m0 | exact m1 | exact m2 | exact m3 | exact m4 | exact m5 | exact m6 | exact m7 | exact m8 | exact m9 | exact m10 | exact m11 | exact m12 | exact m13 | exact m14 | exact m15 | exact m16 | exact m17 | exact m18 | exact m19) Try.underlying48 rfl infoStr (by first | rfl | simp [size_ftab]) ?_) | (with_reducible refine wpList_loadG F rfl rfl rfl (by first | exact m0 | exact m1 | exact m2 | exact m3 | exact m4 | exact m5 | exact m6 | exact m7 | exact m8 | exact m9 | exact m10 | exact m11 | exact m12 | exact m13 | exact m14 | exact m15 | exact m16 | exact m17 | exact m18 | exact m19) Try.underlying44 rfl infoStrL (by first | rfl | simp [size_ftab]) ?_)) | ((with_reducible refine at_loadV rfl rfl ?_); first | (with_reducible refine wpList_loadGG F rfl rfl (by first | exact m0 | exact m1 | exact m2 | exact m3 | exact m4 | exact m5 | exact m6 | exact m7 | exact m8 | exact m9 | exact m10 | exact m11 | exact m12 | exact m13 | exact m14 | exact m15 | exact m16 | exact m17 | exact m18 | exact m19) Try.underlying48 rfl infoStr (by first | rfl | simp [size_ftab]) (by kernel_rfl) ?_) | (with_reducible refine wpList_loadGG F rfl rfl (by first | exact m0 | exact m1 | exact m2 | exact m3 | exact m4 | exact m5 | exact m6 | exact m7 | exact m8 | exact m9 | exact m10 | exact m11 | exact m12 | exact m13 | exact m14 | exact m15 | exact m16 | exact m17 | exact m18 | exact m19) Try.underlying44 rfl infoStrL (by first | rfl | simp [size_ftab]) (by kernel_rfl) ?_)) | (go_at_call 23; ((with_reducible refine (toStringR _ s0 x0 n0 k0 tk0 ta0 tb0 tc0 tx0 ty0 dk0 da0 db0 dc0 dx0 dy0 l0 _ (Z0.out.le (by first | exact F.below)) hn0).mono ?_); rintro e w1 ⟨tB0, rfl, ho1, hl1⟩; have oc := hid (OwnS.one ho1); (first | replace F := F.own1 hl1 ho1); clear hl1 ho1)) | (go_at_call 29; ((with_reducible refine (toR _ s2 x2 n2 _ (Z2.out.le (by first | exact F.below)) hn2).mono ?_); rintro e w1 ⟨tB2, rfl, ho1, hl1⟩; have oc := hid (OwnS.one ho1); (first | replace F := F.own1 hl1 ho1); clear hl1 ho1)))
  first | ((with_reducible refine callAt0 F ?_); clear F; intro wN F) | ((with_reducible refine callAtN F ?_); clear F; intro wN F)
  refine (HI.out _ _ _ _ _ (by first | exact (F.own (by first | exact m0 | exact m1 | exact m2 | exact m3 | exact m4 | exact m5 | exact m6 | exact m7 | exact m8 | exact m9 | exact m10 | exact m11 | exact m12 | exact m13 | exact m14 | exact m15 | exact m16 | exact m17 | exact m18 | exact m19)).rd) (by first | exact (F.own (by first | exact m0 | exact m1 | exact m2 | exact m3 | exact m4 | exact m5 | exact m6 | exact m7 | exact m8 | exact m9 | exact m10 | exact m11 | exact m12 | exact m13 | exact m14 | exact m15 | exact m16 | exact m17 | exact m18 | exact m19)).rd)).mono ?_
  rintro e wI ⟨vI0, rfl, oI0, hlI⟩
  have oc := hid (OwnS.one oI0); (first | replace F := F.own1 hlI oI0); clear hlI oI0
  go_wp2_with (first | (((with_reducible refine listN F ?_); clear F; intro wN F)) | ((with_reducible refine at_store rfl ?_); first | (refine wpList_storeG F rfl rfl rfl rfl rfl infoStr rfl (by first | exact one_head (Hid.out (by assumption)) rfl | (simp [Value.oneCell']; done)) ?_; clear F; intro W F zW; clear zW)) | ((with_reducible refine at_loadU rfl rfl ?_); first | (with_reducible refine wpList_loadG F rfl rfl rfl (by first | exact m0 | exact m1 | exact m2 | exact m3 | exact m4 | exact m5 | exact m6 | exact m7 | exact m8 | exact m9 | exact m10 | exact m11 | exact m12 | exact m13 | exact m14 | exact m15 | exact m16 | exact m17 | exact m18 | exact m19) Try.underlying48 rfl infoStr (by first | rfl | simp [size_ftab]) ?_) | (with_reducible refine wpList_loadG F rfl rfl rfl (by first | exact m0 | exact m1 | exact m2 | exact m3 | exact m4 | exact m5 | exact m6 | exact m7 | exact m8 | exact m9 | exact m10 | exact m11 | exact m12 | exact m13 | exact m14 | exact m15 | exact m16 | exact m17 | exact m18 | exact m19) Try.underlying44 rfl infoStrL (by first | rfl | simp [size_ftab]) ?_)) | ((with_reducible refine at_loadV rfl rfl ?_); first | (with_reducible refine wpList_loadGG F rfl rfl (by first | exact m0 | exact m1 | exact m2 | exact m3 | exact m4 | exact m5 | exact m6 | exact m7 | exact m8 | exact m9 | exact m10 | exact m11 | exact m12 | exact m13 | exact m14 | exact m15 | exact m16 | exact m17 | exact m18 | exact m19) Try.underlying48 rfl infoStr (by first | rfl | simp [size_ftab]) (by kernel_rfl) ?_) | (with_reducible refine wpList_loadGG F rfl rfl (by first | exact m0 | exact m1 | exact m2 | exact m3 | exact m4 | exact m5 | exact m6 | exact m7 | exact m8 | exact m9 | exact m10 | exact m11 | exact m12 | exact m13 | exact m14 | exact m15 | exact m16 | exact m17 | exact m18 | exact m19) Try.underlying44 rfl infoStrL (by first | rfl | simp [size_ftab]) (by kernel_rfl) ?_)) | (go_at_call 25; ((with_reducible refine (eqStringR _ _ _ _ xr0 nr0 kr0 tkr0 tar0 tbr0 tcr0 txr0 tyr0 dkr0 dar0 dbr0 dcr0 dxr0 dyr0 lr0 _ hr0 (by first | exact (F.own (by first | exact m0 | exact m1 | exact m2 | exact m3 | exact m4 | exact m5 | exact m6 | exact m7 | exact m8 | exact m9 | exact m10 | exact m11 | exact m12 | exact m13 | exact m14 | exact m15 | exact m16 | exact m17 | exact m18 | exact m19)).rd) (by first | exact (F.own (by first | exact m0 | exact m1 | exact m2 | exact m3 | exact m4 | exact m5 | exact m6 | exact m7 | exact m8 | exact m9 | exact m10 | exact m11 | exact m12 | exact m13 | exact m14 | exact m15 | exact m16 | exact m17 | exact m18 | exact m19)).rd)).mono ?_); rintro e w7 ⟨rfl, hb7⟩; (replace F := F.le hb7))))
  first | (refine wpAt0 F ?_; clear F; intro wN F) | (refine wpAtN F ?_; clear F; intro wN F)
  refine region_freeD (E := leX) (fun f _ w v => if f = 23 then ∃ (s' : Value) (B : Nat), v = .agg #[s', .int .i64 k0, .int .i64 tk0, .float .f32 ta0, .float .f32 tb0, .float .f32 tc0, .float .f32 tx0, .float .f32 ty0, .int .i64 dk0, .float .f32 da0, .float .f32 db0, .float .f32 dc0, .float .f32 dx0, .float .f32 dy0, .float .f32 l0] ∧ RdS w B s' x0 n0 else v = .bool true) (by kernel_rfl) (by kernel_rfl) ?_
  refine wpFreeD_loadG F rfl rfl rfl rfl (by first | exact m0 | exact m1 | exact m2 | exact m3 | exact m4 | exact m5 | exact m6 | exact m7 | exact m8 | exact m9 | exact m10 | exact m11 | exact m12 | exact m13 | exact m14 | exact m15 | exact m16 | exact m17 | exact m18 | exact m19) Try.underlying48 rfl infoStr rfl ?_
  simp only [Act.put, List.setIfInBounds_toArray, List.set_cons_succ, List.set_cons_zero]
  refine wpFreeD_loadG F rfl rfl rfl rfl (by first | exact m0 | exact m1 | exact m2 | exact m3 | exact m4 | exact m5 | exact m6 | exact m7 | exact m8 | exact m9 | exact m10 | exact m11 | exact m12 | exact m13 | exact m14 | exact m15 | exact m16 | exact m17 | exact m18 | exact m19) Try.underlying44 rfl infoStrL rfl ?_
  simp only [Act.put, List.setIfInBounds_toArray, List.set_cons_succ, List.set_cons_zero]
  refine wpFreeD_callB rfl rfl Try.func23 (by kernel_rfl) (by kernel_rfl) (args := #[.agg #[s0, .int .i64 k0, .int .i64 tk0, .float .f32 ta0, .float .f32 tb0, .float .f32 tc0, .float .f32 tx0, .float .f32 ty0, .int .i64 dk0, .float .f32 da0, .float .f32 db0, .float .f32 dc0, .float .f32 dx0, .float .f32 dy0, .float .f32 l0]]) (by simp [Act.eval]) (fun v w1 w2 hw hv => by simp only [if_true] at hv ⊢; obtain ⟨u, B, h1, h2⟩ := hv; exact ⟨u, B, h1, h2.le hw⟩) (fun w1 hw1 _ => (toStringR _ s0 x0 n0 k0 tk0 ta0 tb0 tc0 tx0 ty0 dk0 da0 db0 dc0 dx0 dy0 l0 w1 (Z0.out.le (le_trans (F.drewN _).below hw1)) hn0).mono ?_) ?_
  · rintro e w2 ⟨u, rfl, ho, hl⟩
    exact ⟨_, rfl, hl, by simp only [if_true]; exact ⟨u, _, rfl, ho.rd⟩⟩
  rintro v ⟨_, _, _, hv⟩
  simp only [if_true] at hv
  obtain ⟨u0, Bu0, rfl, _⟩ := hv
  simp only [Act.put, List.setIfInBounds_toArray, List.set_cons_succ, List.set_cons_zero]
  refine wpFreeD_callB rfl rfl Try.func25 (by kernel_rfl) (by kernel_rfl) (args := #[.agg #[tB0, .int .i64 k0, .int .i64 tk0, .float .f32 ta0, .float .f32 tb0, .float .f32 tc0, .float .f32 tx0, .float .f32 ty0, .int .i64 dk0, .float .f32 da0, .float .f32 db0, .float .f32 dc0, .float .f32 dx0, .float .f32 dy0, .float .f32 l0], .agg #[u0, .int .i64 k0, .int .i64 tk0, .float .f32 ta0, .float .f32 tb0, .float .f32 tc0, .float .f32 tx0, .float .f32 ty0, .int .i64 dk0, .float .f32 da0, .float .f32 db0, .float .f32 dc0, .float .f32 dx0, .float .f32 dy0, .float .f32 l0]]) (by simp [Act.eval]) (fun v w1 w2 hw hv => by simp only [show ¬ (25 = 23) by decide, if_false] at hv ⊢; exact hv) (fun w1 hw1 hbe => ?_) ?_
  · have hk := (hbe ⟨2, Ground.data⟩ (by simp) (by kernel_rfl)).2 rfl
    simp only [if_true] at hk
    obtain ⟨u', B', he, hr⟩ := hk
    obtain rfl : u0 = u' := by simpa using he
    refine (eqStringR _ _ _ _ x0 n0 k0 tk0 ta0 tb0 tc0 tx0 ty0 dk0 da0 db0 dc0 dx0 dy0 l0 _ hn0 (((F.drewN 1).le hw1).own (by first | exact m0 | exact m1 | exact m2 | exact m3 | exact m4 | exact m5 | exact m6 | exact m7 | exact m8 | exact m9 | exact m10 | exact m11 | exact m12 | exact m13 | exact m14 | exact m15 | exact m16 | exact m17 | exact m18 | exact m19)).rd hr).mono ?_
    rintro e w2 ⟨rfl, hl⟩
    exact ⟨_, rfl, hl, by simp only [show ¬ (25 = 23) by decide, if_false]⟩
  rintro v ⟨_, _, _, hv⟩
  simp only [show ¬ (25 = 23) by decide, if_false] at hv
  subst hv
  simp only [Act.put, List.setIfInBounds_toArray, List.set_cons_succ, List.set_cons_zero]
  refine wpFreeD_one rfl (.bool false) (fun w1 _ => by kernel_rfl) ?_
  simp only [Act.put, List.setIfInBounds_toArray, List.set_cons_succ, List.set_cons_zero]
  refine wpFreeD_nil (fun wR hwR _ => ?_)
  replace F := (F.drewN 1).le hwR
  clear hwR
  go_wp2_with (first | (((with_reducible refine listN F ?_); clear F; intro wN F)) | ((with_reducible refine at_loadU rfl rfl ?_); first | (with_reducible refine wpList_loadG F rfl rfl rfl (by first | exact m0 | exact m1 | exact m2 | exact m3 | exact m4 | exact m5 | exact m6 | exact m7 | exact m8 | exact m9 | exact m10 | exact m11 | exact m12 | exact m13 | exact m14 | exact m15 | exact m16 | exact m17 | exact m18 | exact m19) Try.underlying48 rfl infoStr (by first | rfl | simp [size_ftab]) ?_) | (with_reducible refine wpList_loadG F rfl rfl rfl (by first | exact m0 | exact m1 | exact m2 | exact m3 | exact m4 | exact m5 | exact m6 | exact m7 | exact m8 | exact m9 | exact m10 | exact m11 | exact m12 | exact m13 | exact m14 | exact m15 | exact m16 | exact m17 | exact m18 | exact m19) Try.underlying44 rfl infoStrL (by first | rfl | simp [size_ftab]) ?_)) | ((with_reducible refine at_loadV rfl rfl ?_); first | (with_reducible refine wpList_loadGG F rfl rfl (by first | exact m0 | exact m1 | exact m2 | exact m3 | exact m4 | exact m5 | exact m6 | exact m7 | exact m8 | exact m9 | exact m10 | exact m11 | exact m12 | exact m13 | exact m14 | exact m15 | exact m16 | exact m17 | exact m18 | exact m19) Try.underlying48 rfl infoStr (by first | rfl | simp [size_ftab]) (by kernel_rfl) ?_) | (with_reducible refine wpList_loadGG F rfl rfl (by first | exact m0 | exact m1 | exact m2 | exact m3 | exact m4 | exact m5 | exact m6 | exact m7 | exact m8 | exact m9 | exact m10 | exact m11 | exact m12 | exact m13 | exact m14 | exact m15 | exact m16 | exact m17 | exact m18 | exact m19) Try.underlying44 rfl infoStrL (by first | rfl | simp [size_ftab]) (by kernel_rfl) ?_)))
  go_wp2_with (first | (((with_reducible refine listN F ?_); clear F; intro wN F)) | ((with_reducible refine at_loadU rfl rfl ?_); first | (with_reducible refine wpList_loadG F rfl rfl rfl (by first | exact m0 | exact m1 | exact m2 | exact m3 | exact m4 | exact m5 | exact m6 | exact m7 | exact m8 | exact m9 | exact m10 | exact m11 | exact m12 | exact m13 | exact m14 | exact m15 | exact m16 | exact m17 | exact m18 | exact m19) Try.underlying48 rfl infoStr (by first | rfl | simp [size_ftab]) ?_) | (with_reducible refine wpList_loadG F rfl rfl rfl (by first | exact m0 | exact m1 | exact m2 | exact m3 | exact m4 | exact m5 | exact m6 | exact m7 | exact m8 | exact m9 | exact m10 | exact m11 | exact m12 | exact m13 | exact m14 | exact m15 | exact m16 | exact m17 | exact m18 | exact m19) Try.underlying44 rfl infoStrL (by first | rfl | simp [size_ftab]) ?_)) | ((with_reducible refine at_loadV rfl rfl ?_); first | (with_reducible refine wpList_loadGG F rfl rfl (by first | exact m0 | exact m1 | exact m2 | exact m3 | exact m4 | exact m5 | exact m6 | exact m7 | exact m8 | exact m9 | exact m10 | exact m11 | exact m12 | exact m13 | exact m14 | exact m15 | exact m16 | exact m17 | exact m18 | exact m19) Try.underlying48 rfl infoStr (by first | rfl | simp [size_ftab]) (by kernel_rfl) ?_) | (with_reducible refine wpList_loadGG F rfl rfl (by first | exact m0 | exact m1 | exact m2 | exact m3 | exact m4 | exact m5 | exact m6 | exact m7 | exact m8 | exact m9 | exact m10 | exact m11 | exact m12 | exact m13 | exact m14 | exact m15 | exact m16 | exact m17 | exact m18 | exact m19) Try.underlying44 rfl infoStrL (by first | rfl | simp [size_ftab]) (by kernel_rfl) ?_)) | (go_at_call 29; ((with_reducible refine (toR _ s2 x2 n2 _ (Z2.out.le (by first | exact F.below)) hn2).mono ?_); rintro e w1 ⟨tD2, rfl, ho1, hl1⟩; have oc := hid (OwnS.one ho1); (first | replace F := F.own1 hl1 ho1); clear hl1 ho1)) | (go_at_call 31; ((with_reducible refine (eqR _ _ _ _ x2 n2 _ hn2 (by first | exact (F.own (by first | exact m0 | exact m1 | exact m2 | exact m3 | exact m4 | exact m5 | exact m6 | exact m7 | exact m8 | exact m9 | exact m10 | exact m11 | exact m12 | exact m13 | exact m14 | exact m15 | exact m16 | exact m17 | exact m18 | exact m19)).rd) (by first | exact (F.own (by first | exact m0 | exact m1 | exact m2 | exact m3 | exact m4 | exact m5 | exact m6 | exact m7 | exact m8 | exact m9 | exact m10 | exact m11 | exact m12 | exact m13 | exact m14 | exact m15 | exact m16 | exact m17 | exact m18 | exact m19)).rd)).mono ?_); rintro e w7 ⟨rfl, dq7, rfl⟩; replace F := F.drewN dq7)))
  first | ((with_reducible refine callAt0 F ?_); clear F; intro wN F) | ((with_reducible refine callAtN F ?_); clear F; intro wN F)
  refine (markStringR _ _ _ x0 n0 k0 tk0 ta0 tb0 tc0 tx0 ty0 dk0 da0 db0 dc0 dx0 dy0 l0 1 _ hn0 (by omega) (by omega) (F.own (by first | exact m0 | exact m1 | exact m2 | exact m3 | exact m4 | exact m5 | exact m6 | exact m7 | exact m8 | exact m9 | exact m10 | exact m11 | exact m12 | exact m13 | exact m14 | exact m15 | exact m16 | exact m17 | exact m18 | exact m19))).mono ?_
  rintro e w4 ⟨rfl, hR, hU⟩
  (first | replace F := F.mark0 hR hU | replace F := F.mark1 hR hU | replace F := F.mark2 hR hU | replace F := F.mark3 hR hU | replace F := F.mark4 hR hU | replace F := F.mark5 hR hU | replace F := F.mark6 hR hU | replace F := F.mark7 hR hU | replace F := F.mark8 hR hU | replace F := F.mark9 hR hU | replace F := F.mark10 hR hU | replace F := F.mark11 hR hU | replace F := F.mark12 hR hU | replace F := F.mark13 hR hU | replace F := F.mark14 hR hU | replace F := F.mark15 hR hU | replace F := F.mark16 hR hU); clear hR hU
  go_wp2_with (first | (((with_reducible refine listN F ?_); clear F; intro wN F)) | ((with_reducible refine at_loadU rfl rfl ?_); first | (with_reducible refine wpList_loadG F rfl rfl rfl (by first | exact m0 | exact m1 | exact m2 | exact m3 | exact m4 | exact m5 | exact m6 | exact m7 | exact m8 | exact m9 | exact m10 | exact m11 | exact m12 | exact m13 | exact m14 | exact m15 | exact m16 | exact m17 | exact m18 | exact m19) Try.underlying48 rfl infoStr (by first | rfl | simp [size_ftab]) ?_) | (with_reducible refine wpList_loadG F rfl rfl rfl (by first | exact m0 | exact m1 | exact m2 | exact m3 | exact m4 | exact m5 | exact m6 | exact m7 | exact m8 | exact m9 | exact m10 | exact m11 | exact m12 | exact m13 | exact m14 | exact m15 | exact m16 | exact m17 | exact m18 | exact m19) Try.underlying44 rfl infoStrL (by first | rfl | simp [size_ftab]) ?_)) | ((with_reducible refine at_loadV rfl rfl ?_); first | (with_reducible refine wpList_loadGG F rfl rfl (by first | exact m0 | exact m1 | exact m2 | exact m3 | exact m4 | exact m5 | exact m6 | exact m7 | exact m8 | exact m9 | exact m10 | exact m11 | exact m12 | exact m13 | exact m14 | exact m15 | exact m16 | exact m17 | exact m18 | exact m19) Try.underlying48 rfl infoStr (by first | rfl | simp [size_ftab]) (by kernel_rfl) ?_) | (with_reducible refine wpList_loadGG F rfl rfl (by first | exact m0 | exact m1 | exact m2 | exact m3 | exact m4 | exact m5 | exact m6 | exact m7 | exact m8 | exact m9 | exact m10 | exact m11 | exact m12 | exact m13 | exact m14 | exact m15 | exact m16 | exact m17 | exact m18 | exact m19) Try.underlying44 rfl infoStrL (by first | rfl | simp [size_ftab]) (by kernel_rfl) ?_)))
  first | ((with_reducible refine callAt0 F ?_); clear F; intro wN F) | ((with_reducible refine callAtN F ?_); clear F; intro wN F)
  refine (markR _ _ _ x2 n2 (1 + n0) _ hn2 (by omega) (by omega) (F.own (by first | exact m0 | exact m1 | exact m2 | exact m3 | exact m4 | exact m5 | exact m6 | exact m7 | exact m8 | exact m9 | exact m10 | exact m11 | exact m12 | exact m13 | exact m14 | exact m15 | exact m16 | exact m17 | exact m18 | exact m19))).mono ?_
  rintro e w4 ⟨rfl, hR, hU, _⟩
  (first | replace F := F.mark0 hR hU | replace F := F.mark1 hR hU | replace F := F.mark2 hR hU | replace F := F.mark3 hR hU | replace F := F.mark4 hR hU | replace F := F.mark5 hR hU | replace F := F.mark6 hR hU | replace F := F.mark7 hR hU | replace F := F.mark8 hR hU | replace F := F.mark9 hR hU | replace F := F.mark10 hR hU | replace F := F.mark11 hR hU | replace F := F.mark12 hR hU | replace F := F.mark13 hR hU | replace F := F.mark14 hR hU | replace F := F.mark15 hR hU | replace F := F.mark16 hR hU); clear hR hU
  go_wp2_with (first | (((with_reducible refine listN F ?_); clear F; intro wN F)) | ((with_reducible refine at_store rfl ?_); first | (refine wpList_storeG F rfl rfl rfl rfl rfl infoStr rfl (by first | exact one_head (Hid.out (by assumption)) rfl | (simp [Value.oneCell']; done)) ?_; clear F; intro W F zW; clear zW)) | ((with_reducible refine at_loadU rfl rfl ?_); first | (with_reducible refine wpList_loadG F rfl rfl rfl (by first | exact m0 | exact m1 | exact m2 | exact m3 | exact m4 | exact m5 | exact m6 | exact m7 | exact m8 | exact m9 | exact m10 | exact m11 | exact m12 | exact m13 | exact m14 | exact m15 | exact m16 | exact m17 | exact m18 | exact m19) Try.underlying48 rfl infoStr (by first | rfl | simp [size_ftab]) ?_) | (with_reducible refine wpList_loadG F rfl rfl rfl (by first | exact m0 | exact m1 | exact m2 | exact m3 | exact m4 | exact m5 | exact m6 | exact m7 | exact m8 | exact m9 | exact m10 | exact m11 | exact m12 | exact m13 | exact m14 | exact m15 | exact m16 | exact m17 | exact m18 | exact m19) Try.underlying44 rfl infoStrL (by first | rfl | simp [size_ftab]) ?_)) | ((with_reducible refine at_loadV rfl rfl ?_); first | (with_reducible refine wpList_loadGG F rfl rfl (by first | exact m0 | exact m1 | exact m2 | exact m3 | exact m4 | exact m5 | exact m6 | exact m7 | exact m8 | exact m9 | exact m10 | exact m11 | exact m12 | exact m13 | exact m14 | exact m15 | exact m16 | exact m17 | exact m18 | exact m19) Try.underlying48 rfl infoStr (by first | rfl | simp [size_ftab]) (by kernel_rfl) ?_) | (with_reducible refine wpList_loadGG F rfl rfl (by first | exact m0 | exact m1 | exact m2 | exact m3 | exact m4 | exact m5 | exact m6 | exact m7 | exact m8 | exact m9 | exact m10 | exact m11 | exact m12 | exact m13 | exact m14 | exact m15 | exact m16 | exact m17 | exact m18 | exact m19) Try.underlying44 rfl infoStrL (by first | rfl | simp [size_ftab]) (by kernel_rfl) ?_)) | (go_at_call 25; ((with_reducible refine (eqStringR _ _ _ _ xr0 nr0 kr0 tkr0 tar0 tbr0 tcr0 txr0 tyr0 dkr0 dar0 dbr0 dcr0 dxr0 dyr0 lr0 _ hr0 (by first | exact (F.own (by first | exact m0 | exact m1 | exact m2 | exact m3 | exact m4 | exact m5 | exact m6 | exact m7 | exact m8 | exact m9 | exact m10 | exact m11 | exact m12 | exact m13 | exact m14 | exact m15 | exact m16 | exact m17 | exact m18 | exact m19)).rd) (by first | exact (F.own (by first | exact m0 | exact m1 | exact m2 | exact m3 | exact m4 | exact m5 | exact m6 | exact m7 | exact m8 | exact m9 | exact m10 | exact m11 | exact m12 | exact m13 | exact m14 | exact m15 | exact m16 | exact m17 | exact m18 | exact m19)).rd)).mono ?_); rintro e w7 ⟨rfl, hb7⟩; (replace F := F.le hb7))))
  first | ((with_reducible refine callAt0 F ?_); clear F; intro wN F) | ((with_reducible refine callAtN F ?_); clear F; intro wN F)
  refine (markStringR _ _ _ xr0 nr0 kr0 tkr0 tar0 tbr0 tcr0 txr0 tyr0 dkr0 dar0 dbr0 dcr0 dxr0 dyr0 lr0 1 _ hr0 (by omega) (by omega) (F.own (by first | exact m0 | exact m1 | exact m2 | exact m3 | exact m4 | exact m5 | exact m6 | exact m7 | exact m8 | exact m9 | exact m10 | exact m11 | exact m12 | exact m13 | exact m14 | exact m15 | exact m16 | exact m17 | exact m18 | exact m19))).mono ?_
  rintro e w5 ⟨rfl, hR, hU⟩
  (first | replace F := F.mark0 hR hU | replace F := F.mark1 hR hU | replace F := F.mark2 hR hU | replace F := F.mark3 hR hU | replace F := F.mark4 hR hU | replace F := F.mark5 hR hU | replace F := F.mark6 hR hU | replace F := F.mark7 hR hU | replace F := F.mark8 hR hU | replace F := F.mark9 hR hU | replace F := F.mark10 hR hU | replace F := F.mark11 hR hU | replace F := F.mark12 hR hU | replace F := F.mark13 hR hU | replace F := F.mark14 hR hU | replace F := F.mark15 hR hU | replace F := F.mark16 hR hU); clear hR hU
  go_wp2_with (first | (((with_reducible refine listN F ?_); clear F; intro wN F)) | ((with_reducible refine at_loadU rfl rfl ?_); first | (with_reducible refine wpList_loadG F rfl rfl rfl (by first | exact m0 | exact m1 | exact m2 | exact m3 | exact m4 | exact m5 | exact m6 | exact m7 | exact m8 | exact m9 | exact m10 | exact m11 | exact m12 | exact m13 | exact m14 | exact m15 | exact m16 | exact m17 | exact m18 | exact m19) Try.underlying48 rfl infoStr (by first | rfl | simp [size_ftab]) ?_) | (with_reducible refine wpList_loadG F rfl rfl rfl (by first | exact m0 | exact m1 | exact m2 | exact m3 | exact m4 | exact m5 | exact m6 | exact m7 | exact m8 | exact m9 | exact m10 | exact m11 | exact m12 | exact m13 | exact m14 | exact m15 | exact m16 | exact m17 | exact m18 | exact m19) Try.underlying44 rfl infoStrL (by first | rfl | simp [size_ftab]) ?_)) | ((with_reducible refine at_loadV rfl rfl ?_); first | (with_reducible refine wpList_loadGG F rfl rfl (by first | exact m0 | exact m1 | exact m2 | exact m3 | exact m4 | exact m5 | exact m6 | exact m7 | exact m8 | exact m9 | exact m10 | exact m11 | exact m12 | exact m13 | exact m14 | exact m15 | exact m16 | exact m17 | exact m18 | exact m19) Try.underlying48 rfl infoStr (by first | rfl | simp [size_ftab]) (by kernel_rfl) ?_) | (with_reducible refine wpList_loadGG F rfl rfl (by first | exact m0 | exact m1 | exact m2 | exact m3 | exact m4 | exact m5 | exact m6 | exact m7 | exact m8 | exact m9 | exact m10 | exact m11 | exact m12 | exact m13 | exact m14 | exact m15 | exact m16 | exact m17 | exact m18 | exact m19) Try.underlying44 rfl infoStrL (by first | rfl | simp [size_ftab]) (by kernel_rfl) ?_)) | (go_at_call 27; ((with_reducible refine (heldStringR _ _ nr0 kr0 tkr0 tar0 tbr0 tcr0 txr0 tyr0 dkr0 dar0 dbr0 dcr0 dxr0 dyr0 lr0 1 _ hr0 (by omega) (by omega) (F.own (by first | exact m0 | exact m1 | exact m2 | exact m3 | exact m4 | exact m5 | exact m6 | exact m7 | exact m8 | exact m9 | exact m10 | exact m11 | exact m12 | exact m13 | exact m14 | exact m15 | exact m16 | exact m17 | exact m18 | exact m19)).rd).mono ?_); rintro e w6 ⟨rfl, hb6⟩; (replace F := F.le hb6))) | (go_at_call 23; ((with_reducible refine (toStringR _ s0 x0 n0 k0 tk0 ta0 tb0 tc0 tx0 ty0 dk0 da0 db0 dc0 dx0 dy0 l0 _ (Z0.out.le (by first | exact F.below)) hn0).mono ?_); rintro e w1 ⟨tC0, rfl, ho1, hl1⟩; have oc := hid (OwnS.one ho1); (first | replace F := F.own1 hl1 ho1); clear hl1 ho1)) | (go_at_call 29; ((with_reducible refine (toR _ s2 x2 n2 _ (Z2.out.le (by first | exact F.below)) hn2).mono ?_); rintro e w1 ⟨tC2, rfl, ho1, hl1⟩; have oc := hid (OwnS.one ho1); (first | replace F := F.own1 hl1 ho1); clear hl1 ho1)))
  first | ((with_reducible refine callAt0 F ?_); clear F; intro wN F) | ((with_reducible refine callAtN F ?_); clear F; intro wN F)
  refine (HI.out _ _ _ _ _ (by first | exact (F.own (by first | exact m0 | exact m1 | exact m2 | exact m3 | exact m4 | exact m5 | exact m6 | exact m7 | exact m8 | exact m9 | exact m10 | exact m11 | exact m12 | exact m13 | exact m14 | exact m15 | exact m16 | exact m17 | exact m18 | exact m19)).rd) (by first | exact (F.own (by first | exact m0 | exact m1 | exact m2 | exact m3 | exact m4 | exact m5 | exact m6 | exact m7 | exact m8 | exact m9 | exact m10 | exact m11 | exact m12 | exact m13 | exact m14 | exact m15 | exact m16 | exact m17 | exact m18 | exact m19)).rd)).mono ?_
  rintro e wH ⟨vH0, rfl, oH0, hlH⟩
  have oc := hid (OwnS.one oH0); (first | replace F := F.own1 hlH oH0); clear hlH oH0
  go_wp2_with (first | (((with_reducible refine listN F ?_); clear F; intro wN F)) | ((with_reducible refine at_store rfl ?_); first | (refine wpList_storeG F rfl rfl rfl rfl rfl infoStr rfl (by first | exact one_head (Hid.out (by assumption)) rfl | (simp [Value.oneCell']; done)) ?_; clear F; intro W F zW; clear zW)) | ((with_reducible refine at_loadU rfl rfl ?_); first | (with_reducible refine wpList_loadG F rfl rfl rfl (by first | exact m0 | exact m1 | exact m2 | exact m3 | exact m4 | exact m5 | exact m6 | exact m7 | exact m8 | exact m9 | exact m10 | exact m11 | exact m12 | exact m13 | exact m14 | exact m15 | exact m16 | exact m17 | exact m18 | exact m19) Try.underlying48 rfl infoStr (by first | rfl | simp [size_ftab]) ?_) | (with_reducible refine wpList_loadG F rfl rfl rfl (by first | exact m0 | exact m1 | exact m2 | exact m3 | exact m4 | exact m5 | exact m6 | exact m7 | exact m8 | exact m9 | exact m10 | exact m11 | exact m12 | exact m13 | exact m14 | exact m15 | exact m16 | exact m17 | exact m18 | exact m19) Try.underlying44 rfl infoStrL (by first | rfl | simp [size_ftab]) ?_)) | ((with_reducible refine at_loadV rfl rfl ?_); first | (with_reducible refine wpList_loadGG F rfl rfl (by first | exact m0 | exact m1 | exact m2 | exact m3 | exact m4 | exact m5 | exact m6 | exact m7 | exact m8 | exact m9 | exact m10 | exact m11 | exact m12 | exact m13 | exact m14 | exact m15 | exact m16 | exact m17 | exact m18 | exact m19) Try.underlying48 rfl infoStr (by first | rfl | simp [size_ftab]) (by kernel_rfl) ?_) | (with_reducible refine wpList_loadGG F rfl rfl (by first | exact m0 | exact m1 | exact m2 | exact m3 | exact m4 | exact m5 | exact m6 | exact m7 | exact m8 | exact m9 | exact m10 | exact m11 | exact m12 | exact m13 | exact m14 | exact m15 | exact m16 | exact m17 | exact m18 | exact m19) Try.underlying44 rfl infoStrL (by first | rfl | simp [size_ftab]) (by kernel_rfl) ?_)) | (go_at_call 25; ((with_reducible refine (eqStringR _ _ _ _ xr0 nr0 kr0 tkr0 tar0 tbr0 tcr0 txr0 tyr0 dkr0 dar0 dbr0 dcr0 dxr0 dyr0 lr0 _ hr0 (by first | exact (F.own (by first | exact m0 | exact m1 | exact m2 | exact m3 | exact m4 | exact m5 | exact m6 | exact m7 | exact m8 | exact m9 | exact m10 | exact m11 | exact m12 | exact m13 | exact m14 | exact m15 | exact m16 | exact m17 | exact m18 | exact m19)).rd) (by first | exact (F.own (by first | exact m0 | exact m1 | exact m2 | exact m3 | exact m4 | exact m5 | exact m6 | exact m7 | exact m8 | exact m9 | exact m10 | exact m11 | exact m12 | exact m13 | exact m14 | exact m15 | exact m16 | exact m17 | exact m18 | exact m19)).rd)).mono ?_); rintro e w7 ⟨rfl, hb7⟩; (replace F := F.le hb7))) | (go_at_call 27; ((with_reducible refine (heldStringR _ _ nr0 kr0 tkr0 tar0 tbr0 tcr0 txr0 tyr0 dkr0 dar0 dbr0 dcr0 dxr0 dyr0 lr0 1 _ hr0 (by omega) (by omega) (F.own (by first | exact m0 | exact m1 | exact m2 | exact m3 | exact m4 | exact m5 | exact m6 | exact m7 | exact m8 | exact m9 | exact m10 | exact m11 | exact m12 | exact m13 | exact m14 | exact m15 | exact m16 | exact m17 | exact m18 | exact m19)).rd).mono ?_); rintro e w6 ⟨rfl, hb6⟩; (replace F := F.le hb6))))
  go_ret
  first | exact ⟨rfl, F.below⟩ | exact ⟨rfl, below_drewN F.below _⟩
set_option maxRecDepth 100000 in
set_option maxHeartbeats 2000000 in
theorem large2 (s0 : Value) (x0 : Nat → Nat) (n0 : Nat) (k0 : Int) (tk0 : Int) (ta0 : Nat) (tb0 : Nat) (tc0 : Nat) (tx0 : Nat) (ty0 : Nat) (dk0 : Int) (da0 : Nat) (db0 : Nat) (dc0 : Nat) (dx0 : Nat) (dy0 : Nat) (l0 : Nat) (a1 : Nat) (s2 : Value) (x2 : Nat → Nat) (n2 : Nat) (w : World) (z0 : RdS w w.heap.size s0 x0 n0) (z2 : RdS w w.heap.size s2 x2 n2)  (hl : ¬ n2 ≤ 1048576) :
    Calls Try.prog 6 #[.agg #[s0, .int .i64 k0, .int .i64 tk0, .float .f32 ta0, .float .f32 tb0, .float .f32 tc0, .float .f32 tx0, .float .f32 ty0, .int .i64 dk0, .float .f32 da0, .float .f32 db0, .float .f32 dc0, .float .f32 dx0, .float .f32 dy0, .float .f32 l0], .float .f32 a1, s2] w fun e w' => e = .returned (.bool true) ∧ Below w.heap.size w w' := by
  have Z0 := hid z0; have hs0 := z0.small; clear z0
  have Z2 := hid z2; have hs2 := z2.small; clear z2
  have hm2 : (1048576 : Int) < n2 := by omega
  have F := Frg.nil w
  replace F := F.box 44 (#[s0, .int .i64 k0, .int .i64 tk0, .float .f32 ta0, .float .f32 tb0, .float .f32 tc0, .float .f32 tx0, .float .f32 ty0, .int .i64 dk0, .float .f32 da0, .float .f32 db0, .float .f32 dc0, .float .f32 dx0, .float .f32 dy0, .float .f32 l0])
  go_enter Try.func6, Try.ntmps6
  go_wp2_with (first | (((with_reducible refine listN F ?_); clear F; intro wN F)) | ((with_reducible refine at_loadU rfl rfl ?_); first | (with_reducible refine wpList_loadG F rfl rfl rfl (by first | exact m0 | exact m1 | exact m2 | exact m3 | exact m4 | exact m5 | exact m6 | exact m7 | exact m8 | exact m9 | exact m10 | exact m11 | exact m12 | exact m13 | exact m14 | exact m15 | exact m16 | exact m17 | exact m18 | exact m19) Try.underlying48 rfl infoStr (by first | rfl | simp [size_ftab]) ?_) | (with_reducible refine wpList_loadG F rfl rfl rfl (by first | exact m0 | exact m1 | exact m2 | exact m3 | exact m4 | exact m5 | exact m6 | exact m7 | exact m8 | exact m9 | exact m10 | exact m11 | exact m12 | exact m13 | exact m14 | exact m15 | exact m16 | exact m17 | exact m18 | exact m19) Try.underlying44 rfl infoStrL (by first | rfl | simp [size_ftab]) ?_)) | ((with_reducible refine at_loadV rfl rfl ?_); first | (with_reducible refine wpList_loadGG F rfl rfl (by first | exact m0 | exact m1 | exact m2 | exact m3 | exact m4 | exact m5 | exact m6 | exact m7 | exact m8 | exact m9 | exact m10 | exact m11 | exact m12 | exact m13 | exact m14 | exact m15 | exact m16 | exact m17 | exact m18 | exact m19) Try.underlying48 rfl infoStr (by first | rfl | simp [size_ftab]) (by kernel_rfl) ?_) | (with_reducible refine wpList_loadGG F rfl rfl (by first | exact m0 | exact m1 | exact m2 | exact m3 | exact m4 | exact m5 | exact m6 | exact m7 | exact m8 | exact m9 | exact m10 | exact m11 | exact m12 | exact m13 | exact m14 | exact m15 | exact m16 | exact m17 | exact m18 | exact m19) Try.underlying44 rfl infoStrL (by first | rfl | simp [size_ftab]) (by kernel_rfl) ?_)) | (with_reducible refine wpList_lenR rfl rfl rfl Try.underlying40 Z2.out ?_))
  go_ret
  first | exact ⟨rfl, F.below⟩ | exact ⟨rfl, below_drewN F.below _⟩
set_option maxRecDepth 100000 in
set_option maxHeartbeats 2000000 in
theorem large0 (s0 : Value) (x0 : Nat → Nat) (n0 : Nat) (k0 : Int) (tk0 : Int) (ta0 : Nat) (tb0 : Nat) (tc0 : Nat) (tx0 : Nat) (ty0 : Nat) (dk0 : Int) (da0 : Nat) (db0 : Nat) (dc0 : Nat) (dx0 : Nat) (dy0 : Nat) (l0 : Nat) (a1 : Nat) (s2 : Value) (x2 : Nat → Nat) (n2 : Nat) (w : World) (z0 : RdS w w.heap.size s0 x0 n0) (z2 : RdS w w.heap.size s2 x2 n2) (h2 : n2 ≤ 1048576) (hl : ¬ n0 ≤ 1048576) :
    Calls Try.prog 6 #[.agg #[s0, .int .i64 k0, .int .i64 tk0, .float .f32 ta0, .float .f32 tb0, .float .f32 tc0, .float .f32 tx0, .float .f32 ty0, .int .i64 dk0, .float .f32 da0, .float .f32 db0, .float .f32 dc0, .float .f32 dx0, .float .f32 dy0, .float .f32 l0], .float .f32 a1, s2] w fun e w' => e = .returned (.bool true) ∧ Below w.heap.size w w' := by
  have Z0 := hid z0; have hs0 := z0.small; clear z0
  have Z2 := hid z2; have hs2 := z2.small; clear z2
  have hm2 : ¬ (1048576 : Int) < n2 := by omega
  have F := Frg.nil w
  replace F := F.box 44 (#[s0, .int .i64 k0, .int .i64 tk0, .float .f32 ta0, .float .f32 tb0, .float .f32 tc0, .float .f32 tx0, .float .f32 ty0, .int .i64 dk0, .float .f32 da0, .float .f32 db0, .float .f32 dc0, .float .f32 dx0, .float .f32 dy0, .float .f32 l0])
  go_enter Try.func6, Try.ntmps6
  go_wp2_with (first | (((with_reducible refine listN F ?_); clear F; intro wN F)) | ((with_reducible refine at_loadU rfl rfl ?_); first | (with_reducible refine wpList_loadG F rfl rfl rfl (by first | exact m0 | exact m1 | exact m2 | exact m3 | exact m4 | exact m5 | exact m6 | exact m7 | exact m8 | exact m9 | exact m10 | exact m11 | exact m12 | exact m13 | exact m14 | exact m15 | exact m16 | exact m17 | exact m18 | exact m19) Try.underlying48 rfl infoStr (by first | rfl | simp [size_ftab]) ?_) | (with_reducible refine wpList_loadG F rfl rfl rfl (by first | exact m0 | exact m1 | exact m2 | exact m3 | exact m4 | exact m5 | exact m6 | exact m7 | exact m8 | exact m9 | exact m10 | exact m11 | exact m12 | exact m13 | exact m14 | exact m15 | exact m16 | exact m17 | exact m18 | exact m19) Try.underlying44 rfl infoStrL (by first | rfl | simp [size_ftab]) ?_)) | ((with_reducible refine at_loadV rfl rfl ?_); first | (with_reducible refine wpList_loadGG F rfl rfl (by first | exact m0 | exact m1 | exact m2 | exact m3 | exact m4 | exact m5 | exact m6 | exact m7 | exact m8 | exact m9 | exact m10 | exact m11 | exact m12 | exact m13 | exact m14 | exact m15 | exact m16 | exact m17 | exact m18 | exact m19) Try.underlying48 rfl infoStr (by first | rfl | simp [size_ftab]) (by kernel_rfl) ?_) | (with_reducible refine wpList_loadGG F rfl rfl (by first | exact m0 | exact m1 | exact m2 | exact m3 | exact m4 | exact m5 | exact m6 | exact m7 | exact m8 | exact m9 | exact m10 | exact m11 | exact m12 | exact m13 | exact m14 | exact m15 | exact m16 | exact m17 | exact m18 | exact m19) Try.underlying44 rfl infoStrL (by first | rfl | simp [size_ftab]) (by kernel_rfl) ?_)) | (with_reducible refine wpList_lenR rfl rfl rfl Try.underlying40 Z2.out ?_) | (go_at_call 21; ((with_reducible refine (szStringRM_no _ s0 x0 n0 k0 tk0 ta0 tb0 tc0 tx0 ty0 dk0 da0 db0 dc0 dx0 dy0 l0 (1048576 : Int) _ (Z0.out.le (by first | exact F.below)) (by omega) (by omega) (by omega)).mono ?_); rintro e w1 ⟨rfl, hb1⟩; (replace F := F.le hb1))))
  go_ret
  first | exact ⟨rfl, F.below⟩ | exact ⟨rfl, below_drewN F.below _⟩
theorem walk (s0 : Value) (y0 : Nat → Nat) (n0 : Nat) (k0 : Int) (tk0 : Int) (ta0 : Nat) (tb0 : Nat) (tc0 : Nat) (tx0 : Nat) (ty0 : Nat) (dk0 : Int) (da0 : Nat) (db0 : Nat) (dc0 : Nat) (dx0 : Nat) (dy0 : Nat) (l0 : Nat) (a1 : Nat) (s2 : Value) (y2 : Nat → Nat) (n2 : Nat) (w : World) (w0 : (Lit.int .i64 k0).wf = true ∧ (Lit.int .i64 tk0).wf = true ∧ fits .f32 ta0 ∧ fits .f32 tb0 ∧ fits .f32 tc0 ∧ fits .f32 tx0 ∧ fits .f32 ty0 ∧ (Lit.int .i64 dk0).wf = true ∧ fits .f32 da0 ∧ fits .f32 db0 ∧ fits .f32 dc0 ∧ fits .f32 dx0 ∧ fits .f32 dy0 ∧ fits .f32 l0) (z0 : SlIn w s0 y0 n0) (w1 : fits .f32 a1) (z2 : SlIn w s2 y2 n2) :
    Calls Try.prog 6 #[.agg #[s0, .int .i64 k0, .int .i64 tk0, .float .f32 ta0, .float .f32 tb0, .float .f32 tc0, .float .f32 tx0, .float .f32 ty0, .int .i64 dk0, .float .f32 da0, .float .f32 db0, .float .f32 dc0, .float .f32 dx0, .float .f32 dy0, .float .f32 l0], .float .f32 a1, s2] w fun e w' => e = .returned (.bool true) ∧ Below w.heap.size w w' := by
  by_cases h2 : n2 ≤ 1048576
  · skip
    by_cases h0 : n0 ≤ 1048576
    · skip
      obtain ⟨xr0, nr0, kr0, tkr0, tar0, tbr0, tcr0, txr0, tyr0, dkr0, dar0, dbr0, dcr0, dxr0, dyr0, lr0, ar1, hr0, hS, hI⟩ := both_StrikeString (fun i => can .f32 (y0 i)) n0 k0 tk0 ta0 tb0 tc0 tx0 ty0 dk0 da0 db0 dc0 dx0 dy0 l0 a1 (fun i => can .f32 (y2 i)) n2 w0
      exact core s0 (fun i => can .f32 (y0 i)) n0 k0 tk0 ta0 tb0 tc0 tx0 ty0 dk0 da0 db0 dc0 dx0 dy0 l0 a1 s2 (fun i => can .f32 (y2 i)) n2 xr0 nr0 kr0 tkr0 tar0 tbr0 tcr0 txr0 tyr0 dkr0 dar0 dbr0 dcr0 dxr0 dyr0 lr0 ar1 w z0.rd (by omega) z2.rd (by omega) hr0 hS hI
    · exact large0 s0 (fun i => can .f32 (y0 i)) n0 k0 tk0 ta0 tb0 tc0 tx0 ty0 dk0 da0 db0 dc0 dx0 dy0 l0 a1 s2 (fun i => can .f32 (y2 i)) n2 w z0.rd z2.rd h2 h0
  · exact large2 s0 (fun i => can .f32 (y0 i)) n0 k0 tk0 ta0 tb0 tc0 tx0 ty0 dk0 da0 db0 dc0 dx0 dy0 l0 a1 s2 (fun i => can .f32 (y2 i)) n2 w z0.rd z2.rd  h2
end Go.Proofs.Ytmacednkpjfokaa.fnExactStrikeString
