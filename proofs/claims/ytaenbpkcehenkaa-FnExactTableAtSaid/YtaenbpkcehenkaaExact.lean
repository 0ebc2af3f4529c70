/- Exactness: what a format has is written as it stands. Nothing here names a program. -/
import Derived.Test.YtaenbpkcehenkaaConv
namespace Go.Fk
open Go Go.RowKit

theorem cut_zero (s : Bool) (n : Nat) : Ieee.Toward.even.cut s n 0 = n := by
  simp [Ieee.Toward.cut, Nat.mod_one]

/-- What is cut off leaves nothing behind: the quotient. -/
theorem cut_exact (s : Bool) (n d : Nat) : Ieee.Toward.even.cut s (n * 2 ^ d) d = n := by
  by_cases hn : n = 0
  · subst hn
    have hp := Nat.two_pow_pos (min d (Nat.log2 0 + 2))
    simp only [Ieee.Toward.cut, Nat.zero_mul, Nat.one_shiftLeft, Nat.zero_div, Nat.zero_mod]
    simp
  · have h0 : n * 2 ^ d ≠ 0 := Nat.mul_ne_zero hn (Nat.ne_of_gt (Nat.two_pow_pos d))
    have hd : d ≤ (n * 2 ^ d).log2 := by
      refine (Nat.le_log2 h0).2 ?_
      exact Nat.le_mul_of_pos_left _ (by omega)
    have hp := Nat.two_pow_pos d
    simp only [Ieee.Toward.cut, Nat.one_shiftLeft]
    rw [Nat.min_eq_left (by omega), Nat.mul_div_cancel _ hp, Nat.mul_mod_left]
    simp

theorem cut_scale (s : Bool) (n d j : Nat) (hn : n ≠ 0) : Ieee.Toward.even.cut s (n * 2 ^ j) (d + j) = Ieee.Toward.even.cut s n d := by
  have hl : (n * 2 ^ j).log2 = n.log2 + j := by
    have h0 : n * 2 ^ j ≠ 0 := Nat.mul_ne_zero hn (Nat.ne_of_gt (Nat.two_pow_pos j))
    refine (Nat.log2_eq_iff h0).2 ⟨?_, ?_⟩
    · rw [Nat.pow_add]; exact Nat.mul_le_mul_right _ (Nat.log2_self_le hn)
    · rw [show n.log2 + j + 1 = (n.log2 + 1) + j by omega, Nat.pow_add]
      exact Nat.mul_lt_mul_of_pos_right Nat.lt_log2_self (Nat.two_pow_pos j)
  have hp := Nat.two_pow_pos j
  simp only [Ieee.Toward.cut, Nat.one_shiftLeft, hl]
  rw [show min (d + j) (n.log2 + j + 2) = min d (n.log2 + 2) + j by omega, Nat.pow_add, Nat.mul_div_mul_right _ _ hp, Nat.mul_mod_mul_right]
  generalize 2 ^ min d (n.log2 + 2) = g
  have e1 : decide (g * 2 ^ j < 2 * (n % g * 2 ^ j)) = decide (g < 2 * (n % g)) := by
    rw [← Nat.mul_assoc]
    exact decide_eq_decide.2 (Nat.mul_lt_mul_right hp)
  have e2 : (g * 2 ^ j == 2 * (n % g * 2 ^ j)) = (g == 2 * (n % g)) := by
    rw [← Nat.mul_assoc, Bool.eq_iff_iff, beq_iff_eq, beq_iff_eq]
    exact Nat.mul_left_inj (by omega)
  rw [e1, e2]

theorem log2_scale {n : Nat} (hn : n ≠ 0) (j : Nat) : (n * 2 ^ j).log2 = n.log2 + j := by
  have h0 : n * 2 ^ j ≠ 0 := Nat.mul_ne_zero hn (Nat.ne_of_gt (Nat.two_pow_pos j))
  refine (Nat.log2_eq_iff h0).2 ⟨?_, ?_⟩
  · rw [Nat.pow_add]; exact Nat.mul_le_mul_right _ (Nat.log2_self_le hn)
  · rw [show n.log2 + j + 1 = (n.log2 + 1) + j by omega, Nat.pow_add]
    exact Nat.mul_lt_mul_of_pos_right Nat.lt_log2_self (Nat.two_pow_pos j)

/-- What is written speaks of the number alone, not of how it is split. -/
theorem nearest_scale (f : Ieee.Format) (s : Bool) (m j : Nat) (e : Int) : f.nearest s (m * 2 ^ j) (e - j) = f.nearest s m e := by
  by_cases hm : m = 0
  · subst hm; simp [Ieee.Format.nearest]
  have h0 : m * 2 ^ j ≠ 0 := Nat.mul_ne_zero hm (Nat.ne_of_gt (Nat.two_pow_pos j))
  unfold Ieee.Format.nearest
  rw [if_neg hm, if_neg h0, log2_scale hm]
  rw [show e - (j : Int) + ((m.log2 + j : Nat) : Int) - f.fractionBits = e + m.log2 - f.fractionBits by omega]
  generalize max (e + (m.log2 : Int) - f.fractionBits) f.leastPlace = last
  dsimp only
  congr 3
  simp only [Nat.shiftLeft_eq]
  by_cases h1 : e ≤ last
  · rw [show (e - (j : Int) - last).toNat = 0 by omega, show (e - last).toNat = 0 by omega, show (last - (e - (j : Int))).toNat = (last - e).toNat + j by omega]
    simpa using cut_scale s m _ j hm
  · by_cases h2 : last ≤ e - j
    · rw [show (last - (e - (j : Int))).toNat = 0 by omega, show (last - e).toNat = 0 by omega, cut_zero, cut_zero, Nat.mul_assoc, ← Nat.pow_add,
        show j + (e - (j : Int) - last).toNat = (e - last).toNat by omega]
    · rw [show (e - (j : Int) - last).toNat = 0 by omega, show (last - e).toNat = 0 by omega, cut_zero, Nat.pow_zero, Nat.mul_one,
        show j = (e - last).toNat + (last - (e - (j : Int))).toNat by omega, Nat.pow_add, ← Nat.mul_assoc]
      rw [show (last - (e - (((e - last).toNat + (last - (e - (j : Int))).toNat : Nat) : Int))).toNat = (last - (e - (j : Int))).toNat by omega]
      exact cut_exact s _ _

/-- The place of the last digit that is kept. -/
def lastOf (f : Ieee.Format) (m : Nat) (e : Int) : Int := max (e + m.log2 - f.fractionBits) f.leastPlace

/-- A number that the format has is read as it was written, shifted to the format's own place. -/
theorem read_nearest (f : Ieee.Format) (s : Bool) (m : Nat) (e : Int) (hm : m ≠ 0) (hp : m.log2 ≤ f.fractionBits) (he : f.leastPlace ≤ e)
    (ho : e + m.log2 - f.fractionBits ≤ f.leastPlace + 2 ^ f.exponentBits - 3) (hx : 2 ≤ f.exponentBits) :
    f.read (f.nearest s m e) = .number s (m * 2 ^ (e - lastOf f m e).toNat) (lastOf f m e) ∧ f.nearest s m e % f.signWeight < f.infRung := by
  have hx4 : (4 : Int) ≤ 2 ^ f.exponentBits := by
    have h : 2 ^ 2 ≤ 2 ^ f.exponentBits := Nat.pow_le_pow_right (by omega) hx
    exact_mod_cast h
  have hb : f.binade = 2 ^ f.fractionBits := rfl
  have hbp : 0 < f.binade := by rw [hb]; exact Nat.two_pow_pos _
  have hl1 : lastOf f m e ≤ e := by unfold lastOf; omega
  have hl2 : f.leastPlace ≤ lastOf f m e := by unfold lastOf; omega
  have hl3 : lastOf f m e ≤ f.leastPlace + 2 ^ f.exponentBits - 3 := by unfold lastOf; omega
  have hlog : (m * 2 ^ (e - lastOf f m e).toNat).log2 = m.log2 + (e - lastOf f m e).toNat := log2_scale hm _
  have hM0 : m * 2 ^ (e - lastOf f m e).toNat ≠ 0 := Nat.mul_ne_zero hm (Nat.ne_of_gt (Nat.two_pow_pos _))
  have hM : m * 2 ^ (e - lastOf f m e).toNat < 2 * f.binade := by
    have h1 : m.log2 + (e - lastOf f m e).toNat ≤ f.fractionBits := by unfold lastOf; omega
    have := @Nat.lt_log2_self (m * 2 ^ (e - lastOf f m e).toNat)
    rw [hlog] at this
    calc _ < _ := this
      _ ≤ 2 ^ (f.fractionBits + 1) := Nat.pow_le_pow_right (by omega) (by omega)
      _ = 2 * f.binade := by rw [Nat.pow_succ, ← hb]; omega
  have hfull : f.leastPlace < lastOf f m e → f.binade ≤ m * 2 ^ (e - lastOf f m e).toNat := by
    intro h
    have h1 : m.log2 + (e - lastOf f m e).toNat = f.fractionBits := by unfold lastOf at h ⊢; omega
    have := Nat.log2_self_le hM0
    rw [hlog, h1, ← hb] at this
    exact this
  have hn : f.nearest s m e = f.word s (min ((lastOf f m e - f.leastPlace).toNat * f.binade + m * 2 ^ (e - lastOf f m e).toNat) f.infRung) := by
    unfold Ieee.Format.nearest
    rw [if_neg hm]
    show f.word s (min ((lastOf f m e - f.leastPlace).toNat * f.binade + Ieee.Toward.even.cut s (m <<< (e - lastOf f m e).toNat) (lastOf f m e - e).toNat) f.infRung) = _
    rw [show (lastOf f m e - e).toNat = 0 by omega, cut_zero, Nat.shiftLeft_eq]
  generalize hM' : m * 2 ^ (e - lastOf f m e).toNat = M at *
  generalize hq : (lastOf f m e - f.leastPlace).toNat = q at *
  have hq2 : q + 3 ≤ 2 ^ f.exponentBits := by
    have : (q : Int) + 3 ≤ ((2 ^ f.exponentBits : Nat) : Int) := by push_cast; omega
    exact_mod_cast this
  have hr : q * f.binade + M < f.infRung := by
    unfold Ieee.Format.infRung
    have h1 : (q + 2) * f.binade ≤ (2 ^ f.exponentBits - 1) * f.binade := Nat.mul_le_mul_right _ (by omega)
    rw [Nat.add_mul] at h1
    omega
  have hs : f.infRung < f.signWeight := Ieee.Format.infRung_lt _
  rw [Nat.min_eq_left (Nat.le_of_lt hr)] at hn
  rw [hn]
  have hmod := word_mod f s (r := q * f.binade + M) (by omega)
  refine ⟨?_, by rw [hmod]; exact hr⟩
  have hsg : (f.word s (q * f.binade + M) / f.signWeight % 2 == 1) = s := by
    unfold Ieee.Format.word
    cases s
    · simp [Nat.div_eq_of_lt (show q * f.binade + M < f.signWeight by omega)]
    · simp [Nat.add_div_left _ (show 0 < f.signWeight by omega), Nat.div_eq_of_lt (show q * f.binade + M < f.signWeight by omega)]
  unfold Ieee.Format.read
  simp only [hmod, hsg]
  by_cases hsub : q * f.binade + M < f.binade
  · rw [if_pos hsub]
    have hq0 : q = 0 := by
      apply Nat.eq_zero_of_not_pos
      intro h
      have : 1 * f.binade ≤ q * f.binade := Nat.mul_le_mul_right _ h
      omega
    rw [hq0]
    congr 1
    · simp
    · omega
  · rw [if_neg hsub, if_pos hr]
    have hMb : f.binade ≤ M := by
      by_cases h : f.leastPlace < lastOf f m e
      · exact hfull h
      · have : q = 0 := by omega
        rw [this] at hsub; omega
    have e1 : (q * f.binade + M) % f.binade = M - f.binade := by
      rw [Nat.mul_add_mod_self_right, Nat.mod_eq_sub_mod hMb, Nat.mod_eq_of_lt (by omega)]
    have e2 : (q * f.binade + M) / f.binade = q + 1 := by
      rw [Nat.mul_comm, Nat.mul_add_div hbp]
      congr 1
      rw [show M = f.binade + (M - f.binade) by omega, Nat.add_div_left _ hbp, Nat.div_eq_of_lt (by omega)]
    rw [e1, e2]
    congr 1
    · omega
    · omega

/-- What is read is written back. -/
theorem write_read (f : Ieee.Format) (hx : 2 ≤ f.exponentBits) (b : Nat) {s : Bool} {m : Nat} {e : Int} (h : f.read b = .number s m e) : f.nearest s m e = f.word s (b % f.signWeight) := by
  have hb : f.binade = 2 ^ f.fractionBits := rfl
  have hbp : 0 < f.binade := by rw [hb]; exact Nat.two_pow_pos _
  have hx4 : 4 ≤ 2 ^ f.exponentBits := Nat.pow_le_pow_right (n := 2) (by omega) hx
  have hinf : f.binade ≤ f.infRung := by
    unfold Ieee.Format.infRung
    exact Nat.le_mul_of_pos_left _ (by omega)
  unfold Ieee.Format.read at h
  dsimp only at h
  generalize b % f.signWeight = r at *
  split at h
  · rename_i h1
    simp only [Ieee.Datum.number.injEq] at h
    obtain ⟨_, rfl, rfl⟩ := h
    by_cases h0 : r = 0
    · subst h0; simp [Ieee.Format.nearest]
    · unfold Ieee.Format.nearest
      rw [if_neg h0]
      have h2 := h1
      rw [hb] at h2
      have := (Nat.log2_lt h0).2 h2
      rw [show max (f.leastPlace + (r.log2 : Int) - f.fractionBits) f.leastPlace = f.leastPlace by omega]
      simp only [Int.sub_self, Int.toNat_zero, Nat.shiftLeft_zero, cut_zero, Nat.zero_mul, Nat.zero_add]
      rw [Nat.min_eq_left (by omega)]
  · rename_i h1
    split at h
    · rename_i h2
      simp only [Ieee.Datum.number.injEq] at h
      obtain ⟨_, rfl, rfl⟩ := h
      have hlt := Nat.mod_lt r hbp
      have h0 : f.binade + r % f.binade ≠ 0 := by omega
      have e1 : (f.binade + r % f.binade).log2 = f.fractionBits := by
        refine (Nat.log2_eq_iff h0).2 ⟨?_, ?_⟩
        · rw [← hb]; omega
        · rw [Nat.pow_succ, ← hb]; omega
      have h3 : 1 ≤ r / f.binade := (Nat.le_div_iff_mul_le hbp).2 (by omega)
      unfold Ieee.Format.nearest
      rw [if_neg h0, e1]
      rw [show max (f.leastPlace + ((r / f.binade - 1 : Nat) : Int) + (f.fractionBits : Int) - f.fractionBits) f.leastPlace = f.leastPlace + ((r / f.binade - 1 : Nat) : Int) by omega]
      simp only [Int.sub_self, Int.toNat_zero, Nat.shiftLeft_zero, cut_zero]
      rw [show (f.leastPlace + ((r / f.binade - 1 : Nat) : Int) - f.leastPlace).toNat = r / f.binade - 1 by omega]
      have h4 : (r / f.binade - 1) * f.binade + (f.binade + r % f.binade) = r := by
        have h5 := Nat.div_add_mod r f.binade
        have h6 : (r / f.binade - 1) * f.binade + f.binade = r / f.binade * f.binade := by
          rw [← Nat.succ_mul]; congr 1; omega
        rw [Nat.mul_comm] at h5
        omega
      rw [h4, Nat.min_eq_left (by omega)]
    · split at h <;> cases h

theorem bits32 : FloatKind.f32.format.exponentBits = 8 ∧ FloatKind.f32.format.fractionBits = 23 ∧ FloatKind.f32.format.leastPlace = -149 ∧ FloatKind.f32.format.signWeight = 2147483648 ∧ FloatKind.f32.format.infRung = 2139095040 := by decide
theorem bits64 : FloatKind.f64.format.exponentBits = 11 ∧ FloatKind.f64.format.fractionBits = 52 ∧ FloatKind.f64.format.leastPlace = -1074 ∧ FloatKind.f64.format.signWeight = 9223372036854775808 ∧ FloatKind.f64.format.infRung = 9218868437227405312 := by decide

/-- What a narrow number's datum is made of. -/
theorem read32 {b : Nat} {s : Bool} {m : Nat} {e : Int} (h : FloatKind.f32.format.read b = .number s m e) : -149 ≤ e ∧ (m ≠ 0 → m.log2 ≤ 23 ∧ e + m.log2 + 1 ≤ 128) := by
  refine ⟨?_, fun h0 => ⟨?_, lt32 h h0⟩⟩
  all_goals
    have e1 : Ieee.single.signWeight = 2147483648 := by decide
    have e2 : Ieee.single.infRung = 2139095040 := by decide
    have e3 : Ieee.single.binade = 8388608 := by decide
    have e4 : Ieee.single.leastPlace = -149 := by decide
    simp only [FloatKind.format, Ieee.Format.read, e1, e2, e3, e4] at h
    split at h
    · simp only [Ieee.Datum.number.injEq] at h
      obtain ⟨_, rfl, rfl⟩ := h
      first | omega | (have : (b % 2147483648).log2 < 23 := (Nat.log2_lt h0).2 (by omega)
                       omega)
    · split at h
      · simp only [Ieee.Datum.number.injEq] at h
        obtain ⟨_, rfl, rfl⟩ := h
        first | omega | (have : (8388608 + b % 2147483648 % 8388608).log2 < 24 := (Nat.log2_lt h0).2 (by omega)
                         omega)
      · split at h <;> cases h

/-- A narrow number is widened exactly. -/
theorem read_widen {b : Nat} {s : Bool} {m : Nat} {e : Int} (h : FloatKind.f32.format.read b = .number s m e) :
    ∃ j : Nat, ∃ e', FloatKind.f64.format.read (widen b) = .number s (m * 2 ^ j) e' ∧ (m ≠ 0 → e' = e - j) ∧ widen b % 9223372036854775808 < 9218868437227405312 := by
  obtain ⟨b1, b2, b3, b4, b5⟩ := bits64
  obtain ⟨h1, h2⟩ := read32 h
  have hw : widen b = FloatKind.f64.format.nearest s m e := by simp only [widen, h]; rfl
  rw [hw]
  by_cases hm : m = 0
  · subst hm
    refine ⟨0, -1074, ?_, fun h => absurd rfl h, ?_⟩
    · cases s <;> simp [Ieee.Format.nearest, Ieee.Format.word] <;> decide
    · cases s <;> simp [Ieee.Format.nearest, Ieee.Format.word] <;> decide
  · obtain ⟨h3, h4⟩ := h2 hm
    obtain ⟨h5, h6⟩ := read_nearest FloatKind.f64.format s m e hm (by omega) (by omega) (by rw [b1, b2, b3]; omega) (by omega)
    rw [b4, b5] at h6
    refine ⟨_, _, h5, fun _ => ?_, h6⟩
    have : lastOf FloatKind.f64.format m e ≤ e := by unfold lastOf; omega
    omega
end Go.Fk
namespace Go.Fk
open Go Go.RowKit
theorem read_mod {k : FloatKind} {b : Nat} {s : Bool} {m : Nat} {e : Int} (h : k.format.read b = .number s m e) : k.format.read (b % k.format.signWeight) = .number false m e := by
  have hs : 0 < k.format.signWeight := by unfold Ieee.Format.signWeight; exact Nat.two_pow_pos _
  have e1 : (b % k.format.signWeight / k.format.signWeight % 2 == 1) = false := by
    rw [Nat.div_eq_of_lt (Nat.mod_lt _ hs)]; rfl
  unfold Ieee.Format.read at h ⊢
  dsimp only at h ⊢
  rw [e1, Nat.mod_mod]
  generalize b % k.format.signWeight = r at *
  split
  · rename_i h1
    rw [if_pos h1] at h
    simp only [Ieee.Datum.number.injEq] at h ⊢
    exact ⟨trivial, h.2⟩
  · rename_i h1
    rw [if_neg h1] at h
    split
    · rename_i h2
      rw [if_pos h2] at h
      simp only [Ieee.Datum.number.injEq] at h ⊢
      exact ⟨trivial, h.2⟩
    · rename_i h2
      rw [if_neg h2] at h
      split at h <;> cases h

/-- May be narrowed: what the language fixes, whole range. -/
def narrowableX (b : Nat) : Prop := ∀ s m e, FloatKind.f64.format.read b = .number s m e → (FloatKind.f32.decode (FloatKind.f32.encode (.number s m e))).isInfinity = false

/-- The size of a narrow number, by way of the wide ones. -/
theorem narrow_abs {b w : Nat} (hw : can .f64 w = can .f64 (widen b)) : narrowableX (w % 9223372036854775808) ∧ can .f32 (narrow (w % 9223372036854775808)) = can .f32 (b % 2147483648) := by
  obtain ⟨a1, a2, a3, a4, a5⟩ := bits32
  obtain ⟨b1, b2, b3, b4, b5⟩ := bits64
  cases hr : FloatKind.f32.format.read b with
  | nan s t =>
    have hn : isNan .f32 b = true := by simp [isNan, hr, Ieee.Datum.isNaN]
    have hq : widen b = qnan .f64 := by simp only [widen, hr]
    have hwn : isNan .f64 w = true := by rw [isNan_of_can hw, hq]; exact isNan_qnan _
    have hm : isNan .f64 (w % 9223372036854775808) = true := by rw [isNan_f64] at hwn ⊢; rwa [Nat.mod_mod]
    have hm2 : isNan .f32 (b % 2147483648) = true := by rw [isNan_f32] at hn ⊢; rwa [Nat.mod_mod]
    obtain ⟨s', t', hr'⟩ := read_nan hm
    refine ⟨fun s1 m1 e1 h => (by rw [hr'] at h; cases h), ?_⟩
    rw [can_of_nan hm2]
    simp only [narrow, hr', can_qnan]
  | infinity s =>
    have hb : b % 2147483648 = 2139095040 := by
      have e1 : Ieee.single.signWeight = 2147483648 := by decide
      have e2 : Ieee.single.infRung = 2139095040 := by decide
      simp only [FloatKind.format, Ieee.Format.read, e1, e2] at hr
      split at hr
      · cases hr
      · split at hr
        · cases hr
        · split at hr
          · assumption
          · cases hr
    have hq : widen b = FloatKind.f64.encode (.infinity s) := by simp only [widen, hr]
    have hwq : w = FloatKind.f64.encode (.infinity s) := by
      rw [hq] at hw
      exact (eq_of_can hw.symm (by cases s <;> decide)).symm
    rw [hwq, hb]
    have e1 : FloatKind.f64.format.read (FloatKind.f64.encode (.infinity s) % 9223372036854775808) = .infinity false := by cases s <;> decide
    refine ⟨fun s1 m1 e1' h => (by rw [e1] at h; cases h), ?_⟩
    simp only [narrow, e1]
    decide
  | number s m e =>
    obtain ⟨j, e', h1, h2, h3⟩ := read_widen hr
    have hwq : w = widen b := by
      refine (eq_of_can hw.symm ?_).symm
      simp [isNan, h1, Ieee.Datum.isNaN]
    rw [hwq]
    have h4 := read_mod h1
    have h5 := read_mod hr
    rw [b4] at h4
    rw [a4] at h5
    have h6 : FloatKind.f32.format.nearest false (m * 2 ^ j) e' = b % 2147483648 := by
      have h7 := write_read FloatKind.f32.format (by omega) (b % 2147483648) h5
      rw [a4, Nat.mod_mod] at h7
      by_cases hm : m = 0
      · subst hm
        rw [Nat.zero_mul]
        exact (show FloatKind.f32.format.nearest false 0 e' = FloatKind.f32.format.nearest false 0 e by simp [Ieee.Format.nearest]).trans h7
      · rw [h2 hm, nearest_scale, h7]; rfl
    have h8 : FloatKind.f32.encode (.number false (m * 2 ^ j) e') = b % 2147483648 := h6
    refine ⟨fun s1 m1 e1 h => ?_, ?_⟩
    · rw [h4] at h
      cases h
      rw [h8]
      have : FloatKind.f32.decode (b % 2147483648) = .number false m e := h5
      rw [this]; rfl
    · have : narrow (widen b % 9223372036854775808) = FloatKind.f32.encode (.number false (m * 2 ^ j) e') := by simp only [narrow, h4]
      rw [this, h8]

section
variable {P : Program}
theorem run_narrowX (w : World) (src dst : TypeId) (b : Nat) (hs : P.underlying src = some (.float .f64)) (hd : P.underlying dst = some (.float .f32)) (hb : narrowableX b) :
    ∃ r n, (convert src dst (.float .f64 b)).run P w = .ok (.float .f32 r) (w.drewN n) ∧ can .f32 r = can .f32 (narrow b) ∧ fits .f32 r := by
  cases hr : FloatKind.f64.format.read b with
  | nan s t =>
    refine ⟨(Question.nanConv .f32 b).cut (w.tape w.drawn (.nanConv .f32 b)), 1, ?_, ?_, (nan_conv .f32 b _).2⟩
    · simp [convert, run_underlying hs, run_underlying hd, Conv.floatToFloat, FloatKind.decode, hr, Question.forced]; rfl
    · rw [can_of_nan (nan_conv .f32 b _).1]; simp only [narrow, hr, can_qnan]
  | infinity s =>
    refine ⟨FloatKind.f32.encode (.infinity s), 0, ?_, by simp only [narrow, hr], encode_wf _ _⟩
    simp [convert, run_underlying hs, run_underlying hd, Conv.floatToFloat, FloatKind.decode, hr]; rfl
  | number s m e =>
    refine ⟨FloatKind.f32.encode (.number s m e), 0, ?_, by simp only [narrow, hr], encode_wf _ _⟩
    have h := hb s m e hr
    have hr' : FloatKind.f64.decode b = .number s m e := hr
    simp [convert, run_underlying hs, run_underlying hd, Conv.floatToFloat, hr', h]; rfl

variable {w : World} {ops : Array Oper} {rest : List Oper} {o : Oper} {a : Act} {Q : Exit → Act → World → Prop}
theorem wpList_narrowX (hg : o.guard = none) {src dst : TypeId} {x : Operand} (hop : o.op = Op.convert src dst x) {b : Nat} (hx : a.eval x = .float .f64 b)
    (hs : P.underlying src = some (.float .f64)) (hd : P.underlying dst = some (.float .f32)) (hb : narrowableX b)
    (hK : ∀ r n, Hid (can .f32 r = can .f32 (narrow b)) → Hid (fits .f32 r) → wpList P ops Q rest (a.put o.dst (.float .f32 r)) (w.drewN n)) : wpList P ops Q (o :: rest) a w := by
  refine wpList_plain hg fun K hK' => ?_
  obtain ⟨r, n, hrun, hr, hf⟩ := run_narrowX (P := P) w src dst b hs hd hb
  unfold Oper.wp
  simp [execOp, hop, hx, hrun, Result.andThen]
  exact hK' _ _ (hK r n hr hf)
end
end Go.Fk
