/- Bounds on the size of rounded floats: the word nearest to a number below a power of two. Nothing here names a program. -/
import Derived.Test.YtaenbpkcehenkadFlt
namespace Go.Fk
open Go Go.RowKit

/-- What is cut off at 'drop' digits, to the nearest, is at most one more than the quotient. -/
theorem cut_le (s : Bool) (n drop K : Nat) (h : n < 2 ^ (K + drop)) : Ieee.Toward.even.cut s n drop ≤ 2 ^ K := by
  by_cases hn : n = 0
  · subst hn
    have hp := Nat.two_pow_pos K
    simp only [Ieee.Toward.cut]
    have h2 : (0 : Nat) / (1 <<< min drop (Nat.log2 0 + 2)) = 0 := Nat.zero_div _
    rw [h2, Nat.zero_mod]
    simp
  · simp only [Ieee.Toward.cut]
    have hb : ∀ b : Bool, b.toNat ≤ 1 := by intro b; cases b <;> simp
    have hlt : n / (1 <<< min drop (n.log2 + 2)) < 2 ^ K := by
      rw [Nat.one_shiftLeft]
      by_cases hd : drop ≤ n.log2 + 2
      · rw [Nat.min_eq_left hd]
        rw [Nat.div_lt_iff_lt_mul (Nat.two_pow_pos _), ← Nat.pow_add]
        exact h
      · rw [Nat.min_eq_right (by omega)]
        rw [Nat.div_lt_iff_lt_mul (Nat.two_pow_pos _)]
        have h1 : n < 2 ^ (n.log2 + 1) := Nat.lt_log2_self
        calc n < 2 ^ (n.log2 + 1) := h1
          _ ≤ 2 ^ (n.log2 + 2) := Nat.pow_le_pow_right (by omega) (by omega)
          _ ≤ 2 ^ K * 2 ^ (n.log2 + 2) := Nat.le_mul_of_pos_left _ (Nat.two_pow_pos _)
    exact Nat.le_trans (Nat.add_le_add_left (hb _) _) (by omega)

/-- The rung of the word nearest to a number below '2 ^ A'. -/
theorem nearest_rung (f : Ieee.Format) (s : Bool) (m : Nat) (e A : Int) (hm : m ≠ 0) (hA : e + m.log2 + 1 ≤ A) (hl : f.leastPlace + f.fractionBits + 1 ≤ A) :
    ∃ r, f.nearest s m e = f.word s r ∧ r ≤ f.infRung ∧ (r : Int) ≤ (A - f.fractionBits - f.leastPlace + 1) * f.binade := by
  unfold Ieee.Format.nearest
  rw [if_neg hm]
  refine ⟨_, rfl, Nat.min_le_right _ _, ?_⟩
  generalize hlast : max (e + m.log2 - f.fractionBits) f.leastPlace = last
  have hlow : f.leastPlace ≤ last := by omega
  have hlast2 : e + m.log2 - f.fractionBits ≤ last := by omega
  have hlast3 : last ≤ A - 1 - f.fractionBits := by omega
  have hkept : Ieee.Toward.even.cut s (m <<< (e - last).toNat) (last - e).toNat ≤ 2 ^ (f.fractionBits + 1) := by
    apply cut_le
    rw [Nat.shiftLeft_eq]
    have h1 : m < 2 ^ (m.log2 + 1) := Nat.lt_log2_self
    calc m * 2 ^ (e - last).toNat < 2 ^ (m.log2 + 1) * 2 ^ (e - last).toNat := Nat.mul_lt_mul_of_pos_right h1 (Nat.two_pow_pos _)
      _ = 2 ^ (m.log2 + 1 + (e - last).toNat) := by rw [← Nat.pow_add]
      _ ≤ 2 ^ (f.fractionBits + 1 + (last - e).toNat) := Nat.pow_le_pow_right (by omega) (by omega)
  generalize Ieee.Toward.even.cut s (m <<< (e - last).toNat) (last - e).toNat = kept at hkept
  have hb : f.binade = 2 ^ f.fractionBits := rfl
  rw [Nat.pow_succ, ← hb] at hkept
  have h1 : min ((last - f.leastPlace).toNat * f.binade + kept) f.infRung ≤ (last - f.leastPlace).toNat * f.binade + kept := Nat.min_le_left _ _
  have h2 : (((last - f.leastPlace).toNat * f.binade + kept : Nat) : Int) ≤ (last - f.leastPlace) * f.binade + f.binade * 2 := by
    rw [Int.natCast_add, Int.natCast_mul, Int.toNat_of_nonneg (by omega)]
    have : (kept : Int) ≤ (f.binade : Int) * 2 := by exact_mod_cast hkept
    omega
  have h3 : (last - f.leastPlace) * (f.binade : Int) + f.binade * 2 = (last - f.leastPlace + 2) * f.binade := by
    rw [Int.add_mul]; omega
  have h4 : (last - f.leastPlace + 2) * (f.binade : Int) ≤ (A - f.fractionBits - f.leastPlace + 1) * f.binade :=
    Int.mul_le_mul_of_nonneg_right (by omega) (by omega)
  omega

theorem word_mod (f : Ieee.Format) (s : Bool) {r : Nat} (h : r < f.signWeight) : f.word s r % f.signWeight = r := by
  unfold Ieee.Format.word
  split
  · rw [Nat.add_mod_left, Nat.mod_eq_of_lt h]
  · exact Nat.mod_eq_of_lt h

/-- A finite number below '2 ^ A' in size. -/
def lt (k : FloatKind) (b : Nat) (A : Int) : Prop := ∃ s m e, k.format.read b = .number s m e ∧ (m ≠ 0 → e + m.log2 + 1 ≤ A)

theorem lt.mono {k : FloatKind} {b : Nat} {A B : Int} (h : lt k b A) (hAB : A ≤ B) : lt k b B := by
  obtain ⟨s, m, e, hr, hm⟩ := h
  exact ⟨s, m, e, hr, fun h0 => by have := hm h0; omega⟩
theorem lt.notNan {k : FloatKind} {b : Nat} {A : Int} (h : lt k b A) : isNan k b = false := by
  obtain ⟨s, m, e, hr, _⟩ := h
  simp [isNan, hr, Ieee.Datum.isNaN]

theorem read_word (k : FloatKind) (s : Bool) {r : Nat} (h : r < k.format.infRung) :
    ∃ s' m e, k.format.read (k.format.word s r) = .number s' m e ∧ (m ≠ 0 → m.log2 ≤ k.format.fractionBits ∧ (e + m.log2 + 1 - k.format.fractionBits - k.format.leastPlace ≤ max 0 ((r / k.format.binade : Nat) : Int))) := by
  have hs : k.format.infRung < k.format.signWeight := Ieee.Format.infRung_lt _
  unfold Ieee.Format.read
  rw [word_mod _ _ (by omega)]
  have hb : k.format.binade = 2 ^ k.format.fractionBits := rfl
  have hbp : 0 < k.format.binade := by rw [hb]; exact Nat.two_pow_pos _
  dsimp only
  split
  · rename_i h1
    refine ⟨_, _, _, rfl, fun h0 => ?_⟩
    rw [hb] at h1
    have := (Nat.log2_lt h0).2 h1
    omega
  · rename_i h1
    refine ⟨_, _, _, rfl, fun h0 => ?_⟩
    have e1 : (k.format.binade + r % k.format.binade).log2 = k.format.fractionBits := by
      refine (Nat.log2_eq_iff h0).2 ⟨?_, ?_⟩
      · rw [← hb]; omega
      · rw [Nat.pow_succ, ← hb]
        have := Nat.mod_lt r hbp
        omega
    rw [e1]
    have h2 : 1 ≤ r / k.format.binade := (Nat.le_div_iff_mul_le hbp).2 (by omega)
    omega

theorem lt_nearest (k : FloatKind) (s : Bool) (m : Nat) (e A : Int) (hA : m ≠ 0 → e + m.log2 + 1 ≤ A) (lo : k.format.leastPlace + k.format.fractionBits + 1 ≤ A)
    (hi : (A - k.format.fractionBits - k.format.leastPlace + 1) * k.format.binade < k.format.infRung) : lt k (k.format.nearest s m e) (A + 1) := by
  have hb : k.format.binade = 2 ^ k.format.fractionBits := rfl
  have hbp : 0 < k.format.binade := by rw [hb]; exact Nat.two_pow_pos _
  have key : ∀ r : Nat, (r : Int) ≤ (A - k.format.fractionBits - k.format.leastPlace + 1) * k.format.binade → lt k (k.format.word s r) (A + 1) := by
    intro r hr
    obtain ⟨s', m', e', hread, hm'⟩ := read_word k s (r := r) (by omega)
    refine ⟨s', m', e', hread, fun h0 => ?_⟩
    have := (hm' h0).2
    have h3 : ((r / k.format.binade : Nat) : Int) ≤ A - k.format.fractionBits - k.format.leastPlace + 1 := by
      rw [Int.natCast_ediv]
      exact Int.ediv_le_of_le_mul (by omega) hr
    omega
  by_cases hm : m = 0
  · subst hm
    have : k.format.nearest s 0 e = k.format.word s 0 := by simp [Ieee.Format.nearest]
    rw [this]
    refine key 0 ?_
    have : 0 ≤ (A - k.format.fractionBits - k.format.leastPlace + 1) * (k.format.binade : Int) := Int.mul_nonneg (by omega) (by omega)
    omega
  · obtain ⟨r, hr, _, h2⟩ := nearest_rung k.format s m e A hm (hA hm) lo
    rw [hr]
    exact key r h2

theorem log2_mul_le {m n : Nat} (hm : m ≠ 0) (hn : n ≠ 0) : (m * n).log2 ≤ m.log2 + n.log2 + 1 := by
  have h0 : m * n ≠ 0 := Nat.mul_ne_zero hm hn
  have h1 : m * n < 2 ^ (m.log2 + n.log2 + 2) := by
    have a := @Nat.lt_log2_self m
    have b := @Nat.lt_log2_self n
    calc m * n < 2 ^ (m.log2 + 1) * 2 ^ (n.log2 + 1) := Nat.mul_lt_mul'' a b
      _ = 2 ^ (m.log2 + n.log2 + 2) := by rw [← Nat.pow_add]; congr 1; omega
  have := (Nat.log2_lt h0).2 h1
  omega

/-- What stands for a format's place for bounds: from 'lo' on nothing is lost, up to 'hi' nothing overflows. -/
def fine (k : FloatKind) (A : Int) : Prop := k.format.leastPlace + k.format.fractionBits + 1 ≤ A ∧ (A - k.format.fractionBits - k.format.leastPlace + 1) * k.format.binade < k.format.infRung

theorem lt_mul {k : FloatKind} {x y : Nat} {A B : Int} (hx : lt k x A) (hy : lt k y B) (hf : fine k (A + B)) :
    ∃ r, floatBits .mul k x y = some r ∧ lt k r (A + B + 1) := by
  obtain ⟨s, m, i, hr, hm⟩ := hx
  obtain ⟨t, n, j, hr2, hn⟩ := hy
  refine ⟨_, by simp only [floatBits, Ieee.Format.mul, hr, hr2, Ieee.Datum.product, Option.map_some]; rfl, ?_⟩
  refine lt_nearest k _ _ _ _ (fun h0 => ?_) hf.1 hf.2
  have m0 : m ≠ 0 := fun h => h0 (by rw [h, Nat.zero_mul])
  have n0 : n ≠ 0 := fun h => h0 (by rw [h, Nat.mul_zero])
  have := log2_mul_le m0 n0
  have := hm m0
  have := hn n0
  omega

theorem signed_natAbs (s : Bool) (m up : Nat) : (Ieee.signed s m up).natAbs = m * 2 ^ up := by
  unfold Ieee.signed
  rw [Nat.shiftLeft_eq]
  split
  · rw [Int.natAbs_neg, Int.natAbs_natCast]
  · rw [Int.natAbs_natCast]

theorem sum_bound {s t : Bool} {m n : Nat} {i j A B : Int} (hm : m ≠ 0 → i + m.log2 + 1 ≤ A) (hn : n ≠ 0 → j + n.log2 + 1 ≤ B) :
    let base := min i j
    let total := Ieee.signed s m (i - base).toNat + Ieee.signed t n (j - base).toNat
    total.natAbs ≠ 0 → base + total.natAbs.log2 + 1 ≤ max A B + 1 := by
  intro base total h0
  have hb1 : base ≤ i := by omega
  have hb2 : base ≤ j := by omega
  have hab : total.natAbs ≤ m * 2 ^ (i - base).toNat + n * 2 ^ (j - base).toNat := by
    rw [← signed_natAbs s, ← signed_natAbs t]
    exact Int.natAbs_add_le _ _
  -- each limb lies below 2 ^ (max A B - base)
  have limb : ∀ (m : Nat) (i A : Int), base ≤ i → (m ≠ 0 → i + m.log2 + 1 ≤ A) → m ≠ 0 → m * 2 ^ (i - base).toNat < 2 ^ (A - base).toNat := by
    intro m i A hb hm h
    have h1 := hm h
    calc m * 2 ^ (i - base).toNat < 2 ^ (m.log2 + 1) * 2 ^ (i - base).toNat := Nat.mul_lt_mul_of_pos_right Nat.lt_log2_self (Nat.two_pow_pos _)
      _ = 2 ^ (m.log2 + 1 + (i - base).toNat) := by rw [← Nat.pow_add]
      _ ≤ 2 ^ (A - base).toNat := Nat.pow_le_pow_right (by omega) (by omega)
  by_cases m0 : m = 0
  · by_cases n0 : n = 0
    · subst m0; subst n0
      simp only [Nat.zero_mul, Nat.add_zero, Nat.le_zero] at hab
      exact absurd hab h0
    · have h1 := limb n j B hb2 hn n0
      have h2 : total.natAbs < 2 ^ (B - base).toNat := by subst m0; simp only [Nat.zero_mul, Nat.zero_add] at hab; omega
      have h3 := (Nat.log2_lt h0).2 h2
      have := hn n0
      omega
  · by_cases n0 : n = 0
    · have h1 := limb m i A hb1 hm m0
      have h2 : total.natAbs < 2 ^ (A - base).toNat := by subst n0; simp only [Nat.zero_mul, Nat.add_zero] at hab; omega
      have h3 := (Nat.log2_lt h0).2 h2
      have := hm m0
      omega
    · have h1 := limb m i A hb1 hm m0
      have h1' := limb n j B hb2 hn n0
      have a1 := hm m0
      have a2 := hn n0
      have e1 : 2 ^ (A - base).toNat ≤ 2 ^ (max A B - base).toNat := Nat.pow_le_pow_right (by omega) (by omega)
      have e2 : 2 ^ (B - base).toNat ≤ 2 ^ (max A B - base).toNat := Nat.pow_le_pow_right (by omega) (by omega)
      have h2 : total.natAbs < 2 ^ ((max A B - base).toNat + 1) := by rw [Nat.pow_succ]; omega
      have h3 := (Nat.log2_lt h0).2 h2
      omega

theorem lt_add {k : FloatKind} {x y : Nat} {A B : Int} (hx : lt k x A) (hy : lt k y B) (hf : fine k (max A B + 1)) :
    ∃ r, floatBits .add k x y = some r ∧ lt k r (max A B + 2) := by
  obtain ⟨s, m, i, hr, hm⟩ := hx
  obtain ⟨t, n, j, hr2, hn⟩ := hy
  refine ⟨_, by simp only [floatBits, Ieee.Format.add, hr, hr2, Ieee.Datum.sum, Option.map_some]; rfl, ?_⟩
  exact (lt_nearest k _ _ _ _ (sum_bound hm hn) hf.1 hf.2).mono (by omega)
theorem lt_sub {k : FloatKind} {x y : Nat} {A B : Int} (hx : lt k x A) (hy : lt k y B) (hf : fine k (max A B + 1)) :
    ∃ r, floatBits .sub k x y = some r ∧ lt k r (max A B + 2) := by
  obtain ⟨s, m, i, hr, hm⟩ := hx
  obtain ⟨t, n, j, hr2, hn⟩ := hy
  refine ⟨_, by simp only [floatBits, Ieee.Format.sub, hr, hr2, Ieee.Datum.opposite, Ieee.Datum.sum, Option.map_some]; rfl, ?_⟩
  exact (lt_nearest k _ _ _ _ (sum_bound hm hn) hf.1 hf.2).mono (by omega)

/-- A number of size at least '2 ^ C'. -/
def ge (k : FloatKind) (b : Nat) (C : Int) : Prop := ∃ s m e, k.format.read b = .number s m e ∧ m ≠ 0 ∧ C ≤ e + m.log2

theorem lt_quo {k : FloatKind} {x y : Nat} {A C : Int} (hx : lt k x A) (hy : ge k y C) (hf : fine k (A - C + 1)) :
    ∃ r, floatBits .quo k x y = some r ∧ lt k r (A - C + 2) := by
  obtain ⟨s, m, i, hr, hm⟩ := hx
  obtain ⟨t, n, j, hr2, n0, hn⟩ := hy
  refine ⟨_, by simp only [floatBits, Ieee.Format.div, hr, hr2, Ieee.Datum.quotient, if_neg n0, Option.map_some]; rfl, ?_⟩
  refine (lt_nearest k _ _ _ (A - C + 1) (fun h0 => ?_) hf.1 hf.2).mono (by omega)
  generalize hmore : k.format.fractionBits + 2 + n.log2 - m.log2 = more at *
  by_cases m0 : m = 0
  · subst m0
    simp at h0
  have h1 : m <<< more < 2 ^ (m.log2 + 1 + more) := by
    rw [Nat.shiftLeft_eq, Nat.pow_add]
    exact Nat.mul_lt_mul_of_pos_right Nat.lt_log2_self (Nat.two_pow_pos _)
  have h2 : 2 ^ n.log2 ≤ n := Nat.log2_self_le n0
  have hge : n.log2 ≤ m.log2 + 1 + more := by omega
  have h3 : m <<< more / n < 2 ^ (m.log2 + 1 + more - n.log2) := by
    rw [Nat.div_lt_iff_lt_mul (by omega)]
    calc m <<< more < 2 ^ (m.log2 + 1 + more) := h1
      _ = 2 ^ (m.log2 + 1 + more - n.log2) * 2 ^ n.log2 := by rw [← Nat.pow_add]; congr 1; omega
      _ ≤ 2 ^ (m.log2 + 1 + more - n.log2) * n := Nat.mul_le_mul_left _ h2
  have hb : ∀ b : Bool, b.toNat ≤ 1 := by intro b; cases b <;> simp
  have h4 : 2 * (m <<< more / n) + (m <<< more % n != 0).toNat < 2 ^ (m.log2 + 2 + more - n.log2) := by
    have e : m.log2 + 2 + more - n.log2 = m.log2 + 1 + more - n.log2 + 1 := by omega
    rw [e, Nat.pow_succ]
    have := hb (m <<< more % n != 0)
    omega
  have h5 := (Nat.log2_lt h0).2 h4
  have := hm m0
  omega
end Go.Fk
