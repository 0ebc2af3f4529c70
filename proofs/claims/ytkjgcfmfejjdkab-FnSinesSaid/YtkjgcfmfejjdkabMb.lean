/- Texts of the walk, laid in one file. -/
import Derived.Laws.Externs
import Derived.Test.YtkjgcfmfejjdkabRows
import Derived.Laws.BitsAllLaws
import Derived.Handy
import Derived.Below
import Derived.Laws.EntriesVeiled
import Derived.Deep.Quiet
import Derived.Deep.QuietTactic
import Derived.BigQuiet
import Derived.StillTail
import Derived.OwnWalk
import Derived.Test.YtkjgcfmfejjdkabMa
set_option linter.unusedVariables false
set_option linter.unusedSimpArgs false
/- How an argument that is a slice of bytes is opened, and what laws read off it. -/
namespace Go.Fk
open Go Go.RowKit Go.ChangeShapes
/-- A slice of n bytes as it comes: nil, or cells that lie somewhere. -/
def BsIn (w : World) (v : Value) (x : Nat → Int) (n : Nat) : Prop :=
  (v = .slice none 0 0 ∧ n = 0) ∨ ∃ (a : Addr) (cap : Nat), v = .slice (some a) n cap ∧ n ≤ cap ∧ cap ≤ maxLen ∧ ∀ i, i < n → w.cell? (a.add i) = some (.int .u8 (x i)) ∧ 0 ≤ x i ∧ x i < 256
theorem u8_range {a : Int} (h : (Lit.int .u8 a).wf = true) : 0 ≤ a ∧ a < 256 := by
  simp [Lit.wf, IntKind.min, IntKind.max, IntKind.signed, IntKind.bits] at h; omega
section
variable {H : Type} {enc : TypeId × Value → H} {P : Program} {w : World} {base : Nat} {spare : Nat → Bool} {held : Bool}
theorem trod_bslice {t e : TypeId} {fuel : Nat} {cs : List Value} {x : DataW H × List MemPlace} (ht : P.underlying t = some (.slice e)) (he : P.underlying e = some (.int .u8)) (hc : P.cellsOf e = 1)
    (h : DataW.trod enc P w base spare held fuel t cs = some x) : ∃ v f n, cs = [v] ∧ BsIn w v f n := by
  rcases Go.Deep.open_slice1 ht hc h with ⟨rfl, _⟩ | ⟨a, len, cap, m, n, V, D, Pl, rfl, hb, hl, hm, hmm, _, hx⟩
  · exact ⟨_, fun _ => 0, 0, rfl, .inl ⟨rfl, rfl⟩⟩
  · have hle : len ≤ m := by rw [hmm]; split <;> omega
    refine ⟨_, fun i => match V i with | .int _ b => b | _ => 0, len, rfl, .inr ⟨a, cap, rfl, hl, hm, fun i hi => ?_⟩⟩
    obtain ⟨h1, h2⟩ := hx i (by omega)
    obtain ⟨b, hV, hf⟩ := trod_int_cell he h2
    simp only [hV] at h1 ⊢
    exact ⟨h1, u8_range hf⟩
theorem open_bsl {r : Reach} {b0 : Nat} {t e : TypeId} {v : Value} {d : DataW H} {ps : List MemPlace} (ht : P.underlying t = some (.slice e)) (he : P.underlying e = some (.int .u8)) (ce : P.cellsOf e = 1)
    (hval : Value.okWide P w r b0 t v) (hd : DataW.Trod enc P w base spare held t v d ps) : ∃ (s : Value) (x : Nat → Int) (n : Nat), v = s ∧ BsIn w s x n := by
  obtain ⟨fuel, hf⟩ := hd
  obtain ⟨v', f, n, hc, hsl⟩ := trod_bslice ht he ce hf
  refine ⟨v', f, n, ?_, hsl⟩
  cases v with
  | agg cs => simp [Value.okWide, Cell.okWide, Cell.ok, ht] at hval
  | _ => simpa [Value.cells] using hc
end
theorem BsIn.le {w w' : World} {v : Value} {x : Nat → Int} {n : Nat} (h : BsIn w v x n) (hl : Fk.le w w') : BsIn w' v x n := by
  rcases h with h | ⟨a, cap, h1, h2, h3, h4⟩
  · exact .inl h
  · exact .inr ⟨a, cap, h1, h2, h3, fun i hi => by
      obtain ⟨e1, e2⟩ := h4 i hi
      exact ⟨(Below.cell hl (World.block_lt_of_cell? w _ e1)).trans e1, e2⟩⟩
theorem BsIn.small {w : World} {v : Value} {x : Nat → Int} {n : Nat} (h : BsIn w v x n) : n ≤ 9223372036854775807 := by
  rcases h with ⟨_, rfl⟩ | ⟨a, cap, h1, h2, h3, _⟩
  · omega
  · unfold maxLen at h3; omega
/-- The digit with an index of a list of bytes, for a base k. -/
def digB (x : Nat → Int) (n i : Nat) (k : Int) : Int := if n ≤ i then 0 else x i % k
theorem digB_range {x : Nat → Int} {n i : Nat} {k : Int} (hk : 1 ≤ k) : 0 ≤ digB x n i k ∧ digB x n i k < k := by
  unfold digB
  split
  · omega
  · exact ⟨Int.emod_nonneg _ (by omega), Int.emod_lt_of_pos _ (by omega)⟩
end Go.Fk
namespace Go.Proofs.Ytkjgcfmfejjdkab
open Go.RowKit Go.Fk
theorem a2Long_any (s1 s2 : Value) (x1 x2 : Nat → Int) (n1 n2 : Nat) (w : World) (h1 : BsIn w s1 x1 n1) (h2 : BsIn w s2 x2 n2) :
    Calls Try.prog 59 #[s1, s2] w fun e w' => e = .returned (.bool (decide (3000 < n1) || decide (3000 < n2))) ∧ w = w' := by
  have l1 := h1.small
  have l2 := h2.small
  rcases h1 with ⟨rfl, rfl⟩ | ⟨a1, c1, rfl, p1, q1, _⟩ <;> rcases h2 with ⟨rfl, rfl⟩ | ⟨a2, c2, rfl, p2, q2, _⟩
  · go_enter Try.func59, Try.ntmps59
    go_wp2
    go_ret
    exact ⟨rfl, rfl⟩
  · by_cases g2 : 3000 < n2
    all_goals
      have g2' := g2
      first
        | (have e2 : (3000 : Int) < n2 := by omega)
        | (have e2 : ¬ (3000 : Int) < n2 := by omega)
      go_enter Try.func59, Try.ntmps59
      go_wp2
      go_ret
      exact ⟨ret_b (by simp [g2']), rfl⟩
  · by_cases g1 : 3000 < n1
    all_goals
      have g1' := g1
      first
        | (have e1 : (3000 : Int) < n1 := by omega)
        | (have e1 : ¬ (3000 : Int) < n1 := by omega)
      go_enter Try.func59, Try.ntmps59
      go_wp2
      go_ret
      exact ⟨ret_b (by simp [g1']), rfl⟩
  · by_cases g1 : 3000 < n1 <;> by_cases g2 : 3000 < n2
    all_goals
      have g1' := g1
      have g2' := g2
      first
        | (have e1 : (3000 : Int) < n1 := by omega)
        | (have e1 : ¬ (3000 : Int) < n1 := by omega)
      first
        | (have e2 : (3000 : Int) < n2 := by omega)
        | (have e2 : ¬ (3000 : Int) < n2 := by omega)
      go_enter Try.func59, Try.ntmps59
      go_wp2
      go_ret
      exact ⟨ret_b (by simp [g1', g2']), rfl⟩
theorem s_A2Digit (s : Value) (x : Nat → Int) (n i : Nat) (k : Int) (w : World) (hs : BsIn w s x n) (hi : i ≤ 4096) (hk : 1 ≤ k) (hk2 : k ≤ 65536) :
    Calls Try.prog 60 #[s, .int .i64 (i : Nat), .int .i64 k] w fun e w' => e = .returned (.int .i64 (digB x n i k)) ∧ ∃ m, w' = w.drewN m := by
  have hsm := hs.small
  have hk0 : ¬ k < 1 := by omega
  by_cases h : n ≤ i
  · have h' : (n : Int) ≤ i := by omega
    have hr : digB x n i k = 0 := if_pos h
    rcases hs with ⟨rfl, rfl⟩ | ⟨a, c, rfl, p, q, _⟩
    all_goals
      go_enter Try.func60, Try.ntmps60
      go_wp2
      go_ret
      exact ⟨rfl, 0, rfl⟩
  · have h' : ¬ (n : Int) ≤ i := by omega
    have hr : digB x n i k = x i % k := if_neg h
    rcases hs with ⟨_, rfl⟩ | ⟨a, c, rfl, p, q, hx⟩
    · omega
    obtain ⟨ci, r1, r2⟩ := hx i (by omega)
    unfold maxLen at q
    have hkz : k ≠ 0 := by omega
    clear hx
    go_enter Try.func60, Try.ntmps60
    go_wp2
    go_ret
    exact ⟨rfl, 0, rfl⟩
end Go.Proofs.Ytkjgcfmfejjdkab

/- Bounds on the size of rounded floats: the word nearest to a number below a power of two. Nothing here names a program. -/
namespace Go.Fk
open Go Go.RowKit

/-- What is cut off at 'drop' digits, to the nearest, is at most one more than the quotient. -/
theorem cut_le (s : Bool) (n drop K : Nat) (h : n < 2 ^ (K + drop)) : Ieee.Toward.even.cut s n drop ≤ 2 ^ K := by
  by_cases hn : n = 0
  · subst hn
    have hp := Nat.two_pow_pos K
    simp only [Ieee.Toward.cut]
    have h2 : (0 : Nat) / (1 <<< min drop (Nat.log2 0 + 2)) = 0 := Nat.zero_div _
    rw [h2, Nat.zero_mod]
    simp
  · simp only [Ieee.Toward.cut]
    have hb : ∀ b : Bool, b.toNat ≤ 1 := by intro b; cases b <;> simp
    have hlt : n / (1 <<< min drop (n.log2 + 2)) < 2 ^ K := by
      rw [Nat.one_shiftLeft]
      by_cases hd : drop ≤ n.log2 + 2
      · rw [Nat.min_eq_left hd]
        rw [Nat.div_lt_iff_lt_mul (Nat.two_pow_pos _), ← Nat.pow_add]
        exact h
      · rw [Nat.min_eq_right (by omega)]
        rw [Nat.div_lt_iff_lt_mul (Nat.two_pow_pos _)]
        have h1 : n < 2 ^ (n.log2 + 1) := Nat.lt_log2_self
        calc n < 2 ^ (n.log2 + 1) := h1
          _ ≤ 2 ^ (n.log2 + 2) := Nat.pow_le_pow_right (by omega) (by omega)
          _ ≤ 2 ^ K * 2 ^ (n.log2 + 2) := Nat.le_mul_of_pos_left _ (Nat.two_pow_pos _)
    exact Nat.le_trans (Nat.add_le_add_left (hb _) _) (by omega)

/-- The rung of the word nearest to a number below '2 ^ A'. -/
theorem nearest_rung (f : Ieee.Format) (s : Bool) (m : Nat) (e A : Int) (hm : m ≠ 0) (hA : e + m.log2 + 1 ≤ A) (hl : f.leastPlace + f.fractionBits + 1 ≤ A) :
    ∃ r, f.nearest s m e = f.word s r ∧ r ≤ f.infRung ∧ (r : Int) ≤ (A - f.fractionBits - f.leastPlace + 1) * f.binade := by
  unfold Ieee.Format.nearest
  rw [if_neg hm]
  refine ⟨_, rfl, Nat.min_le_right _ _, ?_⟩
  generalize hlast : max (e + m.log2 - f.fractionBits) f.leastPlace = last
  have hlow : f.leastPlace ≤ last := by omega
  have hlast2 : e + m.log2 - f.fractionBits ≤ last := by omega
  have hlast3 : last ≤ A - 1 - f.fractionBits := by omega
  have hkept : Ieee.Toward.even.cut s (m <<< (e - last).toNat) (last - e).toNat ≤ 2 ^ (f.fractionBits + 1) := by
    apply cut_le
    rw [Nat.shiftLeft_eq]
    have h1 : m < 2 ^ (m.log2 + 1) := Nat.lt_log2_self
    calc m * 2 ^ (e - last).toNat < 2 ^ (m.log2 + 1) * 2 ^ (e - last).toNat := Nat.mul_lt_mul_of_pos_right h1 (Nat.two_pow_pos _)
      _ = 2 ^ (m.log2 + 1 + (e - last).toNat) := by rw [← Nat.pow_add]
      _ ≤ 2 ^ (f.fractionBits + 1 + (last - e).toNat) := Nat.pow_le_pow_right (by omega) (by omega)
  generalize Ieee.Toward.even.cut s (m <<< (e - last).toNat) (last - e).toNat = kept at hkept
  have hb : f.binade = 2 ^ f.fractionBits := rfl
  rw [Nat.pow_succ, ← hb] at hkept
  have h1 : min ((last - f.leastPlace).toNat * f.binade + kept) f.infRung ≤ (last - f.leastPlace).toNat * f.binade + kept := Nat.min_le_left _ _
  have h2 : (((last - f.leastPlace).toNat * f.binade + kept : Nat) : Int) ≤ (last - f.leastPlace) * f.binade + f.binade * 2 := by
    rw [Int.natCast_add, Int.natCast_mul, Int.toNat_of_nonneg (by omega)]
    have : (kept : Int) ≤ (f.binade : Int) * 2 := by exact_mod_cast hkept
    omega
  have h3 : (last - f.leastPlace) * (f.binade : Int) + f.binade * 2 = (last - f.leastPlace + 2) * f.binade := by
    rw [Int.add_mul]; omega
  have h4 : (last - f.leastPlace + 2) * (f.binade : Int) ≤ (A - f.fractionBits - f.leastPlace + 1) * f.binade :=
    Int.mul_le_mul_of_nonneg_right (by omega) (by omega)
  omega

theorem word_mod (f : Ieee.Format) (s : Bool) {r : Nat} (h : r < f.signWeight) : f.word s r % f.signWeight = r := by
  unfold Ieee.Format.word
  split
  · rw [Nat.add_mod_left, Nat.mod_eq_of_lt h]
  · exact Nat.mod_eq_of_lt h

/-- A finite number below '2 ^ A' in size. -/
def lt (k : FloatKind) (b : Nat) (A : Int) : Prop := ∃ s m e, k.format.read b = .number s m e ∧ (m ≠ 0 → e + m.log2 + 1 ≤ A)

theorem lt.mono {k : FloatKind} {b : Nat} {A B : Int} (h : lt k b A) (hAB : A ≤ B) : lt k b B := by
  obtain ⟨s, m, e, hr, hm⟩ := h
  exact ⟨s, m, e, hr, fun h0 => by have := hm h0; omega⟩
theorem lt.notNan {k : FloatKind} {b : Nat} {A : Int} (h : lt k b A) : isNan k b = false := by
  obtain ⟨s, m, e, hr, _⟩ := h
  simp [isNan, hr, Ieee.Datum.isNaN]

theorem read_word (k : FloatKind) (s : Bool) {r : Nat} (h : r < k.format.infRung) :
    ∃ s' m e, k.format.read (k.format.word s r) = .number s' m e ∧ (m ≠ 0 → m.log2 ≤ k.format.fractionBits ∧ (e + m.log2 + 1 - k.format.fractionBits - k.format.leastPlace ≤ max 0 ((r / k.format.binade : Nat) : Int))) := by
  have hs : k.format.infRung < k.format.signWeight := Ieee.Format.infRung_lt _
  unfold Ieee.Format.read
  rw [word_mod _ _ (by omega)]
  have hb : k.format.binade = 2 ^ k.format.fractionBits := rfl
  have hbp : 0 < k.format.binade := by rw [hb]; exact Nat.two_pow_pos _
  dsimp only
  split
  · rename_i h1
    refine ⟨_, _, _, rfl, fun h0 => ?_⟩
    rw [hb] at h1
    have := (Nat.log2_lt h0).2 h1
    omega
  · rename_i h1
    refine ⟨_, _, _, rfl, fun h0 => ?_⟩
    have e1 : (k.format.binade + r % k.format.binade).log2 = k.format.fractionBits := by
      refine (Nat.log2_eq_iff h0).2 ⟨?_, ?_⟩
      · rw [← hb]; omega
      · rw [Nat.pow_succ, ← hb]
        have := Nat.mod_lt r hbp
        omega
    rw [e1]
    have h2 : 1 ≤ r / k.format.binade := (Nat.le_div_iff_mul_le hbp).2 (by omega)
    omega

theorem lt_nearest (k : FloatKind) (s : Bool) (m : Nat) (e A : Int) (hA : m ≠ 0 → e + m.log2 + 1 ≤ A) (lo : k.format.leastPlace + k.format.fractionBits + 1 ≤ A)
    (hi : (A - k.format.fractionBits - k.format.leastPlace + 1) * k.format.binade < k.format.infRung) : lt k (k.format.nearest s m e) (A + 1) := by
  have hb : k.format.binade = 2 ^ k.format.fractionBits := rfl
  have hbp : 0 < k.format.binade := by rw [hb]; exact Nat.two_pow_pos _
  have key : ∀ r : Nat, (r : Int) ≤ (A - k.format.fractionBits - k.format.leastPlace + 1) * k.format.binade → lt k (k.format.word s r) (A + 1) := by
    intro r hr
    obtain ⟨s', m', e', hread, hm'⟩ := read_word k s (r := r) (by omega)
    refine ⟨s', m', e', hread, fun h0 => ?_⟩
    have := (hm' h0).2
    have h3 : ((r / k.format.binade : Nat) : Int) ≤ A - k.format.fractionBits - k.format.leastPlace + 1 := by
      rw [Int.natCast_ediv]
      exact Int.ediv_le_of_le_mul (by omega) hr
    omega
  by_cases hm : m = 0
  · subst hm
    have : k.format.nearest s 0 e = k.format.word s 0 := by simp [Ieee.Format.nearest]
    rw [this]
    refine key 0 ?_
    have : 0 ≤ (A - k.format.fractionBits - k.format.leastPlace + 1) * (k.format.binade : Int) := Int.mul_nonneg (by omega) (by omega)
    omega
  · obtain ⟨r, hr, _, h2⟩ := nearest_rung k.format s m e A hm (hA hm) lo
    rw [hr]
    exact key r h2

theorem log2_mul_le {m n : Nat} (hm : m ≠ 0) (hn : n ≠ 0) : (m * n).log2 ≤ m.log2 + n.log2 + 1 := by
  have h0 : m * n ≠ 0 := Nat.mul_ne_zero hm hn
  have h1 : m * n < 2 ^ (m.log2 + n.log2 + 2) := by
    have a := @Nat.lt_log2_self m
    have b := @Nat.lt_log2_self n
    calc m * n < 2 ^ (m.log2 + 1) * 2 ^ (n.log2 + 1) := Nat.mul_lt_mul'' a b
      _ = 2 ^ (m.log2 + n.log2 + 2) := by rw [← Nat.pow_add]; congr 1; omega
  have := (Nat.log2_lt h0).2 h1
  omega

/-- What stands for a format's place for bounds: from 'lo' on nothing is lost, up to 'hi' nothing overflows. -/
def fine (k : FloatKind) (A : Int) : Prop := k.format.leastPlace + k.format.fractionBits + 1 ≤ A ∧ (A - k.format.fractionBits - k.format.leastPlace + 1) * k.format.binade < k.format.infRung

theorem lt_mul {k : FloatKind} {x y : Nat} {A B : Int} (hx : lt k x A) (hy : lt k y B) (hf : fine k (A + B)) :
    ∃ r, floatBits .mul k x y = some r ∧ lt k r (A + B + 1) := by
  obtain ⟨s, m, i, hr, hm⟩ := hx
  obtain ⟨t, n, j, hr2, hn⟩ := hy
  refine ⟨_, by simp only [floatBits, Ieee.Format.mul, hr, hr2, Ieee.Datum.product, Option.map_some]; rfl, ?_⟩
  refine lt_nearest k _ _ _ _ (fun h0 => ?_) hf.1 hf.2
  have m0 : m ≠ 0 := fun h => h0 (by rw [h, Nat.zero_mul])
  have n0 : n ≠ 0 := fun h => h0 (by rw [h, Nat.mul_zero])
  have := log2_mul_le m0 n0
  have := hm m0
  have := hn n0
  omega

theorem signed_natAbs (s : Bool) (m up : Nat) : (Ieee.signed s m up).natAbs = m * 2 ^ up := by
  unfold Ieee.signed
  rw [Nat.shiftLeft_eq]
  split
  · rw [Int.natAbs_neg, Int.natAbs_natCast]
  · rw [Int.natAbs_natCast]

theorem sum_bound {s t : Bool} {m n : Nat} {i j A B : Int} (hm : m ≠ 0 → i + m.log2 + 1 ≤ A) (hn : n ≠ 0 → j + n.log2 + 1 ≤ B) :
    let base := min i j
    let total := Ieee.signed s m (i - base).toNat + Ieee.signed t n (j - base).toNat
    total.natAbs ≠ 0 → base + total.natAbs.log2 + 1 ≤ max A B + 1 := by
  intro base total h0
  have hb1 : base ≤ i := by omega
  have hb2 : base ≤ j := by omega
  have hab : total.natAbs ≤ m * 2 ^ (i - base).toNat + n * 2 ^ (j - base).toNat := by
    rw [← signed_natAbs s, ← signed_natAbs t]
    exact Int.natAbs_add_le _ _
  -- each limb lies below 2 ^ (max A B - base)
  have limb : ∀ (m : Nat) (i A : Int), base ≤ i → (m ≠ 0 → i + m.log2 + 1 ≤ A) → m ≠ 0 → m * 2 ^ (i - base).toNat < 2 ^ (A - base).toNat := by
    intro m i A hb hm h
    have h1 := hm h
    calc m * 2 ^ (i - base).toNat < 2 ^ (m.log2 + 1) * 2 ^ (i - base).toNat := Nat.mul_lt_mul_of_pos_right Nat.lt_log2_self (Nat.two_pow_pos _)
      _ = 2 ^ (m.log2 + 1 + (i - base).toNat) := by rw [← Nat.pow_add]
      _ ≤ 2 ^ (A - base).toNat := Nat.pow_le_pow_right (by omega) (by omega)
  by_cases m0 : m = 0
  · by_cases n0 : n = 0
    · subst m0; subst n0
      simp only [Nat.zero_mul, Nat.add_zero, Nat.le_zero] at hab
      exact absurd hab h0
    · have h1 := limb n j B hb2 hn n0
      have h2 : total.natAbs < 2 ^ (B - base).toNat := by subst m0; simp only [Nat.zero_mul, Nat.zero_add] at hab; omega
      have h3 := (Nat.log2_lt h0).2 h2
      have := hn n0
      omega
  · by_cases n0 : n = 0
    · have h1 := limb m i A hb1 hm m0
      have h2 : total.natAbs < 2 ^ (A - base).toNat := by subst n0; simp only [Nat.zero_mul, Nat.add_zero] at hab; omega
      have h3 := (Nat.log2_lt h0).2 h2
      have := hm m0
      omega
    · have h1 := limb m i A hb1 hm m0
      have h1' := limb n j B hb2 hn n0
      have a1 := hm m0
      have a2 := hn n0
      have e1 : 2 ^ (A - base).toNat ≤ 2 ^ (max A B - base).toNat := Nat.pow_le_pow_right (by omega) (by omega)
      have e2 : 2 ^ (B - base).toNat ≤ 2 ^ (max A B - base).toNat := Nat.pow_le_pow_right (by omega) (by omega)
      have h2 : total.natAbs < 2 ^ ((max A B - base).toNat + 1) := by rw [Nat.pow_succ]; omega
      have h3 := (Nat.log2_lt h0).2 h2
      omega

theorem lt_add {k : FloatKind} {x y : Nat} {A B : Int} (hx : lt k x A) (hy : lt k y B) (hf : fine k (max A B + 1)) :
    ∃ r, floatBits .add k x y = some r ∧ lt k r (max A B + 2) := by
  obtain ⟨s, m, i, hr, hm⟩ := hx
  obtain ⟨t, n, j, hr2, hn⟩ := hy
  refine ⟨_, by simp only [floatBits, Ieee.Format.add, hr, hr2, Ieee.Datum.sum, Option.map_some]; rfl, ?_⟩
  exact (lt_nearest k _ _ _ _ (sum_bound hm hn) hf.1 hf.2).mono (by omega)
theorem lt_sub {k : FloatKind} {x y : Nat} {A B : Int} (hx : lt k x A) (hy : lt k y B) (hf : fine k (max A B + 1)) :
    ∃ r, floatBits .sub k x y = some r ∧ lt k r (max A B + 2) := by
  obtain ⟨s, m, i, hr, hm⟩ := hx
  obtain ⟨t, n, j, hr2, hn⟩ := hy
  refine ⟨_, by simp only [floatBits, Ieee.Format.sub, hr, hr2, Ieee.Datum.opposite, Ieee.Datum.sum, Option.map_some]; rfl, ?_⟩
  exact (lt_nearest k _ _ _ _ (sum_bound hm hn) hf.1 hf.2).mono (by omega)

/-- A number of size at least '2 ^ C'. -/
def ge (k : FloatKind) (b : Nat) (C : Int) : Prop := ∃ s m e, k.format.read b = .number s m e ∧ m ≠ 0 ∧ C ≤ e + m.log2

theorem lt_quo {k : FloatKind} {x y : Nat} {A C : Int} (hx : lt k x A) (hy : ge k y C) (hf : fine k (A - C + 1)) :
    ∃ r, floatBits .quo k x y = some r ∧ lt k r (A - C + 2) := by
  obtain ⟨s, m, i, hr, hm⟩ := hx
  obtain ⟨t, n, j, hr2, n0, hn⟩ := hy
  refine ⟨_, by simp only [floatBits, Ieee.Format.div, hr, hr2, Ieee.Datum.quotient, if_neg n0, Option.map_some]; rfl, ?_⟩
  refine (lt_nearest k _ _ _ (A - C + 1) (fun h0 => ?_) hf.1 hf.2).mono (by omega)
  generalize hmore : k.format.fractionBits + 2 + n.log2 - m.log2 = more at *
  by_cases m0 : m = 0
  · subst m0
    simp at h0
  have h1 : m <<< more < 2 ^ (m.log2 + 1 + more) := by
    rw [Nat.shiftLeft_eq, Nat.pow_add]
    exact Nat.mul_lt_mul_of_pos_right Nat.lt_log2_self (Nat.two_pow_pos _)
  have h2 : 2 ^ n.log2 ≤ n := Nat.log2_self_le n0
  have hge : n.log2 ≤ m.log2 + 1 + more := by omega
  have h3 : m <<< more / n < 2 ^ (m.log2 + 1 + more - n.log2) := by
    rw [Nat.div_lt_iff_lt_mul (by omega)]
    calc m <<< more < 2 ^ (m.log2 + 1 + more) := h1
      _ = 2 ^ (m.log2 + 1 + more - n.log2) * 2 ^ n.log2 := by rw [← Nat.pow_add]; congr 1; omega
      _ ≤ 2 ^ (m.log2 + 1 + more - n.log2) * n := Nat.mul_le_mul_left _ h2
  have hb : ∀ b : Bool, b.toNat ≤ 1 := by intro b; cases b <;> simp
  have h4 : 2 * (m <<< more / n) + (m <<< more % n != 0).toNat < 2 ^ (m.log2 + 2 + more - n.log2) := by
    have e : m.log2 + 2 + more - n.log2 = m.log2 + 1 + more - n.log2 + 1 := by omega
    rw [e, Nat.pow_succ]
    have := hb (m <<< more % n != 0)
    omega
  have h5 := (Nat.log2_lt h0).2 h4
  have := hm m0
  omega
end Go.Fk

/- Conversions between the two widths of floats, up to the bits of NaN. Nothing here names a program. -/
namespace Go.Fk
open Go Go.RowKit

/-- What 'float64(x)' of a narrow x is, up to the bits of NaN. -/
def widen (b : Nat) : Nat := match FloatKind.f32.format.read b with
  | .nan _ _ => qnan .f64
  | d => FloatKind.f64.encode d
/-- What 'float32(x)' of a wide x is, up to the bits of NaN, where it does not overflow. -/
def narrow (b : Nat) : Nat := match FloatKind.f64.format.read b with
  | .nan _ _ => qnan .f32
  | d => FloatKind.f32.encode d

theorem widen_can (b : Nat) : widen (can .f32 b) = widen b := by
  cases h : isNan .f32 b
  · rw [can_of_not h]
  · rw [can_of_nan h]
    obtain ⟨s, t, hr⟩ := read_nan h
    obtain ⟨s', t', hr'⟩ := read_nan (isNan_qnan .f32)
    simp only [widen, hr, hr']
theorem widen_congr {a b : Nat} (h : can .f32 a = can .f32 b) : widen a = widen b := by rw [← widen_can a, h, widen_can]
theorem narrow_can (b : Nat) : narrow (can .f64 b) = narrow b := by
  cases h : isNan .f64 b
  · rw [can_of_not h]
  · rw [can_of_nan h]
    obtain ⟨s, t, hr⟩ := read_nan h
    obtain ⟨s', t', hr'⟩ := read_nan (isNan_qnan .f64)
    simp only [narrow, hr, hr']
theorem narrow_congr {a b : Nat} (h : can .f64 a = can .f64 b) : narrow a = narrow b := by rw [← narrow_can a, h, narrow_can]

/-- Every finite narrow number lies below '2 ^ 128'. -/
theorem lt32 {b : Nat} {s : Bool} {m : Nat} {e : Int} (h : FloatKind.f32.format.read b = .number s m e) : m ≠ 0 → e + m.log2 + 1 ≤ 128 := by
  intro h0
  have e1 : Ieee.single.signWeight = 2147483648 := by decide
  have e2 : Ieee.single.infRung = 2139095040 := by decide
  have e3 : Ieee.single.binade = 8388608 := by decide
  have e4 : Ieee.single.leastPlace = -149 := by decide
  simp only [FloatKind.format, Ieee.Format.read, e1, e2, e3, e4] at h
  split at h
  · simp only [Ieee.Datum.number.injEq] at h
    obtain ⟨_, rfl, rfl⟩ := h
    have : (b % 2147483648).log2 < 23 := (Nat.log2_lt h0).2 (by omega)
    omega
  · split at h
    · simp only [Ieee.Datum.number.injEq] at h
      obtain ⟨_, rfl, rfl⟩ := h
      have : (8388608 + b % 2147483648 % 8388608).log2 < 24 := (Nat.log2_lt h0).2 (by omega)
      omega
    · split at h <;> cases h
/-- Every finite wide number lies below '2 ^ 1024'. -/
theorem lt64 {b : Nat} {s : Bool} {m : Nat} {e : Int} (h : FloatKind.f64.format.read b = .number s m e) : m ≠ 0 → e + m.log2 + 1 ≤ 1024 := by
  intro h0
  have e1 : Ieee.double.signWeight = 9223372036854775808 := by decide
  have e2 : Ieee.double.infRung = 9218868437227405312 := by decide
  have e3 : Ieee.double.binade = 4503599627370496 := by decide
  have e4 : Ieee.double.leastPlace = -1074 := by decide
  simp only [FloatKind.format, Ieee.Format.read, e1, e2, e3, e4] at h
  split at h
  · simp only [Ieee.Datum.number.injEq] at h
    obtain ⟨_, rfl, rfl⟩ := h
    have : (b % 9223372036854775808).log2 < 52 := (Nat.log2_lt h0).2 (by omega)
    omega
  · split at h
    · simp only [Ieee.Datum.number.injEq] at h
      obtain ⟨_, rfl, rfl⟩ := h
      have : (4503599627370496 + b % 9223372036854775808 % 4503599627370496).log2 < 53 := (Nat.log2_lt h0).2 (by omega)
      omega
    · split at h <;> cases h

theorem fine64 {A : Int} (h1 : -1021 ≤ A) (h2 : A ≤ 1022) : fine .f64 A := by
  have e2 : Ieee.double.infRung = 9218868437227405312 := by decide
  have e3 : Ieee.double.binade = 4503599627370496 := by decide
  have e4 : Ieee.double.leastPlace = -1074 := by decide
  have e5 : Ieee.double.fractionBits = 52 := by decide
  simp only [fine, FloatKind.format, e2, e3, e4, e5]
  omega
theorem fine32 {A : Int} (h1 : -125 ≤ A) (h2 : A ≤ 126) : fine .f32 A := by
  have e2 : Ieee.single.infRung = 2139095040 := by decide
  have e3 : Ieee.single.binade = 8388608 := by decide
  have e4 : Ieee.single.leastPlace = -149 := by decide
  have e5 : Ieee.single.fractionBits = 23 := by decide
  simp only [fine, FloatKind.format, e2, e3, e4, e5]
  omega

theorem lt_encode {k : FloatKind} {s : Bool} {m : Nat} {e A : Int} (h : m ≠ 0 → e + m.log2 + 1 ≤ A) (hf : fine k A) : lt k (k.encode (.number s m e)) (A + 1) :=
  lt_nearest k s m e A h hf.1 hf.2
theorem lt.notInf {k : FloatKind} {b : Nat} {A : Int} (h : lt k b A) : (k.decode b).isInfinity = false := by
  obtain ⟨s, m, e, hr, _⟩ := h
  simp [FloatKind.decode, hr, Ieee.Datum.isInfinity]

/-- May be narrowed: what the language fixes. -/
def narrowable (b : Nat) : Prop := isNan .f64 b = true ∨ (FloatKind.f64.format.read b).isInfinity = true ∨ lt .f64 b 126

section
variable {P : Program}
theorem run_widen (w : World) (src dst : TypeId) (b : Nat) (hs : P.underlying src = some (.float .f32)) (hd : P.underlying dst = some (.float .f64)) :
    ∃ r n, (convert src dst (.float .f32 b)).run P w = .ok (.float .f64 r) (w.drewN n) ∧ can .f64 r = can .f64 (widen b) ∧ fits .f64 r := by
  cases hr : FloatKind.f32.format.read b with
  | nan s t =>
    refine ⟨(Question.nanConv .f64 b).cut (w.tape w.drawn (.nanConv .f64 b)), 1, ?_, ?_, (nan_conv .f64 b _).2⟩
    · simp [convert, run_underlying hs, run_underlying hd, Conv.floatToFloat, FloatKind.decode, hr, Question.forced]; rfl
    · rw [can_of_nan (nan_conv .f64 b _).1]; simp only [widen, hr, can_qnan]
  | infinity s =>
    refine ⟨FloatKind.f64.encode (.infinity s), 0, ?_, by simp only [widen, hr], encode_wf _ _⟩
    simp [convert, run_underlying hs, run_underlying hd, Conv.floatToFloat, FloatKind.decode, hr]; rfl
  | number s m e =>
    refine ⟨FloatKind.f64.encode (.number s m e), 0, ?_, by simp only [widen, hr], encode_wf _ _⟩
    have h := (lt_encode (k := .f64) (s := s) (lt32 hr) (fine64 (by omega) (by omega))).notInf
    have hr' : FloatKind.f32.decode b = .number s m e := hr
    simp [convert, run_underlying hs, run_underlying hd, Conv.floatToFloat, hr', h]; rfl

theorem run_narrow (w : World) (src dst : TypeId) (b : Nat) (hs : P.underlying src = some (.float .f64)) (hd : P.underlying dst = some (.float .f32)) (hb : narrowable b) :
    ∃ r n, (convert src dst (.float .f64 b)).run P w = .ok (.float .f32 r) (w.drewN n) ∧ can .f32 r = can .f32 (narrow b) ∧ fits .f32 r := by
  cases hr : FloatKind.f64.format.read b with
  | nan s t =>
    refine ⟨(Question.nanConv .f32 b).cut (w.tape w.drawn (.nanConv .f32 b)), 1, ?_, ?_, (nan_conv .f32 b _).2⟩
    · simp [convert, run_underlying hs, run_underlying hd, Conv.floatToFloat, FloatKind.decode, hr, Question.forced]; rfl
    · rw [can_of_nan (nan_conv .f32 b _).1]; simp only [narrow, hr, can_qnan]
  | infinity s =>
    refine ⟨FloatKind.f32.encode (.infinity s), 0, ?_, by simp only [narrow, hr], encode_wf _ _⟩
    simp [convert, run_underlying hs, run_underlying hd, Conv.floatToFloat, FloatKind.decode, hr]; rfl
  | number s m e =>
    refine ⟨FloatKind.f32.encode (.number s m e), 0, ?_, by simp only [narrow, hr], encode_wf _ _⟩
    have hl : lt .f64 b 126 := by
      rcases hb with h | h | h
      · simp [isNan, hr, Ieee.Datum.isNaN] at h
      · simp [hr, Ieee.Datum.isInfinity] at h
      · exact h
    obtain ⟨s', m', e', hr', hm⟩ := hl
    rw [hr] at hr'
    cases hr'
    have h := (lt_encode (k := .f32) (s := s) hm (fine32 (by omega) (by omega))).notInf
    have hr' : FloatKind.f64.decode b = .number s m e := hr
    simp [convert, run_underlying hs, run_underlying hd, Conv.floatToFloat, hr', h]; rfl

variable {w : World} {ops : Array Oper} {rest : List Oper} {o : Oper} {a : Act} {Q : Exit → Act → World → Prop}
theorem wpList_widen (hg : o.guard = none) {src dst : TypeId} {x : Operand} (hop : o.op = Op.convert src dst x) {b : Nat} (hx : a.eval x = .float .f32 b)
    (hs : P.underlying src = some (.float .f32)) (hd : P.underlying dst = some (.float .f64))
    (hK : ∀ r n, Hid (can .f64 r = can .f64 (widen b)) → Hid (fits .f64 r) → wpList P ops Q rest (a.put o.dst (.float .f64 r)) (w.drewN n)) : wpList P ops Q (o :: rest) a w := by
  refine wpList_plain hg fun K hK' => ?_
  obtain ⟨r, n, hrun, hr, hf⟩ := run_widen (P := P) w src dst b hs hd
  unfold Oper.wp
  simp [execOp, hop, hx, hrun, Result.andThen]
  exact hK' _ _ (hK r n hr hf)
theorem wpList_narrow (hg : o.guard = none) {src dst : TypeId} {x : Operand} (hop : o.op = Op.convert src dst x) {b : Nat} (hx : a.eval x = .float .f64 b)
    (hs : P.underlying src = some (.float .f64)) (hd : P.underlying dst = some (.float .f32)) (hb : narrowable b)
    (hK : ∀ r n, Hid (can .f32 r = can .f32 (narrow b)) → Hid (fits .f32 r) → wpList P ops Q rest (a.put o.dst (.float .f32 r)) (w.drewN n)) : wpList P ops Q (o :: rest) a w := by
  refine wpList_plain hg fun K hK' => ?_
  obtain ⟨r, n, hrun, hr, hf⟩ := run_narrow (P := P) w src dst b hs hd hb
  unfold Oper.wp
  simp [execOp, hop, hx, hrun, Result.andThen]
  exact hK' _ _ (hK r n hr hf)
end
end Go.Fk

/- The value of a float as a whole number of its smallest units; order, and the way to integers, by it. Nothing here names a program. -/
namespace Go.Fk
open Go Go.RowKit

def unitOf : FloatKind → Nat
  | .f32 => 149
  | .f64 => 1074
/-- Where an infinity is put. -/
def farE : Nat := 3000
theorem farE_ge : 2200 ≤ farE := by decide
def far : Nat := 2 ^ farE
theorem far_pos : 0 < far := Nat.two_pow_pos _
/-- How many smallest units a word stands for; an infinity stands far away. -/
def val (k : FloatKind) (b : Nat) : Int := match k.format.read b with
  | .number s m e => Ieee.signed s m (e + unitOf k).toNat
  | .infinity s => if s then -(far : Int) else far
  | .nan _ _ => 0

theorem signed_eq (s : Bool) (m up : Nat) : Ieee.signed s m up = (if s then -(m : Int) else (m : Int)) * 2 ^ up := by
  unfold Ieee.signed
  rw [Nat.shiftLeft_eq]
  cases s <;> simp [Int.neg_mul]

theorem least_eq (k : FloatKind) : k.format.leastPlace = -(unitOf k : Int) := by cases k <;> decide
theorem read_place {k : FloatKind} {b : Nat} {s : Bool} {m : Nat} {e : Int} (h : k.format.read b = .number s m e) : -(unitOf k : Int) ≤ e := by
  have e4 := least_eq k
  unfold Ieee.Format.read at h
  dsimp only at h
  split at h
  · simp only [Ieee.Datum.number.injEq] at h; omega
  · split at h
    · simp only [Ieee.Datum.number.injEq] at h; omega
    · split at h <;> cases h

theorem val_small {k : FloatKind} {b : Nat} {s : Bool} {m : Nat} {e : Int} (h : k.format.read b = .number s m e) : -(far : Int) < val k b ∧ val k b < far := by
  have hv : val k b = Ieee.signed s m (e + unitOf k).toNat := by simp only [val, h]
  have hp := read_place h
  have key : m * 2 ^ (e + unitOf k).toNat < far := by
    unfold far
    by_cases m0 : m = 0
    · subst m0; rw [Nat.zero_mul]; exact Nat.two_pow_pos _
    · have hm : e + m.log2 + 1 ≤ 1024 := by
        cases k
        · have := lt32 h m0; omega
        · exact lt64 h m0
      have hu : unitOf k ≤ 1074 := by cases k <;> decide
      calc m * 2 ^ (e + unitOf k).toNat < 2 ^ (m.log2 + 1) * 2 ^ (e + unitOf k).toNat := Nat.mul_lt_mul_of_pos_right Nat.lt_log2_self (Nat.two_pow_pos _)
        _ = 2 ^ (m.log2 + 1 + (e + unitOf k).toNat) := by rw [← Nat.pow_add]
        _ ≤ 2 ^ farE := Nat.pow_le_pow_right (by omega) (by have := farE_ge; omega)
  have hc : ((m * 2 ^ (e + unitOf k).toNat : Nat) : Int) < (far : Int) := Int.ofNat_lt.2 key
  have hn : (0 : Int) ≤ ((m * 2 ^ (e + unitOf k).toNat : Nat) : Int) := Int.natCast_nonneg _
  have hv2 : val k b = if s then -((m * 2 ^ (e + unitOf k).toNat : Nat) : Int) else ((m * 2 ^ (e + unitOf k).toNat : Nat) : Int) := by
    rw [hv]; unfold Ieee.signed; rw [Nat.shiftLeft_eq]
  generalize ((m * 2 ^ (e + unitOf k).toNat : Nat) : Int) = v at *
  generalize (far : Int) = big at *
  rw [hv2]
  cases s <;> simp <;> omega

theorem compare_mul (a b c : Int) (hc : 0 < c) : compare (a * c) (b * c) = compare a b := by
  rcases Int.lt_trichotomy a b with h | h | h
  · rw [Int.compare_eq_lt.2 h, Int.compare_eq_lt.2 (Int.mul_lt_mul_of_pos_right h hc)]
  · subst h; rw [Int.compare_eq_eq.2 rfl, Int.compare_eq_eq.2 rfl]
  · rw [Int.compare_eq_gt.2 h, Int.compare_eq_gt.2 (Int.mul_lt_mul_of_pos_right h hc)]

theorem order_val {k : FloatKind} {x y : Nat} (hx : isNan k x = false) (hy : isNan k y = false) : k.format.order x y = some (compare (val k x) (val k y)) := by
  have big : (0 : Int) < (far : Int) := Int.ofNat_lt.2 far_pos
  unfold isNan at hx hy
  unfold Ieee.Format.order
  cases hrx : k.format.read x with
  | nan s t => rw [hrx] at hx; simp [Ieee.Datum.isNaN] at hx
  | infinity s =>
    have vx : val k x = if s then -(far : Int) else far := by simp only [val, hrx]
    cases hry : k.format.read y with
    | nan s t => rw [hry] at hy; simp [Ieee.Datum.isNaN] at hy
    | infinity t =>
      have vy : val k y = if t then -(far : Int) else far := by simp only [val, hry]
      rw [vx, vy]
      generalize (far : Int) = b at *
      simp only [Ieee.Datum.order, Option.some.injEq]
      cases s <;> cases t <;> simp only [if_true, Bool.false_eq_true, if_false]
      · rw [Int.compare_eq_eq.2 rfl]; rfl
      · rw [Int.compare_eq_gt.2 (by omega)]; rfl
      · rw [Int.compare_eq_lt.2 (by omega)]; rfl
      · rw [Int.compare_eq_eq.2 rfl]; rfl
    | number t n j =>
      have hv := val_small hry
      rw [vx]
      generalize (far : Int) = b at *
      simp only [Ieee.Datum.order, Option.some.injEq]
      cases s <;> simp
      · exact (Int.compare_eq_gt.2 (by omega)).symm
      · exact (Int.compare_eq_lt.2 (by omega)).symm
  | number s m i =>
    cases hry : k.format.read y with
    | nan s t => rw [hry] at hy; simp [Ieee.Datum.isNaN] at hy
    | infinity t =>
      have vy : val k y = if t then -(far : Int) else far := by simp only [val, hry]
      have hv := val_small hrx
      rw [vy]
      generalize (far : Int) = b at *
      simp only [Ieee.Datum.order, Option.some.injEq]
      cases t <;> simp
      · exact (Int.compare_eq_lt.2 (by omega)).symm
      · exact (Int.compare_eq_gt.2 (by omega)).symm
    | number t n j =>
      have pi := read_place hrx
      have pj := read_place hry
      simp only [Ieee.Datum.order, val, hrx, hry, Option.some.injEq]
      have e1 : Ieee.signed s m (i + unitOf k).toNat = Ieee.signed s m (i - min i j).toNat * 2 ^ (min i j + unitOf k).toNat := by
        rw [signed_eq, signed_eq, Int.mul_assoc, ← Int.pow_add]
        congr 2; omega
      have e2 : Ieee.signed t n (j + unitOf k).toNat = Ieee.signed t n (j - min i j).toNat * 2 ^ (min i j + unitOf k).toNat := by
        rw [signed_eq, signed_eq, Int.mul_assoc, ← Int.pow_add]
        congr 2; omega
      rw [e1, e2, compare_mul _ _ _ (Int.pow_pos (by omega))]

/-- Cut towards zero, a number is its units divided by those of 1. -/
theorem toInt_val {k : FloatKind} {b : Nat} {s : Bool} {m : Nat} {e : Int} (h : k.format.read b = .number s m e) :
    (k.decode b).toInt .zero = some ((val k b).tdiv (2 ^ unitOf k)) := by
  have hp := read_place h
  simp only [FloatKind.decode, h, val, Ieee.Datum.toInt, Ieee.Datum.integral, Option.some.injEq]
  have hcut : ∀ n d, Ieee.Toward.zero.cut s n d = n / 2 ^ d := by
    intro n d
    simp only [Ieee.Toward.cut, Bool.toNat_false, Nat.add_zero, Nat.one_shiftLeft]
    by_cases hd : d ≤ n.log2 + 2
    · rw [Nat.min_eq_left hd]
    · rw [Nat.min_eq_right (by omega)]
      have h1 : n < 2 ^ (n.log2 + 1) := Nat.lt_log2_self
      have h2 : 2 ^ (n.log2 + 1) ≤ 2 ^ (n.log2 + 2) := Nat.pow_le_pow_right (by omega) (by omega)
      have h3 : 2 ^ (n.log2 + 1) ≤ 2 ^ d := Nat.pow_le_pow_right (by omega) (by omega)
      rw [Nat.div_eq_of_lt (by omega), Nat.div_eq_of_lt (by omega)]
  rw [hcut]
  have e1 : m <<< e.toNat / 2 ^ (-e).toNat = m * 2 ^ (e + unitOf k).toNat / 2 ^ unitOf k := by
    rw [Nat.shiftLeft_eq]
    by_cases he : 0 ≤ e
    · rw [show (-e).toNat = 0 by omega, show (e + unitOf k).toNat = e.toNat + unitOf k by omega, Nat.pow_add, ← Nat.mul_assoc, Nat.mul_div_cancel _ (Nat.two_pow_pos _)]
      simp
    · rw [show e.toNat = 0 by omega]
      have : unitOf k = (-e).toNat + (e + unitOf k).toNat := by omega
      generalize hu : (e + unitOf k).toNat = u at *
      rw [this, Nat.pow_add, Nat.mul_div_mul_right _ _ (Nat.two_pow_pos _)]
      simp
  have e2 : ∀ X : Nat, Ieee.signed s X 0 = if s then -(X : Int) else (X : Int) := by intro X; unfold Ieee.signed; simp
  rw [e1, e2]
  have e3 : Ieee.signed s m (e + unitOf k).toNat = if s then -((m * 2 ^ (e + unitOf k).toNat : Nat) : Int) else ((m * 2 ^ (e + unitOf k).toNat : Nat) : Int) := by
    unfold Ieee.signed; rw [Nat.shiftLeft_eq]
  rw [e3]
  generalize m * 2 ^ (e + unitOf k).toNat = X
  have e4 : ((2 : Int) ^ unitOf k) = ((2 ^ unitOf k : Nat) : Int) := (Int.natCast_pow 2 _).symm
  rw [e4]
  cases s
  · simp only [Bool.false_eq_true, if_false]
    exact (Int.ofNat_tdiv _ _).symm
  · simp only [if_true, Int.neg_tdiv]
    rw [← Int.ofNat_tdiv]
end Go.Fk

/- Floats made whole (math.RoundToEven and its kin), up to the bits of NaN; that rounding gives no NaN; floats to integers by value. Nothing here names a program. -/
namespace Go.Fk
open Go Go.RowKit

theorem infRung_word (k : FloatKind) (s : Bool) {r : Nat} (h : r ≤ k.format.infRung) : isNan k (k.format.word s r) = false := by
  have hs : k.format.infRung < k.format.signWeight := Ieee.Format.infRung_lt _
  cases k
  · have e2 : Ieee.single.infRung = 2139095040 := by decide
    have e1 : Ieee.single.signWeight = 2147483648 := by decide
    have hw := word_mod Ieee.single s (r := r) (Nat.lt_of_le_of_lt h hs)
    rw [e1] at hw
    have hw' : FloatKind.f32.format.word s r % 2147483648 = r := hw
    have h' : r ≤ 2139095040 := Nat.le_trans h (Nat.le_of_eq e2)
    rw [isNan_f32, decide_eq_false_iff_not]; omega
  · have e2 : Ieee.double.infRung = 9218868437227405312 := by decide
    have e1 : Ieee.double.signWeight = 9223372036854775808 := by decide
    have hw := word_mod Ieee.double s (r := r) (Nat.lt_of_le_of_lt h hs)
    rw [e1] at hw
    have hw' : FloatKind.f64.format.word s r % 9223372036854775808 = r := hw
    have h' : r ≤ 9218868437227405312 := Nat.le_trans h (Nat.le_of_eq e2)
    rw [isNan_f64, decide_eq_false_iff_not]; omega
theorem isNan_nearest (k : FloatKind) (s : Bool) (m : Nat) (e : Int) : isNan k (k.format.nearest s m e) = false := by
  unfold Ieee.Format.nearest
  split
  · exact infRung_word k s (Nat.zero_le _)
  · exact infRung_word k s (Nat.min_le_right _ _)
theorem isNan_encode (k : FloatKind) {d : Ieee.Datum} (h : d.isNaN = false) : isNan k (k.encode d) = false := by
  cases d with
  | number s m e => exact isNan_nearest k s m e
  | infinity s => exact infRung_word k s (Nat.le_refl _)
  | nan s t => simp [Ieee.Datum.isNaN] at h

theorem isNan_widen (b : Nat) : isNan .f64 (widen b) = isNan .f32 b := by
  cases hr : FloatKind.f32.format.read b with
  | nan s t => simp only [widen, hr, isNan_qnan]; simp [isNan, hr, Ieee.Datum.isNaN]
  | infinity s => simp only [widen, hr]; rw [isNan_encode _ rfl]; simp [isNan, hr, Ieee.Datum.isNaN]
  | number s m e => simp only [widen, hr]; rw [isNan_encode _ rfl]; simp [isNan, hr, Ieee.Datum.isNaN]

/-- A number made whole, up to the bits of NaN. -/
def integ (way : Ieee.Toward) (b : Nat) : Nat := match FloatKind.f64.decode b with
  | .nan _ _ => qnan .f64
  | d => FloatKind.f64.encode (d.integral way)
theorem integ_can (way : Ieee.Toward) (b : Nat) : integ way (can .f64 b) = integ way b := by
  cases h : isNan .f64 b
  · rw [can_of_not h]
  · rw [can_of_nan h]
    obtain ⟨s, t, hr⟩ := read_nan h
    obtain ⟨s', t', hr'⟩ := read_nan (isNan_qnan .f64)
    simp only [integ, FloatKind.decode, hr, hr']
theorem isNan_integ (way : Ieee.Toward) (b : Nat) : isNan .f64 (integ way b) = isNan .f64 b := by
  cases hr : FloatKind.f64.format.read b with
  | nan s t => simp only [integ, FloatKind.decode, hr, isNan_qnan]; simp [isNan, hr, Ieee.Datum.isNaN]
  | infinity s => simp only [integ, FloatKind.decode, hr]; rw [isNan_encode _ rfl]; simp [isNan, hr, Ieee.Datum.isNaN]
  | number s m e => simp only [integ, FloatKind.decode, hr]; rw [isNan_encode _ rfl]; simp [isNan, hr, Ieee.Datum.isNaN]

/-- A quiet NaN is one. -/
theorem isNan_quiet (s : Bool) (b t : Nat) (h : FloatKind.f64.format.read b = .nan s t) :
    isNan .f64 (FloatKind.f64.encode (.nan s (FloatKind.f64.format.quiet t))) = true := by
  have e1 : Ieee.double.signWeight = 9223372036854775808 := by decide
  have e2 : Ieee.double.infRung = 9218868437227405312 := by decide
  have e3 : Ieee.double.binade = 4503599627370496 := by decide
  have hq : (t ||| 2251799813685248) % 4503599627370496 ≠ 0 := by
    intro h0
    have h1 : ((t ||| 2251799813685248) % 2 ^ 52).testBit 51 = false := by rw [show (2 : Nat) ^ 52 = 4503599627370496 by decide, h0]; simp
    rw [Nat.testBit_mod_two_pow, Nat.testBit_or, show (2251799813685248 : Nat) = 2 ^ 51 by decide, Nat.testBit_two_pow_self] at h1
    simp at h1
  rw [isNan_f64]
  simp only [FloatKind.encode, Ieee.Format.write, FloatKind.format, Ieee.Format.quiet, e2, e3]
  rw [show (2 : Nat) ^ (Ieee.double.fractionBits - 1) = 2251799813685248 by decide]
  have hlt : (t ||| 2251799813685248) % 4503599627370496 < 4503599627370496 := Nat.mod_lt _ (by omega)
  generalize (t ||| 2251799813685248) % 4503599627370496 = q at *
  have hw := word_mod Ieee.double s (r := 9218868437227405312 + q) (by rw [e1]; omega)
  rw [e1] at hw
  rw [hw, decide_eq_true_iff]
  omega

theorem toIntegral_eq (name : String) (way : Ieee.Toward) (x : Nat) : Extern.MathFloor.toIntegral name way #[.float .f64 x] = ((match FloatKind.f64.decode x with
    | .nan s t =>
      if FloatKind.f64.format.quiet t = t then pure (Value.float .f64 x) else do
      let kept ← choose (.extern "math.Floor,Ceil,Trunc,RoundToEven.signallingNaN kept" 2)
      pure (Value.float .f64 (if kept == 1 then x else FloatKind.f64.encode (.nan s (FloatKind.f64.format.quiet t))))
    | d => pure (Value.float .f64 (FloatKind.f64.encode (d.integral way)))) : Sem Value) := rfl

theorem run_integral {P : Program} (name : String) (way : Ieee.Toward) (w : World) (b : Nat) (hb : fits .f64 b) :
    ∃ r n, (Extern.MathFloor.toIntegral name way #[.float .f64 b]).run P w = .ok (.float .f64 r) (w.drewN n) ∧ can .f64 r = can .f64 (integ way b) ∧ fits .f64 r := by
  cases hr : FloatKind.f64.format.read b with
  | nan s t =>
    have hn : isNan .f64 b = true := by simp [isNan, hr, Ieee.Datum.isNaN]
    have hi : integ way b = qnan .f64 := by simp only [integ, FloatKind.decode, hr]
    have hd : FloatKind.f64.decode b = .nan s t := hr
    by_cases hq : FloatKind.f64.format.quiet t = t
    · refine ⟨b, 0, ?_, by rw [hi, can_qnan, can_of_nan hn], hb⟩
      simp [toIntegral_eq, hd, hq]; rfl
    · by_cases hk : ((Question.extern "math.Floor,Ceil,Trunc,RoundToEven.signallingNaN kept" 2).cut (w.tape w.drawn (.extern "math.Floor,Ceil,Trunc,RoundToEven.signallingNaN kept" 2)) == 1) = true
      · refine ⟨b, 1, ?_, by rw [hi, can_qnan, can_of_nan hn], hb⟩
        simp only [beq_iff_eq] at hk
        simp [toIntegral_eq, hd, hq, Question.forced, hk]; rfl
      · refine ⟨FloatKind.f64.encode (.nan s (FloatKind.f64.format.quiet t)), 1, ?_, by rw [hi, can_qnan, can_of_nan (isNan_quiet s b t hr)], encode_wf _ _⟩
        simp only [beq_iff_eq] at hk
        simp [toIntegral_eq, hd, hq, Question.forced, hk]; rfl
  | infinity s =>
    have hd : FloatKind.f64.decode b = .infinity s := hr
    refine ⟨FloatKind.f64.encode (Ieee.Datum.integral way (.infinity s)), 0, ?_, by simp only [integ, hd], encode_wf _ _⟩
    simp [toIntegral_eq, hd]; rfl
  | number s m e =>
    have hd : FloatKind.f64.decode b = .number s m e := hr
    refine ⟨FloatKind.f64.encode (Ieee.Datum.integral way (.number s m e)), 0, ?_, by simp only [integ, hd], encode_wf _ _⟩
    simp [toIntegral_eq, hd]; rfl

/-- THE WALK's LAW for a call of a function without a body that gives a float. -/
theorem wpList_extern {P : Program} {w : World} {ops : Array Oper} {rest : List Oper} {o : Oper} {a : Act} {Q : Exit → Act → World → Prop}
    (hg : o.guard = none) {f : FuncId} {x : Operand} {ts : Array TypeId} (hop : o.op = Op.call { callee := Callee.value (Operand.func f), args := #[x], argTypes := ts })
    {k' : FloatKind} {q : Nat} (hx : a.eval x = .float k' q) (Res : Nat → Prop) {k : FloatKind}
    (hrun : ∀ w, ∃ r n, (callFunc f #[.float k' q]).run P w = .ok (.value (.float k r)) (w.drewN n) ∧ Res r)
    (hK : ∀ r n, Hid (Res r) → wpList P ops Q rest (a.put o.dst (.float k r)) (w.drewN n)) : wpList P ops Q (o :: rest) a w := by
  refine wpList_plain hg fun K hK' => ?_
  obtain ⟨r, n, hr, hres⟩ := hrun w
  unfold Oper.wp
  have hf : a.eval (Operand.func f) = .func (.func f) #[] #[] := rfl
  simp [execOp, hop, hx, hf, resolve, invoke, Deferred.ofValue, hr, Result.andThen]
  exact hK' _ _ (hK r n hres)

/-- A wide float to an integer of 16 bits. -/
theorem floatToInt_val {b : Nat} {k : IntKind} (hn : isNan .f64 b = false) (hlo : k.min * 2 ^ unitOf .f64 ≤ val .f64 b) (hhi : val .f64 b ≤ k.max * 2 ^ unitOf .f64)
    (hsmall : k.max * 2 ^ unitOf .f64 < far) (hsmall' : -(far : Int) < k.min * 2 ^ unitOf .f64) :
    floatToIntVal .f64 b k = some ((val .f64 b).tdiv (2 ^ unitOf .f64)) := by
  cases hr : FloatKind.f64.format.read b with
  | nan s t => simp [isNan, hr, Ieee.Datum.isNaN] at hn
  | infinity s =>
    have hv : val .f64 b = if s then -(far : Int) else far := by simp only [val, hr]
    rw [hv] at hlo hhi
    cases s <;> simp at hlo hhi <;> omega
  | number s m e =>
    have ht := toInt_val hr
    unfold floatToIntVal
    rw [ht]
    have hU : (0 : Int) < 2 ^ unitOf .f64 := Int.pow_pos (by omega)
    generalize (2 : Int) ^ unitOf .f64 = U at *
    generalize val .f64 b = v at *
    have h1 : k.min ≤ v.tdiv U := by
      have : k.min = (k.min * U).tdiv U := (Int.mul_tdiv_cancel _ (by omega)).symm
      rw [this]; exact Int.tdiv_le_tdiv hU hlo
    have h2 : v.tdiv U ≤ k.max := by
      have : k.max = (k.max * U).tdiv U := (Int.mul_tdiv_cancel _ (by omega)).symm
      rw [this]; exact Int.tdiv_le_tdiv hU hhi
    simp only [h1, h2, and_self, if_true]
end Go.Fk

/- Exactness: what a format has is written as it stands. Nothing here names a program. -/
namespace Go.Fk
open Go Go.RowKit

theorem cut_zero (s : Bool) (n : Nat) : Ieee.Toward.even.cut s n 0 = n := by
  simp [Ieee.Toward.cut, Nat.mod_one]

/-- What is cut off leaves nothing behind: the quotient. -/
theorem cut_exact (s : Bool) (n d : Nat) : Ieee.Toward.even.cut s (n * 2 ^ d) d = n := by
  by_cases hn : n = 0
  · subst hn
    have hp := Nat.two_pow_pos (min d (Nat.log2 0 + 2))
    simp only [Ieee.Toward.cut, Nat.zero_mul, Nat.one_shiftLeft, Nat.zero_div, Nat.zero_mod]
    simp
  · have h0 : n * 2 ^ d ≠ 0 := Nat.mul_ne_zero hn (Nat.ne_of_gt (Nat.two_pow_pos d))
    have hd : d ≤ (n * 2 ^ d).log2 := by
      refine (Nat.le_log2 h0).2 ?_
      exact Nat.le_mul_of_pos_left _ (by omega)
    have hp := Nat.two_pow_pos d
    simp only [Ieee.Toward.cut, Nat.one_shiftLeft]
    rw [Nat.min_eq_left (by omega), Nat.mul_div_cancel _ hp, Nat.mul_mod_left]
    simp

theorem cut_scale (s : Bool) (n d j : Nat) (hn : n ≠ 0) : Ieee.Toward.even.cut s (n * 2 ^ j) (d + j) = Ieee.Toward.even.cut s n d := by
  have hl : (n * 2 ^ j).log2 = n.log2 + j := by
    have h0 : n * 2 ^ j ≠ 0 := Nat.mul_ne_zero hn (Nat.ne_of_gt (Nat.two_pow_pos j))
    refine (Nat.log2_eq_iff h0).2 ⟨?_, ?_⟩
    · rw [Nat.pow_add]; exact Nat.mul_le_mul_right _ (Nat.log2_self_le hn)
    · rw [show n.log2 + j + 1 = (n.log2 + 1) + j by omega, Nat.pow_add]
      exact Nat.mul_lt_mul_of_pos_right Nat.lt_log2_self (Nat.two_pow_pos j)
  have hp := Nat.two_pow_pos j
  simp only [Ieee.Toward.cut, Nat.one_shiftLeft, hl]
  rw [show min (d + j) (n.log2 + j + 2) = min d (n.log2 + 2) + j by omega, Nat.pow_add, Nat.mul_div_mul_right _ _ hp, Nat.mul_mod_mul_right]
  generalize 2 ^ min d (n.log2 + 2) = g
  have e1 : decide (g * 2 ^ j < 2 * (n % g * 2 ^ j)) = decide (g < 2 * (n % g)) := by
    rw [← Nat.mul_assoc]
    exact decide_eq_decide.2 (Nat.mul_lt_mul_right hp)
  have e2 : (g * 2 ^ j == 2 * (n % g * 2 ^ j)) = (g == 2 * (n % g)) := by
    rw [← Nat.mul_assoc, Bool.eq_iff_iff, beq_iff_eq, beq_iff_eq]
    exact Nat.mul_left_inj (by omega)
  rw [e1, e2]

theorem log2_scale {n : Nat} (hn : n ≠ 0) (j : Nat) : (n * 2 ^ j).log2 = n.log2 + j := by
  have h0 : n * 2 ^ j ≠ 0 := Nat.mul_ne_zero hn (Nat.ne_of_gt (Nat.two_pow_pos j))
  refine (Nat.log2_eq_iff h0).2 ⟨?_, ?_⟩
  · rw [Nat.pow_add]; exact Nat.mul_le_mul_right _ (Nat.log2_self_le hn)
  · rw [show n.log2 + j + 1 = (n.log2 + 1) + j by omega, Nat.pow_add]
    exact Nat.mul_lt_mul_of_pos_right Nat.lt_log2_self (Nat.two_pow_pos j)

/-- What is written speaks of the number alone, not of how it is split. -/
theorem nearest_scale (f : Ieee.Format) (s : Bool) (m j : Nat) (e : Int) : f.nearest s (m * 2 ^ j) (e - j) = f.nearest s m e := by
  by_cases hm : m = 0
  · subst hm; simp [Ieee.Format.nearest]
  have h0 : m * 2 ^ j ≠ 0 := Nat.mul_ne_zero hm (Nat.ne_of_gt (Nat.two_pow_pos j))
  unfold Ieee.Format.nearest
  rw [if_neg hm, if_neg h0, log2_scale hm]
  rw [show e - (j : Int) + ((m.log2 + j : Nat) : Int) - f.fractionBits = e + m.log2 - f.fractionBits by omega]
  generalize max (e + (m.log2 : Int) - f.fractionBits) f.leastPlace = last
  dsimp only
  congr 3
  simp only [Nat.shiftLeft_eq]
  by_cases h1 : e ≤ last
  · rw [show (e - (j : Int) - last).toNat = 0 by omega, show (e - last).toNat = 0 by omega, show (last - (e - (j : Int))).toNat = (last - e).toNat + j by omega]
    simpa using cut_scale s m _ j hm
  · by_cases h2 : last ≤ e - j
    · rw [show (last - (e - (j : Int))).toNat = 0 by omega, show (last - e).toNat = 0 by omega, cut_zero, cut_zero, Nat.mul_assoc, ← Nat.pow_add,
        show j + (e - (j : Int) - last).toNat = (e - last).toNat by omega]
    · rw [show (e - (j : Int) - last).toNat = 0 by omega, show (last - e).toNat = 0 by omega, cut_zero, Nat.pow_zero, Nat.mul_one,
        show j = (e - last).toNat + (last - (e - (j : Int))).toNat by omega, Nat.pow_add, ← Nat.mul_assoc]
      rw [show (last - (e - (((e - last).toNat + (last - (e - (j : Int))).toNat : Nat) : Int))).toNat = (last - (e - (j : Int))).toNat by omega]
      exact cut_exact s _ _

/-- The place of the last digit that is kept. -/
def lastOf (f : Ieee.Format) (m : Nat) (e : Int) : Int := max (e + m.log2 - f.fractionBits) f.leastPlace

/-- A number that the format has is read as it was written, shifted to the format's own place. -/
theorem read_nearest (f : Ieee.Format) (s : Bool) (m : Nat) (e : Int) (hm : m ≠ 0) (hp : m.log2 ≤ f.fractionBits) (he : f.leastPlace ≤ e)
    (ho : e + m.log2 - f.fractionBits ≤ f.leastPlace + 2 ^ f.exponentBits - 3) (hx : 2 ≤ f.exponentBits) :
    f.read (f.nearest s m e) = .number s (m * 2 ^ (e - lastOf f m e).toNat) (lastOf f m e) ∧ f.nearest s m e % f.signWeight < f.infRung := by
  have hx4 : (4 : Int) ≤ 2 ^ f.exponentBits := by
    have h : 2 ^ 2 ≤ 2 ^ f.exponentBits := Nat.pow_le_pow_right (by omega) hx
    exact_mod_cast h
  have hb : f.binade = 2 ^ f.fractionBits := rfl
  have hbp : 0 < f.binade := by rw [hb]; exact Nat.two_pow_pos _
  have hl1 : lastOf f m e ≤ e := by unfold lastOf; omega
  have hl2 : f.leastPlace ≤ lastOf f m e := by unfold lastOf; omega
  have hl3 : lastOf f m e ≤ f.leastPlace + 2 ^ f.exponentBits - 3 := by unfold lastOf; omega
  have hlog : (m * 2 ^ (e - lastOf f m e).toNat).log2 = m.log2 + (e - lastOf f m e).toNat := log2_scale hm _
  have hM0 : m * 2 ^ (e - lastOf f m e).toNat ≠ 0 := Nat.mul_ne_zero hm (Nat.ne_of_gt (Nat.two_pow_pos _))
  have hM : m * 2 ^ (e - lastOf f m e).toNat < 2 * f.binade := by
    have h1 : m.log2 + (e - lastOf f m e).toNat ≤ f.fractionBits := by unfold lastOf; omega
    have := @Nat.lt_log2_self (m * 2 ^ (e - lastOf f m e).toNat)
    rw [hlog] at this
    calc _ < _ := this
      _ ≤ 2 ^ (f.fractionBits + 1) := Nat.pow_le_pow_right (by omega) (by omega)
      _ = 2 * f.binade := by rw [Nat.pow_succ, ← hb]; omega
  have hfull : f.leastPlace < lastOf f m e → f.binade ≤ m * 2 ^ (e - lastOf f m e).toNat := by
    intro h
    have h1 : m.log2 + (e - lastOf f m e).toNat = f.fractionBits := by unfold lastOf at h ⊢; omega
    have := Nat.log2_self_le hM0
    rw [hlog, h1, ← hb] at this
    exact this
  have hn : f.nearest s m e = f.word s (min ((lastOf f m e - f.leastPlace).toNat * f.binade + m * 2 ^ (e - lastOf f m e).toNat) f.infRung) := by
    unfold Ieee.Format.nearest
    rw [if_neg hm]
    show f.word s (min ((lastOf f m e - f.leastPlace).toNat * f.binade + Ieee.Toward.even.cut s (m <<< (e - lastOf f m e).toNat) (lastOf f m e - e).toNat) f.infRung) = _
    rw [show (lastOf f m e - e).toNat = 0 by omega, cut_zero, Nat.shiftLeft_eq]
  generalize hM' : m * 2 ^ (e - lastOf f m e).toNat = M at *
  generalize hq : (lastOf f m e - f.leastPlace).toNat = q at *
  have hq2 : q + 3 ≤ 2 ^ f.exponentBits := by
    have : (q : Int) + 3 ≤ ((2 ^ f.exponentBits : Nat) : Int) := by push_cast; omega
    exact_mod_cast this
  have hr : q * f.binade + M < f.infRung := by
    unfold Ieee.Format.infRung
    have h1 : (q + 2) * f.binade ≤ (2 ^ f.exponentBits - 1) * f.binade := Nat.mul_le_mul_right _ (by omega)
    rw [Nat.add_mul] at h1
    omega
  have hs : f.infRung < f.signWeight := Ieee.Format.infRung_lt _
  rw [Nat.min_eq_left (Nat.le_of_lt hr)] at hn
  rw [hn]
  have hmod := word_mod f s (r := q * f.binade + M) (by omega)
  refine ⟨?_, by rw [hmod]; exact hr⟩
  have hsg : (f.word s (q * f.binade + M) / f.signWeight % 2 == 1) = s := by
    unfold Ieee.Format.word
    cases s
    · simp [Nat.div_eq_of_lt (show q * f.binade + M < f.signWeight by omega)]
    · simp [Nat.add_div_left _ (show 0 < f.signWeight by omega), Nat.div_eq_of_lt (show q * f.binade + M < f.signWeight by omega)]
  unfold Ieee.Format.read
  simp only [hmod, hsg]
  by_cases hsub : q * f.binade + M < f.binade
  · rw [if_pos hsub]
    have hq0 : q = 0 := by
      apply Nat.eq_zero_of_not_pos
      intro h
      have : 1 * f.binade ≤ q * f.binade := Nat.mul_le_mul_right _ h
      omega
    rw [hq0]
    congr 1
    · simp
    · omega
  · rw [if_neg hsub, if_pos hr]
    have hMb : f.binade ≤ M := by
      by_cases h : f.leastPlace < lastOf f m e
      · exact hfull h
      · have : q = 0 := by omega
        rw [this] at hsub; omega
    have e1 : (q * f.binade + M) % f.binade = M - f.binade := by
      rw [Nat.mul_add_mod_self_right, Nat.mod_eq_sub_mod hMb, Nat.mod_eq_of_lt (by omega)]
    have e2 : (q * f.binade + M) / f.binade = q + 1 := by
      rw [Nat.mul_comm, Nat.mul_add_div hbp]
      congr 1
      rw [show M = f.binade + (M - f.binade) by omega, Nat.add_div_left _ hbp, Nat.div_eq_of_lt (by omega)]
    rw [e1, e2]
    congr 1
    · omega
    · omega

/-- What is read is written back. -/
theorem write_read (f : Ieee.Format) (hx : 2 ≤ f.exponentBits) (b : Nat) {s : Bool} {m : Nat} {e : Int} (h : f.read b = .number s m e) : f.nearest s m e = f.word s (b % f.signWeight) := by
  have hb : f.binade = 2 ^ f.fractionBits := rfl
  have hbp : 0 < f.binade := by rw [hb]; exact Nat.two_pow_pos _
  have hx4 : 4 ≤ 2 ^ f.exponentBits := Nat.pow_le_pow_right (n := 2) (by omega) hx
  have hinf : f.binade ≤ f.infRung := by
    unfold Ieee.Format.infRung
    exact Nat.le_mul_of_pos_left _ (by omega)
  unfold Ieee.Format.read at h
  dsimp only at h
  generalize b % f.signWeight = r at *
  split at h
  · rename_i h1
    simp only [Ieee.Datum.number.injEq] at h
    obtain ⟨_, rfl, rfl⟩ := h
    by_cases h0 : r = 0
    · subst h0; simp [Ieee.Format.nearest]
    · unfold Ieee.Format.nearest
      rw [if_neg h0]
      have h2 := h1
      rw [hb] at h2
      have := (Nat.log2_lt h0).2 h2
      rw [show max (f.leastPlace + (r.log2 : Int) - f.fractionBits) f.leastPlace = f.leastPlace by omega]
      simp only [Int.sub_self, Int.toNat_zero, Nat.shiftLeft_zero, cut_zero, Nat.zero_mul, Nat.zero_add]
      rw [Nat.min_eq_left (by omega)]
  · rename_i h1
    split at h
    · rename_i h2
      simp only [Ieee.Datum.number.injEq] at h
      obtain ⟨_, rfl, rfl⟩ := h
      have hlt := Nat.mod_lt r hbp
      have h0 : f.binade + r % f.binade ≠ 0 := by omega
      have e1 : (f.binade + r % f.binade).log2 = f.fractionBits := by
        refine (Nat.log2_eq_iff h0).2 ⟨?_, ?_⟩
        · rw [← hb]; omega
        · rw [Nat.pow_succ, ← hb]; omega
      have h3 : 1 ≤ r / f.binade := (Nat.le_div_iff_mul_le hbp).2 (by omega)
      unfold Ieee.Format.nearest
      rw [if_neg h0, e1]
      rw [show max (f.leastPlace + ((r / f.binade - 1 : Nat) : Int) + (f.fractionBits : Int) - f.fractionBits) f.leastPlace = f.leastPlace + ((r / f.binade - 1 : Nat) : Int) by omega]
      simp only [Int.sub_self, Int.toNat_zero, Nat.shiftLeft_zero, cut_zero]
      rw [show (f.leastPlace + ((r / f.binade - 1 : Nat) : Int) - f.leastPlace).toNat = r / f.binade - 1 by omega]
      have h4 : (r / f.binade - 1) * f.binade + (f.binade + r % f.binade) = r := by
        have h5 := Nat.div_add_mod r f.binade
        have h6 : (r / f.binade - 1) * f.binade + f.binade = r / f.binade * f.binade := by
          rw [← Nat.succ_mul]; congr 1; omega
        rw [Nat.mul_comm] at h5
        omega
      rw [h4, Nat.min_eq_left (by omega)]
    · split at h <;> cases h

theorem bits32 : FloatKind.f32.format.exponentBits = 8 ∧ FloatKind.f32.format.fractionBits = 23 ∧ FloatKind.f32.format.leastPlace = -149 ∧ FloatKind.f32.format.signWeight = 2147483648 ∧ FloatKind.f32.format.infRung = 2139095040 := by decide
theorem bits64 : FloatKind.f64.format.exponentBits = 11 ∧ FloatKind.f64.format.fractionBits = 52 ∧ FloatKind.f64.format.leastPlace = -1074 ∧ FloatKind.f64.format.signWeight = 9223372036854775808 ∧ FloatKind.f64.format.infRung = 9218868437227405312 := by decide

/-- What a narrow number's datum is made of. -/
theorem read32 {b : Nat} {s : Bool} {m : Nat} {e : Int} (h : FloatKind.f32.format.read b = .number s m e) : -149 ≤ e ∧ (m ≠ 0 → m.log2 ≤ 23 ∧ e + m.log2 + 1 ≤ 128) := by
  refine ⟨?_, fun h0 => ⟨?_, lt32 h h0⟩⟩
  all_goals
    have e1 : Ieee.single.signWeight = 2147483648 := by decide
    have e2 : Ieee.single.infRung = 2139095040 := by decide
    have e3 : Ieee.single.binade = 8388608 := by decide
    have e4 : Ieee.single.leastPlace = -149 := by decide
    simp only [FloatKind.format, Ieee.Format.read, e1, e2, e3, e4] at h
    split at h
    · simp only [Ieee.Datum.number.injEq] at h
      obtain ⟨_, rfl, rfl⟩ := h
      first | omega | (have : (b % 2147483648).log2 < 23 := (Nat.log2_lt h0).2 (by omega)
                       omega)
    · split at h
      · simp only [Ieee.Datum.number.injEq] at h
        obtain ⟨_, rfl, rfl⟩ := h
        first | omega | (have : (8388608 + b % 2147483648 % 8388608).log2 < 24 := (Nat.log2_lt h0).2 (by omega)
                         omega)
      · split at h <;> cases h

/-- A narrow number is widened exactly. -/
theorem read_widen {b : Nat} {s : Bool} {m : Nat} {e : Int} (h : FloatKind.f32.format.read b = .number s m e) :
    ∃ j : Nat, ∃ e', FloatKind.f64.format.read (widen b) = .number s (m * 2 ^ j) e' ∧ (m ≠ 0 → e' = e - j) ∧ widen b % 9223372036854775808 < 9218868437227405312 := by
  obtain ⟨b1, b2, b3, b4, b5⟩ := bits64
  obtain ⟨h1, h2⟩ := read32 h
  have hw : widen b = FloatKind.f64.format.nearest s m e := by simp only [widen, h]; rfl
  rw [hw]
  by_cases hm : m = 0
  · subst hm
    refine ⟨0, -1074, ?_, fun h => absurd rfl h, ?_⟩
    · cases s <;> simp [Ieee.Format.nearest, Ieee.Format.word] <;> decide
    · cases s <;> simp [Ieee.Format.nearest, Ieee.Format.word] <;> decide
  · obtain ⟨h3, h4⟩ := h2 hm
    obtain ⟨h5, h6⟩ := read_nearest FloatKind.f64.format s m e hm (by omega) (by omega) (by rw [b1, b2, b3]; omega) (by omega)
    rw [b4, b5] at h6
    refine ⟨_, _, h5, fun _ => ?_, h6⟩
    have : lastOf FloatKind.f64.format m e ≤ e := by unfold lastOf; omega
    omega
end Go.Fk
namespace Go.Fk
open Go Go.RowKit
theorem read_mod {k : FloatKind} {b : Nat} {s : Bool} {m : Nat} {e : Int} (h : k.format.read b = .number s m e) : k.format.read (b % k.format.signWeight) = .number false m e := by
  have hs : 0 < k.format.signWeight := by unfold Ieee.Format.signWeight; exact Nat.two_pow_pos _
  have e1 : (b % k.format.signWeight / k.format.signWeight % 2 == 1) = false := by
    rw [Nat.div_eq_of_lt (Nat.mod_lt _ hs)]; rfl
  unfold Ieee.Format.read at h ⊢
  dsimp only at h ⊢
  rw [e1, Nat.mod_mod]
  generalize b % k.format.signWeight = r at *
  split
  · rename_i h1
    rw [if_pos h1] at h
    simp only [Ieee.Datum.number.injEq] at h ⊢
    exact ⟨trivial, h.2⟩
  · rename_i h1
    rw [if_neg h1] at h
    split
    · rename_i h2
      rw [if_pos h2] at h
      simp only [Ieee.Datum.number.injEq] at h ⊢
      exact ⟨trivial, h.2⟩
    · rename_i h2
      rw [if_neg h2] at h
      split at h <;> cases h

/-- May be narrowed: what the language fixes, whole range. -/
def narrowableX (b : Nat) : Prop := ∀ s m e, FloatKind.f64.format.read b = .number s m e → (FloatKind.f32.decode (FloatKind.f32.encode (.number s m e))).isInfinity = false

/-- The size of a narrow number, by way of the wide ones. -/
theorem narrow_abs {b w : Nat} (hw : can .f64 w = can .f64 (widen b)) : narrowableX (w % 9223372036854775808) ∧ can .f32 (narrow (w % 9223372036854775808)) = can .f32 (b % 2147483648) := by
  obtain ⟨a1, a2, a3, a4, a5⟩ := bits32
  obtain ⟨b1, b2, b3, b4, b5⟩ := bits64
  cases hr : FloatKind.f32.format.read b with
  | nan s t =>
    have hn : isNan .f32 b = true := by simp [isNan, hr, Ieee.Datum.isNaN]
    have hq : widen b = qnan .f64 := by simp only [widen, hr]
    have hwn : isNan .f64 w = true := by rw [isNan_of_can hw, hq]; exact isNan_qnan _
    have hm : isNan .f64 (w % 9223372036854775808) = true := by rw [isNan_f64] at hwn ⊢; rwa [Nat.mod_mod]
    have hm2 : isNan .f32 (b % 2147483648) = true := by rw [isNan_f32] at hn ⊢; rwa [Nat.mod_mod]
    obtain ⟨s', t', hr'⟩ := read_nan hm
    refine ⟨fun s1 m1 e1 h => (by rw [hr'] at h; cases h), ?_⟩
    rw [can_of_nan hm2]
    simp only [narrow, hr', can_qnan]
  | infinity s =>
    have hb : b % 2147483648 = 2139095040 := by
      have e1 : Ieee.single.signWeight = 2147483648 := by decide
      have e2 : Ieee.single.infRung = 2139095040 := by decide
      simp only [FloatKind.format, Ieee.Format.read, e1, e2] at hr
      split at hr
      · cases hr
      · split at hr
        · cases hr
        · split at hr
          · assumption
          · cases hr
    have hq : widen b = FloatKind.f64.encode (.infinity s) := by simp only [widen, hr]
    have hwq : w = FloatKind.f64.encode (.infinity s) := by
      rw [hq] at hw
      exact (eq_of_can hw.symm (by cases s <;> decide)).symm
    rw [hwq, hb]
    have e1 : FloatKind.f64.format.read (FloatKind.f64.encode (.infinity s) % 9223372036854775808) = .infinity false := by cases s <;> decide
    refine ⟨fun s1 m1 e1' h => (by rw [e1] at h; cases h), ?_⟩
    simp only [narrow, e1]
    decide
  | number s m e =>
    obtain ⟨j, e', h1, h2, h3⟩ := read_widen hr
    have hwq : w = widen b := by
      refine (eq_of_can hw.symm ?_).symm
      simp [isNan, h1, Ieee.Datum.isNaN]
    rw [hwq]
    have h4 := read_mod h1
    have h5 := read_mod hr
    rw [b4] at h4
    rw [a4] at h5
    have h6 : FloatKind.f32.format.nearest false (m * 2 ^ j) e' = b % 2147483648 := by
      have h7 := write_read FloatKind.f32.format (by omega) (b % 2147483648) h5
      rw [a4, Nat.mod_mod] at h7
      by_cases hm : m = 0
      · subst hm
        rw [Nat.zero_mul]
        exact (show FloatKind.f32.format.nearest false 0 e' = FloatKind.f32.format.nearest false 0 e by simp [Ieee.Format.nearest]).trans h7
      · rw [h2 hm, nearest_scale, h7]; rfl
    have h8 : FloatKind.f32.encode (.number false (m * 2 ^ j) e') = b % 2147483648 := h6
    refine ⟨fun s1 m1 e1 h => ?_, ?_⟩
    · rw [h4] at h
      cases h
      rw [h8]
      have : FloatKind.f32.decode (b % 2147483648) = .number false m e := h5
      rw [this]; rfl
    · have : narrow (widen b % 9223372036854775808) = FloatKind.f32.encode (.number false (m * 2 ^ j) e') := by simp only [narrow, h4]
      rw [this, h8]

section
variable {P : Program}
theorem run_narrowX (w : World) (src dst : TypeId) (b : Nat) (hs : P.underlying src = some (.float .f64)) (hd : P.underlying dst = some (.float .f32)) (hb : narrowableX b) :
    ∃ r n, (convert src dst (.float .f64 b)).run P w = .ok (.float .f32 r) (w.drewN n) ∧ can .f32 r = can .f32 (narrow b) ∧ fits .f32 r := by
  cases hr : FloatKind.f64.format.read b with
  | nan s t =>
    refine ⟨(Question.nanConv .f32 b).cut (w.tape w.drawn (.nanConv .f32 b)), 1, ?_, ?_, (nan_conv .f32 b _).2⟩
    · simp [convert, run_underlying hs, run_underlying hd, Conv.floatToFloat, FloatKind.decode, hr, Question.forced]; rfl
    · rw [can_of_nan (nan_conv .f32 b _).1]; simp only [narrow, hr, can_qnan]
  | infinity s =>
    refine ⟨FloatKind.f32.encode (.infinity s), 0, ?_, by simp only [narrow, hr], encode_wf _ _⟩
    simp [convert, run_underlying hs, run_underlying hd, Conv.floatToFloat, FloatKind.decode, hr]; rfl
  | number s m e =>
    refine ⟨FloatKind.f32.encode (.number s m e), 0, ?_, by simp only [narrow, hr], encode_wf _ _⟩
    have h := hb s m e hr
    have hr' : FloatKind.f64.decode b = .number s m e := hr
    simp [convert, run_underlying hs, run_underlying hd, Conv.floatToFloat, hr', h]; rfl

variable {w : World} {ops : Array Oper} {rest : List Oper} {o : Oper} {a : Act} {Q : Exit → Act → World → Prop}
theorem wpList_narrowX (hg : o.guard = none) {src dst : TypeId} {x : Operand} (hop : o.op = Op.convert src dst x) {b : Nat} (hx : a.eval x = .float .f64 b)
    (hs : P.underlying src = some (.float .f64)) (hd : P.underlying dst = some (.float .f32)) (hb : narrowableX b)
    (hK : ∀ r n, Hid (can .f32 r = can .f32 (narrow b)) → Hid (fits .f32 r) → wpList P ops Q rest (a.put o.dst (.float .f32 r)) (w.drewN n)) : wpList P ops Q (o :: rest) a w := by
  refine wpList_plain hg fun K hK' => ?_
  obtain ⟨r, n, hrun, hr, hf⟩ := run_narrowX (P := P) w src dst b hs hd hb
  unfold Oper.wp
  simp [execOp, hop, hx, hrun, Result.andThen]
  exact hK' _ _ (hK r n hr hf)
end
end Go.Fk

/- Values that stay exact: the whole number below, differences that are known to be small. Nothing here names a program. -/
namespace Go.Fk
open Go Go.RowKit

/-- What a wide number's datum is made of. -/
theorem read64 {b : Nat} {s : Bool} {m : Nat} {e : Int} (h : FloatKind.f64.format.read b = .number s m e) : -1074 ≤ e ∧ (m ≠ 0 → m.log2 ≤ 52 ∧ e + m.log2 + 1 ≤ 1024) := by
  refine ⟨?_, fun h0 => ⟨?_, lt64 h h0⟩⟩
  all_goals
    have e1 : Ieee.double.signWeight = 9223372036854775808 := by decide
    have e2 : Ieee.double.infRung = 9218868437227405312 := by decide
    have e3 : Ieee.double.binade = 4503599627370496 := by decide
    have e4 : Ieee.double.leastPlace = -1074 := by decide
    simp only [FloatKind.format, Ieee.Format.read, e1, e2, e3, e4] at h
    split at h
    · simp only [Ieee.Datum.number.injEq] at h
      obtain ⟨_, rfl, rfl⟩ := h
      first | omega | (have : (b % 9223372036854775808).log2 < 52 := (Nat.log2_lt h0).2 (by omega)
                       omega)
    · split at h
      · simp only [Ieee.Datum.number.injEq] at h
        obtain ⟨_, rfl, rfl⟩ := h
        first | omega | (have : (4503599627370496 + b % 9223372036854775808 % 4503599627370496).log2 < 53 := (Nat.log2_lt h0).2 (by omega)
                         omega)
      · split at h <;> cases h

/-- The value of what is written exactly. -/
theorem val_nearest {s : Bool} {m : Nat} {e : Int} (hm : m ≠ 0) (hp : m.log2 ≤ 52) (he : -1074 ≤ e) (ho : e + m.log2 ≤ 1023) :
    val .f64 (FloatKind.f64.format.nearest s m e) = Ieee.signed s m (e + 1074).toNat ∧ ∃ B, lt .f64 (FloatKind.f64.format.nearest s m e) B := by
  obtain ⟨b1, b2, b3, b4, b5⟩ := bits64
  obtain ⟨h5, _⟩ := read_nearest FloatKind.f64.format s m e hm (by omega) (by omega) (by rw [b1, b2, b3]; omega) (by omega)
  refine ⟨?_, _, _, _, _, h5, fun _ => Int.le_refl _⟩
  have h1 : lastOf FloatKind.f64.format m e ≤ e := by unfold lastOf; omega
  have h2 : -1074 ≤ lastOf FloatKind.f64.format m e := by unfold lastOf; omega
  simp only [val, h5]
  rw [signed_eq, signed_eq]
  have hu : ((unitOf .f64 : Nat) : Int) = 1074 := rfl
  rw [hu]
  generalize lastOf FloatKind.f64.format m e = last at *
  have e1 : (2 : Int) ^ (e + 1074).toNat = 2 ^ (e - last).toNat * 2 ^ (last + 1074).toNat := by
    rw [← Int.pow_add]; congr 1; omega
  rw [e1, Int.natCast_mul, Int.natCast_pow]
  cases s
  · simp [Int.mul_assoc]
  · simp [Int.mul_assoc, Int.neg_mul]

theorem cut_down (s : Bool) (n d : Nat) : Ieee.Toward.down.cut s n d = n / 2 ^ d + (s && (n % 2 ^ d != 0)).toNat := by
  simp only [Ieee.Toward.cut, Nat.one_shiftLeft]
  by_cases hd : d ≤ n.log2 + 2
  · rw [Nat.min_eq_left hd]
  · rw [Nat.min_eq_right (by omega)]
    have h1 : n < 2 ^ (n.log2 + 1) := Nat.lt_log2_self
    have h2 : 2 ^ (n.log2 + 1) ≤ 2 ^ (n.log2 + 2) := Nat.pow_le_pow_right (by omega) (by omega)
    have h3 : 2 ^ (n.log2 + 1) ≤ 2 ^ d := Nat.pow_le_pow_right (by omega) (by omega)
    rw [Nat.div_eq_of_lt (by omega), Nat.div_eq_of_lt (by omega), Nat.mod_eq_of_lt (by omega), Nat.mod_eq_of_lt (by omega)]

theorem floor_nat (s : Bool) (X U : Nat) (hU : 0 < U) : (if s then -((X / U + (s && (X % U != 0)).toNat : Nat) : Int) else ((X / U + (s && (X % U != 0)).toNat : Nat) : Int)) = (if s then -(X : Int) else (X : Int)) / (U : Int) := by
  cases s
  · simp
  · simp only [if_true, Bool.true_and]
    have h := Nat.div_add_mod X U
    have hl := Nat.mod_lt X hU
    symm
    by_cases h0 : X % U = 0
    · rw [h0]
      simp only [bne_self_eq_false, Bool.toNat_false, Nat.add_zero]
      refine Int.ediv_eq_of_eq_mul_left (by omega) ?_
      rw [h0, Nat.add_zero] at h
      rw [Int.neg_mul, Int.mul_comm]
      exact congrArg Neg.neg (by exact_mod_cast h.symm)
    · have h1 : (X % U != 0) = true := by simpa using h0
      rw [h1]
      simp only [Bool.toNat_true]
      have key : (-(X : Int)) = -(((X / U + 1 : Nat) : Int)) * U + (U - (X % U : Nat) : Int) := by
        have h' : (X : Int) = (U : Int) * ((X / U : Nat) : Int) + ((X % U : Nat) : Int) := by exact_mod_cast h.symm
        rw [h', Int.neg_mul, Int.natCast_add, Int.add_mul, Int.mul_comm ((X / U : Nat) : Int)]
        simp only [Int.natCast_one, Int.one_mul]
        omega
      rw [key, Int.mul_comm, Int.mul_add_ediv_left _ _ (by omega : (U : Int) ≠ 0), Int.ediv_eq_zero_of_lt (by omega) (by omega), Int.add_zero]

/-- The value of a wide number's whole part: that of the greatest whole number that is not above it. -/
theorem val_floor {b : Nat} {s : Bool} {m : Nat} {e : Int} (h : FloatKind.f64.format.read b = .number s m e) :
    val .f64 (integ .down b) = val .f64 b / 2 ^ 1074 * 2 ^ 1074 ∧ ∃ B, lt .f64 (integ .down b) B := by
  obtain ⟨hp, hm⟩ := read64 h
  have hv : val .f64 b = Ieee.signed s m (e + 1074).toNat := by simp only [val, h]; rfl
  have hd : FloatKind.f64.decode b = .number s m e := h
  have hi : integ .down b = FloatKind.f64.format.nearest s (Ieee.Toward.down.cut s (m <<< e.toNat) (-e).toNat) 0 := by
    simp only [integ, hd]; rfl
  have hX : val .f64 b = if s then -((m * 2 ^ (e + 1074).toNat : Nat) : Int) else ((m * 2 ^ (e + 1074).toNat : Nat) : Int) := by
    rw [hv]; unfold Ieee.signed; rw [Nat.shiftLeft_eq]
  have e1 : m <<< e.toNat / 2 ^ (-e).toNat = m * 2 ^ (e + 1074).toNat / 2 ^ 1074 := by
    rw [Nat.shiftLeft_eq]
    by_cases he : 0 ≤ e
    · rw [show (-e).toNat = 0 by omega, show (e + 1074).toNat = e.toNat + 1074 by omega, Nat.pow_add, ← Nat.mul_assoc]
      have hU := Nat.two_pow_pos 1074
      generalize (2 : Nat) ^ 1074 = U at *
      rw [Nat.mul_div_cancel _ hU, Nat.pow_zero, Nat.div_one]
    · rw [show e.toNat = 0 by omega]
      have hq : (1074 : Nat) = (-e).toNat + (e + 1074).toNat := by omega
      generalize hu : (e + 1074).toNat = u at *
      rw [show (2 : Nat) ^ 1074 = 2 ^ ((-e).toNat + u) by rw [← hq], Nat.pow_add, Nat.mul_div_mul_right _ _ (Nat.two_pow_pos _)]
      simp
  have e2 : (m <<< e.toNat % 2 ^ (-e).toNat != 0) = (m * 2 ^ (e + 1074).toNat % 2 ^ 1074 != 0) := by
    rw [Nat.shiftLeft_eq]
    by_cases he : 0 ≤ e
    · rw [show (-e).toNat = 0 by omega, show (e + 1074).toNat = e.toNat + 1074 by omega, Nat.pow_add, ← Nat.mul_assoc, Nat.mul_mod_left]
      simp [Nat.mod_one]
    · rw [show e.toNat = 0 by omega]
      have hq : (1074 : Nat) = (-e).toNat + (e + 1074).toNat := by omega
      generalize hu : (e + 1074).toNat = u at *
      rw [show (2 : Nat) ^ 1074 = 2 ^ ((-e).toNat + u) by rw [← hq], Nat.pow_add, Nat.mul_mod_mul_right, Nat.pow_zero, Nat.mul_one, Bool.eq_iff_iff, bne_iff_ne, bne_iff_ne]
      have := Nat.two_pow_pos u
      exact not_congr ⟨fun h => by rw [h, Nat.zero_mul], fun h => by rcases Nat.mul_eq_zero.1 h with h | h <;> omega⟩
  have hfl := floor_nat s (m * 2 ^ (e + 1074).toNat) (2 ^ 1074) (Nat.two_pow_pos _)
  rw [← hX, ← e1, ← e2, ← cut_down] at hfl
  rw [show (((2 ^ 1074 : Nat)) : Int) = 2 ^ 1074 from Int.natCast_pow 2 1074] at hfl
  rw [hi, ← hfl]
  by_cases hM : Ieee.Toward.down.cut s (m <<< e.toNat) (-e).toNat = 0
  · rw [hM]
    have : FloatKind.f64.format.nearest s 0 0 = FloatKind.f64.format.word s 0 := by simp [Ieee.Format.nearest]
    rw [this]
    cases s
    · exact ⟨by decide +kernel, 0, false, 0, -1074, by decide, fun h => absurd rfl h⟩
    · exact ⟨by decide +kernel, 0, true, 0, -1074, by decide, fun h => absurd rfl h⟩
  · have hgoal : val .f64 (FloatKind.f64.format.nearest s (Ieee.Toward.down.cut s (m <<< e.toNat) (-e).toNat) 0) = Ieee.signed s (Ieee.Toward.down.cut s (m <<< e.toNat) (-e).toNat) 1074 ∧ ∃ B, lt .f64 (FloatKind.f64.format.nearest s (Ieee.Toward.down.cut s (m <<< e.toNat) (-e).toNat) 0) B := by
      by_cases he : 0 ≤ e
      · have hcut : Ieee.Toward.down.cut s (m <<< e.toNat) (-e).toNat = m * 2 ^ e.toNat := by
          rw [cut_down, show (-e).toNat = 0 by omega, Nat.shiftLeft_eq]; simp [Nat.mod_one]
        rw [hcut] at hM ⊢
        have hm0 : m ≠ 0 := fun h => hM (by rw [h, Nat.zero_mul])
        obtain ⟨h3, h4⟩ := hm hm0
        have hs := nearest_scale FloatKind.f64.format s m e.toNat e
        rw [show e - (e.toNat : Int) = 0 by omega] at hs
        rw [hs]
        refine ⟨?_, (val_nearest hm0 h3 (by omega) (by omega)).2⟩
        rw [(val_nearest hm0 h3 (by omega) (by omega)).1, signed_eq, signed_eq]
        rw [show (e + 1074).toNat = e.toNat + 1074 by omega, Int.pow_add, Int.natCast_mul, Int.natCast_pow]
        generalize (2 : Int) ^ 1074 = U
        cases s
        · simp [Int.mul_assoc]
        · simp [Int.mul_assoc, Int.neg_mul]
      · have hle : Ieee.Toward.down.cut s (m <<< e.toNat) (-e).toNat < 2 ^ 53 := by
          rw [cut_down, show e.toNat = 0 by omega, Nat.shiftLeft_zero]
          have hb : ∀ b : Bool, b.toNat ≤ 1 := by intro b; cases b <;> simp
          have h1 : m < 2 ^ 53 := by
            by_cases m0 : m = 0
            · subst m0; decide
            · have := (hm m0).1
              exact Nat.lt_of_lt_of_le Nat.lt_log2_self (Nat.pow_le_pow_right (by omega) (by omega))
          have h2 : m / 2 ^ (-e).toNat ≤ m / 2 := by
            refine Nat.div_le_div_left ?_ (by omega)
            calc 2 = 2 ^ 1 := rfl
              _ ≤ _ := Nat.pow_le_pow_right (by omega) (by omega)
          have h3 := hb (s && (m % 2 ^ (-e).toNat != 0))
          omega
        have := (Nat.log2_lt hM).2 hle
        exact val_nearest hM (by omega) (by omega) (by omega)
    refine ⟨?_, hgoal.2⟩
    rw [hgoal.1, signed_eq]

/-- How small a difference is, from the values. -/
theorem diff_place {x y : Nat} {A : Int} {s t : Bool} {m n : Nat} {i j : Int} (hrx : FloatKind.f64.format.read x = .number s m i) (hry : FloatKind.f64.format.read y = .number t n j)
    (hA : -1074 ≤ A) (h : (val .f64 x - val .f64 y).natAbs < 2 ^ (A + 1074).toNat) (h0 : (Ieee.signed s m (i - min i j).toNat + Ieee.signed (!t) n (j - min i j).toNat).natAbs ≠ 0) :
    min i j + (Ieee.signed s m (i - min i j).toNat + Ieee.signed (!t) n (j - min i j).toNat).natAbs.log2 + 1 ≤ A := by
  have pi := (read64 hrx).1
  have pj := (read64 hry).1
  have vx : val .f64 x = Ieee.signed s m (i + 1074).toNat := by simp only [val, hrx]; rfl
  have vy : val .f64 y = Ieee.signed t n (j + 1074).toNat := by simp only [val, hry]; rfl
  have hneg : Ieee.signed (!t) n (j - min i j).toNat = -Ieee.signed t n (j - min i j).toNat := by
    unfold Ieee.signed; cases t <;> simp
  rw [hneg] at h0 ⊢
  have e1 : val .f64 x - val .f64 y = (Ieee.signed s m (i - min i j).toNat + -Ieee.signed t n (j - min i j).toNat) * 2 ^ (min i j + 1074).toNat := by
    rw [vx, vy, signed_eq, signed_eq, signed_eq, signed_eq, Int.add_mul, Int.neg_mul, Int.mul_assoc, Int.mul_assoc, ← Int.pow_add, ← Int.pow_add]
    rw [show (i - min i j).toNat + (min i j + 1074).toNat = (i + 1074).toNat by omega, show (j - min i j).toNat + (min i j + 1074).toNat = (j + 1074).toNat by omega]
    omega
  rw [e1, Int.natAbs_mul] at h
  generalize Ieee.signed s m (i - min i j).toNat + -Ieee.signed t n (j - min i j).toNat = T at *
  have e2 : ((2 : Int) ^ (min i j + 1074).toNat).natAbs = 2 ^ (min i j + 1074).toNat := by
    rw [Int.natAbs_pow]; rfl
  rw [e2] at h
  have h3 : 2 ^ (T.natAbs.log2 + (min i j + 1074).toNat) < 2 ^ (A + 1074).toNat := by
    refine Nat.lt_of_le_of_lt ?_ h
    rw [Nat.pow_add]
    exact Nat.mul_le_mul_right _ (Nat.log2_self_le h0)
  have h4 := (Nat.pow_lt_pow_iff_right (by omega : 1 < 2)).1 h3
  omega

/-- A difference is as small as the values tell. -/
theorem lt_sub_val {x y : Nat} {A : Int} (hx : (FloatKind.f64.format.read x).isNaN = false ∧ (FloatKind.f64.format.read x).isInfinity = false) (hy : (FloatKind.f64.format.read y).isNaN = false ∧ (FloatKind.f64.format.read y).isInfinity = false)
    (hA : -1074 ≤ A) (h : (val .f64 x - val .f64 y).natAbs < 2 ^ (A + 1074).toNat) (hf : fine .f64 A) :
    ∃ r, floatBits .sub .f64 x y = some r ∧ lt .f64 r (A + 1) := by
  cases hrx : FloatKind.f64.format.read x with
  | nan s t => rw [hrx] at hx; simp [Ieee.Datum.isNaN] at hx
  | infinity s => rw [hrx] at hx; simp [Ieee.Datum.isInfinity] at hx
  | number s m i =>
    cases hry : FloatKind.f64.format.read y with
    | nan s t => rw [hry] at hy; simp [Ieee.Datum.isNaN] at hy
    | infinity s => rw [hry] at hy; simp [Ieee.Datum.isInfinity] at hy
    | number t n j =>
      refine ⟨_, by simp only [floatBits, Ieee.Format.sub, hrx, hry, Ieee.Datum.opposite, Ieee.Datum.sum, Option.map_some]; rfl, ?_⟩
      refine lt_nearest .f64 _ _ _ _ (fun h0 => diff_place hrx hry hA h h0) hf.1 hf.2
end Go.Fk
namespace Go.Fk
open Go Go.RowKit
theorem le_nearest (s : Bool) (m : Nat) (e A : Int) (hA : m ≠ 0 → e + m.log2 + 1 ≤ A) (hf : fine .f64 A) :
    (val .f64 (FloatKind.f64.format.nearest s m e)).natAbs ≤ 2 ^ (A + 1074).toNat := by
  obtain ⟨b1, b2, b3, b4, b5⟩ := bits64
  have hb : FloatKind.f64.format.binade = 4503599627370496 := by decide
  have hlo := hf.1
  have hhi := hf.2
  rw [b2, b3] at hlo
  rw [b2, b3, hb, b5] at hhi
  by_cases hm : m = 0
  · subst hm
    have : FloatKind.f64.format.nearest s 0 e = FloatKind.f64.format.word s 0 := by simp [Ieee.Format.nearest]
    rw [this]
    have : (val .f64 (FloatKind.f64.format.word s 0)).natAbs = 0 := by cases s <;> decide +kernel
    rw [this]
    exact Nat.zero_le _
  · obtain ⟨r, hr, _, h2⟩ := nearest_rung FloatKind.f64.format s m e A hm (hA hm) (by rw [b2, b3]; omega)
    rw [b2, b3, hb] at h2
    rw [hr]
    have hru : r < FloatKind.f64.format.infRung := by rw [b5]; omega
    obtain ⟨s', m', e', hread, hm'⟩ := read_word .f64 s hru
    have hv : val .f64 (FloatKind.f64.format.word s r) = Ieee.signed s' m' (e' + 1074).toNat := by simp only [val, hread]; rfl
    have pe := (read64 hread).1
    rw [hv, signed_natAbs]
    by_cases m0 : m' = 0
    · subst m0; rw [Nat.zero_mul]; exact Nat.zero_le _
    obtain ⟨g1, g2⟩ := hm' m0
    rw [b2, b3, hb] at g2
    by_cases hq : r = ((A + 1023).toNat) * 4503599627370496
    · -- exactly the power
      have hread2 := hread
      unfold Ieee.Format.read at hread2
      have hs : FloatKind.f64.format.infRung < FloatKind.f64.format.signWeight := Ieee.Format.infRung_lt _
      rw [word_mod _ _ (Nat.lt_trans hru hs)] at hread2
      dsimp only at hread2
      have h3 : ¬ r < FloatKind.f64.format.binade := by rw [hb]; omega
      rw [if_neg h3, if_pos hru, hb, b3] at hread2
      simp only [Ieee.Datum.number.injEq] at hread2
      obtain ⟨_, rfl, rfl⟩ := hread2
      have h4 : r % 4503599627370496 = 0 := by omega
      have h5 : r / 4503599627370496 = (A + 1023).toNat := by omega
      rw [h4, h5, show 4503599627370496 + 0 = 2 ^ 52 by decide, ← Nat.pow_add]
      exact Nat.pow_le_pow_right (by omega) (by omega)
    · have h3 : r / 4503599627370496 ≤ (A + 1022).toNat := by omega
      have h4 : e' + m'.log2 + 1 ≤ A := by omega
      calc m' * 2 ^ (e' + 1074).toNat ≤ 2 ^ (m'.log2 + 1) * 2 ^ (e' + 1074).toNat := Nat.mul_le_mul_right _ (Nat.le_of_lt Nat.lt_log2_self)
        _ = 2 ^ (m'.log2 + 1 + (e' + 1074).toNat) := by rw [← Nat.pow_add]
        _ ≤ 2 ^ (A + 1074).toNat := Nat.pow_le_pow_right (by omega) (by omega)
/-- A number that is at most '2 ^ A' in size. -/
def leV (b : Nat) (A : Int) : Prop := lt .f64 b (A + 1) ∧ (val .f64 b).natAbs ≤ 2 ^ (A + 1074).toNat
theorem sub_leV {x y : Nat} {A : Int} (hx : ∃ B, lt .f64 x B) (hy : ∃ B, lt .f64 y B) (hA : -1074 ≤ A) (h : (val .f64 x - val .f64 y).natAbs < 2 ^ (A + 1074).toNat) (hf : fine .f64 A) :
    leV (fop .sub .f64 x y) A := by
  obtain ⟨_, s, m, i, hrx, _⟩ := hx
  obtain ⟨_, t, n, j, hry, _⟩ := hy
  have nx : (FloatKind.f64.format.read x).isNaN = false ∧ (FloatKind.f64.format.read x).isInfinity = false := by rw [hrx]; exact ⟨rfl, rfl⟩
  have ny : (FloatKind.f64.format.read y).isNaN = false ∧ (FloatKind.f64.format.read y).isInfinity = false := by rw [hry]; exact ⟨rfl, rfl⟩
  obtain ⟨r, hr, hl⟩ := lt_sub_val nx ny hA h hf
  have hfop : fop .sub .f64 x y = r := by unfold fop; rw [hr]; exact can_of_not hl.notNan
  rw [hfop]
  refine ⟨hl, ?_⟩
  simp only [floatBits, Ieee.Format.sub, hrx, hry, Ieee.Datum.opposite, Ieee.Datum.sum, Option.map_some, Option.some.injEq] at hr
  rw [← hr]
  refine le_nearest _ _ _ _ (fun h0 => ?_) hf
  exact diff_place hrx hry hA h h0
end Go.Fk

/- What math.Float64bits, math.Float64frombits and math.Abs give. -/
namespace Go.Fk
open Go Go.RowKit
theorem andNot_sign (x : Nat) (hx : fits .f64 x) : (bits .andNot .u64 (x : Int) 9223372036854775808).toNat = x % 9223372036854775808 := by
  have h : x < 18446744073709551616 := by simp only [fits, Lit.wf, decide_eq_true_eq] at hx; omega
  have h1 := u64_andNot_nat x 9223372036854775808 (by omega) (by omega)
  rw [show ((9223372036854775808 : Nat) : Int) = 9223372036854775808 by rfl] at h1
  rw [h1, Int.toNat_natCast]
  exact Nat.and_two_pow_sub_one_eq_mod x 63
end Go.Fk
namespace Go.Proofs.Ytkjgcfmfejjdkab
open Go.RowKit Go.Fk
@[go_sem] theorem run_f64bits (x : Nat) (w : World) : (callFunc 167 #[.float .f64 x]).run Try.prog w = .ok (.value (.int .u64 x)) w := by
  rw [run_callFunc_extern (e := Extern.MathFloatBits.float64bits) Try.func167 (by kernel_rfl) (by kernel_rfl) (by kernel_rfl) (by kernel_rfl)]; rfl
@[go_sem] theorem run_f64from (x : Int) (w : World) : (callFunc 166 #[.int .u64 x]).run Try.prog w = .ok (.value (.float .f64 x.toNat)) w := by
  rw [run_callFunc_extern (e := Extern.MathFloatBits.float64frombits) Try.func166 (by kernel_rfl) (by kernel_rfl) (by kernel_rfl) (by kernel_rfl)]; rfl
theorem abs64 (x : Nat) (w : World) (hx : fits .f64 x) : Calls Try.prog 148 #[.float .f64 x] w fun e w' => e = .returned (.float .f64 (x % 9223372036854775808)) ∧ w = w' := by
  have hn := andNot_sign x hx
  go_enter Try.func148, Try.ntmps148
  go_wp2
  go_ret
  exact ⟨rfl, rfl⟩
end Go.Proofs.Ytkjgcfmfejjdkab

/- Is a sample finite? -/
namespace Go.Fk
open Go Go.RowKit
/-- Is a sample finite? -/
def fin (x : Nat) : Bool := match FloatKind.f32.format.read x with | .number _ _ _ => true | _ => false
theorem fin_sub (x : Nat) : (FloatKind.f32.format.order (fop .sub .f32 x x) 0 == some .eq) = fin x := by
  cases hr : FloatKind.f32.format.read x with
  | nan s t =>
    have h : isNan .f32 x = true := by simp [isNan, hr, Ieee.Datum.isNaN]
    simp only [fin, hr, fop]
    rw [floatBits_nan_l h]
    decide
  | infinity s =>
    simp only [fin, hr, fop, floatBits, Ieee.Format.sub, Ieee.Datum.opposite, Ieee.Datum.sum]
    cases s <;> decide
  | number s m e =>
    simp only [fin, hr, fop, floatBits, Ieee.Format.sub, Ieee.Datum.opposite, Ieee.Datum.sum, Int.sub_self]
    have h1 : Ieee.signed s m (e - min e e).toNat + Ieee.signed (!s) m (e - min e e).toNat = 0 := by
      unfold Ieee.signed; cases s <;> simp <;> omega
    rw [h1]
    simp only [if_true, Option.map_some, Int.natAbs_zero, Ieee.Format.write, Ieee.Format.nearest]
    cases s <;> decide
end Go.Fk
namespace Go.Proofs.Ytkjgcfmfejjdkab
open Go.RowKit Go.Fk
theorem s_l01Finite (x : Nat) (w : World) : Calls Try.prog 109 #[.float .f32 x] w fun e w' => e = .returned (.bool (fin x)) ∧ ∃ n, w' = w.drewN n := by
  go_enter Try.func109, Try.ntmps109
  go_wp2_with (with_reducible refine wpList_farith rfl rfl rfl rfl rfl ?_; intro r n hr hf)
  go_ret
  refine ⟨ret_b ?_, n, rfl⟩
  rw [← fin_sub, order_congr (hr.out.trans (can_fop _ _ _ _).symm) rfl]
end Go.Proofs.Ytkjgcfmfejjdkab

/- What math.Float32frombits gives. -/
namespace Go.Proofs.Ytkjgcfmfejjdkab
open Go.RowKit Go.Fk

@[go_sem] theorem run_f32from (x : Int) (w : World) : (callFunc 118 #[.int .u32 x]).run Try.prog w = .ok (.value (.float .f32 x.toNat)) w := by
  rw [run_callFunc_extern (e := Extern.MathFloatBits.float32frombits) Try.func118 (by kernel_rfl) (by kernel_rfl) (by kernel_rfl) (by kernel_rfl)]; rfl
end Go.Proofs.Ytkjgcfmfejjdkab

/- The contracts of 'SineOf'. -/
namespace Go.Fk
open Go Go.RowKit
/-- The part of a turn. -/
def frS (x : Nat) : Nat := fop .sub .f64 (widen x) (integ .down (widen x))
theorem frS_le {x : Nat} (h : fin x = true) : leV (frS x) 0 := by
  cases hr : FloatKind.f32.format.read x with
  | nan s t => simp [fin, hr] at h
  | infinity s => simp [fin, hr] at h
  | number s m e =>
    obtain ⟨j, e', h1, _, _⟩ := read_widen hr
    obtain ⟨h2, h3⟩ := val_floor h1
    refine sub_leV ⟨_, _, _, _, h1, fun _ => Int.le_refl _⟩ h3 (by omega) ?_ (fine64 (by omega) (by omega))
    rw [h2, show ((0 : Int) + 1074).toNat = 1074 by decide]
    have hU : (0 : Int) < 2 ^ 1074 := Int.pow_pos (by omega)
    have hU2 : ((2 ^ 1074 : Nat) : Int) = 2 ^ 1074 := Int.natCast_pow 2 1074
    generalize (2 : Nat) ^ 1074 = UN at *
    generalize (2 : Int) ^ 1074 = U at *
    have := Int.emod_add_ediv_mul (val .f64 (widen x)) U
    have h4 := Int.emod_nonneg (val .f64 (widen x)) (show U ≠ 0 by omega)
    have h5 := Int.emod_lt_of_pos (val .f64 (widen x)) hU
    omega
/-- Is it in the second half? -/
def negS (x : Nat) : Bool := FloatKind.f64.format.order (frS x) 4602678819172646912 == some .gt || FloatKind.f64.format.order (frS x) 4602678819172646912 == some .eq
def f1S (x : Nat) : Nat := if negS x = true then fop .sub .f64 (frS x) 4602678819172646912 else frS x
def f2S (x : Nat) : Nat := if (FloatKind.f64.format.order (f1S x) 4598175219545276416 == some .gt) = true then fop .sub .f64 4602678819172646912 (f1S x) else f1S x
def xS (x : Nat) : Nat := fop .mul .f64 4618760256179416344 (f2S x)
def yS (x : Nat) : Nat := fop .mul .f64 (xS x) (xS x)
def denS (k : Nat) : Nat := floatOfInt .f64 (wrap64 (2 * (8 - (k : Int)) * (2 * (8 - (k : Int)) + 1)))
def tS (x : Nat) : Nat → Nat
  | 0 => 4607182418800017408
  | k + 1 => fop .sub .f64 4607182418800017408 (fop .mul .f64 (fop .quo .f64 (yS x) (denS k)) (tS x k))
def sS (x : Nat) : Nat := fop .mul .f64 (tS x 8) (xS x)
def sgS (x : Nat) : Nat := if negS x = true then neg .f64 (sS x) else sS x
/-- The sine of turns, up to the bits of NaN. -/
def sineW (x : Nat) : Nat := if fin x = true then can .f32 (narrow (sgS x)) else qnan .f32

theorem pow_two_up (n : Nat) : 2 ^ (n + 2) = 4 * 2 ^ n := by rw [Nat.pow_add]; omega
theorem half_le : leV 4602678819172646912 (-1) ∧ val .f64 4602678819172646912 = 2 * 2 ^ 1072 := by
  refine ⟨⟨⟨false, 4503599627370496, -53, by decide, by decide⟩, ?_⟩, ?_⟩ <;> decide +kernel
theorem quarter_val : val .f64 4598175219545276416 = 2 ^ 1072 ∧ isNan .f64 4598175219545276416 = false := by
  refine ⟨?_, ?_⟩ <;> decide +kernel
theorem order_gt {a b : Nat} (ha : isNan .f64 a = false) (hb : isNan .f64 b = false) : (FloatKind.f64.format.order a b == some .gt) = true ↔ val .f64 b < val .f64 a := by
  rw [order_val ha hb, beq_iff_eq, Option.some.injEq]
  exact Int.compare_eq_gt
theorem order_eq2 {a b : Nat} (ha : isNan .f64 a = false) (hb : isNan .f64 b = false) : (FloatKind.f64.format.order a b == some .eq) = true ↔ val .f64 a = val .f64 b := by
  rw [order_val ha hb, beq_iff_eq, Option.some.injEq]
  exact Int.compare_eq_eq
theorem f1S_le {x : Nat} (h : fin x = true) : leV (f1S x) 0 := by
  have hf := frS_le h
  have hh := half_le
  unfold f1S
  split
  · rename_i hn
    refine sub_leV ⟨_, hf.1⟩ ⟨_, hh.1.1⟩ (by omega) ?_ (fine64 (by omega) (by omega))
    have hv : val .f64 4602678819172646912 ≤ val .f64 (frS x) := by
      unfold negS at hn
      rw [Bool.or_eq_true, order_gt hf.1.notNan hh.1.1.notNan, order_eq2 hf.1.notNan hh.1.1.notNan] at hn
      omega
    have h2 := hf.2
    rw [hh.2] at hv ⊢
    rw [show ((0 : Int) + 1074).toNat = 1072 + 2 by rfl, pow_two_up 1072] at h2 ⊢
    have e : ((2 ^ 1072 : Nat) : Int) = 2 ^ 1072 := Int.natCast_pow 2 1072
    have e0 := Nat.two_pow_pos 1072
    generalize (2 : Nat) ^ 1072 = UN at *
    generalize (2 : Int) ^ 1072 = U at *
    omega
  · exact hf
theorem f2S_le {x : Nat} (h : fin x = true) : leV (f2S x) 0 := by
  have hf := f1S_le h
  have hh := half_le
  unfold f2S
  split
  · rename_i hn
    refine sub_leV ⟨_, hh.1.1⟩ ⟨_, hf.1⟩ (by omega) ?_ (fine64 (by omega) (by omega))
    rw [order_gt hf.1.notNan quarter_val.2, quarter_val.1] at hn
    have h2 := hf.2
    rw [hh.2]
    rw [show ((0 : Int) + 1074).toNat = 1072 + 2 by rfl, pow_two_up 1072] at h2 ⊢
    have e : ((2 ^ 1072 : Nat) : Int) = 2 ^ 1072 := Int.natCast_pow 2 1072
    have e0 := Nat.two_pow_pos 1072
    generalize (2 : Nat) ^ 1072 = UN at *
    generalize (2 : Int) ^ 1072 = U at *
    omega
  · exact hf
theorem fop_lt {op : BinOp} {a b : Nat} {C : Int} (h : ∃ r, floatBits op .f64 a b = some r ∧ lt .f64 r C) : lt .f64 (fop op .f64 a b) C := by
  obtain ⟨r, h1, h2⟩ := h
  unfold fop
  rw [h1]
  simp only
  rw [can_of_not h2.notNan]
  exact h2
theorem xS_lt {x : Nat} (h : fin x = true) : lt .f64 (xS x) 5 :=
  (fop_lt (lt_mul (A := 3) (B := 1) ⟨false, 7074237752028440, -50, by decide, by decide⟩ (f2S_le h).1 (fine64 (by omega) (by omega)))).mono (by omega)
theorem yS_lt {x : Nat} (h : fin x = true) : lt .f64 (yS x) 11 :=
  (fop_lt (lt_mul (A := 5) (B := 5) (xS_lt h) (xS_lt h) (fine64 (by omega) (by omega)))).mono (by omega)
theorem denS_ge {k : Nat} (h : k < 8) : ge .f64 (denS k) 2 := by
  have key : ∀ k : Fin 8, (match FloatKind.f64.format.read (denS k) with | .number _ m e => decide (m ≠ 0 ∧ 2 ≤ e + m.log2) | _ => false) = true := by decide +kernel
  have hk := key ⟨k, h⟩
  simp only at hk
  cases hr : FloatKind.f64.format.read (denS k) with
  | nan s t => rw [hr] at hk; cases hk
  | infinity s => rw [hr] at hk; cases hk
  | number s m e =>
    rw [hr] at hk
    simp only [decide_eq_true_eq] at hk
    exact ⟨s, m, e, hr, hk.1, hk.2⟩
theorem one_lt : lt .f64 4607182418800017408 1 := ⟨false, 4503599627370496, -52, by decide, by decide⟩
theorem qS_lt {x : Nat} (h : fin x = true) {k : Nat} (hk : k < 8) : lt .f64 (fop .quo .f64 (yS x) (denS k)) 11 :=
  (fop_lt (lt_quo (A := 11) (C := 2) (yS_lt h) (denS_ge hk) (fine64 (by omega) (by omega)))).mono (by omega)
theorem tS_lt {x : Nat} (h : fin x = true) (k : Nat) (hk : k ≤ 8) : lt .f64 (tS x k) (1 + 14 * k) := by
  induction k with
  | zero => exact one_lt
  | succ k ih =>
    have h1 := ih (by omega)
    have h2 := (fop_lt (lt_mul (qS_lt h (show k < 8 by omega)) h1 (fine64 (by omega) (by omega)))).mono (B := 13 + 14 * (k : Int)) (by omega)
    exact (fop_lt (lt_sub one_lt h2 (fine64 (by omega) (by omega)))).mono (by push_cast; omega)
theorem sS_lt {x : Nat} (h : fin x = true) : lt .f64 (sS x) 119 :=
  (fop_lt (lt_mul (A := 113) (B := 5) (tS_lt h 8 (by omega)) (xS_lt h) (fine64 (by omega) (by omega)))).mono (by omega)
theorem lt_neg {b : Nat} {A : Int} (h : lt .f64 b A) : lt .f64 (neg .f64 b) A := by
  obtain ⟨s, m, e, hr, hm⟩ := h
  have hx : neg .f64 b % FloatKind.f64.format.signWeight = b % FloatKind.f64.format.signWeight := xor_mod b 63
  unfold Ieee.Format.read at hr
  dsimp only at hr
  rw [← hx] at hr
  have key : ∃ s', FloatKind.f64.format.read (neg .f64 b) = .number s' m e := by
    unfold Ieee.Format.read
    dsimp only
    split
    · rename_i h1
      rw [if_pos h1] at hr
      simp only [Ieee.Datum.number.injEq] at hr ⊢
      exact ⟨_, rfl, hr.2⟩
    · rename_i h1
      rw [if_neg h1] at hr
      split
      · rename_i h2
        rw [if_pos h2] at hr
        simp only [Ieee.Datum.number.injEq] at hr ⊢
        exact ⟨_, rfl, hr.2⟩
      · rename_i h2
        rw [if_neg h2] at hr
        split at hr <;> cases hr
  obtain ⟨s', hs⟩ := key
  exact ⟨s', m, e, hs, hm⟩
theorem lt.narrowX {b : Nat} (h : lt .f64 b 126) : narrowableX b := by
  intro s m e hr
  obtain ⟨s', m', e', hr', hm⟩ := h
  rw [hr] at hr'
  cases hr'
  exact (lt_encode (k := .f32) (s := s) hm (fine32 (by omega) (by omega))).notInf
theorem wide_read {x r : Nat} (hx : fin x = true) (h : Hid (can .f64 r = can .f64 (widen x))) : ∃ s m e, FloatKind.f64.format.read r = .number s m e := by
  cases hr : FloatKind.f32.format.read x with
  | nan s t => simp [fin, hr] at hx
  | infinity s => simp [fin, hr] at hx
  | number s m e =>
    obtain ⟨j, e', h1, _, _⟩ := read_widen hr
    have : r = widen x := (eq_of_can h.out.symm (by simp [isNan, h1, Ieee.Datum.isNaN])).symm
    rw [this]
    exact ⟨_, _, _, h1⟩
theorem wide_num {x r : Nat} (hx : fin x = true) (h : Hid (can .f64 r = can .f64 (widen x))) : isNan .f64 r = false := by
  obtain ⟨s, m, e, hr⟩ := wide_read hx h
  simp [isNan, hr, Ieee.Datum.isNaN]
theorem wide_fin {x r : Nat} (hx : fin x = true) (h : Hid (can .f64 r = can .f64 (widen x))) : (FloatKind.f64.format.read r).isInfinity = false := by
  obtain ⟨s, m, e, hr⟩ := wide_read hx h
  simp [hr, Ieee.Datum.isInfinity]
theorem notInf_order {x : Nat} (hi : (FloatKind.f64.format.read x).isInfinity = false) (hn : isNan .f64 x = false) : (FloatKind.f64.format.order (x % 9223372036854775808) 9218868437227405311 == some .gt) = false := by
  cases hr : FloatKind.f64.format.read x with
  | nan s t => simp [isNan, hr, Ieee.Datum.isNaN] at hn
  | infinity s => rw [hr] at hi; simp [Ieee.Datum.isInfinity] at hi
  | number s m e =>
    obtain ⟨b1, b2, b3, b4, b5⟩ := bits64
    have h1 := read_mod hr
    rw [b4] at h1
    have n1 : isNan .f64 (x % 9223372036854775808) = false := by simp [isNan, h1, Ieee.Datum.isNaN]
    have n2 : isNan .f64 9218868437227405311 = false := by decide
    cases ho : (FloatKind.f64.format.order (x % 9223372036854775808) 9218868437227405311 == some .gt)
    · rfl
    · rw [order_gt n1 n2] at ho
      have hM : FloatKind.f64.format.read 9218868437227405311 = .number false 9007199254740991 971 := by decide
      have v1 : val .f64 9218868437227405311 = Ieee.signed false 9007199254740991 2045 := by simp only [val, hM]; rfl
      have v2 : val .f64 (x % 9223372036854775808) = Ieee.signed false m (e + 1074).toNat := by simp only [val, h1]; rfl
      generalize hZ : (2045 : Nat) = Z at v1
      rw [v1, v2, signed_eq, signed_eq] at ho
      simp only [Bool.false_eq_true, if_false] at ho
      obtain ⟨p1, p2⟩ := read64 hr
      exfalso
      have hle : m * 2 ^ (e + 1074).toNat ≤ 9007199254740991 * 2 ^ Z := by
        by_cases m0 : m = 0
        · subst m0; rw [Nat.zero_mul]; exact Nat.zero_le _
        · obtain ⟨q1, q2⟩ := p2 m0
          have hm : m ≤ 9007199254740991 := by
            have := @Nat.lt_log2_self m
            have h2 : 2 ^ (m.log2 + 1) ≤ 2 ^ 53 := Nat.pow_le_pow_right (by omega) (by omega)
            omega
          by_cases he : e ≤ 971
          · have hz : (e + 1074).toNat ≤ Z := by omega
            exact Nat.mul_le_mul hm (Nat.pow_le_pow_right (by omega) hz)
          · have h3 : m < 2 ^ (m.log2 + 1) := Nat.lt_log2_self
            have h4 : m * 2 ^ (e - 971).toNat < 2 ^ 53 := by
              calc m * 2 ^ (e - 971).toNat < 2 ^ (m.log2 + 1) * 2 ^ (e - 971).toNat := Nat.mul_lt_mul_of_pos_right h3 (Nat.two_pow_pos _)
                _ = 2 ^ (m.log2 + 1 + (e - 971).toNat) := by rw [← Nat.pow_add]
                _ ≤ 2 ^ 53 := Nat.pow_le_pow_right (by omega) (by omega)
            rw [show (e + 1074).toNat = (e - 971).toNat + Z by omega, Nat.pow_add, ← Nat.mul_assoc]
            exact Nat.mul_le_mul_right _ (by omega)
      have hle2 : ((m * 2 ^ (e + 1074).toNat : Nat) : Int) ≤ ((9007199254740991 * 2 ^ Z : Nat) : Int) := Int.ofNat_le.2 hle
      rw [Int.natCast_mul, Int.natCast_mul, Int.natCast_pow, Int.natCast_pow] at hle2
      exact absurd ho (Int.not_lt.2 hle2)
/-- A fresh pair, written. -/
theorem two_cells (w : World) (n : Nat) (old : Array Value) (u v : Value) (t : TypeId) : ∃ W, W = ((w.drewN n).alloc (.cells old t)).setRow w.heap.size #[u, v] ∧ Row W w.heap.size t #[u, v] ∧ True ∧ Below w.heap.size w W := by
  refine ⟨_, rfl, ?_, trivial, ?_⟩
  · exact (Row.new' _ _ _ (by simp)).setRow _
  · exact below_setRow ((below_drewN (Below.refl _ _) n).alloc (by simp) _) (by omega) _
def FloorRes (b r : Nat) : Prop := can .f64 r = can .f64 (integ .down b) ∧ fits .f64 r
theorem eq_fop {op : BinOp} {a b r : Nat} {C : Int} (h : can .f64 r = fop op .f64 a b) (hl : lt .f64 (fop op .f64 a b) C) : r = fop op .f64 a b := by
  refine (eq_of_can (k := .f64) ?_ hl.notNan).symm
  rw [h]; exact can_of_not hl.notNan
theorem frS_eq {x r s1 s2 fr : Nat} (hx : fin x = true) (hr : Hid (can .f64 r = fop .sub .f64 s1 fr)) (h1 : Hid (can .f64 s1 = can .f64 (widen x))) (hf : Hid (FloorRes s2 fr)) (h2 : Hid (can .f64 s2 = can .f64 (widen x))) : r = frS x := by
  have e : fop .sub .f64 s1 fr = frS x := fop_congr h1.out (by rw [hf.out.1, ← integ_can, h2.out, integ_can])
  have h := hr.out
  rw [e] at h
  exact eq_fop h (frS_le hx).1
theorem neg_yes {x r : Nat} (e : r = frS x) (h : (FloatKind.f64.format.order r 4602678819172646912 == some .gt) = true ∨ (FloatKind.f64.format.order r 4602678819172646912 == some .eq) = true) : negS x = true := by
  subst e; unfold negS; rw [Bool.or_eq_true]; exact h
theorem neg_no {x r : Nat} (e : r = frS x) (h : (FloatKind.f64.format.order r 4602678819172646912 == some .gt) = false ∧ (FloatKind.f64.format.order r 4602678819172646912 == some .eq) = false) : negS x = false := by
  subst e; unfold negS; rw [Bool.or_eq_false_iff]; exact h
theorem f1_neg {x r0 r1 : Nat} (hx : fin x = true) (e : r0 = frS x) (n : negS x = true) (h : Hid (can .f64 r1 = fop .sub .f64 r0 4602678819172646912)) : r1 = f1S x := by
  subst e
  have e : f1S x = fop .sub .f64 (frS x) 4602678819172646912 := if_pos n
  have hl := (f1S_le hx).1
  rw [e] at hl ⊢
  exact eq_fop h.out hl
theorem f1_pos {x r0 : Nat} (e : r0 = frS x) (n : negS x = false) : r0 = f1S x := by
  subst e; exact (if_neg (by rw [n]; simp)).symm
theorem f2_fold {x r0 r1 : Nat} (hx : fin x = true) (e : r0 = f1S x) (n : (FloatKind.f64.format.order r0 4598175219545276416 == some .gt) = true) (h : Hid (can .f64 r1 = fop .sub .f64 4602678819172646912 r0)) : r1 = f2S x := by
  subst e
  have e : f2S x = fop .sub .f64 4602678819172646912 (f1S x) := if_pos n
  have hl := (f2S_le hx).1
  rw [e] at hl ⊢
  exact eq_fop h.out hl
theorem f2_stay {x r0 : Nat} (e : r0 = f1S x) (n : (FloatKind.f64.format.order r0 4598175219545276416 == some .gt) = false) : r0 = f2S x := by
  subst e; exact (if_neg (by rw [n]; simp)).symm
theorem xS_eq {x r0 r : Nat} (hx : fin x = true) (e : r0 = f2S x) (h : Hid (can .f64 r = fop .mul .f64 4618760256179416344 r0)) : r = xS x := by
  subst e; exact eq_fop h.out (xS_lt hx)
theorem yS_eq {x r0 r : Nat} (hx : fin x = true) (e : r0 = xS x) (h : Hid (can .f64 r = fop .mul .f64 r0 r0)) : r = yS x := by
  subst e; exact eq_fop h.out (yS_lt hx)
theorem tS_eq {x q p t k : Nat} (hx : fin x = true) (hk : k < 8) (hq : Hid (can .f64 q = fop .quo .f64 (yS x) (denS k))) (hp : Hid (can .f64 p = fop .mul .f64 q (tS x k))) (ht : Hid (can .f64 t = fop .sub .f64 4607182418800017408 p)) : t = tS x (k + 1) := by
  have e1 := eq_fop hq.out (qS_lt hx hk)
  subst e1
  have h1 := tS_lt hx k (by omega)
  have e2 := eq_fop hp.out (fop_lt (lt_mul (qS_lt hx hk) h1 (fine64 (by omega) (by omega))))
  subst e2
  exact eq_fop ht.out (tS_lt hx (k + 1) (by omega))
theorem nar_s {x s : Nat} (hx : fin x = true) (h : Hid (can .f64 s = fop .mul .f64 (tS x 8) (xS x))) : narrowableX s := by
  have e : s = sS x := eq_fop h.out (sS_lt hx)
  rw [e]; exact ((sS_lt hx).mono (by omega)).narrowX
theorem nar_n {x s : Nat} (hx : fin x = true) (h : Hid (can .f64 s = fop .mul .f64 (tS x 8) (xS x))) : narrowableX (neg .f64 s) := by
  have e : s = sS x := eq_fop h.out (sS_lt hx)
  rw [e]; exact (lt_neg ((sS_lt hx).mono (by omega))).narrowX
theorem sine_pos {x s q : Nat} (hx : fin x = true) (n : negS x = false) (h : Hid (can .f64 s = fop .mul .f64 (tS x 8) (xS x))) (hq : Hid (can .f32 q = can .f32 (narrow s))) : can .f32 q = sineW x := by
  have e : s = sS x := eq_fop h.out (sS_lt hx)
  rw [hq.out, e, sineW, if_pos hx, sgS, if_neg (by rw [n]; simp)]
theorem sine_neg {x s q : Nat} (hx : fin x = true) (n : negS x = true) (h : Hid (can .f64 s = fop .mul .f64 (tS x 8) (xS x))) (hq : Hid (can .f32 q = can .f32 (narrow (neg .f64 s)))) : can .f32 q = sineW x := by
  have e : s = sS x := eq_fop h.out (sS_lt hx)
  rw [hq.out, e, sineW, if_pos hx, sgS, if_pos n]
theorem nanX {b : Nat} (h : isNan .f64 b = true) : narrowableX b := by
  intro s m e hr
  simp [isNan, hr, Ieee.Datum.isNaN] at h
theorem narrow_nan {b : Nat} (h : isNan .f64 b = true) : narrow b = qnan .f32 := by
  obtain ⟨s, t, hr⟩ := read_nan h
  simp only [narrow, hr]
/-- What a wide form of what is not finite is. -/
theorem not_fin {x r : Nat} (hx : fin x = false) (h : can .f64 r = can .f64 (widen x)) : isNan .f64 r = true ∨ (isNan .f64 r = false ∧ (FloatKind.f64.format.order (r % 9223372036854775808) 9218868437227405311 == some .gt) = true) := by
  cases hr : FloatKind.f32.format.read x with
  | nan s t =>
    left
    rw [isNan_of_can h]
    have : widen x = qnan .f64 := by simp only [widen, hr]
    rw [this]; exact isNan_qnan .f64
  | infinity s =>
    right
    have e : widen x = FloatKind.f64.encode (.infinity s) := by simp only [widen, hr]
    have hn : isNan .f64 (widen x) = false := by rw [e]; cases s <;> decide
    have e2 : r = widen x := (eq_of_can h.symm hn).symm
    rw [e2, hn, e]
    refine ⟨rfl, ?_⟩
    cases s <;> decide
  | number s m e => simp [fin, hr] at hx
theorem sS_eq {x s : Nat} (hx : fin x = true) (h : Hid (can .f64 s = fop .mul .f64 (tS x 8) (xS x))) : s = sS x := eq_fop h.out (sS_lt hx)
end Go.Fk
namespace Go.Proofs.Ytkjgcfmfejjdkab
open Go.RowKit Go.Fk
theorem run_arch (b : Nat) (hb : fits .f64 b) (w : World) : ∃ r n, (callFunc 152 #[.float .f64 b]).run Try.prog w = .ok (.value (.float .f64 r)) (w.drewN n) ∧ FloorRes b r := by
  obtain ⟨r, n, h, h2⟩ := run_integral (P := Try.prog) "math.archFloor" .down w b hb
  refine ⟨r, n, ?_, h2⟩
  rw [run_callFunc_extern (e := Extern.MathFloor.toIntegral "math.archFloor" .down) Try.func152 (by kernel_rfl) (by kernel_rfl) (by kernel_rfl) (by kernel_rfl), h]; rfl
theorem arch_any (b : Nat) (hb : Hid (fits .f64 b)) : ∀ w, ∃ r n, (callFunc 152 #[.float .f64 b]).run Try.prog w = .ok (.value (.float .f64 r)) (w.drewN n) ∧ FloorRes b r := run_arch b hb
theorem floor_any (b : Nat) (w : World) (hb : Hid (fits .f64 b)) : Calls Try.prog 119 #[.float .f64 b] w fun e w' => ∃ r n, e = .returned (.float .f64 r) ∧ Hid (FloorRes b r) ∧ w' = w.drewN n := by
  go_enter Try.func119, Try.ntmps119
  go_wp2_with (refine wpList_extern rfl rfl rfl _ (arch_any _ (by assumption)) ?_; intro fr fn hfr)
  go_ret
  exact ⟨_, _, rfl, hfr, rfl⟩
theorem s_l01Sine (x : Nat) (w : World) (hx : fin x = true) : Calls Try.prog 122 #[.float .f32 x] w (fun e w' => ∃ r n, e = .returned (.float .f32 r) ∧ can .f32 r = sineW x ∧ w' = w.drewN n) := by
  go_enter Try.func122, Try.ntmps122
  go_wp2_with (first | (with_reducible refine wpList_farith rfl rfl rfl rfl rfl ?_; intro r n hr hf) | (with_reducible refine wpList_widen rfl rfl rfl Try.underlying25 Try.underlying56 ?_; intro s1 n1 h1 f1) | (go_at_call 109; refine (s_l01Finite _ _).mono ?_; rintro e w' ⟨rfl, n0, rfl⟩) | (go_at_call 119; refine (floor_any _ _ (by assumption)).mono ?_; rintro e w' ⟨fr, fn, rfl, hfr, rfl⟩))
  all_goals
    have E := frS_eq hx ‹Hid (can .f64 _ = fop .sub .f64 _ fr)› (by assumption) (by assumption) (by assumption)
    first
    | (have N := neg_yes E (by assumption)
       have F := f1_neg hx E N (by assumption)
       first
       | have G := f2_fold hx F (by assumption) (by assumption)
       | have G := f2_stay F (by assumption)
       have X := xS_eq hx G (by assumption)
       have Y := yS_eq hx X (by assumption)
       replace N := hid N
       subst X Y)
    | (have N := neg_no E (by assumption)
       have F := f1_pos E N
       first
       | have G := f2_fold hx F (by assumption) (by assumption)
       | have G := f2_stay F (by assumption)
       have X := xS_eq hx G (by assumption)
       have Y := yS_eq hx X (by assumption)
       replace N := hid N
       subst X Y)
    clear F G
    replace E := hid E
    go_loopw [7, 8] (fun tv i wr => ∃ k : Nat, k ≤ 8 ∧ i = .int .i64 (8 - (k : Int)) ∧ tv = .float .f64 (tS x k) ∧ ∃ n, wr = w.drewN n) (fun _ i _ => (intOf i).toNat)
    case atStart => exact ⟨0, by omega, rfl, rfl, _, rfl⟩
    case round =>
      obtain ⟨k, hk, rfl, rfl, m, rfl⟩ := hrel
      by_cases hlt : k < 8
      · go_wp2_with (first | (with_reducible refine wpList_farith rfl rfl rfl rfl rfl ?_; intro r n hr hf))
        go_roundw
        case rel => exact ⟨k + 1, by omega, by go_num, by rw [tS_eq hx hlt (by assumption) (by assumption) hr], _, rfl⟩
        case measure => simp [intOf]; omega
      · obtain rfl : k = 8 := by omega
        go_wp2_with (first | (with_reducible refine wpList_farith rfl rfl rfl rfl rfl ?_; intro r n hr hf) | (with_reducible refine wpList_narrowX rfl rfl rfl Try.underlying56 Try.underlying25 (by first | exact nar_s hx (by assumption) | exact nar_n hx (by assumption)) ?_; intro q nq hq hqf))
        all_goals first
          | exact absurd (N.out.symm.trans (neg_no E.out (by assumption))) (by decide)
          | (go_ret
             exact ⟨q, _, rfl, (by first | exact sine_pos hx N.out (by assumption) hq | exact sine_neg hx N.out (by assumption) hq), rfl⟩)
theorem c_NaN (w : World) : Calls Try.prog 150 #[] w fun e w' => e = .returned (.float .f64 9221120237041090561) ∧ w = w' := by
  go_enter Try.func150, Try.ntmps150
  go_wp2
  go_ret
  exact ⟨rfl, rfl⟩
theorem s_l01Sine_no (x : Nat) (w : World) (hx : fin x = false) : Calls Try.prog 122 #[.float .f32 x] w (fun e w' => ∃ r n, e = .returned (.float .f32 r) ∧ can .f32 r = sineW x ∧ w' = w.drewN n) := by
  go_enter Try.func122, Try.ntmps122
  go_wp2_with (first | (go_at_call 109; refine (s_l01Finite _ _).mono ?_; rintro e w' ⟨rfl, n0, rfl⟩) | (go_at_call 150; refine (c_NaN _).mono ?_; rintro e w' ⟨rfl, rfl⟩) | (with_reducible refine wpList_narrowX rfl rfl rfl Try.underlying56 Try.underlying25 (nanX (by decide)) ?_; intro q nq hq hqf))
  go_ret
  exact ⟨q, _, rfl, by rw [hq.out, narrow_nan (by decide)]; simp [sineW, hx, can_qnan], rfl⟩
theorem s_Sine (x : Nat) (w : World) : Calls Try.prog 122 #[.float .f32 x] w (fun e w' => ∃ r n, e = .returned (.float .f32 r) ∧ can .f32 r = sineW x ∧ w' = w.drewN n) := by
  cases hx : fin x
  · exact s_l01Sine_no x w hx
  · exact s_l01Sine x w hx
theorem c_IsNaN (x : Nat) (w : World) : Calls Try.prog 116 #[.float .f64 x] w fun e w' => e = .returned (.bool (isNan .f64 x)) ∧ w = w' := by
  go_enter Try.func116, Try.ntmps116
  go_wp2
  go_ret
  exact ⟨rfl, rfl⟩
theorem c_IsInf (x : Nat) (w : World) (hx : fits .f64 x) (hi : (FloatKind.f64.format.read x).isInfinity = false) (hn : isNan .f64 x = false) : Calls Try.prog 117 #[.float .f64 x, .int .i64 0] w fun e w' => e = .returned (.bool false) ∧ w = w' := by
  have ho := notInf_order hi hn
  go_enter Try.func117, Try.ntmps117
  go_wp2_with (go_at_call 148; refine (abs64 _ _ hx).mono ?_; rintro e w' ⟨rfl, rfl⟩)
  go_ret
  exact ⟨rfl, rfl⟩
theorem c_IsInf_yes (x : Nat) (w : World) (hx : fits .f64 x) (ho : (FloatKind.f64.format.order (x % 9223372036854775808) 9218868437227405311 == some .gt) = true) : Calls Try.prog 117 #[.float .f64 x, .int .i64 0] w fun e w' => e = .returned (.bool true) ∧ w = w' := by
  go_enter Try.func117, Try.ntmps117
  go_wp2_with (go_at_call 148; refine (abs64 _ _ hx).mono ?_; rintro e w' ⟨rfl, rfl⟩)
  go_ret
  exact ⟨rfl, rfl⟩
theorem i_sine (x : Nat) (w : World) (hx : fin x = true) : Calls Try.prog 120 #[.float .f64 (f2S x)] w (fun e w' => e = .returned (.float .f64 (sS x)) ∧ ∃ n, w' = w.drewN n) := by
  go_enter Try.func120, Try.ntmps120
  go_wp2_with (with_reducible refine wpList_farith rfl rfl rfl rfl rfl ?_; intro r n hr hf)
  have X := xS_eq hx rfl (by assumption)
  have Y := yS_eq hx X (by assumption)
  subst X Y
  go_loopw [5, 6] (fun tv i wr => ∃ k : Nat, k ≤ 8 ∧ i = .int .i64 (8 - (k : Int)) ∧ tv = .float .f64 (tS x k) ∧ ∃ n, wr = w.drewN n) (fun _ i _ => (intOf i).toNat)
  case atStart => exact ⟨0, by omega, rfl, rfl, _, rfl⟩
  case round =>
    obtain ⟨k, hk, rfl, rfl, m, rfl⟩ := hrel
    by_cases hlt : k < 8
    · go_wp2_with (first | (with_reducible refine wpList_farith rfl rfl rfl rfl rfl ?_; intro r n hr hf))
      go_roundw
      case rel => exact ⟨k + 1, by omega, by go_num, by rw [tS_eq hx hlt (by assumption) (by assumption) hr], _, rfl⟩
      case measure => simp [intOf]; omega
    · obtain rfl : k = 8 := by omega
      go_wp2_with (first | (with_reducible refine wpList_farith rfl rfl rfl rfl rfl ?_; intro r n hr hf))
      go_ret
      exact ⟨ret_f (eq_fop hr.out (sS_lt hx)), _, rfl⟩
theorem i_opp (x : Nat) (w : World) (hx : fin x = true) : Calls Try.prog 121 #[.float .f64 (f2S x)] w (fun e w' => e = .returned (.float .f64 (neg .f64 (sS x))) ∧ ∃ n, w' = w.drewN n) := by
  go_enter Try.func121, Try.ntmps121
  go_wp2_with (go_at_call 120; refine (i_sine x _ hx).mono ?_; rintro e w' ⟨rfl, n, rfl⟩)
  go_ret
  exact ⟨rfl, _, rfl⟩
theorem infoHalves : (Try.prog.info? 156).map (·.size) = some 2 := by kernel_rfl
set_option maxRecDepth 100000 in
set_option maxHeartbeats 2000000 in
theorem i_SineOf (x : Nat) (w : World) (hx : fin x = true) : Calls Try.prog 67 #[.float .f32 x] w (fun e w' => ∃ r, e = .returned (.float .f32 r) ∧ can .f32 r = sineW x ∧ Below w.heap.size w w') := by
  go_enter Try.func67, Try.ntmps67
  go_wp2_with (first | (with_reducible refine wpList_farith rfl rfl rfl rfl rfl ?_; intro r n hr hf) | (with_reducible refine wpList_widen rfl rfl rfl Try.underlying25 Try.underlying56 ?_; intro s1 n1 h1 f1; have hnn := wide_num hx h1; have hni := wide_fin hx h1; have hwf := f1.out) | (go_at_call 116; refine (c_IsNaN _ _).mono ?_; rintro e w' ⟨rfl, rfl⟩) | (go_at_call 117; refine (c_IsInf _ _ hwf hni hnn).mono ?_; rintro e w' ⟨rfl, rfl⟩) | (go_at_call 119; refine (floor_any _ _ (by assumption)).mono ?_; rintro e w' ⟨fr, fn, rfl, hfr, rfl⟩) | ((with_reducible refine stop_store rfl ?_)))
  all_goals
    have E := frS_eq hx ‹Hid (can .f64 _ = fop .sub .f64 _ fr)› (by assumption) (by assumption) (by assumption)
    first
    | (have N := neg_yes E (by assumption)
       have F := f1_neg hx E N (by assumption)
       first
       | have G := f2_fold hx F (by assumption) (by assumption)
       | have G := f2_stay F (by assumption)
       have S := hid (show sgS x = neg .f64 (sS x) from if_pos N)
       replace N := hid N)
    | (have N := neg_no E (by assumption)
       have F := f1_pos E N
       first
       | have G := f2_fold hx F (by assumption) (by assumption)
       | have G := f2_stay F (by assumption)
       have S := hid (show sgS x = sS x from if_neg (by rw [N]; simp))
       replace N := hid N)
    show wpList _ _ _ _ _ _
    refine wpList_storeN rfl rfl rfl rfl rfl infoHalves rfl (by simp [Value.oneCell']) (fun w2 R hl hsz => ?_)
    have hl2 := hid (le_trans (le_drewN w _) hl)
    have c0 : w2.cell? ⟨w.heap.size, 0, none⟩ = some (.func (.func 120) #[] #[]) := R.cell? 0
    have c1 : w2.cell? ⟨w.heap.size, 1, none⟩ = some (.func (.func 121) #[] #[]) := R.cell? 1
    clear F hl hsz R
    have hsn := hid ((sS_lt hx).mono (show _ ≤ (126 : Int) by omega)).narrowX
    have hsm := hid (lt_neg ((sS_lt hx).mono (show _ ≤ (126 : Int) by omega))).narrowX
    replace E := hid E
    subst G
    go_wp2_with (first | (go_at_call 120; refine (i_sine x _ hx).mono ?_; rintro e w' ⟨rfl, m, rfl⟩) | (go_at_call 121; refine (i_opp x _ hx).mono ?_; rintro e w' ⟨rfl, m, rfl⟩) | (with_reducible refine wpList_narrowX rfl rfl rfl Try.underlying56 Try.underlying25 (by first | exact hsn.out | exact hsm.out) ?_; intro q nq hq hqf))
    go_ret
    refine ⟨q, rfl, ?_, below_drewN hl2.out _⟩
    rw [hq.out, sineW, if_pos hx, S.out]
set_option maxRecDepth 100000 in
set_option maxHeartbeats 2000000 in
theorem i_SineOf_no (x : Nat) (w : World) (hx : fin x = false) : Calls Try.prog 67 #[.float .f32 x] w (fun e w' => ∃ r, e = .returned (.float .f32 r) ∧ can .f32 r = sineW x ∧ Below w.heap.size w w') := by
  go_enter Try.func67, Try.ntmps67
  go_wp2_with (first | (with_reducible refine wpList_widen rfl rfl rfl Try.underlying25 Try.underlying56 ?_; intro s1 n1 h1 f1; have hnf := hid (not_fin hx h1.out); have hwf := f1.out) | (go_at_call 116; refine (c_IsNaN _ _).mono ?_; rintro e w' ⟨rfl, rfl⟩) | (go_at_call 117; refine (c_IsInf_yes _ _ hwf (hnf.out.resolve_left (by simp [*])).2).mono ?_; rintro e w' ⟨rfl, rfl⟩))
  all_goals
    go_ret
    exact ⟨_, rfl, by rw [sineW, if_neg (by simp [hx])]; decide, by repeat' (first | (with_reducible exact Below.refl _ _) | (with_reducible assumption) | (with_reducible refine below_drewN ?_ _) | (with_reducible refine Below.alloc ?_ ?_ _) | (with_reducible refine Below.drew ?_) | (with_reducible refine Below.setCell ?_ ?_ _) | go_size)⟩
theorem i_Sine (x : Nat) (w : World) : Calls Try.prog 67 #[.float .f32 x] w (fun e w' => ∃ r, e = .returned (.float .f32 r) ∧ can .f32 r = sineW x ∧ Below w.heap.size w w') := by
  cases hx : fin x
  · exact i_SineOf_no x w hx
  · exact i_SineOf x w hx
end Go.Proofs.Ytkjgcfmfejjdkab

/- A region that draws its order, whose operations may draw the bits of a NaN: one walk, in the order of the text, serves every order, also where an operation's value is known up to a predicate alone. 'C': the worlds that may be met. 'K': what is known of what a call gives. Nothing here names a program. -/
namespace Go.Fk
open Go Go.RowKit

section
variable (P : Program) (ops : Array Oper) (md : Region.Mode) (C : World → Prop) (K : FuncId → Array Value → Value → Prop)

/-- What an operation's run must be, for its value to be one of V. -/
def within (V : Value → Prop) : Result Next → Prop
  | .ok (.value u) w' => C w' ∧ V u
  | .ok .skip w' => C w' ∧ V undef
  | .ok (.enter f args) w' => Calls P f args w' (fun e w'' => ∃ v, e = .returned v ∧ K f args v ∧ C w'') ∧ ∀ v, K f args v → V v
  | _ => False

/-- In every world of the class the operation gives a value of V (none of its own where its guard bars it). -/
def Gives (o : Oper) (a : Act) (V : Value → Prop) : Prop :=
  (Region.wanted o (yielded ops a.tmps) = true ∧ ∀ w, C w → within P C K V ((execOp a.eval o).run P w)) ∨ (Region.wanted o (yielded ops a.tmps) = false ∧ V undef)

/-- The walk in the order of the text. -/
def wpLoose (Q : Act → Prop) : List Oper → Act → Prop
  | [], a => Q a
  | o :: rest, a => ∃ V, Gives P ops C K o a V ∧ ∀ v, V v → wpLoose Q rest (a.put o.dst v)

/-- Whatever order is picked. -/
def anyLoose (Q : Act → Prop) : Nat → Array Bool → Act → Prop
  | 0, listed, a => Region.ready md ops listed = [] ∧ Q a
  | fuel + 1, listed, a => (Region.ready md ops listed = [] → Q a) ∧
      ∀ i ∈ Region.ready md ops listed, ∀ o, ops[i]? = some o → ∃ V, Gives P ops C K o a V ∧ ∀ v, V v → anyLoose Q fuel (listed.setIfInBounds i true) (a.put o.dst v)
end

section
variable {P : Program} {ops : Array Oper} {md : Region.Mode} {C : World → Prop} {K : FuncId → Array Value → Value → Prop}

theorem within_mono {V U : Value → Prop} (h : ∀ v, V v → U v) {r : Result Next} (hr : within P C K V r) : within P C K U r := by
  cases r with
  | ok n w' =>
    cases n <;> simp only [within] at hr ⊢
    case value u => exact ⟨hr.1, h _ hr.2⟩
    case skip => exact ⟨hr.1, h _ hr.2⟩
    case enter f args => exact ⟨hr.1, fun v hv => h v (hr.2 v hv)⟩
  | halt x w' => simp only [within] at hr

/-- What holds for each of a family of predicates, of which there is one, holds for all at once. -/
theorem within_all {ι : Type} {p : ι → Prop} {V : ι → Value → Prop} {r : Result Next} (hne : ∃ i, p i) (h : ∀ i, p i → within P C K (V i) r) : within P C K (fun v => ∀ i, p i → V i v) r := by
  obtain ⟨i0, h0⟩ := hne
  have hr := h i0 h0
  cases r with
  | ok n w' =>
    cases n <;> simp only [within] at hr h ⊢
    case value u => exact ⟨hr.1, fun i hi => (h i hi).2⟩
    case skip => exact ⟨hr.1, fun i hi => (h i hi).2⟩
    case enter f args => exact ⟨hr.1, fun v hv i hi => (h i hi).2 v hv⟩
  | halt x w' => simp only [within] at hr

theorem Gives.same {o : Oper} {a a' : Act} {V : Value → Prop} (he : execOp a'.eval o = execOp a.eval o) (hw : Region.wanted o (yielded ops a'.tmps) = Region.wanted o (yielded ops a.tmps))
    (h : Gives P ops C K o a V) : Gives P ops C K o a' V := by
  unfold Gives at *; rw [he, hw]; exact h

theorem within_some {V : Value → Prop} {r : Result Next} (h : within P C K V r) : ∃ v, V v := by
  cases r with
  | ok n w' =>
    cases n <;> simp only [within] at h
    case value u => exact ⟨u, h.2⟩
    case skip => exact ⟨undef, h.2⟩
    case enter f args =>
      obtain ⟨e, w'', fr, ⟨v, _, hk, _⟩, _⟩ := h.1 []
      exact ⟨v, h.2 v hk⟩
  | halt x w' => simp only [within] at h
theorem Gives.some (hC : ∃ w, C w) {o : Oper} {a : Act} {V : Value → Prop} (h : Gives P ops C K o a V) : ∃ v, V v := by
  obtain ⟨w, hw⟩ := hC
  rcases h with ⟨_, h⟩ | ⟨_, h⟩
  · exact within_some (h w hw)
  · exact ⟨undef, h⟩

theorem anyLoose_sound {Q : Act → Prop} {Q' : Exit → Act → World → Prop} (hQ : ∀ a w, C w → Q a → Q' .normal a w) : ∀ (fuel : Nat) (listed : Array Bool) (a : Act) (w : World), C w →
    anyLoose P ops md C K Q fuel listed a → wpAny P md ops Q' fuel listed a w := by
  intro fuel
  induction fuel with
  | zero => intro listed a w hw h; exact ⟨h.1, hQ a w hw h.2⟩
  | succ fuel ih =>
    intro listed a w hw h
    refine ⟨fun h0 => hQ a w hw (h.1 h0), fun i hi => ?_⟩
    obtain ⟨_, o, ho, _⟩ := mem_ready.1 hi
    obtain ⟨V, hg, hn⟩ := h.2 i hi o ho
    unfold wpOp
    simp only [ho]
    rcases hg with ⟨hwant, hv⟩ | ⟨hwant, hv⟩
    · rw [if_pos hwant]
      left
      have h3 := hv w hw
      unfold Oper.wp
      generalize (execOp a.eval o).run P w = r at h3
      cases r with
      | ok n w' =>
        cases n <;> simp only [within] at h3 <;> simp only [Oper.upon]
        case value u => exact ih _ _ _ h3.1 (hn u h3.2)
        case skip => exact ih _ _ _ h3.1 (hn undef h3.2)
        case enter f args =>
          refine h3.1.mono fun e w'' he => ?_
          obtain ⟨v, rfl, hk, hc⟩ := he
          exact ih _ _ _ hc (hn v (h3.2 v hk))
      | halt x w' => simp only [within] at h3
    · rw [if_neg (by simp [hwant])]
      exact ih _ _ _ hw (hn undef hv)

/-- What may come up now may be taken first. -/
theorem anyLoose_first {Q : Act → Prop} {i : Nat} {oi : Oper} {V : Value → Prop} (hi : ops[i]? = some oi) (hsel : ∀ (j : Nat) (o : Oper) cs b, ops[j]? = some o → o.op ≠ .select cs b) (hne : ∃ v, V v) :
    ∀ (fuel : Nat) (listed : Array Bool) (a : Act),
      (∀ j oj, ops[j]? = some oj → j ≠ i → listed.getD j true = false → (∀ e ∈ oj.after, Region.binds md e = true → e.on ≠ i) → oi.apart ops oj = true) →
      i ∈ Region.ready md ops listed → Gives P ops C K oi a V →
      (∀ v, V v → anyLoose P ops md C K Q fuel (listed.setIfInBounds i true) (a.put oi.dst v)) → anyLoose P ops md C K Q (fuel + 1) listed a := by
  intro fuel
  induction fuel with
  | zero =>
    intro listed a _ hr hg H
    refine ⟨fun h => (by rw [h] at hr; cases hr), fun j hj o ho => ?_⟩
    by_cases hji : j = i
    · subst hji
      rw [hi] at ho; cases ho
      exact ⟨V, hg, H⟩
    · obtain ⟨v, hv⟩ := hne
      have h1 := ready_mono hj hji
      rw [(H v hv).1] at h1
      cases h1
  | succ fuel ih =>
    intro listed a hfree hr hg H
    refine ⟨fun h => (by rw [h] at hr; cases hr), fun j hj o ho => ?_⟩
    by_cases hji : j = i
    · subst hji
      rw [hi] at ho; cases ho
      exact ⟨V, hg, H⟩
    · obtain ⟨hjun, oj, hoj, hall⟩ := mem_ready.1 hj
      rw [ho] at hoj; cases hoj
      have hnot : ∀ e ∈ o.after, Region.binds md e = true → e.on ≠ i := fun e he hb heq => by
        have h1 := hall e he hb
        have h0 := (mem_ready.1 hr).1
        rw [heq] at h1
        rcases Nat.lt_or_ge i listed.size with h' | h'
        · simp [h'] at h0 h1; rw [h0] at h1; cases h1
        · simp [Array.getElem?_eq_none h'] at h1
      have hap := hfree j o ho hji hjun hnot
      obtain ⟨a1, a2, a3⟩ := Oper.apart_spec hap
      have hsi := fun cs b => hsel i oi cs b hi
      have hsj := fun cs b => hsel j o cs b ho
      -- at each value of the first, the other one has its predicate; all of them at once
      have hU : ∀ v : {v // V v}, ∃ U, Gives P ops C K o (a.put oi.dst v.1) U ∧ ∀ u, U u → anyLoose P ops md C K Q fuel ((listed.setIfInBounds i true).setIfInBounds j true) ((a.put oi.dst v.1).put o.dst u) :=
        fun v => (H v.1 v.2).2 j (ready_mono hj hji) o ho
      obtain ⟨v0, hv0⟩ := hne
      let good : Value → Prop := fun u => ∀ v : {v // V v}, True → anyLoose P ops md C K Q fuel ((listed.setIfInBounds i true).setIfInBounds j true) ((a.put oi.dst v.1).put o.dst u)
      have hgood : Gives P ops C K o a good := by
        have hone : ∀ v : {v // V v}, Gives P ops C K o a (fun u => anyLoose P ops md C K Q fuel ((listed.setIfInBounds i true).setIfInBounds j true) ((a.put oi.dst v.1).put o.dst u)) := fun v => by
          obtain ⟨U, h1, h2⟩ := hU v
          have h1' : Gives P ops C K o a U := h1.same (execOp_put o hsj a oi.dst v.1 a1).symm (wanted_put o a oi.dst v.1 a1).symm
          rcases h1' with ⟨hw, h3⟩ | ⟨hw, h3⟩
          · exact .inl ⟨hw, fun w hw' => within_mono h2 (h3 w hw')⟩
          · exact .inr ⟨hw, h2 _ h3⟩
        by_cases hw : Region.wanted o (yielded ops a.tmps) = true
        · refine .inl ⟨hw, fun w hw' => ?_⟩
          refine within_all ⟨⟨v0, hv0⟩, trivial⟩ (fun v _ => ?_)
          rcases hone v with ⟨_, h3⟩ | ⟨h3, _⟩
          · exact h3 w hw'
          · rw [hw] at h3; cases h3
        · refine .inr ⟨by simpa using hw, fun v _ => ?_⟩
          rcases hone v with ⟨h3, _⟩ | ⟨_, h3⟩
          · exact absurd h3 hw
          · exact h3
      refine ⟨good, hgood, ?_⟩
      · intro u hu
        have hfree' : ∀ k ok, ops[k]? = some ok → k ≠ i → (listed.setIfInBounds j true).getD k true = false →
            (∀ e ∈ ok.after, Region.binds md e = true → e.on ≠ i) → oi.apart ops ok = true := fun k ok hk hki hun hno => by
          refine hfree k ok hk hki ?_ hno
          by_cases hjk : j = k
          · subst hjk; exact hjun
          · rw [getD_set_ne true hjk] at hun; exact hun
        refine ih (listed.setIfInBounds j true) (a.put o.dst u) hfree' (ready_mono hr (Ne.symm hji)) (hg.same (execOp_put oi hsi a o.dst u a3) (wanted_put oi a o.dst u a3)) (fun v hv => ?_)
        rw [Array.setIfInBounds_comm _ _ hji, ← Act.put_comm a v u a2]
        exact hu ⟨v, hv⟩ trivial

theorem anyLoose_lex {Q : Act → Prop} (hC : ∃ w, C w) (hs : Region.noSelect ops = true) : ∀ (l : List Oper) (k : Nat) (listed : Array Bool) (a : Act), (∀ j, l[j]? = ops[k + j]?) →
    Region.lexFrom md ops l.length k listed = true → wpLoose P ops C K Q l a → anyLoose P ops md C K Q l.length listed a := by
  intro l
  induction l with
  | nil => intro k listed a _ hB h; exact ⟨by simpa [Region.lexFrom] using hB, h⟩
  | cons o l ih =>
    intro k listed a hl hB h
    have h0 : ops[k]? = some o := by simpa using (hl 0).symm
    simp only [List.length_cons, Region.lexFrom, Bool.and_eq_true] at hB
    obtain ⟨⟨hr, hf⟩, hB'⟩ := hB
    obtain ⟨V, hg, hn⟩ := h
    exact anyLoose_first h0 (Region.noSelect_spec hs) (hg.some hC) l.length listed a (Region.free_spec h0 hf) (by simpa using hr) hg
      (fun v hv => ih (k + 1) _ _ (fun j => by have := hl (j + 1); simpa [Nat.add_assoc, Nat.add_comm 1 j] using this) hB' (hn v hv))

/-- ONE WALK SERVES EVERY ORDER. -/
theorem wp_region_loose (K : FuncId → Array Value → Value → Prop) {id : Nat} {Q : Exit → Act → World → Prop} {a : Act} {w : World} {l : List Oper} (hm : P.follows .mixedOrders = true) (hB : Region.lexB .any l.toArray = true)
    (h : wpLoose P l.toArray (fun w' => ∃ n, w' = w.drewN n) K (fun a' => ∀ n, Q .normal a' (w.drewN n)) l a) : (Code.region id l.toArray true).wp P Q a w := by
  simp only [Region.lexB, Bool.and_eq_true] at hB
  have hC : ∃ n, ({ w with drawn := w.drawn + 1 } : World) = w.drewN n := ⟨1, rfl⟩
  refine wp_region_any hm (anyLoose_sound (C := fun w' => ∃ n, w' = w.drewN n) (K := K) (Q := fun a' => ∀ n, Q .normal a' (w.drewN n)) (fun a' w' hw' h' => by obtain ⟨n, rfl⟩ := hw'; exact h' n) _ _ _ _ hC ?_)
  have := anyLoose_lex (md := .any) ⟨_, hC⟩ hB.1 l 0 (Array.replicate l.toArray.size false) a (by simp) (by simpa using hB.2) h
  simpa using this

theorem wpLoose_nil {Q : Act → Prop} {a : Act} (h : Q a) : wpLoose P ops C K Q [] a := h
theorem andThen_value {α : Type} (r : Result α) (f : α → Next) {f' : FuncId} {args : Array Value} {w' : World} (h : (r.andThen fun x w'' => .ok (f x) w'') = .ok (.enter f' args) w') : ∃ x, f x = .enter f' args := by
  cases r with
  | ok x w => simp only [Result.andThen, Result.ok.injEq] at h; exact ⟨x, h.1⟩
  | halt x w => simp [Result.andThen] at h

/-- Operations that surely enter no function. -/
def simple : Op → Bool
  | .nilCheck _ | .call _ | .go _ | .defer _ | .recv .. | .select .. => false
  | _ => true
/-- Only a call enters a function. -/
theorem noEnter {P : Program} {ρ : Operand → Value} {o : Oper} (hnc : simple o.op = true) {w w' : World} {f : FuncId} {args : Array Value} : (execOp ρ o).run P w ≠ .ok (.enter f args) w' := by
  intro h
  unfold execOp at h
  cases ho : o.op <;> simp only [ho, simple] at h hnc
  all_goals first
    | (cases hnc; done)
    | (simp only [Sem.run_bind, Sem.run_pure] at h; obtain ⟨x, hx⟩ := andThen_value _ _ h; cases hx; done)
    | (simp at h; done)

/-- A quiet operation is a loose one: one value, in the very world. -/
theorem wpLoose_quiet {Q : Act → Prop} {o : Oper} {rest : List Oper} {a : Act} (hnc : simple o.op = true) (h : wpQuiet P ops C (fun a' => wpLoose P ops C K Q rest a') [o] a) : wpLoose P ops C K Q (o :: rest) a := by
  simp only [wpQuiet] at h
  by_cases hw : Region.wanted o (yielded ops a.tmps) = true
  · rw [if_pos hw] at h
    obtain ⟨v, h1, h2⟩ := h
    refine ⟨(· = v), .inl ⟨hw, fun w hw' => ?_⟩, fun u hu => by rw [hu]; exact h2⟩
    have h3 := h1 w hw'
    unfold Oper.quietAt at h3
    generalize hrun : (execOp a.eval o).run P w = r at h3
    cases r with
    | ok n w' =>
      cases n <;> simp only [Oper.quietUpon] at h3 <;> simp only [within]
      case value u => exact ⟨by rw [h3.1]; exact hw', h3.2⟩
      case skip => exact ⟨by rw [h3.1]; exact hw', h3.2.symm⟩
      case enter f args => exact (noEnter hnc hrun).elim
    | halt x w' => simp only [Oper.quietUpon] at h3
  · rw [if_neg hw] at h
    exact ⟨(· = undef), .inr ⟨by simpa using hw, rfl⟩, fun u hu => by rw [hu]; exact h⟩
end
end Go.Fk

/- The steps of a walk through a region that draws its order: + - * / on floats, float64(x), float32(x), calls. Nothing here names a program. -/
namespace Go.Fk
open Go Go.RowKit
attribute [go_sem] within

section
variable {P : Program} {ops : Array Oper} {w : World} {K : FuncId → Array Value → Value → Prop} {Q : Act → Prop} {o : Oper} {rest : List Oper} {a : Act}

theorem wpLoose_any (hg : o.guard = none) (V : Value → Prop) (h1 : ∀ n, within P (fun w' => ∃ m, w' = w.drewN m) K V ((execOp a.eval o).run P (w.drewN n)))
    (h2 : ∀ v, V v → wpLoose P ops (fun w' => ∃ m, w' = w.drewN m) K Q rest (a.put o.dst v)) : wpLoose P ops (fun w' => ∃ m, w' = w.drewN m) K Q (o :: rest) a :=
  ⟨V, .inl ⟨by simp [Region.wanted, hg], fun w' hw' => by obtain ⟨n, rfl⟩ := hw'; exact h1 n⟩, h2⟩

theorem wpLoose_farith (hg : o.guard = none) {op : BinOp} {t t' : TypeId} {x y : Operand} (hop : o.op = Op.binOp op t x y t') (ho : arith op = true)
    {k : FloatKind} {p q : Nat} (hx : a.eval x = .float k p) (hy : a.eval y = .float k q)
    (hK : ∀ r, Hid (can k r = fop op k p q) → Hid (fits k r) → wpLoose P ops (fun w' => ∃ m, w' = w.drewN m) K Q rest (a.put o.dst (.float k r))) : wpLoose P ops (fun w' => ∃ m, w' = w.drewN m) K Q (o :: rest) a := by
  refine wpLoose_any hg (fun v => ∃ r, v = .float k r ∧ can k r = fop op k p q ∧ fits k r) (fun n => ?_) ?_
  · obtain ⟨r, m, hrun, hr, hf⟩ := run_farith (P := P) (w.drewN n) op ho t k p q
    have he := eqGuard_float (P := P) (w.drewN n) op t x y k k p q
    simp [execOp, hop, hx, hy, he, hrun, Result.andThen, within]
    exact ⟨⟨_, rfl⟩, hr, hf⟩
  · rintro v ⟨r, rfl, hr, hf⟩
    exact hK r hr hf
theorem wpLoose_widen (hg : o.guard = none) {src dst : TypeId} {x : Operand} (hop : o.op = Op.convert src dst x) {b : Nat} (hx : a.eval x = .float .f32 b)
    (hs : P.underlying src = some (.float .f32)) (hd : P.underlying dst = some (.float .f64))
    (hK : ∀ r, Hid (can .f64 r = can .f64 (widen b)) → Hid (fits .f64 r) → wpLoose P ops (fun w' => ∃ m, w' = w.drewN m) K Q rest (a.put o.dst (.float .f64 r))) : wpLoose P ops (fun w' => ∃ m, w' = w.drewN m) K Q (o :: rest) a := by
  refine wpLoose_any hg (fun v => ∃ r, v = .float .f64 r ∧ can .f64 r = can .f64 (widen b) ∧ fits .f64 r) (fun n => ?_) ?_
  · obtain ⟨r, m, hrun, hr, hf⟩ := run_widen (P := P) (w.drewN n) src dst b hs hd
    simp [execOp, hop, hx, hrun, Result.andThen, within]
    exact ⟨⟨_, rfl⟩, hr, hf⟩
  · rintro v ⟨r, rfl, hr, hf⟩
    exact hK r hr hf
theorem wpLoose_narrow (hg : o.guard = none) {src dst : TypeId} {x : Operand} (hop : o.op = Op.convert src dst x) {b : Nat} (hx : a.eval x = .float .f64 b)
    (hs : P.underlying src = some (.float .f64)) (hd : P.underlying dst = some (.float .f32)) (hb : narrowable b)
    (hK : ∀ r, Hid (can .f32 r = can .f32 (narrow b)) → Hid (fits .f32 r) → wpLoose P ops (fun w' => ∃ m, w' = w.drewN m) K Q rest (a.put o.dst (.float .f32 r))) : wpLoose P ops (fun w' => ∃ m, w' = w.drewN m) K Q (o :: rest) a := by
  refine wpLoose_any hg (fun v => ∃ r, v = .float .f32 r ∧ can .f32 r = can .f32 (narrow b) ∧ fits .f32 r) (fun n => ?_) ?_
  · obtain ⟨r, m, hrun, hr, hf⟩ := run_narrow (P := P) (w.drewN n) src dst b hs hd hb
    simp [execOp, hop, hx, hrun, Result.andThen, within]
    exact ⟨⟨_, rfl⟩, hr, hf⟩
  · rintro v ⟨r, rfl, hr, hf⟩
    exact hK r hr hf
end
/-- A contract that gives one value, met in a region. -/
theorem loose_of {P : Program} {f : FuncId} {args : Array Value} {w : World} {n : Nat} {v : Value}
    (h : Calls P f args (w.drewN n) fun e w' => e = .returned v ∧ ∃ m, w' = (w.drewN n).drewN m) : Calls P f args (w.drewN n) fun e w'' => ∃ u, e = .returned u ∧ u = v ∧ ∃ m, w'' = w.drewN m :=
  h.mono fun _ _ ⟨he, m, hm⟩ => ⟨v, he, rfl, n + m, by rw [hm, World.drewN_drewN]⟩
theorem loose_of_same {P : Program} {f : FuncId} {args : Array Value} {w : World} {n : Nat} {v : Value}
    (h : Calls P f args (w.drewN n) fun e w' => e = .returned v ∧ w.drewN n = w') : Calls P f args (w.drewN n) fun e w'' => ∃ u, e = .returned u ∧ u = v ∧ ∃ m, w'' = w.drewN m :=
  h.mono fun _ _ ⟨he, hm⟩ => ⟨v, he, rfl, n, hm.symm⟩
end Go.Fk

/- The same for a region whose last operations are forced to come last, and may write. Nothing here names a program. -/
namespace Go.Fk
open Go Go.RowKit

section
variable {P : Program} {ops : Array Oper} {md : Region.Mode} {C : World → Prop} {K : FuncId → Array Value → Value → Prop}

/-- Whatever order is picked of the first n operations; then L. -/
def anyTail (P : Program) (ops : Array Oper) (md : Region.Mode) (C : World → Prop) (K : FuncId → Array Value → Value → Prop) (n : Nat) (L : Array Bool → Act → Prop) : Nat → Array Bool → Act → Prop
  | 0, listed, a => L listed a
  | f + 1, listed, a => Region.ready md ops listed ≠ [] ∧
      ∀ i ∈ Region.ready md ops listed, i < n ∧ ∀ o, ops[i]? = some o → ∃ V, Gives P ops C K o a V ∧ ∀ v, V v → anyTail P ops md C K n L f (listed.setIfInBounds i true) (a.put o.dst v)

theorem wpOp_gives {i : Nat} {o : Oper} {a : Act} {w : World} {V : Value → Prop} {next : Act → World → Prop} {Q' : Exit → Act → World → Prop} (ho : ops[i]? = some o) (hw : C w) (hg : Gives P ops C K o a V)
    (hn : ∀ v w', C w' → V v → next (a.put o.dst v) w') : wpOp P ops Q' i next a w := by
  unfold wpOp
  simp only [ho]
  rcases hg with ⟨hwant, hv⟩ | ⟨hwant, hv⟩
  · rw [if_pos hwant]
    left
    have h3 := hv w hw
    unfold Oper.wp
    generalize (execOp a.eval o).run P w = r at h3
    cases r with
    | ok x w' =>
      cases x <;> simp only [within] at h3 <;> simp only [Oper.upon]
      case value u => exact hn u _ h3.1 h3.2
      case skip => exact hn undef _ h3.1 h3.2
      case enter f args =>
        refine h3.1.mono fun e w'' he => ?_
        obtain ⟨v, rfl, hk, hc⟩ := he
        exact hn v _ hc (h3.2 v hk)
    | halt x w' => simp only [within] at h3
  · rw [if_neg (by simp [hwant])]
    exact hn undef _ hw hv

theorem anyTail_sound {n g : Nat} {L : Array Bool → Act → Prop} {Q' : Exit → Act → World → Prop} (hL : ∀ listed a w, C w → L listed a → wpAny P md ops Q' g listed a w) :
    ∀ (f : Nat) (listed : Array Bool) (a : Act) (w : World), C w → anyTail P ops md C K n L f listed a → wpAny P md ops Q' (f + g) listed a w := by
  intro f
  induction f with
  | zero => intro listed a w hw h; rw [Nat.zero_add]; exact hL _ _ _ hw h
  | succ f ih =>
    intro listed a w hw h
    rw [show f + 1 + g = (f + g) + 1 by omega]
    refine ⟨fun h0 => absurd h0 h.1, fun i hi => ?_⟩
    obtain ⟨_, o, ho, _⟩ := mem_ready.1 hi
    obtain ⟨V, hg, hn⟩ := (h.2 i hi).2 o ho
    exact wpOp_gives ho hw hg (fun v w' hw' hv => ih _ _ _ hw' (hn v hv))

theorem anyTail_first {n i : Nat} {oi : Oper} {V : Value → Prop} {L : Array Bool → Act → Prop} (hi : ops[i]? = some oi) (hsel : ∀ (j : Nat) (o : Oper) cs b, ops[j]? = some o → o.op ≠ .select cs b) (hne : ∃ v, V v)
    (hs : Region.sinkB md ops n = true) (hc : Region.chainB md ops n = true) (hn : n < ops.size) (hin : i < n)
    (hdone : ∀ listed a, L listed a → ∀ j ∈ Region.ready md ops listed, n ≤ j) :
    ∀ (f : Nat) (listed : Array Bool) (a : Act), HeadInv md ops n listed →
      (∀ j oj, ops[j]? = some oj → j ≠ i → listed.getD j true = false → (∀ e ∈ oj.after, Region.binds md e = true → e.on ≠ i) → oi.apart ops oj = true) →
      i ∈ Region.ready md ops listed → Gives P ops C K oi a V →
      (∀ v, V v → anyTail P ops md C K n L f (listed.setIfInBounds i true) (a.put oi.dst v)) → anyTail P ops md C K n L (f + 1) listed a := by
  intro f
  induction f with
  | zero =>
    intro listed a inv _ hr hg H
    have hun := (mem_ready.1 hr).1
    refine ⟨fun h => (by rw [h] at hr; cases hr), fun j hj => ?_⟩
    have hjn : j < n := by
      rcases Nat.lt_or_ge j n with h | h
      · exact h
      · exact absurd hj (tail_waits hs hc hn inv _ i rfl hin hun j h)
    refine ⟨hjn, fun o ho => ?_⟩
    by_cases hji : j = i
    · subst hji
      rw [hi] at ho; cases ho
      exact ⟨V, hg, H⟩
    · obtain ⟨v, hv⟩ := hne
      have := hdone _ _ (H v hv) j (ready_mono hj hji)
      omega
  | succ f ih =>
    intro listed a inv hfree hr hg H
    have hun := (mem_ready.1 hr).1
    refine ⟨fun h => (by rw [h] at hr; cases hr), fun j hj => ?_⟩
    have hjn : j < n := by
      rcases Nat.lt_or_ge j n with h | h
      · exact h
      · exact absurd hj (tail_waits hs hc hn inv _ i rfl hin hun j h)
    refine ⟨hjn, fun o ho => ?_⟩
    by_cases hji : j = i
    · subst hji
      rw [hi] at ho; cases ho
      exact ⟨V, hg, H⟩
    · obtain ⟨hjun, oj, hoj, hall⟩ := mem_ready.1 hj
      rw [ho] at hoj; cases hoj
      have hnot : ∀ e ∈ o.after, Region.binds md e = true → e.on ≠ i := fun e he hb heq => by
        have h1 := hall e he hb
        rw [heq, getD_both hun] at h1
        cases h1
      have hap := hfree j o ho hji hjun hnot
      obtain ⟨a1, a2, a3⟩ := Oper.apart_spec hap
      have hsi := fun cs b => hsel i oi cs b hi
      have hsj := fun cs b => hsel j o cs b ho
      have hU : ∀ v : {v // V v}, ∃ U, Gives P ops C K o (a.put oi.dst v.1) U ∧ ∀ u, U u → anyTail P ops md C K n L f ((listed.setIfInBounds i true).setIfInBounds j true) ((a.put oi.dst v.1).put o.dst u) :=
        fun v => ((H v.1 v.2).2 j (ready_mono hj hji)).2 o ho
      obtain ⟨v0, hv0⟩ := hne
      let good : Value → Prop := fun u => ∀ v : {v // V v}, True → anyTail P ops md C K n L f ((listed.setIfInBounds i true).setIfInBounds j true) ((a.put oi.dst v.1).put o.dst u)
      have hone : ∀ v : {v // V v}, Gives P ops C K o a (fun u => anyTail P ops md C K n L f ((listed.setIfInBounds i true).setIfInBounds j true) ((a.put oi.dst v.1).put o.dst u)) := fun v => by
        obtain ⟨U, h1, h2⟩ := hU v
        have h1' : Gives P ops C K o a U := h1.same (execOp_put o hsj a oi.dst v.1 a1).symm (wanted_put o a oi.dst v.1 a1).symm
        rcases h1' with ⟨hw, h3⟩ | ⟨hw, h3⟩
        · exact .inl ⟨hw, fun w hw' => within_mono h2 (h3 w hw')⟩
        · exact .inr ⟨hw, h2 _ h3⟩
      have hgood : Gives P ops C K o a good := by
        by_cases hw : Region.wanted o (yielded ops a.tmps) = true
        · refine .inl ⟨hw, fun w hw' => ?_⟩
          refine within_all ⟨⟨v0, hv0⟩, trivial⟩ (fun v _ => ?_)
          rcases hone v with ⟨_, h3⟩ | ⟨h3, _⟩
          · exact h3 w hw'
          · rw [hw] at h3; cases h3
        · refine .inr ⟨by simpa using hw, fun v _ => ?_⟩
          rcases hone v with ⟨h3, _⟩ | ⟨_, h3⟩
          · exact absurd h3 hw
          · exact h3
      refine ⟨good, hgood, ?_⟩
      intro u hu
      have hfree' : ∀ k ok, ops[k]? = some ok → k ≠ i → (listed.setIfInBounds j true).getD k true = false →
          (∀ e ∈ ok.after, Region.binds md e = true → e.on ≠ i) → oi.apart ops ok = true := fun k ok hk hki hun hno => by
        refine hfree k ok hk hki ?_ hno
        by_cases hjk : j = k
        · subst hjk; exact hjun
        · rw [getD_set_ne true hjk] at hun; exact hun
      refine ih (listed.setIfInBounds j true) (a.put o.dst u) (inv.set hj hjn) hfree' (ready_mono hr (Ne.symm hji)) (hg.same (execOp_put oi hsi a o.dst u a3) (wanted_put oi a o.dst u a3)) (fun v hv => ?_)
      rw [Array.setIfInBounds_comm _ _ hji, ← Act.put_comm a v u a2]
      exact hu ⟨v, hv⟩ trivial

theorem anyTail_lex {n g : Nat} {Lq : Act → Prop} (hC : ∃ w, C w) (hsel : Region.noSelect ops = true) (hs : Region.sinkB md ops n = true) (hc : Region.chainB md ops n = true) (hn : n < ops.size) :
    ∀ (l : List Oper) (k : Nat) (listed : Array Bool) (a : Act), (∀ j, j < l.length → l[j]? = ops[k + j]?) → k + l.length = n → HeadInv md ops n listed →
    Region.lexHead md ops g l.length k listed = true → wpLoose P ops C K Lq l a →
    anyTail P ops md C K n (fun listed' a' => Region.seqB md ops g n listed' = true ∧ Lq a') l.length listed a := by
  intro l
  induction l with
  | nil =>
    intro k listed a _ hk _ hB h
    have : k = n := by simpa using hk
    subst this
    exact ⟨by simpa [Region.lexHead] using hB, h⟩
  | cons o l ih =>
    intro k listed a hl hk inv hB h
    have h0 : ops[k]? = some o := by simpa using (hl 0 (by simp)).symm
    simp only [List.length_cons, Region.lexHead, Bool.and_eq_true] at hB
    obtain ⟨⟨hr, hf⟩, hB'⟩ := hB
    have hkn : k < n := by simp only [List.length_cons] at hk; omega
    have hr' : k ∈ Region.ready md ops listed := by simpa using hr
    obtain ⟨V, hg, hnext⟩ := h
    exact anyTail_first h0 (Region.noSelect_spec hsel) (hg.some hC) hs hc hn hkn (fun listed' a' hL => seqB_ready hL.1) l.length listed a inv (Region.free_spec h0 hf) hr' hg
      (fun v hv => ih (k + 1) _ _ (fun j hj => by have := hl (j + 1) (by simp; omega); simpa [Nat.add_assoc, Nat.add_comm 1 j] using this) (by simp only [List.length_cons] at hk; omega) (inv.set hr' hkn) hB' (hnext v hv))

/-- ONE WALK SERVES EVERY ORDER; then the last operations, in theirs. -/
theorem wp_region_tail (K : FuncId → Array Value → Value → Prop) {id : Nat} {Q : Exit → Act → World → Prop} {a : Act} {w : World} {l : List Oper} (n : Nat) (hm : P.follows .mixedOrders = true) (hB : Region.lexTailB .any l.toArray n = true)
    (h : wpLoose P l.toArray (fun w' => ∃ m, w' = w.drewN m) K (fun a' => ∀ m, wpList P l.toArray Q (l.drop n) a' (w.drewN m)) (l.take n) a) : (Code.region id l.toArray true).wp P Q a w := by
  simp only [Region.lexTailB, Bool.and_eq_true, decide_eq_true_eq] at hB
  obtain ⟨⟨⟨⟨hsel, hn⟩, hs⟩, hc⟩, hlex⟩ := hB
  have hn' : n < l.length := by simpa using hn
  have htl : (l.take n).length = n := by simp; omega
  have hdl : (l.drop n).length = l.toArray.size - n := by simp
  have hC : ∃ m, ({ w with drawn := w.drawn + 1 } : World) = w.drewN m := ⟨1, rfl⟩
  have inv0 : HeadInv .any l.toArray n (Array.replicate l.toArray.size false) :=
    ⟨by simp, fun j oj _ hl => (by rw [getD_replicate_false] at hl; cases hl), fun t _ ht => getD_in (by simpa using ht) (getD_replicate_false _ _)⟩
  have H := anyTail_lex (md := .any) (C := fun w' => ∃ m, w' = w.drewN m) (g := l.toArray.size - n) ⟨_, hC⟩ hsel hs hc hn (l.take n) 0 _ a (fun j hj => by
    have hj' : j < n := by rw [htl] at hj; exact hj
    simp [hj']) (by simpa using htl) inv0 (by rw [htl]; exact hlex) h
  refine wp_region_any hm ?_
  have := anyTail_sound (Q' := Q) (C := fun w' => ∃ m, w' = w.drewN m) (g := l.toArray.size - n) (fun listed a' w' hw' hL => by
    obtain ⟨m, rfl⟩ := hw'
    have := wpAny_of_seq (md := .any) (Q' := Q) (l.drop n) n listed a' (w.drewN m) (fun j => by simp [List.getElem?_drop]) (by rw [hdl]; exact hL.1) (hL.2 m)
    rwa [hdl] at this) _ _ _ _ hC H
  rw [htl, show n + (l.toArray.size - n) = l.toArray.size by omega] at this
  exact this
end
end Go.Fk

/- Blocks of 16 floats: 'laws.toBlock', 'laws.eqBlock'. -/
namespace Go.Fk
open Go Go.RowKit
/-- A block of 16 floats is given, each up to the bits of NaN; nothing old is written. -/
def OutB (F : Nat → Nat) (w : World) (e : Ending) (w' : World) : Prop := ∃ g, e = .returned (.agg (ftab .f32 g 16)) ∧ (∀ j, j < 16 → can .f32 (g j) = F j ∧ fits .f32 (g j)) ∧ Below w.heap.size w w'
/-- One cell more of a row that is being filled. -/
theorem fill_step {α : Type} {p : Nat → α → Prop} {g : Nat → α} {k : Nat} {r : α} (h : ∀ j, j < k → p j (g j)) (hr : p k r) : ∀ j, j < k + 1 → p j (if j = k then r else g j) := by
  intro j hj
  by_cases e : j = k
  · subst e; simpa using hr
  · simpa [e] using h j (by omega)
theorem rest_step {α : Type} {g x : Nat → α} {k : Nat} {r : α} (h : ∀ j, k ≤ j → g j = x j) : ∀ j, k + 1 ≤ j → (if j = k then r else g j) = x j := by
  intro j hj
  rw [if_neg (by omega)]
  exact h j (by omega)
end Go.Fk
namespace Go.Proofs.Ytkjgcfmfejjdkab
open Go.RowKit Go.Fk

theorem infoBlk : (Try.prog.info? 72).map (·.size) = some 16 := by kernel_rfl

theorem allocBlk (w : World) : (Instr.alloc 72 true (.tuple #[])).run Try.prog w = .ok (.pointer (some ⟨w.heap.size, 0, none⟩)) (w.alloc (.cells (ftab .f32 (fun _ => 0) 16) 72)) := by kernel_rfl

theorem toBlock_any (x : Nat → Nat) (w : World) : Calls Try.prog 45 #[.agg (ftab .f32 x 16)] w fun e w' => e = .returned (.agg (ftab .f32 x 16)) ∧ Below w.heap.size w w' := by
  go_enter Try.func45, Try.ntmps45
  go_wp2
  go_loopw [4] (fun i wr => ∃ k : Nat, k ≤ 16 ∧ i = .int .i64 k ∧ Row wr w.heap.size 71 (ftab .f32 x 16) ∧ (∃ z, Row wr (w.heap.size + 1) 72 (ftab .f32 z 16)) ∧ Row wr (w.heap.size + 1 + 1) 72 (ftab .f32 (fun j => if j < k then x j else 0) 16) ∧ Below w.heap.size w wr) (fun i _ => 16 - (intOf i).toNat)
  case atStart =>
    refine ⟨0, by omega, rfl, ?_, ⟨fun _ => 0, ?_⟩, ?_, by repeat' (first | (with_reducible exact Below.refl _ _) | (with_reducible assumption) | (with_reducible refine below_drewN ?_ _) | (with_reducible refine Below.alloc ?_ ?_ _) | (with_reducible refine Below.drew ?_) | (with_reducible refine Below.setCell ?_ ?_ _) | go_size)⟩
    · exact ((Row.new w _ _).alloc _).alloc _
    · exact (Row.new' _ _ _ (by simp)).alloc _
    · exact Row.new' _ _ _ (by simp)
  case round =>
    obtain ⟨k, hk, rfl, hA, ⟨z, hZ⟩, hO, hb⟩ := hrel
    by_cases hlt : k < 16
    · have c1 := hA.ftab hlt
      have c2 := hO.ftab hlt
      have f2 := hO.frozen k
      have HA := hid hA; clear hA
      have HZ := hid hZ; clear hZ
      have HO := hid hO; clear hO
      go_wp2
      go_roundw
      case rel =>
        refine ⟨k + 1, by omega, by go_num, HA.out.other _ _ (by simp; omega), ⟨z, HZ.out.other _ _ (by simp)⟩, ?_, hb.setCell (by simp; omega) _⟩
        have h := HO.out.set k (.float .f32 (x k))
        rw [set_ftab] at h
        rw [show (fun j => if j < k + 1 then x j else 0) = (fun j => if j = k then x k else if j < k then x j else 0) from ?_]
        · exact h
        · funext j
          by_cases e : j = k
          · subst e; simp
          · simp [e, show (j < k + 1) = (j < k) by simp; omega]
      case measure => simp [intOf]; omega
    · obtain rfl : k = 16 := by omega
      rw [show ftab .f32 (fun j => if j < 16 then x j else 0) 16 = ftab .f32 x 16 from ftab_congr (fun j hj => if_pos hj)] at hO
      have HA := hid hA; clear hA
      have hsz : (Try.prog.info? 72).map (·.size) = some (ftab .f32 x 16).size := by rw [size_ftab]; exact infoBlk
      go_wp2_with (first | (with_reducible refine wpList_loadA rfl rfl rfl hO Try.underlying72 hsz ?_) | (with_reducible refine wpList_storeA rfl rfl rfl rfl hZ hsz (by rw [size_ftab, size_ftab]) (one_ftab _ _ _) ?_))
      exact bodyPost_ret (results_cell_row rfl _ _ _ _ _ (0, 0) _ rfl (hZ.setRow _) Try.underlying72 rfl hsz) rfl ⟨rfl, below_setRow hb (by omega) _⟩

theorem eqBlock_yes (x y : Nat → Nat) (w : World) (h : ∀ j, j < 16 → can .f32 (x j) = can .f32 (y j)) :
    Calls Try.prog 47 #[.agg (ftab .f32 x 16), .agg (ftab .f32 y 16)] w fun e w' => e = .returned (.bool true) ∧ Below w.heap.size w w' := by
  have H := hid h; clear h
  go_enter Try.func47, Try.ntmps47
  go_wp2
  go_loopw [5] (fun i wr => ∃ k : Nat, k ≤ 16 ∧ i = .int .i64 k ∧ Row wr w.heap.size 72 (ftab .f32 x 16) ∧ Row wr (w.heap.size + 1) 72 (ftab .f32 y 16) ∧ Below w.heap.size w wr) (fun i _ => 16 - (intOf i).toNat)
  case atStart =>
    exact ⟨0, by omega, rfl, (Row.new w _ _).alloc _, Row.new' _ _ _ (by simp), by repeat' (first | (with_reducible exact Below.refl _ _) | (with_reducible assumption) | (with_reducible refine below_drewN ?_ _) | (with_reducible refine Below.alloc ?_ ?_ _) | (with_reducible refine Below.drew ?_) | (with_reducible refine Below.setCell ?_ ?_ _) | go_size)⟩
  case round =>
    obtain ⟨k, hk, rfl, hA, hB, hb⟩ := hrel
    by_cases hlt : k < 16
    · have c1 := hA.ftab hlt
      have c2 := hB.ftab hlt
      have HA := hid hA; clear hA
      have HB := hid hB; clear hB
      have hxy := hid (H.out k hlt)
      go_wp2_with fail
      refine wp_region_loose (fun _ _ v => v = .bool true) (by kernel_rfl) (by kernel_rfl) ?_
      repeat (first | (with_reducible refine wpLoose_widen rfl rfl rfl Try.underlying25 Try.underlying56 ?_; intro r hr hf; simp only [Act.put, List.setIfInBounds_toArray, List.set_cons_succ, List.set_cons_zero]) | (refine wpLoose_quiet rfl ?_; go_big_quiet_step (fail); refine wpQuiet_nil ?_))
      refine wpLoose_any rfl (· = .bool true) (fun n => ?_) ?_
      · go_simp
        refine loose_of (sameFloat_yes _ _ _ ?_)
        have hr1 := ‹Hid (can .f64 _ = can .f64 (widen (x k)))›
        exact hr1.out.trans ((congrArg (can .f64) (widen_congr hxy)).trans hr.out.symm)
      · rintro v rfl
        simp only [Act.put, List.setIfInBounds_toArray, List.set_cons_succ, List.set_cons_zero]
        repeat (refine wpLoose_quiet rfl ?_; go_big_quiet_step (fail); refine wpQuiet_nil ?_)
        refine wpLoose_nil (fun n => ?_)
        go_wp2
        go_roundw
        case rel => exact ⟨k + 1, by omega, by go_num, HA.out.drewN _, HB.out.drewN _, below_drewN hb _⟩
        case measure => simp [intOf]; omega
    · obtain rfl : k = 16 := by omega
      have HA := hid hA; clear hA
      have HB := hid hB; clear hB
      go_wp2
      go_ret
      exact ⟨rfl, hb⟩
end Go.Proofs.Ytkjgcfmfejjdkab

/- Tables of 257 floats: 'laws.toTable', 'laws.eqTable'. -/
namespace Go.Proofs.Ytkjgcfmfejjdkab
open Go.RowKit Go.Fk
theorem infoTab : (Try.prog.info? 87).map (·.size) = some 257 := by kernel_rfl
end Go.Proofs.Ytkjgcfmfejjdkab

/- 'SineTable' of both. -/
namespace Go.Fk
open Go Go.RowKit
theorem sineW_can {a b : Nat} (h : can .f32 a = can .f32 b) : sineW a = sineW b := by
  cases hn : isNan .f32 a
  · rw [eq_of_can h hn]
  · have hm := (isNan_of_can h).symm.trans hn
    have f1 : fin a = false := by
      obtain ⟨s, t, h1⟩ := read_nan hn
      simp [fin, h1]
    have f2 : fin b = false := by
      obtain ⟨s, t, h1⟩ := read_nan hm
      simp [fin, h1]
    simp [sineW, f1, f2]
def share256 (j : Nat) : Nat := fop .quo .f32 (floatOfInt .f32 (j : Int)) 1132462080
def OutT (o : Nat → Nat) (w : World) (e : Ending) (w' : World) : Prop := ∃ g : Nat → Nat, e = .returned (.agg (ftab .f32 g 257)) ∧ (∀ j, j < 257 → can .f32 (g j) = o j) ∧ le w w'
end Go.Fk
namespace Go.Proofs.Ytkjgcfmfejjdkab
open Go.RowKit Go.Fk
set_option maxRecDepth 100000 in
set_option maxHeartbeats 2000000 in
theorem i_SineTable (w : World) : Calls Try.prog 69 #[] w (OutT (fun j => sineW (share256 j)) w) := by
  go_enter Try.func69, Try.ntmps69
  go_wp2
  go_loopw [3] (fun i wr => ∃ k : Nat, k ≤ 257 ∧ i = .int .i64 k ∧ ∃ g : Nat → Nat, Hid (∀ j, j < k → can .f32 (g j) = sineW (share256 j)) ∧ Hid (Row wr (w.heap.size + 1) 87 (ftab .f32 g 257)) ∧ Hid (∃ z, Row wr w.heap.size 87 (ftab .f32 z 257)) ∧ Hid (le w wr)) (fun i _ => 257 - (intOf i).toNat)
  case atStart =>
    refine ⟨0, by omega, rfl, fun _ => 0, fun j hj => absurd hj (by omega), Row.new' _ _ _ (by simp), ⟨fun _ => 0, (Row.new w _ _).alloc _⟩, ?_⟩
    show le w _
    unfold le
    repeat' (first | (with_reducible exact Below.refl _ _) | (with_reducible assumption) | (with_reducible refine below_drewN ?_ _) | (with_reducible refine Below.alloc ?_ ?_ _) | (with_reducible refine Below.drew ?_) | (with_reducible refine Below.setCell ?_ ?_ _) | go_size)
  case round =>
    obtain ⟨k, hk, rfl, g, HG, HT, HZ, HB⟩ := hrel
    by_cases hlt : k < 257
    · go_wp2_with (first | (with_reducible refine wpList_farith (op := .quo) rfl rfl rfl rfl rfl ?_; intro s n2 hs fs) | (go_at_call 67; ((with_reducible refine (i_Sine _ _).mono ?_); rintro e w2 ⟨q, rfl, hq, hb⟩; replace hq := hid hq; replace HB := hid (le_trans (le_trans HB.out (le_drewN _ n2)) hb); have RT := HT.out.le (le_trans (le_drewN _ n2) hb); replace HZ := hid (HZ.out.imp (fun z hz => Row.le hz (le_trans (le_drewN _ n2) hb))); have cc := RT.ftab hlt; have ff := RT.frozen k; replace HT := hid RT; clear hb RT)))
      go_roundw
      case rel =>
        refine ⟨k + 1, by omega, by go_num, fun j => if j = k then q else g j, fill_step (p := fun j v => can .f32 v = sineW (share256 j)) HG.out (hq.out.trans (sineW_can (hs.out.trans (can_fop _ _ _ _).symm))), ?_, HZ.out.imp (fun z hz => hz.other _ _ (by simp)), ?_⟩
        · have := HT.out.set k (.float .f32 q)
          rw [set_ftab] at this
          exact this
        · exact Below.setCell HB.out (by simp) _
      case measure => simp [intOf]; omega
    · obtain rfl : k = 257 := by omega
      have hT := HT.out
      obtain ⟨z, hZ⟩ := HZ.out
      have hsz : (Try.prog.info? 87).map (·.size) = some (ftab .f32 g 257).size := by rw [size_ftab]; exact infoTab
      go_wp2_with (first | (with_reducible refine wpList_loadA rfl rfl rfl hT Try.underlying87 hsz ?_) | (with_reducible refine wpList_storeA rfl rfl rfl rfl hZ hsz (by rw [size_ftab, size_ftab]) (one_ftab _ _ _) ?_))
      exact bodyPost_ret (results_cell_row rfl _ _ _ _ _ (0, 0) _ rfl (hZ.setRow _) Try.underlying87 rfl hsz) rfl ⟨g, rfl, HG.out, below_setRow HB.out (Nat.le_refl _) _⟩
end Go.Proofs.Ytkjgcfmfejjdkab

/- Sines of 256ths of a turn. Nothing here names a program. -/
namespace Go.Fk
open Go Go.RowKit
def sinT : List Nat := [0, 1019808432, 1028193072, 1033283845, 1036565814, 1039839859, 1041645699, 1043271842, 1044891074, 1046502419, 1048104908, 1049136787, 1049927729, 1050712805, 1051491540, 1052263466, 1053028117, 1053785034, 1054533760, 1055273845, 1056004842, 1056726311, 1057201213, 1057551771, 1057896922, 1058236458, 1058570176, 1058897873, 1059219353, 1059534422, 1059842890, 1060144571, 1060439283, 1060726850, 1061007097, 1061279856, 1061544963, 1061802258, 1062051586, 1062292797, 1062525745, 1062750291, 1062966298, 1063173637, 1063372184, 1063561817, 1063742424, 1063913895, 1064076126, 1064229022, 1064372488, 1064506439, 1064630795, 1064745479, 1064850424, 1064945565, 1065030846, 1065106216, 1065171628, 1065227044, 1065272429, 1065307757, 1065333007, 1065348163, 1065353216, 1065348163, 1065333007, 1065307757, 1065272429, 1065227044, 1065171628, 1065106216, 1065030846, 1064945565, 1064850424, 1064745479, 1064630795, 1064506439, 1064372488, 1064229022, 1064076126, 1063913895, 1063742424, 1063561817, 1063372184, 1063173637, 1062966298, 1062750291, 1062525745, 1062292797, 1062051586, 1061802258, 1061544963, 1061279856, 1061007097, 1060726850, 1060439283, 1060144571, 1059842890, 1059534422, 1059219353, 1058897873, 1058570176, 1058236458, 1057896922, 1057551771, 1057201213, 1056726311, 1056004842, 1055273845, 1054533760, 1053785034, 1053028117, 1052263466, 1051491540, 1050712805, 1049927729, 1049136787, 1048104908, 1046502419, 1044891074, 1043271842, 1041645699, 1039839859, 1036565814, 1033283845, 1028193072, 1019808432, 2147483648, 3167292080, 3175676720, 3180767493, 3184049462, 3187323507, 3189129347, 3190755490, 3192374722, 3193986067, 3195588556, 3196620435, 3197411377, 3198196453, 3198975188, 3199747114, 3200511765, 3201268682, 3202017408, 3202757493, 3203488490, 3204209959, 3204684861, 3205035419, 3205380570, 3205720106, 3206053824, 3206381521, 3206703001, 3207018070, 3207326538, 3207628219, 3207922931, 3208210498, 3208490745, 3208763504, 3209028611, 3209285906, 3209535234, 3209776445, 3210009393, 3210233939, 3210449946, 3210657285, 3210855832, 3211045465, 3211226072, 3211397543, 3211559774, 3211712670, 3211856136, 3211990087, 3212114443, 3212229127, 3212334072, 3212429213, 3212514494, 3212589864, 3212655276, 3212710692, 3212756077, 3212791405, 3212816655, 3212831811, 3212836864, 3212831811, 3212816655, 3212791405, 3212756077, 3212710692, 3212655276, 3212589864, 3212514494, 3212429213, 3212334072, 3212229127, 3212114443, 3211990087, 3211856136, 3211712670, 3211559774, 3211397543, 3211226072, 3211045465, 3210855832, 3210657285, 3210449946, 3210233939, 3210009393, 3209776445, 3209535234, 3209285906, 3209028611, 3208763504, 3208490745, 3208210498, 3207922931, 3207628219, 3207326538, 3207018070, 3206703001, 3206381521, 3206053824, 3205720106, 3205380570, 3205035419, 3204684861, 3204209959, 3203488490, 3202757493, 3202017408, 3201268682, 3200511765, 3199747114, 3198975188, 3198196453, 3197411377, 3196620435, 3195588556, 3193986067, 3192374722, 3190755490, 3189129347, 3187323507, 3184049462, 3180767493, 3175676720, 3167292080, 0]
def sinA (n : Nat) : Nat := sinT.getD n 0
end Go.Fk

/- Sines, a quarter of them. Nothing here names a program. -/
namespace Go.Fk
open Go Go.RowKit
set_option maxRecDepth 100000 in
theorem sinA_0 : ∀ n : Fin 65, (sineW (share256 (n + 0)) == sinA (n + 0)) = true := by decide +kernel
end Go.Fk

/- Sines, a quarter of them. Nothing here names a program. -/
namespace Go.Fk
open Go Go.RowKit
set_option maxRecDepth 100000 in
theorem sinA_1 : ∀ n : Fin 65, (sineW (share256 (n + 65)) == sinA (n + 65)) = true := by decide +kernel
end Go.Fk

/- Sines, a quarter of them. Nothing here names a program. -/
namespace Go.Fk
open Go Go.RowKit
set_option maxRecDepth 100000 in
theorem sinA_2 : ∀ n : Fin 65, (sineW (share256 (n + 130)) == sinA (n + 130)) = true := by decide +kernel
end Go.Fk

/- Sines, a quarter of them. Nothing here names a program. -/
namespace Go.Fk
open Go Go.RowKit
set_option maxRecDepth 100000 in
theorem sinA_3 : ∀ n : Fin 62, (sineW (share256 (n + 195)) == sinA (n + 195)) = true := by decide +kernel
end Go.Fk

/- What math.Float32bits and math.Float32frombits give. -/
namespace Go.Proofs.Ytkjgcfmfejjdkab
open Go.RowKit Go.Fk

@[go_sem] theorem run_f32bits (x : Nat) (w : World) : (callFunc 114 #[.float .f32 x]).run Try.prog w = .ok (.value (.int .u32 x)) w := by
  rw [run_callFunc_extern (e := Extern.MathFloatBits.float32bits) Try.func114 (by kernel_rfl) (by kernel_rfl) (by kernel_rfl) (by kernel_rfl)]; rfl
end Go.Proofs.Ytkjgcfmfejjdkab

/- 'isNaN', 'bitsOf', 'SameSample' and their like in the model. -/
namespace Go.Proofs.Ytkjgcfmfejjdkab
open Go.RowKit Go.Fk

theorem i_isNaN (x : Nat) (w : World) : Calls Try.prog 112 #[.float .f32 x] w fun e w' => e = .returned (.bool (isNan .f32 x)) ∧ w = w' := by
  go_enter Try.func112, Try.ntmps112
  go_wp2
  go_ret
  exact ⟨rfl, rfl⟩
theorem s_l01NaN (x : Nat) (w : World) : Calls Try.prog 172 #[.float .f32 x] w fun e w' => e = .returned (.bool (isNan .f32 x)) ∧ w = w' := by
  go_enter Try.func172, Try.ntmps172
  go_wp2
  go_ret
  exact ⟨rfl, rfl⟩
theorem i_bitsOf (x : Nat) (w : World) : Calls Try.prog 115 #[.float .f32 x] w fun e w' => e = .returned (.int .u32 (can .f32 x)) ∧ w = w' := by
  cases h : isNan .f32 x
  all_goals
    go_enter Try.func115, Try.ntmps115
    go_wp2_with (go_at_call 112; refine (i_isNaN _ _).mono ?_; rintro e w' ⟨rfl, rfl⟩)
    go_ret
  · exact ⟨ret_i (by rw [can_of_not h]), rfl⟩
  · exact ⟨ret_i (by rw [can_of_nan h]; rfl), rfl⟩
theorem i_SameSample (x y : Nat) (w : World) : Calls Try.prog 66 #[.float .f32 x, .float .f32 y] w fun e w' => e = .returned (.bool (sameB x y)) ∧ w = w' := by
  go_enter Try.func66, Try.ntmps66
  go_wp2_with (go_at_call 115; refine (i_bitsOf _ _).mono ?_; rintro e w' ⟨rfl, rfl⟩)
  go_ret
  exact ⟨rfl, rfl⟩
theorem s_l01Same (x y : Nat) (w : World) : Calls Try.prog 157 #[.float .f32 x, .float .f32 y] w fun e w' => e = .returned (.bool (sameB x y)) ∧ w = w' := by
  cases h : isNan .f32 x <;> cases h2 : isNan .f32 y
  all_goals
    go_enter Try.func157, Try.ntmps157
    go_wp2_with (go_at_call 172; refine (s_l01NaN _ _).mono ?_; rintro e w' ⟨rfl, rfl⟩)
    go_ret
  · exact ⟨ret_b (sameB_num h h2).symm, rfl⟩
  · exact ⟨ret_b (sameB_mix (by rw [h, h2]; simp)).symm, rfl⟩
  · exact ⟨ret_b (sameB_mix (by rw [h, h2]; simp)).symm, rfl⟩
  · exact ⟨ret_b (sameB_nan h h2).symm, rfl⟩
end Go.Proofs.Ytkjgcfmfejjdkab

/- The place in a table: a number of 0 to 1, times 256, and its integer. Nothing here names a program. -/
namespace Go.Fk
open Go Go.RowKit
def one32 : Int := 2 ^ unitOf .f32
theorem one32_pos : 0 < one32 := Int.pow_pos (by omega)
theorem far32 : 9223372036854775807 * one32 < (far : Int) := by decide +kernel
theorem far32' : -(far : Int) < -9223372036854775808 * one32 := by decide +kernel
theorem val_one : val .f32 1065353216 = one32 ∧ isNan .f32 1065353216 = false := by decide +kernel
theorem val_zero : val .f32 0 = 0 ∧ isNan .f32 0 = false := by decide +kernel
/-- A narrow float to an integer of 64 bits. -/
theorem floatToInt_val32 {b : Nat} (hn : isNan .f32 b = false) (hlo : -9223372036854775808 * one32 ≤ val .f32 b) (hhi : val .f32 b ≤ 9223372036854775807 * one32) :
    floatToIntVal .f32 b .i64 = some ((val .f32 b).tdiv one32) := by
  have hsmall := far32
  have hsmall' := far32'
  cases hr : FloatKind.f32.format.read b with
  | nan s t => simp [isNan, hr, Ieee.Datum.isNaN] at hn
  | infinity s =>
    have hv : val .f32 b = if s then -(far : Int) else far := by simp only [val, hr]
    rw [hv] at hlo hhi
    generalize (far : Int) = big at *
    cases s <;> simp at hlo hhi <;> omega
  | number s m e =>
    have ht := toInt_val hr
    unfold floatToIntVal
    rw [ht]
    have hU := one32_pos
    rw [show (2 : Int) ^ unitOf .f32 = one32 from rfl]
    generalize one32 = U at *
    generalize val .f32 b = v at *
    have h1 : IntKind.i64.min ≤ v.tdiv U := by
      have : IntKind.i64.min = (-9223372036854775808 * U).tdiv U := (Int.mul_tdiv_cancel _ (by omega)).symm
      rw [this]; exact Int.tdiv_le_tdiv hU hlo
    have h2 : v.tdiv U ≤ IntKind.i64.max := by
      have : IntKind.i64.max = (9223372036854775807 * U).tdiv U := (Int.mul_tdiv_cancel _ (by omega)).symm
      rw [this]; exact Int.tdiv_le_tdiv hU hhi
    simp only [h1, h2, and_self, if_true]
theorem val_nearest32 {s : Bool} {m : Nat} {e : Int} (hm : m ≠ 0) (hp : m.log2 ≤ 23) (he : -149 ≤ e) (ho : e + m.log2 ≤ 127) :
    val .f32 (FloatKind.f32.format.nearest s m e) = Ieee.signed s m (e + 149).toNat := by
  obtain ⟨b1, b2, b3, b4, b5⟩ := bits32
  obtain ⟨h5, _⟩ := read_nearest FloatKind.f32.format s m e hm (by omega) (by omega) (by rw [b1, b2, b3]; omega) (by omega)
  have h1 : lastOf FloatKind.f32.format m e ≤ e := by unfold lastOf; omega
  have h2 : -149 ≤ lastOf FloatKind.f32.format m e := by unfold lastOf; omega
  simp only [val, h5]
  rw [signed_eq, signed_eq]
  have hu : ((unitOf .f32 : Nat) : Int) = 149 := rfl
  rw [hu]
  generalize lastOf FloatKind.f32.format m e = last at *
  have e1 : (2 : Int) ^ (e + 149).toNat = 2 ^ (e - last).toNat * 2 ^ (last + 149).toNat := by
    rw [← Int.pow_add]; congr 1; omega
  rw [e1, Int.natCast_mul, Int.natCast_pow]
  cases s
  · simp [Int.mul_assoc]
  · simp [Int.mul_assoc, Int.neg_mul]
/-- The place of a number in a table. -/
def placeW (x : Nat) : Nat := fop .mul .f32 x 1132462080
def inUnit (x : Nat) : Bool := (FloatKind.f32.format.order x 0 == some .gt || FloatKind.f32.format.order x 0 == some .eq) && (FloatKind.f32.format.order x 1065353216 == some .lt || FloatKind.f32.format.order x 1065353216 == some .eq)
theorem inUnit_val {x : Nat} (h : inUnit x = true) : isNan .f32 x = false ∧ 0 ≤ val .f32 x ∧ val .f32 x ≤ one32 := by
  cases hn : isNan .f32 x
  · have h0 := order_val hn val_zero.2
    have h1 := order_val hn val_one.2
    unfold inUnit at h
    rw [h0, h1, val_zero.1, val_one.1] at h
    generalize one32 = U at *
    generalize val .f32 x = v at *
    refine ⟨rfl, ?_, ?_⟩
    · rcases Int.lt_trichotomy v 0 with c | c | c
      · rw [Int.compare_eq_lt.2 c] at h; simp at h
      · omega
      · omega
    · rcases Int.lt_trichotomy v U with c | c | c
      · omega
      · omega
      · rw [Int.compare_eq_gt.2 c] at h; simp at h
  · unfold inUnit at h
    rw [order_of_nan_l hn] at h
    simp at h
theorem place_val {x : Nat} (h : inUnit x = true) : isNan .f32 (placeW x) = false ∧ val .f32 (placeW x) = val .f32 x * 256 := by
  obtain ⟨hn, h0, h1⟩ := inUnit_val h
  have hc : FloatKind.f32.format.read 1132462080 = .number false 8388608 (-15) := by decide
  have hf := far32
  have hU := one32_pos
  cases hr : FloatKind.f32.format.read x with
  | nan s t => simp [isNan, hr, Ieee.Datum.isNaN] at hn
  | infinity s =>
    have hv : val .f32 x = if s then -(far : Int) else far := by simp only [val, hr]
    rw [hv] at h0 h1
    generalize (far : Int) = big at *
    cases s <;> simp at h0 h1 <;> omega
  | number s m e =>
    obtain ⟨he, hm⟩ := read32 hr
    have hb : floatBits .mul .f32 x 1132462080 = some (FloatKind.f32.format.nearest s m (e + 8)) := by
      have : floatBits .mul .f32 x 1132462080 = some (FloatKind.f32.format.nearest (s ^^ false) (m * 2 ^ 23) (e + -15)) := by
        simp only [floatBits, Ieee.Format.mul, hr, hc]; rfl
      rw [this, Bool.xor_false, ← nearest_scale _ s m 23 (e + 8), show e + 8 - ((23 : Nat) : Int) = e + -15 by omega]
    have hp : placeW x = FloatKind.f32.format.nearest s m (e + 8) := by
      unfold placeW fop
      rw [hb]
      exact can_of_not (isNan_nearest .f32 s m (e + 8))
    refine ⟨by rw [hp]; exact isNan_nearest .f32 s m (e + 8), ?_⟩
    have hv : val .f32 x = Ieee.signed s m (e + 149).toNat := by simp only [val, hr]; rfl
    rw [hp, hv]
    by_cases m0 : m = 0
    · subst m0
      have : FloatKind.f32.format.nearest s 0 (e + 8) = FloatKind.f32.format.word s 0 := by simp [Ieee.Format.nearest]
      rw [this, signed_eq]
      cases s <;> simp <;> decide
    · obtain ⟨hl, _⟩ := hm m0
      have hle : e + m.log2 ≤ 0 := by
        rw [hv, signed_eq] at h0 h1
        have hs : s = false := by
          cases s
          · rfl
          · simp only [if_true, Int.neg_mul] at h0
            have : 0 < (m : Int) * 2 ^ (e + 149).toNat := Int.mul_pos (by omega) (Int.pow_pos (by omega))
            omega
        subst hs
        simp only [Bool.false_eq_true, if_false] at h1
        have h2 : m * 2 ^ (e + 149).toNat ≤ 2 ^ 149 := by
          have h3 : ((m * 2 ^ (e + 149).toNat : Nat) : Int) ≤ ((2 ^ 149 : Nat) : Int) := by
            rw [Int.natCast_mul, Int.natCast_pow, Int.natCast_pow]; exact h1
          exact_mod_cast h3
        have h4 : 2 ^ (m.log2 + (e + 149).toNat) ≤ 2 ^ 149 := by
          rw [Nat.pow_add]
          exact Nat.le_trans (Nat.mul_le_mul_right _ (Nat.log2_self_le m0)) h2
        have h5 := (Nat.pow_le_pow_iff_right (a := 2) (by omega)).1 h4
        omega
      rw [val_nearest32 m0 hl (by omega) (by omega), signed_eq, signed_eq, show (e + 8 + 149).toNat = (e + 149).toNat + 8 by omega, Int.pow_add, Int.mul_assoc]
      rfl
/-- The index of a place. -/
def indexW (x : Nat) : Nat := ((val .f32 x * 256).tdiv one32).toNat
theorem place_int {x p : Nat} (h : inUnit x = true) (hp : can .f32 p = placeW x) : isNan .f32 p = false ∧ floatToIntVal .f32 p .i64 = some (indexW x : Int) ∧ indexW x ≤ 256 := by
  obtain ⟨hn, h0, h1⟩ := inUnit_val h
  obtain ⟨hn2, hv⟩ := place_val h
  have hpn : isNan .f32 p = false := by
    have := isNan_of_can (hp.trans (by unfold placeW; exact (can_fop _ _ _ _).symm) : can .f32 p = can .f32 (placeW x))
    rw [this, hn2]
  have e : p = placeW x := by rw [← can_of_not hpn, hp]
  have hU := one32_pos
  refine ⟨hpn, ?_, ?_⟩
  · rw [e, floatToInt_val32 hn2 (by rw [hv]; generalize one32 = U at *; omega) (by rw [hv]; generalize one32 = U at *; omega), hv]
    unfold indexW
    generalize one32 = U at *
    have : 0 ≤ (val .f32 x * 256).tdiv U := Int.tdiv_nonneg (by omega) (by omega)
    rw [Int.toNat_of_nonneg this]
  · unfold indexW
    generalize one32 = U at *
    have : (val .f32 x * 256).tdiv U ≤ (256 * U).tdiv U := Int.tdiv_le_tdiv hU (by omega)
    rw [Int.mul_tdiv_cancel _ (by omega)] at this
    omega
end Go.Fk

/- What the sines of 256ths of a turn are like. Nothing here names a program. -/
namespace Go.Fk
open Go Go.RowKit
theorem sinA_eq {n : Nat} (h : n ≤ 256) : sineW (share256 n) = sinA n := by
  by_cases h0 : n < 65
  · have := sinA_0 ⟨n, h0⟩; simpa using this
  by_cases h1 : n < 130
  · have := sinA_1 ⟨n - 65, by omega⟩
    simp only [show n - 65 + 65 = n by omega] at this; simpa using this
  by_cases h2 : n < 195
  · have := sinA_2 ⟨n - 130, by omega⟩
    simp only [show n - 130 + 130 = n by omega] at this; simpa using this
  · have := sinA_3 ⟨n - 195, by omega⟩
    simp only [show n - 195 + 195 = n by omega] at this; simpa using this
theorem sineW_congr {x y : Nat} (hf : fin x = fin y) (h : frS x = frS y) : sineW x = sineW y := by
  unfold sineW
  rw [hf]
  split
  · have e1 : negS x = negS y := by unfold negS; rw [h]
    have e2 : f1S x = f1S y := by unfold f1S; rw [e1, h]
    have e3 : f2S x = f2S y := by unfold f2S; rw [e2]
    have e4 : xS x = xS y := by unfold xS; rw [e3]
    have e5 : yS x = yS y := by unfold yS; rw [e4]
    have e6 : ∀ k, tS x k = tS y k := by
      intro k
      induction k with
      | zero => rfl
      | succ k ih => simp only [tS, e5, ih]
    have e7 : sS x = sS y := by unfold sS; rw [e6, e4]
    have e8 : sgS x = sgS y := by unfold sgS; rw [e1, e7]
    rw [e8]
  · rfl
def oEq (a b : Nat) : Bool := FloatKind.f32.format.order a b == some .eq
def chkX (n : Nat) : Bool := !isNan .f32 (share256 n) && fin (share256 n) && (share256 n == can .f32 (share256 n))
def upK (n k : Nat) : Nat := fop .add .f32 (share256 n) (floatOfInt .f32 ((k : Int) - 4))
def chkK (n k : Nat) : Bool := !isNan .f32 (upK n k) && fin (upK n k) && (frS (upK n k) == frS (share256 n))
def dnN (n : Nat) : Nat := fop .sub .f32 1065353216 (share256 n)
def upQ (n : Nat) : Nat := fop .add .f32 (share256 n) 1048576000
def chkQ (n : Nat) : Bool := (dnN n == share256 (256 - n)) && !isNan .f32 (upQ n) && fin (upQ n) && (frS (upQ n) == frS (share256 ((n + 64) % 256)))
def eN (n : Nat) : Nat := fop .sub .f32 (fop .add .f32 (fop .mul .f32 (sinA n) (sinA n)) (fop .mul .f32 (sinA ((n + 64) % 256)) (sinA ((n + 64) % 256)))) 1065353216
def vN (n : Nat) : Nat := fop .add .f32 (sinA n) (fop .mul .f32 (fop .sub .f32 (sinA (n + 1)) (sinA n)) (fop .sub .f32 (placeW (share256 n)) (floatOfInt .f32 (n : Int))))
def chkA (n : Nat) : Bool := !isNan .f32 (sinA n) && !(FloatKind.f32.format.order (sinA n) 1065353216 == some .gt) && !(FloatKind.f32.format.order (sinA n) 3212836864 == some .lt) && oEq (sinA n) (sinA n) && oEq (sinA (256 - n)) (neg .f32 (sinA n))
def chkE (n : Nat) : Bool := !isNan .f32 (fop .mul .f32 (sinA n) (sinA n)) && !isNan .f32 (fop .add .f32 (fop .mul .f32 (sinA n) (sinA n)) (fop .mul .f32 (sinA ((n + 64) % 256)) (sinA ((n + 64) % 256)))) && !isNan .f32 (eN n) && !(FloatKind.f32.format.order (eN n) 897988541 == some .gt) && !(FloatKind.f32.format.order (eN n) 3045472189 == some .lt)
def chkV (n : Nat) : Bool := inUnit (share256 n) && (indexW (share256 n) == n) && !isNan .f32 (vN n) && oEq (vN n) (sinA n)
set_option maxRecDepth 100000 in
theorem chkX_all : ∀ n : Fin 257, chkX n = true := by decide +kernel
set_option maxRecDepth 100000 in
theorem chkK_all : ∀ n : Fin 256, ∀ k : Fin 9, chkK n k = true := by decide +kernel
set_option maxRecDepth 100000 in
theorem chkQ_all : ∀ n : Fin 256, chkQ n = true := by decide +kernel
set_option maxRecDepth 100000 in
theorem chkA_all : ∀ n : Fin 257, chkA n = true := by decide +kernel
set_option maxRecDepth 100000 in
theorem chkE_all : ∀ n : Fin 256, chkE n = true := by decide +kernel
set_option maxRecDepth 100000 in
theorem chkV_all : ∀ n : Fin 256, chkV n = true := by decide +kernel
end Go.Fk

/- The contracts of 'NextNoise'. -/
namespace Go.Fk
open Go Go.RowKit
def nextOf (s : Int) : Int := (1974033781 * s + 907633385) % 4294967296
def noiseOf (s : Int) : Nat := fop .quo .f32 (floatOfInt .f32 (nextOf s / 256 - 8388608)) 1258291200
def OutNz (s : Int) (w : World) (e : Ending) (w' : World) : Prop := ∃ r n, e = .returned (.tuple #[.float .f32 r, .int .u32 (nextOf s)]) ∧ can .f32 r = noiseOf s ∧ fits .f32 r ∧ w' = w.drewN n
theorem nextOf_range (s : Int) : 0 ≤ nextOf s ∧ nextOf s < 4294967296 := by unfold nextOf; omega
end Go.Fk
namespace Go.Proofs.Ytkjgcfmfejjdkab
open Go.RowKit Go.Fk
theorem i_NextNoise (s : Int) (w : World) (h0 : 0 ≤ s) (h1 : s < 4294967296) : Calls Try.prog 72 #[.int .u32 s] w (OutNz s w) := by
  go_enter Try.func72, Try.ntmps72
  go_wp2_with (with_reducible refine wpList_farith rfl rfl rfl rfl rfl ?_; intro r n hr hf)
  go_ret2
  exact ⟨r, n, rfl, hr.out, hf.out, rfl⟩
end Go.Proofs.Ytkjgcfmfejjdkab
