/- Rings in the laws' helpers, over facts of memory. -/
import Derived.Test.YtaenbpkcehenkacHS
import Derived.Test.YtaenbpkcehenkacRingV
namespace Go.Fk
open Go Go.RowKit
theorem RdS.uniq {w : World} {B B' : Nat} {s : Value} {x x' : Nat → Nat} {n n' : Nat} (h : RdS w B s x n) (h' : RdS w B' s x' n') : n = n' ∧ ∀ i, i < n → x i = x' i := by
  rcases h with ⟨rfl, rfl⟩ | ⟨a, cap, rfl, _, _, h3⟩ <;> rcases h' with ⟨e, rfl⟩ | ⟨a', cap', e, _, _, h3'⟩
  · exact ⟨rfl, fun i hi => absurd hi (by omega)⟩
  · cases e
  · cases e
  · simp only [Value.slice.injEq, Option.some.injEq] at e
    obtain ⟨rfl, e2, rfl⟩ := e
    have e3 : n = n' := by omega
    subst e3
    refine ⟨rfl, fun i hi => ?_⟩
    obtain ⟨_, y, e1, _, e2⟩ := h3 i hi
    obtain ⟨_, y', e1', _, e2'⟩ := h3' i hi
    rw [e1] at e1'
    simp only [Option.some.injEq, Value.float.injEq, true_and] at e1'
    rw [← e2, ← e2', e1']
/-- What a copy of a ring is, whatever is known of it. -/
def KRing (w0 : World) (args : Array Value) (w : World) (v : Value) : Prop := ∀ s k B x n, args = #[.agg #[s, .int .i64 k]] → RdS w0 B s x n → ∃ s' B', v = .agg #[s', .int .i64 k] ∧ RdS w B' s' x n
theorem KRing.le {w0 w w' : World} {args : Array Value} {v : Value} (h : KRing w0 args w v) (hl : Fk.le w w') : KRing w0 args w' v := fun s k B x n e hr => by
  obtain ⟨s', B', e1, e2⟩ := h s k B x n e hr
  exact ⟨s', B', e1, e2.le hl⟩
end Go.Fk
namespace Go.Proofs.Ytaenbpkcehenkac
open Go.RowKit Go.Fk
theorem szRingRM_no (B : Nat) (s : Value) (x : Nat → Nat) (n : Nat) (k m : Int) (w : World) (hs : RdS w B s x n) (h0 : 0 ≤ m) (h1 : m ≤ 1048576) (hm : m - (n : Int) < 0) :
    Calls Try.prog 62 #[.agg #[s, .int .i64 k], .int .i64 m] w fun e w' => e = .returned (.int .i64 (-1)) ∧ le w w' := by
  obtain ⟨y, hy, _⟩ := hs.slIn
  have HS := hid (hy.le (le_alloc w (.cells #[s, .int .i64 k] 37)))
  have HN := hid hs.small
  have HL := hid (le_alloc w (.cells #[s, .int .i64 k] 37))
  clear hs hy
  go_enter Try.func62, Try.ntmps62
  go_wp2_with (go_at_call 96; ((with_reducible refine (szS_no s y n m _ HS.out h0 h1 HN.out hm).mono ?_); rintro e w2 ⟨rfl, rfl⟩))
  go_ret
  exact ⟨rfl, HL.out⟩
theorem szRingRM_yes (B : Nat) (s : Value) (x : Nat → Nat) (n : Nat) (k m : Int) (w : World) (hs : RdS w B s x n) (h0 : 0 ≤ m) (h1 : m ≤ 1048576) (hm : 0 ≤ m - (n : Int)) :
    Calls Try.prog 62 #[.agg #[s, .int .i64 k], .int .i64 m] w fun e w' => e = .returned (.int .i64 (m - n)) ∧ le w w' := by
  obtain ⟨y, hy, _⟩ := hs.slIn
  have HS := hid (hy.le (le_alloc w (.cells #[s, .int .i64 k] 37)))
  have HN := hid hs.small
  have HL := hid (le_alloc w (.cells #[s, .int .i64 k] 37))
  have hm' : ¬ m - (n : Int) < 0 := by omega
  clear hs hy
  go_enter Try.func62, Try.ntmps62
  go_wp2_with (go_at_call 96; ((with_reducible refine (szS_yes s y n m _ HS.out h0 h1 HN.out hm).mono ?_); rintro e w2 ⟨rfl, rfl⟩))
  go_ret
  exact ⟨rfl, HL.out⟩
theorem szRingR_no (B : Nat) (s : Value) (x : Nat → Nat) (n : Nat) (k : Int) (w : World) (hs : RdS w B s x n) (hn : ¬ n ≤ 1048576) :
    Calls Try.prog 62 #[.agg #[s, .int .i64 k], .int .i64 1048576] w fun e w' => e = .returned (.int .i64 (-1)) ∧ le w w' := szRingRM_no B s x n k 1048576 w hs (by omega) (by omega) (by omega)
theorem szRingR_yes (B : Nat) (s : Value) (x : Nat → Nat) (n : Nat) (k : Int) (w : World) (hs : RdS w B s x n) (hn : n ≤ 1048576) :
    Calls Try.prog 62 #[.agg #[s, .int .i64 k], .int .i64 1048576] w fun e w' => e = .returned (.int .i64 (1048576 - n)) ∧ le w w' := szRingRM_yes B s x n k 1048576 w hs (by omega) (by omega) (by omega)
theorem toRingR (B : Nat) (s : Value) (x : Nat → Nat) (n : Nat) (k : Int) (w : World) (hs : RdS w B s x n) (hn : n ≤ 1048576) :
    Calls Try.prog 64 #[.agg #[s, .int .i64 k]] w fun e w' => ∃ s', e = .returned (.agg #[s', .int .i64 k]) ∧ OwnS w' w.heap.size w'.heap.size s' x n ∧ le w w' := by
  obtain ⟨y, hy, hc⟩ := hs.slIn
  have hf : ∀ i, i < n → fits .f32 (y i) := by
    rcases hy with ⟨_, rfl⟩ | ⟨a, cap, _, _, _, h4⟩
    · intro i hi; omega
    · intro i hi; exact (h4 i hi).2
  refine (toRing_any s y n k w hy hn).mono ?_
  rintro e w' ⟨b, rfl, hb, ⟨t, hr⟩, hl⟩
  exact ⟨_, rfl, .inr ⟨b, 0, n, t, _, rfl, Nat.le_refl _, by unfold maxLen; omega, hb, hr.lt, hr, fun i hi => ⟨y i, by rw [Nat.zero_add]; exact get_ftab _ _ _ _ hi, hf i hi, hc i hi⟩⟩, hl⟩
theorem toRingK (w0 : World) (B : Nat) (s : Value) (x : Nat → Nat) (n : Nat) (k : Int) (w : World) (hl : le w0 w) (hs : RdS w0 B s x n) (hn : n ≤ 1048576) :
    Calls Try.prog 64 #[.agg #[s, .int .i64 k]] w fun e w' => ∃ v, e = .returned v ∧ le w w' ∧ KRing w0 #[.agg #[s, .int .i64 k]] w' v := by
  refine (toRingR B s x n k w (hs.le hl) hn).mono ?_
  rintro e w' ⟨s', rfl, ho, hl'⟩
  refine ⟨_, rfl, hl', fun s2 k2 B2 x2 n2 e2 hr => ?_⟩
  simp only [Array.mk.injEq, List.cons.injEq, Value.agg.injEq, Value.int.injEq, true_and, and_true] at e2
  obtain ⟨rfl, rfl⟩ := e2
  obtain ⟨rfl, hx⟩ := hs.uniq hr
  exact ⟨s', _, rfl, ho.rd.congr hx⟩
theorem eqRingR (B B' : Nat) (s s' : Value) (x : Nat → Nat) (n : Nat) (k : Int) (w : World) (hn : n ≤ 1048576) (hs : RdS w B s x n) (hs' : RdS w B' s' x n) :
    Calls Try.prog 58 #[.agg #[s, .int .i64 k], .agg #[s', .int .i64 k]] w fun e w' => e = .returned (.bool true) ∧ le w w' := by
  have HS := hid hs; have HS' := hid hs'; clear hs hs'
  have F := ((Frg.nil w).box 25 #[s, .int .i64 k]).box 25 #[s', .int .i64 k]
  have HL := hid F.below
  clear F
  go_enter Try.func58, Try.ntmps58
  go_wp2_with (go_at_call 31; ((with_reducible refine (eqR B B' s s' x n _ hn (HS.out.le HL.out) (HS'.out.le HL.out)).mono ?_); rintro e w2 ⟨rfl, m, rfl⟩))
  go_ret
  exact ⟨rfl, le_trans HL.out (le_drewN _ _)⟩
theorem markRingR (lo hi : Nat) (s : Value) (x : Nat → Nat) (n : Nat) (k z : Int) (w : World) (hn : n ≤ 1048576) (hz : 0 ≤ z) (hz2 : z ≤ 1073741824) (hs : OwnS w lo hi s x n) :
    Calls Try.prog 60 #[.agg #[s, .int .i64 k], .int .i64 z] w fun e w' => e = .returned (.int .i64 (z + n)) ∧ OwnS w' lo hi s (markW z) n ∧ Chg (rng lo hi) w w' := by
  have HS := hid (hs.le (le_alloc w (.cells #[s, .int .i64 k] 25))); clear hs
  have HL := hid (le_alloc w (.cells #[s, .int .i64 k] 25))
  go_enter Try.func60, Try.ntmps60
  go_wp2_with (go_at_call 32; ((with_reducible refine (markR lo hi s x n z _ hn hz hz2 HS.out).mono ?_); rintro e w2 ⟨rfl, hR, hU, _⟩; have HR2 := hid hR; have HU := hid (Chg.trans (Chg.of_le HL.out) hU); clear hR hU))
  go_ret
  exact ⟨rfl, HR2.out, HU.out⟩
theorem heldRingR (B : Nat) (s : Value) (n : Nat) (k z : Int) (w : World) (hn : n ≤ 1048576) (hz : 0 ≤ z) (hz2 : z ≤ 1073741824) (hs : RdS w B s (markW z) n) :
    Calls Try.prog 61 #[.agg #[s, .int .i64 k], .int .i64 z] w fun e w' => e = .returned (.int .i64 (z + n)) ∧ le w w' := by
  have HS := hid (hs.le (le_alloc w (.cells #[s, .int .i64 k] 25))); clear hs
  have HL := hid (le_alloc w (.cells #[s, .int .i64 k] 25))
  have hz3 : ¬ (z + (n : Int) < 0) := by omega
  go_enter Try.func61, Try.ntmps61
  go_wp2_with (go_at_call 40; ((with_reducible refine (heldR B s n z _ hn hz hz2 HS.out).mono ?_); rintro e w2 ⟨rfl, rfl⟩))
  go_ret
  exact ⟨rfl, HL.out⟩
end Go.Proofs.Ytaenbpkcehenkac
