/- Texts of the walk, laid in one file. -/
import Derived.LoopN
import Derived.Test.YthjdklolbkhbfaaRows
import Derived.Handy
import Derived.Test.YthjdklolbkhbfaaMc
set_option linter.unusedVariables false
set_option linter.unusedSimpArgs false
/- The laws' helpers for Pipe, over trees of data. -/
namespace Go.Proofs.Ythjdklolbkhbfaa
open Go.RowKit Go.Fk
theorem invf_Pipe {w : World} {S : Nat → Prop} {us : List Value} (n0 : Nat) (x0 : Nat → CD) (n1 : Nat) (x1 : Nat → CD) (n2 : Nat) (x2 : Nat → CD) (z3 : Int) (c4 : CD) (c5 : CD) (c6 : CD) (c7 : CD) (c8 : CD) (b9 : Bool) (c10 : CD) (c11 : CD) (c12 : CD) (q4 : c4.flk = some .f32) (q5 : c5.flk = some .f32) (q6 : c6.flk = some .f32) (q7 : c7.flk = some .f32) (q8 : c8.flk = some .f32) (q10 : c10.flk = some .f32) (q11 : c11.flk = some .f32) (q12 : c12.flk = some .f32) (h : LayL w S (([(.sl 2 n0 x0), (.sl 2 n1 x1), (.sl 1 n2 x2), (.int .i64 z3), (c4), (c5), (c6), (c7), (c8), (.bool b9), (c10), (c11), (c12)] : List CD).map CD.cp) us) : ∃ (u0 : Value) (u1 : Value) (u2 : Value) (g4 : Nat) (g5 : Nat) (g6 : Nat) (g7 : Nat) (g8 : Nat) (g10 : Nat) (g11 : Nat) (g12 : Nat), u0.oneCell' = true ∧ u1.oneCell' = true ∧ u2.oneCell' = true ∧ us = [u0, u1, u2, .int .i64 z3, .float .f32 g4, .float .f32 g5, .float .f32 g6, .float .f32 g7, .float .f32 g8, .bool b9, .float .f32 g10, .float .f32 g11, .float .f32 g12] ∧ LayL w S (([(.sl 2 n0 x0), (.sl 2 n1 x1), (.sl 1 n2 x2), (.int .i64 z3), (c4), (c5), (c6), (c7), (c8), (.bool b9), (c10), (c11), (c12)] : List CD).map CD.cp) [u0, u1, u2, .int .i64 z3, .float .f32 g4, .float .f32 g5, .float .f32 g6, .float .f32 g7, .float .f32 g8, .bool b9, .float .f32 g10, .float .f32 g11, .float .f32 g12] := by
  have h0 := h
  simp only [List.map_cons, List.map_nil] at h
  obtain ⟨u0, us0, _, _, rfl, l0, hh0, _, _, _⟩ := h.inv
  obtain ⟨u1, us1, _, _, rfl, l1, hh1, _, _, _⟩ := hh0.inv
  obtain ⟨u2, us2, _, _, rfl, l2, hh2, _, _, _⟩ := hh1.inv
  obtain ⟨u3, us3, _, _, rfl, l3, hh3, _, _, _⟩ := hh2.inv
  obtain ⟨rfl, _⟩ := l3
  obtain ⟨u4, us4, _, _, rfl, l4, hh4, _, _, _⟩ := hh3.inv
  obtain ⟨g4, rfl⟩ := lay_fl q4 l4
  obtain ⟨u5, us5, _, _, rfl, l5, hh5, _, _, _⟩ := hh4.inv
  obtain ⟨g5, rfl⟩ := lay_fl q5 l5
  obtain ⟨u6, us6, _, _, rfl, l6, hh6, _, _, _⟩ := hh5.inv
  obtain ⟨g6, rfl⟩ := lay_fl q6 l6
  obtain ⟨u7, us7, _, _, rfl, l7, hh7, _, _, _⟩ := hh6.inv
  obtain ⟨g7, rfl⟩ := lay_fl q7 l7
  obtain ⟨u8, us8, _, _, rfl, l8, hh8, _, _, _⟩ := hh7.inv
  obtain ⟨g8, rfl⟩ := lay_fl q8 l8
  obtain ⟨u9, us9, _, _, rfl, l9, hh9, _, _, _⟩ := hh8.inv
  obtain rfl := l9
  obtain ⟨u10, us10, _, _, rfl, l10, hh10, _, _, _⟩ := hh9.inv
  obtain ⟨g10, rfl⟩ := lay_fl q10 l10
  obtain ⟨u11, us11, _, _, rfl, l11, hh11, _, _, _⟩ := hh10.inv
  obtain ⟨g11, rfl⟩ := lay_fl q11 l11
  obtain ⟨u12, us12, _, _, rfl, l12, hh12, _, _, _⟩ := hh11.inv
  obtain ⟨g12, rfl⟩ := lay_fl q12 l12
  obtain rfl := hh12.inv0
  exact ⟨u0, u1, u2, g4, g5, g6, g7, g8, g10, g11, g12, l0.one, l1.one, l2.one, rfl, h0⟩
end Go.Proofs.Ythjdklolbkhbfaa

/- Rings in the laws' helpers, over facts of memory. -/
namespace Go.Fk
open Go Go.RowKit
theorem RdS.uniq {w : World} {B B' : Nat} {s : Value} {x x' : Nat → Nat} {n n' : Nat} (h : RdS w B s x n) (h' : RdS w B' s x' n') : n = n' ∧ ∀ i, i < n → x i = x' i := by
  rcases h with ⟨rfl, rfl⟩ | ⟨a, cap, rfl, _, _, h3⟩ <;> rcases h' with ⟨e, rfl⟩ | ⟨a', cap', e, _, _, h3'⟩
  · exact ⟨rfl, fun i hi => absurd hi (by omega)⟩
  · cases e
  · cases e
  · simp only [Value.slice.injEq, Option.some.injEq] at e
    obtain ⟨rfl, e2, rfl⟩ := e
    have e3 : n = n' := by omega
    subst e3
    refine ⟨rfl, fun i hi => ?_⟩
    obtain ⟨_, y, e1, _, e2⟩ := h3 i hi
    obtain ⟨_, y', e1', _, e2'⟩ := h3' i hi
    rw [e1] at e1'
    simp only [Option.some.injEq, Value.float.injEq, true_and] at e1'
    rw [← e2, ← e2', e1']
/-- What a copy of a ring is, whatever is known of it. -/
def KRing (w0 : World) (args : Array Value) (w : World) (v : Value) : Prop := ∀ s k B x n, args = #[.agg #[s, .int .i64 k]] → RdS w0 B s x n → ∃ s' B', v = .agg #[s', .int .i64 k] ∧ RdS w B' s' x n
theorem KRing.le {w0 w w' : World} {args : Array Value} {v : Value} (h : KRing w0 args w v) (hl : Fk.le w w') : KRing w0 args w' v := fun s k B x n e hr => by
  obtain ⟨s', B', e1, e2⟩ := h s k B x n e hr
  exact ⟨s', B', e1, e2.le hl⟩
end Go.Fk
namespace Go.Proofs.Ythjdklolbkhbfaa
open Go.RowKit Go.Fk
theorem szRingRM_no (B : Nat) (s : Value) (x : Nat → Nat) (n : Nat) (k m : Int) (w : World) (hs : RdS w B s x n) (h0 : 0 ≤ m) (h1 : m ≤ 1048576) (hm : m - (n : Int) < 0) :
    Calls Try.prog 22 #[.agg #[s, .int .i64 k], .int .i64 m] w fun e w' => e = .returned (.int .i64 (-1)) ∧ le w w' := by
  obtain ⟨y, hy, _⟩ := hs.slIn
  have HS := hid (hy.le (le_alloc w (.cells #[s, .int .i64 k] 24)))
  have HN := hid hs.small
  have HL := hid (le_alloc w (.cells #[s, .int .i64 k] 24))
  clear hs hy
  go_enter Try.func22, Try.ntmps22
  go_wp2_with (go_at_call 41; ((with_reducible refine (szS_no s y n m _ HS.out h0 h1 HN.out hm).mono ?_); rintro e w2 ⟨rfl, rfl⟩))
  go_ret
  exact ⟨rfl, HL.out⟩
theorem szRingRM_yes (B : Nat) (s : Value) (x : Nat → Nat) (n : Nat) (k m : Int) (w : World) (hs : RdS w B s x n) (h0 : 0 ≤ m) (h1 : m ≤ 1048576) (hm : 0 ≤ m - (n : Int)) :
    Calls Try.prog 22 #[.agg #[s, .int .i64 k], .int .i64 m] w fun e w' => e = .returned (.int .i64 (m - n)) ∧ le w w' := by
  obtain ⟨y, hy, _⟩ := hs.slIn
  have HS := hid (hy.le (le_alloc w (.cells #[s, .int .i64 k] 24)))
  have HN := hid hs.small
  have HL := hid (le_alloc w (.cells #[s, .int .i64 k] 24))
  have hm' : ¬ m - (n : Int) < 0 := by omega
  clear hs hy
  go_enter Try.func22, Try.ntmps22
  go_wp2_with (go_at_call 41; ((with_reducible refine (szS_yes s y n m _ HS.out h0 h1 HN.out hm).mono ?_); rintro e w2 ⟨rfl, rfl⟩))
  go_ret
  exact ⟨rfl, HL.out⟩
theorem szRingR_no (B : Nat) (s : Value) (x : Nat → Nat) (n : Nat) (k : Int) (w : World) (hs : RdS w B s x n) (hn : ¬ n ≤ 1048576) :
    Calls Try.prog 22 #[.agg #[s, .int .i64 k], .int .i64 1048576] w fun e w' => e = .returned (.int .i64 (-1)) ∧ le w w' := szRingRM_no B s x n k 1048576 w hs (by omega) (by omega) (by omega)
theorem szRingR_yes (B : Nat) (s : Value) (x : Nat → Nat) (n : Nat) (k : Int) (w : World) (hs : RdS w B s x n) (hn : n ≤ 1048576) :
    Calls Try.prog 22 #[.agg #[s, .int .i64 k], .int .i64 1048576] w fun e w' => e = .returned (.int .i64 (1048576 - n)) ∧ le w w' := szRingRM_yes B s x n k 1048576 w hs (by omega) (by omega) (by omega)
theorem toRingR (B : Nat) (s : Value) (x : Nat → Nat) (n : Nat) (k : Int) (w : World) (hs : RdS w B s x n) (hn : n ≤ 1048576) :
    Calls Try.prog 27 #[.agg #[s, .int .i64 k]] w fun e w' => ∃ s', e = .returned (.agg #[s', .int .i64 k]) ∧ OwnS w' w.heap.size w'.heap.size s' x n ∧ le w w' := by
  obtain ⟨y, hy, hc⟩ := hs.slIn
  have hf : ∀ i, i < n → fits .f32 (y i) := by
    rcases hy with ⟨_, rfl⟩ | ⟨a, cap, _, _, _, h4⟩
    · intro i hi; omega
    · intro i hi; exact (h4 i hi).2
  refine (toRing_any s y n k w hy hn).mono ?_
  rintro e w' ⟨b, rfl, hb, hr, hl⟩
  exact ⟨_, rfl, .inr ⟨b, 0, n, _, rfl, Nat.le_refl _, by unfold maxLen; omega, hb, hr.lt, hr, fun i hi => ⟨y i, by rw [Nat.zero_add]; exact get_ftab _ _ _ _ hi, hf i hi, hc i hi⟩⟩, hl⟩
theorem toRingK (w0 : World) (B : Nat) (s : Value) (x : Nat → Nat) (n : Nat) (k : Int) (w : World) (hl : le w0 w) (hs : RdS w0 B s x n) (hn : n ≤ 1048576) :
    Calls Try.prog 27 #[.agg #[s, .int .i64 k]] w fun e w' => ∃ v, e = .returned v ∧ le w w' ∧ KRing w0 #[.agg #[s, .int .i64 k]] w' v := by
  refine (toRingR B s x n k w (hs.le hl) hn).mono ?_
  rintro e w' ⟨s', rfl, ho, hl'⟩
  refine ⟨_, rfl, hl', fun s2 k2 B2 x2 n2 e2 hr => ?_⟩
  simp only [Array.mk.injEq, List.cons.injEq, Value.agg.injEq, Value.int.injEq, true_and, and_true] at e2
  obtain ⟨rfl, rfl⟩ := e2
  obtain ⟨rfl, hx⟩ := hs.uniq hr
  exact ⟨s', _, rfl, ho.rd.congr hx⟩
theorem eqRingR (B B' : Nat) (s s' : Value) (x : Nat → Nat) (n : Nat) (k : Int) (w : World) (hn : n ≤ 1048576) (hs : RdS w B s x n) (hs' : RdS w B' s' x n) :
    Calls Try.prog 33 #[.agg #[s, .int .i64 k], .agg #[s', .int .i64 k]] w fun e w' => e = .returned (.bool true) ∧ le w w' := by
  have HS := hid hs; have HS' := hid hs'; clear hs hs'
  have F := ((Frg.nil w).box 35 #[s, .int .i64 k]).box 35 #[s', .int .i64 k]
  have HL := hid F.below
  clear F
  go_enter Try.func33, Try.ntmps33
  go_wp2_with (go_at_call 19; ((with_reducible refine (eqR B B' s s' x n _ hn (HS.out.le HL.out) (HS'.out.le HL.out)).mono ?_); rintro e w2 ⟨rfl, m, rfl⟩))
  go_ret
  exact ⟨rfl, le_trans HL.out (le_drewN _ _)⟩
theorem markRingR (lo hi : Nat) (s : Value) (x : Nat → Nat) (n : Nat) (k z : Int) (w : World) (hn : n ≤ 1048576) (hz : 0 ≤ z) (hz2 : z ≤ 1073741824) (hs : OwnS w lo hi s x n) :
    Calls Try.prog 38 #[.agg #[s, .int .i64 k], .int .i64 z] w fun e w' => e = .returned (.int .i64 (z + n)) ∧ OwnS w' lo hi s (markW z) n ∧ Chg (rng lo hi) w w' := by
  have HS := hid (hs.le (le_alloc w (.cells #[s, .int .i64 k] 35))); clear hs
  have HL := hid (le_alloc w (.cells #[s, .int .i64 k] 35))
  go_enter Try.func38, Try.ntmps38
  go_wp2_with (go_at_call 20; ((with_reducible refine (markR lo hi s x n z _ hn hz hz2 HS.out).mono ?_); rintro e w2 ⟨rfl, hR, hU, _⟩; have HR2 := hid hR; have HU := hid (Chg.trans (Chg.of_le HL.out) hU); clear hR hU))
  go_ret
  exact ⟨rfl, HR2.out, HU.out⟩
theorem heldRingR (B : Nat) (s : Value) (n : Nat) (k z : Int) (w : World) (hn : n ≤ 1048576) (hz : 0 ≤ z) (hz2 : z ≤ 1073741824) (hs : RdS w B s (markW z) n) :
    Calls Try.prog 39 #[.agg #[s, .int .i64 k], .int .i64 z] w fun e w' => e = .returned (.int .i64 (z + n)) ∧ le w w' := by
  have HS := hid (hs.le (le_alloc w (.cells #[s, .int .i64 k] 35))); clear hs
  have HL := hid (le_alloc w (.cells #[s, .int .i64 k] 35))
  have hz3 : ¬ (z + (n : Int) < 0) := by omega
  go_enter Try.func39, Try.ntmps39
  go_wp2_with (go_at_call 21; ((with_reducible refine (heldR B s n z _ hn hz hz2 HS.out).mono ?_); rintro e w2 ⟨rfl, rfl⟩))
  go_ret
  exact ⟨rfl, HL.out⟩
end Go.Proofs.Ythjdklolbkhbfaa

/- Which filters are valid: the plain function, the model's contract and the program's. -/
namespace Go.Fk
open Go Go.RowKit
/-- How many numbers and states a kind uses. -/
def cU (k : Int) : Nat := if k = 1 ∨ k = 2 then 2 else if k = 3 ∨ k = 5 then 1 else 3
def sU (k : Int) : Nat := if k = 1 ∨ k = 2 then 1 else 2
/-- Is a filter valid? -/
def okF (k : Int) (a b c x y : Nat) : Bool := (decide (1 ≤ k) && decide (k ≤ 5)) && (usedB (tri a b c) 3 (cU k) && usedB (duo x y) 2 (sU k))
theorem okF_kind {k : Int} {a b c x y : Nat} (h : okF k a b c x y = true) : 1 ≤ k ∧ k ≤ 5 := by
  simp only [okF, Bool.and_eq_true, decide_eq_true_eq] at h; exact h.1
theorem okF_out {k : Int} {a b c x y : Nat} (h : ¬ (1 ≤ k ∧ k ≤ 5)) : okF k a b c x y = false := by
  cases e : okF k a b c x y
  · rfl
  · exact absurd (okF_kind e) h
theorem cU_le (k : Int) : cU k ≤ 3 := by unfold cU; split; omega; split <;> omega
theorem sU_le (k : Int) : sU k ≤ 2 := by unfold sU; split <;> omega
theorem Row.six {w : World} {g : Nat} {t : TypeId} {v0 v1 v2 v3 v4 v5 : Value} (h : Row w g t #[v0, v1, v2, v3, v4, v5]) :
    w.cell? ⟨g, 0, none⟩ = some v0 ∧ w.cell? ⟨g, 1, none⟩ = some v1 ∧ w.cell? ⟨g, 2, none⟩ = some v2 ∧ w.cell? ⟨g, 3, none⟩ = some v3 ∧ w.cell? ⟨g, 4, none⟩ = some v4 ∧ w.cell? ⟨g, 5, none⟩ = some v5 :=
  ⟨h.cell? 0, h.cell? 1, h.cell? 2, h.cell? 3, h.cell? 4, h.cell? 5⟩
theorem Row.tri {w : World} {g : Nat} {t : TypeId} {k : Int} {a b c x y : Nat} (h : Row w g t (#[.int .i64 k, .float .f32 a, .float .f32 b, .float .f32 c, .float .f32 x, .float .f32 y] : Array Value)) (i : Nat) (hi : i < 3) : w.cell? ⟨g, 1 + i, none⟩ = some (.float .f32 (tri a b c i)) := by
  match i, hi with
  | 0, _ => exact h.cell? 1
  | 1, _ => exact h.cell? 2
  | 2, _ => exact h.cell? 3
theorem Row.duo {w : World} {g : Nat} {t : TypeId} {k : Int} {a b c x y : Nat} (h : Row w g t (#[.int .i64 k, .float .f32 a, .float .f32 b, .float .f32 c, .float .f32 x, .float .f32 y] : Array Value)) (i : Nat) (hi : i < 2) : w.cell? ⟨g, 4 + i, none⟩ = some (.float .f32 (duo x y i)) := by
  match i, hi with
  | 0, _ => exact h.cell? 4
  | 1, _ => exact h.cell? 5
/-- A filter within a block. -/
structure FilAt (w : World) (g f : Nat) (k : Int) (a b c x y : Nat) : Prop where
  k0 : w.cell? ⟨g, f, none⟩ = some (.int .i64 k)
  tri : ∀ i, i < 3 → w.cell? ⟨g, f + 1 + i, none⟩ = some (.float .f32 (tri a b c i))
  duo : ∀ i, i < 2 → w.cell? ⟨g, f + 4 + i, none⟩ = some (.float .f32 (duo x y i))
theorem Row.filAt {w : World} {g : Nat} {t : TypeId} {k : Int} {a b c x y : Nat} (h : Row w g t (#[.int .i64 k, .float .f32 a, .float .f32 b, .float .f32 c, .float .f32 x, .float .f32 y] : Array Value)) : FilAt w g 0 k a b c x y :=
  ⟨h.six.1, fun i hi => by rw [Nat.zero_add]; exact h.tri i hi, fun i hi => by rw [Nat.zero_add]; exact h.duo i hi⟩
/-- A filter within a row. -/
structure FilIn (cs : Array Value) (f : Nat) (k : Int) (a b c x y : Nat) : Prop where
  k0 : cs[f]? = some (.int .i64 k)
  c1 : cs[f + 1]? = some (.float .f32 a)
  c2 : cs[f + 2]? = some (.float .f32 b)
  c3 : cs[f + 3]? = some (.float .f32 c)
  c4 : cs[f + 4]? = some (.float .f32 x)
  c5 : cs[f + 5]? = some (.float .f32 y)
theorem FilIn.at {cs : Array Value} {f : Nat} {k : Int} {a b c x y : Nat} (h : FilIn cs f k a b c x y) {w : World} {g : Nat} {t : TypeId} (hr : Row w g t cs) : FilAt w g f k a b c x y :=
  ⟨(hr.cell? f).trans h.k0, fun i hi => by
    match i, hi with
    | 0, _ => exact (hr.cell? (f + 1)).trans h.c1
    | 1, _ => exact (hr.cell? (f + 2)).trans h.c2
    | 2, _ => exact (hr.cell? (f + 3)).trans h.c3, fun i hi => by
    match i, hi with
    | 0, _ => exact (hr.cell? (f + 4)).trans h.c4
    | 1, _ => exact (hr.cell? (f + 5)).trans h.c5⟩
theorem fits_tri {a b c : Nat} (ha : fits .f32 a) (hb : fits .f32 b) (hc : fits .f32 c) : ∀ i, i < 3 → fits .f32 (tri a b c i) := by
  intro i hi
  match i, hi with
  | 0, _ => exact ha
  | 1, _ => exact hb
  | 2, _ => exact hc
theorem fits_duo {a b : Nat} (ha : fits .f32 a) (hb : fits .f32 b) : ∀ i, i < 2 → fits .f32 (duo a b i) := by
  intro i hi
  match i, hi with
  | 0, _ => exact ha
  | 1, _ => exact hb
end Go.Fk
namespace Go.Proofs.Ythjdklolbkhbfaa
open Go.RowKit Go.Fk
theorem s_Uses (k : Int) (w : World) : Calls Try.prog 65 #[.int .i64 k] w fun e w' => e = .returned (.tuple #[.int .i64 (cU k), .int .i64 (sU k)]) ∧ w = w' := by
  by_cases h1 : k = 1
  · subst h1
    go_enter Try.func65, Try.ntmps65
    go_wp2
    go_ret2
    exact ⟨rfl, rfl⟩
  by_cases h2 : k = 2
  · subst h2
    go_enter Try.func65, Try.ntmps65
    go_wp2
    go_ret2
    exact ⟨rfl, rfl⟩
  by_cases h3 : k = 3
  · subst h3
    go_enter Try.func65, Try.ntmps65
    go_wp2
    go_ret2
    exact ⟨rfl, rfl⟩
  by_cases h5 : k = 5
  · subst h5
    go_enter Try.func65, Try.ntmps65
    go_wp2
    go_ret2
    exact ⟨rfl, rfl⟩
  have e1 : cU k = 3 := by simp [cU, h1, h2, h3, h5]
  have e2 : sU k = 2 := by simp [sU, h1, h2]
  rw [e1, e2]
  go_enter Try.func65, Try.ntmps65
  go_wp2
  go_ret2
  exact ⟨rfl, rfl⟩
set_option maxHeartbeats 2000000 in
theorem s_OkAt (k : Int) (a b c x y : Nat) (g f : Nat) (w : World) (hr : FilAt w g f k a b c x y) : Calls Try.prog 43 #[.pointer (some ⟨g, f, none⟩)] w fun e w' => e = .returned (.bool (okF k a b c x y)) ∧ ∃ n, w' = w.drewN n := by
  have c0 := hr.k0
  have HR := hid hr
  clear hr
  by_cases hk : 1 ≤ k ∧ k ≤ 5
  · obtain ⟨k1, k5⟩ := hk
    obtain ⟨p, hp⟩ : ∃ p, p = cU k := ⟨_, rfl⟩
    obtain ⟨q, hq⟩ : ∃ q, q = sU k := ⟨_, rfl⟩
    have hp3 : p ≤ 3 := by rw [hp]; exact cU_le k
    have hq2 : q ≤ 2 := by rw [hq]; exact sU_le k
    have E : okF k a b c x y = (usedB (tri a b c) 3 p && usedB (duo x y) 2 q) := by rw [hp, hq]; simp [okF, k1, k5]
    rw [E]; clear E
    have hu := s_Uses k
    rw [← hp, ← hq] at hu
    have HU := hid hu
    clear hu hp hq
    go_enter Try.func43, Try.ntmps43
    go_wp2_with (first | (go_at_call 64; refine (s_In _ _ _ _).mono ?_; rintro e w' ⟨rfl, rfl⟩) | (go_at_call 65; refine (HU.out _).mono ?_; rintro e w' ⟨rfl, rfl⟩))
    go_loopw [5] (fun i wr => ∃ j : Nat, j ≤ 3 ∧ i = .int .i64 j ∧ Hid (∀ i, i < j → fin (tri a b c i) = true ∧ (p ≤ i → sameB (tri a b c i) 0 = true)) ∧ ∃ n, wr = w.drewN n) (fun i _ => 3 - (intOf i).toNat)
    case atStart => exact ⟨0, by omega, rfl, fun i hi => absurd hi (by omega), 0, rfl⟩
    case round =>
      obtain ⟨j, hj, rfl, HJ, n, rfl⟩ := hrel
      by_cases hlt : j < 3
      · have cj := HR.out.tri j hlt
        cases h1 : fin (tri a b c j)
        · go_wp2_with (go_at_call 66; refine (s_l01Finite _ _).mono ?_; rintro e w' ⟨rfl, m, rfl⟩)
          go_ret
          refine ⟨ret_b ?_, _, rfl⟩
          by_cases hjp : j < p
          · rw [usedB_fin hjp hp3 h1]; rfl
          · have : sameB (tri a b c j) 0 = false := by
              cases e : sameB (tri a b c j) 0
              · rfl
              · rw [same0_fin e] at h1; cases h1
            rw [usedB_zero (show p ≤ j by omega) hlt this]; rfl
        · by_cases hjp : j < p
          · have hjp' : (j : Int) < p := by omega
            go_wp2_with (go_at_call 66; refine (s_l01Finite _ _).mono ?_; rintro e w' ⟨rfl, m, rfl⟩)
            go_roundw
            case rel => first | exact ⟨j + 1, by omega, by go_num, fun i hi => by rcases Nat.lt_or_ge i j with h | h; exact HJ.out i h; rw [show i = j by omega]; exact ⟨h1, fun h => absurd h (by omega)⟩, _, rfl⟩ | ((repeat apply Exists.intro); exact ⟨⟨j + 1, by omega, by go_num, fun i hi => by rcases Nat.lt_or_ge i j with h | h; exact HJ.out i h; rw [show i = j by omega]; exact ⟨h1, fun h => absurd h (by omega)⟩, _, rfl⟩, rfl⟩)
            case measure => simp [intOf]; omega
          · have hjp' : (p : Int) ≤ j := by omega
            cases h2 : sameB (tri a b c j) 0
            · go_wp2_with (first | (go_at_call 66; refine (s_l01Finite _ _).mono ?_; rintro e w' ⟨rfl, m, rfl⟩) | (go_at_call 67; refine (s_l01Same _ _ _).mono ?_; rintro e w' ⟨rfl, rfl⟩))
              go_ret
              exact ⟨ret_b (by rw [usedB_zero (show p ≤ j by omega) hlt h2]; rfl), _, rfl⟩
            · go_wp2_with (first | (go_at_call 66; refine (s_l01Finite _ _).mono ?_; rintro e w' ⟨rfl, m, rfl⟩) | (go_at_call 67; refine (s_l01Same _ _ _).mono ?_; rintro e w' ⟨rfl, rfl⟩))
              go_roundw
              case rel => first | exact ⟨j + 1, by omega, by go_num, fun i hi => by rcases Nat.lt_or_ge i j with h | h; exact HJ.out i h; rw [show i = j by omega]; exact ⟨h1, fun _ => h2⟩, _, rfl⟩ | ((repeat apply Exists.intro); exact ⟨⟨j + 1, by omega, by go_num, fun i hi => by rcases Nat.lt_or_ge i j with h | h; exact HJ.out i h; rw [show i = j by omega]; exact ⟨h1, fun _ => h2⟩, _, rfl⟩, rfl⟩)
              case measure => simp [intOf]; omega
      · obtain rfl : j = 3 := by omega
        have U1 := hid (usedB_yes (f := tri a b c) (n := 3) (u := p) (fun i hi => (HJ.out i (by omega)).1) (fun i h1 h2 => (HJ.out i h2).2 h1))
        clear HJ
        go_wp2
        go_loopw [6] (fun i wr => ∃ j : Nat, j ≤ 2 ∧ i = .int .i64 j ∧ Hid (∀ i, i < j → fin (duo x y i) = true ∧ (q ≤ i → sameB (duo x y i) 0 = true)) ∧ ∃ n, wr = w.drewN n) (fun i _ => 2 - (intOf i).toNat)
        case atStart => exact ⟨0, by omega, rfl, fun i hi => absurd hi (by omega), _, rfl⟩
        case round =>
          obtain ⟨j, hj, rfl, HJ, n, rfl⟩ := hrel
          by_cases hlt : j < 2
          · have cj := HR.out.duo j hlt
            cases h1 : fin (duo x y j)
            · go_wp2_with (go_at_call 66; refine (s_l01Finite _ _).mono ?_; rintro e w' ⟨rfl, m, rfl⟩)
              go_ret
              refine ⟨ret_b ?_, _, rfl⟩
              by_cases hjp : j < q
              · rw [usedB_fin hjp hq2 h1, Bool.and_false]
              · have : sameB (duo x y j) 0 = false := by
                  cases e : sameB (duo x y j) 0
                  · rfl
                  · rw [same0_fin e] at h1; cases h1
                rw [usedB_zero (show q ≤ j by omega) hlt this, Bool.and_false]
            · by_cases hjp : j < q
              · have hjp' : (j : Int) < q := by omega
                go_wp2_with (go_at_call 66; refine (s_l01Finite _ _).mono ?_; rintro e w' ⟨rfl, m, rfl⟩)
                go_roundw
                case rel => first | exact ⟨j + 1, by omega, by go_num, fun i hi => by rcases Nat.lt_or_ge i j with h | h; exact HJ.out i h; rw [show i = j by omega]; exact ⟨h1, fun h => absurd h (by omega)⟩, _, rfl⟩ | ((repeat apply Exists.intro); exact ⟨⟨j + 1, by omega, by go_num, fun i hi => by rcases Nat.lt_or_ge i j with h | h; exact HJ.out i h; rw [show i = j by omega]; exact ⟨h1, fun h => absurd h (by omega)⟩, _, rfl⟩, rfl⟩)
                case measure => simp [intOf]; omega
              · have hjp' : (q : Int) ≤ j := by omega
                cases h2 : sameB (duo x y j) 0
                · go_wp2_with (first | (go_at_call 66; refine (s_l01Finite _ _).mono ?_; rintro e w' ⟨rfl, m, rfl⟩) | (go_at_call 67; refine (s_l01Same _ _ _).mono ?_; rintro e w' ⟨rfl, rfl⟩))
                  go_ret
                  exact ⟨ret_b (by rw [usedB_zero (show q ≤ j by omega) hlt h2, Bool.and_false]), _, rfl⟩
                · go_wp2_with (first | (go_at_call 66; refine (s_l01Finite _ _).mono ?_; rintro e w' ⟨rfl, m, rfl⟩) | (go_at_call 67; refine (s_l01Same _ _ _).mono ?_; rintro e w' ⟨rfl, rfl⟩))
                  go_roundw
                  case rel => first | exact ⟨j + 1, by omega, by go_num, fun i hi => by rcases Nat.lt_or_ge i j with h | h; exact HJ.out i h; rw [show i = j by omega]; exact ⟨h1, fun _ => h2⟩, _, rfl⟩ | ((repeat apply Exists.intro); exact ⟨⟨j + 1, by omega, by go_num, fun i hi => by rcases Nat.lt_or_ge i j with h | h; exact HJ.out i h; rw [show i = j by omega]; exact ⟨h1, fun _ => h2⟩, _, rfl⟩, rfl⟩)
                  case measure => simp [intOf]; omega
          · obtain rfl : j = 2 := by omega
            have U2 := hid (usedB_yes (f := duo x y) (n := 2) (u := q) (fun i hi => (HJ.out i (by omega)).1) (fun i h1 h2 => (HJ.out i h2).2 h1))
            clear HJ
            go_wp2
            go_ret
            exact ⟨ret_b (by rw [U1.out, U2.out]; rfl), _, rfl⟩
  · rw [okF_out hk]
    have hIn : Hid (∀ w, Calls Try.prog 64 #[.int .i64 k, .int .i64 1, .int .i64 5] w fun e w' => e = .returned (.bool false) ∧ w = w') := fun w => by
      have h := s_In k 1 5 w
      rwa [show (decide ((1 : Int) ≤ k) && decide (k ≤ 5)) = false by simp only [Bool.and_eq_false_iff, decide_eq_false_iff_not]; omega] at h
    clear hk
    go_enter Try.func43, Try.ntmps43
    go_wp2_with (first | (go_at_call 64; refine (hIn.out _).mono ?_; rintro e w' ⟨rfl, rfl⟩))
    go_ret
    exact ⟨rfl, 0, rfl⟩
theorem s_Ok (k : Int) (a b c x y : Nat) (g : Nat) (w : World) (hr : Row w g 36 (#[.int .i64 k, .float .f32 a, .float .f32 b, .float .f32 c, .float .f32 x, .float .f32 y] : Array Value)) : Calls Try.prog 43 #[.pointer (some ⟨g, 0, none⟩)] w fun e w' => e = .returned (.bool (okF k a b c x y)) ∧ ∃ n, w' = w.drewN n := s_OkAt k a b c x y g 0 w hr.filAt
end Go.Proofs.Ythjdklolbkhbfaa

/- 'SameFilter' of both. -/
namespace Go.Fk
open Go Go.RowKit
/-- Are two rows the same? -/
def eqRow (f f' : Nat → Nat) (n : Nat) : Bool := (List.range n).all (fun j => sameB (f j) (f' j))
theorem eqRow_no {f f' : Nat → Nat} {n j : Nat} (hj : j < n) (h : sameB (f j) (f' j) = false) : eqRow f f' n = false := by
  rw [Bool.eq_false_iff]
  intro hh
  have := List.all_eq_true.1 hh j (List.mem_range.2 hj)
  rw [h] at this; cases this
theorem eqRow_yes {f f' : Nat → Nat} {n : Nat} (h : ∀ j, j < n → sameB (f j) (f' j) = true) : eqRow f f' n = true := List.all_eq_true.2 (fun j hj => h j (List.mem_range.1 hj))
theorem all_step {p : Nat → Prop} {k : Nat} (h : ∀ j, j < k → p j) (hk : p k) : ∀ j, j < k + 1 → p j := fun j hj => by
  by_cases e : j = k
  · rw [e]; exact hk
  · exact h j (by omega)
section
variable {P : Program} {ops : Array Oper} {w : World} {K : FuncId → Array Value → Value → Prop} {Q : Act → Prop} {o : Oper} {rest : List Oper} {a : Act} {C : World → Prop}
theorem wpLoose_anyW (hw : Region.wanted o (yielded ops a.tmps) = true) (V : Value → Prop) (h1 : ∀ n, within P (fun w' => ∃ m, w' = w.drewN m) K V ((execOp a.eval o).run P (w.drewN n)))
    (h2 : ∀ v, V v → wpLoose P ops (fun w' => ∃ m, w' = w.drewN m) K Q rest (a.put o.dst v)) : wpLoose P ops (fun w' => ∃ m, w' = w.drewN m) K Q (o :: rest) a :=
  ⟨V, .inl ⟨hw, fun w' hw' => by obtain ⟨n, rfl⟩ := hw'; exact h1 n⟩, h2⟩
theorem wpLoose_skip (hw : Region.wanted o (yielded ops a.tmps) = false) (h : wpLoose P ops C K Q rest (a.put o.dst undef)) : wpLoose P ops C K Q (o :: rest) a :=
  ⟨(· = undef), .inr ⟨hw, rfl⟩, fun v hv => by rw [hv]; exact h⟩
theorem wpLoose_nilW (hw : Region.wanted o (yielded ops a.tmps) = true) {x : Operand} (hop : o.op = Op.nilCheck x) {ad : Addr} (hx : a.eval x = .pointer (some ad))
    (hK : wpLoose P ops (fun w' => ∃ m, w' = w.drewN m) K Q rest (a.put o.dst (.pointer (some ad)))) : wpLoose P ops (fun w' => ∃ m, w' = w.drewN m) K Q (o :: rest) a := by
  refine wpLoose_anyW hw (· = .pointer (some ad)) (fun n => ?_) (by rintro v rfl; exact hK)
  simp [execOp, hop, hx, within, Result.andThen]
  exact ⟨_, rfl⟩
end
end Go.Fk
namespace Go.Proofs.Ythjdklolbkhbfaa
open Go.RowKit Go.Fk
end Go.Proofs.Ythjdklolbkhbfaa

/- Rings over facts of memory: 'ValidRing', 'SameRing' of both. -/
namespace Go.Fk
open Go Go.RowKit
theorem RdS.form {w : World} {B : Nat} {s : Value} {x : Nat → Nat} {n : Nat} (h : RdS w B s x n) : (s = .slice none 0 0 ∧ n = 0) ∨ ∃ (a : Addr) (cap : Nat), s = .slice (some a) n cap ∧ n ≤ cap ∧ cap ≤ maxLen := by
  rcases h with h | ⟨a, cap, h1, h2, h3, _⟩
  · exact .inl h
  · exact .inr ⟨a, cap, h1, h2, h3⟩
section
variable {P : Program} {w : World} {ops : Array Oper} {rest : List Oper} {o : Oper} {a : Act} {Q : Exit → Act → World → Prop}
/-- The length of a slice that can be read. -/
theorem wpList_lenR (hg : o.guard = none) {x : Operand} {t : TypeId} (hop : o.op = Op.call { callee := Callee.builtin Builtin.len, args := #[x], argTypes := #[t] }) {v : Value} (hx : a.eval x = v) {e : TypeId} (hu : P.underlying t = some (.slice e)) {w1 : World} {B : Nat} {y : Nat → Nat} {n : Nat} (hv : RdS w1 B v y n)
    (h : wpList P ops Q rest (a.put o.dst (.int .i64 n)) w) : wpList P ops Q (o :: rest) a w := by
  refine wpList_plain hg fun K hK' => ?_
  unfold Oper.wp
  rcases hv.form with ⟨rfl, rfl⟩ | ⟨ad, cap, rfl, _, _⟩
  all_goals
    simp [execOp, hop, hx, Result.andThen, resolve, invoke, builtin, Builtin.len_, run_underlying hu]
    exact hK' _ _ h
end
theorem sameB_can (x y : Nat) : sameB (can .f32 x) (can .f32 y) = sameB x y := by unfold sameB; rw [can_can, can_can]
theorem okRing_iff {n : Nat} {k : Int} : okRing n k = true ↔ 1 ≤ n ∧ n ≤ 1024 ∧ 0 ≤ k ∧ k < n := by
  unfold okRing; simp only [Bool.and_eq_true, decide_eq_true_eq]; omega
theorem okRing_j {n : Nat} {k : Int} (h : okRing n k = true) : 1 ≤ n ∧ n ≤ 1024 ∧ ∃ j : Nat, k = j ∧ j < n := by
  obtain ⟨h1, h2, h3, h4⟩ := okRing_iff.1 h
  exact ⟨h1, h2, k.toNat, by omega, by omega⟩
/-- Two slices of floats, compared. -/
def sameS (x x' : Nat → Nat) (n n' : Nat) : Bool := (n == n') && eqRow x x' n
theorem sameS_ne {x x' : Nat → Nat} {n n' : Nat} (h : n ≠ n') : sameS x x' n n' = false := by simp [sameS, h]
theorem sameS_eq {x x' : Nat → Nat} {n : Nat} : sameS x x' n n = eqRow x x' n := by simp [sameS]
end Go.Fk
namespace Go.Proofs.Ythjdklolbkhbfaa
open Go.RowKit Go.Fk
set_option maxHeartbeats 2000000 in
theorem i_ValidRingR (B : Nat) (s : Value) (x : Nat → Nat) (n : Nat) (k : Int) (w : World) (hs : RdS w B s x n) : Calls Try.prog 84 #[.agg #[s, .int .i64 k]] w fun e w' => e = .returned (.bool (okRing n k)) ∧ le w w' := by
  have HL := hid (le_alloc w (.cells #[s, .int .i64 k] 35))
  rcases hs.form with ⟨rfl, rfl⟩ | ⟨a, cap, rfl, hc, hm⟩
  · have HZ : Hid (okRing 0 k = false) := by unfold Hid okRing; simp
    clear hs
    go_enter Try.func84, Try.ntmps84
    go_wp2
    go_ret
    exact ⟨ret_b HZ.out.symm, HL.out⟩
  clear hs
  unfold maxLen at hm
  obtain ⟨z, hz⟩ : ∃ z, z = okRing n k := ⟨_, rfl⟩
  rw [← hz]
  unfold okRing at hz
  by_cases h1 : 1 ≤ (n : Int) <;> by_cases h2 : (n : Int) ≤ 1024 <;> by_cases h3 : 0 ≤ k <;> by_cases h4 : k < (n : Int)
  all_goals first | (exfalso; omega) | skip
  all_goals
    simp only [h1, h2, h3, h4, decide_true, decide_false, Bool.and_true, Bool.and_false, Bool.true_and, Bool.false_and] at hz
    have HZ := hid hz
    clear hz
    go_enter Try.func84, Try.ntmps84
    go_wp2
    go_ret
    exact ⟨ret_b HZ.out.symm, HL.out⟩
theorem s_l02RingR (B : Nat) (s : Value) (x : Nat → Nat) (n : Nat) (k : Int) (g f : Nat) (w : World) (hs : RdS w B s x n) (c0 : w.cell? ⟨g, f, none⟩ = some s) (c1 : w.cell? ⟨g, f + 1, none⟩ = some (.int .i64 k)) (hk : (Lit.int .i64 k).wf = true) :
    Calls Try.prog 63 #[.pointer (some ⟨g, f, none⟩)] w fun e w' => e = .returned (.bool (okRing n k)) ∧ w = w' := by
  rcases hs.form with ⟨rfl, rfl⟩ | ⟨a, cap, rfl, hc, hm⟩
  · have HZ : Hid (okRing 0 k = false) := by unfold Hid okRing; simp
    clear hs
    have HI : Hid (∀ w, Calls Try.prog 64 #[.int .i64 0, .int .i64 1, .int .i64 1024] w fun e w' => e = .returned (.bool false) ∧ w = w') := fun w => s_In 0 1 1024 w
    go_enter Try.func63, Try.ntmps63
    go_wp2_with (go_at_call 64; refine (HI.out _).mono ?_; rintro e w' ⟨rfl, rfl⟩)
    go_ret
    exact ⟨ret_b HZ.out.symm, rfl⟩
  clear hs hk
  unfold maxLen at hm
  obtain ⟨z, hz⟩ : ∃ z, z = okRing n k := ⟨_, rfl⟩
  rw [← hz]
  unfold okRing at hz
  by_cases h1 : 1 ≤ (n : Int) <;> by_cases h2 : (n : Int) ≤ 1024
  all_goals first | (exfalso; omega) | skip
  all_goals
    simp only [h1, h2, decide_true, decide_false, Bool.and_true, Bool.and_false, Bool.true_and, Bool.false_and] at hz
    have HZ := hid hz
    clear hz
    go_enter Try.func63, Try.ntmps63
    go_wp2_with (go_at_call 64; refine (s_In _ _ _ _).mono ?_; rintro e w' ⟨rfl, rfl⟩)
    go_ret
    refine ⟨ret_b ?_, rfl⟩
    first | (rw [HZ.out]; done) | (rw [HZ.out]; congr 1; exact decide_eq_decide.2 (by omega))
theorem infoRingL : (Try.prog.info? 24).map (·.size) = some 2 := by kernel_rfl
end Go.Proofs.Ythjdklolbkhbfaa

/- 'isWithin'. -/
namespace Go.Fk
open Go Go.RowKit
/-- Is a number from one to another? Not NaN. -/
def withinB (a l g : Nat) : Bool := (FloatKind.f32.format.order a l == some .gt || FloatKind.f32.format.order a l == some .eq) && (FloatKind.f32.format.order a g == some .lt || FloatKind.f32.format.order a g == some .eq)
end Go.Fk
namespace Go.Proofs.Ythjdklolbkhbfaa
open Go.RowKit Go.Fk
end Go.Proofs.Ythjdklolbkhbfaa

/- What pipes ask of their lists: 'l04All', 'l04Rings'; 'areScatters', 'isFiniteRing', 'areSections'. -/
namespace Go.Fk
open Go Go.RowKit
/-- Two lists of sections. -/
def secOk (x y : Nat → CD) (k : Nat) : Bool := rgOk x k && rgOk y k && (rgN x k == rgN y k)
theorem withinB_can {y x l g : Nat} (h : can .f32 y = x) : withinB y l g = withinB x l g := by
  unfold withinB; rw [← h, order_can_l, order_can_l]
def scB (x : Nat → Nat) (n : Nat) : Bool := allB (fun i => withinB (x i) 3212836864 1065353216) n
end Go.Fk
namespace Go.Proofs.Ythjdklolbkhbfaa
open Go.RowKit Go.Fk
set_option maxRecDepth 100000 in
set_option maxHeartbeats 1000000 in
theorem s_l04All (B : Nat) (s : Value) (x : Nat → Nat) (n : Nat) (w : World) (hs : RdS w B s x n) : Calls Try.prog 44 #[s] w fun e w' => e = .returned (.bool (finB x n)) ∧ ∃ m, w' = w.drewN m := by
  have hrd := hid hs
  rcases hs with ⟨rfl, rfl⟩ | ⟨a, cap, rfl, hc, hm, hx⟩
  · clear hrd
    go_enter Try.func44, Try.ntmps44
    go_wp2
    go_loop [3] (fun i => i = .int .i64 0) (fun _ => 0)
    case atStart => rfl
    case round =>
      obtain rfl := hrel
      go_wp2
      go_ret
      exact ⟨rfl, 0, rfl⟩
  · have HX := hid hx
    unfold maxLen at hm
    clear hx
    go_enter Try.func44, Try.ntmps44
    go_wp2
    go_loopw [3] (fun i wr => ∃ j : Nat, j ≤ n ∧ i = .int .i64 j ∧ Hid (∀ i, i < j → fin (x i) = true) ∧ ∃ m, wr = w.drewN m) (fun i _ => n - (intOf i).toNat)
    case atStart => exact ⟨0, by omega, rfl, fun i hi => absurd hi (by omega), 0, rfl⟩
    case round =>
      obtain ⟨j, hj, rfl, HJ, m, rfl⟩ := hrel
      by_cases hlt : j < n
      · obtain ⟨_, y, c1, f1, e1⟩ := HX.out j hlt
        have hfy : fin y = fin (x j) := fin_can ((e1).trans (by rw [← e1, can_can]))
        cases hb : fin (x j)
        · have HF := hid (fun w => (hfy.trans hb) ▸ s_l01Finite y w)
          clear hfy e1
          go_wp2_with (go_at_call 66; ((with_reducible refine (HF.out _).mono ?_); rintro e w' ⟨rfl, q, rfl⟩))
          go_ret
          exact ⟨ret_b (finB_no hlt hb).symm, _, rfl⟩
        · have HF := hid (fun w => (hfy.trans hb) ▸ s_l01Finite y w)
          clear hfy e1
          go_wp2_with (go_at_call 66; ((with_reducible refine (HF.out _).mono ?_); rintro e w' ⟨rfl, q, rfl⟩))
          go_roundw
          case rel => exact ⟨j + 1, by omega, by go_num, fun i hi => by rcases Nat.lt_or_ge i j with h | h; exact HJ.out i h; rw [show i = j by omega]; exact hb, _, rfl⟩
          case measure => simp [intOf]; omega
      · obtain rfl : j = n := by omega
        go_wp2
        go_ret
        exact ⟨ret_b (finB_yes HJ.out).symm, _, rfl⟩
set_option maxRecDepth 100000 in
set_option maxHeartbeats 1000000 in
theorem s_l04Rings (B : Nat) (s : Value) (x : Nat → CD) (n : Nat) (w : World) (hs : (CD.sl 2 n x).RdN w B s) (hx : RgsOk x n) : Calls Try.prog 42 #[s] w fun e w' => e = .returned (.bool (allB (rgOk x) n)) ∧ ∃ m, w' = w.drewN m := by
  rcases hs.form with ⟨rfl, rfl⟩ | ⟨b, o, cap, rfl, hc, hm⟩
  · clear hs hx
    go_enter Try.func42, Try.ntmps42
    go_wp2
    go_loop [3] (fun i => i = .int .i64 0) (fun _ => 0)
    case atStart => rfl
    case round =>
      obtain rfl := hrel
      go_wp2
      go_ret
      exact ⟨rfl, 0, rfl⟩
  · have HA := hid (fun k (hk : k < n) => hx.at hs hk)
    unfold maxLen at hm
    clear hx hs
    go_enter Try.func42, Try.ntmps42
    go_wp2
    go_loopw [3] (fun i wr => ∃ j : Nat, j ≤ n ∧ i = .int .i64 j ∧ Hid (∀ i, i < j → rgOk x i = true) ∧ ∃ m, wr = w.drewN m) (fun i _ => n - (intOf i).toNat)
    case atStart => exact ⟨0, by omega, rfl, fun i hi => absurd hi (by omega), 0, rfl⟩
    case round =>
      obtain ⟨j, hj, rfl, HJ, m, rfl⟩ := hrel
      by_cases hlt : j < n
      · obtain ⟨u, c0, c1, hw, hr⟩ := HA.out j hlt
        have HR := hid (fun (m : Nat) => s_l02RingR B u (rgX x j) (rgN x j) (rgK x j) b (o + j * 2) (w.drewN m) (hr.le (le_drewN w m)) c0 c1 hw)
        have HL := hid (fun (m : Nat) => s_l04All B u (rgX x j) (rgN x j) (w.drewN m) (hr.le (le_drewN w m)))
        cases h1 : okRing (rgN x j) (rgK x j)
        · rw [h1] at HR
          have hb : rgOk x j = false := by unfold rgOk; rw [h1]; rfl
          clear h1 c1 hw hr
          go_wp2_with (first | (with_reducible refine wpList_indexW0 rfl rfl rfl rfl Try.underlying74 uinfoRingI hlt ?_) | (go_at_call 63; ((with_reducible refine (HR.out _).mono ?_); rintro e w' ⟨rfl, rfl⟩)))
          go_ret
          exact ⟨ret_b (allB_no hlt hb).symm, _, rfl⟩
        cases h2 : finB (rgX x j) (rgN x j)
        · rw [h1] at HR; rw [h2] at HL
          have hb : rgOk x j = false := by unfold rgOk; rw [h2, Bool.and_false]
          clear h1 h2 c1 hw hr
          go_wp2_with (first | (with_reducible refine wpList_indexW0 rfl rfl rfl rfl Try.underlying74 uinfoRingI hlt ?_) | (with_reducible refine wpList_indexW0G rfl rfl rfl Try.underlying74 uinfoRingI hlt (by kernel_rfl) ?_) | (go_at_call 63; ((with_reducible refine (HR.out _).mono ?_); rintro e w' ⟨rfl, rfl⟩)) | (go_at_call 44; ((with_reducible refine (HL.out _).mono ?_); rintro e w' ⟨rfl, q, rfl⟩)))
          go_ret
          exact ⟨ret_b (allB_no hlt hb).symm, _, rfl⟩
        · rw [h1] at HR; rw [h2] at HL
          have hb : rgOk x j = true := by unfold rgOk; rw [h1, h2]; rfl
          clear h1 h2 c1 hw hr
          go_wp2_with (first | (with_reducible refine wpList_indexW0 rfl rfl rfl rfl Try.underlying74 uinfoRingI hlt ?_) | (with_reducible refine wpList_indexW0G rfl rfl rfl Try.underlying74 uinfoRingI hlt (by kernel_rfl) ?_) | (go_at_call 63; ((with_reducible refine (HR.out _).mono ?_); rintro e w' ⟨rfl, rfl⟩)) | (go_at_call 44; ((with_reducible refine (HL.out _).mono ?_); rintro e w' ⟨rfl, q, rfl⟩)))
          go_roundw
          case rel => exact ⟨j + 1, by omega, by go_num, fun i hi => by rcases Nat.lt_or_ge i j with h | h; exact HJ.out i h; rw [show i = j by omega]; exact hb, _, rfl⟩
          case measure => simp [intOf]; omega
      · obtain rfl : j = n := by omega
        go_wp2
        go_ret
        exact ⟨ret_b (allB_yes HJ.out).symm, _, rfl⟩
theorem i_areFiniteQ (B : Nat) (s : Value) (x : Nat → Nat) (n : Nat) (w : World) (hs : RdS w B s x n) : Calls Try.prog 73 #[s] w fun e w' => e = .returned (.bool (finB x n)) ∧ w = w' := by
  rcases hs with ⟨rfl, rfl⟩ | ⟨a, cap, rfl, h2, h3, h4⟩
  · exact i_areFinite_nil x w
  · obtain ⟨y, hy⟩ : ∃ y : Nat → Nat, ∀ i, i < n → w.cell? (a.add i) = some (.float .f32 (y i)) ∧ fits .f32 (y i) ∧ can .f32 (y i) = x i := by
      have : ∀ i, ∃ y, i < n → w.cell? (a.add i) = some (.float .f32 y) ∧ fits .f32 y ∧ can .f32 y = x i := fun i => by
        by_cases hi : i < n
        · obtain ⟨_, y, e⟩ := h4 i hi; exact ⟨y, fun _ => e⟩
        · exact ⟨0, fun h => absurd h hi⟩
      exact Classical.skolem.1 this
    have he : finB x n = finB y n := by
      have key : ∀ i, i < n → fin (x i) = fin (y i) := fun i hi => by
        rw [← (hy i hi).2.2]; exact fin_can (can_can _ _)
      cases hb : finB y n
      · obtain ⟨i, hi, hf⟩ := finB_ex hb
        exact finB_no hi ((key i hi).trans hf)
      · exact finB_yes (fun i hi => (key i hi).trans (finB_all hb i hi))
    rw [he]
    exact i_areFinite y a n cap w (by unfold maxLen at h3; omega) (fun i hi => (hy i hi).2.1) (fun i hi => (hy i hi).1)
set_option maxRecDepth 100000 in
set_option maxHeartbeats 1000000 in
theorem i_isFiniteRing (B : Nat) (s : Value) (x : Nat → Nat) (n : Nat) (k : Int) (w : World) (hs : RdS w B s x n) : Calls Try.prog 72 #[.agg #[s, .int .i64 k]] w fun e w' => e = .returned (.bool (okRing n k && finB x n)) ∧ le w w' := by
  have HV := hid (fun (w' : World) (hl : le w w') => i_ValidRingR B s x n k w' (hs.le hl))
  have HF := hid (fun (w' : World) (hl : le w w') => i_areFiniteQ B s x n w' (hs.le hl))
  have F := (Frg.nil w).box 35 #[s, .int .i64 k]
  clear hs
  cases h1 : okRing n k <;> cases h2 : finB x n
  all_goals
    rw [h1] at HV; rw [h2] at HF
    clear h1 h2
    go_enter Try.func72, Try.ntmps72
    go_wp2_with (first | ((with_reducible refine at_loadU (ty := 35) rfl rfl ?_); (with_reducible refine wpList_loadG F rfl rfl rfl m0 Try.underlying35 rfl uinfoRingI rfl ?_)) | (go_at_call 84; ((with_reducible refine (HV.out _ F.below).mono ?_); rintro e w1 ⟨rfl, hl⟩; replace F := F.le hl; clear hl; have c0 := (F.row m0).cell? 0)) | (go_at_call 73; ((with_reducible refine (HF.out _ F.below).mono ?_); rintro e w1 ⟨rfl, rfl⟩)))
    go_ret
    exact ⟨rfl, F.below⟩
end Go.Proofs.Ythjdklolbkhbfaa

/- Steps of a region that draws its order: guarded operations, loads of one cell, addresses of elements, new rows, lengths. Nothing here names a program. -/
namespace Go.Fk
open Go Go.RowKit
section
variable {E : Ext} {P : Program} {ops : Array Oper} {W : World} {K : FuncId → Array Value → World → Value → Prop} {Q : Act → World → Prop} {F : Facts} {k : Nat} {o : Oper} {rest : List Oper} {a : Act}
theorem wpFreeD_oneW (hw : Region.wanted o (yielded ops a.tmps) = true) (v : Value) (hr : ∀ w, E.R W w → (execOp a.eval o).run P w = .ok (.value v) w)
    (h : wpFreeD E P ops .any W K Q rest (k + 1) (a.put o.dst v) (F.with k (fun _ => True))) : wpFreeD E P ops .any W K Q (o :: rest) k a F := by
  refine ⟨fun _ u => u = v, ⟨fun _ _ _ _ h => h, .inl ⟨hw, fun w hw _ => ?_⟩⟩, fun u hu => ?_⟩
  · rw [hr w hw]; exact ⟨E.refl w, rfl⟩
  · obtain ⟨w, _, _, rfl⟩ := hu
    exact wpFreeD_weaken _ _ _ _ _ (fun e w h => ⟨h.1, fun _ => trivial⟩) h
theorem wpFreeD_skip (hw : Region.wanted o (yielded ops a.tmps) = false)
    (h : wpFreeD E P ops .any W K Q rest (k + 1) (a.put o.dst undef) (F.with k (fun _ => True))) : wpFreeD E P ops .any W K Q (o :: rest) k a F := by
  refine ⟨fun _ u => u = undef, ⟨fun _ _ _ _ h => h, .inr ⟨hw, fun w _ _ => rfl⟩⟩, fun u hu => ?_⟩
  obtain ⟨w, _, _, rfl⟩ := hu
  exact wpFreeD_weaken _ _ _ _ _ (fun e w h => ⟨h.1, fun _ => trivial⟩) h
theorem wpFreeD_callW (hw : Region.wanted o (yielded ops a.tmps) = true) {f : FuncId} {xs : Array Operand} {ts : Array TypeId} (hop : o.op = Op.call { callee := Callee.value (Operand.func f), args := xs, argTypes := ts }) {fn : Func} (hf : P.funcs[f]? = some fn)
    (hb : fn.body.isNone = false) (hn : (fn.name == "runtime.NumGoroutine") = false) {args : Array Value} (ha : xs.map a.eval = args) (hm : MonoT E (K f args))
    (h1 : ∀ w, E.R W w → behind .any o F w → Calls P f args w (fun e w' => ∃ v, e = .returned v ∧ le w w' ∧ K f args w' v)) (h2 : ∀ v, (∃ w, E.R W w ∧ (∀ e, F e w) ∧ K f args w v) → wpFreeD E P ops .any W K Q rest (k + 1) (a.put o.dst v) (F.with k (fun w => K f args w v))) : wpFreeD E P ops .any W K Q (o :: rest) k a F := by
  refine ⟨K f args, ⟨hm, .inl ⟨hw, fun w hw hbe => ?_⟩⟩, fun v hv => h2 v hv⟩
  rw [run_enter hop hf hb hn ha]
  refine ⟨E.refl w, (h1 w hw hbe).mono ?_, fun _ _ h => h⟩
  rintro e w' ⟨v, rfl, hl, hk⟩
  exact ⟨v, rfl, E.of_le hl, hk⟩
theorem wpFreeD_madeW (hwt : Region.wanted o (yielded ops a.tmps) = true) (f : Nat → Value) (t : TypeId) (cs : Array Value) (hr : ∀ w, (execOp a.eval o).run P w = .ok (.value (f w.heap.size)) (w.alloc (.cells cs t)))
    (h : ∀ b, wpFreeD leX P ops .any W K Q rest (k + 1) (a.put o.dst (f b)) (F.with k (fun w => ∃ b', f b = f b' ∧ Row w b' t cs))) : wpFreeD leX P ops .any W K Q (o :: rest) k a F := by
  refine ⟨fun w v => ∃ b', v = f b' ∧ Row w b' t cs, ⟨fun v w w' hw hv => ?_, .inl ⟨hwt, fun w hw _ => ?_⟩⟩, fun v hv => ?_⟩
  · obtain ⟨b', e, hrow⟩ := hv
    exact ⟨b', e, hrow.le hw⟩
  · rw [hr w]
    exact ⟨le_alloc w _, w.heap.size, rfl, Row.new w t cs⟩
  · obtain ⟨w, _, _, b, rfl, _⟩ := hv
    exact h b
theorem wpFreeD_load1 (hg : o.guard = none) {ty : TypeId} {x : Operand} (hop : o.op = .load ty x) {p : Addr} (hx : a.eval x = .pointer (some p)) {v : Value} (hv : ∀ w, E.R W w → w.cell? p = some v) (hu : ∀ w, (isAgg ty).run P w = .ok false w)
    (h : wpFreeD E P ops .any W K Q rest (k + 1) (a.put o.dst v) (F.with k (fun _ => True))) : wpFreeD E P ops .any W K Q (o :: rest) k a F := by
  refine wpFreeD_one hg v (fun w hw => ?_) h
  have hl : (Instr.loadAt ty (.pointer (some p))).run P w = .ok v w := by
    simp [Instr.loadAt, Instr.sureAddr, loadVar, hu, hv w hw]
  simp [execOp, hop, hx, hl, Result.andThen]
theorem wpFreeD_load1W (hw : Region.wanted o (yielded ops a.tmps) = true) {ty : TypeId} {x : Operand} (hop : o.op = .load ty x) {p : Addr} (hx : a.eval x = .pointer (some p)) {v : Value} (hv : ∀ w, E.R W w → w.cell? p = some v) (hu : ∀ w, (isAgg ty).run P w = .ok false w)
    (h : wpFreeD E P ops .any W K Q rest (k + 1) (a.put o.dst v) (F.with k (fun _ => True))) : wpFreeD E P ops .any W K Q (o :: rest) k a F := by
  refine wpFreeD_oneW hw v (fun w hw => ?_) h
  have hl : (Instr.loadAt ty (.pointer (some p))).run P w = .ok v w := by
    simp [Instr.loadAt, Instr.sureAddr, loadVar, hu, hv w hw]
  simp [execOp, hop, hx, hl, Result.andThen]
theorem wpFreeD_indexW0 (hg : o.guard = none) {t : TypeId} {x y : Operand} (hop : o.op = .indexAddr t x y) {b off n cap sz i : Nat} {kk : IntKind} {e : TypeId} (hx : a.eval x = .slice (some ⟨b, off, none⟩) n cap) (hy : a.eval y = .int kk (i : Int)) (hu : P.underlying t = some (.slice e)) (hs : (P.info? e).map (·.size) = some sz) (hi : i < n)
    (h : wpFreeD E P ops .any W K Q rest (k + 1) (a.put o.dst (.pointer (some ⟨b, off + i * sz, none⟩))) (F.with k (fun _ => True))) : wpFreeD E P ops .any W K Q (o :: rest) k a F :=
  wpFreeD_indexW hg hop hx hy hu hs hi (by rw [add_none]; exact h)
theorem wpFreeD_lenR (hg : o.guard = none) {x : Operand} {t : TypeId} (hop : o.op = Op.call { callee := Callee.builtin Builtin.len, args := #[x], argTypes := #[t] }) {v : Value} (hx : a.eval x = v) {e : TypeId} (hu : P.underlying t = some (.slice e)) {w1 : World} {B : Nat} {y : Nat → Nat} {n : Nat} (hv : RdS w1 B v y n)
    (h : wpFreeD E P ops .any W K Q rest (k + 1) (a.put o.dst (.int .i64 n)) (F.with k (fun _ => True))) : wpFreeD E P ops .any W K Q (o :: rest) k a F := by
  refine wpFreeD_one hg (.int .i64 n) (fun w _ => ?_) h
  rcases hv.form with ⟨rfl, rfl⟩ | ⟨ad, cap, rfl, _, _⟩
  all_goals
    simp [execOp, hop, hx, Result.andThen, resolve, invoke, builtin, Builtin.len_, run_underlying hu]
    try rfl
end
end Go.Fk

/- Pieces for bows and jets: guarded loads of structs in drawn regions; pairs of rings and of numbers. Nothing here names a program. -/
namespace Go.Fk
open Go Go.RowKit
section
variable {P : Program} {ops : Array Oper} {W : World} {K : FuncId → Array Value → World → Value → Prop} {Q : Act → World → Prop} {F : Facts} {k : Nat} {o : Oper} {rest : List Oper} {a : Act}
theorem wpFreeD_loadGW {w0 w1 : World} {L : List Fact} {n : Nat} (hF : Frg w0 w1 L) (hW : W = w1.drewN n) (hw : Region.wanted o (yielded ops a.tmps) = true) {ty : TypeId} {x : Operand} (hop : o.op = .load ty x) {g : Nat} (hx : a.eval x = .pointer (some ⟨g, 0, none⟩)) {t : TypeId} {cs : Array Value} {d : TypeDesc}
    (hm : rowF g t cs ∈ L) (hu : P.underlying ty = some d) (hd : (match d with | .struct _ | .array _ _ => true | _ => false) = true) {m : Nat} (hi : (P.info? ty).map (·.size) = some m) (hs : cs.size = m)
    (h : wpFreeD leX P ops .any W K Q rest (k + 1) (a.put o.dst (.agg cs)) (F.with k (fun _ => True))) : wpFreeD leX P ops .any W K Q (o :: rest) k a F := by
  subst hW hs
  refine wpFreeD_oneW hw (.agg cs) (fun w hw => ?_) h
  have := run_loadVar_row (P := P) w g t ty cs (0, 0) _ (((hF.row hm).drewN n).le hw) hu hd hi
  simp [execOp, hop, hx, Instr.loadAt, Instr.sureAddr, this, Result.andThen]
theorem wpFreeD_indexWG {E : Ext} (hw : Region.wanted o (yielded ops a.tmps) = true) {t : TypeId} {x y : Operand} (hop : o.op = .indexAddr t x y) {b off n cap sz i : Nat} {kk : IntKind} {e : TypeId} (hx : a.eval x = .slice (some ⟨b, off, none⟩) n cap) (hy : a.eval y = .int kk (i : Int)) (hu : P.underlying t = some (.slice e)) (hs : (P.info? e).map (·.size) = some sz) (hi : i < n)
    (h : wpFreeD E P ops .any W K Q rest (k + 1) (a.put o.dst (.pointer (some ⟨b, off + i * sz, none⟩))) (F.with k (fun _ => True))) : wpFreeD E P ops .any W K Q (o :: rest) k a F := by
  refine wpFreeD_oneW hw (.pointer (some ⟨b, off + i * sz, none⟩)) (fun w _ => ?_) h
  cases hq : P.info? e with
  | none => simp [hq] at hs
  | some inf =>
    have hz : inf.size = sz := by simpa [hq] using hs
    have h2 : (i : Int) < (n : Int) := by omega
    simp [execOp, hop, hx, hy, Instr.indexAt, asIntOf, run_underlying hu, sizeOf, typeInfo, hq, hz, h2, hi, Result.andThen, add_none]
end
theorem Row.at_part {w : World} {g : Nat} {t : TypeId} {cs : Array Value} (R : Row w g t cs) {f : Nat} {ds : List Value} (hp : ∀ j, j < ds.length → cs[f + j]? = ds[j]?) : ∀ (j : Nat) (v : Value), ds[j]? = some v → w.cell? ((⟨g, f, none⟩ : Addr).add j) = some v := fun j v hv => by
  rw [add_none, R.cell?, hp j (List.getElem?_eq_some_iff.1 hv).1, hv]
theorem CD.RdN.mono {w : World} {B B' : Nat} (hB : B ≤ B') : ∀ {c : CD} {v : Value}, c.RdN w B v → c.RdN w B' v := by
  intro c
  induction c with
  | sl wd n x ih =>
    intro v h
    rcases h with h | ⟨b, o, cap, h1, h2, h3, h4⟩
    · exact .inl h
    · exact .inr ⟨b, o, cap, h1, h2, h3, fun i hi => by obtain ⟨h5, u, h6, h7⟩ := h4 i hi; exact ⟨by omega, u, h6, ih i h7⟩⟩
  | _ => intro v h; exact h
theorem bool_ft (b : Bool) : b = false ∨ b = true := by cases b <;> simp
/-- A slice of floats, as a tree. -/
def slT (x : Nat → Nat) (n : Nat) : CD := .sl 1 n (fun i => .fcn .f32 (x i))
theorem slT_rds {x : Nat → Nat} {n B : Nat} {w : World} {s : Value} (h : (slT x n).RdN w B s) : RdS w B s x n := h.rd.rds
theorem CD.RdN.congr {w : World} {B : Nat} : ∀ {c d : CD} {v : Value}, c.RdN w B v → c.Eqv d → d.RdN w B v := by
  intro c
  induction c with
  | sl wd n x ih =>
    intro d v h he
    obtain ⟨y, rfl, hy⟩ := he
    rcases h with h | ⟨b, o, cap, h1, h2, h3, h4⟩
    · exact .inl h
    · exact .inr ⟨b, o, cap, h1, h2, h3, fun i hi => by obtain ⟨h5, u, h6, h7⟩ := h4 i hi; exact ⟨h5, u, h6, ih i h7 (hy i hi)⟩⟩
  | _ => intro d v h he; cases he; exact h
/-- A copy of a slice of floats. -/
theorem slT_cp {n : Nat} {x : Nat → CD} (h : ∀ i, i < n → (x i).flk = some .f32) : (CD.sl 1 n x).cp.Eqv (slT (fun i => (x i).fx) n) :=
  ⟨_, rfl, fun i hi => by show (x i).cn.Eqv (.fcn .f32 (x i).fx); rw [CD.cn_fl (h i (by simpa using hi))]; exact CD.Eqv.refl _⟩
/-- Two rings. -/
def rg2 (x y : Nat → Nat) (nx ny : Nat) (j k : Int) : Nat → CD
  | 0 => slT x nx
  | 1 => .int .i64 j
  | 2 => slT y ny
  | _ => .int .i64 k
theorem rg2_ok (x y : Nat → Nat) (nx ny : Nat) (j k : Int) : RgsOk (rg2 x y nx ny j k) 2 := fun i hi => by
  match i, hi with
  | 0, _ => exact ⟨⟨_, rfl, fun _ _ => rfl, rfl⟩, rfl⟩
  | 1, _ => exact ⟨⟨_, rfl, fun _ _ => rfl, rfl⟩, rfl⟩
def rngB (x : Nat → Nat) (n : Nat) (j : Int) : Bool := okRing n j && finB x n
theorem rg2_all (x y : Nat → Nat) (nx ny : Nat) (j k : Int) : allB (rgOk (rg2 x y nx ny j k)) 2 = (rngB x nx j && rngB y ny k) := by
  simp [allB, List.range_succ]; rfl
theorem rg2_rd {x y : Nat → Nat} {nx ny B b : Nat} {j k : Int} {w : World} {s t : Value} {ty : TypeId} (hs : (slT x nx).RdN w B s) (ht : (slT y ny).RdN w B t) (wj : (Lit.int .i64 j).wf = true) (wk : (Lit.int .i64 k).wf = true) (R : Row w b ty #[s, .int .i64 j, t, .int .i64 k]) :
    (CD.sl 2 2 (rg2 x y nx ny j k)).RdN w (max B (b + 1)) (.slice (some ⟨b, 0, none⟩) 2 2) := by
  refine .inr ⟨b, 0, 2, rfl, Nat.le_refl _, by decide, fun i hi => ⟨by omega, ?_⟩⟩
  match i, hi with
  | 0, _ => exact ⟨s, R.cell? 0, hs.mono (by omega)⟩
  | 1, _ => exact ⟨_, R.cell? 1, rfl, wj⟩
  | 2, _ => exact ⟨t, R.cell? 2, ht.mono (by omega)⟩
  | 3, _ => exact ⟨_, R.cell? 3, rfl, wk⟩
/-- Two numbers. -/
def two (m o : Nat) : Nat → Nat := fun i => match i with | 0 => can .f32 m | _ => can .f32 o
theorem fin_two (m o : Nat) : finB (two m o) 2 = (fin m && fin o) := by
  have e : ∀ z, fin (can .f32 z) = fin z := fun z => fin_can (can_can _ _)
  simp [finB, two, List.range_succ, e]
theorem two_rd {m o b : Nat} {w : World} {ty : TypeId} (hm : fits .f32 m) (ho : fits .f32 o) (R : Row w b ty #[.float .f32 m, .float .f32 o]) : RdS w (b + 1) (.slice (some ⟨b, 0, none⟩) 2 2) (two m o) 2 :=
  .inr ⟨⟨b, 0, none⟩, 2, rfl, Nat.le_refl _, by decide, fun i hi => ⟨Nat.lt_succ_self _, by rw [add_none, Nat.zero_add]; match i, hi with
    | 0, _ => exact ⟨m, R.cell? 0, hm, rfl⟩
    | 1, _ => exact ⟨o, R.cell? 1, ho, rfl⟩⟩⟩
/-- A new row that is known. -/
def OutSl (t : TypeId) (n : Nat) (cs : Array Value) (w : World) (e : Ending) (w' : World) : Prop := ∃ g, e = .returned (.slice (some ⟨g, 0, none⟩) n n) ∧ w.heap.size ≤ g ∧ Row w' g t cs ∧ le w w'
theorem Frg.rowS {w0 w w' : World} {L : List Fact} (h : Frg w0 w L) (k : Below w.heap.size w w') {g : Nat} {t : TypeId} {cs : Array Value} (hg : w.heap.size ≤ g) (hr : Row w' g t cs) : Frg w0 w' (rowF g t cs :: L) :=
  h.push k hr hg hr.lt
end Go.Fk

/- Copies of two rings, in one region. Nothing here names a program. -/
namespace Go.Fk
open Go Go.RowKit
theorem own_same {w w2 : World} {B B' lo hi : Nat} {s u : Value} {x x' : Nat → Nat} {n n' : Nat} (h : RdS w B s x n) (h' : RdS w B' s x' n') (o : OwnS w2 lo hi u x n) : OwnS w2 lo hi u x' n' := by
  obtain ⟨rfl, e⟩ := h.uniq h'
  rcases o with o | ⟨b, q, cap, cs, h1, h2, h3, h4, h5, h6, h7⟩
  · exact .inl o
  · exact .inr ⟨b, q, cap, cs, h1, h2, h3, h4, h5, h6, fun i hi => by obtain ⟨y, e1, e2, e3⟩ := h7 i hi; exact ⟨y, e1, e2, e3.trans (e i hi)⟩⟩
theorem own_one {w : World} {lo hi : Nat} {s : Value} {x : Nat → Nat} {n : Nat} (h : OwnS w lo hi s x n) : s.oneCell' = true := by
  rcases h with ⟨rfl, _⟩ | ⟨_, _, _, _, rfl, _⟩ <;> rfl
theorem Row.at_all {w : World} {g : Nat} {t : TypeId} {ds : List Value} (R : Row w g t ds.toArray) : ∀ (j : Nat) (v : Value), ds[j]? = some v → w.cell? ((⟨g, 0, none⟩ : Addr).add j) = some v := fun j v hv => by
  rw [add_none, R.cell?, Nat.zero_add, List.getElem?_toArray, hv]
/-- Two slices, each in a block of its own. -/
def Two (lo : Nat) (x : Nat → Nat) (nx : Nat) (y : Nat → Nat) (ny : Nat) (s t : Value) (w : World) : Prop := ∃ b d, OwnS w b (b + 1) s x nx ∧ OwnS w d (d + 1) t y ny ∧ b ≠ d ∧ lo ≤ b ∧ b < w.heap.size ∧ lo ≤ d ∧ d < w.heap.size
def FinC (lo : Nat) (x : Nat → Nat) (nx : Nat) (y : Nat → Nat) (ny : Nat) (mkC : Value → Value → Array Value) (w : World) (cs : Array Value) : Prop := ∃ s t, cs = mkC s t ∧ Two lo x nx y ny s t w
theorem Two.le {lo : Nat} {x : Nat → Nat} {nx : Nat} {y : Nat → Nat} {ny : Nat} {s t : Value} {w w' : World} (h : Two lo x nx y ny s t w) (hl : Fk.le w w') : Two lo x nx y ny s t w' := by
  obtain ⟨b, d, h1, h2, h3, h4, h5, h6, h7⟩ := h
  exact ⟨b, d, h1.le hl, h2.le hl, h3, h4, Nat.lt_of_lt_of_le h5 hl.size, h6, Nat.lt_of_lt_of_le h7 hl.size⟩
theorem Two.lo {lo lo' : Nat} {x : Nat → Nat} {nx : Nat} {y : Nat → Nat} {ny : Nat} {s t : Value} {w : World} (h : Two lo x nx y ny s t w) (hl : lo' ≤ lo) : Two lo' x nx y ny s t w := by
  obtain ⟨b, d, h1, h2, h3, h4, h5, h6, h7⟩ := h
  exact ⟨b, d, h1, h2, h3, by omega, h5, by omega, h7⟩
theorem Two.chg {g : Nat} {x : Nat → Nat} {nx : Nat} {y : Nat → Nat} {ny : Nat} {s t : Value} {w w' : World} (h : Two (g + 1) x nx y ny s t w) (hc : Chg (· = g) w w') : Two (g + 1) x nx y ny s t w' := by
  obtain ⟨b, d, h1, h2, h3, h4, h5, h6, h7⟩ := h
  exact ⟨b, d, h1.chgS hc (fun i h8 h9 e => by omega), h2.chgS hc (fun i h8 h9 e => by omega), h3, h4, Nat.lt_of_lt_of_le h5 hc.size, h6, Nat.lt_of_lt_of_le h7 hc.size⟩
theorem FinC_le (lo : Nat) (x : Nat → Nat) (nx : Nat) (y : Nat → Nat) (ny : Nat) (mkC : Value → Value → Array Value) : ∀ w w' cs, Fk.le w w' → FinC lo x nx y ny mkC w cs → FinC lo x nx y ny mkC w' cs := fun _ _ _ hl ⟨s, t, h, h2⟩ => ⟨s, t, h, h2.le hl⟩
/-- A copied ring: its block came behind z. -/
def Cp (g : Nat) (x : Nat → Nat) (n : Nat) (j : Int) (z : Nat) (w : World) (v : Value) : Prop := ∃ s b, v = .agg #[s, .int .i64 j] ∧ OwnS w b (b + 1) s x n ∧ z ≤ b ∧ b < w.heap.size ∧ g < z
theorem Cp.mk {g : Nat} {x : Nat → Nat} {n : Nat} {j : Int} {w w' : World} {s : Value} (h : OwnS w' w.heap.size w'.heap.size s x n) (hn : 1 ≤ n) (hg : g < w.heap.size) : Cp g x n j w.heap.size w' (.agg #[s, .int .i64 j]) := by
  obtain ⟨b, h1, h2, h3⟩ := h.tight hn
  exact ⟨s, b, rfl, h3, h1, h2, hg⟩
theorem Cp.le {g : Nat} {x : Nat → Nat} {n : Nat} {j : Int} {z : Nat} {w w' : World} {v : Value} (h : Cp g x n j z w v) (hl : Fk.le w w') : Cp g x n j z w' v := by
  obtain ⟨s, b, h1, h2, h3, h4, h5⟩ := h
  exact ⟨s, b, h1, h2.le hl, h3, Nat.lt_of_lt_of_le h4 hl.size, h5⟩
section
variable {g : Nat} {t : TypeId} {m : Nat} {Fin : World → Array Value → Prop} {hm : ∀ w w' cs, le w w' → Fin w cs → Fin w' cs}
theorem cp_outX {x : Nat → Nat} {n : Nat} {j : Int} {z : Nat} {w w' : World} {v : Value} (h : Cp g x n j z w v) (hw : (outX g t m Fin hm).R w w') : Cp g x n j z w' v := by
  obtain ⟨s, b, h1, h2, h3, h4, h5⟩ := h
  exact ⟨s, b, h1, own_outX h2 hw (.inl (by omega)), h3, Nat.lt_of_lt_of_le h4 hw.1.size, h5⟩
theorem two_outX {x : Nat → Nat} {nx : Nat} {y : Nat → Nat} {ny : Nat} {s u : Value} {w w' : World} (h : Two (g + 1) x nx y ny s u w) (hw : (outX g t m Fin hm).R w w') : Two (g + 1) x nx y ny s u w' := h.chg hw.1
theorem OwnS.block_eq {w w' : World} {b d : Nat} {s : Value} {x x' : Nat → Nat} {n n' : Nat} (h : OwnS w b (b + 1) s x n) (h' : OwnS w' d (d + 1) s x' n') (hn : 1 ≤ n) : b = d := by
  rcases h with ⟨_, h⟩ | ⟨b1, o, cap, cs, h1, h2, h3, h4, h5, _⟩
  · omega
  · rcases h' with ⟨e, h⟩ | ⟨b2, o', cap', cs', h1', h2', h3', h4', h5', _⟩
    · rw [h1] at e; cases e
    · rw [h1] at h1'
      simp only [Value.slice.injEq, Option.some.injEq, Addr.mk.injEq] at h1'
      omega
/-- Two copies that did not run at one time lie apart. -/
theorem Cp.two {E : Ext} {W w : World} {x y : Nat → Nat} {nx ny : Nat} {j k : Int} {s u : Value} {zs : Nat → Nat} {F : FactsZ} {p q : Nat} (hx : 1 ≤ nx) (hy : 1 ≤ ny)
    (h1 : Cp g x nx j (zs p) w (.agg #[s, .int .i64 j])) (h2 : Cp g y ny k (zs q) w (.agg #[u, .int .i64 k]))
    (hc : beforeZ E W zs F w p q ∨ beforeZ E W zs F w q p)
    (e1 : ∀ w2, F p (zs p) w2 → Cp g x nx j (zs p) w2 (.agg #[s, .int .i64 j])) (e2 : ∀ w2, F q (zs q) w2 → Cp g y ny k (zs q) w2 (.agg #[u, .int .i64 k])) : Two (g + 1) x nx y ny s u w := by
  obtain ⟨s', b, ev, o1, a1, a2, a3⟩ := h1
  obtain rfl : s = s' := by simpa using ev
  obtain ⟨u', d, eu, o2, c1, c2, c3⟩ := h2
  obtain rfl : u = u' := by simpa using eu
  refine ⟨b, d, o1, o2, ?_, by omega, a2, by omega, c2⟩
  rcases hc with ⟨w2, r1, r2, r3, r4⟩ | ⟨w2, r1, r2, r3, r4⟩
  · obtain ⟨s2, b2, ev2, p1, p2, p3, p4⟩ := e1 w2 r4
    obtain rfl : s = s2 := by simpa using ev2
    have := o1.block_eq p1 hx
    omega
  · obtain ⟨s2, b2, ev2, p1, p2, p3, p4⟩ := e2 w2 r4
    obtain rfl : u = s2 := by simpa using ev2
    have := o2.block_eq p1 hy
    omega
end
theorem RdS.chgG {w W w' : World} {B : Nat} {s : Value} {x : Nat → Nat} {n : Nat} (h : RdS w B s x n) (hl : Fk.le w W) (hc : Chg (· = w.heap.size) W w') : RdS w' B s x n := by
  rcases h with h | ⟨a, cap, h1, h2, h3, h4⟩
  · exact .inl h
  · refine .inr ⟨a, cap, h1, h2, h3, fun i hi => ?_⟩
    obtain ⟨h5, y, h6, h7⟩ := h4 i hi
    have hlt : (a.add i).block < w.heap.size := World.block_lt_of_cell? w _ h6
    exact ⟨h5, y, (cell_of_heap (hc.block _ (Nat.lt_of_lt_of_le hlt hl.size) (by omega))).trans ((Below.cell hl hlt).trans h6), h7⟩
theorem two_one {lo : Nat} {x : Nat → Nat} {nx : Nat} {y : Nat → Nat} {ny : Nat} {s t : Value} {w : World} (h : Two lo x nx y ny s t w) : s.oneCell' = true ∧ t.oneCell' = true := by
  obtain ⟨b, d, h1, h2, _⟩ := h
  exact ⟨own_one h1, own_one h2⟩
end Go.Fk

/- Copies of rings; 'PushSample' of both. -/
namespace Go.Fk
open Go Go.RowKit
section
variable {P : Program} {ops : Array Oper} {w : World} {K : FuncId → Array Value → Value → Prop} {Q : Act → Prop} {o : Oper} {rest : List Oper} {a : Act}
theorem wpLoose_nilP (hg : o.guard = none) {x : Operand} (hop : o.op = Op.nilCheck x) {ad : Addr} (hx : a.eval x = .pointer (some ad))
    (hK : wpLoose P ops (fun w' => ∃ m, w' = w.drewN m) K Q rest (a.put o.dst (.pointer (some ad)))) : wpLoose P ops (fun w' => ∃ m, w' = w.drewN m) K Q (o :: rest) a := by
  refine wpLoose_any hg (· = .pointer (some ad)) (fun n => ?_) (by rintro v rfl; exact hK)
  simp [execOp, hop, hx, within, Result.andThen]
  exact ⟨_, rfl⟩
theorem wpLoose_len (hg : o.guard = none) {x : Operand} {t : TypeId} (hop : o.op = Op.call { callee := Callee.builtin Builtin.len, args := #[x], argTypes := #[t] }) {e : TypeId} (hu : P.underlying t = some (.slice e)) {ao : Option Addr} {n c : Nat} (hx : a.eval x = .slice ao n c)
    (hK : wpLoose P ops (fun w' => ∃ m, w' = w.drewN m) K Q rest (a.put o.dst (.int .i64 n))) : wpLoose P ops (fun w' => ∃ m, w' = w.drewN m) K Q (o :: rest) a := by
  refine wpLoose_any hg (· = .int .i64 n) (fun m => ?_) (by rintro v rfl; exact hK)
  simp [execOp, hop, hx, within, Result.andThen, resolve, invoke, builtin, Builtin.len_, run_underlying hu]
  exact ⟨⟨_, rfl⟩, rfl⟩
end
/-- A ring's samples behind a push. -/
def pushX (x : Nat → Nat) (j a : Nat) : Nat → Nat := fun i => if i = j then can .f32 a else x i
def OutPu (lo hi : Nat) (s : Value) (x : Nat → Nat) (n j a g f : Nat) (t : TypeId) (cs : Array Value) (w : World) (e : Ending) (w' : World) : Prop :=
  ∃ o, e = .returned (.float .f32 o) ∧ can .f32 o = x j ∧ fits .f32 o ∧ Row w' g t (cs.setIfInBounds (f + 1) (.int .i64 (((j + 1) % n : Nat) : Int))) ∧ OwnS w' lo hi s (pushX x j a) n ∧ Chg (fun i => i = g ∨ lo ≤ i ∧ i < hi) w w'
theorem own_set {w : World} {lo hi b o cap n : Nat} {ds : Array Value} {x : Nat → Nat} (j a : Nat) (hr : Row w b 25 (ds.setIfInBounds (o + j) (.float .f32 a))) (hc : n ≤ cap) (hm : cap ≤ maxLen) (hb : lo ≤ b) (hb' : b < hi) (hj : o + j < ds.size) (ha : fits .f32 a)
    (hx : ∀ i, i < n → ∃ y, ds[o + i]? = some (.float .f32 y) ∧ fits .f32 y ∧ can .f32 y = x i) : OwnS w lo hi (.slice (some ⟨b, o, none⟩) n cap) (pushX x j a) n := by
  refine .inr ⟨b, o, cap, _, rfl, hc, hm, hb, hb', hr, fun i hi' => ?_⟩
  by_cases e : i = j
  · subst e
    exact ⟨a, by rw [Array.getElem?_setIfInBounds_self_of_lt hj], ha, by simp [pushX]⟩
  · obtain ⟨y, e1, e2, e3⟩ := hx i hi'
    exact ⟨y, by rw [Array.getElem?_setIfInBounds_ne (by omega)]; exact e1, e2, by simp [pushX, e, e3]⟩
end Go.Fk
namespace Go.Proofs.Ythjdklolbkhbfaa
open Go.RowKit Go.Fk
theorem kindF : ∀ w : World, (isAgg 22).run Try.prog w = .ok false w := fun w => by kernel_rfl
theorem kindI : ∀ w : World, (isAgg 2).run Try.prog w = .ok false w := fun w => by kernel_rfl
set_option maxRecDepth 100000 in
set_option maxHeartbeats 2000000 in
theorem i_copiedT (B : Nat) (s : Value) (x : Nat → Nat) (n : Nat) (k : Int) (w : World) (hs : RdS w B s x n) (h1 : 1 ≤ n) (h2 : n ≤ 1024) :
    Calls Try.prog 74 #[.agg #[s, .int .i64 k]] w fun e w' => ∃ q cap cs, e = .returned (.agg #[.slice (some ⟨q, 0, none⟩) n cap, .int .i64 k]) ∧ w.heap.size ≤ q ∧ Row w' q 25 cs ∧ OwnS w' q (q + 1) (.slice (some ⟨q, 0, none⟩) n cap) x n ∧ le w w' := by
  obtain ⟨a, cap, y, rfl, hc, hm, hx⟩ := hs.raw h1
  have Hx := hid hx; clear hx hs
  unfold maxLen at hm
  obtain ⟨i, hi, hi1, hi2, hi3⟩ := info36
  have HI := hid hi; have HI1 := hid hi1; have HI2 := hid hi2; have HI3 := hid hi3; clear hi hi1 hi2 hi3
  have F := ((Frg.nil w).box 35 #[.slice (some a) n cap, .int .i64 k]).box 35 #[.slice none 0 0, .int .i64 0]
  simp only [World.size_alloc] at F
  go_enter Try.func74, Try.ntmps74
  go_wp2_with fail
  obtain ⟨W, hW⟩ : ∃ W, W = (w.alloc (.cells #[.slice (some a) n cap, .int .i64 k] 35)).alloc (.cells #[.slice none 0 0, .int .i64 0] 35) := ⟨_, rfl⟩
  rw [← hW] at F ⊢
  have hz : W.heap.size = w.heap.size + 1 + 1 := by rw [hW]; simp
  clear hW
  have HZ := hid hz; clear hz
  have G := F.drewN 1
  have hcl : ∀ j, j < n → (W.drewN 1).cell? (a.add j) = some (.float .f32 (y j)) ∧ a.block < w.heap.size := fun j hj => by
    have e1 := (Hx.out j hj).1
    have hlt : (a.add j).block < w.heap.size := World.block_lt_of_cell? w _ e1
    exact ⟨(Below.cell G.below hlt).trans e1, by rw [add_block] at hlt; exact hlt⟩
  have HC := hid hcl; clear hcl
  refine region_freeD (E := outX (w.heap.size + 1) 35 2 (FinR w.heap.size 25 n y k) (FinR_le _ _ _ _ _)) (fun _ _ _ _ => True) (by kernel_rfl) (by kernel_rfl) ?_
  refine wpFreeD_one rfl (.pointer (some ⟨w.heap.size, 0, none⟩)) (fun w _ => by kernel_rfl) ?_
  simp only [Act.put, List.setIfInBounds_toArray, List.set_cons_succ, List.set_cons_zero]
  refine wpFreeD_cell rfl rfl rfl ((G.row m1).cell? 0) (by simp) kindF ?_
  simp only [Act.put, List.setIfInBounds_toArray, List.set_cons_succ, List.set_cons_zero]
  refine wpFreeD_quiet rfl ?_
  go_big_quiet_step (fail)
  refine wpQuiet_nil ?_
  refine wpFreeD_one rfl (.pointer (some ⟨w.heap.size, 0, none⟩)) (fun w _ => by kernel_rfl) ?_
  simp only [Act.put, List.setIfInBounds_toArray, List.set_cons_succ, List.set_cons_zero]
  refine wpFreeD_cell rfl rfl rfl ((G.row m1).cell? 0) (by simp) kindF ?_
  simp only [Act.put, List.setIfInBounds_toArray, List.set_cons_succ, List.set_cons_zero]
  refine wpFreeD_append rfl rfl Try.underlying22 HI.out HI1.out HI2.out HI3.out rfl rfl h1 (by omega) (fun j hj => (HC.out j hj).1) (by have := (HC.out 0 (by omega)).2; omega) (fun q c' => ?_) (by have := G.row m0; exact this.lt)
  simp only [Act.put, List.setIfInBounds_toArray, List.set_cons_succ, List.set_cons_zero]
  refine wpFreeD_one rfl (.pointer (some ⟨w.heap.size, 1, none⟩)) (fun w _ => by kernel_rfl) ?_
  simp only [Act.put, List.setIfInBounds_toArray, List.set_cons_succ, List.set_cons_zero]
  refine wpFreeD_cell rfl rfl rfl ((G.row m1).cell? 1) (by simp) kindI ?_
  simp only [Act.put, List.setIfInBounds_toArray, List.set_cons_succ, List.set_cons_zero]
  refine wpFreeD_carry rfl (.agg #[.slice (some ⟨q, 0, none⟩) n c', .int .i64 k]) (fun w _ => by kernel_rfl) (fun w' => ∃ B, (W.drewN 1).heap.size ≤ B ∧ w'.ownsRow B 25 1 (.slice (some ⟨q, 0, none⟩) n c') n (flist y n) ∧ w.heap.size + 1 < B) (fun w1 w2 hw ⟨B', e1, e2, e3⟩ => ⟨B', e1, ownsRow_out hw e2 e3, e3⟩) (fun w1 hw hb => (hb ⟨5, Ground.data⟩ (by simp) (by kernel_rfl)).1.1.2 rfl) ?_
  simp only [Act.put, List.setIfInBounds_toArray, List.set_cons_succ, List.set_cons_zero]
  refine wpFreeD_out rfl rfl rfl (cells := #[.slice (some ⟨q, 0, none⟩) n c', .int .i64 k]) rfl rfl (G.row m0) rfl (fun w1 w2 hw hb hch => ?_) infoRing rfl (by simp [Value.oneCell']) ?_
  · obtain ⟨B', e1, e2, e3⟩ := (hb ⟨8, Ground.data⟩ (by simp) (by kernel_rfl)).2 rfl
    exact ⟨_, rfl, B', by have := G.size; omega, ownsRow_ch hch e2 e3⟩
  refine wpFreeD_nil (fun w3 hw3 hF => ?_)
  obtain ⟨cs, hr, s', rfl, B', hB', ho⟩ := (hF 9).2 rfl
  have hle : le w w3 := G.below.trans (hw3.1.below (B := w.heap.size) (fun k e => by omega) G.size)
  obtain ⟨q9, cap9, cs9, rfl, hq9, hr9, ho9⟩ := own_tight ho h1 (fun j hj => (Hx.out j hj).2)
  go_wp2
  exact bodyPost_ret (results_row1 rfl _ _ _ _ _ rfl hr Try.underlying35 rfl infoRing) rfl ⟨q9, cap9, cs9, rfl, Nat.le_trans hB' hq9, hr9, ho9, hle⟩
theorem i_copied (B : Nat) (s : Value) (x : Nat → Nat) (n : Nat) (k : Int) (w : World) (hs : RdS w B s x n) (h1 : 1 ≤ n) (h2 : n ≤ 1024) :
    Calls Try.prog 74 #[.agg #[s, .int .i64 k]] w fun e w' => ∃ s', e = .returned (.agg #[s', .int .i64 k]) ∧ OwnS w' w.heap.size w'.heap.size s' x n ∧ le w w' := by
  refine (i_copiedT B s x n k w hs h1 h2).mono ?_
  rintro e w' ⟨q, cap, cs, rfl, hq, hr, ho, hl⟩
  exact ⟨_, rfl, ho.mono hq hr.lt, hl⟩
set_option maxRecDepth 100000 in
set_option maxHeartbeats 2000000 in
theorem s_l02Copy (B : Nat) (s : Value) (x : Nat → Nat) (n : Nat) (k : Int) (g f : Nat) (w : World) (hs : RdS w B s x n) (c0 : w.cell? ⟨g, f, none⟩ = some s) (c1 : w.cell? ⟨g, f + 1, none⟩ = some (.int .i64 k)) (h1 : 1 ≤ n) (h2 : n ≤ 1024) :
    Calls Try.prog 45 #[.pointer (some ⟨g, f, none⟩)] w fun e w' => ∃ s', e = .returned (.agg #[s', .int .i64 k]) ∧ OwnS w' w.heap.size w'.heap.size s' x n ∧ le w w' := by
  obtain ⟨a, cap, y, rfl, hc, hm, hx⟩ := hs.raw h1
  have Hx := hid hx; clear hx hs
  have C0 := hid c0; have C1 := hid c1; clear c0 c1
  unfold maxLen at hm
  obtain ⟨i, hi, hi1, hi2, hi3⟩ := info36
  have HI := hid hi; have HI1 := hid hi1; have HI2 := hid hi2; have HI3 := hid hi3; clear hi hi1 hi2 hi3
  have F := (Frg.nil w).box 35 #[.slice none 0 0, .int .i64 0]
  have hgw : g < w.heap.size := World.block_lt_of_cell? w _ C0.out
  go_enter Try.func45, Try.ntmps45
  go_wp2_with fail
  obtain ⟨W, hW⟩ : ∃ W, W = w.alloc (.cells #[.slice none 0 0, .int .i64 0] 35) := ⟨_, rfl⟩
  rw [← hW] at F ⊢
  have hz : W.heap.size = w.heap.size + 1 := by rw [hW]; simp
  clear hW
  have HZ := hid hz; clear hz
  have G := F.drewN 1
  have D0 := hid ((Below.cell G.below (p := ⟨g, f, none⟩) hgw).trans C0.out)
  have D1 := hid ((Below.cell G.below (p := ⟨g, f + 1, none⟩) hgw).trans C1.out)
  have hcl : ∀ j, j < n → (W.drewN 1).cell? (a.add j) = some (.float .f32 (y j)) ∧ a.block < w.heap.size := fun j hj => by
    have e1 := (Hx.out j hj).1
    have hlt : (a.add j).block < w.heap.size := World.block_lt_of_cell? w _ e1
    exact ⟨(Below.cell G.below hlt).trans e1, by rw [add_block] at hlt; exact hlt⟩
  have HC := hid hcl; clear hcl
  refine region_freeD (E := outX w.heap.size 35 2 (FinR w.heap.size 25 n y k) (FinR_le _ _ _ _ _)) (fun _ _ _ _ => True) (by kernel_rfl) (by kernel_rfl) ?_
  refine wpFreeD_new rfl (fun b => .slice (some ⟨b, 0, none⟩) 0 0) (.cells #[] 25) (fun w => by simp [execOp, run_empty w _ _ i Try.underlying22 HI.out, Result.andThen]) (fun b0 => ?_)
  simp only [Act.put, List.setIfInBounds_toArray, List.set_cons_succ, List.set_cons_zero]
  refine wpFreeD_one rfl (.pointer (some ⟨g, f, none⟩)) (fun w _ => by kernel_rfl) ?_
  simp only [Act.put, List.setIfInBounds_toArray, List.set_cons_succ, List.set_cons_zero]
  refine wpFreeD_one rfl (.pointer (some ⟨g, f, none⟩)) (fun w _ => by kernel_rfl) ?_
  simp only [Act.put, List.setIfInBounds_toArray, List.set_cons_succ, List.set_cons_zero]
  refine wpFreeD_one rfl (.pointer (some ⟨g, f, none⟩)) (fun w _ => by kernel_rfl) ?_
  simp only [Act.put, List.setIfInBounds_toArray, List.set_cons_succ, List.set_cons_zero]
  refine wpFreeD_cell rfl rfl rfl D0.out (by show g ≠ _; omega) kindF ?_
  simp only [Act.put, List.setIfInBounds_toArray, List.set_cons_succ, List.set_cons_zero]
  refine wpFreeD_append rfl rfl Try.underlying22 HI.out HI1.out HI2.out HI3.out rfl rfl h1 (by omega) (fun j hj => (HC.out j hj).1) (by have := (HC.out 0 (by omega)).2; omega) (fun q c' => ?_) (by have := G.row m0; exact this.lt)
  simp only [Act.put, List.setIfInBounds_toArray, List.set_cons_succ, List.set_cons_zero]
  refine wpFreeD_one rfl (.pointer (some ⟨g, f, none⟩)) (fun w _ => by kernel_rfl) ?_
  simp only [Act.put, List.setIfInBounds_toArray, List.set_cons_succ, List.set_cons_zero]
  refine wpFreeD_one rfl (.pointer (some ⟨g, f, none⟩)) (fun w _ => by kernel_rfl) ?_
  simp only [Act.put, List.setIfInBounds_toArray, List.set_cons_succ, List.set_cons_zero]
  refine wpFreeD_one rfl (.pointer (some ⟨g, f + 1, none⟩)) (fun w _ => by kernel_rfl) ?_
  simp only [Act.put, List.setIfInBounds_toArray, List.set_cons_succ, List.set_cons_zero]
  refine wpFreeD_cell rfl rfl rfl D1.out (by show g ≠ _; omega) kindI ?_
  simp only [Act.put, List.setIfInBounds_toArray, List.set_cons_succ, List.set_cons_zero]
  refine wpFreeD_carry rfl (.agg #[.slice (some ⟨q, 0, none⟩) n c', .int .i64 k]) (fun w _ => by kernel_rfl) (fun w' => ∃ B, (W.drewN 1).heap.size ≤ B ∧ w'.ownsRow B 25 1 (.slice (some ⟨q, 0, none⟩) n c') n (flist y n) ∧ w.heap.size < B) (fun w1 w2 hw ⟨B', e1, e2, e3⟩ => ⟨B', e1, ownsRow_out hw e2 e3, e3⟩) (fun w1 hw hb => (hb ⟨5, Ground.data⟩ (by simp) (by kernel_rfl)).1.1.1.1.2 rfl) ?_
  simp only [Act.put, List.setIfInBounds_toArray, List.set_cons_succ, List.set_cons_zero]
  refine wpFreeD_out rfl rfl rfl (cells := #[.slice (some ⟨q, 0, none⟩) n c', .int .i64 k]) rfl rfl (G.row m0) rfl (fun w1 w2 hw hb hch => ?_) infoRing rfl (by simp [Value.oneCell']) ?_
  · obtain ⟨B', e1, e2, e3⟩ := (hb ⟨10, Ground.data⟩ (by simp) (by kernel_rfl)).2 rfl
    exact ⟨_, rfl, B', by have := G.size; omega, ownsRow_ch hch e2 e3⟩
  refine wpFreeD_nil (fun w3 hw3 hF => ?_)
  obtain ⟨cs, hr, s', rfl, B', hB', ho⟩ := (hF 11).2 rfl
  have hle : le w w3 := G.below.trans (hw3.1.below (B := w.heap.size) (fun k e => by omega) G.size)
  have hown := (own_of_row ho (fun j hj => (Hx.out j hj).2)).mono hB' (Nat.le_refl _)
  go_wp2
  exact bodyPost_ret (results_row1 rfl _ _ _ _ _ rfl hr Try.underlying35 rfl infoRing) rfl ⟨_, rfl, hown, hle⟩
theorem i_oldest (B : Nat) (s : Value) (x : Nat → Nat) (n j : Nat) (w : World) (hs : RdS w B s x n) (hj : j < n) (hn : n ≤ 1024) :
    Calls Try.prog 54 #[.agg #[s, .int .i64 j]] w fun e w' => ∃ y, e = .returned (.float .f32 y) ∧ can .f32 y = x j ∧ fits .f32 y ∧ le w w' := by
  obtain ⟨a, cap, y, rfl, hc, hm, hx⟩ := hs.raw (by omega)
  have Hx := hid (hx j hj); clear hx hs
  unfold maxLen at hm
  have HL := hid (le_alloc w (.cells #[.slice (some a) n cap, .int .i64 j] 35))
  have cj := (Below.cell HL.out (World.block_lt_of_cell? w _ Hx.out.1)).trans Hx.out.1
  go_enter Try.func54, Try.ntmps54
  go_wp2
  go_ret
  exact ⟨_, rfl, Hx.out.2.2, Hx.out.2.1, HL.out⟩
set_option maxRecDepth 100000 in
set_option maxHeartbeats 2000000 in
theorem s_l02Push (lo hi : Nat) (s : Value) (x : Nat → Nat) (n j a g f : Nat) (t : TypeId) (cs : Array Value) (w : World) (hs : OwnS w lo hi s x n) (hr : Row w g t cs) (e0 : cs[f]? = some s) (e1 : cs[f + 1]? = some (.int .i64 j)) (hg : ¬ (lo ≤ g ∧ g < hi)) (hj : j < n) (hn : n ≤ 1024) (ha : fits .f32 a) :
    Calls Try.prog 60 #[.pointer (some ⟨g, f, none⟩), .float .f32 a] w (OutPu lo hi s x n j a g f t cs w) := by
  rcases hs with ⟨_, rfl⟩ | ⟨b, o, cap, ds, rfl, hc, hm, hb, hb', hrow, hx⟩
  · omega
  obtain ⟨y, ey, fy, cy⟩ := hx j hj
  have c0 : w.cell? ⟨g, f, none⟩ = some (.slice (some ⟨b, o, none⟩) n cap) := (hr.cell? f).trans e0
  have c1 : w.cell? ⟨g, f + 1, none⟩ = some (.int .i64 j) := (hr.cell? (f + 1)).trans e1
  have cb : w.cell? ⟨b, o + j, none⟩ = some (.float .f32 y) := (hrow.cell? (o + j)).trans ey
  have fb := hrow.frozen (o + j)
  have fg := hr.frozen (f + 1)
  have hne : b ≠ g := fun e => hg (e ▸ ⟨hb, hb'⟩)
  have HR := hid hr; have HROW := hid hrow; have HX := hid hx; have HY := hid ey; have HC := hid cy; have E0 := hid e0; have E1 := hid e1; have HM := hid hm
  clear hr hrow hx ey cy e0 e1
  unfold maxLen at hm
  go_enter Try.func60, Try.ntmps60
  go_wp2_with fail
  refine wp_region_loose (fun _ _ _ => True) (by kernel_rfl) (by kernel_rfl) ?_
  repeat (first | (refine wpLoose_quiet rfl ?_; go_big_quiet_step (fail); refine wpQuiet_nil ?_) | (refine wpLoose_nilP rfl rfl rfl ?_; simp only [Act.put, List.setIfInBounds_toArray, List.set_cons_succ, List.set_cons_zero]))
  refine wpLoose_nil (fun m1 => ?_)
  go_wp2_with fail
  refine wp_region_tail (fun _ _ _ => True) 10 (by kernel_rfl) (by kernel_rfl) ?_; simp only [List.take_succ_cons, List.take_zero, List.drop_succ_cons, List.drop_zero]
  repeat (first | (refine wpLoose_quiet rfl ?_; go_big_quiet_step (fail); refine wpQuiet_nil ?_) | (refine wpLoose_nilP rfl rfl rfl ?_; simp only [Act.put, List.setIfInBounds_toArray, List.set_cons_succ, List.set_cons_zero]))
  refine wpLoose_nil (fun m2 => ?_)
  go_wp2_with fail
  have hne' : g ≠ b := fun e => hne e.symm
  refine wp_region_tail (fun _ _ _ => True) 14 (by kernel_rfl) (by kernel_rfl) ?_; simp only [List.take_succ_cons, List.take_zero, List.drop_succ_cons, List.drop_zero]
  repeat (first | (refine wpLoose_quiet rfl ?_; go_big_quiet_step (fail); refine wpQuiet_nil ?_) | (refine wpLoose_nilP rfl rfl rfl ?_; simp only [Act.put, List.setIfInBounds_toArray, List.set_cons_succ, List.set_cons_zero]) | (refine wpLoose_len rfl rfl Try.underlying22 rfl ?_; simp only [Act.put, List.setIfInBounds_toArray, List.set_cons_succ, List.set_cons_zero]))
  refine wpLoose_nil (fun m3 => ?_)
  go_wp2
  go_ret
  refine ⟨y, rfl, HC.out, fy, ?_, own_set j a ((((HROW.out.drewN _).set (o + j) (.float .f32 a)).drewN m3).other ⟨g, f + 1, none⟩ _ hne) hc HM.out hb hb' (Array.getElem?_eq_some_iff.1 HY.out).1 ha HX.out, ?_⟩
  · rw [show (((j + 1) % n : Nat) : Int) = ((j : Int) + 1) % (n : Int) from by simp]
    exact (((HR.out.drewN _).other ⟨b, o + j, none⟩ _ hne').drewN m3).set (f + 1) _
  · exact Chg.setCell (Chg.le (Chg.setCell (Chg.of_le (le_drewN w _)) (.inr ⟨hb, hb'⟩) _) (le_drewN _ m3)) (.inl rfl) _
set_option maxRecDepth 100000 in
set_option maxHeartbeats 2000000 in
theorem i_push (lo hi : Nat) (s : Value) (x : Nat → Nat) (n j a g f : Nat) (t : TypeId) (cs : Array Value) (w : World) (hs : OwnS w lo hi s x n) (hr : Row w g t cs) (e0 : cs[f]? = some s) (e1 : cs[f + 1]? = some (.int .i64 j)) (hg : ¬ (lo ≤ g ∧ g < hi)) (hj : j < n) (hn : n ≤ 1024) (ha : fits .f32 a) :
    Calls Try.prog 80 #[.pointer (some ⟨g, f, none⟩), .float .f32 a] w (OutPu lo hi s x n j a g f t cs w) := by
  have HO := hid (fun (w' : World) (hl : le w w') => i_oldest hi s x n j w' (hs.rd.le hl) hj hn)
  rcases hs with ⟨_, rfl⟩ | ⟨b, o, cap, ds, rfl, hc, hm, hb, hb', hrow, hx⟩
  · omega
  have hne : b ≠ g := fun e => hg (e ▸ ⟨hb, hb'⟩)
  have hne' : g ≠ b := fun e => hne e.symm
  have HR := hid hr; have HROW := hid hrow; have HX := hid hx; have E0 := hid e0; have E1 := hid e1; have HM := hid hm
  clear hr hrow hx e0 e1
  unfold maxLen at hm
  have k0 : w.cell? ⟨g, f, none⟩ = some (.slice (some ⟨b, o, none⟩) n cap) := (HR.out.cell? f).trans E0.out
  have k1 : w.cell? ⟨g, f + 1, none⟩ = some (.int .i64 j) := (HR.out.cell? (f + 1)).trans E1.out
  go_enter Try.func80, Try.ntmps80
  go_wp2_with fail
  refine (HO.out _ (le_refl _)).mono ?_
  rintro e w2 ⟨y, rfl, cy, fy, hl⟩
  obtain ⟨y0, ey, _, _⟩ := HX.out j hj
  have HY := hid (Array.getElem?_eq_some_iff.1 ey).1
  have hr2 := HR.out.le hl
  have hrow2 := HROW.out.le hl
  have c0 : w2.cell? ⟨g, f, none⟩ = some (.slice (some ⟨b, o, none⟩) n cap) := (hr2.cell? f).trans E0.out
  have c1 : w2.cell? ⟨g, f + 1, none⟩ = some (.int .i64 j) := (hr2.cell? (f + 1)).trans E1.out
  have cb : w2.cell? ⟨b, o + j, none⟩ = some (.float .f32 y0) := (hrow2.cell? (o + j)).trans ey
  have fb := hrow2.frozen (o + j)
  have fg := hr2.frozen (f + 1)
  have HR2 := hid hr2; have HROW2 := hid hrow2; have HL := hid hl; have HC := hid cy
  clear hr2 hrow2 hl ey cy
  go_wp2_with fail
  refine wp_region_tail (fun _ _ _ => True) 10 (by kernel_rfl) (by kernel_rfl) ?_; simp only [List.take_succ_cons, List.take_zero, List.drop_succ_cons, List.drop_zero]
  repeat (first | (refine wpLoose_quiet rfl ?_; go_big_quiet_step (fail); refine wpQuiet_nil ?_) | (refine wpLoose_nilP rfl rfl rfl ?_; simp only [Act.put, List.setIfInBounds_toArray, List.set_cons_succ, List.set_cons_zero]))
  refine wpLoose_nil (fun m2 => ?_)
  go_wp2_with fail
  refine wp_region_tail (fun _ _ _ => True) 14 (by kernel_rfl) (by kernel_rfl) ?_; simp only [List.take_succ_cons, List.take_zero, List.drop_succ_cons, List.drop_zero]
  repeat (first | (refine wpLoose_quiet rfl ?_; go_big_quiet_step (fail); refine wpQuiet_nil ?_) | (refine wpLoose_nilP rfl rfl rfl ?_; simp only [Act.put, List.setIfInBounds_toArray, List.set_cons_succ, List.set_cons_zero]) | (refine wpLoose_len rfl rfl Try.underlying22 rfl ?_; simp only [Act.put, List.setIfInBounds_toArray, List.set_cons_succ, List.set_cons_zero]))
  refine wpLoose_nil (fun m3 => ?_)
  go_wp2
  go_ret
  refine ⟨y, rfl, HC.out, fy, ?_, own_set j a ((((HROW2.out.drewN _).set (o + j) (.float .f32 a)).drewN m3).other ⟨g, f + 1, none⟩ _ hne) hc HM.out hb hb' HY.out ha HX.out, ?_⟩
  · rw [show (((j + 1) % n : Nat) : Int) = ((j : Int) + 1) % (n : Int) from by simp]
    exact (((HR2.out.drewN _).other ⟨b, o + j, none⟩ _ hne').drewN m3).set (f + 1) _
  · exact Chg.setCell (Chg.le (Chg.setCell (Chg.of_le (le_trans HL.out (le_drewN w2 _))) (.inr ⟨hb, hb'⟩) _) (le_drewN _ m3)) (.inl rfl) _
theorem okRing_nat {n : Nat} {k : Int} (h : okRing n k = true) : 1 ≤ n ∧ n ≤ 1024 ∧ ∃ j : Nat, k = j ∧ j < n := by
  have := okRing_iff.1 h
  exact ⟨this.1, this.2.1, k.toNat, by omega, by omega⟩
end Go.Proofs.Ythjdklolbkhbfaa

/- The kinds of filters as the program has them: 'modelOf', 'sizesOf'; 'ValidFilter' of both. -/
namespace Go.Proofs.Ythjdklolbkhbfaa
open Go.RowKit Go.Fk
/-- The value of a kind. -/
def mdl (k : Int) (a b c : Nat) : Value :=
  if k = 1 then .iface 135 (.agg #[.float .f32 a, .float .f32 b, .float .f32 c])
  else if k = 2 then .iface 136 (.agg #[.float .f32 a, .float .f32 b, .float .f32 c])
  else if k = 3 then .iface 137 (.agg #[.float .f32 a, .float .f32 b, .float .f32 c])
  else if k = 4 then .iface 138 (.agg #[.float .f32 a, .float .f32 b, .float .f32 c])
  else if k = 5 then .iface 139 (.agg #[.float .f32 a, .float .f32 b, .float .f32 c])
  else .nilIface
set_option maxRecDepth 100000 in
@[go_sem] theorem ta11 (v : Value) (w : World) : (Instr.typeAssert (.iface 135 v) 101 135 true).run Try.prog w = .ok (.tuple #[v, .bool true]) w := by rfl
set_option maxRecDepth 100000 in
@[go_sem] theorem ta12 (v : Value) (w : World) : (Instr.typeAssert (.iface 135 v) 101 136 true).run Try.prog w = .ok (.tuple #[.agg #[.float .f32 0, .float .f32 0, .float .f32 0], .bool false]) w := by rfl
set_option maxRecDepth 100000 in
@[go_sem] theorem ta13 (v : Value) (w : World) : (Instr.typeAssert (.iface 135 v) 101 137 true).run Try.prog w = .ok (.tuple #[.agg #[.float .f32 0, .float .f32 0, .float .f32 0], .bool false]) w := by rfl
set_option maxRecDepth 100000 in
@[go_sem] theorem ta15 (v : Value) (w : World) : (Instr.typeAssert (.iface 135 v) 101 139 true).run Try.prog w = .ok (.tuple #[.agg #[.float .f32 0, .float .f32 0, .float .f32 0], .bool false]) w := by rfl
set_option maxRecDepth 100000 in
@[go_sem] theorem ta21 (v : Value) (w : World) : (Instr.typeAssert (.iface 136 v) 101 135 true).run Try.prog w = .ok (.tuple #[.agg #[.float .f32 0, .float .f32 0, .float .f32 0], .bool false]) w := by rfl
set_option maxRecDepth 100000 in
@[go_sem] theorem ta22 (v : Value) (w : World) : (Instr.typeAssert (.iface 136 v) 101 136 true).run Try.prog w = .ok (.tuple #[v, .bool true]) w := by rfl
set_option maxRecDepth 100000 in
@[go_sem] theorem ta23 (v : Value) (w : World) : (Instr.typeAssert (.iface 136 v) 101 137 true).run Try.prog w = .ok (.tuple #[.agg #[.float .f32 0, .float .f32 0, .float .f32 0], .bool false]) w := by rfl
set_option maxRecDepth 100000 in
@[go_sem] theorem ta25 (v : Value) (w : World) : (Instr.typeAssert (.iface 136 v) 101 139 true).run Try.prog w = .ok (.tuple #[.agg #[.float .f32 0, .float .f32 0, .float .f32 0], .bool false]) w := by rfl
set_option maxRecDepth 100000 in
@[go_sem] theorem ta31 (v : Value) (w : World) : (Instr.typeAssert (.iface 137 v) 101 135 true).run Try.prog w = .ok (.tuple #[.agg #[.float .f32 0, .float .f32 0, .float .f32 0], .bool false]) w := by rfl
set_option maxRecDepth 100000 in
@[go_sem] theorem ta32 (v : Value) (w : World) : (Instr.typeAssert (.iface 137 v) 101 136 true).run Try.prog w = .ok (.tuple #[.agg #[.float .f32 0, .float .f32 0, .float .f32 0], .bool false]) w := by rfl
set_option maxRecDepth 100000 in
@[go_sem] theorem ta33 (v : Value) (w : World) : (Instr.typeAssert (.iface 137 v) 101 137 true).run Try.prog w = .ok (.tuple #[v, .bool true]) w := by rfl
set_option maxRecDepth 100000 in
@[go_sem] theorem ta35 (v : Value) (w : World) : (Instr.typeAssert (.iface 137 v) 101 139 true).run Try.prog w = .ok (.tuple #[.agg #[.float .f32 0, .float .f32 0, .float .f32 0], .bool false]) w := by rfl
set_option maxRecDepth 100000 in
@[go_sem] theorem ta41 (v : Value) (w : World) : (Instr.typeAssert (.iface 138 v) 101 135 true).run Try.prog w = .ok (.tuple #[.agg #[.float .f32 0, .float .f32 0, .float .f32 0], .bool false]) w := by rfl
set_option maxRecDepth 100000 in
@[go_sem] theorem ta42 (v : Value) (w : World) : (Instr.typeAssert (.iface 138 v) 101 136 true).run Try.prog w = .ok (.tuple #[.agg #[.float .f32 0, .float .f32 0, .float .f32 0], .bool false]) w := by rfl
set_option maxRecDepth 100000 in
@[go_sem] theorem ta43 (v : Value) (w : World) : (Instr.typeAssert (.iface 138 v) 101 137 true).run Try.prog w = .ok (.tuple #[.agg #[.float .f32 0, .float .f32 0, .float .f32 0], .bool false]) w := by rfl
set_option maxRecDepth 100000 in
@[go_sem] theorem ta45 (v : Value) (w : World) : (Instr.typeAssert (.iface 138 v) 101 139 true).run Try.prog w = .ok (.tuple #[.agg #[.float .f32 0, .float .f32 0, .float .f32 0], .bool false]) w := by rfl
set_option maxRecDepth 100000 in
@[go_sem] theorem ta51 (v : Value) (w : World) : (Instr.typeAssert (.iface 139 v) 101 135 true).run Try.prog w = .ok (.tuple #[.agg #[.float .f32 0, .float .f32 0, .float .f32 0], .bool false]) w := by rfl
set_option maxRecDepth 100000 in
@[go_sem] theorem ta52 (v : Value) (w : World) : (Instr.typeAssert (.iface 139 v) 101 136 true).run Try.prog w = .ok (.tuple #[.agg #[.float .f32 0, .float .f32 0, .float .f32 0], .bool false]) w := by rfl
set_option maxRecDepth 100000 in
@[go_sem] theorem ta53 (v : Value) (w : World) : (Instr.typeAssert (.iface 139 v) 101 137 true).run Try.prog w = .ok (.tuple #[.agg #[.float .f32 0, .float .f32 0, .float .f32 0], .bool false]) w := by rfl
set_option maxRecDepth 100000 in
@[go_sem] theorem ta55 (v : Value) (w : World) : (Instr.typeAssert (.iface 139 v) 101 139 true).run Try.prog w = .ok (.tuple #[v, .bool true]) w := by rfl
set_option maxRecDepth 100000 in
theorem mdl1 (a b c : Nat) : mdl 1 a b c = .iface 135 (.agg #[.float .f32 a, .float .f32 b, .float .f32 c]) := by simp [mdl]
theorem i_modelOf1 (a b c x y : Nat) (w : World) : Calls Try.prog 76 #[(.agg #[.int .i64 1, .float .f32 a, .float .f32 b, .float .f32 c, .float .f32 x, .float .f32 y])] w fun e w' => e = .returned (.iface 135 (.agg #[.float .f32 a, .float .f32 b, .float .f32 c])) ∧ Below w.heap.size w w' := by
  go_enter Try.func76, Try.ntmps76
  go_wp2
  go_ret
  exact ⟨rfl, by repeat' (first | (with_reducible exact Below.refl _ _) | (with_reducible assumption) | (with_reducible refine below_drewN ?_ _) | (with_reducible refine Below.alloc ?_ ?_ _) | (with_reducible refine Below.drew ?_) | (with_reducible refine Below.setCell ?_ ?_ _) | go_size)⟩
set_option maxRecDepth 100000 in
theorem i_sizesOf1 (v : Value) (w : World) : Calls Try.prog 82 #[.iface 135 v] w fun e w' => e = .returned (.tuple #[.int .i64 (cU 1), .int .i64 (sU 1)]) ∧ w = w' := by
  go_enter Try.func82, Try.ntmps82
  go_wp2
  go_ret2
  exact ⟨rfl, rfl⟩
set_option maxRecDepth 100000 in
theorem mdl2 (a b c : Nat) : mdl 2 a b c = .iface 136 (.agg #[.float .f32 a, .float .f32 b, .float .f32 c]) := by simp [mdl]
theorem i_modelOf2 (a b c x y : Nat) (w : World) : Calls Try.prog 76 #[(.agg #[.int .i64 2, .float .f32 a, .float .f32 b, .float .f32 c, .float .f32 x, .float .f32 y])] w fun e w' => e = .returned (.iface 136 (.agg #[.float .f32 a, .float .f32 b, .float .f32 c])) ∧ Below w.heap.size w w' := by
  go_enter Try.func76, Try.ntmps76
  go_wp2
  go_ret
  exact ⟨rfl, by repeat' (first | (with_reducible exact Below.refl _ _) | (with_reducible assumption) | (with_reducible refine below_drewN ?_ _) | (with_reducible refine Below.alloc ?_ ?_ _) | (with_reducible refine Below.drew ?_) | (with_reducible refine Below.setCell ?_ ?_ _) | go_size)⟩
set_option maxRecDepth 100000 in
theorem i_sizesOf2 (v : Value) (w : World) : Calls Try.prog 82 #[.iface 136 v] w fun e w' => e = .returned (.tuple #[.int .i64 (cU 2), .int .i64 (sU 2)]) ∧ w = w' := by
  go_enter Try.func82, Try.ntmps82
  go_wp2
  go_ret2
  exact ⟨rfl, rfl⟩
set_option maxRecDepth 100000 in
theorem mdl3 (a b c : Nat) : mdl 3 a b c = .iface 137 (.agg #[.float .f32 a, .float .f32 b, .float .f32 c]) := by simp [mdl]
theorem i_modelOf3 (a b c x y : Nat) (w : World) : Calls Try.prog 76 #[(.agg #[.int .i64 3, .float .f32 a, .float .f32 b, .float .f32 c, .float .f32 x, .float .f32 y])] w fun e w' => e = .returned (.iface 137 (.agg #[.float .f32 a, .float .f32 b, .float .f32 c])) ∧ Below w.heap.size w w' := by
  go_enter Try.func76, Try.ntmps76
  go_wp2
  go_ret
  exact ⟨rfl, by repeat' (first | (with_reducible exact Below.refl _ _) | (with_reducible assumption) | (with_reducible refine below_drewN ?_ _) | (with_reducible refine Below.alloc ?_ ?_ _) | (with_reducible refine Below.drew ?_) | (with_reducible refine Below.setCell ?_ ?_ _) | go_size)⟩
set_option maxRecDepth 100000 in
theorem i_sizesOf3 (v : Value) (w : World) : Calls Try.prog 82 #[.iface 137 v] w fun e w' => e = .returned (.tuple #[.int .i64 (cU 3), .int .i64 (sU 3)]) ∧ w = w' := by
  go_enter Try.func82, Try.ntmps82
  go_wp2
  go_ret2
  exact ⟨rfl, rfl⟩
set_option maxRecDepth 100000 in
theorem mdl4 (a b c : Nat) : mdl 4 a b c = .iface 138 (.agg #[.float .f32 a, .float .f32 b, .float .f32 c]) := by simp [mdl]
theorem i_modelOf4 (a b c x y : Nat) (w : World) : Calls Try.prog 76 #[(.agg #[.int .i64 4, .float .f32 a, .float .f32 b, .float .f32 c, .float .f32 x, .float .f32 y])] w fun e w' => e = .returned (.iface 138 (.agg #[.float .f32 a, .float .f32 b, .float .f32 c])) ∧ Below w.heap.size w w' := by
  go_enter Try.func76, Try.ntmps76
  go_wp2
  go_ret
  exact ⟨rfl, by repeat' (first | (with_reducible exact Below.refl _ _) | (with_reducible assumption) | (with_reducible refine below_drewN ?_ _) | (with_reducible refine Below.alloc ?_ ?_ _) | (with_reducible refine Below.drew ?_) | (with_reducible refine Below.setCell ?_ ?_ _) | go_size)⟩
set_option maxRecDepth 100000 in
theorem i_sizesOf4 (v : Value) (w : World) : Calls Try.prog 82 #[.iface 138 v] w fun e w' => e = .returned (.tuple #[.int .i64 (cU 4), .int .i64 (sU 4)]) ∧ w = w' := by
  go_enter Try.func82, Try.ntmps82
  go_wp2
  go_ret2
  exact ⟨rfl, rfl⟩
set_option maxRecDepth 100000 in
theorem mdl5 (a b c : Nat) : mdl 5 a b c = .iface 139 (.agg #[.float .f32 a, .float .f32 b, .float .f32 c]) := by simp [mdl]
theorem i_modelOf5 (a b c x y : Nat) (w : World) : Calls Try.prog 76 #[(.agg #[.int .i64 5, .float .f32 a, .float .f32 b, .float .f32 c, .float .f32 x, .float .f32 y])] w fun e w' => e = .returned (.iface 139 (.agg #[.float .f32 a, .float .f32 b, .float .f32 c])) ∧ Below w.heap.size w w' := by
  go_enter Try.func76, Try.ntmps76
  go_wp2
  go_ret
  exact ⟨rfl, by repeat' (first | (with_reducible exact Below.refl _ _) | (with_reducible assumption) | (with_reducible refine below_drewN ?_ _) | (with_reducible refine Below.alloc ?_ ?_ _) | (with_reducible refine Below.drew ?_) | (with_reducible refine Below.setCell ?_ ?_ _) | go_size)⟩
set_option maxRecDepth 100000 in
theorem i_sizesOf5 (v : Value) (w : World) : Calls Try.prog 82 #[.iface 139 v] w fun e w' => e = .returned (.tuple #[.int .i64 (cU 5), .int .i64 (sU 5)]) ∧ w = w' := by
  go_enter Try.func82, Try.ntmps82
  go_wp2
  go_ret2
  exact ⟨rfl, rfl⟩
set_option maxRecDepth 100000 in
theorem mdl_no {k : Int} (h : ¬ (1 ≤ k ∧ k ≤ 5)) (a b c : Nat) : mdl k a b c = .nilIface := by
  unfold mdl
  rw [if_neg (by omega), if_neg (by omega), if_neg (by omega), if_neg (by omega), if_neg (by omega)]
set_option maxRecDepth 100000 in
theorem i_modelOf_no (k : Int) (a b c x y : Nat) (w : World) (h : ¬ (1 ≤ k ∧ k ≤ 5)) : Calls Try.prog 76 #[(.agg #[.int .i64 k, .float .f32 a, .float .f32 b, .float .f32 c, .float .f32 x, .float .f32 y])] w fun e w' => e = .returned .nilIface ∧ Below w.heap.size w w' := by
  have h1 : ((k : Int) == 1) = false := by simp only [beq_eq_false_iff_ne]; omega
  have h2 : ((k : Int) == 2) = false := by simp only [beq_eq_false_iff_ne]; omega
  have h3 : ((k : Int) == 3) = false := by simp only [beq_eq_false_iff_ne]; omega
  have h4 : ((k : Int) == 4) = false := by simp only [beq_eq_false_iff_ne]; omega
  have h5 : ((k : Int) == 5) = false := by simp only [beq_eq_false_iff_ne]; omega
  clear h
  go_enter Try.func76, Try.ntmps76
  go_wp2
  go_ret
  exact ⟨rfl, by repeat' (first | (with_reducible exact Below.refl _ _) | (with_reducible assumption) | (with_reducible refine below_drewN ?_ _) | (with_reducible refine Below.alloc ?_ ?_ _) | (with_reducible refine Below.drew ?_) | (with_reducible refine Below.setCell ?_ ?_ _) | go_size)⟩
set_option maxRecDepth 100000 in
theorem i_modelOf (k : Int) (a b c x y : Nat) (w : World) : Calls Try.prog 76 #[(.agg #[.int .i64 k, .float .f32 a, .float .f32 b, .float .f32 c, .float .f32 x, .float .f32 y])] w fun e w' => e = .returned (mdl k a b c) ∧ Below w.heap.size w w' := by
  by_cases h : 1 ≤ k ∧ k ≤ 5
  · rcases (show k = 1 ∨ k = 2 ∨ k = 3 ∨ k = 4 ∨ k = 5 by omega) with rfl | rfl | rfl | rfl | rfl
    · rw [mdl1]; exact i_modelOf1 a b c x y w
    · rw [mdl2]; exact i_modelOf2 a b c x y w
    · rw [mdl3]; exact i_modelOf3 a b c x y w
    · rw [mdl4]; exact i_modelOf4 a b c x y w
    · rw [mdl5]; exact i_modelOf5 a b c x y w
  · rw [mdl_no h]; exact i_modelOf_no k a b c x y w h
set_option maxRecDepth 100000 in
theorem i_ValidFilter_no (k : Int) (a b c x y : Nat) (w : World) (h : ¬ (1 ≤ k ∧ k ≤ 5)) : Calls Try.prog 71 #[(.agg #[.int .i64 k, .float .f32 a, .float .f32 b, .float .f32 c, .float .f32 x, .float .f32 y])] w fun e w' => e = .returned (.bool false) ∧ Below w.heap.size w w' := by
  go_enter Try.func71, Try.ntmps71
  go_wp2_with (first | (go_at_call 76; refine (i_modelOf_no _ _ _ _ _ _ _ h).mono ?_; rintro e w' ⟨rfl, hb⟩))
  go_ret
  exact ⟨rfl, le_trans (le_alloc w _) hb⟩
set_option maxRecDepth 100000 in
set_option maxHeartbeats 1000000 in
theorem i_ValidFilter1 (a b c x y : Nat) (w : World) (fa : fits .f32 a) (fb : fits .f32 b) (fc : fits .f32 c) (fx : fits .f32 x) (fy : fits .f32 y) : Calls Try.prog 71 #[(.agg #[.int .i64 1, .float .f32 a, .float .f32 b, .float .f32 c, .float .f32 x, .float .f32 y])] w fun e w' => e = .returned (.bool (usedB (tri a b c) 3 (cU 1) && usedB (duo x y) 2 (sU 1))) ∧ Below w.heap.size w w' := by
  have F3 := hid (fits_tri fa fb fc)
  have F2 := hid (fits_duo fx fy)
  clear fa fb fc fx fy
  have F := (Frm.nil w).box 36 (#[.int .i64 1, .float .f32 a, .float .f32 b, .float .f32 c, .float .f32 x, .float .f32 y] : Array Value)
  cases h1 : usedB (tri a b c) 3 (cU 1) <;> cases h2 : usedB (duo x y) 2 (sU 1)
  all_goals
    have H1 := hid h1
    have H2 := hid h2
    clear h1 h2
    go_enter Try.func71, Try.ntmps71
    go_wp2_with (first | (go_at_call 76; refine (i_modelOf1 _ _ _ _ _ _).mono ?_; rintro e w' ⟨rfl, hb⟩; replace F := F.le hb; have R := hid (F.row List.mem_cons_self)) | (go_at_call 82; refine (i_sizesOf1 _ _).mono ?_; rintro e w' ⟨rfl, rfl⟩) | (go_at_call 83; (with_reducible refine (i_areUsed (tri a b c) _ 1 3 (cU 1) _ (by omega) (cU_le _) F3.out (fun i hi => R.out.tri i hi)).mono ?_); rw [H1.out]; rintro e w' ⟨rfl, rfl⟩) | (go_at_call 83; (with_reducible refine (i_areUsed (duo x y) _ 4 2 (sU 1) _ (by omega) (sU_le _) F2.out (fun i hi => R.out.duo i hi)).mono ?_); rw [H2.out]; rintro e w' ⟨rfl, rfl⟩))
    go_ret
    exact ⟨rfl, F.below⟩
set_option maxRecDepth 100000 in
set_option maxHeartbeats 1000000 in
theorem i_ValidFilter2 (a b c x y : Nat) (w : World) (fa : fits .f32 a) (fb : fits .f32 b) (fc : fits .f32 c) (fx : fits .f32 x) (fy : fits .f32 y) : Calls Try.prog 71 #[(.agg #[.int .i64 2, .float .f32 a, .float .f32 b, .float .f32 c, .float .f32 x, .float .f32 y])] w fun e w' => e = .returned (.bool (usedB (tri a b c) 3 (cU 2) && usedB (duo x y) 2 (sU 2))) ∧ Below w.heap.size w w' := by
  have F3 := hid (fits_tri fa fb fc)
  have F2 := hid (fits_duo fx fy)
  clear fa fb fc fx fy
  have F := (Frm.nil w).box 36 (#[.int .i64 2, .float .f32 a, .float .f32 b, .float .f32 c, .float .f32 x, .float .f32 y] : Array Value)
  cases h1 : usedB (tri a b c) 3 (cU 2) <;> cases h2 : usedB (duo x y) 2 (sU 2)
  all_goals
    have H1 := hid h1
    have H2 := hid h2
    clear h1 h2
    go_enter Try.func71, Try.ntmps71
    go_wp2_with (first | (go_at_call 76; refine (i_modelOf2 _ _ _ _ _ _).mono ?_; rintro e w' ⟨rfl, hb⟩; replace F := F.le hb; have R := hid (F.row List.mem_cons_self)) | (go_at_call 82; refine (i_sizesOf2 _ _).mono ?_; rintro e w' ⟨rfl, rfl⟩) | (go_at_call 83; (with_reducible refine (i_areUsed (tri a b c) _ 1 3 (cU 2) _ (by omega) (cU_le _) F3.out (fun i hi => R.out.tri i hi)).mono ?_); rw [H1.out]; rintro e w' ⟨rfl, rfl⟩) | (go_at_call 83; (with_reducible refine (i_areUsed (duo x y) _ 4 2 (sU 2) _ (by omega) (sU_le _) F2.out (fun i hi => R.out.duo i hi)).mono ?_); rw [H2.out]; rintro e w' ⟨rfl, rfl⟩))
    go_ret
    exact ⟨rfl, F.below⟩
set_option maxRecDepth 100000 in
set_option maxHeartbeats 1000000 in
theorem i_ValidFilter3 (a b c x y : Nat) (w : World) (fa : fits .f32 a) (fb : fits .f32 b) (fc : fits .f32 c) (fx : fits .f32 x) (fy : fits .f32 y) : Calls Try.prog 71 #[(.agg #[.int .i64 3, .float .f32 a, .float .f32 b, .float .f32 c, .float .f32 x, .float .f32 y])] w fun e w' => e = .returned (.bool (usedB (tri a b c) 3 (cU 3) && usedB (duo x y) 2 (sU 3))) ∧ Below w.heap.size w w' := by
  have F3 := hid (fits_tri fa fb fc)
  have F2 := hid (fits_duo fx fy)
  clear fa fb fc fx fy
  have F := (Frm.nil w).box 36 (#[.int .i64 3, .float .f32 a, .float .f32 b, .float .f32 c, .float .f32 x, .float .f32 y] : Array Value)
  cases h1 : usedB (tri a b c) 3 (cU 3) <;> cases h2 : usedB (duo x y) 2 (sU 3)
  all_goals
    have H1 := hid h1
    have H2 := hid h2
    clear h1 h2
    go_enter Try.func71, Try.ntmps71
    go_wp2_with (first | (go_at_call 76; refine (i_modelOf3 _ _ _ _ _ _).mono ?_; rintro e w' ⟨rfl, hb⟩; replace F := F.le hb; have R := hid (F.row List.mem_cons_self)) | (go_at_call 82; refine (i_sizesOf3 _ _).mono ?_; rintro e w' ⟨rfl, rfl⟩) | (go_at_call 83; (with_reducible refine (i_areUsed (tri a b c) _ 1 3 (cU 3) _ (by omega) (cU_le _) F3.out (fun i hi => R.out.tri i hi)).mono ?_); rw [H1.out]; rintro e w' ⟨rfl, rfl⟩) | (go_at_call 83; (with_reducible refine (i_areUsed (duo x y) _ 4 2 (sU 3) _ (by omega) (sU_le _) F2.out (fun i hi => R.out.duo i hi)).mono ?_); rw [H2.out]; rintro e w' ⟨rfl, rfl⟩))
    go_ret
    exact ⟨rfl, F.below⟩
set_option maxRecDepth 100000 in
set_option maxHeartbeats 1000000 in
theorem i_ValidFilter4 (a b c x y : Nat) (w : World) (fa : fits .f32 a) (fb : fits .f32 b) (fc : fits .f32 c) (fx : fits .f32 x) (fy : fits .f32 y) : Calls Try.prog 71 #[(.agg #[.int .i64 4, .float .f32 a, .float .f32 b, .float .f32 c, .float .f32 x, .float .f32 y])] w fun e w' => e = .returned (.bool (usedB (tri a b c) 3 (cU 4) && usedB (duo x y) 2 (sU 4))) ∧ Below w.heap.size w w' := by
  have F3 := hid (fits_tri fa fb fc)
  have F2 := hid (fits_duo fx fy)
  clear fa fb fc fx fy
  have F := (Frm.nil w).box 36 (#[.int .i64 4, .float .f32 a, .float .f32 b, .float .f32 c, .float .f32 x, .float .f32 y] : Array Value)
  cases h1 : usedB (tri a b c) 3 (cU 4) <;> cases h2 : usedB (duo x y) 2 (sU 4)
  all_goals
    have H1 := hid h1
    have H2 := hid h2
    clear h1 h2
    go_enter Try.func71, Try.ntmps71
    go_wp2_with (first | (go_at_call 76; refine (i_modelOf4 _ _ _ _ _ _).mono ?_; rintro e w' ⟨rfl, hb⟩; replace F := F.le hb; have R := hid (F.row List.mem_cons_self)) | (go_at_call 82; refine (i_sizesOf4 _ _).mono ?_; rintro e w' ⟨rfl, rfl⟩) | (go_at_call 83; (with_reducible refine (i_areUsed (tri a b c) _ 1 3 (cU 4) _ (by omega) (cU_le _) F3.out (fun i hi => R.out.tri i hi)).mono ?_); rw [H1.out]; rintro e w' ⟨rfl, rfl⟩) | (go_at_call 83; (with_reducible refine (i_areUsed (duo x y) _ 4 2 (sU 4) _ (by omega) (sU_le _) F2.out (fun i hi => R.out.duo i hi)).mono ?_); rw [H2.out]; rintro e w' ⟨rfl, rfl⟩))
    go_ret
    exact ⟨rfl, F.below⟩
set_option maxRecDepth 100000 in
set_option maxHeartbeats 1000000 in
theorem i_ValidFilter5 (a b c x y : Nat) (w : World) (fa : fits .f32 a) (fb : fits .f32 b) (fc : fits .f32 c) (fx : fits .f32 x) (fy : fits .f32 y) : Calls Try.prog 71 #[(.agg #[.int .i64 5, .float .f32 a, .float .f32 b, .float .f32 c, .float .f32 x, .float .f32 y])] w fun e w' => e = .returned (.bool (usedB (tri a b c) 3 (cU 5) && usedB (duo x y) 2 (sU 5))) ∧ Below w.heap.size w w' := by
  have F3 := hid (fits_tri fa fb fc)
  have F2 := hid (fits_duo fx fy)
  clear fa fb fc fx fy
  have F := (Frm.nil w).box 36 (#[.int .i64 5, .float .f32 a, .float .f32 b, .float .f32 c, .float .f32 x, .float .f32 y] : Array Value)
  cases h1 : usedB (tri a b c) 3 (cU 5) <;> cases h2 : usedB (duo x y) 2 (sU 5)
  all_goals
    have H1 := hid h1
    have H2 := hid h2
    clear h1 h2
    go_enter Try.func71, Try.ntmps71
    go_wp2_with (first | (go_at_call 76; refine (i_modelOf5 _ _ _ _ _ _).mono ?_; rintro e w' ⟨rfl, hb⟩; replace F := F.le hb; have R := hid (F.row List.mem_cons_self)) | (go_at_call 82; refine (i_sizesOf5 _ _).mono ?_; rintro e w' ⟨rfl, rfl⟩) | (go_at_call 83; (with_reducible refine (i_areUsed (tri a b c) _ 1 3 (cU 5) _ (by omega) (cU_le _) F3.out (fun i hi => R.out.tri i hi)).mono ?_); rw [H1.out]; rintro e w' ⟨rfl, rfl⟩) | (go_at_call 83; (with_reducible refine (i_areUsed (duo x y) _ 4 2 (sU 5) _ (by omega) (sU_le _) F2.out (fun i hi => R.out.duo i hi)).mono ?_); rw [H2.out]; rintro e w' ⟨rfl, rfl⟩))
    go_ret
    exact ⟨rfl, F.below⟩
set_option maxRecDepth 100000 in
theorem i_ValidFilter (k : Int) (a b c x y : Nat) (w : World) (hf : fits .f32 a ∧ fits .f32 b ∧ fits .f32 c ∧ fits .f32 x ∧ fits .f32 y) : Calls Try.prog 71 #[(.agg #[.int .i64 k, .float .f32 a, .float .f32 b, .float .f32 c, .float .f32 x, .float .f32 y])] w fun e w' => e = .returned (.bool (okF k a b c x y)) ∧ Below w.heap.size w w' := by
  obtain ⟨fa, fb, fc, fx, fy⟩ := hf
  by_cases h : 1 ≤ k ∧ k ≤ 5
  · have E : okF k a b c x y = (usedB (tri a b c) 3 (cU k) && usedB (duo x y) 2 (sU k)) := by simp [okF, h.1, h.2]
    rw [E]
    rcases (show k = 1 ∨ k = 2 ∨ k = 3 ∨ k = 4 ∨ k = 5 by omega) with rfl | rfl | rfl | rfl | rfl
    · exact i_ValidFilter1 a b c x y w fa fb fc fx fy
    · exact i_ValidFilter2 a b c x y w fa fb fc fx fy
    · exact i_ValidFilter3 a b c x y w fa fb fc fx fy
    · exact i_ValidFilter4 a b c x y w fa fb fc fx fy
    · exact i_ValidFilter5 a b c x y w fa fb fc fx fy
  · rw [okF_out h]; exact i_ValidFilter_no k a b c x y w h
end Go.Proofs.Ythjdklolbkhbfaa

/- The program's runners of filters: 'newRunner', 'isStill', 'step'. -/
namespace Go.Fk
open Go Go.RowKit
/-- A pointer to a new block that holds a row. -/
def OutP (t : TypeId) (cs : Array Value) (w : World) (e : Ending) (w' : World) : Prop := ∃ b, e = .returned (.pointer (some ⟨b, 0, none⟩)) ∧ w.heap.size ≤ b ∧ Row w' b t cs ∧ le w w'
end Go.Fk
namespace Go.Proofs.Ythjdklolbkhbfaa
open Go.RowKit Go.Fk
set_option maxHeartbeats 1000000 in
theorem i_newRunnerT (k : Int) (T : TypeId) (a b c x y : Nat) (w : World) (hm : ∀ w, Calls Try.prog 76 #[(.agg #[.int .i64 k, .float .f32 a, .float .f32 b, .float .f32 c, .float .f32 x, .float .f32 y])] w fun e w' => e = .returned (.iface T (.agg #[.float .f32 a, .float .f32 b, .float .f32 c])) ∧ Below w.heap.size w w') : Calls Try.prog 52 #[(.agg #[.int .i64 k, .float .f32 a, .float .f32 b, .float .f32 c, .float .f32 x, .float .f32 y])] w (OutP 103 #[(.iface T (.agg #[.float .f32 a, .float .f32 b, .float .f32 c])), .float .f32 x, .float .f32 y] w) := by
  have HM := hid hm; clear hm
  have F := (Frm.nil w).box 36 (#[.int .i64 k, .float .f32 a, .float .f32 b, .float .f32 c, .float .f32 x, .float .f32 y] : Array Value)
  go_enter Try.func52, Try.ntmps52
  go_upto_region 1 with (fail)
  refine region_free (fun f args _ v => v = (.iface T (.agg #[.float .f32 a, .float .f32 b, .float .f32 c]))) (by kernel_rfl) (by kernel_rfl) ?_
  refine wpFree_loadFr F rfl rfl rfl rfl (List.mem_cons_self) Try.underlying36 rfl infoFil rfl ?_
  simp only [Act.put, List.setIfInBounds_toArray, List.set_cons_succ, List.set_cons_zero]
  refine wpFree_call rfl rfl Try.func76 (by kernel_rfl) (by kernel_rfl) (args := #[(.agg #[.int .i64 k, .float .f32 a, .float .f32 b, .float .f32 c, .float .f32 x, .float .f32 y])]) (by simp [Act.eval]) (fun _ _ _ _ h => h) (fun w1 _ => (HM.out w1).mono ?_) ?_
  · rintro e w2 ⟨rfl, hb⟩
    exact ⟨_, rfl, hb, rfl⟩
  rintro v ⟨_, _, rfl⟩
  simp only [Act.put, List.setIfInBounds_toArray, List.set_cons_succ, List.set_cons_zero]
  refine wpFree_one rfl (.pointer (some ⟨w.heap.size, 4, none⟩)) (fun w1 _ => by kernel_rfl) ?_
  simp only [Act.put, List.setIfInBounds_toArray, List.set_cons_succ, List.set_cons_zero]
  refine wpFree_loadPart F rfl rfl rfl rfl (List.mem_cons_self) Try.underlying27 rfl [.float .f32 x, .float .f32 y] (fun j hj => by match j, hj with | 0, _ => rfl | 1, _ => rfl) info2 ?_
  simp only [Act.put, List.setIfInBounds_toArray, List.set_cons_succ, List.set_cons_zero]
  refine wpFree_one rfl (.agg #[(.iface T (.agg #[.float .f32 a, .float .f32 b, .float .f32 c])), .float .f32 x, .float .f32 y]) (fun w1 _ => by kernel_rfl) ?_
  simp only [Act.put, List.setIfInBounds_toArray, List.set_cons_succ, List.set_cons_zero]
  refine wpFree_box rfl rfl #[(.iface T (.agg #[.float .f32 a, .float .f32 b, .float .f32 c])), .float .f32 x, .float .f32 y] (fun w1 => by kernel_rfl) (fun g hg => ?_)
  simp only [Act.put, List.setIfInBounds_toArray, List.set_cons_succ, List.set_cons_zero]
  refine wpFree_one rfl (.pointer (some ⟨g, 0, none⟩)) (fun w1 _ => by kernel_rfl) ?_
  simp only [Act.put, List.setIfInBounds_toArray, List.set_cons_succ, List.set_cons_zero]
  refine wpFree_nil (fun w3 hw3 hF => ?_)
  obtain ⟨_, b', hbb, hb2, hrow⟩ := hF
  obtain rfl : g = b' := by simpa using hbb
  have hz : w.heap.size ≤ g := by simp at hg; omega
  have hl : le w w3 := le_trans (le_trans F.below (le_drewN _ 1)) hw3
  clear hg hbb hb2 hw3 F
  replace hz := hid hz; replace hl := hid hl; replace hrow := hid hrow
  go_wp2
  go_ret
  exact ⟨_, rfl, hz.out, hrow.out, hl.out⟩
theorem i_newRunner (k : Int) (a b c x y : Nat) (w : World) (h : 1 ≤ k ∧ k ≤ 5) : Calls Try.prog 52 #[(.agg #[.int .i64 k, .float .f32 a, .float .f32 b, .float .f32 c, .float .f32 x, .float .f32 y])] w (OutP 103 #[mdl k a b c, .float .f32 x, .float .f32 y] w) := by
  rcases (show k = 1 ∨ k = 2 ∨ k = 3 ∨ k = 4 ∨ k = 5 by omega) with rfl | rfl | rfl | rfl | rfl
  · rw [mdl1]; exact i_newRunnerT 1 _ a b c x y w (fun w => i_modelOf1 a b c x y w)
  · rw [mdl2]; exact i_newRunnerT 2 _ a b c x y w (fun w => i_modelOf2 a b c x y w)
  · rw [mdl3]; exact i_newRunnerT 3 _ a b c x y w (fun w => i_modelOf3 a b c x y w)
  · rw [mdl4]; exact i_newRunnerT 4 _ a b c x y w (fun w => i_modelOf4 a b c x y w)
  · rw [mdl5]; exact i_newRunnerT 5 _ a b c x y w (fun w => i_modelOf5 a b c x y w)
end Go.Proofs.Ythjdklolbkhbfaa

/- Steps of filters: the plain functions; 'next' of each kind; 'step' of a runner; 'l02Step' of the model. -/
namespace Go.Fk
open Go Go.RowKit
/-- What a filter makes of a sample. -/
def outF (k : Int) (a b c x y s : Nat) : Nat :=
  if k = 1 ∨ k = 2 then fop .add .f32 (fop .mul .f32 a s) (fop .mul .f32 b x)
  else if k = 3 then fop .add .f32 (fop .mul .f32 a (fop .sub .f32 s y)) x
  else if k = 4 then fop .sub .f32 (fop .sub .f32 (fop .mul .f32 a s) (fop .mul .f32 b x)) (fop .mul .f32 c y)
  else fop .add .f32 (fop .sub .f32 s x) (fop .mul .f32 a y)
/-- The state behind it. -/
def st0 (k : Int) (a b c x y s : Nat) : Nat := if k = 1 ∨ k = 4 then kept (outF k a b c x y s) else kept s
def st1 (k : Int) (a b c x y s : Nat) : Nat := if k = 1 ∨ k = 2 then 0 else if k = 4 then kept x else kept (outF k a b c x y s)
theorem kept_zero : kept 0 = 0 := by decide
theorem can_outF (k : Int) (a b c x y s : Nat) : can .f32 (outF k a b c x y s) = outF k a b c x y s := by
  unfold outF; split; exact can_fop _ _ _ _; split; exact can_fop _ _ _ _; split <;> exact can_fop _ _ _ _
/-- What 'next' gives. -/
def OutN (k : Int) (a b c x y s : Nat) (w : World) (e : Ending) (w' : World) : Prop := ∃ r p q, e = .returned (.tuple #[.float .f32 r, .agg #[.float .f32 p, .float .f32 q]]) ∧ can .f32 r = outF k a b c x y s ∧ kept p = st0 k a b c x y s ∧ kept q = st1 k a b c x y s ∧ fits .f32 p ∧ fits .f32 q ∧ fits .f32 r ∧ le w w'
theorem fits_zero : fits .f32 0 := by simp [fits, Lit.wf]
theorem Row.store2 {W : World} {g : Nat} {t : TypeId} {o0 o1 v0 v1 : Value} (h : Row W g t #[o0, o1]) : Row ((W.setCell ⟨g, 0, none⟩ v0).setCell ⟨g, 1, none⟩ v1) g t #[v0, v1] := by
  have := (h.set 0 v0).set 1 v1
  simpa using this
/-- What a step gives: block g holds the new state. -/
def OutS (k : Int) (a b c x y s : Nat) (g : Nat) (t : TypeId) (cs : Nat → Nat → Array Value) (w : World) (e : Ending) (w' : World) : Prop := ∃ r, e = .returned (.float .f32 r) ∧ can .f32 r = outF k a b c x y s ∧ fits .f32 r ∧ Row w' g t (cs (st0 k a b c x y s) (st1 k a b c x y s)) ∧ Upd g w w'
end Go.Fk
namespace Go.Proofs.Ythjdklolbkhbfaa
open Go.RowKit Go.Fk
theorem i_next1 (a b c x y s : Nat) (w : World) (hx : fits .f32 x) (hs : fits .f32 s) : Calls Try.prog 113 #[.agg #[.float .f32 a, .float .f32 b, .float .f32 c], .agg #[.float .f32 x, .float .f32 y], .float .f32 s] w (OutN 1 a b c x y s w) := by
  have Hx := hid hx; have Hs := hid hs; clear hx hs
  go_enter Try.func113, Try.ntmps113
  go_wp2_with (with_reducible refine wpList_farith rfl rfl rfl rfl rfl ?_; intro r n hr hf)
  rename_i r1 n1 h1 f1 r2 n2 h2 f2
  have e : can .f32 r = outF 1 a b c x y s := (by rw [hr.out]; exact fop_congr (h1.out.trans (can_fop _ _ _ _).symm) (h2.out.trans (can_fop _ _ _ _).symm))
  refine bodyPost_ret (results_row2r rfl _ _ _ _ _ rfl (Row.store2 ((Row.new' _ _ _ (by simp)).drewN _)) Try.underlying27 rfl info2) rfl ?_
  exact ⟨_, _, _, rfl, e, kept_can (e.trans (can_outF _ _ _ _ _ _ _).symm), kept_zero, hf.out, fits_zero, hf.out, by unfold le; repeat' (first | (with_reducible exact Below.refl _ _) | (with_reducible assumption) | (with_reducible refine below_drewN ?_ _) | (with_reducible refine Below.alloc ?_ ?_ _) | (with_reducible refine Below.drew ?_) | (with_reducible refine Below.setCell ?_ ?_ _) | go_size)⟩
theorem i_next2 (a b c x y s : Nat) (w : World) (hx : fits .f32 x) (hs : fits .f32 s) : Calls Try.prog 114 #[.agg #[.float .f32 a, .float .f32 b, .float .f32 c], .agg #[.float .f32 x, .float .f32 y], .float .f32 s] w (OutN 2 a b c x y s w) := by
  have Hx := hid hx; have Hs := hid hs; clear hx hs
  go_enter Try.func114, Try.ntmps114
  go_wp2_with (with_reducible refine wpList_farith rfl rfl rfl rfl rfl ?_; intro r n hr hf)
  rename_i r1 n1 h1 f1 r2 n2 h2 f2
  have e : can .f32 r = outF 2 a b c x y s := (by rw [hr.out]; exact fop_congr (h1.out.trans (can_fop _ _ _ _).symm) (h2.out.trans (can_fop _ _ _ _).symm))
  refine bodyPost_ret (results_row2r rfl _ _ _ _ _ rfl (Row.store2 ((Row.new' _ _ _ (by simp)).drewN _)) Try.underlying27 rfl info2) rfl ?_
  exact ⟨_, _, _, rfl, e, rfl, kept_zero, Hs.out, fits_zero, hf.out, by unfold le; repeat' (first | (with_reducible exact Below.refl _ _) | (with_reducible assumption) | (with_reducible refine below_drewN ?_ _) | (with_reducible refine Below.alloc ?_ ?_ _) | (with_reducible refine Below.drew ?_) | (with_reducible refine Below.setCell ?_ ?_ _) | go_size)⟩
theorem i_next3 (a b c x y s : Nat) (w : World) (hx : fits .f32 x) (hs : fits .f32 s) : Calls Try.prog 115 #[.agg #[.float .f32 a, .float .f32 b, .float .f32 c], .agg #[.float .f32 x, .float .f32 y], .float .f32 s] w (OutN 3 a b c x y s w) := by
  have Hx := hid hx; have Hs := hid hs; clear hx hs
  go_enter Try.func115, Try.ntmps115
  go_wp2_with (with_reducible refine wpList_farith rfl rfl rfl rfl rfl ?_; intro r n hr hf)
  rename_i r1 n1 h1 f1 r2 n2 h2 f2
  have e : can .f32 r = outF 3 a b c x y s := (by rw [hr.out]; exact fop_congr (h2.out.trans ((fop_congr rfl (h1.out.trans (can_fop _ _ _ _).symm)).trans (can_fop _ _ _ _).symm)) rfl)
  refine bodyPost_ret (results_row2r rfl _ _ _ _ _ rfl (Row.store2 ((Row.new' _ _ _ (by simp)).drewN _)) Try.underlying27 rfl info2) rfl ?_
  exact ⟨_, _, _, rfl, e, rfl, kept_can (e.trans (can_outF _ _ _ _ _ _ _).symm), Hs.out, hf.out, hf.out, by unfold le; repeat' (first | (with_reducible exact Below.refl _ _) | (with_reducible assumption) | (with_reducible refine below_drewN ?_ _) | (with_reducible refine Below.alloc ?_ ?_ _) | (with_reducible refine Below.drew ?_) | (with_reducible refine Below.setCell ?_ ?_ _) | go_size)⟩
theorem i_next4 (a b c x y s : Nat) (w : World) (hx : fits .f32 x) (hs : fits .f32 s) : Calls Try.prog 116 #[.agg #[.float .f32 a, .float .f32 b, .float .f32 c], .agg #[.float .f32 x, .float .f32 y], .float .f32 s] w (OutN 4 a b c x y s w) := by
  have Hx := hid hx; have Hs := hid hs; clear hx hs
  go_enter Try.func116, Try.ntmps116
  go_wp2_with (with_reducible refine wpList_farith rfl rfl rfl rfl rfl ?_; intro r n hr hf)
  rename_i r1 n1 h1 f1 r2 n2 h2 f2 r3 n3 h3 f3 r4 n4 h4 f4 KK aa
  have e : can .f32 r = outF 4 a b c x y s := (by rw [hr.out]; exact fop_congr (h3.out.trans ((fop_congr (h1.out.trans (can_fop _ _ _ _).symm) (h2.out.trans (can_fop _ _ _ _).symm)).trans (can_fop _ _ _ _).symm)) (h4.out.trans (can_fop _ _ _ _).symm))
  have F := ((((Frm.nil w).box 138 #[.float .f32 a, .float .f32 b, .float .f32 c]).box 27 #[.float .f32 x, .float .f32 y]).box 27 #[.float .f32 0, .float .f32 0])
  simp only [World.size_alloc] at F
  refine region_tail (fun _ _ _ _ => True) 6 (by kernel_rfl) (by kernel_rfl) ?_
  simp only [List.take_succ_cons, List.take_zero, List.drop_succ_cons, List.drop_zero]
  refine wpFree_one rfl (.float .f32 r) (fun w1 _ => by kernel_rfl) ?_
  simp only [Act.put, List.setIfInBounds_toArray, List.set_cons_succ, List.set_cons_zero]
  refine wpFree_one rfl (.float .f32 r) (fun w1 _ => by kernel_rfl) ?_
  simp only [Act.put, List.setIfInBounds_toArray, List.set_cons_succ, List.set_cons_zero]
  refine wpFree_one rfl (.pointer (some ⟨w.heap.size + 1, 0, none⟩)) (fun w1 _ => by kernel_rfl) ?_
  simp only [Act.put, List.setIfInBounds_toArray, List.set_cons_succ, List.set_cons_zero]
  refine wpFree_loadF (F.drewN _) rfl rfl rfl rfl (k := .f32) (v := x) (List.mem_cons_of_mem _ List.mem_cons_self) rfl Try.underlying25 ?_
  simp only [Act.put, List.setIfInBounds_toArray, List.set_cons_succ, List.set_cons_zero]
  refine wpFree_one rfl (.agg #[.float .f32 r, .float .f32 x]) (fun w1 _ => by kernel_rfl) ?_
  simp only [Act.put, List.setIfInBounds_toArray, List.set_cons_succ, List.set_cons_zero]
  refine wpFree_one rfl (.float .f32 r) (fun w1 _ => by kernel_rfl) ?_
  simp only [Act.put, List.setIfInBounds_toArray, List.set_cons_succ, List.set_cons_zero]
  refine wpFree_nil (fun w3 hw3 hF => ?_)
  have F3 := ((F.drewN _).drewN 1).le hw3
  have hz : w.heap.size ≤ w.heap.size + 1 + 1 := by omega
  have RR := F3.row (g := w.heap.size + 1 + 1) (t := 27) (cs := #[.float .f32 0, .float .f32 0]) List.mem_cons_self
  refine wpList_storeD rfl rfl rfl (cells := #[.float .f32 r, .float .f32 x]) rfl RR info2 rfl (by simp [Value.oneCell']) (fun w' KW => ?_)
  have R' := hid KW.row
  have L' := hid (KW.below _ _ F3.below hz)
  clear F F3 RR KW hw3 hF hz
  replace e := hid e
  go_wp2
  refine bodyPost_ret (results_row2r rfl _ _ _ _ _ rfl R'.out Try.underlying27 rfl info2) rfl ?_
  exact ⟨_, _, _, rfl, e.out, kept_can (e.out.trans (can_outF _ _ _ _ _ _ _).symm), rfl, hf.out, Hx.out, hf.out, L'.out⟩
theorem i_next5 (a b c x y s : Nat) (w : World) (hx : fits .f32 x) (hs : fits .f32 s) : Calls Try.prog 117 #[.agg #[.float .f32 a, .float .f32 b, .float .f32 c], .agg #[.float .f32 x, .float .f32 y], .float .f32 s] w (OutN 5 a b c x y s w) := by
  have Hx := hid hx; have Hs := hid hs; clear hx hs
  go_enter Try.func117, Try.ntmps117
  go_wp2_with (with_reducible refine wpList_farith rfl rfl rfl rfl rfl ?_; intro r n hr hf)
  rename_i r1 n1 h1 f1 r2 n2 h2 f2
  have e : can .f32 r = outF 5 a b c x y s := (by rw [hr.out]; exact fop_congr (h1.out.trans (can_fop _ _ _ _).symm) (h2.out.trans (can_fop _ _ _ _).symm))
  refine bodyPost_ret (results_row2r rfl _ _ _ _ _ rfl (Row.store2 ((Row.new' _ _ _ (by simp)).drewN _)) Try.underlying27 rfl info2) rfl ?_
  exact ⟨_, _, _, rfl, e, rfl, kept_can (e.trans (can_outF _ _ _ _ _ _ _).symm), Hs.out, hf.out, hf.out, by unfold le; repeat' (first | (with_reducible exact Below.refl _ _) | (with_reducible assumption) | (with_reducible refine below_drewN ?_ _) | (with_reducible refine Below.alloc ?_ ?_ _) | (with_reducible refine Below.drew ?_) | (with_reducible refine Below.setCell ?_ ?_ _) | go_size)⟩
theorem alloc2 (w : World) : (Instr.alloc 27 true (.tuple #[])).run Try.prog w = .ok (.pointer (some ⟨w.heap.size, 0, none⟩)) (w.alloc (.cells #[.float .f32 0, .float .f32 0] 27)) := by kernel_rfl
set_option maxHeartbeats 2000000 in
theorem i_step1 (a b c x y s g : Nat) (w : World) (R : Row w g 103 #[.iface 135 (.agg #[.float .f32 a, .float .f32 b, .float .f32 c]), .float .f32 x, .float .f32 y]) (hx : fits .f32 x) (hs : fits .f32 s) :
    Calls Try.prog 53 #[.pointer (some ⟨g, 0, none⟩), .float .f32 s] w (OutS 1 a b c x y s g 103 (fun u v => #[.iface 135 (.agg #[.float .f32 a, .float .f32 b, .float .f32 c]), .float .f32 u, .float .f32 v]) w) := by
  have Hx := hid hx; have Hs := hid hs; clear hx hs
  have F := Frm.one R
  clear R
  go_enter Try.func53, Try.ntmps53
  go_upto_region 1 with (fail)
  refine region_tail (fun f args _ v => ∃ r p q, v = .tuple #[.float .f32 r, .agg #[.float .f32 p, .float .f32 q]] ∧ can .f32 r = outF 1 a b c x y s ∧ kept p = st0 1 a b c x y s ∧ kept q = st1 1 a b c x y s ∧ fits .f32 p ∧ fits .f32 q ∧ fits .f32 r) 17 (by kernel_rfl) (by kernel_rfl) ?_
  simp only [List.take_succ_cons, List.take_zero, List.drop_succ_cons, List.drop_zero]
  refine wpFree_one rfl (.pointer (some ⟨g, 0, none⟩)) (fun w1 _ => by kernel_rfl) ?_
  simp only [Act.put, List.setIfInBounds_toArray, List.set_cons_succ, List.set_cons_zero]
  refine wpFree_one rfl (.pointer (some ⟨g, 0, none⟩)) (fun w1 _ => by kernel_rfl) ?_
  simp only [Act.put, List.setIfInBounds_toArray, List.set_cons_succ, List.set_cons_zero]
  refine wpFree_one rfl (.pointer (some ⟨g, 0, none⟩)) (fun w1 _ => by kernel_rfl) ?_
  simp only [Act.put, List.setIfInBounds_toArray, List.set_cons_succ, List.set_cons_zero]
  refine wpFree_loadV F rfl rfl rfl rfl List.mem_cons_self rfl (fun w1 => by kernel_rfl) ?_
  simp only [Act.put, List.setIfInBounds_toArray, List.set_cons_succ, List.set_cons_zero]
  refine wpFree_one rfl (.pointer (some ⟨g, 0, none⟩)) (fun w1 _ => by kernel_rfl) ?_
  simp only [Act.put, List.setIfInBounds_toArray, List.set_cons_succ, List.set_cons_zero]
  refine wpFree_one rfl (.pointer (some ⟨g, 0, none⟩)) (fun w1 _ => by kernel_rfl) ?_
  simp only [Act.put, List.setIfInBounds_toArray, List.set_cons_succ, List.set_cons_zero]
  refine wpFree_one rfl (.pointer (some ⟨g, 1, none⟩)) (fun w1 _ => by kernel_rfl) ?_
  simp only [Act.put, List.setIfInBounds_toArray, List.set_cons_succ, List.set_cons_zero]
  refine wpFree_loadPart F rfl rfl rfl rfl (List.mem_cons_self) Try.underlying27 rfl [.float .f32 x, .float .f32 y] (fun j hj => by match j, hj with | 0, _ => rfl | 1, _ => rfl) info2 ?_
  simp only [Act.put, List.setIfInBounds_toArray, List.set_cons_succ, List.set_cons_zero]
  refine wpFree_one rfl (.float .f32 s) (fun w1 _ => by kernel_rfl) ?_
  simp only [Act.put, List.setIfInBounds_toArray, List.set_cons_succ, List.set_cons_zero]
  refine wpFree_one rfl (.iface 135 (.agg #[.float .f32 a, .float .f32 b, .float .f32 c])) (fun w1 _ => by kernel_rfl) ?_
  simp only [Act.put, List.setIfInBounds_toArray, List.set_cons_succ, List.set_cons_zero]
  refine wpFree_one rfl (.iface 135 (.agg #[.float .f32 a, .float .f32 b, .float .f32 c])) (fun w1 _ => by kernel_rfl) ?_
  simp only [Act.put, List.setIfInBounds_toArray, List.set_cons_succ, List.set_cons_zero]
  refine wpFree_callR rfl 113 #[.agg #[.float .f32 a, .float .f32 b, .float .f32 c], .agg #[.float .f32 x, .float .f32 y], .float .f32 s] (fun w1 => by kernel_rfl) (fun _ _ _ _ h => h) (fun w1 _ => (i_next1 a b c x y s w1 Hx.out Hs.out).mono ?_) ?_
  · rintro e w2 ⟨r, p, q, rfl, h1, h2, h3, h4, h5, h6, hl⟩
    exact ⟨_, rfl, hl, r, p, q, rfl, h1, h2, h3, h4, h5, h6⟩
  rintro v ⟨_, _, r, p, q, rfl, h1, h2, h3, h4, h5, h6⟩
  replace h1 := hid h1; replace h2 := hid h2; replace h3 := hid h3; replace h4 := hid h4; replace h5 := hid h5; replace h6 := hid h6
  simp only [Act.put, List.setIfInBounds_toArray, List.set_cons_succ, List.set_cons_zero]
  refine wpFree_one rfl (.tuple #[.float .f32 r, .agg #[.float .f32 p, .float .f32 q]]) (fun w1 _ => by kernel_rfl) ?_
  simp only [Act.put, List.setIfInBounds_toArray, List.set_cons_succ, List.set_cons_zero]
  refine wpFree_one rfl (.float .f32 r) (fun w1 _ => by kernel_rfl) ?_
  simp only [Act.put, List.setIfInBounds_toArray, List.set_cons_succ, List.set_cons_zero]
  refine wpFree_one rfl (.agg #[.float .f32 p, .float .f32 q]) (fun w1 _ => by kernel_rfl) ?_
  simp only [Act.put, List.setIfInBounds_toArray, List.set_cons_succ, List.set_cons_zero]
  refine wpFree_alloc rfl rfl #[.float .f32 0, .float .f32 0] alloc2 (fun g2 hg2 => ?_)
  simp only [Act.put, List.setIfInBounds_toArray, List.set_cons_succ, List.set_cons_zero]
  refine wpFree_one rfl (.float .f32 r) (fun w1 _ => by kernel_rfl) ?_
  simp only [Act.put, List.setIfInBounds_toArray, List.set_cons_succ, List.set_cons_zero]
  refine wpFree_nil (fun w3 hw3 hF => ?_)
  obtain ⟨_, b', hbb, _, hrow⟩ := hF
  obtain rfl : g2 = b' := by simpa using hbb
  have hlt : g < w.heap.size := F.lt List.mem_cons_self
  have hz : w.heap.size ≤ g2 := by simpa using hg2
  have hne : g ≠ g2 := by omega
  refine wpList_storeD rfl rfl rfl (cells := #[.float .f32 p, .float .f32 q]) rfl hrow info2 rfl (by simp [Value.oneCell']) (fun w4 KW => ?_)
  have R2 := KW.row
  have RG := KW.other _ _ _ hne (((F.drewN 1).le hw3).row List.mem_cons_self)
  have U := Upd.of_le (g := g) (KW.below _ _ (le_trans (le_drewN w 1) hw3) hz)
  replace hne := hid hne
  clear hbb hrow hw3 hg2 F KW hlt hz
  replace U := hid U
  replace RG := hid RG
  go_wp2_with (with_reducible refine wpList_loadDn rfl rfl rfl R2 Try.underlying27 rfl info2 (by simp) ?_)
  replace R2 := hid R2
  go_loopw [25] (fun i wr => ∃ j : Nat, j ≤ 2 ∧ i = .int .i64 j ∧ Hid (Row wr g 103 #[.iface 135 (.agg #[.float .f32 a, .float .f32 b, .float .f32 c]), .float .f32 (if j = 0 then x else st0 1 a b c x y s), .float .f32 (if j < 2 then y else st1 1 a b c x y s)]) ∧ Hid (Upd g w wr)) (fun i _ => 2 - (intOf i).toNat)
  case atStart => exact ⟨0, by omega, rfl, RG, U⟩
  case round =>
    obtain ⟨j, hj, rfl, RJ, UJ⟩ := hrel
    rcases (show j = 0 ∨ j = 1 ∨ j = 2 by omega) with rfl | rfl | rfl
    · simp only [if_true, if_pos (show (0 : Nat) < 2 by decide)] at RJ
      clear RG U
      have ix : ∀ w, (Instr.index 27 (.agg #[.float .f32 p, .float .f32 q]) (.int .i64 0)).run Try.prog w = .ok (.float .f32 p) w := fun w => by kernel_rfl
      rw [show ((0 : Nat) : Int) = 0 from rfl]
      go_wp2
      clear ix
      refine region_tail (fun _ _ _ v => v = .float .f32 (kept p)) 7 (by kernel_rfl) (by kernel_rfl) ?_
      simp only [List.take_succ_cons, List.take_zero, List.drop_succ_cons, List.drop_zero]
      refine wpFree_one rfl (.pointer (some ⟨g, 0, none⟩)) (fun w1 _ => by kernel_rfl) ?_
      simp only [Act.put, List.setIfInBounds_toArray, List.set_cons_succ, List.set_cons_zero]
      refine wpFree_one rfl (.int .i64 0) (fun w1 _ => by kernel_rfl) ?_
      simp only [Act.put, List.setIfInBounds_toArray, List.set_cons_succ, List.set_cons_zero]
      refine wpFree_one rfl (.float .f32 p) (fun w1 _ => by kernel_rfl) ?_
      simp only [Act.put, List.setIfInBounds_toArray, List.set_cons_succ, List.set_cons_zero]
      refine wpFree_call rfl rfl Try.func77 (by kernel_rfl) (by kernel_rfl) (args := #[.float .f32 p]) (by simp [Act.eval]) (fun _ _ _ _ h => h) (fun w1 _ => (i_kept p w1 h4.out).mono ?_) ?_
      · rintro e w2 ⟨rfl, rfl⟩
        exact ⟨_, rfl, le_refl _, rfl⟩
      rintro v ⟨_, _, rfl⟩
      simp only [Act.put, List.setIfInBounds_toArray, List.set_cons_succ, List.set_cons_zero]
      refine wpFree_one rfl (.pointer (some ⟨g, 0, none⟩)) (fun w1 _ => by kernel_rfl) ?_
      simp only [Act.put, List.setIfInBounds_toArray, List.set_cons_succ, List.set_cons_zero]
      refine wpFree_one rfl (.pointer (some ⟨g, 1, none⟩)) (fun w1 _ => by kernel_rfl) ?_
      simp only [Act.put, List.setIfInBounds_toArray, List.set_cons_succ, List.set_cons_zero]
      refine wpFree_one rfl (.pointer (some ⟨g, 1 + 0, none⟩)) (fun w1 _ => by kernel_rfl) ?_
      simp only [Act.put, List.setIfInBounds_toArray, List.set_cons_succ, List.set_cons_zero]
      refine wpFree_nil (fun w5 hw5 _ => ?_)
      have RR := (RJ.out.drewN 1).le hw5
      have UU := hid ((UJ.out.le (le_drewN _ 1)).le hw5)
      have cc := RR.cell? (1 + 0)
      have ff := RR.frozen (1 + 0)
      replace RR := hid RR
      clear hw5
      go_wp2
      go_roundw
      case rel => exact ⟨0 + 1, by omega, by go_num, by have := RR.out.set (1 + 0) (.float .f32 (kept p)); rw [h2.out] at this; show Row _ _ _ _; rw [h2.out]; simpa using this, UU.out.setCell rfl _⟩
      case measure => simp [intOf]
    · simp only [if_neg (show ¬ (1 : Nat) = 0 by decide), if_pos (show (1 : Nat) < 2 by decide)] at RJ
      clear RG U
      have ix : ∀ w, (Instr.index 27 (.agg #[.float .f32 p, .float .f32 q]) (.int .i64 1)).run Try.prog w = .ok (.float .f32 q) w := fun w => by kernel_rfl
      rw [show ((1 : Nat) : Int) = 1 from rfl]
      go_wp2
      clear ix
      refine region_tail (fun _ _ _ v => v = .float .f32 (kept q)) 7 (by kernel_rfl) (by kernel_rfl) ?_
      simp only [List.take_succ_cons, List.take_zero, List.drop_succ_cons, List.drop_zero]
      refine wpFree_one rfl (.pointer (some ⟨g, 0, none⟩)) (fun w1 _ => by kernel_rfl) ?_
      simp only [Act.put, List.setIfInBounds_toArray, List.set_cons_succ, List.set_cons_zero]
      refine wpFree_one rfl (.int .i64 1) (fun w1 _ => by kernel_rfl) ?_
      simp only [Act.put, List.setIfInBounds_toArray, List.set_cons_succ, List.set_cons_zero]
      refine wpFree_one rfl (.float .f32 q) (fun w1 _ => by kernel_rfl) ?_
      simp only [Act.put, List.setIfInBounds_toArray, List.set_cons_succ, List.set_cons_zero]
      refine wpFree_call rfl rfl Try.func77 (by kernel_rfl) (by kernel_rfl) (args := #[.float .f32 q]) (by simp [Act.eval]) (fun _ _ _ _ h => h) (fun w1 _ => (i_kept q w1 h5.out).mono ?_) ?_
      · rintro e w2 ⟨rfl, rfl⟩
        exact ⟨_, rfl, le_refl _, rfl⟩
      rintro v ⟨_, _, rfl⟩
      simp only [Act.put, List.setIfInBounds_toArray, List.set_cons_succ, List.set_cons_zero]
      refine wpFree_one rfl (.pointer (some ⟨g, 0, none⟩)) (fun w1 _ => by kernel_rfl) ?_
      simp only [Act.put, List.setIfInBounds_toArray, List.set_cons_succ, List.set_cons_zero]
      refine wpFree_one rfl (.pointer (some ⟨g, 1, none⟩)) (fun w1 _ => by kernel_rfl) ?_
      simp only [Act.put, List.setIfInBounds_toArray, List.set_cons_succ, List.set_cons_zero]
      refine wpFree_one rfl (.pointer (some ⟨g, 1 + 1, none⟩)) (fun w1 _ => by kernel_rfl) ?_
      simp only [Act.put, List.setIfInBounds_toArray, List.set_cons_succ, List.set_cons_zero]
      refine wpFree_nil (fun w5 hw5 _ => ?_)
      have RR := (RJ.out.drewN 1).le hw5
      have UU := hid ((UJ.out.le (le_drewN _ 1)).le hw5)
      have cc := RR.cell? (1 + 1)
      have ff := RR.frozen (1 + 1)
      replace RR := hid RR
      clear hw5
      go_wp2
      go_roundw
      case rel => exact ⟨1 + 1, by omega, by go_num, by have := RR.out.set (1 + 1) (.float .f32 (kept q)); rw [h3.out] at this; show Row _ _ _ _; rw [h3.out]; simpa using this, UU.out.setCell rfl _⟩
      case measure => simp [intOf]
    · simp only [if_neg (show ¬ (2 : Nat) = 0 by decide), if_neg (show ¬ (2 : Nat) < 2 by decide)] at RJ
      clear RG U
      go_wp2
      go_ret
      exact ⟨_, rfl, h1.out, h6.out, RJ.out, UJ.out⟩
set_option maxHeartbeats 2000000 in
theorem i_step2 (a b c x y s g : Nat) (w : World) (R : Row w g 103 #[.iface 136 (.agg #[.float .f32 a, .float .f32 b, .float .f32 c]), .float .f32 x, .float .f32 y]) (hx : fits .f32 x) (hs : fits .f32 s) :
    Calls Try.prog 53 #[.pointer (some ⟨g, 0, none⟩), .float .f32 s] w (OutS 2 a b c x y s g 103 (fun u v => #[.iface 136 (.agg #[.float .f32 a, .float .f32 b, .float .f32 c]), .float .f32 u, .float .f32 v]) w) := by
  have Hx := hid hx; have Hs := hid hs; clear hx hs
  have F := Frm.one R
  clear R
  go_enter Try.func53, Try.ntmps53
  go_upto_region 1 with (fail)
  refine region_tail (fun f args _ v => ∃ r p q, v = .tuple #[.float .f32 r, .agg #[.float .f32 p, .float .f32 q]] ∧ can .f32 r = outF 2 a b c x y s ∧ kept p = st0 2 a b c x y s ∧ kept q = st1 2 a b c x y s ∧ fits .f32 p ∧ fits .f32 q ∧ fits .f32 r) 17 (by kernel_rfl) (by kernel_rfl) ?_
  simp only [List.take_succ_cons, List.take_zero, List.drop_succ_cons, List.drop_zero]
  refine wpFree_one rfl (.pointer (some ⟨g, 0, none⟩)) (fun w1 _ => by kernel_rfl) ?_
  simp only [Act.put, List.setIfInBounds_toArray, List.set_cons_succ, List.set_cons_zero]
  refine wpFree_one rfl (.pointer (some ⟨g, 0, none⟩)) (fun w1 _ => by kernel_rfl) ?_
  simp only [Act.put, List.setIfInBounds_toArray, List.set_cons_succ, List.set_cons_zero]
  refine wpFree_one rfl (.pointer (some ⟨g, 0, none⟩)) (fun w1 _ => by kernel_rfl) ?_
  simp only [Act.put, List.setIfInBounds_toArray, List.set_cons_succ, List.set_cons_zero]
  refine wpFree_loadV F rfl rfl rfl rfl List.mem_cons_self rfl (fun w1 => by kernel_rfl) ?_
  simp only [Act.put, List.setIfInBounds_toArray, List.set_cons_succ, List.set_cons_zero]
  refine wpFree_one rfl (.pointer (some ⟨g, 0, none⟩)) (fun w1 _ => by kernel_rfl) ?_
  simp only [Act.put, List.setIfInBounds_toArray, List.set_cons_succ, List.set_cons_zero]
  refine wpFree_one rfl (.pointer (some ⟨g, 0, none⟩)) (fun w1 _ => by kernel_rfl) ?_
  simp only [Act.put, List.setIfInBounds_toArray, List.set_cons_succ, List.set_cons_zero]
  refine wpFree_one rfl (.pointer (some ⟨g, 1, none⟩)) (fun w1 _ => by kernel_rfl) ?_
  simp only [Act.put, List.setIfInBounds_toArray, List.set_cons_succ, List.set_cons_zero]
  refine wpFree_loadPart F rfl rfl rfl rfl (List.mem_cons_self) Try.underlying27 rfl [.float .f32 x, .float .f32 y] (fun j hj => by match j, hj with | 0, _ => rfl | 1, _ => rfl) info2 ?_
  simp only [Act.put, List.setIfInBounds_toArray, List.set_cons_succ, List.set_cons_zero]
  refine wpFree_one rfl (.float .f32 s) (fun w1 _ => by kernel_rfl) ?_
  simp only [Act.put, List.setIfInBounds_toArray, List.set_cons_succ, List.set_cons_zero]
  refine wpFree_one rfl (.iface 136 (.agg #[.float .f32 a, .float .f32 b, .float .f32 c])) (fun w1 _ => by kernel_rfl) ?_
  simp only [Act.put, List.setIfInBounds_toArray, List.set_cons_succ, List.set_cons_zero]
  refine wpFree_one rfl (.iface 136 (.agg #[.float .f32 a, .float .f32 b, .float .f32 c])) (fun w1 _ => by kernel_rfl) ?_
  simp only [Act.put, List.setIfInBounds_toArray, List.set_cons_succ, List.set_cons_zero]
  refine wpFree_callR rfl 114 #[.agg #[.float .f32 a, .float .f32 b, .float .f32 c], .agg #[.float .f32 x, .float .f32 y], .float .f32 s] (fun w1 => by kernel_rfl) (fun _ _ _ _ h => h) (fun w1 _ => (i_next2 a b c x y s w1 Hx.out Hs.out).mono ?_) ?_
  · rintro e w2 ⟨r, p, q, rfl, h1, h2, h3, h4, h5, h6, hl⟩
    exact ⟨_, rfl, hl, r, p, q, rfl, h1, h2, h3, h4, h5, h6⟩
  rintro v ⟨_, _, r, p, q, rfl, h1, h2, h3, h4, h5, h6⟩
  replace h1 := hid h1; replace h2 := hid h2; replace h3 := hid h3; replace h4 := hid h4; replace h5 := hid h5; replace h6 := hid h6
  simp only [Act.put, List.setIfInBounds_toArray, List.set_cons_succ, List.set_cons_zero]
  refine wpFree_one rfl (.tuple #[.float .f32 r, .agg #[.float .f32 p, .float .f32 q]]) (fun w1 _ => by kernel_rfl) ?_
  simp only [Act.put, List.setIfInBounds_toArray, List.set_cons_succ, List.set_cons_zero]
  refine wpFree_one rfl (.float .f32 r) (fun w1 _ => by kernel_rfl) ?_
  simp only [Act.put, List.setIfInBounds_toArray, List.set_cons_succ, List.set_cons_zero]
  refine wpFree_one rfl (.agg #[.float .f32 p, .float .f32 q]) (fun w1 _ => by kernel_rfl) ?_
  simp only [Act.put, List.setIfInBounds_toArray, List.set_cons_succ, List.set_cons_zero]
  refine wpFree_alloc rfl rfl #[.float .f32 0, .float .f32 0] alloc2 (fun g2 hg2 => ?_)
  simp only [Act.put, List.setIfInBounds_toArray, List.set_cons_succ, List.set_cons_zero]
  refine wpFree_one rfl (.float .f32 r) (fun w1 _ => by kernel_rfl) ?_
  simp only [Act.put, List.setIfInBounds_toArray, List.set_cons_succ, List.set_cons_zero]
  refine wpFree_nil (fun w3 hw3 hF => ?_)
  obtain ⟨_, b', hbb, _, hrow⟩ := hF
  obtain rfl : g2 = b' := by simpa using hbb
  have hlt : g < w.heap.size := F.lt List.mem_cons_self
  have hz : w.heap.size ≤ g2 := by simpa using hg2
  have hne : g ≠ g2 := by omega
  refine wpList_storeD rfl rfl rfl (cells := #[.float .f32 p, .float .f32 q]) rfl hrow info2 rfl (by simp [Value.oneCell']) (fun w4 KW => ?_)
  have R2 := KW.row
  have RG := KW.other _ _ _ hne (((F.drewN 1).le hw3).row List.mem_cons_self)
  have U := Upd.of_le (g := g) (KW.below _ _ (le_trans (le_drewN w 1) hw3) hz)
  replace hne := hid hne
  clear hbb hrow hw3 hg2 F KW hlt hz
  replace U := hid U
  replace RG := hid RG
  go_wp2_with (with_reducible refine wpList_loadDn rfl rfl rfl R2 Try.underlying27 rfl info2 (by simp) ?_)
  replace R2 := hid R2
  go_loopw [25] (fun i wr => ∃ j : Nat, j ≤ 2 ∧ i = .int .i64 j ∧ Hid (Row wr g 103 #[.iface 136 (.agg #[.float .f32 a, .float .f32 b, .float .f32 c]), .float .f32 (if j = 0 then x else st0 2 a b c x y s), .float .f32 (if j < 2 then y else st1 2 a b c x y s)]) ∧ Hid (Upd g w wr)) (fun i _ => 2 - (intOf i).toNat)
  case atStart => exact ⟨0, by omega, rfl, RG, U⟩
  case round =>
    obtain ⟨j, hj, rfl, RJ, UJ⟩ := hrel
    rcases (show j = 0 ∨ j = 1 ∨ j = 2 by omega) with rfl | rfl | rfl
    · simp only [if_true, if_pos (show (0 : Nat) < 2 by decide)] at RJ
      clear RG U
      have ix : ∀ w, (Instr.index 27 (.agg #[.float .f32 p, .float .f32 q]) (.int .i64 0)).run Try.prog w = .ok (.float .f32 p) w := fun w => by kernel_rfl
      rw [show ((0 : Nat) : Int) = 0 from rfl]
      go_wp2
      clear ix
      refine region_tail (fun _ _ _ v => v = .float .f32 (kept p)) 7 (by kernel_rfl) (by kernel_rfl) ?_
      simp only [List.take_succ_cons, List.take_zero, List.drop_succ_cons, List.drop_zero]
      refine wpFree_one rfl (.pointer (some ⟨g, 0, none⟩)) (fun w1 _ => by kernel_rfl) ?_
      simp only [Act.put, List.setIfInBounds_toArray, List.set_cons_succ, List.set_cons_zero]
      refine wpFree_one rfl (.int .i64 0) (fun w1 _ => by kernel_rfl) ?_
      simp only [Act.put, List.setIfInBounds_toArray, List.set_cons_succ, List.set_cons_zero]
      refine wpFree_one rfl (.float .f32 p) (fun w1 _ => by kernel_rfl) ?_
      simp only [Act.put, List.setIfInBounds_toArray, List.set_cons_succ, List.set_cons_zero]
      refine wpFree_call rfl rfl Try.func77 (by kernel_rfl) (by kernel_rfl) (args := #[.float .f32 p]) (by simp [Act.eval]) (fun _ _ _ _ h => h) (fun w1 _ => (i_kept p w1 h4.out).mono ?_) ?_
      · rintro e w2 ⟨rfl, rfl⟩
        exact ⟨_, rfl, le_refl _, rfl⟩
      rintro v ⟨_, _, rfl⟩
      simp only [Act.put, List.setIfInBounds_toArray, List.set_cons_succ, List.set_cons_zero]
      refine wpFree_one rfl (.pointer (some ⟨g, 0, none⟩)) (fun w1 _ => by kernel_rfl) ?_
      simp only [Act.put, List.setIfInBounds_toArray, List.set_cons_succ, List.set_cons_zero]
      refine wpFree_one rfl (.pointer (some ⟨g, 1, none⟩)) (fun w1 _ => by kernel_rfl) ?_
      simp only [Act.put, List.setIfInBounds_toArray, List.set_cons_succ, List.set_cons_zero]
      refine wpFree_one rfl (.pointer (some ⟨g, 1 + 0, none⟩)) (fun w1 _ => by kernel_rfl) ?_
      simp only [Act.put, List.setIfInBounds_toArray, List.set_cons_succ, List.set_cons_zero]
      refine wpFree_nil (fun w5 hw5 _ => ?_)
      have RR := (RJ.out.drewN 1).le hw5
      have UU := hid ((UJ.out.le (le_drewN _ 1)).le hw5)
      have cc := RR.cell? (1 + 0)
      have ff := RR.frozen (1 + 0)
      replace RR := hid RR
      clear hw5
      go_wp2
      go_roundw
      case rel => exact ⟨0 + 1, by omega, by go_num, by have := RR.out.set (1 + 0) (.float .f32 (kept p)); rw [h2.out] at this; show Row _ _ _ _; rw [h2.out]; simpa using this, UU.out.setCell rfl _⟩
      case measure => simp [intOf]
    · simp only [if_neg (show ¬ (1 : Nat) = 0 by decide), if_pos (show (1 : Nat) < 2 by decide)] at RJ
      clear RG U
      have ix : ∀ w, (Instr.index 27 (.agg #[.float .f32 p, .float .f32 q]) (.int .i64 1)).run Try.prog w = .ok (.float .f32 q) w := fun w => by kernel_rfl
      rw [show ((1 : Nat) : Int) = 1 from rfl]
      go_wp2
      clear ix
      refine region_tail (fun _ _ _ v => v = .float .f32 (kept q)) 7 (by kernel_rfl) (by kernel_rfl) ?_
      simp only [List.take_succ_cons, List.take_zero, List.drop_succ_cons, List.drop_zero]
      refine wpFree_one rfl (.pointer (some ⟨g, 0, none⟩)) (fun w1 _ => by kernel_rfl) ?_
      simp only [Act.put, List.setIfInBounds_toArray, List.set_cons_succ, List.set_cons_zero]
      refine wpFree_one rfl (.int .i64 1) (fun w1 _ => by kernel_rfl) ?_
      simp only [Act.put, List.setIfInBounds_toArray, List.set_cons_succ, List.set_cons_zero]
      refine wpFree_one rfl (.float .f32 q) (fun w1 _ => by kernel_rfl) ?_
      simp only [Act.put, List.setIfInBounds_toArray, List.set_cons_succ, List.set_cons_zero]
      refine wpFree_call rfl rfl Try.func77 (by kernel_rfl) (by kernel_rfl) (args := #[.float .f32 q]) (by simp [Act.eval]) (fun _ _ _ _ h => h) (fun w1 _ => (i_kept q w1 h5.out).mono ?_) ?_
      · rintro e w2 ⟨rfl, rfl⟩
        exact ⟨_, rfl, le_refl _, rfl⟩
      rintro v ⟨_, _, rfl⟩
      simp only [Act.put, List.setIfInBounds_toArray, List.set_cons_succ, List.set_cons_zero]
      refine wpFree_one rfl (.pointer (some ⟨g, 0, none⟩)) (fun w1 _ => by kernel_rfl) ?_
      simp only [Act.put, List.setIfInBounds_toArray, List.set_cons_succ, List.set_cons_zero]
      refine wpFree_one rfl (.pointer (some ⟨g, 1, none⟩)) (fun w1 _ => by kernel_rfl) ?_
      simp only [Act.put, List.setIfInBounds_toArray, List.set_cons_succ, List.set_cons_zero]
      refine wpFree_one rfl (.pointer (some ⟨g, 1 + 1, none⟩)) (fun w1 _ => by kernel_rfl) ?_
      simp only [Act.put, List.setIfInBounds_toArray, List.set_cons_succ, List.set_cons_zero]
      refine wpFree_nil (fun w5 hw5 _ => ?_)
      have RR := (RJ.out.drewN 1).le hw5
      have UU := hid ((UJ.out.le (le_drewN _ 1)).le hw5)
      have cc := RR.cell? (1 + 1)
      have ff := RR.frozen (1 + 1)
      replace RR := hid RR
      clear hw5
      go_wp2
      go_roundw
      case rel => exact ⟨1 + 1, by omega, by go_num, by have := RR.out.set (1 + 1) (.float .f32 (kept q)); rw [h3.out] at this; show Row _ _ _ _; rw [h3.out]; simpa using this, UU.out.setCell rfl _⟩
      case measure => simp [intOf]
    · simp only [if_neg (show ¬ (2 : Nat) = 0 by decide), if_neg (show ¬ (2 : Nat) < 2 by decide)] at RJ
      clear RG U
      go_wp2
      go_ret
      exact ⟨_, rfl, h1.out, h6.out, RJ.out, UJ.out⟩
set_option maxHeartbeats 2000000 in
theorem i_step3 (a b c x y s g : Nat) (w : World) (R : Row w g 103 #[.iface 137 (.agg #[.float .f32 a, .float .f32 b, .float .f32 c]), .float .f32 x, .float .f32 y]) (hx : fits .f32 x) (hs : fits .f32 s) :
    Calls Try.prog 53 #[.pointer (some ⟨g, 0, none⟩), .float .f32 s] w (OutS 3 a b c x y s g 103 (fun u v => #[.iface 137 (.agg #[.float .f32 a, .float .f32 b, .float .f32 c]), .float .f32 u, .float .f32 v]) w) := by
  have Hx := hid hx; have Hs := hid hs; clear hx hs
  have F := Frm.one R
  clear R
  go_enter Try.func53, Try.ntmps53
  go_upto_region 1 with (fail)
  refine region_tail (fun f args _ v => ∃ r p q, v = .tuple #[.float .f32 r, .agg #[.float .f32 p, .float .f32 q]] ∧ can .f32 r = outF 3 a b c x y s ∧ kept p = st0 3 a b c x y s ∧ kept q = st1 3 a b c x y s ∧ fits .f32 p ∧ fits .f32 q ∧ fits .f32 r) 17 (by kernel_rfl) (by kernel_rfl) ?_
  simp only [List.take_succ_cons, List.take_zero, List.drop_succ_cons, List.drop_zero]
  refine wpFree_one rfl (.pointer (some ⟨g, 0, none⟩)) (fun w1 _ => by kernel_rfl) ?_
  simp only [Act.put, List.setIfInBounds_toArray, List.set_cons_succ, List.set_cons_zero]
  refine wpFree_one rfl (.pointer (some ⟨g, 0, none⟩)) (fun w1 _ => by kernel_rfl) ?_
  simp only [Act.put, List.setIfInBounds_toArray, List.set_cons_succ, List.set_cons_zero]
  refine wpFree_one rfl (.pointer (some ⟨g, 0, none⟩)) (fun w1 _ => by kernel_rfl) ?_
  simp only [Act.put, List.setIfInBounds_toArray, List.set_cons_succ, List.set_cons_zero]
  refine wpFree_loadV F rfl rfl rfl rfl List.mem_cons_self rfl (fun w1 => by kernel_rfl) ?_
  simp only [Act.put, List.setIfInBounds_toArray, List.set_cons_succ, List.set_cons_zero]
  refine wpFree_one rfl (.pointer (some ⟨g, 0, none⟩)) (fun w1 _ => by kernel_rfl) ?_
  simp only [Act.put, List.setIfInBounds_toArray, List.set_cons_succ, List.set_cons_zero]
  refine wpFree_one rfl (.pointer (some ⟨g, 0, none⟩)) (fun w1 _ => by kernel_rfl) ?_
  simp only [Act.put, List.setIfInBounds_toArray, List.set_cons_succ, List.set_cons_zero]
  refine wpFree_one rfl (.pointer (some ⟨g, 1, none⟩)) (fun w1 _ => by kernel_rfl) ?_
  simp only [Act.put, List.setIfInBounds_toArray, List.set_cons_succ, List.set_cons_zero]
  refine wpFree_loadPart F rfl rfl rfl rfl (List.mem_cons_self) Try.underlying27 rfl [.float .f32 x, .float .f32 y] (fun j hj => by match j, hj with | 0, _ => rfl | 1, _ => rfl) info2 ?_
  simp only [Act.put, List.setIfInBounds_toArray, List.set_cons_succ, List.set_cons_zero]
  refine wpFree_one rfl (.float .f32 s) (fun w1 _ => by kernel_rfl) ?_
  simp only [Act.put, List.setIfInBounds_toArray, List.set_cons_succ, List.set_cons_zero]
  refine wpFree_one rfl (.iface 137 (.agg #[.float .f32 a, .float .f32 b, .float .f32 c])) (fun w1 _ => by kernel_rfl) ?_
  simp only [Act.put, List.setIfInBounds_toArray, List.set_cons_succ, List.set_cons_zero]
  refine wpFree_one rfl (.iface 137 (.agg #[.float .f32 a, .float .f32 b, .float .f32 c])) (fun w1 _ => by kernel_rfl) ?_
  simp only [Act.put, List.setIfInBounds_toArray, List.set_cons_succ, List.set_cons_zero]
  refine wpFree_callR rfl 115 #[.agg #[.float .f32 a, .float .f32 b, .float .f32 c], .agg #[.float .f32 x, .float .f32 y], .float .f32 s] (fun w1 => by kernel_rfl) (fun _ _ _ _ h => h) (fun w1 _ => (i_next3 a b c x y s w1 Hx.out Hs.out).mono ?_) ?_
  · rintro e w2 ⟨r, p, q, rfl, h1, h2, h3, h4, h5, h6, hl⟩
    exact ⟨_, rfl, hl, r, p, q, rfl, h1, h2, h3, h4, h5, h6⟩
  rintro v ⟨_, _, r, p, q, rfl, h1, h2, h3, h4, h5, h6⟩
  replace h1 := hid h1; replace h2 := hid h2; replace h3 := hid h3; replace h4 := hid h4; replace h5 := hid h5; replace h6 := hid h6
  simp only [Act.put, List.setIfInBounds_toArray, List.set_cons_succ, List.set_cons_zero]
  refine wpFree_one rfl (.tuple #[.float .f32 r, .agg #[.float .f32 p, .float .f32 q]]) (fun w1 _ => by kernel_rfl) ?_
  simp only [Act.put, List.setIfInBounds_toArray, List.set_cons_succ, List.set_cons_zero]
  refine wpFree_one rfl (.float .f32 r) (fun w1 _ => by kernel_rfl) ?_
  simp only [Act.put, List.setIfInBounds_toArray, List.set_cons_succ, List.set_cons_zero]
  refine wpFree_one rfl (.agg #[.float .f32 p, .float .f32 q]) (fun w1 _ => by kernel_rfl) ?_
  simp only [Act.put, List.setIfInBounds_toArray, List.set_cons_succ, List.set_cons_zero]
  refine wpFree_alloc rfl rfl #[.float .f32 0, .float .f32 0] alloc2 (fun g2 hg2 => ?_)
  simp only [Act.put, List.setIfInBounds_toArray, List.set_cons_succ, List.set_cons_zero]
  refine wpFree_one rfl (.float .f32 r) (fun w1 _ => by kernel_rfl) ?_
  simp only [Act.put, List.setIfInBounds_toArray, List.set_cons_succ, List.set_cons_zero]
  refine wpFree_nil (fun w3 hw3 hF => ?_)
  obtain ⟨_, b', hbb, _, hrow⟩ := hF
  obtain rfl : g2 = b' := by simpa using hbb
  have hlt : g < w.heap.size := F.lt List.mem_cons_self
  have hz : w.heap.size ≤ g2 := by simpa using hg2
  have hne : g ≠ g2 := by omega
  refine wpList_storeD rfl rfl rfl (cells := #[.float .f32 p, .float .f32 q]) rfl hrow info2 rfl (by simp [Value.oneCell']) (fun w4 KW => ?_)
  have R2 := KW.row
  have RG := KW.other _ _ _ hne (((F.drewN 1).le hw3).row List.mem_cons_self)
  have U := Upd.of_le (g := g) (KW.below _ _ (le_trans (le_drewN w 1) hw3) hz)
  replace hne := hid hne
  clear hbb hrow hw3 hg2 F KW hlt hz
  replace U := hid U
  replace RG := hid RG
  go_wp2_with (with_reducible refine wpList_loadDn rfl rfl rfl R2 Try.underlying27 rfl info2 (by simp) ?_)
  replace R2 := hid R2
  go_loopw [25] (fun i wr => ∃ j : Nat, j ≤ 2 ∧ i = .int .i64 j ∧ Hid (Row wr g 103 #[.iface 137 (.agg #[.float .f32 a, .float .f32 b, .float .f32 c]), .float .f32 (if j = 0 then x else st0 3 a b c x y s), .float .f32 (if j < 2 then y else st1 3 a b c x y s)]) ∧ Hid (Upd g w wr)) (fun i _ => 2 - (intOf i).toNat)
  case atStart => exact ⟨0, by omega, rfl, RG, U⟩
  case round =>
    obtain ⟨j, hj, rfl, RJ, UJ⟩ := hrel
    rcases (show j = 0 ∨ j = 1 ∨ j = 2 by omega) with rfl | rfl | rfl
    · simp only [if_true, if_pos (show (0 : Nat) < 2 by decide)] at RJ
      clear RG U
      have ix : ∀ w, (Instr.index 27 (.agg #[.float .f32 p, .float .f32 q]) (.int .i64 0)).run Try.prog w = .ok (.float .f32 p) w := fun w => by kernel_rfl
      rw [show ((0 : Nat) : Int) = 0 from rfl]
      go_wp2
      clear ix
      refine region_tail (fun _ _ _ v => v = .float .f32 (kept p)) 7 (by kernel_rfl) (by kernel_rfl) ?_
      simp only [List.take_succ_cons, List.take_zero, List.drop_succ_cons, List.drop_zero]
      refine wpFree_one rfl (.pointer (some ⟨g, 0, none⟩)) (fun w1 _ => by kernel_rfl) ?_
      simp only [Act.put, List.setIfInBounds_toArray, List.set_cons_succ, List.set_cons_zero]
      refine wpFree_one rfl (.int .i64 0) (fun w1 _ => by kernel_rfl) ?_
      simp only [Act.put, List.setIfInBounds_toArray, List.set_cons_succ, List.set_cons_zero]
      refine wpFree_one rfl (.float .f32 p) (fun w1 _ => by kernel_rfl) ?_
      simp only [Act.put, List.setIfInBounds_toArray, List.set_cons_succ, List.set_cons_zero]
      refine wpFree_call rfl rfl Try.func77 (by kernel_rfl) (by kernel_rfl) (args := #[.float .f32 p]) (by simp [Act.eval]) (fun _ _ _ _ h => h) (fun w1 _ => (i_kept p w1 h4.out).mono ?_) ?_
      · rintro e w2 ⟨rfl, rfl⟩
        exact ⟨_, rfl, le_refl _, rfl⟩
      rintro v ⟨_, _, rfl⟩
      simp only [Act.put, List.setIfInBounds_toArray, List.set_cons_succ, List.set_cons_zero]
      refine wpFree_one rfl (.pointer (some ⟨g, 0, none⟩)) (fun w1 _ => by kernel_rfl) ?_
      simp only [Act.put, List.setIfInBounds_toArray, List.set_cons_succ, List.set_cons_zero]
      refine wpFree_one rfl (.pointer (some ⟨g, 1, none⟩)) (fun w1 _ => by kernel_rfl) ?_
      simp only [Act.put, List.setIfInBounds_toArray, List.set_cons_succ, List.set_cons_zero]
      refine wpFree_one rfl (.pointer (some ⟨g, 1 + 0, none⟩)) (fun w1 _ => by kernel_rfl) ?_
      simp only [Act.put, List.setIfInBounds_toArray, List.set_cons_succ, List.set_cons_zero]
      refine wpFree_nil (fun w5 hw5 _ => ?_)
      have RR := (RJ.out.drewN 1).le hw5
      have UU := hid ((UJ.out.le (le_drewN _ 1)).le hw5)
      have cc := RR.cell? (1 + 0)
      have ff := RR.frozen (1 + 0)
      replace RR := hid RR
      clear hw5
      go_wp2
      go_roundw
      case rel => exact ⟨0 + 1, by omega, by go_num, by have := RR.out.set (1 + 0) (.float .f32 (kept p)); rw [h2.out] at this; show Row _ _ _ _; rw [h2.out]; simpa using this, UU.out.setCell rfl _⟩
      case measure => simp [intOf]
    · simp only [if_neg (show ¬ (1 : Nat) = 0 by decide), if_pos (show (1 : Nat) < 2 by decide)] at RJ
      clear RG U
      have ix : ∀ w, (Instr.index 27 (.agg #[.float .f32 p, .float .f32 q]) (.int .i64 1)).run Try.prog w = .ok (.float .f32 q) w := fun w => by kernel_rfl
      rw [show ((1 : Nat) : Int) = 1 from rfl]
      go_wp2
      clear ix
      refine region_tail (fun _ _ _ v => v = .float .f32 (kept q)) 7 (by kernel_rfl) (by kernel_rfl) ?_
      simp only [List.take_succ_cons, List.take_zero, List.drop_succ_cons, List.drop_zero]
      refine wpFree_one rfl (.pointer (some ⟨g, 0, none⟩)) (fun w1 _ => by kernel_rfl) ?_
      simp only [Act.put, List.setIfInBounds_toArray, List.set_cons_succ, List.set_cons_zero]
      refine wpFree_one rfl (.int .i64 1) (fun w1 _ => by kernel_rfl) ?_
      simp only [Act.put, List.setIfInBounds_toArray, List.set_cons_succ, List.set_cons_zero]
      refine wpFree_one rfl (.float .f32 q) (fun w1 _ => by kernel_rfl) ?_
      simp only [Act.put, List.setIfInBounds_toArray, List.set_cons_succ, List.set_cons_zero]
      refine wpFree_call rfl rfl Try.func77 (by kernel_rfl) (by kernel_rfl) (args := #[.float .f32 q]) (by simp [Act.eval]) (fun _ _ _ _ h => h) (fun w1 _ => (i_kept q w1 h5.out).mono ?_) ?_
      · rintro e w2 ⟨rfl, rfl⟩
        exact ⟨_, rfl, le_refl _, rfl⟩
      rintro v ⟨_, _, rfl⟩
      simp only [Act.put, List.setIfInBounds_toArray, List.set_cons_succ, List.set_cons_zero]
      refine wpFree_one rfl (.pointer (some ⟨g, 0, none⟩)) (fun w1 _ => by kernel_rfl) ?_
      simp only [Act.put, List.setIfInBounds_toArray, List.set_cons_succ, List.set_cons_zero]
      refine wpFree_one rfl (.pointer (some ⟨g, 1, none⟩)) (fun w1 _ => by kernel_rfl) ?_
      simp only [Act.put, List.setIfInBounds_toArray, List.set_cons_succ, List.set_cons_zero]
      refine wpFree_one rfl (.pointer (some ⟨g, 1 + 1, none⟩)) (fun w1 _ => by kernel_rfl) ?_
      simp only [Act.put, List.setIfInBounds_toArray, List.set_cons_succ, List.set_cons_zero]
      refine wpFree_nil (fun w5 hw5 _ => ?_)
      have RR := (RJ.out.drewN 1).le hw5
      have UU := hid ((UJ.out.le (le_drewN _ 1)).le hw5)
      have cc := RR.cell? (1 + 1)
      have ff := RR.frozen (1 + 1)
      replace RR := hid RR
      clear hw5
      go_wp2
      go_roundw
      case rel => exact ⟨1 + 1, by omega, by go_num, by have := RR.out.set (1 + 1) (.float .f32 (kept q)); rw [h3.out] at this; show Row _ _ _ _; rw [h3.out]; simpa using this, UU.out.setCell rfl _⟩
      case measure => simp [intOf]
    · simp only [if_neg (show ¬ (2 : Nat) = 0 by decide), if_neg (show ¬ (2 : Nat) < 2 by decide)] at RJ
      clear RG U
      go_wp2
      go_ret
      exact ⟨_, rfl, h1.out, h6.out, RJ.out, UJ.out⟩
set_option maxHeartbeats 2000000 in
theorem i_step4 (a b c x y s g : Nat) (w : World) (R : Row w g 103 #[.iface 138 (.agg #[.float .f32 a, .float .f32 b, .float .f32 c]), .float .f32 x, .float .f32 y]) (hx : fits .f32 x) (hs : fits .f32 s) :
    Calls Try.prog 53 #[.pointer (some ⟨g, 0, none⟩), .float .f32 s] w (OutS 4 a b c x y s g 103 (fun u v => #[.iface 138 (.agg #[.float .f32 a, .float .f32 b, .float .f32 c]), .float .f32 u, .float .f32 v]) w) := by
  have Hx := hid hx; have Hs := hid hs; clear hx hs
  have F := Frm.one R
  clear R
  go_enter Try.func53, Try.ntmps53
  go_upto_region 1 with (fail)
  refine region_tail (fun f args _ v => ∃ r p q, v = .tuple #[.float .f32 r, .agg #[.float .f32 p, .float .f32 q]] ∧ can .f32 r = outF 4 a b c x y s ∧ kept p = st0 4 a b c x y s ∧ kept q = st1 4 a b c x y s ∧ fits .f32 p ∧ fits .f32 q ∧ fits .f32 r) 17 (by kernel_rfl) (by kernel_rfl) ?_
  simp only [List.take_succ_cons, List.take_zero, List.drop_succ_cons, List.drop_zero]
  refine wpFree_one rfl (.pointer (some ⟨g, 0, none⟩)) (fun w1 _ => by kernel_rfl) ?_
  simp only [Act.put, List.setIfInBounds_toArray, List.set_cons_succ, List.set_cons_zero]
  refine wpFree_one rfl (.pointer (some ⟨g, 0, none⟩)) (fun w1 _ => by kernel_rfl) ?_
  simp only [Act.put, List.setIfInBounds_toArray, List.set_cons_succ, List.set_cons_zero]
  refine wpFree_one rfl (.pointer (some ⟨g, 0, none⟩)) (fun w1 _ => by kernel_rfl) ?_
  simp only [Act.put, List.setIfInBounds_toArray, List.set_cons_succ, List.set_cons_zero]
  refine wpFree_loadV F rfl rfl rfl rfl List.mem_cons_self rfl (fun w1 => by kernel_rfl) ?_
  simp only [Act.put, List.setIfInBounds_toArray, List.set_cons_succ, List.set_cons_zero]
  refine wpFree_one rfl (.pointer (some ⟨g, 0, none⟩)) (fun w1 _ => by kernel_rfl) ?_
  simp only [Act.put, List.setIfInBounds_toArray, List.set_cons_succ, List.set_cons_zero]
  refine wpFree_one rfl (.pointer (some ⟨g, 0, none⟩)) (fun w1 _ => by kernel_rfl) ?_
  simp only [Act.put, List.setIfInBounds_toArray, List.set_cons_succ, List.set_cons_zero]
  refine wpFree_one rfl (.pointer (some ⟨g, 1, none⟩)) (fun w1 _ => by kernel_rfl) ?_
  simp only [Act.put, List.setIfInBounds_toArray, List.set_cons_succ, List.set_cons_zero]
  refine wpFree_loadPart F rfl rfl rfl rfl (List.mem_cons_self) Try.underlying27 rfl [.float .f32 x, .float .f32 y] (fun j hj => by match j, hj with | 0, _ => rfl | 1, _ => rfl) info2 ?_
  simp only [Act.put, List.setIfInBounds_toArray, List.set_cons_succ, List.set_cons_zero]
  refine wpFree_one rfl (.float .f32 s) (fun w1 _ => by kernel_rfl) ?_
  simp only [Act.put, List.setIfInBounds_toArray, List.set_cons_succ, List.set_cons_zero]
  refine wpFree_one rfl (.iface 138 (.agg #[.float .f32 a, .float .f32 b, .float .f32 c])) (fun w1 _ => by kernel_rfl) ?_
  simp only [Act.put, List.setIfInBounds_toArray, List.set_cons_succ, List.set_cons_zero]
  refine wpFree_one rfl (.iface 138 (.agg #[.float .f32 a, .float .f32 b, .float .f32 c])) (fun w1 _ => by kernel_rfl) ?_
  simp only [Act.put, List.setIfInBounds_toArray, List.set_cons_succ, List.set_cons_zero]
  refine wpFree_callR rfl 116 #[.agg #[.float .f32 a, .float .f32 b, .float .f32 c], .agg #[.float .f32 x, .float .f32 y], .float .f32 s] (fun w1 => by kernel_rfl) (fun _ _ _ _ h => h) (fun w1 _ => (i_next4 a b c x y s w1 Hx.out Hs.out).mono ?_) ?_
  · rintro e w2 ⟨r, p, q, rfl, h1, h2, h3, h4, h5, h6, hl⟩
    exact ⟨_, rfl, hl, r, p, q, rfl, h1, h2, h3, h4, h5, h6⟩
  rintro v ⟨_, _, r, p, q, rfl, h1, h2, h3, h4, h5, h6⟩
  replace h1 := hid h1; replace h2 := hid h2; replace h3 := hid h3; replace h4 := hid h4; replace h5 := hid h5; replace h6 := hid h6
  simp only [Act.put, List.setIfInBounds_toArray, List.set_cons_succ, List.set_cons_zero]
  refine wpFree_one rfl (.tuple #[.float .f32 r, .agg #[.float .f32 p, .float .f32 q]]) (fun w1 _ => by kernel_rfl) ?_
  simp only [Act.put, List.setIfInBounds_toArray, List.set_cons_succ, List.set_cons_zero]
  refine wpFree_one rfl (.float .f32 r) (fun w1 _ => by kernel_rfl) ?_
  simp only [Act.put, List.setIfInBounds_toArray, List.set_cons_succ, List.set_cons_zero]
  refine wpFree_one rfl (.agg #[.float .f32 p, .float .f32 q]) (fun w1 _ => by kernel_rfl) ?_
  simp only [Act.put, List.setIfInBounds_toArray, List.set_cons_succ, List.set_cons_zero]
  refine wpFree_alloc rfl rfl #[.float .f32 0, .float .f32 0] alloc2 (fun g2 hg2 => ?_)
  simp only [Act.put, List.setIfInBounds_toArray, List.set_cons_succ, List.set_cons_zero]
  refine wpFree_one rfl (.float .f32 r) (fun w1 _ => by kernel_rfl) ?_
  simp only [Act.put, List.setIfInBounds_toArray, List.set_cons_succ, List.set_cons_zero]
  refine wpFree_nil (fun w3 hw3 hF => ?_)
  obtain ⟨_, b', hbb, _, hrow⟩ := hF
  obtain rfl : g2 = b' := by simpa using hbb
  have hlt : g < w.heap.size := F.lt List.mem_cons_self
  have hz : w.heap.size ≤ g2 := by simpa using hg2
  have hne : g ≠ g2 := by omega
  refine wpList_storeD rfl rfl rfl (cells := #[.float .f32 p, .float .f32 q]) rfl hrow info2 rfl (by simp [Value.oneCell']) (fun w4 KW => ?_)
  have R2 := KW.row
  have RG := KW.other _ _ _ hne (((F.drewN 1).le hw3).row List.mem_cons_self)
  have U := Upd.of_le (g := g) (KW.below _ _ (le_trans (le_drewN w 1) hw3) hz)
  replace hne := hid hne
  clear hbb hrow hw3 hg2 F KW hlt hz
  replace U := hid U
  replace RG := hid RG
  go_wp2_with (with_reducible refine wpList_loadDn rfl rfl rfl R2 Try.underlying27 rfl info2 (by simp) ?_)
  replace R2 := hid R2
  go_loopw [25] (fun i wr => ∃ j : Nat, j ≤ 2 ∧ i = .int .i64 j ∧ Hid (Row wr g 103 #[.iface 138 (.agg #[.float .f32 a, .float .f32 b, .float .f32 c]), .float .f32 (if j = 0 then x else st0 4 a b c x y s), .float .f32 (if j < 2 then y else st1 4 a b c x y s)]) ∧ Hid (Upd g w wr)) (fun i _ => 2 - (intOf i).toNat)
  case atStart => exact ⟨0, by omega, rfl, RG, U⟩
  case round =>
    obtain ⟨j, hj, rfl, RJ, UJ⟩ := hrel
    rcases (show j = 0 ∨ j = 1 ∨ j = 2 by omega) with rfl | rfl | rfl
    · simp only [if_true, if_pos (show (0 : Nat) < 2 by decide)] at RJ
      clear RG U
      have ix : ∀ w, (Instr.index 27 (.agg #[.float .f32 p, .float .f32 q]) (.int .i64 0)).run Try.prog w = .ok (.float .f32 p) w := fun w => by kernel_rfl
      rw [show ((0 : Nat) : Int) = 0 from rfl]
      go_wp2
      clear ix
      refine region_tail (fun _ _ _ v => v = .float .f32 (kept p)) 7 (by kernel_rfl) (by kernel_rfl) ?_
      simp only [List.take_succ_cons, List.take_zero, List.drop_succ_cons, List.drop_zero]
      refine wpFree_one rfl (.pointer (some ⟨g, 0, none⟩)) (fun w1 _ => by kernel_rfl) ?_
      simp only [Act.put, List.setIfInBounds_toArray, List.set_cons_succ, List.set_cons_zero]
      refine wpFree_one rfl (.int .i64 0) (fun w1 _ => by kernel_rfl) ?_
      simp only [Act.put, List.setIfInBounds_toArray, List.set_cons_succ, List.set_cons_zero]
      refine wpFree_one rfl (.float .f32 p) (fun w1 _ => by kernel_rfl) ?_
      simp only [Act.put, List.setIfInBounds_toArray, List.set_cons_succ, List.set_cons_zero]
      refine wpFree_call rfl rfl Try.func77 (by kernel_rfl) (by kernel_rfl) (args := #[.float .f32 p]) (by simp [Act.eval]) (fun _ _ _ _ h => h) (fun w1 _ => (i_kept p w1 h4.out).mono ?_) ?_
      · rintro e w2 ⟨rfl, rfl⟩
        exact ⟨_, rfl, le_refl _, rfl⟩
      rintro v ⟨_, _, rfl⟩
      simp only [Act.put, List.setIfInBounds_toArray, List.set_cons_succ, List.set_cons_zero]
      refine wpFree_one rfl (.pointer (some ⟨g, 0, none⟩)) (fun w1 _ => by kernel_rfl) ?_
      simp only [Act.put, List.setIfInBounds_toArray, List.set_cons_succ, List.set_cons_zero]
      refine wpFree_one rfl (.pointer (some ⟨g, 1, none⟩)) (fun w1 _ => by kernel_rfl) ?_
      simp only [Act.put, List.setIfInBounds_toArray, List.set_cons_succ, List.set_cons_zero]
      refine wpFree_one rfl (.pointer (some ⟨g, 1 + 0, none⟩)) (fun w1 _ => by kernel_rfl) ?_
      simp only [Act.put, List.setIfInBounds_toArray, List.set_cons_succ, List.set_cons_zero]
      refine wpFree_nil (fun w5 hw5 _ => ?_)
      have RR := (RJ.out.drewN 1).le hw5
      have UU := hid ((UJ.out.le (le_drewN _ 1)).le hw5)
      have cc := RR.cell? (1 + 0)
      have ff := RR.frozen (1 + 0)
      replace RR := hid RR
      clear hw5
      go_wp2
      go_roundw
      case rel => exact ⟨0 + 1, by omega, by go_num, by have := RR.out.set (1 + 0) (.float .f32 (kept p)); rw [h2.out] at this; show Row _ _ _ _; rw [h2.out]; simpa using this, UU.out.setCell rfl _⟩
      case measure => simp [intOf]
    · simp only [if_neg (show ¬ (1 : Nat) = 0 by decide), if_pos (show (1 : Nat) < 2 by decide)] at RJ
      clear RG U
      have ix : ∀ w, (Instr.index 27 (.agg #[.float .f32 p, .float .f32 q]) (.int .i64 1)).run Try.prog w = .ok (.float .f32 q) w := fun w => by kernel_rfl
      rw [show ((1 : Nat) : Int) = 1 from rfl]
      go_wp2
      clear ix
      refine region_tail (fun _ _ _ v => v = .float .f32 (kept q)) 7 (by kernel_rfl) (by kernel_rfl) ?_
      simp only [List.take_succ_cons, List.take_zero, List.drop_succ_cons, List.drop_zero]
      refine wpFree_one rfl (.pointer (some ⟨g, 0, none⟩)) (fun w1 _ => by kernel_rfl) ?_
      simp only [Act.put, List.setIfInBounds_toArray, List.set_cons_succ, List.set_cons_zero]
      refine wpFree_one rfl (.int .i64 1) (fun w1 _ => by kernel_rfl) ?_
      simp only [Act.put, List.setIfInBounds_toArray, List.set_cons_succ, List.set_cons_zero]
      refine wpFree_one rfl (.float .f32 q) (fun w1 _ => by kernel_rfl) ?_
      simp only [Act.put, List.setIfInBounds_toArray, List.set_cons_succ, List.set_cons_zero]
      refine wpFree_call rfl rfl Try.func77 (by kernel_rfl) (by kernel_rfl) (args := #[.float .f32 q]) (by simp [Act.eval]) (fun _ _ _ _ h => h) (fun w1 _ => (i_kept q w1 h5.out).mono ?_) ?_
      · rintro e w2 ⟨rfl, rfl⟩
        exact ⟨_, rfl, le_refl _, rfl⟩
      rintro v ⟨_, _, rfl⟩
      simp only [Act.put, List.setIfInBounds_toArray, List.set_cons_succ, List.set_cons_zero]
      refine wpFree_one rfl (.pointer (some ⟨g, 0, none⟩)) (fun w1 _ => by kernel_rfl) ?_
      simp only [Act.put, List.setIfInBounds_toArray, List.set_cons_succ, List.set_cons_zero]
      refine wpFree_one rfl (.pointer (some ⟨g, 1, none⟩)) (fun w1 _ => by kernel_rfl) ?_
      simp only [Act.put, List.setIfInBounds_toArray, List.set_cons_succ, List.set_cons_zero]
      refine wpFree_one rfl (.pointer (some ⟨g, 1 + 1, none⟩)) (fun w1 _ => by kernel_rfl) ?_
      simp only [Act.put, List.setIfInBounds_toArray, List.set_cons_succ, List.set_cons_zero]
      refine wpFree_nil (fun w5 hw5 _ => ?_)
      have RR := (RJ.out.drewN 1).le hw5
      have UU := hid ((UJ.out.le (le_drewN _ 1)).le hw5)
      have cc := RR.cell? (1 + 1)
      have ff := RR.frozen (1 + 1)
      replace RR := hid RR
      clear hw5
      go_wp2
      go_roundw
      case rel => exact ⟨1 + 1, by omega, by go_num, by have := RR.out.set (1 + 1) (.float .f32 (kept q)); rw [h3.out] at this; show Row _ _ _ _; rw [h3.out]; simpa using this, UU.out.setCell rfl _⟩
      case measure => simp [intOf]
    · simp only [if_neg (show ¬ (2 : Nat) = 0 by decide), if_neg (show ¬ (2 : Nat) < 2 by decide)] at RJ
      clear RG U
      go_wp2
      go_ret
      exact ⟨_, rfl, h1.out, h6.out, RJ.out, UJ.out⟩
set_option maxHeartbeats 2000000 in
theorem i_step5 (a b c x y s g : Nat) (w : World) (R : Row w g 103 #[.iface 139 (.agg #[.float .f32 a, .float .f32 b, .float .f32 c]), .float .f32 x, .float .f32 y]) (hx : fits .f32 x) (hs : fits .f32 s) :
    Calls Try.prog 53 #[.pointer (some ⟨g, 0, none⟩), .float .f32 s] w (OutS 5 a b c x y s g 103 (fun u v => #[.iface 139 (.agg #[.float .f32 a, .float .f32 b, .float .f32 c]), .float .f32 u, .float .f32 v]) w) := by
  have Hx := hid hx; have Hs := hid hs; clear hx hs
  have F := Frm.one R
  clear R
  go_enter Try.func53, Try.ntmps53
  go_upto_region 1 with (fail)
  refine region_tail (fun f args _ v => ∃ r p q, v = .tuple #[.float .f32 r, .agg #[.float .f32 p, .float .f32 q]] ∧ can .f32 r = outF 5 a b c x y s ∧ kept p = st0 5 a b c x y s ∧ kept q = st1 5 a b c x y s ∧ fits .f32 p ∧ fits .f32 q ∧ fits .f32 r) 17 (by kernel_rfl) (by kernel_rfl) ?_
  simp only [List.take_succ_cons, List.take_zero, List.drop_succ_cons, List.drop_zero]
  refine wpFree_one rfl (.pointer (some ⟨g, 0, none⟩)) (fun w1 _ => by kernel_rfl) ?_
  simp only [Act.put, List.setIfInBounds_toArray, List.set_cons_succ, List.set_cons_zero]
  refine wpFree_one rfl (.pointer (some ⟨g, 0, none⟩)) (fun w1 _ => by kernel_rfl) ?_
  simp only [Act.put, List.setIfInBounds_toArray, List.set_cons_succ, List.set_cons_zero]
  refine wpFree_one rfl (.pointer (some ⟨g, 0, none⟩)) (fun w1 _ => by kernel_rfl) ?_
  simp only [Act.put, List.setIfInBounds_toArray, List.set_cons_succ, List.set_cons_zero]
  refine wpFree_loadV F rfl rfl rfl rfl List.mem_cons_self rfl (fun w1 => by kernel_rfl) ?_
  simp only [Act.put, List.setIfInBounds_toArray, List.set_cons_succ, List.set_cons_zero]
  refine wpFree_one rfl (.pointer (some ⟨g, 0, none⟩)) (fun w1 _ => by kernel_rfl) ?_
  simp only [Act.put, List.setIfInBounds_toArray, List.set_cons_succ, List.set_cons_zero]
  refine wpFree_one rfl (.pointer (some ⟨g, 0, none⟩)) (fun w1 _ => by kernel_rfl) ?_
  simp only [Act.put, List.setIfInBounds_toArray, List.set_cons_succ, List.set_cons_zero]
  refine wpFree_one rfl (.pointer (some ⟨g, 1, none⟩)) (fun w1 _ => by kernel_rfl) ?_
  simp only [Act.put, List.setIfInBounds_toArray, List.set_cons_succ, List.set_cons_zero]
  refine wpFree_loadPart F rfl rfl rfl rfl (List.mem_cons_self) Try.underlying27 rfl [.float .f32 x, .float .f32 y] (fun j hj => by match j, hj with | 0, _ => rfl | 1, _ => rfl) info2 ?_
  simp only [Act.put, List.setIfInBounds_toArray, List.set_cons_succ, List.set_cons_zero]
  refine wpFree_one rfl (.float .f32 s) (fun w1 _ => by kernel_rfl) ?_
  simp only [Act.put, List.setIfInBounds_toArray, List.set_cons_succ, List.set_cons_zero]
  refine wpFree_one rfl (.iface 139 (.agg #[.float .f32 a, .float .f32 b, .float .f32 c])) (fun w1 _ => by kernel_rfl) ?_
  simp only [Act.put, List.setIfInBounds_toArray, List.set_cons_succ, List.set_cons_zero]
  refine wpFree_one rfl (.iface 139 (.agg #[.float .f32 a, .float .f32 b, .float .f32 c])) (fun w1 _ => by kernel_rfl) ?_
  simp only [Act.put, List.setIfInBounds_toArray, List.set_cons_succ, List.set_cons_zero]
  refine wpFree_callR rfl 117 #[.agg #[.float .f32 a, .float .f32 b, .float .f32 c], .agg #[.float .f32 x, .float .f32 y], .float .f32 s] (fun w1 => by kernel_rfl) (fun _ _ _ _ h => h) (fun w1 _ => (i_next5 a b c x y s w1 Hx.out Hs.out).mono ?_) ?_
  · rintro e w2 ⟨r, p, q, rfl, h1, h2, h3, h4, h5, h6, hl⟩
    exact ⟨_, rfl, hl, r, p, q, rfl, h1, h2, h3, h4, h5, h6⟩
  rintro v ⟨_, _, r, p, q, rfl, h1, h2, h3, h4, h5, h6⟩
  replace h1 := hid h1; replace h2 := hid h2; replace h3 := hid h3; replace h4 := hid h4; replace h5 := hid h5; replace h6 := hid h6
  simp only [Act.put, List.setIfInBounds_toArray, List.set_cons_succ, List.set_cons_zero]
  refine wpFree_one rfl (.tuple #[.float .f32 r, .agg #[.float .f32 p, .float .f32 q]]) (fun w1 _ => by kernel_rfl) ?_
  simp only [Act.put, List.setIfInBounds_toArray, List.set_cons_succ, List.set_cons_zero]
  refine wpFree_one rfl (.float .f32 r) (fun w1 _ => by kernel_rfl) ?_
  simp only [Act.put, List.setIfInBounds_toArray, List.set_cons_succ, List.set_cons_zero]
  refine wpFree_one rfl (.agg #[.float .f32 p, .float .f32 q]) (fun w1 _ => by kernel_rfl) ?_
  simp only [Act.put, List.setIfInBounds_toArray, List.set_cons_succ, List.set_cons_zero]
  refine wpFree_alloc rfl rfl #[.float .f32 0, .float .f32 0] alloc2 (fun g2 hg2 => ?_)
  simp only [Act.put, List.setIfInBounds_toArray, List.set_cons_succ, List.set_cons_zero]
  refine wpFree_one rfl (.float .f32 r) (fun w1 _ => by kernel_rfl) ?_
  simp only [Act.put, List.setIfInBounds_toArray, List.set_cons_succ, List.set_cons_zero]
  refine wpFree_nil (fun w3 hw3 hF => ?_)
  obtain ⟨_, b', hbb, _, hrow⟩ := hF
  obtain rfl : g2 = b' := by simpa using hbb
  have hlt : g < w.heap.size := F.lt List.mem_cons_self
  have hz : w.heap.size ≤ g2 := by simpa using hg2
  have hne : g ≠ g2 := by omega
  refine wpList_storeD rfl rfl rfl (cells := #[.float .f32 p, .float .f32 q]) rfl hrow info2 rfl (by simp [Value.oneCell']) (fun w4 KW => ?_)
  have R2 := KW.row
  have RG := KW.other _ _ _ hne (((F.drewN 1).le hw3).row List.mem_cons_self)
  have U := Upd.of_le (g := g) (KW.below _ _ (le_trans (le_drewN w 1) hw3) hz)
  replace hne := hid hne
  clear hbb hrow hw3 hg2 F KW hlt hz
  replace U := hid U
  replace RG := hid RG
  go_wp2_with (with_reducible refine wpList_loadDn rfl rfl rfl R2 Try.underlying27 rfl info2 (by simp) ?_)
  replace R2 := hid R2
  go_loopw [25] (fun i wr => ∃ j : Nat, j ≤ 2 ∧ i = .int .i64 j ∧ Hid (Row wr g 103 #[.iface 139 (.agg #[.float .f32 a, .float .f32 b, .float .f32 c]), .float .f32 (if j = 0 then x else st0 5 a b c x y s), .float .f32 (if j < 2 then y else st1 5 a b c x y s)]) ∧ Hid (Upd g w wr)) (fun i _ => 2 - (intOf i).toNat)
  case atStart => exact ⟨0, by omega, rfl, RG, U⟩
  case round =>
    obtain ⟨j, hj, rfl, RJ, UJ⟩ := hrel
    rcases (show j = 0 ∨ j = 1 ∨ j = 2 by omega) with rfl | rfl | rfl
    · simp only [if_true, if_pos (show (0 : Nat) < 2 by decide)] at RJ
      clear RG U
      have ix : ∀ w, (Instr.index 27 (.agg #[.float .f32 p, .float .f32 q]) (.int .i64 0)).run Try.prog w = .ok (.float .f32 p) w := fun w => by kernel_rfl
      rw [show ((0 : Nat) : Int) = 0 from rfl]
      go_wp2
      clear ix
      refine region_tail (fun _ _ _ v => v = .float .f32 (kept p)) 7 (by kernel_rfl) (by kernel_rfl) ?_
      simp only [List.take_succ_cons, List.take_zero, List.drop_succ_cons, List.drop_zero]
      refine wpFree_one rfl (.pointer (some ⟨g, 0, none⟩)) (fun w1 _ => by kernel_rfl) ?_
      simp only [Act.put, List.setIfInBounds_toArray, List.set_cons_succ, List.set_cons_zero]
      refine wpFree_one rfl (.int .i64 0) (fun w1 _ => by kernel_rfl) ?_
      simp only [Act.put, List.setIfInBounds_toArray, List.set_cons_succ, List.set_cons_zero]
      refine wpFree_one rfl (.float .f32 p) (fun w1 _ => by kernel_rfl) ?_
      simp only [Act.put, List.setIfInBounds_toArray, List.set_cons_succ, List.set_cons_zero]
      refine wpFree_call rfl rfl Try.func77 (by kernel_rfl) (by kernel_rfl) (args := #[.float .f32 p]) (by simp [Act.eval]) (fun _ _ _ _ h => h) (fun w1 _ => (i_kept p w1 h4.out).mono ?_) ?_
      · rintro e w2 ⟨rfl, rfl⟩
        exact ⟨_, rfl, le_refl _, rfl⟩
      rintro v ⟨_, _, rfl⟩
      simp only [Act.put, List.setIfInBounds_toArray, List.set_cons_succ, List.set_cons_zero]
      refine wpFree_one rfl (.pointer (some ⟨g, 0, none⟩)) (fun w1 _ => by kernel_rfl) ?_
      simp only [Act.put, List.setIfInBounds_toArray, List.set_cons_succ, List.set_cons_zero]
      refine wpFree_one rfl (.pointer (some ⟨g, 1, none⟩)) (fun w1 _ => by kernel_rfl) ?_
      simp only [Act.put, List.setIfInBounds_toArray, List.set_cons_succ, List.set_cons_zero]
      refine wpFree_one rfl (.pointer (some ⟨g, 1 + 0, none⟩)) (fun w1 _ => by kernel_rfl) ?_
      simp only [Act.put, List.setIfInBounds_toArray, List.set_cons_succ, List.set_cons_zero]
      refine wpFree_nil (fun w5 hw5 _ => ?_)
      have RR := (RJ.out.drewN 1).le hw5
      have UU := hid ((UJ.out.le (le_drewN _ 1)).le hw5)
      have cc := RR.cell? (1 + 0)
      have ff := RR.frozen (1 + 0)
      replace RR := hid RR
      clear hw5
      go_wp2
      go_roundw
      case rel => exact ⟨0 + 1, by omega, by go_num, by have := RR.out.set (1 + 0) (.float .f32 (kept p)); rw [h2.out] at this; show Row _ _ _ _; rw [h2.out]; simpa using this, UU.out.setCell rfl _⟩
      case measure => simp [intOf]
    · simp only [if_neg (show ¬ (1 : Nat) = 0 by decide), if_pos (show (1 : Nat) < 2 by decide)] at RJ
      clear RG U
      have ix : ∀ w, (Instr.index 27 (.agg #[.float .f32 p, .float .f32 q]) (.int .i64 1)).run Try.prog w = .ok (.float .f32 q) w := fun w => by kernel_rfl
      rw [show ((1 : Nat) : Int) = 1 from rfl]
      go_wp2
      clear ix
      refine region_tail (fun _ _ _ v => v = .float .f32 (kept q)) 7 (by kernel_rfl) (by kernel_rfl) ?_
      simp only [List.take_succ_cons, List.take_zero, List.drop_succ_cons, List.drop_zero]
      refine wpFree_one rfl (.pointer (some ⟨g, 0, none⟩)) (fun w1 _ => by kernel_rfl) ?_
      simp only [Act.put, List.setIfInBounds_toArray, List.set_cons_succ, List.set_cons_zero]
      refine wpFree_one rfl (.int .i64 1) (fun w1 _ => by kernel_rfl) ?_
      simp only [Act.put, List.setIfInBounds_toArray, List.set_cons_succ, List.set_cons_zero]
      refine wpFree_one rfl (.float .f32 q) (fun w1 _ => by kernel_rfl) ?_
      simp only [Act.put, List.setIfInBounds_toArray, List.set_cons_succ, List.set_cons_zero]
      refine wpFree_call rfl rfl Try.func77 (by kernel_rfl) (by kernel_rfl) (args := #[.float .f32 q]) (by simp [Act.eval]) (fun _ _ _ _ h => h) (fun w1 _ => (i_kept q w1 h5.out).mono ?_) ?_
      · rintro e w2 ⟨rfl, rfl⟩
        exact ⟨_, rfl, le_refl _, rfl⟩
      rintro v ⟨_, _, rfl⟩
      simp only [Act.put, List.setIfInBounds_toArray, List.set_cons_succ, List.set_cons_zero]
      refine wpFree_one rfl (.pointer (some ⟨g, 0, none⟩)) (fun w1 _ => by kernel_rfl) ?_
      simp only [Act.put, List.setIfInBounds_toArray, List.set_cons_succ, List.set_cons_zero]
      refine wpFree_one rfl (.pointer (some ⟨g, 1, none⟩)) (fun w1 _ => by kernel_rfl) ?_
      simp only [Act.put, List.setIfInBounds_toArray, List.set_cons_succ, List.set_cons_zero]
      refine wpFree_one rfl (.pointer (some ⟨g, 1 + 1, none⟩)) (fun w1 _ => by kernel_rfl) ?_
      simp only [Act.put, List.setIfInBounds_toArray, List.set_cons_succ, List.set_cons_zero]
      refine wpFree_nil (fun w5 hw5 _ => ?_)
      have RR := (RJ.out.drewN 1).le hw5
      have UU := hid ((UJ.out.le (le_drewN _ 1)).le hw5)
      have cc := RR.cell? (1 + 1)
      have ff := RR.frozen (1 + 1)
      replace RR := hid RR
      clear hw5
      go_wp2
      go_roundw
      case rel => exact ⟨1 + 1, by omega, by go_num, by have := RR.out.set (1 + 1) (.float .f32 (kept q)); rw [h3.out] at this; show Row _ _ _ _; rw [h3.out]; simpa using this, UU.out.setCell rfl _⟩
      case measure => simp [intOf]
    · simp only [if_neg (show ¬ (2 : Nat) = 0 by decide), if_neg (show ¬ (2 : Nat) < 2 by decide)] at RJ
      clear RG U
      go_wp2
      go_ret
      exact ⟨_, rfl, h1.out, h6.out, RJ.out, UJ.out⟩
end Go.Proofs.Ythjdklolbkhbfaa
