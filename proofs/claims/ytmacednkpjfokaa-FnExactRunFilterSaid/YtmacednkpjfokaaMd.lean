/- Texts of the walk, laid in one file. -/
import Derived.ArgAppend
import Derived.OwnWalk
import Derived.Great.BuildSlice
import Derived.Test.YtmacednkpjfokaaMc
set_option linter.unusedVariables false
set_option linter.unusedSimpArgs false
/- 'toRing' of the laws. -/
namespace Go.Fk
open Go Go.RowKit
theorem SlIn.le {w w' : World} {v : Value} {x : Nat → Nat} {n : Nat} (h : SlIn w v x n) (hl : Fk.le w w') : SlIn w' v x n := by
  rcases h with h | ⟨a, cap, h1, h2, h3, h4⟩
  · exact .inl h
  · exact .inr ⟨a, cap, h1, h2, h3, fun i hi => ⟨(Below.cell hl (cell_lt (h4 i hi).1)).trans (h4 i hi).1, (h4 i hi).2⟩⟩
theorem SlIn.small {w : World} {v : Value} {x : Nat → Nat} {n : Nat} (h : SlIn w v x n) : n ≤ 9223372036854775807 := by
  rcases h with ⟨_, rfl⟩ | ⟨a, cap, h1, h2, h3, h4⟩
  · omega
  · unfold maxLen at h3; omega
end Go.Fk
namespace Go.Proofs.Ytmacednkpjfokaa
open Go.RowKit Go.Fk
set_option maxRecDepth 100000 in
set_option maxHeartbeats 1000000 in
theorem toRing_any (s : Value) (x : Nat → Nat) (n : Nat) (k : Int) (w : World) (hs : SlIn w s x n) (hn : n ≤ 1048576) :
    Calls Try.prog 65 #[.agg #[s, .int .i64 k]] w fun e w' => ∃ b, e = .returned (.agg #[.slice (some ⟨b, 0, none⟩) n n, .int .i64 k]) ∧ w.heap.size ≤ b ∧ Row w' b 22 (ftab .f32 x n) ∧ le w w' := by
  have F := (((Frm.nil w).box 42 #[s, .int .i64 k]).box 46 #[.slice none 0 0, .int .i64 0]).box 46 #[.slice none 0 0, .int .i64 0]
  simp only [World.size_alloc] at F
  have HS := hid (hs.le F.below)
  clear hs
  go_enter Try.func65, Try.ntmps65
  go_upto_region 2 with (fail)
  obtain ⟨W, hW⟩ : ∃ W, W = ((w.alloc (.cells #[s, .int .i64 k] 42)).alloc (.cells #[.slice none 0 0, .int .i64 0] 46)).alloc (.cells #[.slice none 0 0, .int .i64 0] 46) := ⟨_, rfl⟩
  rw [← hW] at F HS ⊢
  have hz : W.heap.size = w.heap.size + 1 + 1 + 1 := by rw [hW]; simp
  clear hW
  have R1 := F.row (g := w.heap.size) (t := 42) (cs := #[s, .int .i64 k]) (List.mem_cons_of_mem _ (List.mem_cons_of_mem _ List.mem_cons_self))
  have c1 := R1.cell? 0
  replace R1 := hid R1
  replace F := hid F
  have HZ := hid hz
  go_wp2_with (go_at_call 29; ((with_reducible refine (toS s x n W HS.out hn).mono ?_); rintro e w2 ⟨rfl, hr, hl⟩; rw [HZ.out] at hr; have G := F.out.le hl; have d1 : w2.cell? ⟨w.heap.size, 1, none⟩ = some (.int .i64 k) := (G.row (g := w.heap.size) (t := 42) (cs := #[s, .int .i64 k]) (List.mem_cons_of_mem _ (List.mem_cons_of_mem _ List.mem_cons_self))).cell? 1; have T3 := G.row (g := w.heap.size + 1 + 1) (t := 46) (cs := #[.slice none 0 0, .int .i64 0]) List.mem_cons_self; have T2 := G.row (g := w.heap.size + 1) (t := 46) (cs := #[.slice none 0 0, .int .i64 0]) (List.mem_cons_of_mem _ List.mem_cons_self); have d3 : w2.cell? ⟨w.heap.size + 1 + 1, 0, none⟩ = some (.slice none 0 0) := T3.cell? 0; have d4 : w2.cell? ⟨w.heap.size + 1 + 1, 1, none⟩ = some (.int .i64 0) := T3.cell? 1; have e0 : w2.cell? ⟨w.heap.size + 1, 0, none⟩ = some (.slice none 0 0) := T2.cell? 0; have e1 : w2.cell? ⟨w.heap.size + 1, 1, none⟩ = some (.int .i64 0) := T2.cell? 1; have g0 := T2.frozen 0; have g1 := T2.frozen 1; have f3 := T3.frozen 0; have f4 := T3.frozen 1; replace T3 := hid T3; replace T2 := hid T2; have HB := hid G.below; have HR := hid hr; have HW := hid hl.size; clear hr hl G))
  have Z : ∀ (W : World) (v v' : Value), Row W (w.heap.size + 1) 46 #[v, v'] → ∀ u u', Row ((W.setCell ⟨w.heap.size + 1, 0, none⟩ u).setCell ⟨w.heap.size + 1, 1, none⟩ u') (w.heap.size + 1) 46 #[u, u'] := fun W v v' h u u' => (h.set 0 u).set 1 u'
  have N2 := T2.out.other ⟨w.heap.size + 1 + 1, 0, none⟩ (.slice (some ⟨w.heap.size + 1 + 1 + 1, 0, none⟩) n n) (by simp)
  replace N2 := N2.other ⟨w.heap.size + 1 + 1, 1, none⟩ (.int .i64 k) (by simp)
  have N := HR.out.other ⟨w.heap.size + 1 + 1, 0, none⟩ (.slice (some ⟨w.heap.size + 1 + 1 + 1, 0, none⟩) n n) (by simp)
  replace N := N.other ⟨w.heap.size + 1 + 1, 1, none⟩ (.int .i64 k) (by simp)
  replace N := N.other ⟨w.heap.size + 1, 0, none⟩ (.slice (some ⟨w.heap.size + 1 + 1 + 1, 0, none⟩) n n) (by simp; omega)
  replace N := N.other ⟨w.heap.size + 1, 1, none⟩ (.int .i64 k) (by simp; omega)
  have B := Below.setCell (Below.setCell (Below.setCell (Below.setCell HB.out (p := ⟨w.heap.size + 1 + 1, 0, none⟩) (by simp; omega) (.slice (some ⟨w.heap.size + 1 + 1 + 1, 0, none⟩) n n)) (p := ⟨w.heap.size + 1 + 1, 1, none⟩) (by simp; omega) (.int .i64 k)) (p := ⟨w.heap.size + 1, 0, none⟩) (by simp) (.slice (some ⟨w.heap.size + 1 + 1 + 1, 0, none⟩) n n)) (p := ⟨w.heap.size + 1, 1, none⟩) (by simp) (.int .i64 k)
  exact bodyPost_ret (results_row1 rfl _ _ _ _ _ rfl (Z _ _ _ N2 _ _) Try.underlying46 rfl infoRing) rfl ⟨_, rfl, by omega, N, B⟩
end Go.Proofs.Ytmacednkpjfokaa

/- 'szRing' and 'ValidRing' of both. -/
namespace Go.Fk
open Go Go.RowKit
def okRing (n : Nat) (k : Int) : Bool := (decide (1 ≤ (n : Int)) && decide ((n : Int) ≤ 1024)) && (decide (0 ≤ k) && decide (k < (n : Int)))
end Go.Fk
namespace Go.Proofs.Ytmacednkpjfokaa
open Go.RowKit Go.Fk
theorem szRing_no (s : Value) (x : Nat → Nat) (n : Nat) (k : Int) (w : World) (hs : SlIn w s x n) (hn : ¬ n ≤ 1048576) :
    Calls Try.prog 60 #[.agg #[s, .int .i64 k], .int .i64 1048576] w fun e w' => e = .returned (.int .i64 (-1)) ∧ le w w' := by
  have HS := hid (hs.le (le_alloc w (.cells #[s, .int .i64 k] 42)))
  have HN := hid hs.small
  have HL := hid (le_alloc w (.cells #[s, .int .i64 k] 42))
  clear hs
  go_enter Try.func60, Try.ntmps60
  go_wp2_with (go_at_call 90; ((with_reducible refine (szS_no s x n 1048576 _ HS.out (by omega) (by omega) HN.out (by omega)).mono ?_); rintro e w2 ⟨rfl, rfl⟩))
  go_ret
  exact ⟨rfl, HL.out⟩
theorem szRing_yes (s : Value) (x : Nat → Nat) (n : Nat) (k : Int) (w : World) (hs : SlIn w s x n) (hn : n ≤ 1048576) :
    Calls Try.prog 60 #[.agg #[s, .int .i64 k], .int .i64 1048576] w fun e w' => e = .returned (.int .i64 (1048576 - n)) ∧ le w w' := by
  have HS := hid (hs.le (le_alloc w (.cells #[s, .int .i64 k] 42)))
  have HN := hid hs.small
  have HL := hid (le_alloc w (.cells #[s, .int .i64 k] 42))
  clear hs
  go_enter Try.func60, Try.ntmps60
  go_wp2_with (go_at_call 90; ((with_reducible refine (szS_yes s x n 1048576 _ HS.out (by omega) (by omega) HN.out (by omega)).mono ?_); rintro e w2 ⟨rfl, rfl⟩))
  go_ret
  exact ⟨rfl, HL.out⟩
set_option maxHeartbeats 2000000 in
theorem i_ValidRing (b n : Nat) (k : Int) (w : World) : Calls Try.prog 93 #[.agg #[.slice (some ⟨b, 0, none⟩) n n, .int .i64 k]] w fun e w' => e = .returned (.bool (okRing n k)) ∧ le w w' := by
  have HL := hid (le_alloc w (.cells #[.slice (some ⟨b, 0, none⟩) n n, .int .i64 k] 46))
  obtain ⟨z, hz⟩ : ∃ z, z = okRing n k := ⟨_, rfl⟩
  rw [← hz]
  unfold okRing at hz
  by_cases h1 : 1 ≤ (n : Int) <;> by_cases h2 : (n : Int) ≤ 1024 <;> by_cases h3 : 0 ≤ k <;> by_cases h4 : k < (n : Int)
  all_goals first | (exfalso; omega) | skip
  all_goals
    simp only [h1, h2, h3, h4, decide_true, decide_false, Bool.and_true, Bool.and_false, Bool.true_and, Bool.false_and] at hz
    have HZ := hid hz
    clear hz
    go_enter Try.func93, Try.ntmps93
    go_wp2
    go_ret
    exact ⟨ret_b HZ.out.symm, HL.out⟩
end Go.Proofs.Ytmacednkpjfokaa

/- Rings in the laws' helpers, over facts of memory. -/
namespace Go.Fk
open Go Go.RowKit
theorem RdS.uniq {w : World} {B B' : Nat} {s : Value} {x x' : Nat → Nat} {n n' : Nat} (h : RdS w B s x n) (h' : RdS w B' s x' n') : n = n' ∧ ∀ i, i < n → x i = x' i := by
  rcases h with ⟨rfl, rfl⟩ | ⟨a, cap, rfl, _, _, h3⟩ <;> rcases h' with ⟨e, rfl⟩ | ⟨a', cap', e, _, _, h3'⟩
  · exact ⟨rfl, fun i hi => absurd hi (by omega)⟩
  · cases e
  · cases e
  · simp only [Value.slice.injEq, Option.some.injEq] at e
    obtain ⟨rfl, e2, rfl⟩ := e
    have e3 : n = n' := by omega
    subst e3
    refine ⟨rfl, fun i hi => ?_⟩
    obtain ⟨_, y, e1, _, e2⟩ := h3 i hi
    obtain ⟨_, y', e1', _, e2'⟩ := h3' i hi
    rw [e1] at e1'
    simp only [Option.some.injEq, Value.float.injEq, true_and] at e1'
    rw [← e2, ← e2', e1']
/-- What a copy of a ring is, whatever is known of it. -/
def KRing (w0 : World) (args : Array Value) (w : World) (v : Value) : Prop := ∀ s k B x n, args = #[.agg #[s, .int .i64 k]] → RdS w0 B s x n → ∃ s' B', v = .agg #[s', .int .i64 k] ∧ RdS w B' s' x n
theorem KRing.le {w0 w w' : World} {args : Array Value} {v : Value} (h : KRing w0 args w v) (hl : Fk.le w w') : KRing w0 args w' v := fun s k B x n e hr => by
  obtain ⟨s', B', e1, e2⟩ := h s k B x n e hr
  exact ⟨s', B', e1, e2.le hl⟩
end Go.Fk
namespace Go.Proofs.Ytmacednkpjfokaa
open Go.RowKit Go.Fk
theorem szRingRM_no (B : Nat) (s : Value) (x : Nat → Nat) (n : Nat) (k m : Int) (w : World) (hs : RdS w B s x n) (h0 : 0 ≤ m) (h1 : m ≤ 1048576) (hm : m - (n : Int) < 0) :
    Calls Try.prog 60 #[.agg #[s, .int .i64 k], .int .i64 m] w fun e w' => e = .returned (.int .i64 (-1)) ∧ le w w' := by
  obtain ⟨y, hy, _⟩ := hs.slIn
  have HS := hid (hy.le (le_alloc w (.cells #[s, .int .i64 k] 42)))
  have HN := hid hs.small
  have HL := hid (le_alloc w (.cells #[s, .int .i64 k] 42))
  clear hs hy
  go_enter Try.func60, Try.ntmps60
  go_wp2_with (go_at_call 90; ((with_reducible refine (szS_no s y n m _ HS.out h0 h1 HN.out hm).mono ?_); rintro e w2 ⟨rfl, rfl⟩))
  go_ret
  exact ⟨rfl, HL.out⟩
theorem szRingRM_yes (B : Nat) (s : Value) (x : Nat → Nat) (n : Nat) (k m : Int) (w : World) (hs : RdS w B s x n) (h0 : 0 ≤ m) (h1 : m ≤ 1048576) (hm : 0 ≤ m - (n : Int)) :
    Calls Try.prog 60 #[.agg #[s, .int .i64 k], .int .i64 m] w fun e w' => e = .returned (.int .i64 (m - n)) ∧ le w w' := by
  obtain ⟨y, hy, _⟩ := hs.slIn
  have HS := hid (hy.le (le_alloc w (.cells #[s, .int .i64 k] 42)))
  have HN := hid hs.small
  have HL := hid (le_alloc w (.cells #[s, .int .i64 k] 42))
  have hm' : ¬ m - (n : Int) < 0 := by omega
  clear hs hy
  go_enter Try.func60, Try.ntmps60
  go_wp2_with (go_at_call 90; ((with_reducible refine (szS_yes s y n m _ HS.out h0 h1 HN.out hm).mono ?_); rintro e w2 ⟨rfl, rfl⟩))
  go_ret
  exact ⟨rfl, HL.out⟩
theorem szRingR_no (B : Nat) (s : Value) (x : Nat → Nat) (n : Nat) (k : Int) (w : World) (hs : RdS w B s x n) (hn : ¬ n ≤ 1048576) :
    Calls Try.prog 60 #[.agg #[s, .int .i64 k], .int .i64 1048576] w fun e w' => e = .returned (.int .i64 (-1)) ∧ le w w' := szRingRM_no B s x n k 1048576 w hs (by omega) (by omega) (by omega)
theorem szRingR_yes (B : Nat) (s : Value) (x : Nat → Nat) (n : Nat) (k : Int) (w : World) (hs : RdS w B s x n) (hn : n ≤ 1048576) :
    Calls Try.prog 60 #[.agg #[s, .int .i64 k], .int .i64 1048576] w fun e w' => e = .returned (.int .i64 (1048576 - n)) ∧ le w w' := szRingRM_yes B s x n k 1048576 w hs (by omega) (by omega) (by omega)
theorem toRingR (B : Nat) (s : Value) (x : Nat → Nat) (n : Nat) (k : Int) (w : World) (hs : RdS w B s x n) (hn : n ≤ 1048576) :
    Calls Try.prog 65 #[.agg #[s, .int .i64 k]] w fun e w' => ∃ s', e = .returned (.agg #[s', .int .i64 k]) ∧ OwnS w' w.heap.size w'.heap.size s' x n ∧ le w w' := by
  obtain ⟨y, hy, hc⟩ := hs.slIn
  have hf : ∀ i, i < n → fits .f32 (y i) := by
    rcases hy with ⟨_, rfl⟩ | ⟨a, cap, _, _, _, h4⟩
    · intro i hi; omega
    · intro i hi; exact (h4 i hi).2
  refine (toRing_any s y n k w hy hn).mono ?_
  rintro e w' ⟨b, rfl, hb, hr, hl⟩
  exact ⟨_, rfl, .inr ⟨b, 0, n, _, rfl, Nat.le_refl _, by unfold maxLen; omega, hb, hr.lt, hr, fun i hi => ⟨y i, by rw [Nat.zero_add]; exact get_ftab _ _ _ _ hi, hf i hi, hc i hi⟩⟩, hl⟩
theorem toRingK (w0 : World) (B : Nat) (s : Value) (x : Nat → Nat) (n : Nat) (k : Int) (w : World) (hl : le w0 w) (hs : RdS w0 B s x n) (hn : n ≤ 1048576) :
    Calls Try.prog 65 #[.agg #[s, .int .i64 k]] w fun e w' => ∃ v, e = .returned v ∧ le w w' ∧ KRing w0 #[.agg #[s, .int .i64 k]] w' v := by
  refine (toRingR B s x n k w (hs.le hl) hn).mono ?_
  rintro e w' ⟨s', rfl, ho, hl'⟩
  refine ⟨_, rfl, hl', fun s2 k2 B2 x2 n2 e2 hr => ?_⟩
  simp only [Array.mk.injEq, List.cons.injEq, Value.agg.injEq, Value.int.injEq, true_and, and_true] at e2
  obtain ⟨rfl, rfl⟩ := e2
  obtain ⟨rfl, hx⟩ := hs.uniq hr
  exact ⟨s', _, rfl, ho.rd.congr hx⟩
theorem eqRingR (B B' : Nat) (s s' : Value) (x : Nat → Nat) (n : Nat) (k : Int) (w : World) (hn : n ≤ 1048576) (hs : RdS w B s x n) (hs' : RdS w B' s' x n) :
    Calls Try.prog 71 #[.agg #[s, .int .i64 k], .agg #[s', .int .i64 k]] w fun e w' => e = .returned (.bool true) ∧ le w w' := by
  have HS := hid hs; have HS' := hid hs'; clear hs hs'
  have F := ((Frg.nil w).box 46 #[s, .int .i64 k]).box 46 #[s', .int .i64 k]
  have HL := hid F.below
  clear F
  go_enter Try.func71, Try.ntmps71
  go_wp2_with (go_at_call 31; ((with_reducible refine (eqR B B' s s' x n _ hn (HS.out.le HL.out) (HS'.out.le HL.out)).mono ?_); rintro e w2 ⟨rfl, m, rfl⟩))
  go_ret
  exact ⟨rfl, le_trans HL.out (le_drewN _ _)⟩
theorem markRingR (lo hi : Nat) (s : Value) (x : Nat → Nat) (n : Nat) (k z : Int) (w : World) (hn : n ≤ 1048576) (hz : 0 ≤ z) (hz2 : z ≤ 1073741824) (hs : OwnS w lo hi s x n) :
    Calls Try.prog 72 #[.agg #[s, .int .i64 k], .int .i64 z] w fun e w' => e = .returned (.int .i64 (z + n)) ∧ OwnS w' lo hi s (markW z) n ∧ Chg (rng lo hi) w w' := by
  have HS := hid (hs.le (le_alloc w (.cells #[s, .int .i64 k] 46))); clear hs
  have HL := hid (le_alloc w (.cells #[s, .int .i64 k] 46))
  go_enter Try.func72, Try.ntmps72
  go_wp2_with (go_at_call 32; ((with_reducible refine (markR lo hi s x n z _ hn hz hz2 HS.out).mono ?_); rintro e w2 ⟨rfl, hR, hU, _⟩; have HR2 := hid hR; have HU := hid (Chg.trans (Chg.of_le HL.out) hU); clear hR hU))
  go_ret
  exact ⟨rfl, HR2.out, HU.out⟩
theorem heldRingR (B : Nat) (s : Value) (n : Nat) (k z : Int) (w : World) (hn : n ≤ 1048576) (hz : 0 ≤ z) (hz2 : z ≤ 1073741824) (hs : RdS w B s (markW z) n) :
    Calls Try.prog 73 #[.agg #[s, .int .i64 k], .int .i64 z] w fun e w' => e = .returned (.int .i64 (z + n)) ∧ le w w' := by
  have HS := hid (hs.le (le_alloc w (.cells #[s, .int .i64 k] 46))); clear hs
  have HL := hid (le_alloc w (.cells #[s, .int .i64 k] 46))
  have hz3 : ¬ (z + (n : Int) < 0) := by omega
  go_enter Try.func73, Try.ntmps73
  go_wp2_with (go_at_call 38; ((with_reducible refine (heldR B s n z _ hn hz hz2 HS.out).mono ?_); rintro e w2 ⟨rfl, rfl⟩))
  go_ret
  exact ⟨rfl, HL.out⟩
end Go.Proofs.Ytmacednkpjfokaa

/- What append leaves, as a fact of memory. Nothing here names a program. -/
namespace Go.Fk
open Go Go.RowKit
def flist (y : Nat → Nat) (n : Nat) : List Value := (List.range n).map (fun j => .float .f32 (y j))
theorem flist_length (y : Nat → Nat) (n : Nat) : (flist y n).length = n := by simp [flist]
theorem flist_get {y : Nat → Nat} {n j : Nat} {u : Value} (h : (flist y n)[j]? = some u) : j < n ∧ u = .float .f32 (y j) := by
  obtain ⟨hj, e⟩ := List.getElem?_eq_some_iff.1 h
  rw [flist_length] at hj
  refine ⟨hj, ?_⟩
  rw [← e]; simp [flist]
theorem flist_get' (y : Nat → Nat) {n j : Nat} (h : j < n) : (flist y n)[j]? = some (.float .f32 (y j)) := by simp [flist, h]
theorem flist_one (y : Nat → Nat) (n : Nat) : ∀ u ∈ flist y n, u.oneCell' = true := by
  intro u hu
  simp only [flist, List.mem_map] at hu
  obtain ⟨j, _, rfl⟩ := hu; rfl
theorem flist_app (y z : Nat → Nat) (n m : Nat) : flist y n ++ flist z m = flist (fun j => if j < n then y j else z (j - n)) (n + m) := by
  apply List.ext_getElem?
  intro j
  by_cases h : j < n
  · rw [List.getElem?_append_left (by rw [flist_length]; exact h), flist_get' _ h, flist_get' _ (by omega), if_pos h]
  · rw [List.getElem?_append_right (by rw [flist_length]; omega), flist_length]
    by_cases h2 : j < n + m
    · rw [flist_get' _ (by omega), flist_get' _ h2, if_neg h]
    · rw [List.getElem?_eq_none (by rw [flist_length]; omega), List.getElem?_eq_none (by rw [flist_length]; omega)]
theorem own_of_row {w : World} {base : Nat} {v : Value} {n : Nat} {y x : Nat → Nat} (h : w.ownsRow base 22 1 v n (flist y n)) (hf : ∀ j, j < n → fits .f32 (y j) ∧ can .f32 (y j) = x j) : OwnS w base w.heap.size v x n := by
  obtain ⟨_, h⟩ := h
  rcases h with h | ⟨g, cap, cur, rfl, hb, hg, h1, h2, h3, h4⟩
  · exact .inl h
  · refine .inr ⟨g, 0, cap, cur, rfl, h1, h2, hb, (Array.getElem?_eq_some_iff.1 hg).1, hg, fun i hi => ⟨y i, ?_, hf i hi⟩⟩
    have h5 : (cur.toList.take (n * 1))[i]? = some (.float .f32 (y i)) := by rw [h4]; exact flist_get' y hi
    rw [Nat.mul_one, List.getElem?_take_of_lt hi] at h5
    rw [Nat.zero_add]; simpa using h5
theorem OwnS.get {w : World} {lo hi q0 n cap : Nat} {x : Nat → Nat} (h : OwnS w lo hi (.slice (some ⟨q0, 0, none⟩) n cap) x n) {i : Nat} (hi' : i < n) : ∃ y, w.cell? ⟨q0, i, none⟩ = some (.float .f32 y) ∧ fits .f32 y ∧ can .f32 y = x i := by
  rcases h with ⟨h, _⟩ | ⟨b, o, cap', cs, h1, h2, h3, h4, h5, h6, h7⟩
  · cases h
  · simp only [Value.slice.injEq, Option.some.injEq, Addr.mk.injEq, and_true] at h1
    obtain ⟨⟨rfl, rfl⟩, _⟩ := h1
    obtain ⟨y, e1, e2⟩ := h7 i hi'
    exact ⟨y, by rw [Nat.zero_add] at e1; exact (h6.cell? i).trans e1, e2⟩
/-- What append has left, in one block of its own. -/
theorem own_tight {w : World} {base : Nat} {v : Value} {n : Nat} {y x : Nat → Nat} (h : w.ownsRow base 22 1 v n (flist y n)) (h1n : 1 ≤ n) (hf : ∀ j, j < n → fits .f32 (y j) ∧ can .f32 (y j) = x j) :
    ∃ q cap cs, v = .slice (some ⟨q, 0, none⟩) n cap ∧ base ≤ q ∧ Row w q 22 cs ∧ OwnS w q (q + 1) v x n := by
  obtain ⟨_, h⟩ := h
  rcases h with ⟨_, h0⟩ | ⟨g, cap, cur, rfl, hb, hg, h1, h2, h3, h4⟩
  · omega
  · refine ⟨g, cap, cur, rfl, hb, hg, .inr ⟨g, 0, cap, cur, rfl, h1, h2, Nat.le_refl _, Nat.lt_succ_self _, hg, fun i hi => ⟨y i, ?_, hf i hi⟩⟩⟩
    have h5 : (cur.toList.take (n * 1))[i]? = some (.float .f32 (y i)) := by rw [h4]; exact flist_get' y hi
    rw [Nat.mul_one, List.getElem?_take_of_lt hi] at h5
    rw [Nat.zero_add]; simpa using h5
theorem le_of_grown {w w' : World} (h : w.grownBy w' none) : le w w' := ⟨h.os, h.tape, h.output, h.size, fun k hk => h.block k hk (by simp)⟩
/-- The raw words of a slice that can be read. -/
theorem RdS.raw {w : World} {B : Nat} {v : Value} {x : Nat → Nat} {n : Nat} (h : RdS w B v x n) (hn : 1 ≤ n) : ∃ (a : Addr) (cap : Nat) (y : Nat → Nat), v = .slice (some a) n cap ∧ n ≤ cap ∧ cap ≤ maxLen ∧ ∀ i, i < n → w.cell? (a.add i) = some (.float .f32 (y i)) ∧ fits .f32 (y i) ∧ can .f32 (y i) = x i := by
  rcases h with ⟨_, rfl⟩ | ⟨a, cap, rfl, h2, h3, h4⟩
  · omega
  · have : ∀ i, ∃ y, i < n → w.cell? (a.add i) = some (.float .f32 y) ∧ fits .f32 y ∧ can .f32 y = x i := fun i => by
      by_cases hi : i < n
      · obtain ⟨_, y, e⟩ := h4 i hi; exact ⟨y, fun _ => e⟩
      · exact ⟨0, fun h => absurd h hi⟩
    obtain ⟨y, hy⟩ := Classical.skolem.1 this
    exact ⟨a, cap, y, rfl, h2, h3, hy⟩
/-- The result's block g, of n cells, is written once; new blocks are made. -/
def outX (g : Nat) (t : TypeId) (n : Nat) (Fin : World → Array Value → Prop) (hm : ∀ w w' cs, le w w' → Fin w cs → Fin w' cs) : Ext where
  R w w' := Chg (· = g) w w' ∧ ((∃ cs, Row w g t cs ∧ cs.size = n) → ∃ cs, Row w' g t cs ∧ cs.size = n) ∧ ((∃ cs, Row w g t cs ∧ Fin w cs) → ∃ cs, Row w' g t cs ∧ Fin w' cs)
  refl w := ⟨Chg.refl _ _, id, id⟩
  trans := fun ⟨h1, h2, h3⟩ ⟨k1, k2, k3⟩ => ⟨h1.trans k1, fun h => k2 (h2 h), fun h => k3 (h3 h)⟩
  of_le := fun h => ⟨Chg.of_le h, fun ⟨cs, hr, hs⟩ => ⟨cs, hr.le h, hs⟩, fun ⟨cs, hr, hf⟩ => ⟨cs, hr.le h, hm _ _ _ h hf⟩⟩
theorem OwnS.chgS {w w' : World} {lo hi : Nat} {s : Value} {x : Nat → Nat} {n : Nat} {S : Nat → Prop} (h : OwnS w lo hi s x n) (k : Chg S w w') (hS : ∀ i, lo ≤ i → i < hi → ¬ S i) : OwnS w' lo hi s x n := by
  rcases h with h | ⟨b, o, cap, cs, h1, h2, h3, h4, h5, h6, h7⟩
  · exact .inl h
  · exact .inr ⟨b, o, cap, cs, h1, h2, h3, h4, h5, k.row h6 (hS b h4 h5), h7⟩
section
variable {P : Program} {ops : Array Oper} {W : World} {K : FuncId → Array Value → World → Value → Prop} {Q : Act → World → Prop} {F : Facts} {k : Nat} {o : Oper} {rest : List Oper} {a : Act}
variable {g : Nat} {t : TypeId} {m : Nat} {Fin : World → Array Value → Prop} {hm : ∀ w w' cs, le w w' → Fin w cs → Fin w' cs}
/-- A value of one cell is loaded, of a block that is not the result's. -/
theorem wpFreeD_cell (hg : o.guard = none) {ty : TypeId} {x : Operand} (hop : o.op = .load ty x) {ad : Addr} (hx : a.eval x = .pointer (some ad)) {v : Value} (hv : W.cell? ad = some v) (hne : ad.block ≠ g) (hu : ∀ w, (isAgg ty).run P w = .ok false w)
    (h : wpFreeD (outX g t m Fin hm) P ops .any W K Q rest (k + 1) (a.put o.dst v) (F.with k (fun _ => True))) : wpFreeD (outX g t m Fin hm) P ops .any W K Q (o :: rest) k a F := by
  refine wpFreeD_one hg v (fun w hw => ?_) h
  have hlt : ad.block < W.heap.size := World.block_lt_of_cell? W _ hv
  have hc : w.cell? ad = some v := (cell_of_heap (hw.1.block _ hlt hne)).trans hv
  have hl : (Instr.loadAt ty (.pointer (some ad))).run P w = .ok v w := by
    simp [Instr.loadAt, Instr.sureAddr, loadVar, hu, hc]
  simp [execOp, hop, hx, hl, Result.andThen]
/-- Append to a slice of no capacity: new memory is taken. -/
theorem wpFreeD_append {s x : Operand} (hg : o.guard = none) {t' : TypeId} (hop : o.op = Op.call { callee := Callee.builtin Builtin.append, args := #[s, x], argTypes := #[t', t'] }) {e : TypeId} (h1 : P.underlying t' = some (.slice e)) {i : TypeInfo} (h2 : P.info? e = some i) (h3 : i.zero = some (.float .f32 0)) (h4 : i.size = 1) (h5 : i.bytes = 4)
    {ao : Option Addr} (hs : a.eval s = .slice ao 0 0) {ad : Addr} {n c : Nat} {y : Nat → Nat} (hx : a.eval x = .slice (some ad) n c) (hn : 1 ≤ n) (hn2 : n ≤ 1048576) (hc : ∀ j, j < n → W.cell? (ad.add j) = some (.float .f32 (y j))) (hne : ad.block ≠ g)
    (h : ∀ q c', wpFreeD (outX g t m Fin hm) P ops .any W K Q rest (k + 1) (a.put o.dst (.slice (some ⟨q, 0, none⟩) n c')) (F.with k (fun w => ∃ B, W.heap.size ≤ B ∧ w.ownsRow B e 1 (.slice (some ⟨q, 0, none⟩) n c') n (flist y n) ∧ g < B))) (hgW : g < W.heap.size) : wpFreeD (outX g t m Fin hm) P ops .any W K Q (o :: rest) k a F := by
  refine ⟨fun w v => ∃ B, W.heap.size ≤ B ∧ w.ownsRow B e 1 v n (flist y n) ∧ g < B, ⟨fun v w w' hw hv => ?_, .inl ⟨by simp [Region.wanted, hg], fun w hw _ => ?_⟩⟩, fun v hv => ?_⟩
  rotate_left 2
  · obtain ⟨w, _, _, B, _, ho, _⟩ := hv
    rcases ho.2 with ⟨_, h0⟩ | ⟨q, c', cur, rfl, _⟩
    · omega
    · exact h q c'
  · obtain ⟨B, hB, ⟨ho1, ho⟩, hgB⟩ := hv
    refine ⟨B, hB, ⟨ho1, ?_⟩, hgB⟩
    rcases ho with ho | ⟨q, cap, cur, e1, e2, e3, e4⟩
    · exact .inl ho
    · exact .inr ⟨q, cap, cur, e1, e2, by have := hw.1.row (g := q) (t := e) (cs := cur) e3 (by omega); exact this, e4⟩
  · have hcw : ∀ j u, (flist y n)[j]? = some u → w.cell? (ad.add j) = some u := by
      intro j u hu
      obtain ⟨hj, rfl⟩ := flist_get hu
      have := hc j hj
      have hlt : (ad.add j).block < W.heap.size := World.block_lt_of_cell? W _ this
      exact (cell_of_heap (hw.1.block _ hlt (by rw [add_block]; exact hne))).trans this
    have hsz := hw.1.size
    cases ao with
    | none =>
      obtain ⟨v', w', hrun, hown, hgr, _⟩ := run_append_own (P := P) (w := w) w.heap.size t' o.type e i (.float .f32 0) 1 4 h1 h2 h3 h4 h5 rfl (by omega) (.slice none 0 0) 0 [] (World.ownsRow_nil w _ e 1) ad n c (flist y n) (by rw [flist_length]; omega) hcw (flist_one y n) (by unfold maxLen; omega) (by omega) (Nat.le_refl _)
      simp only [Nat.zero_add, List.nil_append] at hown
      simp [execOp, hop, resolve, invoke, builtin, hs, hx, hrun, Result.andThen, insideT]
      exact ⟨(outX g t m Fin hm).of_le (le_of_grown hgr), w.heap.size, hsz, hown, by omega⟩
    | some b =>
      obtain ⟨v', w', hrun, hown, hgr⟩ := run_append_arg_grows (P := P) w t' o.type e i (.float .f32 0) 1 4 h1 h2 h3 h4 h5 rfl (by omega) b 0 0 [] rfl (fun j u hu => by simp at hu) ad n c (flist y n) (by rw [flist_length]; omega) hcw (by omega) (by unfold maxLen; omega) (by omega)
      simp only [Nat.zero_add, List.nil_append] at hown
      simp [execOp, hop, resolve, invoke, builtin, hs, hx, hrun, Result.andThen, insideT]
      exact ⟨(outX g t m Fin hm).of_le (le_of_grown hgr), w.heap.size, hsz, hown, by omega⟩
/-- The result is stored. -/
theorem wpFreeD_out (hg : o.guard = none) {ty : TypeId} {x y : Operand} (hop : o.op = .store ty x y) (hx : a.eval x = .pointer (some ⟨g, 0, none⟩)) {cells : Array Value} (hy : a.eval y = .agg cells) (hty : ty = t) {old : Array Value} (hW : Row W g t old) (ho : old.size = m)
    (hF : ∀ w w', (outX g t m Fin hm).R W w → behind .any o F w → Chg (· = g) w w' → Fin w' cells) (hi : (P.info? ty).map (·.size) = some m) (hs : cells.size = m) (h1 : cells.all (·.oneCell') = true)
    (h : wpFreeD (outX g t m Fin hm) P ops .any W K Q rest (k + 1) (a.put o.dst undef) (F.with k (fun w => ∃ cs, Row w g t cs ∧ Fin w cs))) : wpFreeD (outX g t m Fin hm) P ops .any W K Q (o :: rest) k a F := by
  subst hty
  refine ⟨fun w v => v = undef ∧ ∃ cs, Row w g ty cs ∧ Fin w cs, ⟨fun v w w' hw hv => ⟨hv.1, hw.2.2 hv.2⟩, .inl ⟨by simp [Region.wanted, hg], fun w hw hbe => ?_⟩⟩, fun v hv => ?_⟩
  · obtain ⟨cs, hc, hcs⟩ := hw.2.1 ⟨old, hW, ho⟩
    have hrun := run_storeVar_row (P := P) w g ty ty cs cells hc (hs ▸ hi) (hcs.trans hs.symm) h1
    have : (execOp a.eval o).run P w = .ok .skip (w.setRow g cells) := by
      unfold execOp
      simp only [hop, hx, hy, Instr.storeAt, Instr.sureAddr, Sem.run_bind, Sem.run_pure, Result.andThen_ok, hrun]
    rw [this]
    have hrow : Row (w.setRow g cells) g ty cells := hc.setRow _
    have hch : Chg (· = g) w (w.setRow g cells) := (Chg.refl _ w).wrote (wrote_setRow hc) rfl
    have hfin := hF w _ hw hbe hch
    exact ⟨⟨hch, fun _ => ⟨cells, hrow, hs⟩, fun _ => ⟨cells, hrow, hfin⟩⟩, rfl, cells, hrow, hfin⟩
  · obtain ⟨w, _, _, rfl, _⟩ := hv
    exact wpFreeD_weaken _ _ _ _ _ (fun e w h => ⟨h.1, fun he => (h.2 he).2⟩) h
end
section
variable {E : Ext} {P : Program} {ops : Array Oper} {W : World} {K : FuncId → Array Value → World → Value → Prop} {Q : Act → World → Prop} {F : Facts} {k : Nat} {o : Oper} {rest : List Oper} {a : Act}
/-- A quiet operation: one value, in the very world. -/
theorem wpFreeD_quiet (hnc : simple o.op = true) (h : wpQuiet P ops (fun _ => True) (fun a' => wpFreeD E P ops .any W K Q rest (k + 1) a' (F.with k (fun _ => True))) [o] a) : wpFreeD E P ops .any W K Q (o :: rest) k a F := by
  simp only [wpQuiet] at h
  by_cases hw : Region.wanted o (yielded ops a.tmps) = true
  · rw [if_pos hw] at h
    obtain ⟨v, h1, h2⟩ := h
    refine ⟨fun _ u => u = v, ⟨fun _ _ _ _ h => h, .inl ⟨hw, fun w hw' _ => ?_⟩⟩, fun u hu => ?_⟩
    · have h3 := h1 w trivial
      unfold Oper.quietAt at h3
      generalize hrun : (execOp a.eval o).run P w = r at h3
      cases r with
      | ok n w' =>
        cases n <;> simp only [Oper.quietUpon] at h3 <;> simp only [insideT]
        case value u => exact ⟨by rw [h3.1]; exact E.refl w, h3.2⟩
        case skip => exact ⟨by rw [h3.1]; exact E.refl w, h3.2.symm⟩
        case enter f args => exact (noEnter hnc hrun).elim
      | halt x w' => simp only [Oper.quietUpon] at h3
    · obtain ⟨w, _, _, rfl⟩ := hu
      exact wpFreeD_weaken _ _ _ _ _ (fun e w h => ⟨h.1, fun _ => trivial⟩) h2
  · rw [if_neg hw] at h
    refine ⟨fun _ u => u = undef, ⟨fun _ _ _ _ h => h, .inr ⟨by simpa using hw, fun _ _ _ => rfl⟩⟩, fun u hu => ?_⟩
    obtain ⟨w, _, _, rfl⟩ := hu
    exact wpFreeD_weaken _ _ _ _ _ (fun e w h => ⟨h.1, fun _ => trivial⟩) h
/-- An operation of one value; what is known of those that it comes behind is carried on. -/
theorem wpFreeD_carry (hg : o.guard = none) (v : Value) (hr : ∀ w, E.R W w → (execOp a.eval o).run P w = .ok (.value v) w) (V : World → Prop) (hm : ∀ w w', E.R w w' → V w → V w') (hb : ∀ w, E.R W w → behind .any o F w → V w)
    (h : wpFreeD E P ops .any W K Q rest (k + 1) (a.put o.dst v) (F.with k V)) : wpFreeD E P ops .any W K Q (o :: rest) k a F := by
  refine ⟨fun w u => u = v ∧ V w, ⟨fun _ w w' hw h => ⟨h.1, hm w w' hw h.2⟩, .inl ⟨by simp [Region.wanted, hg], fun w hw hbe => ?_⟩⟩, fun u hu => ?_⟩
  · rw [hr w hw]; exact ⟨E.refl w, rfl, hb w hw hbe⟩
  · obtain ⟨w, _, _, rfl, _⟩ := hu
    exact wpFreeD_weaken _ _ _ _ _ (fun e w h => ⟨h.1, fun he => (h.2 he).2⟩) h
/-- An operation that makes one new block. -/
theorem wpFreeD_new (hg : o.guard = none) (f : Nat → Value) (ob : Obj) (hr : ∀ w, (execOp a.eval o).run P w = .ok (.value (f w.heap.size)) (w.alloc ob))
    (h : ∀ b, wpFreeD E P ops .any W K Q rest (k + 1) (a.put o.dst (f b)) (F.with k (fun _ => True))) : wpFreeD E P ops .any W K Q (o :: rest) k a F := by
  refine ⟨fun _ u => ∃ b, u = f b, ⟨fun _ _ _ _ h => h, .inl ⟨by simp [Region.wanted, hg], fun w hw _ => ?_⟩⟩, fun u hu => ?_⟩
  · rw [hr w]; exact ⟨E.of_le (le_alloc w ob), _, rfl⟩
  · obtain ⟨w, _, _, b, rfl⟩ := hu
    exact wpFreeD_weaken _ _ _ _ _ (fun e w h => ⟨h.1, fun _ => trivial⟩) (h b)
end
theorem run_empty {P : Program} (w : World) (t e : TypeId) (ie : TypeInfo) (hu : P.underlying t = some (.slice e)) (hie : P.info? e = some ie) : (Instr.buildSlice t 0 #[]).run P w = .ok (.slice (some ⟨w.heap.size, 0, none⟩) 0 0) (w.alloc (.cells #[] e)) := by
  have h : Instr.fill (fun i => some (i * ie.size, ie.size)) (Array.map (fun _ => (default : Value)) (Array.range 0)) [] = some #[] := by simp [Instr.fill]
  simp [Instr.buildSlice, run_underlying hu, sizeOf, typeInfo, hie, newRow, h]
theorem ownsRow_le {w w' : World} {B : Nat} {e : TypeId} {z : Nat} {v : Value} {n : Nat} {xs : List Value} (h : w.ownsRow B e z v n xs) (hl : le w w') : w'.ownsRow B e z v n xs := by
  obtain ⟨h1, h2⟩ := h
  refine ⟨h1, ?_⟩
  rcases h2 with h2 | ⟨q, cap, cur, e1, e2, e3, e4⟩
  · exact .inl h2
  · exact .inr ⟨q, cap, cur, e1, e2, by have := Row.le (g := q) (t := e) (cs := cur) e3 hl; exact this, e4⟩
/-- What a copy's result is. -/
def FinR (B : Nat) (e : TypeId) (n : Nat) (y : Nat → Nat) (k : Int) (w : World) (cs : Array Value) : Prop := ∃ s, cs = #[s, .int .i64 k] ∧ ∃ B', B ≤ B' ∧ w.ownsRow B' e 1 s n (flist y n)
theorem FinR_le (B : Nat) (e : TypeId) (n : Nat) (y : Nat → Nat) (k : Int) : ∀ w w' cs, le w w' → FinR B e n y k w cs → FinR B e n y k w' cs := fun _ _ _ hl ⟨s, h, B', hB, h2⟩ => ⟨s, h, B', hB, ownsRow_le h2 hl⟩
theorem ownsRow_out {g : Nat} {t : TypeId} {m : Nat} {Fin : World → Array Value → Prop} {hm : ∀ w w' cs, le w w' → Fin w cs → Fin w' cs} {w w' : World} {e : TypeId} {n B : Nat} {xs : List Value} {v : Value} (hw : (outX g t m Fin hm).R w w') (h : w.ownsRow B e 1 v n xs) (hg : g < B) : w'.ownsRow B e 1 v n xs := by
  obtain ⟨h1, h2⟩ := h
  refine ⟨h1, ?_⟩
  rcases h2 with h2 | ⟨q, cap, cur, e1, e2, e3, e4⟩
  · exact .inl h2
  · exact .inr ⟨q, cap, cur, e1, e2, by have := hw.1.row (g := q) (t := e) (cs := cur) e3 (by omega); exact this, e4⟩
theorem ownsRow_ch {g : Nat} {w w' : World} {e : TypeId} {n B : Nat} {xs : List Value} {v : Value} (hw : Chg (· = g) w w') (h : w.ownsRow B e 1 v n xs) (hg : g < B) : w'.ownsRow B e 1 v n xs := by
  obtain ⟨h1, h2⟩ := h
  refine ⟨h1, ?_⟩
  rcases h2 with h2 | ⟨q, cap, cur, e1, e2, e3, e4⟩
  · exact .inl h2
  · exact .inr ⟨q, cap, cur, e1, e2, by have := hw.row (g := q) (t := e) (cs := cur) e3 (by omega); exact this, e4⟩
theorem ownsRow_one {w : World} {B : Nat} {e : TypeId} {z : Nat} {v : Value} {n : Nat} {xs : List Value} (h : w.ownsRow B e z v n xs) : v.oneCell' = true := by
  rcases h.2 with ⟨rfl, _⟩ | ⟨q, cap, cur, rfl, _⟩ <;> rfl
namespace Frg
variable {w0 w w' : World}
/-- The two newest facts' blocks are written. -/
theorem chg2 {e1 e2 e1' e2' : Fact} {l : List Fact} (h : Frg w0 w (e1 :: e2 :: l)) (k : Chg (fun i => rng e1.lo e1.hi i ∨ rng e2.lo e2.hi i) w w') (p1 : e1'.p w') (p2 : e2'.p w') (l1 : e1'.lo = e1.lo) (h1 : e1'.hi = e1.hi) (l2 : e2'.lo = e2.lo) (h2 : e2'.hi = e2.hi) : Frg w0 w' (e1' :: e2' :: l) := by
  have f1 := h.facts e1 (by simp)
  have f2 := h.facts e2 (by simp)
  have a1 := List.pairwise_cons.1 h.apart
  have a2 := List.pairwise_cons.1 a1.2
  have b12 := a1.1 e2 (by simp)
  refine ⟨h.below.trans (k.below (fun i hi => by rcases hi with hi | hi; exact Nat.le_trans f1.1 hi.1; exact Nat.le_trans f2.1 hi.1) h.size), fun x hx => ?_, ?_⟩
  · rcases List.mem_cons.1 hx with rfl | hx
    · exact ⟨by omega, by have := k.size; omega, p1⟩
    rcases List.mem_cons.1 hx with rfl | hx
    · exact ⟨by omega, by have := k.size; omega, p2⟩
    · have hx' := h.facts x (by simp [hx])
      have ha := a2.1 x hx
      have ha1 := a1.1 x (by simp [hx])
      exact ⟨hx'.1, Nat.le_trans hx'.2.1 k.size, x.ok w w' hx'.2.2 (fun i a b => k.block i (by omega) (fun c => by rcases c with c | c <;> (have := c.1; omega)))⟩
  · refine List.pairwise_cons.2 ⟨fun x hx => ?_, List.pairwise_cons.2 ⟨fun x hx => by have := a2.1 x hx; omega, a2.2⟩⟩
    rcases List.mem_cons.1 hx with rfl | hx
    · omega
    · have := a1.1 x (by simp [hx]); omega
/-- A ring's struct and its samples, behind a push. -/
theorem pushed {g lo hi n : Nat} {t : TypeId} {cs cs' : Array Value} {s : Value} {x x' : Nat → Nat} {l : List Fact} (h : Frg w0 w (rowF g t cs :: ownF lo hi s x n :: l)) (hr : Row w' g t cs') (ho : OwnS w' lo hi s x' n) (k : Chg (fun i => i = g ∨ lo ≤ i ∧ i < hi) w w') : Frg w0 w' (rowF g t cs' :: ownF lo hi s x' n :: l) := by
  refine h.chg2 (k.mono (fun i hi' => ?_)) hr ho rfl rfl rfl rfl
  rcases hi' with rfl | hi'
  · exact .inl ⟨Nat.le_refl _, Nat.lt_succ_self _⟩
  · exact .inr hi'
theorem not_in {g lo hi n : Nat} {t : TypeId} {cs : Array Value} {s : Value} {x : Nat → Nat} {l : List Fact} (h : Frg w0 w (rowF g t cs :: ownF lo hi s x n :: l)) : ¬ (lo ≤ g ∧ g < hi) := by
  have a1 : hi ≤ g := (List.pairwise_cons.1 h.apart).1 (ownF lo hi s x n) (by simp)
  omega
/-- The result is stored: what it has is the call's own. -/
theorem fin1 {g lo hi n : Nat} {t : TypeId} {cs cs' : Array Value} {s : Value} {x : Nat → Nat} {e : Fact} {l : List Fact} (h : Frg w0 w (e :: ownF lo hi s x n :: rowF g t cs :: l)) (k : Wrote w w' g t cs') : OwnS w' w0.heap.size w'.heap.size s x n ∧ Fk.le w0 w' := by
  have a1 := (List.pairwise_cons.1 h.apart).2
  have a2 : g + 1 ≤ lo := (List.pairwise_cons.1 a1).1 (rowF g t cs) (by simp)
  have f1 := h.facts (ownF lo hi s x n) (by simp)
  have f2 := h.facts (rowF g t cs) (by simp)
  have hc : Chg (· = g) w w' := (Chg.refl _ w).wrote k rfl
  refine ⟨((OwnS.chgS f1.2.2 hc (fun i h1 h2 h3 => by have h1' : lo ≤ i := h1; have h3' : i = g := h3; omega)).mono f1.1 (Nat.le_trans f1.2.1 hc.size)), h.below.trans (hc.below (fun i hi => by have hi' : i = g := hi; subst hi'; exact f2.1) h.size)⟩
theorem fin0 {g lo hi n : Nat} {t : TypeId} {cs cs' : Array Value} {s : Value} {x : Nat → Nat} {l : List Fact} (h : Frg w0 w (ownF lo hi s x n :: rowF g t cs :: l)) (k : Wrote w w' g t cs') : OwnS w' w0.heap.size w'.heap.size s x n ∧ Fk.le w0 w' := by
  have a2 : g + 1 ≤ lo := (List.pairwise_cons.1 h.apart).1 (rowF g t cs) (by simp)
  have f1 := h.facts (ownF lo hi s x n) (by simp)
  have f2 := h.facts (rowF g t cs) (by simp)
  have hc : Chg (· = g) w w' := (Chg.refl _ w).wrote k rfl
  refine ⟨((OwnS.chgS f1.2.2 hc (fun i h1 h2 h3 => by have h1' : lo ≤ i := h1; have h3' : i = g := h3; omega)).mono f1.1 (Nat.le_trans f1.2.1 hc.size)), h.below.trans (hc.below (fun i hi => by have hi' : i = g := hi; subst hi'; exact f2.1) h.size)⟩
theorem fin2 {g lo hi n : Nat} {t : TypeId} {cs cs' : Array Value} {s : Value} {x : Nat → Nat} {e : Fact} {l : List Fact} (h : Frg w0 w (ownF lo hi s x n :: e :: rowF g t cs :: l)) (k : Wrote w w' g t cs') : OwnS w' w0.heap.size w'.heap.size s x n ∧ Fk.le w0 w' := by
  have a2 : g + 1 ≤ lo := (List.pairwise_cons.1 h.apart).1 (rowF g t cs) (by simp)
  have f1 := h.facts (ownF lo hi s x n) (by simp)
  have f2 := h.facts (rowF g t cs) (by simp)
  have hc : Chg (· = g) w w' := (Chg.refl _ w).wrote k rfl
  refine ⟨((OwnS.chgS f1.2.2 hc (fun i h1 h2 h3 => by have h1' : lo ≤ i := h1; have h3' : i = g := h3; omega)).mono f1.1 (Nat.le_trans f1.2.1 hc.size)), h.below.trans (hc.below (fun i hi => by have hi' : i = g := hi; subst hi'; exact f2.1) h.size)⟩
end Frg
end Go.Fk

/- What functions give, by their results' kinds. Nothing here names a program. -/
namespace Go.Fk
open Go Go.RowKit
def Out_b (ar0 : Bool) (w : World) (e : Ending) (w' : World) : Prop := e = .returned (.bool ar0) ∧ le w w'
def Out_rfi (xr0 : Nat → Nat) (nr0 : Nat) (kr0 : Int) (ar1 : Nat) (ar2 : Int) (w : World) (e : Ending) (w' : World) : Prop := ∃ (v0 : Value) (v1 : Nat), e = .returned (.tuple #[.agg #[v0, .int .i64 kr0], .float .f32 v1, .int .i64 ar2]) ∧ OwnS w' w.heap.size w'.heap.size v0 xr0 nr0 ∧ can .f32 v1 = ar1 ∧ le w w'
def Out_fi (ar0 : Nat) (ar1 : Int) (w : World) (e : Ending) (w' : World) : Prop := ∃ (v0 : Nat), e = .returned (.tuple #[.float .f32 v0, .int .i64 ar1]) ∧ can .f32 v0 = ar0 ∧ le w w'
def Out_ri (xr0 : Nat → Nat) (nr0 : Nat) (kr0 : Int) (ar1 : Int) (w : World) (e : Ending) (w' : World) : Prop := ∃ (v0 : Value), e = .returned (.tuple #[.agg #[v0, .int .i64 kr0], .int .i64 ar1]) ∧ OwnS w' w.heap.size w'.heap.size v0 xr0 nr0 ∧ le w w'
def Out_si (xr0 : Nat → Nat) (nr0 : Nat) (kr0 : Int) (tkr0 : Int) (tar0 : Nat) (tbr0 : Nat) (tcr0 : Nat) (txr0 : Nat) (tyr0 : Nat) (dkr0 : Int) (dar0 : Nat) (dbr0 : Nat) (dcr0 : Nat) (dxr0 : Nat) (dyr0 : Nat) (lr0 : Nat) (ar1 : Int) (w : World) (e : Ending) (w' : World) : Prop := ∃ (v0 : Value), e = .returned (.tuple #[.agg #[v0, .int .i64 kr0, .int .i64 tkr0, .float .f32 tar0, .float .f32 tbr0, .float .f32 tcr0, .float .f32 txr0, .float .f32 tyr0, .int .i64 dkr0, .float .f32 dar0, .float .f32 dbr0, .float .f32 dcr0, .float .f32 dxr0, .float .f32 dyr0, .float .f32 lr0], .int .i64 ar1]) ∧ OwnS w' w.heap.size w'.heap.size v0 xr0 nr0 ∧ le w w'
def Out_sfi (xr0 : Nat → Nat) (nr0 : Nat) (kr0 : Int) (tkr0 : Int) (tar0 : Nat) (tbr0 : Nat) (tcr0 : Nat) (txr0 : Nat) (tyr0 : Nat) (dkr0 : Int) (dar0 : Nat) (dbr0 : Nat) (dcr0 : Nat) (dxr0 : Nat) (dyr0 : Nat) (lr0 : Nat) (ar1 : Nat) (ar2 : Int) (w : World) (e : Ending) (w' : World) : Prop := ∃ (v0 : Value) (v1 : Nat), e = .returned (.tuple #[.agg #[v0, .int .i64 kr0, .int .i64 tkr0, .float .f32 tar0, .float .f32 tbr0, .float .f32 tcr0, .float .f32 txr0, .float .f32 tyr0, .int .i64 dkr0, .float .f32 dar0, .float .f32 dbr0, .float .f32 dcr0, .float .f32 dxr0, .float .f32 dyr0, .float .f32 lr0], .float .f32 v1, .int .i64 ar2]) ∧ OwnS w' w.heap.size w'.heap.size v0 xr0 nr0 ∧ can .f32 v1 = ar1 ∧ le w w'
def Out_sui (xr0 : Nat → Nat) (nr0 : Nat) (kr0 : Int) (tkr0 : Int) (tar0 : Nat) (tbr0 : Nat) (tcr0 : Nat) (txr0 : Nat) (tyr0 : Nat) (dkr0 : Int) (dar0 : Nat) (dbr0 : Nat) (dcr0 : Nat) (dxr0 : Nat) (dyr0 : Nat) (lr0 : Nat) (ar1 : Int) (ar2 : Int) (w : World) (e : Ending) (w' : World) : Prop := ∃ (v0 : Value), e = .returned (.tuple #[.agg #[v0, .int .i64 kr0, .int .i64 tkr0, .float .f32 tar0, .float .f32 tbr0, .float .f32 tcr0, .float .f32 txr0, .float .f32 tyr0, .int .i64 dkr0, .float .f32 dar0, .float .f32 dbr0, .float .f32 dcr0, .float .f32 dxr0, .float .f32 dyr0, .float .f32 lr0], .int .u32 ar1, .int .i64 ar2]) ∧ OwnS w' w.heap.size w'.heap.size v0 xr0 nr0 ∧ le w w'
def Out_sli (xr0 : Nat → Nat) (nr0 : Nat) (kr0 : Int) (tkr0 : Int) (tar0 : Nat) (tbr0 : Nat) (tcr0 : Nat) (txr0 : Nat) (tyr0 : Nat) (dkr0 : Int) (dar0 : Nat) (dbr0 : Nat) (dcr0 : Nat) (dxr0 : Nat) (dyr0 : Nat) (lr0 : Nat) (xr1 : Nat → Nat) (nr1 : Nat) (ar2 : Int) (w : World) (e : Ending) (w' : World) : Prop := ∃ (v0 : Value) (v1 : Value) (q : Nat), e = .returned (.tuple #[.agg #[v0, .int .i64 kr0, .int .i64 tkr0, .float .f32 tar0, .float .f32 tbr0, .float .f32 tcr0, .float .f32 txr0, .float .f32 tyr0, .int .i64 dkr0, .float .f32 dar0, .float .f32 dbr0, .float .f32 dcr0, .float .f32 dxr0, .float .f32 dyr0, .float .f32 lr0], v1, .int .i64 ar2]) ∧ OwnS w' w.heap.size q v0 xr0 nr0 ∧ OwnS w' q w'.heap.size v1 xr1 nr1 ∧ w.heap.size ≤ q ∧ q ≤ w'.heap.size ∧ le w w'
def Out_bi (ar0 : Bool) (ar1 : Int) (w : World) (e : Ending) (w' : World) : Prop := e = .returned (.tuple #[.bool ar0, .int .i64 ar1]) ∧ le w w'
def Out_ii (ar0 : Int) (ar1 : Int) (w : World) (e : Ending) (w' : World) : Prop := e = .returned (.tuple #[.int .i64 ar0, .int .i64 ar1]) ∧ le w w'
def Out_s (xr0 : Nat → Nat) (nr0 : Nat) (kr0 : Int) (tkr0 : Int) (tar0 : Nat) (tbr0 : Nat) (tcr0 : Nat) (txr0 : Nat) (tyr0 : Nat) (dkr0 : Int) (dar0 : Nat) (dbr0 : Nat) (dcr0 : Nat) (dxr0 : Nat) (dyr0 : Nat) (lr0 : Nat) (w : World) (e : Ending) (w' : World) : Prop := ∃ (v0 : Value), e = .returned (.agg #[v0, .int .i64 kr0, .int .i64 tkr0, .float .f32 tar0, .float .f32 tbr0, .float .f32 tcr0, .float .f32 txr0, .float .f32 tyr0, .int .i64 dkr0, .float .f32 dar0, .float .f32 dbr0, .float .f32 dcr0, .float .f32 dxr0, .float .f32 dyr0, .float .f32 lr0]) ∧ OwnS w' w.heap.size w'.heap.size v0 xr0 nr0 ∧ le w w'
def Out_li (xr0 : Nat → Nat) (nr0 : Nat) (ar1 : Int) (w : World) (e : Ending) (w' : World) : Prop := ∃ (v0 : Value), e = .returned (.tuple #[v0, .int .i64 ar1]) ∧ OwnS w' w.heap.size w'.heap.size v0 xr0 nr0 ∧ le w w'
def Out_f (ar0 : Nat) (w : World) (e : Ending) (w' : World) : Prop := ∃ (v0 : Nat), e = .returned (.float .f32 v0) ∧ can .f32 v0 = ar0 ∧ le w w'
end Go.Fk

/- 'SameFilter' of both. -/
namespace Go.Fk
open Go Go.RowKit
/-- Are two rows the same? -/
def eqRow (f f' : Nat → Nat) (n : Nat) : Bool := (List.range n).all (fun j => sameB (f j) (f' j))
theorem eqRow_no {f f' : Nat → Nat} {n j : Nat} (hj : j < n) (h : sameB (f j) (f' j) = false) : eqRow f f' n = false := by
  rw [Bool.eq_false_iff]
  intro hh
  have := List.all_eq_true.1 hh j (List.mem_range.2 hj)
  rw [h] at this; cases this
theorem eqRow_yes {f f' : Nat → Nat} {n : Nat} (h : ∀ j, j < n → sameB (f j) (f' j) = true) : eqRow f f' n = true := List.all_eq_true.2 (fun j hj => h j (List.mem_range.1 hj))
theorem all_step {p : Nat → Prop} {k : Nat} (h : ∀ j, j < k → p j) (hk : p k) : ∀ j, j < k + 1 → p j := fun j hj => by
  by_cases e : j = k
  · rw [e]; exact hk
  · exact h j (by omega)
section
variable {P : Program} {ops : Array Oper} {w : World} {K : FuncId → Array Value → Value → Prop} {Q : Act → Prop} {o : Oper} {rest : List Oper} {a : Act} {C : World → Prop}
theorem wpLoose_anyW (hw : Region.wanted o (yielded ops a.tmps) = true) (V : Value → Prop) (h1 : ∀ n, within P (fun w' => ∃ m, w' = w.drewN m) K V ((execOp a.eval o).run P (w.drewN n)))
    (h2 : ∀ v, V v → wpLoose P ops (fun w' => ∃ m, w' = w.drewN m) K Q rest (a.put o.dst v)) : wpLoose P ops (fun w' => ∃ m, w' = w.drewN m) K Q (o :: rest) a :=
  ⟨V, .inl ⟨hw, fun w' hw' => by obtain ⟨n, rfl⟩ := hw'; exact h1 n⟩, h2⟩
theorem wpLoose_skip (hw : Region.wanted o (yielded ops a.tmps) = false) (h : wpLoose P ops C K Q rest (a.put o.dst undef)) : wpLoose P ops C K Q (o :: rest) a :=
  ⟨(· = undef), .inr ⟨hw, rfl⟩, fun v hv => by rw [hv]; exact h⟩
theorem wpLoose_nilW (hw : Region.wanted o (yielded ops a.tmps) = true) {x : Operand} (hop : o.op = Op.nilCheck x) {ad : Addr} (hx : a.eval x = .pointer (some ad))
    (hK : wpLoose P ops (fun w' => ∃ m, w' = w.drewN m) K Q rest (a.put o.dst (.pointer (some ad)))) : wpLoose P ops (fun w' => ∃ m, w' = w.drewN m) K Q (o :: rest) a := by
  refine wpLoose_anyW hw (· = .pointer (some ad)) (fun n => ?_) (by rintro v rfl; exact hK)
  simp [execOp, hop, hx, within, Result.andThen]
  exact ⟨_, rfl⟩
end
end Go.Fk
namespace Go.Proofs.Ytmacednkpjfokaa
open Go.RowKit Go.Fk
end Go.Proofs.Ytmacednkpjfokaa

/- Rings over facts of memory: 'ValidRing', 'SameRing' of both. -/
namespace Go.Fk
open Go Go.RowKit
theorem RdS.form {w : World} {B : Nat} {s : Value} {x : Nat → Nat} {n : Nat} (h : RdS w B s x n) : (s = .slice none 0 0 ∧ n = 0) ∨ ∃ (a : Addr) (cap : Nat), s = .slice (some a) n cap ∧ n ≤ cap ∧ cap ≤ maxLen := by
  rcases h with h | ⟨a, cap, h1, h2, h3, _⟩
  · exact .inl h
  · exact .inr ⟨a, cap, h1, h2, h3⟩
section
variable {P : Program} {w : World} {ops : Array Oper} {rest : List Oper} {o : Oper} {a : Act} {Q : Exit → Act → World → Prop}
/-- The length of a slice that can be read. -/
theorem wpList_lenR (hg : o.guard = none) {x : Operand} {t : TypeId} (hop : o.op = Op.call { callee := Callee.builtin Builtin.len, args := #[x], argTypes := #[t] }) {v : Value} (hx : a.eval x = v) {e : TypeId} (hu : P.underlying t = some (.slice e)) {w1 : World} {B : Nat} {y : Nat → Nat} {n : Nat} (hv : RdS w1 B v y n)
    (h : wpList P ops Q rest (a.put o.dst (.int .i64 n)) w) : wpList P ops Q (o :: rest) a w := by
  refine wpList_plain hg fun K hK' => ?_
  unfold Oper.wp
  rcases hv.form with ⟨rfl, rfl⟩ | ⟨ad, cap, rfl, _, _⟩
  all_goals
    simp [execOp, hop, hx, Result.andThen, resolve, invoke, builtin, Builtin.len_, run_underlying hu]
    exact hK' _ _ h
end
theorem sameB_can (x y : Nat) : sameB (can .f32 x) (can .f32 y) = sameB x y := by unfold sameB; rw [can_can, can_can]
theorem okRing_iff {n : Nat} {k : Int} : okRing n k = true ↔ 1 ≤ n ∧ n ≤ 1024 ∧ 0 ≤ k ∧ k < n := by
  unfold okRing; simp only [Bool.and_eq_true, decide_eq_true_eq]; omega
theorem okRing_j {n : Nat} {k : Int} (h : okRing n k = true) : 1 ≤ n ∧ n ≤ 1024 ∧ ∃ j : Nat, k = j ∧ j < n := by
  obtain ⟨h1, h2, h3, h4⟩ := okRing_iff.1 h
  exact ⟨h1, h2, k.toNat, by omega, by omega⟩
/-- Two slices of floats, compared. -/
def sameS (x x' : Nat → Nat) (n n' : Nat) : Bool := (n == n') && eqRow x x' n
theorem sameS_ne {x x' : Nat → Nat} {n n' : Nat} (h : n ≠ n') : sameS x x' n n' = false := by simp [sameS, h]
theorem sameS_eq {x x' : Nat → Nat} {n : Nat} : sameS x x' n n = eqRow x x' n := by simp [sameS]
end Go.Fk
namespace Go.Proofs.Ytmacednkpjfokaa
open Go.RowKit Go.Fk
set_option maxHeartbeats 2000000 in
theorem i_ValidRingR (B : Nat) (s : Value) (x : Nat → Nat) (n : Nat) (k : Int) (w : World) (hs : RdS w B s x n) : Calls Try.prog 93 #[.agg #[s, .int .i64 k]] w fun e w' => e = .returned (.bool (okRing n k)) ∧ le w w' := by
  have HL := hid (le_alloc w (.cells #[s, .int .i64 k] 46))
  rcases hs.form with ⟨rfl, rfl⟩ | ⟨a, cap, rfl, hc, hm⟩
  · have HZ : Hid (okRing 0 k = false) := by unfold Hid okRing; simp
    clear hs
    go_enter Try.func93, Try.ntmps93
    go_wp2
    go_ret
    exact ⟨ret_b HZ.out.symm, HL.out⟩
  clear hs
  unfold maxLen at hm
  obtain ⟨z, hz⟩ : ∃ z, z = okRing n k := ⟨_, rfl⟩
  rw [← hz]
  unfold okRing at hz
  by_cases h1 : 1 ≤ (n : Int) <;> by_cases h2 : (n : Int) ≤ 1024 <;> by_cases h3 : 0 ≤ k <;> by_cases h4 : k < (n : Int)
  all_goals first | (exfalso; omega) | skip
  all_goals
    simp only [h1, h2, h3, h4, decide_true, decide_false, Bool.and_true, Bool.and_false, Bool.true_and, Bool.false_and] at hz
    have HZ := hid hz
    clear hz
    go_enter Try.func93, Try.ntmps93
    go_wp2
    go_ret
    exact ⟨ret_b HZ.out.symm, HL.out⟩
theorem s_l02RingR (B : Nat) (s : Value) (x : Nat → Nat) (n : Nat) (k : Int) (g f : Nat) (w : World) (hs : RdS w B s x n) (c0 : w.cell? ⟨g, f, none⟩ = some s) (c1 : w.cell? ⟨g, f + 1, none⟩ = some (.int .i64 k)) (hk : (Lit.int .i64 k).wf = true) :
    Calls Try.prog 91 #[.pointer (some ⟨g, f, none⟩)] w fun e w' => e = .returned (.bool (okRing n k)) ∧ w = w' := by
  rcases hs.form with ⟨rfl, rfl⟩ | ⟨a, cap, rfl, hc, hm⟩
  · have HZ : Hid (okRing 0 k = false) := by unfold Hid okRing; simp
    clear hs
    have HI : Hid (∀ w, Calls Try.prog 56 #[.int .i64 0, .int .i64 1, .int .i64 1024] w fun e w' => e = .returned (.bool false) ∧ w = w') := fun w => s_In 0 1 1024 w
    go_enter Try.func91, Try.ntmps91
    go_wp2_with (go_at_call 56; refine (HI.out _).mono ?_; rintro e w' ⟨rfl, rfl⟩)
    go_ret
    exact ⟨ret_b HZ.out.symm, rfl⟩
  clear hs hk
  unfold maxLen at hm
  obtain ⟨z, hz⟩ : ∃ z, z = okRing n k := ⟨_, rfl⟩
  rw [← hz]
  unfold okRing at hz
  by_cases h1 : 1 ≤ (n : Int) <;> by_cases h2 : (n : Int) ≤ 1024
  all_goals first | (exfalso; omega) | skip
  all_goals
    simp only [h1, h2, decide_true, decide_false, Bool.and_true, Bool.and_false, Bool.true_and, Bool.false_and] at hz
    have HZ := hid hz
    clear hz
    go_enter Try.func91, Try.ntmps91
    go_wp2_with (go_at_call 56; refine (s_In _ _ _ _).mono ?_; rintro e w' ⟨rfl, rfl⟩)
    go_ret
    refine ⟨ret_b ?_, rfl⟩
    first | (rw [HZ.out]; done) | (rw [HZ.out]; congr 1; exact decide_eq_decide.2 (by omega))
theorem infoRingL : (Try.prog.info? 42).map (·.size) = some 2 := by kernel_rfl
end Go.Proofs.Ytmacednkpjfokaa

/- Copies of rings; 'PushSample' of both. -/
namespace Go.Fk
open Go Go.RowKit
section
variable {P : Program} {ops : Array Oper} {w : World} {K : FuncId → Array Value → Value → Prop} {Q : Act → Prop} {o : Oper} {rest : List Oper} {a : Act}
theorem wpLoose_nilP (hg : o.guard = none) {x : Operand} (hop : o.op = Op.nilCheck x) {ad : Addr} (hx : a.eval x = .pointer (some ad))
    (hK : wpLoose P ops (fun w' => ∃ m, w' = w.drewN m) K Q rest (a.put o.dst (.pointer (some ad)))) : wpLoose P ops (fun w' => ∃ m, w' = w.drewN m) K Q (o :: rest) a := by
  refine wpLoose_any hg (· = .pointer (some ad)) (fun n => ?_) (by rintro v rfl; exact hK)
  simp [execOp, hop, hx, within, Result.andThen]
  exact ⟨_, rfl⟩
theorem wpLoose_len (hg : o.guard = none) {x : Operand} {t : TypeId} (hop : o.op = Op.call { callee := Callee.builtin Builtin.len, args := #[x], argTypes := #[t] }) {e : TypeId} (hu : P.underlying t = some (.slice e)) {ao : Option Addr} {n c : Nat} (hx : a.eval x = .slice ao n c)
    (hK : wpLoose P ops (fun w' => ∃ m, w' = w.drewN m) K Q rest (a.put o.dst (.int .i64 n))) : wpLoose P ops (fun w' => ∃ m, w' = w.drewN m) K Q (o :: rest) a := by
  refine wpLoose_any hg (· = .int .i64 n) (fun m => ?_) (by rintro v rfl; exact hK)
  simp [execOp, hop, hx, within, Result.andThen, resolve, invoke, builtin, Builtin.len_, run_underlying hu]
  exact ⟨⟨_, rfl⟩, rfl⟩
end
/-- A ring's samples behind a push. -/
def pushX (x : Nat → Nat) (j a : Nat) : Nat → Nat := fun i => if i = j then can .f32 a else x i
def OutPu (lo hi : Nat) (s : Value) (x : Nat → Nat) (n j a g f : Nat) (t : TypeId) (cs : Array Value) (w : World) (e : Ending) (w' : World) : Prop :=
  ∃ o, e = .returned (.float .f32 o) ∧ can .f32 o = x j ∧ fits .f32 o ∧ Row w' g t (cs.setIfInBounds (f + 1) (.int .i64 (((j + 1) % n : Nat) : Int))) ∧ OwnS w' lo hi s (pushX x j a) n ∧ Chg (fun i => i = g ∨ lo ≤ i ∧ i < hi) w w'
theorem own_set {w : World} {lo hi b o cap n : Nat} {ds : Array Value} {x : Nat → Nat} (j a : Nat) (hr : Row w b 22 (ds.setIfInBounds (o + j) (.float .f32 a))) (hc : n ≤ cap) (hm : cap ≤ maxLen) (hb : lo ≤ b) (hb' : b < hi) (hj : o + j < ds.size) (ha : fits .f32 a)
    (hx : ∀ i, i < n → ∃ y, ds[o + i]? = some (.float .f32 y) ∧ fits .f32 y ∧ can .f32 y = x i) : OwnS w lo hi (.slice (some ⟨b, o, none⟩) n cap) (pushX x j a) n := by
  refine .inr ⟨b, o, cap, _, rfl, hc, hm, hb, hb', hr, fun i hi' => ?_⟩
  by_cases e : i = j
  · subst e
    exact ⟨a, by rw [Array.getElem?_setIfInBounds_self_of_lt hj], ha, by simp [pushX]⟩
  · obtain ⟨y, e1, e2, e3⟩ := hx i hi'
    exact ⟨y, by rw [Array.getElem?_setIfInBounds_ne (by omega)]; exact e1, e2, by simp [pushX, e, e3]⟩
end Go.Fk
namespace Go.Proofs.Ytmacednkpjfokaa
open Go.RowKit Go.Fk
theorem kindF : ∀ w : World, (isAgg 40).run Try.prog w = .ok false w := fun w => by kernel_rfl
theorem kindI : ∀ w : World, (isAgg 2).run Try.prog w = .ok false w := fun w => by kernel_rfl
set_option maxRecDepth 100000 in
set_option maxHeartbeats 2000000 in
theorem i_copiedT (B : Nat) (s : Value) (x : Nat → Nat) (n : Nat) (k : Int) (w : World) (hs : RdS w B s x n) (h1 : 1 ≤ n) (h2 : n ≤ 1024) :
    Calls Try.prog 95 #[.agg #[s, .int .i64 k]] w fun e w' => ∃ q cap cs, e = .returned (.agg #[.slice (some ⟨q, 0, none⟩) n cap, .int .i64 k]) ∧ w.heap.size ≤ q ∧ Row w' q 22 cs ∧ OwnS w' q (q + 1) (.slice (some ⟨q, 0, none⟩) n cap) x n ∧ le w w' := by
  obtain ⟨a, cap, y, rfl, hc, hm, hx⟩ := hs.raw h1
  have Hx := hid hx; clear hx hs
  unfold maxLen at hm
  obtain ⟨i, hi, hi1, hi2, hi3⟩ := info36
  have HI := hid hi; have HI1 := hid hi1; have HI2 := hid hi2; have HI3 := hid hi3; clear hi hi1 hi2 hi3
  have F := ((Frg.nil w).box 46 #[.slice (some a) n cap, .int .i64 k]).box 46 #[.slice none 0 0, .int .i64 0]
  simp only [World.size_alloc] at F
  go_enter Try.func95, Try.ntmps95
  go_wp2_with fail
  obtain ⟨W, hW⟩ : ∃ W, W = (w.alloc (.cells #[.slice (some a) n cap, .int .i64 k] 46)).alloc (.cells #[.slice none 0 0, .int .i64 0] 46) := ⟨_, rfl⟩
  rw [← hW] at F ⊢
  have hz : W.heap.size = w.heap.size + 1 + 1 := by rw [hW]; simp
  clear hW
  have HZ := hid hz; clear hz
  have G := F.drewN 1
  have hcl : ∀ j, j < n → (W.drewN 1).cell? (a.add j) = some (.float .f32 (y j)) ∧ a.block < w.heap.size := fun j hj => by
    have e1 := (Hx.out j hj).1
    have hlt : (a.add j).block < w.heap.size := World.block_lt_of_cell? w _ e1
    exact ⟨(Below.cell G.below hlt).trans e1, by rw [add_block] at hlt; exact hlt⟩
  have HC := hid hcl; clear hcl
  refine region_freeD (E := outX (w.heap.size + 1) 46 2 (FinR w.heap.size 22 n y k) (FinR_le _ _ _ _ _)) (fun _ _ _ _ => True) (by kernel_rfl) (by kernel_rfl) ?_
  refine wpFreeD_one rfl (.pointer (some ⟨w.heap.size, 0, none⟩)) (fun w _ => by kernel_rfl) ?_
  simp only [Act.put, List.setIfInBounds_toArray, List.set_cons_succ, List.set_cons_zero]
  refine wpFreeD_cell rfl rfl rfl ((G.row m1).cell? 0) (by simp) kindF ?_
  simp only [Act.put, List.setIfInBounds_toArray, List.set_cons_succ, List.set_cons_zero]
  refine wpFreeD_quiet rfl ?_
  go_big_quiet_step (fail)
  refine wpQuiet_nil ?_
  refine wpFreeD_one rfl (.pointer (some ⟨w.heap.size, 0, none⟩)) (fun w _ => by kernel_rfl) ?_
  simp only [Act.put, List.setIfInBounds_toArray, List.set_cons_succ, List.set_cons_zero]
  refine wpFreeD_cell rfl rfl rfl ((G.row m1).cell? 0) (by simp) kindF ?_
  simp only [Act.put, List.setIfInBounds_toArray, List.set_cons_succ, List.set_cons_zero]
  refine wpFreeD_append rfl rfl Try.underlying40 HI.out HI1.out HI2.out HI3.out rfl rfl h1 (by omega) (fun j hj => (HC.out j hj).1) (by have := (HC.out 0 (by omega)).2; omega) (fun q c' => ?_) (by have := G.row m0; exact this.lt)
  simp only [Act.put, List.setIfInBounds_toArray, List.set_cons_succ, List.set_cons_zero]
  refine wpFreeD_one rfl (.pointer (some ⟨w.heap.size, 1, none⟩)) (fun w _ => by kernel_rfl) ?_
  simp only [Act.put, List.setIfInBounds_toArray, List.set_cons_succ, List.set_cons_zero]
  refine wpFreeD_cell rfl rfl rfl ((G.row m1).cell? 1) (by simp) kindI ?_
  simp only [Act.put, List.setIfInBounds_toArray, List.set_cons_succ, List.set_cons_zero]
  refine wpFreeD_carry rfl (.agg #[.slice (some ⟨q, 0, none⟩) n c', .int .i64 k]) (fun w _ => by kernel_rfl) (fun w' => ∃ B, (W.drewN 1).heap.size ≤ B ∧ w'.ownsRow B 22 1 (.slice (some ⟨q, 0, none⟩) n c') n (flist y n) ∧ w.heap.size + 1 < B) (fun w1 w2 hw ⟨B', e1, e2, e3⟩ => ⟨B', e1, ownsRow_out hw e2 e3, e3⟩) (fun w1 hw hb => (hb ⟨5, Ground.data⟩ (by simp) (by kernel_rfl)).1.1.2 rfl) ?_
  simp only [Act.put, List.setIfInBounds_toArray, List.set_cons_succ, List.set_cons_zero]
  refine wpFreeD_out rfl rfl rfl (cells := #[.slice (some ⟨q, 0, none⟩) n c', .int .i64 k]) rfl rfl (G.row m0) rfl (fun w1 w2 hw hb hch => ?_) infoRing rfl (by simp [Value.oneCell']) ?_
  · obtain ⟨B', e1, e2, e3⟩ := (hb ⟨8, Ground.data⟩ (by simp) (by kernel_rfl)).2 rfl
    exact ⟨_, rfl, B', by have := G.size; omega, ownsRow_ch hch e2 e3⟩
  refine wpFreeD_nil (fun w3 hw3 hF => ?_)
  obtain ⟨cs, hr, s', rfl, B', hB', ho⟩ := (hF 9).2 rfl
  have hle : le w w3 := G.below.trans (hw3.1.below (B := w.heap.size) (fun k e => by omega) G.size)
  obtain ⟨q9, cap9, cs9, rfl, hq9, hr9, ho9⟩ := own_tight ho h1 (fun j hj => (Hx.out j hj).2)
  go_wp2
  exact bodyPost_ret (results_row1 rfl _ _ _ _ _ rfl hr Try.underlying46 rfl infoRing) rfl ⟨q9, cap9, cs9, rfl, Nat.le_trans hB' hq9, hr9, ho9, hle⟩
theorem i_copied (B : Nat) (s : Value) (x : Nat → Nat) (n : Nat) (k : Int) (w : World) (hs : RdS w B s x n) (h1 : 1 ≤ n) (h2 : n ≤ 1024) :
    Calls Try.prog 95 #[.agg #[s, .int .i64 k]] w fun e w' => ∃ s', e = .returned (.agg #[s', .int .i64 k]) ∧ OwnS w' w.heap.size w'.heap.size s' x n ∧ le w w' := by
  refine (i_copiedT B s x n k w hs h1 h2).mono ?_
  rintro e w' ⟨q, cap, cs, rfl, hq, hr, ho, hl⟩
  exact ⟨_, rfl, ho.mono hq hr.lt, hl⟩
set_option maxRecDepth 100000 in
set_option maxHeartbeats 2000000 in
theorem s_l02Copy (B : Nat) (s : Value) (x : Nat → Nat) (n : Nat) (k : Int) (g f : Nat) (w : World) (hs : RdS w B s x n) (c0 : w.cell? ⟨g, f, none⟩ = some s) (c1 : w.cell? ⟨g, f + 1, none⟩ = some (.int .i64 k)) (h1 : 1 ≤ n) (h2 : n ≤ 1024) :
    Calls Try.prog 92 #[.pointer (some ⟨g, f, none⟩)] w fun e w' => ∃ s', e = .returned (.agg #[s', .int .i64 k]) ∧ OwnS w' w.heap.size w'.heap.size s' x n ∧ le w w' := by
  obtain ⟨a, cap, y, rfl, hc, hm, hx⟩ := hs.raw h1
  have Hx := hid hx; clear hx hs
  have C0 := hid c0; have C1 := hid c1; clear c0 c1
  unfold maxLen at hm
  obtain ⟨i, hi, hi1, hi2, hi3⟩ := info36
  have HI := hid hi; have HI1 := hid hi1; have HI2 := hid hi2; have HI3 := hid hi3; clear hi hi1 hi2 hi3
  have F := (Frg.nil w).box 46 #[.slice none 0 0, .int .i64 0]
  have hgw : g < w.heap.size := World.block_lt_of_cell? w _ C0.out
  go_enter Try.func92, Try.ntmps92
  go_wp2_with fail
  obtain ⟨W, hW⟩ : ∃ W, W = w.alloc (.cells #[.slice none 0 0, .int .i64 0] 46) := ⟨_, rfl⟩
  rw [← hW] at F ⊢
  have hz : W.heap.size = w.heap.size + 1 := by rw [hW]; simp
  clear hW
  have HZ := hid hz; clear hz
  have G := F.drewN 1
  have D0 := hid ((Below.cell G.below (p := ⟨g, f, none⟩) hgw).trans C0.out)
  have D1 := hid ((Below.cell G.below (p := ⟨g, f + 1, none⟩) hgw).trans C1.out)
  have hcl : ∀ j, j < n → (W.drewN 1).cell? (a.add j) = some (.float .f32 (y j)) ∧ a.block < w.heap.size := fun j hj => by
    have e1 := (Hx.out j hj).1
    have hlt : (a.add j).block < w.heap.size := World.block_lt_of_cell? w _ e1
    exact ⟨(Below.cell G.below hlt).trans e1, by rw [add_block] at hlt; exact hlt⟩
  have HC := hid hcl; clear hcl
  refine region_freeD (E := outX w.heap.size 46 2 (FinR w.heap.size 22 n y k) (FinR_le _ _ _ _ _)) (fun _ _ _ _ => True) (by kernel_rfl) (by kernel_rfl) ?_
  refine wpFreeD_new rfl (fun b => .slice (some ⟨b, 0, none⟩) 0 0) (.cells #[] 22) (fun w => by simp [execOp, run_empty w _ _ i Try.underlying40 HI.out, Result.andThen]) (fun b0 => ?_)
  simp only [Act.put, List.setIfInBounds_toArray, List.set_cons_succ, List.set_cons_zero]
  refine wpFreeD_one rfl (.pointer (some ⟨g, f, none⟩)) (fun w _ => by kernel_rfl) ?_
  simp only [Act.put, List.setIfInBounds_toArray, List.set_cons_succ, List.set_cons_zero]
  refine wpFreeD_one rfl (.pointer (some ⟨g, f, none⟩)) (fun w _ => by kernel_rfl) ?_
  simp only [Act.put, List.setIfInBounds_toArray, List.set_cons_succ, List.set_cons_zero]
  refine wpFreeD_one rfl (.pointer (some ⟨g, f, none⟩)) (fun w _ => by kernel_rfl) ?_
  simp only [Act.put, List.setIfInBounds_toArray, List.set_cons_succ, List.set_cons_zero]
  refine wpFreeD_cell rfl rfl rfl D0.out (by show g ≠ _; omega) kindF ?_
  simp only [Act.put, List.setIfInBounds_toArray, List.set_cons_succ, List.set_cons_zero]
  refine wpFreeD_append rfl rfl Try.underlying40 HI.out HI1.out HI2.out HI3.out rfl rfl h1 (by omega) (fun j hj => (HC.out j hj).1) (by have := (HC.out 0 (by omega)).2; omega) (fun q c' => ?_) (by have := G.row m0; exact this.lt)
  simp only [Act.put, List.setIfInBounds_toArray, List.set_cons_succ, List.set_cons_zero]
  refine wpFreeD_one rfl (.pointer (some ⟨g, f, none⟩)) (fun w _ => by kernel_rfl) ?_
  simp only [Act.put, List.setIfInBounds_toArray, List.set_cons_succ, List.set_cons_zero]
  refine wpFreeD_one rfl (.pointer (some ⟨g, f, none⟩)) (fun w _ => by kernel_rfl) ?_
  simp only [Act.put, List.setIfInBounds_toArray, List.set_cons_succ, List.set_cons_zero]
  refine wpFreeD_one rfl (.pointer (some ⟨g, f + 1, none⟩)) (fun w _ => by kernel_rfl) ?_
  simp only [Act.put, List.setIfInBounds_toArray, List.set_cons_succ, List.set_cons_zero]
  refine wpFreeD_cell rfl rfl rfl D1.out (by show g ≠ _; omega) kindI ?_
  simp only [Act.put, List.setIfInBounds_toArray, List.set_cons_succ, List.set_cons_zero]
  refine wpFreeD_carry rfl (.agg #[.slice (some ⟨q, 0, none⟩) n c', .int .i64 k]) (fun w _ => by kernel_rfl) (fun w' => ∃ B, (W.drewN 1).heap.size ≤ B ∧ w'.ownsRow B 22 1 (.slice (some ⟨q, 0, none⟩) n c') n (flist y n) ∧ w.heap.size < B) (fun w1 w2 hw ⟨B', e1, e2, e3⟩ => ⟨B', e1, ownsRow_out hw e2 e3, e3⟩) (fun w1 hw hb => (hb ⟨5, Ground.data⟩ (by simp) (by kernel_rfl)).1.1.1.1.2 rfl) ?_
  simp only [Act.put, List.setIfInBounds_toArray, List.set_cons_succ, List.set_cons_zero]
  refine wpFreeD_out rfl rfl rfl (cells := #[.slice (some ⟨q, 0, none⟩) n c', .int .i64 k]) rfl rfl (G.row m0) rfl (fun w1 w2 hw hb hch => ?_) infoRing rfl (by simp [Value.oneCell']) ?_
  · obtain ⟨B', e1, e2, e3⟩ := (hb ⟨10, Ground.data⟩ (by simp) (by kernel_rfl)).2 rfl
    exact ⟨_, rfl, B', by have := G.size; omega, ownsRow_ch hch e2 e3⟩
  refine wpFreeD_nil (fun w3 hw3 hF => ?_)
  obtain ⟨cs, hr, s', rfl, B', hB', ho⟩ := (hF 11).2 rfl
  have hle : le w w3 := G.below.trans (hw3.1.below (B := w.heap.size) (fun k e => by omega) G.size)
  have hown := (own_of_row ho (fun j hj => (Hx.out j hj).2)).mono hB' (Nat.le_refl _)
  go_wp2
  exact bodyPost_ret (results_row1 rfl _ _ _ _ _ rfl hr Try.underlying46 rfl infoRing) rfl ⟨_, rfl, hown, hle⟩
theorem i_oldest (B : Nat) (s : Value) (x : Nat → Nat) (n j : Nat) (w : World) (hs : RdS w B s x n) (hj : j < n) (hn : n ≤ 1024) :
    Calls Try.prog 99 #[.agg #[s, .int .i64 j]] w fun e w' => ∃ y, e = .returned (.float .f32 y) ∧ can .f32 y = x j ∧ fits .f32 y ∧ le w w' := by
  obtain ⟨a, cap, y, rfl, hc, hm, hx⟩ := hs.raw (by omega)
  have Hx := hid (hx j hj); clear hx hs
  unfold maxLen at hm
  have HL := hid (le_alloc w (.cells #[.slice (some a) n cap, .int .i64 j] 46))
  have cj := (Below.cell HL.out (World.block_lt_of_cell? w _ Hx.out.1)).trans Hx.out.1
  go_enter Try.func99, Try.ntmps99
  go_wp2
  go_ret
  exact ⟨_, rfl, Hx.out.2.2, Hx.out.2.1, HL.out⟩
set_option maxRecDepth 100000 in
set_option maxHeartbeats 2000000 in
theorem s_l02Push (lo hi : Nat) (s : Value) (x : Nat → Nat) (n j a g f : Nat) (t : TypeId) (cs : Array Value) (w : World) (hs : OwnS w lo hi s x n) (hr : Row w g t cs) (e0 : cs[f]? = some s) (e1 : cs[f + 1]? = some (.int .i64 j)) (hg : ¬ (lo ≤ g ∧ g < hi)) (hj : j < n) (hn : n ≤ 1024) (ha : fits .f32 a) :
    Calls Try.prog 97 #[.pointer (some ⟨g, f, none⟩), .float .f32 a] w (OutPu lo hi s x n j a g f t cs w) := by
  rcases hs with ⟨_, rfl⟩ | ⟨b, o, cap, ds, rfl, hc, hm, hb, hb', hrow, hx⟩
  · omega
  obtain ⟨y, ey, fy, cy⟩ := hx j hj
  have c0 : w.cell? ⟨g, f, none⟩ = some (.slice (some ⟨b, o, none⟩) n cap) := (hr.cell? f).trans e0
  have c1 : w.cell? ⟨g, f + 1, none⟩ = some (.int .i64 j) := (hr.cell? (f + 1)).trans e1
  have cb : w.cell? ⟨b, o + j, none⟩ = some (.float .f32 y) := (hrow.cell? (o + j)).trans ey
  have fb := hrow.frozen (o + j)
  have fg := hr.frozen (f + 1)
  have hne : b ≠ g := fun e => hg (e ▸ ⟨hb, hb'⟩)
  have HR := hid hr; have HROW := hid hrow; have HX := hid hx; have HY := hid ey; have HC := hid cy; have E0 := hid e0; have E1 := hid e1; have HM := hid hm
  clear hr hrow hx ey cy e0 e1
  unfold maxLen at hm
  go_enter Try.func97, Try.ntmps97
  go_wp2_with fail
  refine wp_region_loose (fun _ _ _ => True) (by kernel_rfl) (by kernel_rfl) ?_
  repeat (first | (refine wpLoose_quiet rfl ?_; go_big_quiet_step (fail); refine wpQuiet_nil ?_) | (refine wpLoose_nilP rfl rfl rfl ?_; simp only [Act.put, List.setIfInBounds_toArray, List.set_cons_succ, List.set_cons_zero]))
  refine wpLoose_nil (fun m1 => ?_)
  go_wp2_with fail
  refine wp_region_tail (fun _ _ _ => True) 10 (by kernel_rfl) (by kernel_rfl) ?_; simp only [List.take_succ_cons, List.take_zero, List.drop_succ_cons, List.drop_zero]
  repeat (first | (refine wpLoose_quiet rfl ?_; go_big_quiet_step (fail); refine wpQuiet_nil ?_) | (refine wpLoose_nilP rfl rfl rfl ?_; simp only [Act.put, List.setIfInBounds_toArray, List.set_cons_succ, List.set_cons_zero]))
  refine wpLoose_nil (fun m2 => ?_)
  go_wp2_with fail
  have hne' : g ≠ b := fun e => hne e.symm
  refine wp_region_tail (fun _ _ _ => True) 14 (by kernel_rfl) (by kernel_rfl) ?_; simp only [List.take_succ_cons, List.take_zero, List.drop_succ_cons, List.drop_zero]
  repeat (first | (refine wpLoose_quiet rfl ?_; go_big_quiet_step (fail); refine wpQuiet_nil ?_) | (refine wpLoose_nilP rfl rfl rfl ?_; simp only [Act.put, List.setIfInBounds_toArray, List.set_cons_succ, List.set_cons_zero]) | (refine wpLoose_len rfl rfl Try.underlying40 rfl ?_; simp only [Act.put, List.setIfInBounds_toArray, List.set_cons_succ, List.set_cons_zero]))
  refine wpLoose_nil (fun m3 => ?_)
  go_wp2
  go_ret
  refine ⟨y, rfl, HC.out, fy, ?_, own_set j a ((((HROW.out.drewN _).set (o + j) (.float .f32 a)).drewN m3).other ⟨g, f + 1, none⟩ _ hne) hc HM.out hb hb' (Array.getElem?_eq_some_iff.1 HY.out).1 ha HX.out, ?_⟩
  · rw [show (((j + 1) % n : Nat) : Int) = ((j : Int) + 1) % (n : Int) from by simp]
    exact (((HR.out.drewN _).other ⟨b, o + j, none⟩ _ hne').drewN m3).set (f + 1) _
  · exact Chg.setCell (Chg.le (Chg.setCell (Chg.of_le (le_drewN w _)) (.inr ⟨hb, hb'⟩) _) (le_drewN _ m3)) (.inl rfl) _
set_option maxRecDepth 100000 in
set_option maxHeartbeats 2000000 in
theorem i_push (lo hi : Nat) (s : Value) (x : Nat → Nat) (n j a g f : Nat) (t : TypeId) (cs : Array Value) (w : World) (hs : OwnS w lo hi s x n) (hr : Row w g t cs) (e0 : cs[f]? = some s) (e1 : cs[f + 1]? = some (.int .i64 j)) (hg : ¬ (lo ≤ g ∧ g < hi)) (hj : j < n) (hn : n ≤ 1024) (ha : fits .f32 a) :
    Calls Try.prog 109 #[.pointer (some ⟨g, f, none⟩), .float .f32 a] w (OutPu lo hi s x n j a g f t cs w) := by
  have HO := hid (fun (w' : World) (hl : le w w') => i_oldest hi s x n j w' (hs.rd.le hl) hj hn)
  rcases hs with ⟨_, rfl⟩ | ⟨b, o, cap, ds, rfl, hc, hm, hb, hb', hrow, hx⟩
  · omega
  have hne : b ≠ g := fun e => hg (e ▸ ⟨hb, hb'⟩)
  have hne' : g ≠ b := fun e => hne e.symm
  have HR := hid hr; have HROW := hid hrow; have HX := hid hx; have E0 := hid e0; have E1 := hid e1; have HM := hid hm
  clear hr hrow hx e0 e1
  unfold maxLen at hm
  have k0 : w.cell? ⟨g, f, none⟩ = some (.slice (some ⟨b, o, none⟩) n cap) := (HR.out.cell? f).trans E0.out
  have k1 : w.cell? ⟨g, f + 1, none⟩ = some (.int .i64 j) := (HR.out.cell? (f + 1)).trans E1.out
  go_enter Try.func109, Try.ntmps109
  go_wp2_with fail
  refine (HO.out _ (le_refl _)).mono ?_
  rintro e w2 ⟨y, rfl, cy, fy, hl⟩
  obtain ⟨y0, ey, _, _⟩ := HX.out j hj
  have HY := hid (Array.getElem?_eq_some_iff.1 ey).1
  have hr2 := HR.out.le hl
  have hrow2 := HROW.out.le hl
  have c0 : w2.cell? ⟨g, f, none⟩ = some (.slice (some ⟨b, o, none⟩) n cap) := (hr2.cell? f).trans E0.out
  have c1 : w2.cell? ⟨g, f + 1, none⟩ = some (.int .i64 j) := (hr2.cell? (f + 1)).trans E1.out
  have cb : w2.cell? ⟨b, o + j, none⟩ = some (.float .f32 y0) := (hrow2.cell? (o + j)).trans ey
  have fb := hrow2.frozen (o + j)
  have fg := hr2.frozen (f + 1)
  have HR2 := hid hr2; have HROW2 := hid hrow2; have HL := hid hl; have HC := hid cy
  clear hr2 hrow2 hl ey cy
  go_wp2_with fail
  refine wp_region_tail (fun _ _ _ => True) 10 (by kernel_rfl) (by kernel_rfl) ?_; simp only [List.take_succ_cons, List.take_zero, List.drop_succ_cons, List.drop_zero]
  repeat (first | (refine wpLoose_quiet rfl ?_; go_big_quiet_step (fail); refine wpQuiet_nil ?_) | (refine wpLoose_nilP rfl rfl rfl ?_; simp only [Act.put, List.setIfInBounds_toArray, List.set_cons_succ, List.set_cons_zero]))
  refine wpLoose_nil (fun m2 => ?_)
  go_wp2_with fail
  refine wp_region_tail (fun _ _ _ => True) 14 (by kernel_rfl) (by kernel_rfl) ?_; simp only [List.take_succ_cons, List.take_zero, List.drop_succ_cons, List.drop_zero]
  repeat (first | (refine wpLoose_quiet rfl ?_; go_big_quiet_step (fail); refine wpQuiet_nil ?_) | (refine wpLoose_nilP rfl rfl rfl ?_; simp only [Act.put, List.setIfInBounds_toArray, List.set_cons_succ, List.set_cons_zero]) | (refine wpLoose_len rfl rfl Try.underlying40 rfl ?_; simp only [Act.put, List.setIfInBounds_toArray, List.set_cons_succ, List.set_cons_zero]))
  refine wpLoose_nil (fun m3 => ?_)
  go_wp2
  go_ret
  refine ⟨y, rfl, HC.out, fy, ?_, own_set j a ((((HROW2.out.drewN _).set (o + j) (.float .f32 a)).drewN m3).other ⟨g, f + 1, none⟩ _ hne) hc HM.out hb hb' HY.out ha HX.out, ?_⟩
  · rw [show (((j + 1) % n : Nat) : Int) = ((j : Int) + 1) % (n : Int) from by simp]
    exact (((HR2.out.drewN _).other ⟨b, o + j, none⟩ _ hne').drewN m3).set (f + 1) _
  · exact Chg.setCell (Chg.le (Chg.setCell (Chg.of_le (le_trans HL.out (le_drewN w2 _))) (.inr ⟨hb, hb'⟩) _) (le_drewN _ m3)) (.inl rfl) _
theorem okRing_nat {n : Nat} {k : Int} (h : okRing n k = true) : 1 ≤ n ∧ n ≤ 1024 ∧ ∃ j : Nat, k = j ∧ j < n := by
  have := okRing_iff.1 h
  exact ⟨this.1, this.2.1, k.toNat, by omega, by omega⟩
end Go.Proofs.Ytmacednkpjfokaa

/- Strings, plainly: what they are, and their steps. Nothing here names a program. -/
namespace Go.Fk
open Go Go.RowKit
/-- A string: its samples, how many, the place of the oldest one, and the numbers of its filters. -/
structure StS where
  x : Nat → Nat
  n : Nat
  j : Nat
  ta : Nat
  tb : Nat
  tc : Nat
  tx : Nat
  ty : Nat
  da : Nat
  db : Nat
  dc : Nat
  dx : Nat
  dy : Nat
  l : Nat
/-- It is valid. -/
structure StS.Ok (q : StS) : Prop where
  n1 : 1 ≤ q.n
  n2 : q.n ≤ 1024
  j1 : q.j < q.n
  t : okF 3 q.ta q.tb q.tc q.tx q.ty = true
  d : okF 2 q.da q.db q.dc q.dx q.dy = true
  lf : fin q.l = true
  fta : fits .f32 q.ta
  ftb : fits .f32 q.tb
  ftc : fits .f32 q.tc
  ftx : fits .f32 q.tx
  fty : fits .f32 q.ty
  fda : fits .f32 q.da
  fdb : fits .f32 q.db
  fdc : fits .f32 q.dc
  fdx : fits .f32 q.dx
  fdy : fits .f32 q.dy
  fl : fits .f32 q.l
theorem outF_can (k : Int) (a b c x y s : Nat) : outF k a b c x y (can .f32 s) = outF k a b c x y s := by
  unfold outF
  split
  · rw [fop_can_r]
  · split
    · rw [fop_can_l]
    · split
      · rw [fop_can_r]
      · rw [fop_can_l]
theorem kept_of_can (a : Nat) : kept (can .f32 a) = kept a := kept_can (can_can _ _)
theorem st0_can (k : Int) (a b c x y s : Nat) : st0 k a b c x y (can .f32 s) = st0 k a b c x y s := by unfold st0; rw [outF_can, kept_of_can]
theorem st1_can (k : Int) (a b c x y s : Nat) : st1 k a b c x y (can .f32 s) = st1 k a b c x y s := by unfold st1; rw [outF_can]
theorem outF_congr {k : Int} {a b c x y s s' : Nat} (h : can .f32 s = can .f32 s') : outF k a b c x y s = outF k a b c x y s' := by rw [← outF_can, h, outF_can]
theorem st0_congr {k : Int} {a b c x y s s' : Nat} (h : can .f32 s = can .f32 s') : st0 k a b c x y s = st0 k a b c x y s' := by rw [← st0_can, h, st0_can]
theorem st1_congr {k : Int} {a b c x y s s' : Nat} (h : can .f32 s = can .f32 s') : st1 k a b c x y s = st1 k a b c x y s' := by rw [← st1_can, h, st1_can]
/-- What the filters of a string make of its oldest sample. -/
def y1S (q : StS) : Nat := outF 3 q.ta q.tb q.tc q.tx q.ty (q.x q.j)
def y2S (q : StS) : Nat := outF 2 q.da q.db q.dc q.dx q.dy (y1S q)
/-- The sample that comes in. -/
def nextS (q : StS) (a : Nat) : Nat := kept (fop .add .f32 (fop .mul .f32 (y2S q) q.l) a)
/-- The string behind a step. -/
def stepS (q : StS) (a : Nat) : StS :=
  { q with x := pushX q.x q.j (nextS q a), j := (q.j + 1) % q.n, tx := st0 3 q.ta q.tb q.tc q.tx q.ty (q.x q.j), ty := st1 3 q.ta q.tb q.tc q.tx q.ty (q.x q.j), dx := st0 2 q.da q.db q.dc q.dx q.dy (y1S q), dy := st1 2 q.da q.db q.dc q.dx q.dy (y1S q) }
theorem kept_fop_can (op : BinOp) (x y : Nat) : kept (fop op .f32 x (can .f32 y)) = kept (fop op .f32 x y) := by rw [fop_can_r]
theorem nextS_can (q : StS) (a : Nat) : nextS q (can .f32 a) = nextS q a := by unfold nextS; rw [fop_can_r]
theorem fits_can {a : Nat} (h : fits .f32 a) : fits .f32 (can .f32 a) := by
  unfold can; split
  · simp [fits, Lit.wf, qnan]
  · exact h
theorem fits_nextS (q : StS) (a : Nat) : fits .f32 (nextS q a) := fits_kept (fits_fop _ _ _ _)
theorem StS.Ok.step {q : StS} (h : q.Ok) (a : Nat) (hf : fits .f32 (q.x q.j)) : (stepS q a).Ok where
  n1 := h.n1
  n2 := h.n2
  j1 := Nat.mod_lt _ h.n1
  t := okF_step h.t
  d := okF_step h.d
  lf := h.lf
  fta := h.fta
  ftb := h.ftb
  ftc := h.ftc
  ftx := show fits .f32 (st0 3 q.ta q.tb q.tc q.tx q.ty (q.x q.j)) from fits_st0 hf (fits_outF _ _ _ _ _ _ _)
  fty := show fits .f32 (st1 3 q.ta q.tb q.tc q.tx q.ty (q.x q.j)) from fits_st1 h.ftx
  fda := h.fda
  fdb := h.fdb
  fdc := h.fdc
  fdx := show fits .f32 (st0 2 q.da q.db q.dc q.dx q.dy (y1S q)) from fits_st0 (fits_outF _ _ _ _ _ _ _) (fits_outF _ _ _ _ _ _ _)
  fdy := show fits .f32 (st1 2 q.da q.db q.dc q.dx q.dy (y1S q)) from fits_st1 h.fdx
  fl := h.fl
/-- Is a sample heard? -/
def loudB (a : Nat) : Nat := if zeroF a = true then 0 else 1
theorem zeroF_can (a : Nat) : zeroF (can .f32 a) = zeroF a := by unfold zeroF; rw [order_can_l]
theorem loudB_can (a : Nat) : loudB (can .f32 a) = loudB a := by unfold loudB; rw [zeroF_can]
/-- How many of the first samples are heard. -/
def loudN (x : Nat → Nat) : Nat → Nat
  | 0 => 0
  | n + 1 => loudN x n + loudB (x n)
theorem loudN_congr {x y : Nat → Nat} {n : Nat} (h : ∀ i, i < n → x i = y i) : loudN x n = loudN y n := by
  induction n with
  | zero => rfl
  | succ n ih => simp only [loudN]; rw [ih (fun i hi => h i (by omega)), h n (by omega)]
theorem loudN_push {x : Nat → Nat} {n j a : Nat} (hj : j < n) : loudN (pushX x j a) n + loudB (x j) = loudN x n + loudB a := by
  induction n with
  | zero => omega
  | succ n ih =>
    simp only [loudN]
    by_cases e : j = n
    · subst e
      rw [loudN_congr (y := x) (fun i hi => by simp [pushX, show i ≠ j by omega])]
      simp [pushX, loudB_can]; omega
    · have := ih (by omega)
      have e2 : pushX x j a n = x n := by simp [pushX, show n ≠ j by omega]
      rw [e2]; omega
theorem loudN_le (x : Nat → Nat) (n : Nat) : loudN x n ≤ n := by
  induction n with
  | zero => exact Nat.le_refl _
  | succ n ih => simp only [loudN]; have : loudB (x n) ≤ 1 := by unfold loudB; split <;> omega
                 omega
theorem loudN_zero {x : Nat → Nat} {n : Nat} : loudN x n = 0 ↔ ∀ i, i < n → zeroF (x i) = true := by
  induction n with
  | zero => simp [loudN]
  | succ n ih =>
    simp only [loudN]
    constructor
    · intro h i hi
      rcases Nat.lt_or_ge i n with h1 | h1
      · exact ih.1 (by omega) i h1
      · obtain rfl : i = n := by omega
        have : loudB (x i) = 0 := by omega
        unfold loudB at this
        split at this
        · assumption
        · omega
    · intro h
      have h1 := ih.2 (fun i hi => h i (by omega))
      have h2 : loudB (x n) = 0 := by unfold loudB; rw [if_pos (h n (by omega))]
      omega
/-- Is a string silent? -/
def silS (q : StS) : Bool := decide (loudN q.x q.n = 0) && (stillB q.tx q.ty && stillB q.dx q.dy)
end Go.Fk

/- What grows by append, beside facts of memory. Nothing here names a program. -/
namespace Go.Fk
open Go Go.RowKit
theorem ownsRow_chS {S : Nat → Prop} {w w' : World} {e : TypeId} {n B : Nat} {xs : List Value} {v : Value} (hw : Chg S w w') (h : w.ownsRow B e 1 v n xs) (hS : ∀ i, S i → i < B) : w'.ownsRow B e 1 v n xs := by
  obtain ⟨h1, h2⟩ := h
  refine ⟨h1, ?_⟩
  rcases h2 with h2 | ⟨q, cap, cur, e1, e2, e3, e4⟩
  · exact .inl h2
  · exact .inr ⟨q, cap, cur, e1, e2, by have := hw.row (g := q) (t := e) (cs := cur) e3 (fun hq => by have := hS q hq; omega); exact this, e4⟩
theorem ownBlock_ge {w : World} {B : Nat} {e : TypeId} {z : Nat} {v : Value} {n : Nat} {xs : List Value} (h : w.ownsRow B e z v n xs) : ∀ k, v.ownBlock = some k → B ≤ k := by
  rcases h.2 with ⟨rfl, _⟩ | ⟨q, cap, cur, rfl, hb, _⟩
  · intro k hk; cases hk
  · intro k hk; simp only [Value.ownBlock, Option.some.injEq] at hk; omega
theorem chg_grown {w w' : World} {row : Option Nat} {B : Nat} (h : w.grownBy w' row) (hr : ∀ k, row = some k → B ≤ k) : Chg (B ≤ ·) w w' :=
  ⟨h.os, h.tape, h.output, h.size, fun k hk hn => h.block k hk (fun e => hn (hr k e.symm))⟩
theorem Frg.up {w0 w w' : World} {L : List Fact} {B : Nat} (h : Frg w0 w L) (k : Chg (B ≤ ·) w w') (hB : ∀ e ∈ L, e.hi ≤ B) (h0 : w0.heap.size ≤ B) : Frg w0 w' L :=
  ⟨h.below.trans (k.below (fun i hi => Nat.le_trans h0 hi) h.size), fun e he => by
    obtain ⟨h1, h2, h3⟩ := h.facts e he
    exact ⟨h1, Nat.le_trans h2 k.size, e.ok w w' h3 (fun i _ hi => k.block i (by omega) (fun hb => by have := hB e he; omega))⟩, h.apart⟩
theorem flist_snoc (y : Nat → Nat) (n a : Nat) : flist y n ++ [.float .f32 a] = flist (fun j => if j = n then a else y j) (n + 1) := by
  have h := flist_app y (fun _ => a) n 1
  have h1 : flist (fun _ => a) 1 = [.float .f32 a] := by simp [flist]
  rw [h1] at h
  rw [h]
  apply List.ext_getElem?
  intro i
  by_cases hi : i < n + 1
  · rw [flist_get' _ hi, flist_get' _ hi]
    by_cases e : i = n
    · simp [e]
    · simp [e, show i < n by omega]
  · rw [List.getElem?_eq_none (by rw [flist_length]; omega), List.getElem?_eq_none (by rw [flist_length]; omega)]
theorem Frg.own2 {w0 w w' : World} {L : List Fact} {q n n' : Nat} {s s' : Value} {x x' : Nat → Nat} (h : Frg w0 w L) (k : Below w.heap.size w w') (h1 : w.heap.size ≤ q) (h2 : q ≤ w'.heap.size) (o1 : OwnS w' w.heap.size q s x n) (o2 : OwnS w' q w'.heap.size s' x' n') :
    Frg w0 w' (ownF q w'.heap.size s' x' n' :: ownF w.heap.size q s x n :: L) := by
  refine ⟨(h.le k).below, fun e he => ?_, .cons (fun e he => ?_) (.cons (fun e he => (h.facts e he).2.1) h.apart)⟩
  · rcases List.mem_cons.1 he with rfl | he
    · exact ⟨Nat.le_trans h.size h1, Nat.le_refl _, o2⟩
    · rcases List.mem_cons.1 he with rfl | he
      · exact ⟨h.size, h2, o1⟩
      · exact (h.le k).facts e he
  · rcases List.mem_cons.1 he with rfl | he
    · exact Nat.le_refl q
    · exact Nat.le_trans (h.facts e he).2.1 h1
theorem m12 {b0 b1 b2 b3 b4 b5 b6 b7 b8 b9 b10 b11 a : Fact} {l : List Fact} : a ∈ b0 :: b1 :: b2 :: b3 :: b4 :: b5 :: b6 :: b7 :: b8 :: b9 :: b10 :: b11 :: a :: l := List.mem_cons_of_mem _ (List.mem_cons_of_mem _ (List.mem_cons_of_mem _ (List.mem_cons_of_mem _ (List.mem_cons_of_mem _ (List.mem_cons_of_mem _ (List.mem_cons_of_mem _ (List.mem_cons_of_mem _ (List.mem_cons_of_mem _ (List.mem_cons_of_mem _ (List.mem_cons_of_mem _ (List.mem_cons_of_mem _ (List.mem_cons_self))))))))))))
theorem m13 {b0 b1 b2 b3 b4 b5 b6 b7 b8 b9 b10 b11 b12 a : Fact} {l : List Fact} : a ∈ b0 :: b1 :: b2 :: b3 :: b4 :: b5 :: b6 :: b7 :: b8 :: b9 :: b10 :: b11 :: b12 :: a :: l := List.mem_cons_of_mem _ (List.mem_cons_of_mem _ (List.mem_cons_of_mem _ (List.mem_cons_of_mem _ (List.mem_cons_of_mem _ (List.mem_cons_of_mem _ (List.mem_cons_of_mem _ (List.mem_cons_of_mem _ (List.mem_cons_of_mem _ (List.mem_cons_of_mem _ (List.mem_cons_of_mem _ (List.mem_cons_of_mem _ (List.mem_cons_of_mem _ (List.mem_cons_self)))))))))))))
theorem m14 {b0 b1 b2 b3 b4 b5 b6 b7 b8 b9 b10 b11 b12 b13 a : Fact} {l : List Fact} : a ∈ b0 :: b1 :: b2 :: b3 :: b4 :: b5 :: b6 :: b7 :: b8 :: b9 :: b10 :: b11 :: b12 :: b13 :: a :: l := List.mem_cons_of_mem _ (List.mem_cons_of_mem _ (List.mem_cons_of_mem _ (List.mem_cons_of_mem _ (List.mem_cons_of_mem _ (List.mem_cons_of_mem _ (List.mem_cons_of_mem _ (List.mem_cons_of_mem _ (List.mem_cons_of_mem _ (List.mem_cons_of_mem _ (List.mem_cons_of_mem _ (List.mem_cons_of_mem _ (List.mem_cons_of_mem _ (List.mem_cons_of_mem _ (List.mem_cons_self))))))))))))))
theorem m15 {b0 b1 b2 b3 b4 b5 b6 b7 b8 b9 b10 b11 b12 b13 b14 a : Fact} {l : List Fact} : a ∈ b0 :: b1 :: b2 :: b3 :: b4 :: b5 :: b6 :: b7 :: b8 :: b9 :: b10 :: b11 :: b12 :: b13 :: b14 :: a :: l := List.mem_cons_of_mem _ (List.mem_cons_of_mem _ (List.mem_cons_of_mem _ (List.mem_cons_of_mem _ (List.mem_cons_of_mem _ (List.mem_cons_of_mem _ (List.mem_cons_of_mem _ (List.mem_cons_of_mem _ (List.mem_cons_of_mem _ (List.mem_cons_of_mem _ (List.mem_cons_of_mem _ (List.mem_cons_of_mem _ (List.mem_cons_of_mem _ (List.mem_cons_of_mem _ (List.mem_cons_of_mem _ (List.mem_cons_self)))))))))))))))
theorem m16 {b0 b1 b2 b3 b4 b5 b6 b7 b8 b9 b10 b11 b12 b13 b14 b15 a : Fact} {l : List Fact} : a ∈ b0 :: b1 :: b2 :: b3 :: b4 :: b5 :: b6 :: b7 :: b8 :: b9 :: b10 :: b11 :: b12 :: b13 :: b14 :: b15 :: a :: l := List.mem_cons_of_mem _ (List.mem_cons_of_mem _ (List.mem_cons_of_mem _ (List.mem_cons_of_mem _ (List.mem_cons_of_mem _ (List.mem_cons_of_mem _ (List.mem_cons_of_mem _ (List.mem_cons_of_mem _ (List.mem_cons_of_mem _ (List.mem_cons_of_mem _ (List.mem_cons_of_mem _ (List.mem_cons_of_mem _ (List.mem_cons_of_mem _ (List.mem_cons_of_mem _ (List.mem_cons_of_mem _ (List.mem_cons_of_mem _ (List.mem_cons_self))))))))))))))))
theorem m17 {b0 b1 b2 b3 b4 b5 b6 b7 b8 b9 b10 b11 b12 b13 b14 b15 b16 a : Fact} {l : List Fact} : a ∈ b0 :: b1 :: b2 :: b3 :: b4 :: b5 :: b6 :: b7 :: b8 :: b9 :: b10 :: b11 :: b12 :: b13 :: b14 :: b15 :: b16 :: a :: l := List.mem_cons_of_mem _ (List.mem_cons_of_mem _ (List.mem_cons_of_mem _ (List.mem_cons_of_mem _ (List.mem_cons_of_mem _ (List.mem_cons_of_mem _ (List.mem_cons_of_mem _ (List.mem_cons_of_mem _ (List.mem_cons_of_mem _ (List.mem_cons_of_mem _ (List.mem_cons_of_mem _ (List.mem_cons_of_mem _ (List.mem_cons_of_mem _ (List.mem_cons_of_mem _ (List.mem_cons_of_mem _ (List.mem_cons_of_mem _ (List.mem_cons_of_mem _ (List.mem_cons_self)))))))))))))))))
theorem m18 {b0 b1 b2 b3 b4 b5 b6 b7 b8 b9 b10 b11 b12 b13 b14 b15 b16 b17 a : Fact} {l : List Fact} : a ∈ b0 :: b1 :: b2 :: b3 :: b4 :: b5 :: b6 :: b7 :: b8 :: b9 :: b10 :: b11 :: b12 :: b13 :: b14 :: b15 :: b16 :: b17 :: a :: l := List.mem_cons_of_mem _ (List.mem_cons_of_mem _ (List.mem_cons_of_mem _ (List.mem_cons_of_mem _ (List.mem_cons_of_mem _ (List.mem_cons_of_mem _ (List.mem_cons_of_mem _ (List.mem_cons_of_mem _ (List.mem_cons_of_mem _ (List.mem_cons_of_mem _ (List.mem_cons_of_mem _ (List.mem_cons_of_mem _ (List.mem_cons_of_mem _ (List.mem_cons_of_mem _ (List.mem_cons_of_mem _ (List.mem_cons_of_mem _ (List.mem_cons_of_mem _ (List.mem_cons_of_mem _ (List.mem_cons_self))))))))))))))))))
theorem m19 {b0 b1 b2 b3 b4 b5 b6 b7 b8 b9 b10 b11 b12 b13 b14 b15 b16 b17 b18 a : Fact} {l : List Fact} : a ∈ b0 :: b1 :: b2 :: b3 :: b4 :: b5 :: b6 :: b7 :: b8 :: b9 :: b10 :: b11 :: b12 :: b13 :: b14 :: b15 :: b16 :: b17 :: b18 :: a :: l := List.mem_cons_of_mem _ (List.mem_cons_of_mem _ (List.mem_cons_of_mem _ (List.mem_cons_of_mem _ (List.mem_cons_of_mem _ (List.mem_cons_of_mem _ (List.mem_cons_of_mem _ (List.mem_cons_of_mem _ (List.mem_cons_of_mem _ (List.mem_cons_of_mem _ (List.mem_cons_of_mem _ (List.mem_cons_of_mem _ (List.mem_cons_of_mem _ (List.mem_cons_of_mem _ (List.mem_cons_of_mem _ (List.mem_cons_of_mem _ (List.mem_cons_of_mem _ (List.mem_cons_of_mem _ (List.mem_cons_of_mem _ (List.mem_cons_self)))))))))))))))))))
theorem Frg.mark10 {w0 w w' : World} {lo hi n : Nat} {s : Value} {x x' : Nat → Nat} {l : List Fact} {b0 b1 b2 b3 b4 b5 b6 b7 b8 b9 : Fact} (h : Frg w0 w (b0 :: b1 :: b2 :: b3 :: b4 :: b5 :: b6 :: b7 :: b8 :: b9 :: ownF lo hi s x n :: l)) (hp : OwnS w' lo hi s x' n) (k : Chg (rng lo hi) w w') : Frg w0 w' (b0 :: b1 :: b2 :: b3 :: b4 :: b5 :: b6 :: b7 :: b8 :: b9 :: ownF lo hi s x' n :: l) :=
  Frg.chg [b0, b1, b2, b3, b4, b5, b6, b7, b8, b9] (e := ownF lo hi s x n) (e' := ownF lo hi s x' n) h k hp rfl rfl
theorem Frg.mark11 {w0 w w' : World} {lo hi n : Nat} {s : Value} {x x' : Nat → Nat} {l : List Fact} {b0 b1 b2 b3 b4 b5 b6 b7 b8 b9 b10 : Fact} (h : Frg w0 w (b0 :: b1 :: b2 :: b3 :: b4 :: b5 :: b6 :: b7 :: b8 :: b9 :: b10 :: ownF lo hi s x n :: l)) (hp : OwnS w' lo hi s x' n) (k : Chg (rng lo hi) w w') : Frg w0 w' (b0 :: b1 :: b2 :: b3 :: b4 :: b5 :: b6 :: b7 :: b8 :: b9 :: b10 :: ownF lo hi s x' n :: l) :=
  Frg.chg [b0, b1, b2, b3, b4, b5, b6, b7, b8, b9, b10] (e := ownF lo hi s x n) (e' := ownF lo hi s x' n) h k hp rfl rfl
theorem Frg.mark12 {w0 w w' : World} {lo hi n : Nat} {s : Value} {x x' : Nat → Nat} {l : List Fact} {b0 b1 b2 b3 b4 b5 b6 b7 b8 b9 b10 b11 : Fact} (h : Frg w0 w (b0 :: b1 :: b2 :: b3 :: b4 :: b5 :: b6 :: b7 :: b8 :: b9 :: b10 :: b11 :: ownF lo hi s x n :: l)) (hp : OwnS w' lo hi s x' n) (k : Chg (rng lo hi) w w') : Frg w0 w' (b0 :: b1 :: b2 :: b3 :: b4 :: b5 :: b6 :: b7 :: b8 :: b9 :: b10 :: b11 :: ownF lo hi s x' n :: l) :=
  Frg.chg [b0, b1, b2, b3, b4, b5, b6, b7, b8, b9, b10, b11] (e := ownF lo hi s x n) (e' := ownF lo hi s x' n) h k hp rfl rfl
theorem Frg.mark13 {w0 w w' : World} {lo hi n : Nat} {s : Value} {x x' : Nat → Nat} {l : List Fact} {b0 b1 b2 b3 b4 b5 b6 b7 b8 b9 b10 b11 b12 : Fact} (h : Frg w0 w (b0 :: b1 :: b2 :: b3 :: b4 :: b5 :: b6 :: b7 :: b8 :: b9 :: b10 :: b11 :: b12 :: ownF lo hi s x n :: l)) (hp : OwnS w' lo hi s x' n) (k : Chg (rng lo hi) w w') : Frg w0 w' (b0 :: b1 :: b2 :: b3 :: b4 :: b5 :: b6 :: b7 :: b8 :: b9 :: b10 :: b11 :: b12 :: ownF lo hi s x' n :: l) :=
  Frg.chg [b0, b1, b2, b3, b4, b5, b6, b7, b8, b9, b10, b11, b12] (e := ownF lo hi s x n) (e' := ownF lo hi s x' n) h k hp rfl rfl
theorem Frg.mark14 {w0 w w' : World} {lo hi n : Nat} {s : Value} {x x' : Nat → Nat} {l : List Fact} {b0 b1 b2 b3 b4 b5 b6 b7 b8 b9 b10 b11 b12 b13 : Fact} (h : Frg w0 w (b0 :: b1 :: b2 :: b3 :: b4 :: b5 :: b6 :: b7 :: b8 :: b9 :: b10 :: b11 :: b12 :: b13 :: ownF lo hi s x n :: l)) (hp : OwnS w' lo hi s x' n) (k : Chg (rng lo hi) w w') : Frg w0 w' (b0 :: b1 :: b2 :: b3 :: b4 :: b5 :: b6 :: b7 :: b8 :: b9 :: b10 :: b11 :: b12 :: b13 :: ownF lo hi s x' n :: l) :=
  Frg.chg [b0, b1, b2, b3, b4, b5, b6, b7, b8, b9, b10, b11, b12, b13] (e := ownF lo hi s x n) (e' := ownF lo hi s x' n) h k hp rfl rfl
theorem Frg.mark15 {w0 w w' : World} {lo hi n : Nat} {s : Value} {x x' : Nat → Nat} {l : List Fact} {b0 b1 b2 b3 b4 b5 b6 b7 b8 b9 b10 b11 b12 b13 b14 : Fact} (h : Frg w0 w (b0 :: b1 :: b2 :: b3 :: b4 :: b5 :: b6 :: b7 :: b8 :: b9 :: b10 :: b11 :: b12 :: b13 :: b14 :: ownF lo hi s x n :: l)) (hp : OwnS w' lo hi s x' n) (k : Chg (rng lo hi) w w') : Frg w0 w' (b0 :: b1 :: b2 :: b3 :: b4 :: b5 :: b6 :: b7 :: b8 :: b9 :: b10 :: b11 :: b12 :: b13 :: b14 :: ownF lo hi s x' n :: l) :=
  Frg.chg [b0, b1, b2, b3, b4, b5, b6, b7, b8, b9, b10, b11, b12, b13, b14] (e := ownF lo hi s x n) (e' := ownF lo hi s x' n) h k hp rfl rfl
theorem Frg.mark16 {w0 w w' : World} {lo hi n : Nat} {s : Value} {x x' : Nat → Nat} {l : List Fact} {b0 b1 b2 b3 b4 b5 b6 b7 b8 b9 b10 b11 b12 b13 b14 b15 : Fact} (h : Frg w0 w (b0 :: b1 :: b2 :: b3 :: b4 :: b5 :: b6 :: b7 :: b8 :: b9 :: b10 :: b11 :: b12 :: b13 :: b14 :: b15 :: ownF lo hi s x n :: l)) (hp : OwnS w' lo hi s x' n) (k : Chg (rng lo hi) w w') : Frg w0 w' (b0 :: b1 :: b2 :: b3 :: b4 :: b5 :: b6 :: b7 :: b8 :: b9 :: b10 :: b11 :: b12 :: b13 :: b14 :: b15 :: ownF lo hi s x' n :: l) :=
  Frg.chg [b0, b1, b2, b3, b4, b5, b6, b7, b8, b9, b10, b11, b12, b13, b14, b15] (e := ownF lo hi s x n) (e' := ownF lo hi s x' n) h k hp rfl rfl
end Go.Fk

/- stepsOf and blockOf over a runner. -/
namespace Go.Fk
open Go Go.RowKit
theorem flist_tabR (h : Nat → Nat) (n : Nat) : (flist h n).toArray = ftab .f32 h n := by
  apply Array.ext_getElem?
  intro i
  by_cases hi : i < n
  · rw [List.getElem?_toArray, flist_get' _ hi, get_ftab _ _ _ _ hi]
  · rw [Array.getElem?_eq_none (by simp [flist_length]; omega), Array.getElem?_eq_none (by rw [size_ftab]; omega)]
theorem one_flistR (h : Nat → Nat) (n : Nat) : (flist h n).toArray.all (·.oneCell') = true := by rw [flist_tabR]; exact one_ftab _ _ _
/-- The cells of a slice, as a list. -/
theorem rows_ofR {cs : Array Value} {o n : Nat} {x : Nat → Nat} (hx : ∀ i, i < n → ∃ y, cs[o + i]? = some (.float .f32 y) ∧ fits .f32 y ∧ can .f32 y = x i) : ∃ h : Nat → Nat, (∀ i, i < n → fits .f32 (h i) ∧ can .f32 (h i) = x i) ∧ ∀ j, j < (flist h n).length → cs[o + j]? = (flist h n)[j]? := by
  refine ⟨fun i => if hi : i < n then Classical.choose (hx i hi) else 0, fun i hi => ?_, fun j hj => ?_⟩
  · have := Classical.choose_spec (hx i hi)
    simp only [hi, dif_pos]; exact this.2
  · rw [flist_length] at hj
    rw [flist_get' _ hj]
    have := Classical.choose_spec (hx j hj)
    simp only [hj, dif_pos]; exact this.1
theorem Chg.setNewR {S : Nat → Prop} {w w' : World} (h : Chg S w w') {a : Addr} (h1 : w.heap.size ≤ a.block) (v : Value) : Chg S w (w'.setCell a v) :=
  ⟨h.os, h.tape, h.output, by simpa using h.size, fun i hi hn => (Below.heap_setCell _ _ _ _ (by intro e; omega)).trans (h.block i hi hn)⟩
theorem fits_canR {a : Nat} (h : fits .f32 a) : fits .f32 (can .f32 a) := by
  unfold can; split
  · simp [fits, Lit.wf, qnan]
  · exact h
theorem chg_updR {g : Nat} {w w' : World} (h : Upd g w w') : Chg (· = g) w w' := ⟨h.os, h.tape, h.output, h.size, fun k hk hn => h.block k hk hn⟩
theorem outR {k : Int} {a b c x y s : Nat} (s' : Nat) (h : can .f32 s = can .f32 s') : outF k a b c x y s = outF k a b c x y s' := by rw [← outF_can, h, outF_can]
theorem st0R {k : Int} {a b c x y s : Nat} (s' : Nat) (h : can .f32 s = can .f32 s') : st0 k a b c x y s = st0 k a b c x y s' := by rw [← st0_can, h, st0_can]
theorem st1R {k : Int} {a b c x y s : Nat} (s' : Nat) (h : can .f32 s = can .f32 s') : st1 k a b c x y s = st1 k a b c x y s' := by rw [← st1_can, h, st1_can]
theorem runS_congr {k : Int} {a b c x y : Nat} {z z' : Nat → Nat} : ∀ {n : Nat}, (∀ i, i < n → can .f32 (z i) = can .f32 (z' i)) → runS k a b c x y z n = runS k a b c x y z' n
  | 0, _ => rfl
  | n + 1, h => by
    unfold runS
    rw [runS_congr (fun i hi => h i (by omega)), st0R _ (h n (by omega)), st1R _ (h n (by omega))]
theorem runO_congr {k : Int} {a b c x y : Nat} {z z' : Nat → Nat} {n : Nat} (h : ∀ i, can .f32 (z i) = can .f32 (z' i)) : runO k a b c x y z n = runO k a b c x y z' n := by
  unfold runO; rw [runS_congr (fun i _ => h i), outR _ (h n)]
end Go.Fk
namespace Go.Proofs.Ytmacednkpjfokaa
open Go.RowKit Go.Fk
theorem arr16R (a : Addr) (cap : Nat) (w : World) : (Instr.arrayAt 29 (.slice (some a) 16 cap)).run Try.prog w = .ok (.pointer (some a)) w := by
  unfold Instr.arrayAt
  rw [Sem.run_bind, run_underlying Try.underlying29 w]
  simp [Result.andThen]
/-- A runner in a block of its own, from B to C. -/
def RnS (w : World) (B C g : Nat) (k : Int) (a b c x y : Nat) : Prop := Row w g 88 #[mdl k a b c, .float .f32 x, .float .f32 y] ∧ fits .f32 x ∧ B ≤ g ∧ g < C
theorem RnS.of {w : World} {B C g : Nat} {k : Int} {a b c x y : Nat} (h1 : Row w g 88 #[mdl k a b c, .float .f32 x, .float .f32 y]) (h2 : fits .f32 x) (h3 : B ≤ g) (h4 : g < C) : RnS w B C g k a b c x y := ⟨h1, h2, h3, h4⟩
theorem RnS.ok {w w' : World} {B C g : Nat} {k : Int} {a b c x y : Nat} (h : RnS w B C g k a b c x y) (hk : ∀ i, B ≤ i → i < C → w'.heap[i]? = w.heap[i]?) : RnS w' B C g k a b c x y := ⟨(hk g h.2.2.1 h.2.2.2).trans h.1, h.2⟩
theorem RnS.le {w w' : World} {B C g : Nat} {k : Int} {a b c x y : Nat} (h : RnS w B C g k a b c x y) (hl : Fk.le w w') (hC : C ≤ w.heap.size) : RnS w' B C g k a b c x y := h.ok (fun i _ b => hl.block i (Nat.lt_of_lt_of_le b hC))
set_option maxRecDepth 100000 in
set_option maxHeartbeats 4000000 in
theorem i_stepsR (B C g D : Nat) (k : Int) (ka kb kc x0 y0 : Nat) (x : Nat → Nat) (n : Nat) (s : Value) (w : World) (hn : n ≤ 1048576) (h : RnS w B C g k ka kb kc x0 y0) (hk : 1 ≤ k ∧ k ≤ 5) (hC : C ≤ w.heap.size) (hs : ∀ w', Chg (rng B C) w w' → RdS w' D s x n) :
    Calls Try.prog 80 #[.iface 82 (.pointer (some ⟨g, 0, none⟩)), s] w fun e w' => ∃ s', e = .returned s' ∧ OwnS w' w.heap.size w'.heap.size s' (runO k ka kb kc x0 y0 x) n ∧ RnS w' B C g k ka kb kc (runS k ka kb kc x0 y0 x n).1 (runS k ka kb kc x0 y0 x n).2 ∧ Chg (rng B C) w w' := by
  have HM := fun w => makeF n (by omega) w
  have Z := hid (hs w (Chg.refl _ w))
  have HS := hid hs
  have HL := hid h
  have HK := hid hk
  clear hs h
  go_enter Try.func80, Try.ntmps80
  go_wp2_with (with_reducible refine wpList_lenR rfl rfl rfl Try.underlying40 Z.out ?_)
  go_loopw [13] (fun i wr => ∃ j : Nat, j ≤ n ∧ i = .int .i64 j ∧ ∃ y : Nat → Nat, Hid (∀ i, i < j → fits .f32 (y i) ∧ can .f32 (y i) = runO k ka kb kc x0 y0 x i) ∧ Hid (RnS wr B C g k ka kb kc (runS k ka kb kc x0 y0 x j).1 (runS k ka kb kc x0 y0 x j).2) ∧ Hid (Row wr w.heap.size 22 (ftab .f32 (upto j y (fun _ => 0)) n)) ∧ Hid (Chg (rng B C) w wr)) (fun i _ => n - (intOf i).toNat)
  case atStart => exact ⟨0, by omega, rfl, fun _ => 0, fun m hm => absurd hm (by omega), RnS.le HL.out (le_alloc w _) hC, by rw [upto_zero]; exact Row.new w _ _, Chg.of_le (le_alloc w _)⟩
  case round =>
    obtain ⟨j, hj, rfl, y, HJ, HB, HR, HC⟩ := hrel
    clear HM
    by_cases hlt : j < n
    · rcases HS.out _ HC.out with ⟨_, h0⟩ | ⟨a, cap, rfl, hc, hm, hx⟩
      · omega
      obtain ⟨_, p, c1, fp, ep⟩ := hx j hlt
      have FP := hid fp
      have EP : Hid (can .f32 p = can .f32 (x j)) := by unfold Hid; rw [← ep, can_can]
      have FX := hid (show fits .f32 (x j) from ep ▸ fits_canR fp)
      obtain ⟨hbr, hbx, hbg⟩ := HB.out
      have HBR := hid hbr; have HBX := hid hbx; have HBG := hid hbg
      clear hbr hbx hbg
      clear hx fp ep
      go_wp2_with (first | (go_at_call 100; ((with_reducible refine (i_step k ka kb kc _ _ p g _ HK.out HBR.out HBX.out FP.out).mono ?_); rintro e w4 ⟨r, rfl, hr, fr, hR, hU⟩; rw [st0R _ EP.out, st1R _ EP.out] at hR; have HB4 := hid (show RnS w4 B C g k ka kb kc (runS k ka kb kc x0 y0 x (j + 1)).1 (runS k ka kb kc x0 y0 x (j + 1)).2 from ⟨hR, fits_st0 FX.out (fits_outF _ _ _ _ _ _ _), HBG.out⟩); have hch := (chg_updR hU).mono (T := rng B C) (fun i e => by have e' : i = g := e; subst e'; exact HBG.out); have HR4 := hid (hch.row HR.out (fun e => by have := e.2; omega)); have HC4 := hid (HC.out.trans hch); have HRR := hid (show can .f32 r = runO k ka kb kc x0 y0 x j from hr.trans (outR _ EP.out)); have cc := HR4.out.ftab hlt; have ff := HR4.out.frozen j; clear hR hU hch hr)))
      go_roundw
      case rel =>
        refine ⟨j + 1, by omega, by go_num, fun i => if i = j then r else y i, fill_step (p := fun i v => fits .f32 v ∧ can .f32 v = runO k ka kb kc x0 y0 x i) HJ.out ⟨fr, HRR.out⟩, RnS.ok HB4.out (fun k _ b => Below.heap_setCell _ _ _ _ (by intro e; have e' : k = w.heap.size := e; omega)), ?_, HC4.out.setNewR (Nat.le_refl _) _⟩
        have F4 := HR4.out.set j (.float .f32 r)
        rw [set_ftab, upto_set] at F4
        exact F4
      case measure => simp [intOf]; omega
    · obtain rfl : j = n := by omega
      rw [show (ftab .f32 (upto j y (fun _ => 0)) j) = ftab .f32 y j from ftab_congr (fun i hi => if_pos hi)] at HR
      go_wp2
      go_ret
      exact ⟨_, rfl, .inr ⟨w.heap.size, 0, j, _, rfl, Nat.le_refl _, by unfold maxLen; omega, Nat.le_refl _, HR.out.lt, HR.out, fun i hi => ⟨y i, by rw [Nat.zero_add]; exact get_ftab .f32 y j i hi, (HJ.out i hi).1, (HJ.out i hi).2⟩⟩, HB.out, HC.out⟩
set_option maxRecDepth 100000 in
set_option maxHeartbeats 4000000 in
theorem i_blockR (B C g : Nat) (k : Int) (ka kb kc x0 y0 : Nat) (z : Nat → Nat) (w : World) (h : RnS w B C g k ka kb kc x0 y0) (hk : 1 ≤ k ∧ k ≤ 5) (hC : C ≤ w.heap.size) (hz : ∀ j, j < 16 → fits .f32 (z j)) :
    Calls Try.prog 53 #[.iface 82 (.pointer (some ⟨g, 0, none⟩)), .agg (ftab .f32 z 16)] w fun e w' => ∃ h' : Nat → Nat, e = .returned (.agg (ftab .f32 h' 16)) ∧ (∀ j, j < 16 → fits .f32 (h' j) ∧ can .f32 (h' j) = runO k ka kb kc x0 y0 (fun i => can .f32 (z i)) j) ∧ RnS w' B C g k ka kb kc (runS k ka kb kc x0 y0 (fun i => can .f32 (z i)) 16).1 (runS k ka kb kc x0 y0 (fun i => can .f32 (z i)) 16).2 ∧ Chg (rng B C) w w' := by
  have F := ((Frg.nil w).box 29 (ftab .f32 z 16)).box 29 #[.float .f32 0, .float .f32 0, .float .f32 0, .float .f32 0, .float .f32 0, .float .f32 0, .float .f32 0, .float .f32 0, .float .f32 0, .float .f32 0, .float .f32 0, .float .f32 0, .float .f32 0, .float .f32 0, .float .f32 0, .float .f32 0]
  simp only [World.size_alloc] at F
  have HST := hid (fun (w1 : World) (hl : le w w1) (hr : Row w1 w.heap.size 29 (ftab .f32 z 16)) => i_stepsR B C g (w.heap.size + 1) k ka kb kc x0 y0 (fun i => can .f32 (z i)) 16 (.slice (some ⟨w.heap.size, 0, none⟩) 16 16) w1 (by omega) (RnS.le h hl hC) hk (Nat.le_trans hC hl.size) (fun w5 hc => .inr ⟨⟨w.heap.size, 0, none⟩, 16, rfl, Nat.le_refl _, by decide, fun i hi => ⟨Nat.lt_succ_self _, z i, by rw [add_none, Nat.zero_add]; exact (hc.row hr (fun e => by have := e.2; omega)).ftab hi, hz i hi, rfl⟩⟩))
  clear h hz
  go_enter Try.func53, Try.ntmps53
  go_wp2_with (first | (go_at_call 80; ((with_reducible refine (HST.out _ F.below (F.row m1)).mono ?_); rintro e w3 ⟨s3, rfl, ho3, hlb3, hch3⟩; rcases ho3 with ⟨_, h0⟩ | ⟨b9, o9, cap9, cs9, rfl, hc9, hm9, hb9, hb9', hr9, hx9⟩; (cases h0); obtain ⟨h', hh, hcs⟩ := rows_ofR hx9; have HAP := fun w => arr16R ⟨b9, o9, none⟩ cap9 w; have R1 := hid (hch3.row (F.row m0) (fun e => by have := e.2; omega)); have HL := hid hlb3; have HC3 := hid ((Chg.of_le F.below).trans hch3); have HR9 := hid hr9; have HH := hid hh; have HCS := hid hcs; clear hlb3 hch3 hr9 hx9 hh hcs)) | ((with_reducible refine at_loadU rfl rfl ?_); refine wpList_loadPR HR9.out rfl rfl rfl Try.underlying29 rfl (flist h' 16) HCS.out infoBlk (flist_length _ _) ?_) | (with_reducible refine stop_store rfl ?_))
  show wpList _ _ _ _ _ _
  refine wpList_storeD rfl rfl rfl (cells := (flist h' 16).toArray) rfl R1.out infoBlk rfl (one_flistR _ _) (fun w4 K => ?_)
  have R := hid K.row
  have kb := K.below w.heap.size w3 (Below.refl _ _) (by omega)
  have CC : Hid (Chg (rng B C) w w4) := ⟨kb.os.trans HC3.out.os, kb.tape.trans HC3.out.tape, kb.output.trans HC3.out.output, Nat.le_trans HC3.out.size kb.size, fun k hk hn => (kb.block k hk).trans (HC3.out.block k hk hn)⟩
  have LL := hid (RnS.ok HL.out (fun k _ b => K.block k (by omega)))
  clear K kb HL HC3 R1 HR9
  go_wp2
  exact bodyPost_ret (results_row1 rfl _ _ _ _ _ rfl R.out Try.underlying29 rfl infoBlk) rfl ⟨h', by rw [flist_tabR], HH.out, LL.out, CC.out⟩
end Go.Proofs.Ytmacednkpjfokaa

/- Data of any plain type, as trees: what a value and the memory behind it hold (Rd), and memory of one's own (Lay). Nothing here names a program. -/
namespace Go.Fk
open Go Go.RowKit
/-- A cell's datum: 'fcn' is a float up to the bits of NaN; 'sl wd n x' a slice of n elements of wd cells each. -/
inductive CD where
  | int (k : IntKind) (z : Int)
  | flt (k : FloatKind) (x : Nat)
  | fcn (k : FloatKind) (x : Nat)
  | bool (b : Bool)
  | str (s : ByteArray)
  | sl (wd n : Nat) (x : Nat → CD)
/-- What does not lead to memory. -/
def CD.leaf : CD → Value → Prop
  | .int k z, v => v = .int k z ∧ (Lit.int k z).wf = true
  | .flt k x, v => v = .float k x ∧ fits k x
  | .fcn k x, v => ∃ y, v = .float k y ∧ fits k y ∧ can k y = x
  | .bool b, v => v = .bool b
  | .str s, v => v = .string s ∧ s.size ≤ maxLen
  | .sl _ _ _, _ => False
/-- A value that is read: all that it leads to lies below B. -/
def CD.Rd (w : World) (B : Nat) : CD → Value → Prop
  | .int k z, v => CD.leaf (.int k z) v
  | .flt k x, v => CD.leaf (.flt k x) v
  | .fcn k x, v => CD.leaf (.fcn k x) v
  | .bool b, v => CD.leaf (.bool b) v
  | .str s, v => CD.leaf (.str s) v
  | .sl wd n x, v => (v = .slice none 0 0 ∧ n = 0) ∨ ∃ (a : Addr) (cap : Nat), v = .slice (some a) n cap ∧ n ≤ cap ∧ cap ≤ maxLen ∧ ∀ i, i < n * wd → a.block < B ∧ ∃ u, w.cell? (a.add i) = some u ∧ CD.Rd w B (x i) u
/-- A value that owns its memory, which lies in the blocks of S. -/
def CD.Lay (w : World) : CD → (Nat → Prop) → Value → Prop
  | .int k z, _, v => CD.leaf (.int k z) v
  | .flt k x, _, v => CD.leaf (.flt k x) v
  | .fcn k x, _, v => CD.leaf (.fcn k x) v
  | .bool b, _, v => CD.leaf (.bool b) v
  | .str s, _, v => CD.leaf (.str s) v
  | .sl wd n x, S, v => (v = .slice none 0 0 ∧ n = 0) ∨ ∃ (b o cap : Nat) (t : TypeId) (cs : Array Value), v = .slice (some ⟨b, o, none⟩) n cap ∧ n ≤ cap ∧ cap ≤ maxLen ∧ S b ∧ Row w b t cs ∧
      ∃ T : Nat → Nat → Prop, (∀ i j, T i j → S j ∧ j ≠ b) ∧ (∀ i i' j, T i j → T i' j → i = i') ∧ ∀ i, i < n * wd → ∃ u, cs[o + i]? = some u ∧ CD.Lay w (x i) (T i) u
theorem CD.leaf_one {c : CD} {v : Value} (h : c.leaf v) : v.oneCell' = true := by
  cases c with
  | int | flt | str => obtain ⟨rfl, _⟩ := h; rfl
  | fcn => obtain ⟨_, rfl, _⟩ := h; rfl
  | bool => obtain rfl := h; rfl
  | sl => exact h.elim
theorem CD.Rd.one {w : World} {B : Nat} {c : CD} {v : Value} (h : c.Rd w B v) : v.oneCell' = true := by
  cases c with
  | sl wd n x => rcases h with ⟨rfl, _⟩ | ⟨a, cap, rfl, _⟩ <;> rfl
  | _ => exact CD.leaf_one h
theorem CD.Lay.one {w : World} {S : Nat → Prop} {c : CD} {v : Value} (h : c.Lay w S v) : v.oneCell' = true := by
  cases c with
  | sl wd n x => rcases h with ⟨rfl, _⟩ | ⟨b, o, cap, t, cs, rfl, _⟩ <;> rfl
  | _ => exact CD.leaf_one h
theorem CD.Lay.mono {w : World} : ∀ {c : CD} {S S' : Nat → Prop} {v : Value}, c.Lay w S v → (∀ j, S j → S' j) → c.Lay w S' v := by
  intro c S S' v h hS
  cases c with
  | sl wd n x =>
    rcases h with h | ⟨b, o, cap, t, cs, h1, h2, h3, h4, h5, T, t1, t2, t3⟩
    · exact .inl h
    · exact .inr ⟨b, o, cap, t, cs, h1, h2, h3, hS _ h4, h5, T, fun i j hT => ⟨hS _ (t1 i j hT).1, (t1 i j hT).2⟩, t2, t3⟩
  | _ => exact h
/-- It stands while its blocks stand. -/
theorem CD.Lay.ok {w w' : World} : ∀ {c : CD} {S : Nat → Prop} {v : Value}, c.Lay w S v → (∀ j, S j → w'.heap[j]? = w.heap[j]?) → c.Lay w' S v := by
  intro c
  induction c with
  | sl wd n x ih =>
    intro S v h hS
    rcases h with h | ⟨b, o, cap, t, cs, h1, h2, h3, h4, h5, T, t1, t2, t3⟩
    · exact .inl h
    · refine .inr ⟨b, o, cap, t, cs, h1, h2, h3, h4, by unfold Row at *; rw [hS b h4]; exact h5, T, t1, t2, fun i hi => ?_⟩
      obtain ⟨u, hu, hl⟩ := t3 i hi
      exact ⟨u, hu, ih i hl (fun j hj => hS j (t1 i j hj).1)⟩
  | _ => intro S v h _; exact h
theorem CD.Lay.lt {w : World} {c : CD} {S : Nat → Prop} {v : Value} (h : c.Lay w S v) : c.Lay w (fun j => S j ∧ j < w.heap.size) v := by
  induction c generalizing S v with
  | sl wd n x ih =>
    rcases h with h | ⟨b, o, cap, t, cs, h1, h2, h3, h4, h5, T, t1, t2, t3⟩
    · exact .inl h
    · refine .inr ⟨b, o, cap, t, cs, h1, h2, h3, ⟨h4, h5.lt⟩, h5, fun i j => T i j ∧ j < w.heap.size, fun i j hT => ⟨⟨(t1 i j hT.1).1, hT.2⟩, (t1 i j hT.1).2⟩, fun i i' j a b => t2 i i' j a.1 b.1, fun i hi => ?_⟩
      obtain ⟨u, hu, hl⟩ := t3 i hi
      exact ⟨u, hu, ih i hl⟩
  | _ => exact h
theorem CD.Lay.le {w w' : World} {c : CD} {S : Nat → Prop} {v : Value} (h : c.Lay w S v) (hl : Fk.le w w') : c.Lay w' S v :=
  (h.lt.ok (fun j hj => hl.block j hj.2)).mono (fun j hj => hj.1)
theorem CD.Rd.mono {w : World} {B B' : Nat} (hB : B ≤ B') : ∀ {c : CD} {v : Value}, c.Rd w B v → c.Rd w B' v := by
  intro c
  induction c with
  | sl wd n x ih =>
    intro v h
    rcases h with h | ⟨a, cap, h1, h2, h3, h4⟩
    · exact .inl h
    · exact .inr ⟨a, cap, h1, h2, h3, fun i hi => by obtain ⟨h5, u, h6, h7⟩ := h4 i hi; exact ⟨by omega, u, h6, ih i h7⟩⟩
  | _ => intro v h; exact h
theorem cell_lt' {w : World} {p : Addr} {v : Value} (h : w.cell? p = some v) : p.block < w.heap.size := by
  apply Nat.lt_of_not_le
  intro hle
  have : w.heap[p.block]? = none := Array.getElem?_eq_none hle
  simp [World.cell?, this] at h
theorem CD.Rd.le {w w' : World} {B : Nat} (hl : Fk.le w w') : ∀ {c : CD} {v : Value}, c.Rd w B v → c.Rd w' B v := by
  intro c
  induction c with
  | sl wd n x ih =>
    intro v h
    rcases h with h | ⟨a, cap, h1, h2, h3, h4⟩
    · exact .inl h
    · exact .inr ⟨a, cap, h1, h2, h3, fun i hi => by obtain ⟨h5, u, h6, h7⟩ := h4 i hi; exact ⟨h5, u, (Below.cell hl (cell_lt' h6)).trans h6, ih i h7⟩⟩
  | _ => intro v h; exact h
/-- What one owns may be read. -/
theorem CD.Lay.rd {w : World} {B : Nat} : ∀ {c : CD} {S : Nat → Prop} {v : Value}, c.Lay w S v → (∀ j, S j → j < B) → c.Rd w B v := by
  intro c
  induction c with
  | sl wd n x ih =>
    intro S v h hS
    rcases h with h | ⟨b, o, cap, t, cs, h1, h2, h3, h4, h5, T, t1, t2, t3⟩
    · exact .inl h
    · refine .inr ⟨⟨b, o, none⟩, cap, h1, h2, h3, fun i hi => ?_⟩
      obtain ⟨u, hu, hl⟩ := t3 i hi
      exact ⟨hS b h4, u, by rw [add_none]; exact (h5.cell? (o + i)).trans hu, ih i hl (fun j hj => hS j (t1 i j hj).1)⟩
  | _ => intro S v h _; exact h
/-- The same data, where they count. -/
def CD.Eqv : CD → CD → Prop
  | .sl wd n x, d => ∃ y, d = .sl wd n y ∧ ∀ i, i < n * wd → CD.Eqv (x i) (y i)
  | c, d => c = d
theorem CD.Eqv.refl : ∀ c : CD, c.Eqv c := by
  intro c
  induction c with
  | sl wd n x ih => exact ⟨x, rfl, fun i _ => ih i⟩
  | _ => rfl
theorem CD.Rd.congr {w : World} {B : Nat} : ∀ {c d : CD} {v : Value}, c.Rd w B v → c.Eqv d → d.Rd w B v := by
  intro c
  induction c with
  | sl wd n x ih =>
    intro d v h he
    obtain ⟨y, rfl, hy⟩ := he
    rcases h with h | ⟨a, cap, h1, h2, h3, h4⟩
    · exact .inl h
    · exact .inr ⟨a, cap, h1, h2, h3, fun i hi => by obtain ⟨h5, u, h6, h7⟩ := h4 i hi; exact ⟨h5, u, h6, ih i h7 (hy i hi)⟩⟩
  | _ => intro d v h he; cases he; exact h
theorem CD.Lay.congr {w : World} : ∀ {c d : CD} {S : Nat → Prop} {v : Value}, c.Lay w S v → c.Eqv d → d.Lay w S v := by
  intro c
  induction c with
  | sl wd n x ih =>
    intro d S v h he
    obtain ⟨y, rfl, hy⟩ := he
    rcases h with h | ⟨b, o, cap, t, cs, h1, h2, h3, h4, h5, T, t1, t2, t3⟩
    · exact .inl h
    · exact .inr ⟨b, o, cap, t, cs, h1, h2, h3, h4, h5, T, t1, t2, fun i hi => by obtain ⟨u, hu, hl⟩ := t3 i hi; exact ⟨u, hu, ih i hl (hy i hi)⟩⟩
  | _ => intro d S v h he; cases he; exact h

/-- Several cells that are read. -/
def RdL (w : World) (B : Nat) (cs : List CD) (vs : List Value) : Prop := vs.length = cs.length ∧ ∀ (i : Nat) (v : Value) (c : CD), vs[i]? = some v → cs[i]? = some c → c.Rd w B v
/-- Several cells that own their memory, each apart from the others. -/
def LayL (w : World) (S : Nat → Prop) (cs : List CD) (vs : List Value) : Prop := vs.length = cs.length ∧ ∃ T : Nat → Nat → Prop, (∀ i j, T i j → S j) ∧ (∀ i i' j, T i j → T i' j → i = i') ∧ ∀ (i : Nat) (v : Value) (c : CD), vs[i]? = some v → cs[i]? = some c → c.Lay w (T i) v
theorem LayL.ok {w w' : World} {S : Nat → Prop} {cs : List CD} {vs : List Value} (h : LayL w S cs vs) (hS : ∀ j, S j → w'.heap[j]? = w.heap[j]?) : LayL w' S cs vs := by
  obtain ⟨h0, T, t1, t2, t3⟩ := h
  exact ⟨h0, T, t1, t2, fun i v c hv hc => (t3 i v c hv hc).ok (fun j hj => hS j (t1 i j hj))⟩
theorem LayL.le {w w' : World} {S : Nat → Prop} {cs : List CD} {vs : List Value} (h : LayL w S cs vs) (hl : Fk.le w w') : LayL w' S cs vs := by
  obtain ⟨h0, T, t1, t2, t3⟩ := h
  exact ⟨h0, T, t1, t2, fun i v c hv hc => (t3 i v c hv hc).le hl⟩
theorem LayL.mono {w : World} {S S' : Nat → Prop} {cs : List CD} {vs : List Value} (h : LayL w S cs vs) (hS : ∀ j, S j → S' j) : LayL w S' cs vs := by
  obtain ⟨h0, T, t1, t2, t3⟩ := h
  exact ⟨h0, T, fun i j hj => hS j (t1 i j hj), t2, t3⟩
theorem LayL.rd {w : World} {B : Nat} {S : Nat → Prop} {cs : List CD} {vs : List Value} (h : LayL w S cs vs) (hS : ∀ j, S j → j < B) : RdL w B cs vs := by
  obtain ⟨h0, T, t1, t2, t3⟩ := h
  exact ⟨h0, fun i v c hv hc => (t3 i v c hv hc).rd (fun j hj => hS j (t1 i j hj))⟩
theorem RdL.le {w w' : World} {B : Nat} {cs : List CD} {vs : List Value} (h : RdL w B cs vs) (hl : Fk.le w w') : RdL w' B cs vs := ⟨h.1, fun i v c hv hc => (h.2 i v c hv hc).le hl⟩
theorem RdL.mono {w : World} {B B' : Nat} {cs : List CD} {vs : List Value} (h : RdL w B cs vs) (hB : B ≤ B') : RdL w B' cs vs := ⟨h.1, fun i v c hv hc => (h.2 i v c hv hc).mono hB⟩
theorem RdL.nil (w : World) (B : Nat) : RdL w B [] [] := ⟨rfl, fun i v c hv => by simp at hv⟩
theorem RdL.cons {w : World} {B : Nat} {c : CD} {v : Value} {cs : List CD} {vs : List Value} (h : c.Rd w B v) (hs : RdL w B cs vs) : RdL w B (c :: cs) (v :: vs) :=
  ⟨by simp [hs.1], fun i v' c' hv hc => by
    cases i with
    | zero => simp at hv hc; subst hv hc; exact h
    | succ i => simp at hv hc; exact hs.2 i v' c' hv hc⟩
theorem RdL.inv {w : World} {B : Nat} {c : CD} {cs : List CD} {vs : List Value} (h : RdL w B (c :: cs) vs) : ∃ v vs', vs = v :: vs' ∧ c.Rd w B v ∧ RdL w B cs vs' := by
  obtain ⟨h0, h1⟩ := h
  cases vs with
  | nil => simp at h0
  | cons v vs => exact ⟨v, vs, rfl, h1 0 v c rfl rfl, by simpa using h0, fun i v' c' hv hc => h1 (i + 1) v' c' (by simpa using hv) (by simpa using hc)⟩
theorem RdL.inv0 {w : World} {B : Nat} {vs : List Value} (h : RdL w B [] vs) : vs = [] := by
  have := h.1
  cases vs with
  | nil => rfl
  | cons => simp at this
theorem LayL.nil (w : World) (S : Nat → Prop) : LayL w S [] [] := ⟨rfl, fun _ _ => False, fun _ _ h => h.elim, fun _ _ _ h => h.elim, fun i v c hv => by simp at hv⟩
/-- One cell more, of blocks apart from those of the others. -/
theorem LayL.cons {w : World} {S S1 S2 : Nat → Prop} {c : CD} {v : Value} {cs : List CD} {vs : List Value} (h : c.Lay w S1 v) (hs : LayL w S2 cs vs) (h1 : ∀ j, S1 j → S j) (h2 : ∀ j, S2 j → S j) (h3 : ∀ j, S1 j → S2 j → False) : LayL w S (c :: cs) (v :: vs) := by
  obtain ⟨h0, T, t1, t2, t3⟩ := hs
  refine ⟨by simp [h0], fun i => match i with | 0 => S1 | i + 1 => T i, fun i j => ?_, fun i i' j => ?_, fun i v' c' hv hc => ?_⟩
  · cases i with
    | zero => exact fun h => h1 j h
    | succ i => exact fun h => h2 j (t1 i j h)
  · cases i with
    | zero => cases i' with
      | zero => exact fun _ _ => rfl
      | succ i' => exact fun a b => (h3 j a (t1 i' j b)).elim
    | succ i => cases i' with
      | zero => exact fun a b => (h3 j b (t1 i j a)).elim
      | succ i' => exact fun a b => by rw [t2 i i' j a b]
  · cases i with
    | zero => simp at hv hc; subst hv hc; exact h
    | succ i => simp at hv hc; exact t3 i v' c' hv hc
theorem LayL.leaf {w : World} {S : Nat → Prop} {c : CD} {v : Value} {cs : List CD} {vs : List Value} (h : c.Lay w (fun _ => False) v) (hs : LayL w S cs vs) : LayL w S (c :: cs) (v :: vs) :=
  LayL.cons h hs (fun _ h => h.elim) (fun _ h => h) (fun _ h _ => h)
theorem LayL.inv {w : World} {S : Nat → Prop} {c : CD} {cs : List CD} {vs : List Value} (h : LayL w S (c :: cs) vs) : ∃ v vs' S1 S2, vs = v :: vs' ∧ c.Lay w S1 v ∧ LayL w S2 cs vs' ∧ (∀ j, S1 j → S j) ∧ (∀ j, S2 j → S j) ∧ (∀ j, S1 j → S2 j → False) := by
  obtain ⟨h0, T, t1, t2, t3⟩ := h
  cases vs with
  | nil => simp at h0
  | cons v vs =>
    refine ⟨v, vs, T 0, fun j => ∃ i, T (i + 1) j, rfl, t3 0 v c rfl rfl, ⟨by simpa using h0, fun i => T (i + 1), fun i j h => ⟨i, h⟩, fun i i' j a b => by have := t2 _ _ j a b; omega, fun i v' c' hv hc => t3 (i + 1) v' c' (by simpa using hv) (by simpa using hc)⟩, t1 0, fun j ⟨i, h⟩ => t1 _ j h, fun j a ⟨i, b⟩ => by have := t2 _ _ j a b; omega⟩
theorem LayL.inv0 {w : World} {S : Nat → Prop} {vs : List Value} (h : LayL w S [] vs) : vs = [] := by
  have := h.1
  cases vs with
  | nil => rfl
  | cons => simp at this
/-- The fact. -/
def layF (lo hi : Nat) (cs : List CD) (vs : List Value) : Fact := ⟨lo, hi, fun w => LayL w (rng lo hi) cs vs, fun _ _ h hk => h.ok (fun j hj => hk j hj.1 hj.2)⟩
theorem Frg.lay1 {w0 w w' : World} {L : List Fact} (h : Frg w0 w L) (k : Below w.heap.size w w') {cs : List CD} {vs : List Value} (he : LayL w' (rng w.heap.size w'.heap.size) cs vs) : Frg w0 w' (layF w.heap.size w'.heap.size cs vs :: L) :=
  h.push k he (Nat.le_refl _) (Nat.le_refl _)
theorem Frg.lay {w0 w : World} {L : List Fact} (h : Frg w0 w L) {lo hi : Nat} {cs : List CD} {vs : List Value} (hm : layF lo hi cs vs ∈ L) : LayL w (rng lo hi) cs vs := (h.facts _ hm).2.2
theorem Frg.layR {w0 w : World} {L : List Fact} (h : Frg w0 w L) {lo hi : Nat} {cs : List CD} {vs : List Value} (hm : layF lo hi cs vs ∈ L) : RdL w hi cs vs := (h.lay hm).rd (fun _ hj => hj.2)
/-- Slices of floats. -/
theorem RdS.cd {w : World} {B : Nat} {s : Value} {x : Nat → Nat} {n : Nat} (h : RdS w B s x n) : (CD.sl 1 n (fun i => .fcn .f32 (x i))).Rd w B s := by
  rcases h with h | ⟨a, cap, h1, h2, h3, h4⟩
  · exact .inl h
  · exact .inr ⟨a, cap, h1, h2, h3, fun i hi => by obtain ⟨h5, y, e1, e2, e3⟩ := h4 i (by simpa using hi); exact ⟨h5, _, e1, y, rfl, e2, e3⟩⟩
theorem CD.Rd.rds {w : World} {B : Nat} {s : Value} {x : Nat → Nat} {n : Nat} (h : (CD.sl 1 n (fun i => .fcn .f32 (x i))).Rd w B s) : RdS w B s x n := by
  rcases h with h | ⟨a, cap, h1, h2, h3, h4⟩
  · exact .inl h
  · refine .inr ⟨a, cap, h1, h2, h3, fun i hi => ?_⟩
    obtain ⟨h5, u, h6, y, rfl, e2, e3⟩ := h4 i (by simpa using hi)
    exact ⟨h5, y, h6, e2, e3⟩
theorem CD.Rd.rdx {w : World} {B : Nat} {s : Value} {x : Nat → Nat} {n : Nat} (h : (CD.sl 1 n (fun i => .flt .f32 (x i))).Rd w B s) : RdS w B s (fun i => can .f32 (x i)) n := by
  rcases h with h | ⟨a, cap, h1, h2, h3, h4⟩
  · exact .inl h
  · refine .inr ⟨a, cap, h1, h2, h3, fun i hi => ?_⟩
    obtain ⟨h5, u, h6, rfl, e2⟩ := h4 i (by simpa using hi)
    exact ⟨h5, x i, h6, e2, rfl⟩
theorem OwnS.lay {w : World} {lo hi : Nat} {s : Value} {x : Nat → Nat} {n : Nat} (h : OwnS w lo hi s x n) : (CD.sl 1 n (fun i => .fcn .f32 (x i))).Lay w (rng lo hi) s := by
  rcases h with h | ⟨b, o, cap, cs, h1, h2, h3, h4, h5, h6, h7⟩
  · exact .inl h
  · exact .inr ⟨b, o, cap, _, cs, h1, h2, h3, ⟨h4, h5⟩, h6, fun _ _ => False, fun _ _ h => h.elim, fun _ _ _ h => h.elim, fun i hi => by
      obtain ⟨y, e1, e2, e3⟩ := h7 i (by simpa using hi); exact ⟨_, e1, y, rfl, e2, e3⟩⟩
end Go.Fk

/- The walk's laws for slices of wide elements; sizes. Nothing here names a program. -/
namespace Go.Fk
open Go Go.RowKit
/-- The sum of the first so many. -/
def sumTo (f : Nat → Nat) : Nat → Nat
  | 0 => 0
  | n + 1 => sumTo f n + f n
theorem sumTo_add (f : Nat → Nat) (a b : Nat) : sumTo f (a + b) = sumTo f a + sumTo (fun j => f (a + j)) b := by
  induction b with
  | zero => rfl
  | succ b ih => rw [← Nat.add_assoc]; simp only [sumTo]; rw [ih]; omega
theorem sumTo_le (f : Nat → Nat) {a b : Nat} (h : a ≤ b) : sumTo f a ≤ sumTo f b := by
  obtain ⟨c, rfl⟩ := Nat.exists_eq_add_of_le h
  rw [sumTo_add]; omega
/-- How many elements a datum's slices have. -/
def CD.sz : CD → Nat
  | .sl wd n x => n + sumTo (fun i => (x i).sz) (n * wd)
  | .str s => s.size
  | _ => 0
def szL (cs : List CD) : Nat := (cs.map CD.sz).sum
/-- What is left of so much. -/
def lessBy (m : Int) (s : Nat) : Int := if m - s < 0 then -1 else m - s
theorem CD.Rd.form {w : World} {B wd n : Nat} {x : Nat → CD} {s : Value} (h : (CD.sl wd n x).Rd w B s) : (s = .slice none 0 0 ∧ n = 0) ∨ ∃ (a : Addr) (cap : Nat), s = .slice (some a) n cap ∧ n ≤ cap ∧ cap ≤ maxLen := by
  rcases h with h | ⟨a, cap, h1, h2, h3, _⟩
  · exact .inl h
  · exact .inr ⟨a, cap, h1, h2, h3⟩
theorem CD.Rd.small {w : World} {B wd n : Nat} {x : Nat → CD} {s : Value} (h : (CD.sl wd n x).Rd w B s) : n ≤ 9223372036854775807 := by
  rcases h.form with ⟨_, rfl⟩ | ⟨a, cap, _, h1, h2⟩
  · omega
  · unfold maxLen at h2; omega
/-- The cells of an element. -/
theorem CD.Rd.elem {w : World} {B wd n cap : Nat} {x : Nat → CD} {a : Addr} (h : (CD.sl wd n x).Rd w B (.slice (some a) n cap)) {k : Nat} (hk : k < n) : ∃ vs : List Value, vs.length = wd ∧ (∀ j v, vs[j]? = some v → w.cell? ((a.add (k * wd)).add j) = some v) ∧ RdL w B ((List.range wd).map (fun j => x (k * wd + j))) vs := by
  rcases h with ⟨h, _⟩ | ⟨a', cap', h1, h2, h3, h4⟩
  · cases h
  · simp only [Value.slice.injEq, Option.some.injEq, true_and] at h1
    obtain ⟨rfl, rfl⟩ := h1
    have key : ∀ j, ∃ u, j < wd → w.cell? (a.add (k * wd + j)) = some u ∧ CD.Rd w B (x (k * wd + j)) u := fun j => by
      by_cases hj : j < wd
      · obtain ⟨_, u, h5, h6⟩ := h4 (k * wd + j) (Nat.lt_of_lt_of_le (Nat.add_lt_add_left hj _) (by rw [← Nat.succ_mul]; exact Nat.mul_le_mul_right _ hk))
        exact ⟨u, fun _ => ⟨h5, h6⟩⟩
      · exact ⟨undef, fun h => absurd h hj⟩
    obtain ⟨f, hf⟩ := Classical.skolem.1 key
    refine ⟨(List.range wd).map f, by simp, fun j v hv => ?_, by simp, fun j v c hv hc => ?_⟩
    · have hj : j < wd := by have := (List.getElem?_eq_some_iff.1 hv).1; simpa using this
      simp [List.getElem?_map, List.getElem?_range hj] at hv
      subst hv
      rw [Go.Deep.add_add]; exact (hf j hj).1
    · have hj : j < wd := by have := (List.getElem?_eq_some_iff.1 hv).1; simpa using this
      simp [List.getElem?_map, List.getElem?_range hj] at hv hc
      subst hv hc
      exact (hf j hj).2
theorem LayL.append {w : World} {S S1 S2 : Nat → Prop} {cs1 cs2 : List CD} {vs1 vs2 : List Value} (h : LayL w S1 cs1 vs1) (hs : LayL w S2 cs2 vs2) (h1 : ∀ j, S1 j → S j) (h2 : ∀ j, S2 j → S j) (h3 : ∀ j, S1 j → S2 j → False) : LayL w S (cs1 ++ cs2) (vs1 ++ vs2) := by
  induction cs1 generalizing vs1 S1 S with
  | nil => obtain rfl := h.inv0; exact hs.mono h2
  | cons c cs ih =>
    obtain ⟨v, vs, A, B, rfl, a1, a2, a3, a4, a5⟩ := h.inv
    exact LayL.cons (S2 := fun j => B j ∨ S2 j) a1 (ih a2 (fun j hj => .inl hj) (fun j hj => .inr hj) (fun j a b => h3 j (a4 j a) b)) (fun j hj => h1 j (a3 j hj)) (fun j hj => hj.elim (fun k => h1 j (a4 j k)) (h2 j)) (fun j a b => b.elim (a5 j a) (h3 j (a3 j a)))
theorem Frg.wrI0 {w0 w w' : World} {post : List Fact} {g : Nat} {t : TypeId} {cs cs' : Array Value} (h : Frg w0 w (rowF g t cs :: post)) (k : Wrote w w' g t cs') : Frg w0 w' (rowF g t cs' :: post) := Frg.wrote [] h k
theorem Frg.wrI1 {w0 w w' : World} {b0 : Fact} {post : List Fact} {g : Nat} {t : TypeId} {cs cs' : Array Value} (h : Frg w0 w (b0 :: rowF g t cs :: post)) (k : Wrote w w' g t cs') : Frg w0 w' (b0 :: rowF g t cs' :: post) := Frg.wrote [b0] h k
theorem Frg.wrI2 {w0 w w' : World} {b0 b1 : Fact} {post : List Fact} {g : Nat} {t : TypeId} {cs cs' : Array Value} (h : Frg w0 w (b0 :: b1 :: rowF g t cs :: post)) (k : Wrote w w' g t cs') : Frg w0 w' (b0 :: b1 :: rowF g t cs' :: post) := Frg.wrote [b0, b1] h k
theorem Frg.wrI3 {w0 w w' : World} {b0 b1 b2 : Fact} {post : List Fact} {g : Nat} {t : TypeId} {cs cs' : Array Value} (h : Frg w0 w (b0 :: b1 :: b2 :: rowF g t cs :: post)) (k : Wrote w w' g t cs') : Frg w0 w' (b0 :: b1 :: b2 :: rowF g t cs' :: post) := Frg.wrote [b0, b1, b2] h k
theorem Frg.wrI4 {w0 w w' : World} {b0 b1 b2 b3 : Fact} {post : List Fact} {g : Nat} {t : TypeId} {cs cs' : Array Value} (h : Frg w0 w (b0 :: b1 :: b2 :: b3 :: rowF g t cs :: post)) (k : Wrote w w' g t cs') : Frg w0 w' (b0 :: b1 :: b2 :: b3 :: rowF g t cs' :: post) := Frg.wrote [b0, b1, b2, b3] h k
theorem Frg.wrI5 {w0 w w' : World} {b0 b1 b2 b3 b4 : Fact} {post : List Fact} {g : Nat} {t : TypeId} {cs cs' : Array Value} (h : Frg w0 w (b0 :: b1 :: b2 :: b3 :: b4 :: rowF g t cs :: post)) (k : Wrote w w' g t cs') : Frg w0 w' (b0 :: b1 :: b2 :: b3 :: b4 :: rowF g t cs' :: post) := Frg.wrote [b0, b1, b2, b3, b4] h k
theorem Frg.wrI6 {w0 w w' : World} {b0 b1 b2 b3 b4 b5 : Fact} {post : List Fact} {g : Nat} {t : TypeId} {cs cs' : Array Value} (h : Frg w0 w (b0 :: b1 :: b2 :: b3 :: b4 :: b5 :: rowF g t cs :: post)) (k : Wrote w w' g t cs') : Frg w0 w' (b0 :: b1 :: b2 :: b3 :: b4 :: b5 :: rowF g t cs' :: post) := Frg.wrote [b0, b1, b2, b3, b4, b5] h k
theorem Frg.wrI7 {w0 w w' : World} {b0 b1 b2 b3 b4 b5 b6 : Fact} {post : List Fact} {g : Nat} {t : TypeId} {cs cs' : Array Value} (h : Frg w0 w (b0 :: b1 :: b2 :: b3 :: b4 :: b5 :: b6 :: rowF g t cs :: post)) (k : Wrote w w' g t cs') : Frg w0 w' (b0 :: b1 :: b2 :: b3 :: b4 :: b5 :: b6 :: rowF g t cs' :: post) := Frg.wrote [b0, b1, b2, b3, b4, b5, b6] h k
theorem Frg.wrI8 {w0 w w' : World} {b0 b1 b2 b3 b4 b5 b6 b7 : Fact} {post : List Fact} {g : Nat} {t : TypeId} {cs cs' : Array Value} (h : Frg w0 w (b0 :: b1 :: b2 :: b3 :: b4 :: b5 :: b6 :: b7 :: rowF g t cs :: post)) (k : Wrote w w' g t cs') : Frg w0 w' (b0 :: b1 :: b2 :: b3 :: b4 :: b5 :: b6 :: b7 :: rowF g t cs' :: post) := Frg.wrote [b0, b1, b2, b3, b4, b5, b6, b7] h k
theorem Frg.wrI9 {w0 w w' : World} {b0 b1 b2 b3 b4 b5 b6 b7 b8 : Fact} {post : List Fact} {g : Nat} {t : TypeId} {cs cs' : Array Value} (h : Frg w0 w (b0 :: b1 :: b2 :: b3 :: b4 :: b5 :: b6 :: b7 :: b8 :: rowF g t cs :: post)) (k : Wrote w w' g t cs') : Frg w0 w' (b0 :: b1 :: b2 :: b3 :: b4 :: b5 :: b6 :: b7 :: b8 :: rowF g t cs' :: post) := Frg.wrote [b0, b1, b2, b3, b4, b5, b6, b7, b8] h k
section
variable {P : Program} {w : World} {ops : Array Oper} {rest : List Oper} {o : Oper} {a : Act} {Q : Exit → Act → World → Prop}
/-- The address of an element. -/
theorem wpList_indexW (hg : o.guard = none) {t : TypeId} {x y : Operand} (hop : o.op = .indexAddr t x y) {p : Addr} {n cap sz i : Nat} {kk : IntKind} {e : TypeId} (hx : a.eval x = .slice (some p) n cap) (hy : a.eval y = .int kk (i : Int)) (hu : P.underlying t = some (.slice e)) (hs : (P.info? e).map (·.size) = some sz) (hi : i < n)
    (h : wpList P ops Q rest (a.put o.dst (.pointer (some (p.add (i * sz))))) w) : wpList P ops Q (o :: rest) a w := by
  refine wpList_plain hg fun K hK' => ?_
  unfold Oper.wp
  cases hq : P.info? e with
  | none => simp [hq] at hs
  | some inf =>
    have hz : inf.size = sz := by simpa [hq] using hs
    have h2 : (i : Int) < (n : Int) := by omega
    simp [execOp, hop, hx, hy, Instr.indexAt, asIntOf, run_underlying hu, sizeOf, typeInfo, hq, hz, h2, hi, Result.andThen]
    exact hK' _ _ h
/-- A wide value is loaded, from wherever. -/
theorem wpList_loadW (hg : o.guard = none) {ty : TypeId} {x : Operand} (hop : o.op = .load ty x) {p : Addr} (hx : a.eval x = .pointer (some p)) (vs : List Value) (hc : ∀ j v, vs[j]? = some v → w.cell? (p.add j) = some v) {d : TypeDesc} (hu : P.underlying ty = some d) (hd : d.isRow = true) {sz : Nat} (hs : (P.info? ty).map (·.size) = some sz) (hl : vs.length = sz)
    (h : wpList P ops Q rest (a.put o.dst (.agg vs.toArray)) w) : wpList P ops Q (o :: rest) a w := by
  refine wpList_plain hg fun K hK' => ?_
  unfold Oper.wp execOp
  have hl' : (loadCells p vs.length).run P w = .ok vs.toArray w := run_loadCells_list (P := P) w p vs hc
  cases hq : P.info? ty with
  | none => simp [hq] at hs
  | some inf =>
    have hz : inf.size = vs.length := by simp [hq] at hs; omega
    have hagg : (isAgg ty).run P w = .ok true w := by
      unfold isAgg
      rw [Sem.run_bind, run_underlying hu w]
      cases d <;> simp_all
    simp [hop, hx, Instr.loadAt, Instr.sureAddr, loadVar, Sem.run_bind, hagg, sizeOf, typeInfo, hq, hz, hl', Result.andThen]
    exact hK' _ _ h
/-- The length of any slice. -/
theorem wpList_lenC (hg : o.guard = none) {x : Operand} {t : TypeId} (hop : o.op = Op.call { callee := Callee.builtin Builtin.len, args := #[x], argTypes := #[t] }) {v : Value} (hx : a.eval x = v) {e : TypeId} (hu : P.underlying t = some (.slice e)) {w1 : World} {B wd : Nat} {y : Nat → CD} {n : Nat} (hv : (CD.sl wd n y).Rd w1 B v)
    (h : wpList P ops Q rest (a.put o.dst (.int .i64 n)) w) : wpList P ops Q (o :: rest) a w := by
  refine wpList_plain hg fun K hK' => ?_
  unfold Oper.wp
  rcases hv.form with ⟨rfl, rfl⟩ | ⟨ad, cap, rfl, _, _⟩
  all_goals
    simp [execOp, hop, hx, Result.andThen, resolve, invoke, builtin, Builtin.len_, run_underlying hu]
    exact hK' _ _ h
end
section
variable {E : Ext} {P : Program} {ops : Array Oper} {W : World} {K : FuncId → Array Value → World → Value → Prop} {Q : Act → World → Prop} {F : Facts} {k : Nat} {o : Oper} {rest : List Oper} {a : Act}
theorem wpFreeD_indexW (hg : o.guard = none) {t : TypeId} {x y : Operand} (hop : o.op = .indexAddr t x y) {p : Addr} {n cap sz i : Nat} {kk : IntKind} {e : TypeId} (hx : a.eval x = .slice (some p) n cap) (hy : a.eval y = .int kk (i : Int)) (hu : P.underlying t = some (.slice e)) (hs : (P.info? e).map (·.size) = some sz) (hi : i < n)
    (h : wpFreeD E P ops .any W K Q rest (k + 1) (a.put o.dst (.pointer (some (p.add (i * sz))))) (F.with k (fun _ => True))) : wpFreeD E P ops .any W K Q (o :: rest) k a F := by
  refine wpFreeD_one hg (.pointer (some (p.add (i * sz)))) (fun w _ => ?_) h
  cases hq : P.info? e with
  | none => simp [hq] at hs
  | some inf =>
    have hz : inf.size = sz := by simpa [hq] using hs
    have h2 : (i : Int) < (n : Int) := by omega
    simp [execOp, hop, hx, hy, Instr.indexAt, asIntOf, run_underlying hu, sizeOf, typeInfo, hq, hz, h2, hi, Result.andThen]
theorem wpFreeD_loadW (hg : o.guard = none) {ty : TypeId} {x : Operand} (hop : o.op = .load ty x) {p : Addr} (hx : a.eval x = .pointer (some p)) (vs : List Value) (hc : ∀ w, E.R W w → ∀ j v, vs[j]? = some v → w.cell? (p.add j) = some v) {d : TypeDesc} (hu : P.underlying ty = some d) (hd : d.isRow = true) {sz : Nat} (hs : (P.info? ty).map (·.size) = some sz) (hl : vs.length = sz)
    (h : wpFreeD E P ops .any W K Q rest (k + 1) (a.put o.dst (.agg vs.toArray)) (F.with k (fun _ => True))) : wpFreeD E P ops .any W K Q (o :: rest) k a F := by
  refine wpFreeD_one hg (.agg vs.toArray) (fun w hw => ?_) h
  have hl' : (loadCells p vs.length).run P w = .ok vs.toArray w := run_loadCells_list (P := P) w p vs (hc w hw)
  cases hq : P.info? ty with
  | none => simp [hq] at hs
  | some inf =>
    have hz : inf.size = vs.length := by simp [hq] at hs; omega
    have hagg : (isAgg ty).run P w = .ok true w := by
      unfold isAgg
      rw [Sem.run_bind, run_underlying hu w]
      cases d <;> simp_all
    simp [execOp, hop, hx, Instr.loadAt, Instr.sureAddr, loadVar, Sem.run_bind, hagg, sizeOf, typeInfo, hq, hz, hl', Result.andThen]
end
end Go.Fk

/- Cells of slices that one may write. Nothing here names a program. -/
namespace Go.Fk
open Go Go.RowKit
theorem OwnS.form {w : World} {lo hi n : Nat} {s : Value} {x : Nat → Nat} (h : OwnS w lo hi s x n) (hn : 1 ≤ n) : ∃ b o cap, s = .slice (some ⟨b, o, none⟩) n cap ∧ n ≤ cap ∧ cap ≤ maxLen ∧ lo ≤ b ∧ b < hi := by
  rcases h with ⟨_, rfl⟩ | ⟨b, o, cap, cs, h1, h2, h3, h4, h5, _⟩
  · omega
  · exact ⟨b, o, cap, h1, h2, h3, h4, h5⟩
theorem OwnS.at {w : World} {lo hi b o n cap : Nat} {x : Nat → Nat} (h : OwnS w lo hi (.slice (some ⟨b, o, none⟩) n cap) x n) {i : Nat} (hi' : i < n) : ∃ y, w.cell? ⟨b, o + i, none⟩ = some (.float .f32 y) ∧ w.frozen? ⟨b, o + i, none⟩ = false ∧ fits .f32 y ∧ can .f32 y = x i := by
  rcases h with ⟨h0, _⟩ | ⟨b', o', cap', cs, h1, h2, h3, h4, h5, h6, h7⟩
  · cases h0
  · simp only [Value.slice.injEq, Option.some.injEq, Addr.mk.injEq, and_true, true_and] at h1
    obtain ⟨⟨rfl, rfl⟩, rfl⟩ := h1
    obtain ⟨y, e1, e2, e3⟩ := h7 i hi'
    exact ⟨y, (h6.cell? (o + i)).trans e1, h6.frozen (o + i), e2, e3⟩
theorem OwnS.set {w : World} {lo hi b o n cap : Nat} {x : Nat → Nat} (h : OwnS w lo hi (.slice (some ⟨b, o, none⟩) n cap) x n) {i a : Nat} (hi' : i < n) (ha : fits .f32 a) :
    OwnS (w.setCell ⟨b, o + i, none⟩ (.float .f32 a)) lo hi (.slice (some ⟨b, o, none⟩) n cap) (pushX x i a) n ∧ Chg (rng lo hi) w (w.setCell ⟨b, o + i, none⟩ (.float .f32 a)) := by
  rcases h with ⟨h0, _⟩ | ⟨b', o', cap', cs, h1, h2, h3, h4, h5, h6, h7⟩
  · cases h0
  · simp only [Value.slice.injEq, Option.some.injEq, Addr.mk.injEq, and_true, true_and] at h1
    obtain ⟨⟨rfl, rfl⟩, rfl⟩ := h1
    refine ⟨.inr ⟨b, o, cap, cs.setIfInBounds (o + i) (.float .f32 a), rfl, h2, h3, h4, h5, h6.set _ _, fun j hj => ?_⟩, (Chg.refl _ _).setCell (a := ⟨b, o + i, none⟩) ⟨h4, h5⟩ _⟩
    obtain ⟨y0, e0, _⟩ := h7 i hi'
    have hlt : o + i < cs.size := (Array.getElem?_eq_some_iff.1 e0).1
    by_cases e : j = i
    · subst e
      exact ⟨a, by simp [hlt], ha, by simp [pushX]⟩
    · obtain ⟨y, e1, e2, e3⟩ := h7 j hj
      exact ⟨y, by rw [Array.getElem?_setIfInBounds_ne (by omega)]; exact e1, e2, by simp [pushX, e, e3]⟩
namespace Frg
variable {w0 w w' : World}
theorem chg0 {e e' : Fact} {post : List Fact} (h : Frg w0 w (e :: post)) (k : Chg (rng e.lo e.hi) w w') (hp : e'.p w') (h1 : e'.lo = e.lo) (h2 : e'.hi = e.hi) : Frg w0 w' (e' :: post) := chg [] h k hp h1 h2
theorem chg1 {b0 e e' : Fact} {post : List Fact} (h : Frg w0 w (b0 :: e :: post)) (k : Chg (rng e.lo e.hi) w w') (hp : e'.p w') (h1 : e'.lo = e.lo) (h2 : e'.hi = e.hi) : Frg w0 w' (b0 :: e' :: post) := chg [b0] h k hp h1 h2
end Frg
/-- The first k samples are 0. -/
def zeroTo (k : Nat) (x : Nat → Nat) : Nat → Nat := fun i => if i < k then 0 else x i
theorem zeroTo_0 (x : Nat → Nat) : zeroTo 0 x = x := by funext i; simp [zeroTo]
theorem zeroTo_s (k : Nat) (x : Nat → Nat) : pushX (zeroTo k x) k 0 = zeroTo (k + 1) x := by
  funext i
  unfold pushX zeroTo
  by_cases e : i = k
  · subst e; simp; decide
  · by_cases l : i < k
    · simp [e, l, show i < k + 1 by omega]
    · simp [e, l, show ¬ i < k + 1 by omega]
end Go.Fk

/- 'RunFilter' of both. -/
namespace Go.Proofs.Ytmacednkpjfokaa
open Go.RowKit Go.Fk
set_option maxRecDepth 100000 in
set_option maxHeartbeats 4000000 in
theorem i_RunFilter_yes (k : Int) (a b c x y : Nat) (z : Nat → Nat) (w : World) (hv : okF k a b c x y = true) (hf : fits .f32 a ∧ fits .f32 b ∧ fits .f32 c ∧ fits .f32 x ∧ fits .f32 y) (hz : ∀ j, j < 16 → fits .f32 (z j)) :
    Calls Try.prog 16 #[(.agg #[.int .i64 k, .float .f32 a, .float .f32 b, .float .f32 c, .float .f32 x, .float .f32 y]), .agg (ftab .f32 z 16)] w (OutRF k a b c x y z w) := by
  have Hf := hid hf; have Hz := hid hz; clear hf hz
  have hV := hid (fun w => i_ValidFilter k a b c x y w Hf.out)
  have HK := hid (okF_kind hv)
  rw [hv] at hV
  clear hv
  have F := ((((Frg.nil w).box 28 (#[.int .i64 k, .float .f32 a, .float .f32 b, .float .f32 c, .float .f32 x, .float .f32 y] : Array Value)).box 29 (ftab .f32 z 16)).box 28 (#[.int .i64 0, .float .f32 0, .float .f32 0, .float .f32 0, .float .f32 0, .float .f32 0] : Array Value)).box 29 #[.float .f32 0, .float .f32 0, .float .f32 0, .float .f32 0, .float .f32 0, .float .f32 0, .float .f32 0, .float .f32 0, .float .f32 0, .float .f32 0, .float .f32 0, .float .f32 0, .float .f32 0, .float .f32 0, .float .f32 0, .float .f32 0]
  simp only [World.size_alloc] at F
  go_enter Try.func16, Try.ntmps16
  go_wp2_with (first | ((with_reducible refine at_loadU rfl rfl ?_); first | (with_reducible refine wpList_loadG F rfl rfl rfl (by first | exact m0 | exact m1 | exact m2 | exact m3 | exact m4) Try.underlying28 rfl infoFil rfl ?_) | (with_reducible refine wpList_loadG F rfl rfl rfl (by first | exact m0 | exact m1 | exact m2 | exact m3 | exact m4) Try.underlying29 rfl infoBlk (size_ftab _ _ _) ?_)) | (go_at_call 51; ((with_reducible refine (hV.out _).mono ?_); rintro e w1 ⟨rfl, hb1⟩; replace F := F.le hb1; clear hb1)) | (go_at_call 52; ((with_reducible refine (i_newRunner _ _ _ _ _ _ _ HK.out).mono ?_); rintro e w2 ⟨g, rfl, hg, hR, hl⟩; replace F := F.push (e := rowF g 88 #[mdl k a b c, .float .f32 x, .float .f32 y]) hl hR hg hR.lt; clear hl hg hR)) | (go_at_call 53; ((with_reducible refine (i_blockR g (g + 1) g k a b c x y z _ (RnS.of (F.row m0) Hf.out.2.2.2.1 (Nat.le_refl _) (Nat.lt_succ_self _)) HK.out (by have := (F.row m0).lt; omega) Hz.out).mono ?_); rintro e w3 ⟨h, rfl, hh, hlp, hch⟩; rw [runS_congr (z' := z) (fun i _ => can_can _ _)] at hlp; replace F := F.chg0 (e' := rowF g 88 #[mdl k a b c, .float .f32 (runS k a b c x y z 16).1, .float .f32 (runS k a b c x y z 16).2]) hch hlp.1 rfl rfl; have HH := hid hh; clear hlp hch hh)) | ((with_reducible refine stop_store rfl ?_)))
  have HJ : Hid (∀ j, j < 16 → can .f32 (h j) = runO k a b c x y z j) := fun j hj => ((HH.out j hj).2).trans (runO_congr (fun i => can_can _ _))
  clear HH
  replace F := F.box 29 #[.float .f32 0, .float .f32 0, .float .f32 0, .float .f32 0, .float .f32 0, .float .f32 0, .float .f32 0, .float .f32 0, .float .f32 0, .float .f32 0, .float .f32 0, .float .f32 0, .float .f32 0, .float .f32 0, .float .f32 0, .float .f32 0]
  show wpList _ _ _ _ _ _
  refine wpList_storeD rfl rfl rfl (cells := ftab .f32 h 16) rfl (F.row m0) (by rw [size_ftab]; exact infoBlk) (by rw [size_ftab]; rfl) (one_ftab _ _ _) (fun w4 K => ?_)
  replace F := F.wr0 K
  clear K
  go_wp2_with (first | ((with_reducible refine at_loadU rfl rfl ?_); (with_reducible refine wpList_loadGP F rfl rfl rfl m1 Try.underlying24 rfl [.float .f32 (runS k a b c x y z 16).1, .float .f32 (runS k a b c x y z 16).2] part12 info2 rfl ?_)) | ((with_reducible refine stop_store rfl ?_)))
  show wpList _ _ _ _ _ _
  refine wpList_storeP rfl rfl rfl (f := 4) (cells := [.float .f32 (runS k a b c x y z 16).1, .float .f32 (runS k a b c x y z 16).2]) rfl (F.row m5) info2 (by simp) (by simp [Value.oneCell']) (fun w5 K => ?_)
  replace F := F.wrI5 (cs' := (#[.int .i64 k, .float .f32 a, .float .f32 b, .float .f32 c, .float .f32 (runS k a b c x y z 16).1, .float .f32 (runS k a b c x y z 16).2] : Array Value)) K
  clear K
  go_wp2
  have z8 := (F.facts _ m0).1
  have p8 := (List.pairwise_cons.1 F.apart).1 _ m1
  have p8' : w.heap.size + 1 + 1 + 1 + 1 ≤ w3.heap.size := p8
  obtain ⟨T, hT⟩ : ∃ T : List (Nat × TypeId × Array Value), T = [(w.heap.size + 1 + 1, 28, (#[.int .i64 k, .float .f32 a, .float .f32 b, .float .f32 c, .float .f32 (runS k a b c x y z 16).1, .float .f32 (runS k a b c x y z 16).2] : Array Value)), (w.heap.size + 1 + 1 + 1, 29, ftab .f32 h 16)] := ⟨_, rfl⟩
  have hd : ∀ x ∈ T, ∀ y ∈ T, x.1 = y.1 → x = y := by
    rw [hT]; intro x hx y hy e
    simp only [List.mem_cons, List.not_mem_nil, or_false] at hx hy
    rcases hx with rfl | rfl <;> rcases hy with rfl | rfl <;> first | rfl | (simp only [] at e; omega)
  have q1 : (w.heap.size + 1 + 1, 28, (#[.int .i64 k, .float .f32 a, .float .f32 b, .float .f32 c, .float .f32 (runS k a b c x y z 16).1, .float .f32 (runS k a b c x y z 16).2] : Array Value)) ∈ T := by rw [hT]; exact List.mem_cons_self
  have q2 : (w.heap.size + 1 + 1 + 1, 29, ftab .f32 h 16) ∈ T := by rw [hT]; exact List.mem_cons_of_mem _ List.mem_cons_self
  have n0 : ∀ x ∈ T, x.1 ≠ w.heap.size := by rw [hT]; intro x hx; simp only [List.mem_cons, List.not_mem_nil, or_false] at hx; rcases hx with rfl | rfl <;> simp only [ne_eq] <;> omega
  have n1 : ∀ x ∈ T, x.1 ≠ w3.heap.size := by rw [hT]; intro x hx; simp only [List.mem_cons, List.not_mem_nil, or_false] at hx; rcases hx with rfl | rfl <;> simp only [ne_eq] <;> omega
  have b0 : ∀ x ∈ T, w.heap.size ≤ x.1 := by rw [hT]; intro x hx; simp only [List.mem_cons, List.not_mem_nil, or_false] at hx; rcases hx with rfl | rfl <;> simp only [] <;> omega
  clear hT p8 p8' z8
  have F1 := F.drewN 1
  refine region_freeT (E := finX T) (fun _ _ _ _ => True) (by kernel_rfl) (by kernel_rfl) ?_
  refine wpFreeT_load rfl rfl rfl (F1.row m5) n0 Try.underlying28 rfl infoFil rfl ?_
  simp only [Act.put, List.setIfInBounds_toArray, List.set_cons_succ, List.set_cons_zero]
  refine wpFreeT_load rfl rfl rfl (F1.row m0) n1 Try.underlying29 rfl infoBlk (size_ftab _ _ _) ?_
  simp only [Act.put, List.setIfInBounds_toArray, List.set_cons_succ, List.set_cons_zero]
  refine wpFreeT_store rfl rfl rfl rfl q1 hd (F1.row m3) rfl infoFil rfl (by simp [Value.oneCell']) ?_
  simp only [Act.put, List.setIfInBounds_toArray, List.set_cons_succ, List.set_cons_zero]
  refine wpFreeT_store rfl rfl rfl rfl q2 hd (F1.row m2) (by rw [size_ftab]; rfl) infoBlk (size_ftab _ _ _) (one_ftab _ _ _) ?_
  simp only [Act.put, List.setIfInBounds_toArray, List.set_cons_succ, List.set_cons_zero]
  refine wpFree_oneT rfl (.int .i64 0) (fun w1 _ => by kernel_rfl) ?_
  simp only [Act.put, List.setIfInBounds_toArray, List.set_cons_succ, List.set_cons_zero]
  refine wpFree_nilT (fun w5 hw5 hF => ?_)
  obtain ⟨⟨_, r1⟩, r2⟩ := hF
  have L := hid (F1.below.trans (finX_below hw5 b0 F1.size))
  have R1 := hid r1; have R2 := hid r2
  clear hw5 F F1 hd q1 q2 n0 n1 b0 r1 r2
  go_wp2
  exact bodyPost_ret (results_cct rfl _ _ _ _ _ _ _ _ rfl R1.out Try.underlying28 rfl infoFil rfl R2.out Try.underlying29 rfl (by rw [size_ftab]; exact infoBlk)) rfl ⟨h, rfl, HJ.out, L.out⟩
def OutLR (k : Int) (a b c x y : Nat) (z : Nat → Nat) (g : Nat) (w : World) (e : Ending) (w' : World) : Prop := ∃ h : Nat → Nat, e = .returned (.agg (ftab .f32 h 16)) ∧ (∀ j, j < 16 → can .f32 (h j) = runO k a b c x y z j) ∧ (∀ j, j < 16 → fits .f32 (h j)) ∧ Row w' g 28 (#[.int .i64 k, .float .f32 a, .float .f32 b, .float .f32 c, .float .f32 (runS k a b c x y z 16).1, .float .f32 (runS k a b c x y z 16).2] : Array Value) ∧ Upd g w w'
set_option maxHeartbeats 4000000 in
theorem s_l02Run (k : Int) (a b c x y : Nat) (z : Nat → Nat) (g : Nat) (w : World) (hv : okF k a b c x y = true) (R : Row w g 28 (#[.int .i64 k, .float .f32 a, .float .f32 b, .float .f32 c, .float .f32 x, .float .f32 y] : Array Value)) (hx : fits .f32 x) (hy : fits .f32 y) (hz : ∀ j, j < 16 → fits .f32 (z j)) :
    Calls Try.prog 48 #[.pointer (some ⟨g, 0, none⟩), .agg (ftab .f32 z 16)] w (OutLR k a b c x y z g w) := by
  have Hz := hid hz
  have HV := hid (fun n => okF_runS z hv n)
  have HN := hid (fun n (hn : n ≤ 16) => fits_runS (k := k) (a := a) (b := b) (c := c) hx hy hz n hn)
  clear hz hv hx hy
  have hgl := hid R.lt
  have F := ((Frm.one R).box 29 (ftab .f32 z 16)).box 29 #[.float .f32 0, .float .f32 0, .float .f32 0, .float .f32 0, .float .f32 0, .float .f32 0, .float .f32 0, .float .f32 0, .float .f32 0, .float .f32 0, .float .f32 0, .float .f32 0, .float .f32 0, .float .f32 0, .float .f32 0, .float .f32 0]
  simp only [World.size_alloc] at F
  have RG := hid (F.row (g := g) (t := 28) (cs := (#[.int .i64 k, .float .f32 a, .float .f32 b, .float .f32 c, .float .f32 x, .float .f32 y] : Array Value)) (by simp))
  have RB := hid (F.row (g := w.heap.size) (t := 29) (cs := ftab .f32 z 16) (by simp))
  have RO := hid (F.row (g := w.heap.size + 1) (t := 29) (cs := #[.float .f32 0, .float .f32 0, .float .f32 0, .float .f32 0, .float .f32 0, .float .f32 0, .float .f32 0, .float .f32 0, .float .f32 0, .float .f32 0, .float .f32 0, .float .f32 0, .float .f32 0, .float .f32 0, .float .f32 0, .float .f32 0]) (by simp))
  have U := hid (Upd.of_le (g := g) F.below)
  clear F R
  go_enter Try.func48, Try.ntmps48
  go_wp2
  go_loopw [5] (fun i wr => ∃ j : Nat, j ≤ 16 ∧ i = .int .i64 j ∧ ∃ h : Nat → Nat, Hid (∀ i, i < j → can .f32 (h i) = runO k a b c x y z i ∧ fits .f32 (h i)) ∧ Hid (Row wr g 28 (#[.int .i64 k, .float .f32 a, .float .f32 b, .float .f32 c, .float .f32 (runS k a b c x y z j).1, .float .f32 (runS k a b c x y z j).2] : Array Value)) ∧ Hid (Row wr w.heap.size 29 (ftab .f32 (upto j h z) 16)) ∧ Hid (Row wr (w.heap.size + 1) 29 #[.float .f32 0, .float .f32 0, .float .f32 0, .float .f32 0, .float .f32 0, .float .f32 0, .float .f32 0, .float .f32 0, .float .f32 0, .float .f32 0, .float .f32 0, .float .f32 0, .float .f32 0, .float .f32 0, .float .f32 0, .float .f32 0]) ∧ Hid (Upd g w wr)) (fun i _ => 16 - (intOf i).toNat)
  case atStart => exact ⟨0, by omega, rfl, fun _ => 0, fun m hm => absurd hm (by omega), RG, by rw [upto_zero]; exact RB, RO, U⟩
  case round =>
    clear RG RB RO U
    obtain ⟨j, hj, rfl, h, HJ, RG, RB, RO, U⟩ := hrel
    by_cases hlt : j < 16
    · have c0 := RB.out.ftab hlt
      rw [show upto j h z j = z j by simp [upto]] at c0
      have HX := hid (HN.out j (by omega)).1
      have hzj := hid (Hz.out j hlt)
      go_wp2_with (first | (go_at_call 58; ((with_reducible refine (s_Step _ _ _ _ _ _ _ _ _ (HV.out _) RG.out HX.out hzj.out).mono ?_); rintro e w3 ⟨r, rfl, hr, fr, hR, hU⟩; replace hr := hid (And.intro hr fr); clear fr; have hg1 := hgl.out; replace RB := hU.row RB.out (by omega); replace RO := hid (hU.row RO.out (by omega)); replace U := hid (U.out.trans hU); clear hg1; replace RG := hid hR; have cc := RB.ftab hlt; have ff := RB.frozen j; replace RB := hid RB; clear hR hU c0)))
      go_roundw
      case rel =>
        have hg1 := hgl.out
        refine ⟨j + 1, by omega, by go_num, fun i => if i = j then r else h i, fill_step (p := fun i v => can .f32 v = runO k a b c x y z i ∧ fits .f32 v) HJ.out hr.out, RG.out.other _ _ (by simp only []; omega), ?_, RO.out.other _ _ (by simp), U.out.setCellNew (by simp) _⟩
        have := RB.out.set j (.float .f32 r)
        rw [set_ftab, upto_set] at this
        exact this
      case measure => simp [intOf]; omega
    · obtain rfl : j = 16 := by omega
      rw [upto_full] at RB
      have RB' := RB.out
      go_wp2_with (first | (with_reducible refine wpList_loadDn rfl rfl rfl RB' Try.underlying29 rfl infoBlk (size_ftab _ _ _) ?_) | ((with_reducible refine stop_store rfl ?_)))
      show wpList _ _ _ _ _ _
      refine wpList_storeD rfl rfl rfl (cells := ftab .f32 h 16) rfl RO.out (by rw [size_ftab]; exact infoBlk) (by rw [size_ftab]; rfl) (one_ftab _ _ _) (fun w7 KW => ?_)
      have hg1 := hgl.out
      have r1 := hid KW.row
      have r2 := hid (KW.other _ _ _ (by omega) RG.out)
      have u2 := hid (U.out.wrote KW (by omega))
      clear KW hg1
      go_wp2
      exact bodyPost_ret (results_row1 rfl _ _ _ _ _ rfl r1.out Try.underlying29 rfl (by rw [size_ftab]; exact infoBlk)) rfl ⟨h, rfl, fun j hj => (HJ.out j hj).1, fun j hj => (HJ.out j hj).2, r2.out, u2.out⟩
set_option maxHeartbeats 4000000 in
theorem s_RunFilter_yes (k : Int) (a b c x y : Nat) (z : Nat → Nat) (w : World) (hv : okF k a b c x y = true) (hx : fits .f32 x) (hy : fits .f32 y) (hz : ∀ j, j < 16 → fits .f32 (z j)) :
    Calls Try.prog 13 #[(.agg #[.int .i64 k, .float .f32 a, .float .f32 b, .float .f32 c, .float .f32 x, .float .f32 y]), .agg (ftab .f32 z 16)] w (OutRF k a b c x y z w) := by
  have hV := hid (fun g w (R : Row w g 28 (#[.int .i64 k, .float .f32 a, .float .f32 b, .float .f32 c, .float .f32 x, .float .f32 y] : Array Value)) => s_Ok k a b c x y g w R)
  have hL := hid (fun g w (R : Row w g 28 (#[.int .i64 k, .float .f32 a, .float .f32 b, .float .f32 c, .float .f32 x, .float .f32 y] : Array Value)) => s_l02Run k a b c x y z g w hv R hx hy hz)
  rw [hv] at hV
  clear hv hx hy hz
  have F := ((((Frm.nil w).box 28 (#[.int .i64 k, .float .f32 a, .float .f32 b, .float .f32 c, .float .f32 x, .float .f32 y] : Array Value)).box 29 (ftab .f32 z 16)).box 28 (#[.int .i64 0, .float .f32 0, .float .f32 0, .float .f32 0, .float .f32 0, .float .f32 0] : Array Value)).box 29 #[.float .f32 0, .float .f32 0, .float .f32 0, .float .f32 0, .float .f32 0, .float .f32 0, .float .f32 0, .float .f32 0, .float .f32 0, .float .f32 0, .float .f32 0, .float .f32 0, .float .f32 0, .float .f32 0, .float .f32 0, .float .f32 0]
  simp only [World.size_alloc] at F
  have hn2 : ∀ z' ∈ [(w.heap.size + 1 + 1 + 1, 29, (#[.float .f32 0, .float .f32 0, .float .f32 0, .float .f32 0, .float .f32 0, .float .f32 0, .float .f32 0, .float .f32 0, .float .f32 0, .float .f32 0, .float .f32 0, .float .f32 0, .float .f32 0, .float .f32 0, .float .f32 0, .float .f32 0] : Array Value)), (w.heap.size + 1 + 1, 28, (#[.int .i64 0, .float .f32 0, .float .f32 0, .float .f32 0, .float .f32 0, .float .f32 0] : Array Value))], z' ∈ [(w.heap.size + 1 + 1 + 1, 29, (#[.float .f32 0, .float .f32 0, .float .f32 0, .float .f32 0, .float .f32 0, .float .f32 0, .float .f32 0, .float .f32 0, .float .f32 0, .float .f32 0, .float .f32 0, .float .f32 0, .float .f32 0, .float .f32 0, .float .f32 0, .float .f32 0] : Array Value)), (w.heap.size + 1 + 1, 28, (#[.int .i64 0, .float .f32 0, .float .f32 0, .float .f32 0, .float .f32 0, .float .f32 0] : Array Value)), (w.heap.size + 1, 29, ftab .f32 z 16), (w.heap.size, 28, (#[.int .i64 k, .float .f32 a, .float .f32 b, .float .f32 c, .float .f32 x, .float .f32 y] : Array Value))] ∧ z'.1 ≠ w.heap.size := by
    intro z' hz'
    simp only [List.mem_cons, List.not_mem_nil, or_false] at hz'
    rcases hz' with rfl | rfl
    · exact ⟨by simp, by simp only [ne_eq]; omega⟩
    · exact ⟨by simp, by simp only [ne_eq]; omega⟩
  replace hn2 := hid hn2
  go_enter Try.func13, Try.ntmps13
  go_wp2_with (first | ((with_reducible refine at_load rfl ?_); first | (with_reducible refine wpList_loadFr F rfl rfl rfl (by first | exact List.mem_cons_self | exact List.mem_cons_of_mem _ (List.mem_cons_self) | exact List.mem_cons_of_mem _ (List.mem_cons_of_mem _ (List.mem_cons_self)) | exact List.mem_cons_of_mem _ (List.mem_cons_of_mem _ (List.mem_cons_of_mem _ (List.mem_cons_self))) | exact List.mem_cons_of_mem _ (List.mem_cons_of_mem _ (List.mem_cons_of_mem _ (List.mem_cons_of_mem _ (List.mem_cons_self)))) | exact List.mem_cons_of_mem _ (List.mem_cons_of_mem _ (List.mem_cons_of_mem _ (List.mem_cons_of_mem _ (List.mem_cons_of_mem _ (List.mem_cons_self))))) | exact List.mem_cons_of_mem _ (List.mem_cons_of_mem _ (List.mem_cons_of_mem _ (List.mem_cons_of_mem _ (List.mem_cons_of_mem _ (List.mem_cons_of_mem _ (List.mem_cons_self))))))) Try.underlying28 rfl infoFil (by simp [size_ftab]) ?_) | (with_reducible refine wpList_loadFr (F.box _ _) rfl rfl rfl (by first | exact List.mem_cons_self | exact List.mem_cons_of_mem _ (List.mem_cons_self) | exact List.mem_cons_of_mem _ (List.mem_cons_of_mem _ (List.mem_cons_self)) | exact List.mem_cons_of_mem _ (List.mem_cons_of_mem _ (List.mem_cons_of_mem _ (List.mem_cons_self))) | exact List.mem_cons_of_mem _ (List.mem_cons_of_mem _ (List.mem_cons_of_mem _ (List.mem_cons_of_mem _ (List.mem_cons_self)))) | exact List.mem_cons_of_mem _ (List.mem_cons_of_mem _ (List.mem_cons_of_mem _ (List.mem_cons_of_mem _ (List.mem_cons_of_mem _ (List.mem_cons_self))))) | exact List.mem_cons_of_mem _ (List.mem_cons_of_mem _ (List.mem_cons_of_mem _ (List.mem_cons_of_mem _ (List.mem_cons_of_mem _ (List.mem_cons_of_mem _ (List.mem_cons_self))))))) Try.underlying28 rfl infoFil (by simp [size_ftab]) ?_) | (with_reducible refine wpList_loadFr F rfl rfl rfl (by first | exact List.mem_cons_self | exact List.mem_cons_of_mem _ (List.mem_cons_self) | exact List.mem_cons_of_mem _ (List.mem_cons_of_mem _ (List.mem_cons_self)) | exact List.mem_cons_of_mem _ (List.mem_cons_of_mem _ (List.mem_cons_of_mem _ (List.mem_cons_self))) | exact List.mem_cons_of_mem _ (List.mem_cons_of_mem _ (List.mem_cons_of_mem _ (List.mem_cons_of_mem _ (List.mem_cons_self)))) | exact List.mem_cons_of_mem _ (List.mem_cons_of_mem _ (List.mem_cons_of_mem _ (List.mem_cons_of_mem _ (List.mem_cons_of_mem _ (List.mem_cons_self))))) | exact List.mem_cons_of_mem _ (List.mem_cons_of_mem _ (List.mem_cons_of_mem _ (List.mem_cons_of_mem _ (List.mem_cons_of_mem _ (List.mem_cons_of_mem _ (List.mem_cons_self))))))) Try.underlying29 rfl infoBlk (by simp [size_ftab]) ?_) | (with_reducible refine wpList_loadFr (F.box _ _) rfl rfl rfl (by first | exact List.mem_cons_self | exact List.mem_cons_of_mem _ (List.mem_cons_self) | exact List.mem_cons_of_mem _ (List.mem_cons_of_mem _ (List.mem_cons_self)) | exact List.mem_cons_of_mem _ (List.mem_cons_of_mem _ (List.mem_cons_of_mem _ (List.mem_cons_self))) | exact List.mem_cons_of_mem _ (List.mem_cons_of_mem _ (List.mem_cons_of_mem _ (List.mem_cons_of_mem _ (List.mem_cons_self)))) | exact List.mem_cons_of_mem _ (List.mem_cons_of_mem _ (List.mem_cons_of_mem _ (List.mem_cons_of_mem _ (List.mem_cons_of_mem _ (List.mem_cons_self))))) | exact List.mem_cons_of_mem _ (List.mem_cons_of_mem _ (List.mem_cons_of_mem _ (List.mem_cons_of_mem _ (List.mem_cons_of_mem _ (List.mem_cons_of_mem _ (List.mem_cons_self))))))) Try.underlying29 rfl infoBlk (by simp [size_ftab]) ?_)) | (go_at_call 47; ((with_reducible refine (hV.out _ _ (F.row (by simp))).mono ?_); rintro e w1 ⟨rfl, n1, rfl⟩; replace F := F.drewN n1)) | (go_at_call 48; ((with_reducible refine (hL.out _ _ (F.row (by simp))).mono ?_); rintro e w5 ⟨h, rfl, hh, _, hR, hU⟩; replace hh := hid hh; replace F := F.upd hR hU (Nat.le_refl _) hn2.out; clear hR hU)) | ((with_reducible refine stop_store rfl ?_)))
  have hlt5 : w.heap.size + 1 + 1 + 1 < w5.heap.size := F.lt (t := 29) (cs := #[.float .f32 0, .float .f32 0, .float .f32 0, .float .f32 0, .float .f32 0, .float .f32 0, .float .f32 0, .float .f32 0, .float .f32 0, .float .f32 0, .float .f32 0, .float .f32 0, .float .f32 0, .float .f32 0, .float .f32 0, .float .f32 0]) (by simp)
  show wpList _ _ _ _ _ _
  refine wpList_storeFr F rfl rfl rfl rfl rfl (by rw [size_ftab]; exact infoBlk) (by rw [size_ftab]; rfl) (one_ftab _ _ _) (fun w7 F7 => ?_)
  replace F := F7
  clear F7
  replace hlt5 := hid hlt5
  replace F := hid F
  go_wp2
  replace hlt5 := hlt5.out
  replace F := F.out
  obtain ⟨T, hT⟩ : ∃ T : List (Nat × TypeId × Array Value), T = [(w.heap.size + 1 + 1, 28, (#[.int .i64 k, .float .f32 a, .float .f32 b, .float .f32 c, .float .f32 (runS k a b c x y z 16).1, .float .f32 (runS k a b c x y z 16).2] : Array Value)), (w.heap.size + 1 + 1 + 1, 29, ftab .f32 h 16)] := ⟨_, rfl⟩
  have hd : ∀ x ∈ T, ∀ y ∈ T, x.1 = y.1 → x = y := by
    rw [hT]; intro x hx y hy e
    simp only [List.mem_cons, List.not_mem_nil, or_false] at hx hy
    rcases hx with rfl | rfl <;> rcases hy with rfl | rfl <;> first | rfl | (simp only [] at e; omega)
  have m1 : (w.heap.size + 1 + 1, 28, (#[.int .i64 k, .float .f32 a, .float .f32 b, .float .f32 c, .float .f32 (runS k a b c x y z 16).1, .float .f32 (runS k a b c x y z 16).2] : Array Value)) ∈ T := by rw [hT]; exact List.mem_cons_self
  have m2 : (w.heap.size + 1 + 1 + 1, 29, ftab .f32 h 16) ∈ T := by rw [hT]; exact List.mem_cons_of_mem _ List.mem_cons_self
  have n0 : ∀ x ∈ T, x.1 ≠ w.heap.size := by rw [hT]; intro x hx; simp only [List.mem_cons, List.not_mem_nil, or_false] at hx; rcases hx with rfl | rfl <;> simp only [ne_eq] <;> omega
  have n1 : ∀ x ∈ T, x.1 ≠ w5.heap.size := by rw [hT]; intro x hx; simp only [List.mem_cons, List.not_mem_nil, or_false] at hx; rcases hx with rfl | rfl <;> simp only [ne_eq] <;> omega
  have b0 : ∀ x ∈ T, w.heap.size ≤ x.1 := by rw [hT]; intro x hx; simp only [List.mem_cons, List.not_mem_nil, or_false] at hx; rcases hx with rfl | rfl <;> simp only [] <;> omega
  clear hT
  refine region_freeT (E := finX T) (fun _ _ _ _ => True) (by kernel_rfl) (by kernel_rfl) ?_
  refine wpFreeT_load rfl rfl rfl ((F.drewN 1).row (g := w.heap.size) (t := 28) (cs := (#[.int .i64 k, .float .f32 a, .float .f32 b, .float .f32 c, .float .f32 (runS k a b c x y z 16).1, .float .f32 (runS k a b c x y z 16).2] : Array Value)) (by simp)) n0 Try.underlying28 rfl infoFil rfl ?_
  simp only [Act.put, List.setIfInBounds_toArray, List.set_cons_succ, List.set_cons_zero]
  refine wpFreeT_load rfl rfl rfl ((F.drewN 1).row List.mem_cons_self) n1 Try.underlying29 rfl infoBlk (size_ftab _ _ _) ?_
  simp only [Act.put, List.setIfInBounds_toArray, List.set_cons_succ, List.set_cons_zero]
  refine wpFreeT_store rfl rfl rfl rfl m1 hd ((F.drewN 1).row (g := w.heap.size + 1 + 1) (t := 28) (cs := (#[.int .i64 0, .float .f32 0, .float .f32 0, .float .f32 0, .float .f32 0, .float .f32 0] : Array Value)) (by simp)) rfl infoFil rfl (by simp [Value.oneCell']) ?_
  simp only [Act.put, List.setIfInBounds_toArray, List.set_cons_succ, List.set_cons_zero]
  refine wpFreeT_store rfl rfl rfl rfl m2 hd ((F.drewN 1).row (g := w.heap.size + 1 + 1 + 1) (t := 29) (cs := #[.float .f32 0, .float .f32 0, .float .f32 0, .float .f32 0, .float .f32 0, .float .f32 0, .float .f32 0, .float .f32 0, .float .f32 0, .float .f32 0, .float .f32 0, .float .f32 0, .float .f32 0, .float .f32 0, .float .f32 0, .float .f32 0]) (by simp)) (by rw [size_ftab]; rfl) infoBlk (size_ftab _ _ _) (one_ftab _ _ _) ?_
  simp only [Act.put, List.setIfInBounds_toArray, List.set_cons_succ, List.set_cons_zero]
  refine wpFree_oneT rfl (.int .i64 0) (fun w1 _ => by kernel_rfl) ?_
  simp only [Act.put, List.setIfInBounds_toArray, List.set_cons_succ, List.set_cons_zero]
  refine wpFree_nilT (fun w6 hw5 hF => ?_)
  obtain ⟨⟨_, r1⟩, r2⟩ := hF
  have F7 : Frm w w6 [(w.heap.size + 1 + 1 + 1, 29, ftab .f32 h 16), (w.heap.size + 1 + 1, 28, (#[.int .i64 k, .float .f32 a, .float .f32 b, .float .f32 c, .float .f32 (runS k a b c x y z 16).1, .float .f32 (runS k a b c x y z 16).2] : Array Value))] := by
    refine ⟨(F.drewN 1).below.trans (finX_below hw5 b0 (F.drewN 1).size), fun x hx => ?_⟩
    simp only [List.mem_cons, List.not_mem_nil, or_false] at hx
    rcases hx with rfl | rfl
    · exact r2
    · exact r1
  clear hw5 F hd m1 m2 n0 n1 b0 r1 r2
  replace F7 := hid F7
  go_wp2
  exact bodyPost_ret (results_cct rfl _ _ _ _ _ _ _ _ rfl (F7.out.row (List.mem_cons_of_mem _ List.mem_cons_self)) Try.underlying28 rfl infoFil rfl (F7.out.row List.mem_cons_self) Try.underlying29 rfl (by rw [size_ftab]; exact infoBlk)) rfl ⟨h, rfl, hh.out, F7.out.below⟩
set_option maxHeartbeats 2000000 in
theorem i_RunFilter_no (k : Int) (a b c x y : Nat) (z : Nat → Nat) (w : World) (hv : okF k a b c x y = false) (hf : fits .f32 a ∧ fits .f32 b ∧ fits .f32 c ∧ fits .f32 x ∧ fits .f32 y) :
    Calls Try.prog 16 #[(.agg #[.int .i64 k, .float .f32 a, .float .f32 b, .float .f32 c, .float .f32 x, .float .f32 y]), .agg (ftab .f32 z 16)] w fun e w' => e = .returned (.tuple #[(.agg #[.int .i64 0, .float .f32 0, .float .f32 0, .float .f32 0, .float .f32 0, .float .f32 0]), .agg (ftab .f32 (fun _ => 0) 16), .int .i64 1]) ∧ le w w' := by
  have Hf := hid hf; clear hf
  have hV := hid (fun w => i_ValidFilter k a b c x y w Hf.out)
  rw [hv] at hV
  clear hv
  have F := ((((Frm.nil w).box 28 (#[.int .i64 k, .float .f32 a, .float .f32 b, .float .f32 c, .float .f32 x, .float .f32 y] : Array Value)).box 29 (ftab .f32 z 16)).box 28 (#[.int .i64 0, .float .f32 0, .float .f32 0, .float .f32 0, .float .f32 0, .float .f32 0] : Array Value)).box 29 #[.float .f32 0, .float .f32 0, .float .f32 0, .float .f32 0, .float .f32 0, .float .f32 0, .float .f32 0, .float .f32 0, .float .f32 0, .float .f32 0, .float .f32 0, .float .f32 0, .float .f32 0, .float .f32 0, .float .f32 0, .float .f32 0]
  simp only [World.size_alloc] at F
  go_enter Try.func16, Try.ntmps16
  go_wp2_with (first | ((with_reducible refine at_load rfl ?_); first | (with_reducible refine wpList_loadFr F rfl rfl rfl (by first | exact List.mem_cons_self | exact List.mem_cons_of_mem _ (List.mem_cons_self) | exact List.mem_cons_of_mem _ (List.mem_cons_of_mem _ (List.mem_cons_self)) | exact List.mem_cons_of_mem _ (List.mem_cons_of_mem _ (List.mem_cons_of_mem _ (List.mem_cons_self))) | exact List.mem_cons_of_mem _ (List.mem_cons_of_mem _ (List.mem_cons_of_mem _ (List.mem_cons_of_mem _ (List.mem_cons_self)))) | exact List.mem_cons_of_mem _ (List.mem_cons_of_mem _ (List.mem_cons_of_mem _ (List.mem_cons_of_mem _ (List.mem_cons_of_mem _ (List.mem_cons_self))))) | exact List.mem_cons_of_mem _ (List.mem_cons_of_mem _ (List.mem_cons_of_mem _ (List.mem_cons_of_mem _ (List.mem_cons_of_mem _ (List.mem_cons_of_mem _ (List.mem_cons_self))))))) Try.underlying28 rfl infoFil (by simp [size_ftab]) ?_) | (with_reducible refine wpList_loadFr (F.box _ _) rfl rfl rfl (by first | exact List.mem_cons_self | exact List.mem_cons_of_mem _ (List.mem_cons_self) | exact List.mem_cons_of_mem _ (List.mem_cons_of_mem _ (List.mem_cons_self)) | exact List.mem_cons_of_mem _ (List.mem_cons_of_mem _ (List.mem_cons_of_mem _ (List.mem_cons_self))) | exact List.mem_cons_of_mem _ (List.mem_cons_of_mem _ (List.mem_cons_of_mem _ (List.mem_cons_of_mem _ (List.mem_cons_self)))) | exact List.mem_cons_of_mem _ (List.mem_cons_of_mem _ (List.mem_cons_of_mem _ (List.mem_cons_of_mem _ (List.mem_cons_of_mem _ (List.mem_cons_self))))) | exact List.mem_cons_of_mem _ (List.mem_cons_of_mem _ (List.mem_cons_of_mem _ (List.mem_cons_of_mem _ (List.mem_cons_of_mem _ (List.mem_cons_of_mem _ (List.mem_cons_self))))))) Try.underlying28 rfl infoFil (by simp [size_ftab]) ?_) | (with_reducible refine wpList_loadFr F rfl rfl rfl (by first | exact List.mem_cons_self | exact List.mem_cons_of_mem _ (List.mem_cons_self) | exact List.mem_cons_of_mem _ (List.mem_cons_of_mem _ (List.mem_cons_self)) | exact List.mem_cons_of_mem _ (List.mem_cons_of_mem _ (List.mem_cons_of_mem _ (List.mem_cons_self))) | exact List.mem_cons_of_mem _ (List.mem_cons_of_mem _ (List.mem_cons_of_mem _ (List.mem_cons_of_mem _ (List.mem_cons_self)))) | exact List.mem_cons_of_mem _ (List.mem_cons_of_mem _ (List.mem_cons_of_mem _ (List.mem_cons_of_mem _ (List.mem_cons_of_mem _ (List.mem_cons_self))))) | exact List.mem_cons_of_mem _ (List.mem_cons_of_mem _ (List.mem_cons_of_mem _ (List.mem_cons_of_mem _ (List.mem_cons_of_mem _ (List.mem_cons_of_mem _ (List.mem_cons_self))))))) Try.underlying29 rfl infoBlk (by simp [size_ftab]) ?_) | (with_reducible refine wpList_loadFr (F.box _ _) rfl rfl rfl (by first | exact List.mem_cons_self | exact List.mem_cons_of_mem _ (List.mem_cons_self) | exact List.mem_cons_of_mem _ (List.mem_cons_of_mem _ (List.mem_cons_self)) | exact List.mem_cons_of_mem _ (List.mem_cons_of_mem _ (List.mem_cons_of_mem _ (List.mem_cons_self))) | exact List.mem_cons_of_mem _ (List.mem_cons_of_mem _ (List.mem_cons_of_mem _ (List.mem_cons_of_mem _ (List.mem_cons_self)))) | exact List.mem_cons_of_mem _ (List.mem_cons_of_mem _ (List.mem_cons_of_mem _ (List.mem_cons_of_mem _ (List.mem_cons_of_mem _ (List.mem_cons_self))))) | exact List.mem_cons_of_mem _ (List.mem_cons_of_mem _ (List.mem_cons_of_mem _ (List.mem_cons_of_mem _ (List.mem_cons_of_mem _ (List.mem_cons_of_mem _ (List.mem_cons_self))))))) Try.underlying29 rfl infoBlk (by simp [size_ftab]) ?_)) | (go_at_call 51; ((with_reducible refine (hV.out _).mono ?_); rintro e w1 ⟨rfl, hb1⟩; (first | replace F := F.le hb1 | replace F := (F.box _ _).le hb1 | replace F := ((F.box _ _).box _ _).le hb1 | replace F := (F.drewN _).le hb1 | replace F := ((F.box _ _).drewN _).le hb1))) | ((with_reducible refine stop_store rfl ?_)))
  show wpList _ _ _ _ _ _
  refine wpList_storeD rfl rfl rfl (cells := (#[.int .i64 0, .float .f32 0, .float .f32 0, .float .f32 0, .float .f32 0, .float .f32 0] : Array Value)) rfl (F.row (g := w.heap.size + 1 + 1) (t := 28) (cs := (#[.int .i64 0, .float .f32 0, .float .f32 0, .float .f32 0, .float .f32 0, .float .f32 0] : Array Value)) (by simp)) infoFil rfl (by simp [Value.oneCell']) (fun w6 KW => ?_)
  have F6 := F.wrote KW (by omega) (L' := [(w.heap.size + 1 + 1 + 1, 29, #[.float .f32 0, .float .f32 0, .float .f32 0, .float .f32 0, .float .f32 0, .float .f32 0, .float .f32 0, .float .f32 0, .float .f32 0, .float .f32 0, .float .f32 0, .float .f32 0, .float .f32 0, .float .f32 0, .float .f32 0, .float .f32 0])]) (fun z' hz' => by rw [List.mem_singleton.1 hz']; exact ⟨by simp, by simp only [ne_eq]; omega⟩)
  clear KW F
  refine wpList_storeD rfl rfl rfl (cells := #[.float .f32 0, .float .f32 0, .float .f32 0, .float .f32 0, .float .f32 0, .float .f32 0, .float .f32 0, .float .f32 0, .float .f32 0, .float .f32 0, .float .f32 0, .float .f32 0, .float .f32 0, .float .f32 0, .float .f32 0, .float .f32 0]) rfl (F6.row (g := w.heap.size + 1 + 1 + 1) (t := 29) (cs := #[.float .f32 0, .float .f32 0, .float .f32 0, .float .f32 0, .float .f32 0, .float .f32 0, .float .f32 0, .float .f32 0, .float .f32 0, .float .f32 0, .float .f32 0, .float .f32 0, .float .f32 0, .float .f32 0, .float .f32 0, .float .f32 0]) (by simp)) infoBlk rfl (by simp [Value.oneCell']) (fun w7 KW => ?_)
  have F7 := hid (F6.wrote KW (by omega) (L' := [(w.heap.size + 1 + 1, 28, (#[.int .i64 0, .float .f32 0, .float .f32 0, .float .f32 0, .float .f32 0, .float .f32 0] : Array Value))]) (fun z' hz' => by rw [List.mem_singleton.1 hz']; exact ⟨by simp, by simp only [ne_eq]; omega⟩))
  clear KW F6
  go_wp2
  exact bodyPost_ret (results_cct rfl _ _ _ _ _ _ _ _ rfl (F7.out.row (List.mem_cons_of_mem _ List.mem_cons_self)) Try.underlying28 rfl infoFil rfl (F7.out.row List.mem_cons_self) Try.underlying29 rfl infoBlk) rfl ⟨rfl, F7.out.below⟩
set_option maxHeartbeats 2000000 in
theorem s_RunFilter_no (k : Int) (a b c x y : Nat) (z : Nat → Nat) (w : World) (hv : okF k a b c x y = false) :
    Calls Try.prog 13 #[(.agg #[.int .i64 k, .float .f32 a, .float .f32 b, .float .f32 c, .float .f32 x, .float .f32 y]), .agg (ftab .f32 z 16)] w fun e w' => e = .returned (.tuple #[(.agg #[.int .i64 0, .float .f32 0, .float .f32 0, .float .f32 0, .float .f32 0, .float .f32 0]), .agg (ftab .f32 (fun _ => 0) 16), .int .i64 1]) ∧ le w w' := by
  have hV := hid (fun g w (R : Row w g 28 (#[.int .i64 k, .float .f32 a, .float .f32 b, .float .f32 c, .float .f32 x, .float .f32 y] : Array Value)) => s_Ok k a b c x y g w R)
  rw [hv] at hV
  clear hv
  have F := ((((Frm.nil w).box 28 (#[.int .i64 k, .float .f32 a, .float .f32 b, .float .f32 c, .float .f32 x, .float .f32 y] : Array Value)).box 29 (ftab .f32 z 16)).box 28 (#[.int .i64 0, .float .f32 0, .float .f32 0, .float .f32 0, .float .f32 0, .float .f32 0] : Array Value)).box 29 #[.float .f32 0, .float .f32 0, .float .f32 0, .float .f32 0, .float .f32 0, .float .f32 0, .float .f32 0, .float .f32 0, .float .f32 0, .float .f32 0, .float .f32 0, .float .f32 0, .float .f32 0, .float .f32 0, .float .f32 0, .float .f32 0]
  simp only [World.size_alloc] at F
  go_enter Try.func13, Try.ntmps13
  go_wp2_with (first | ((with_reducible refine at_load rfl ?_); first | (with_reducible refine wpList_loadFr F rfl rfl rfl (by first | exact List.mem_cons_self | exact List.mem_cons_of_mem _ (List.mem_cons_self) | exact List.mem_cons_of_mem _ (List.mem_cons_of_mem _ (List.mem_cons_self)) | exact List.mem_cons_of_mem _ (List.mem_cons_of_mem _ (List.mem_cons_of_mem _ (List.mem_cons_self))) | exact List.mem_cons_of_mem _ (List.mem_cons_of_mem _ (List.mem_cons_of_mem _ (List.mem_cons_of_mem _ (List.mem_cons_self)))) | exact List.mem_cons_of_mem _ (List.mem_cons_of_mem _ (List.mem_cons_of_mem _ (List.mem_cons_of_mem _ (List.mem_cons_of_mem _ (List.mem_cons_self))))) | exact List.mem_cons_of_mem _ (List.mem_cons_of_mem _ (List.mem_cons_of_mem _ (List.mem_cons_of_mem _ (List.mem_cons_of_mem _ (List.mem_cons_of_mem _ (List.mem_cons_self))))))) Try.underlying28 rfl infoFil (by simp [size_ftab]) ?_) | (with_reducible refine wpList_loadFr (F.box _ _) rfl rfl rfl (by first | exact List.mem_cons_self | exact List.mem_cons_of_mem _ (List.mem_cons_self) | exact List.mem_cons_of_mem _ (List.mem_cons_of_mem _ (List.mem_cons_self)) | exact List.mem_cons_of_mem _ (List.mem_cons_of_mem _ (List.mem_cons_of_mem _ (List.mem_cons_self))) | exact List.mem_cons_of_mem _ (List.mem_cons_of_mem _ (List.mem_cons_of_mem _ (List.mem_cons_of_mem _ (List.mem_cons_self)))) | exact List.mem_cons_of_mem _ (List.mem_cons_of_mem _ (List.mem_cons_of_mem _ (List.mem_cons_of_mem _ (List.mem_cons_of_mem _ (List.mem_cons_self))))) | exact List.mem_cons_of_mem _ (List.mem_cons_of_mem _ (List.mem_cons_of_mem _ (List.mem_cons_of_mem _ (List.mem_cons_of_mem _ (List.mem_cons_of_mem _ (List.mem_cons_self))))))) Try.underlying28 rfl infoFil (by simp [size_ftab]) ?_) | (with_reducible refine wpList_loadFr F rfl rfl rfl (by first | exact List.mem_cons_self | exact List.mem_cons_of_mem _ (List.mem_cons_self) | exact List.mem_cons_of_mem _ (List.mem_cons_of_mem _ (List.mem_cons_self)) | exact List.mem_cons_of_mem _ (List.mem_cons_of_mem _ (List.mem_cons_of_mem _ (List.mem_cons_self))) | exact List.mem_cons_of_mem _ (List.mem_cons_of_mem _ (List.mem_cons_of_mem _ (List.mem_cons_of_mem _ (List.mem_cons_self)))) | exact List.mem_cons_of_mem _ (List.mem_cons_of_mem _ (List.mem_cons_of_mem _ (List.mem_cons_of_mem _ (List.mem_cons_of_mem _ (List.mem_cons_self))))) | exact List.mem_cons_of_mem _ (List.mem_cons_of_mem _ (List.mem_cons_of_mem _ (List.mem_cons_of_mem _ (List.mem_cons_of_mem _ (List.mem_cons_of_mem _ (List.mem_cons_self))))))) Try.underlying29 rfl infoBlk (by simp [size_ftab]) ?_) | (with_reducible refine wpList_loadFr (F.box _ _) rfl rfl rfl (by first | exact List.mem_cons_self | exact List.mem_cons_of_mem _ (List.mem_cons_self) | exact List.mem_cons_of_mem _ (List.mem_cons_of_mem _ (List.mem_cons_self)) | exact List.mem_cons_of_mem _ (List.mem_cons_of_mem _ (List.mem_cons_of_mem _ (List.mem_cons_self))) | exact List.mem_cons_of_mem _ (List.mem_cons_of_mem _ (List.mem_cons_of_mem _ (List.mem_cons_of_mem _ (List.mem_cons_self)))) | exact List.mem_cons_of_mem _ (List.mem_cons_of_mem _ (List.mem_cons_of_mem _ (List.mem_cons_of_mem _ (List.mem_cons_of_mem _ (List.mem_cons_self))))) | exact List.mem_cons_of_mem _ (List.mem_cons_of_mem _ (List.mem_cons_of_mem _ (List.mem_cons_of_mem _ (List.mem_cons_of_mem _ (List.mem_cons_of_mem _ (List.mem_cons_self))))))) Try.underlying29 rfl infoBlk (by simp [size_ftab]) ?_)) | (go_at_call 47; ((with_reducible refine (hV.out _ _ (F.row (by simp))).mono ?_); rintro e w1 ⟨rfl, n1, rfl⟩; replace F := F.drewN n1)) | ((with_reducible refine stop_store rfl ?_)))
  show wpList _ _ _ _ _ _
  refine wpList_storeD rfl rfl rfl (cells := (#[.int .i64 0, .float .f32 0, .float .f32 0, .float .f32 0, .float .f32 0, .float .f32 0] : Array Value)) rfl (F.row (g := w.heap.size + 1 + 1) (t := 28) (cs := (#[.int .i64 0, .float .f32 0, .float .f32 0, .float .f32 0, .float .f32 0, .float .f32 0] : Array Value)) (by simp)) infoFil rfl (by simp [Value.oneCell']) (fun w6 KW => ?_)
  have F6 := F.wrote KW (by omega) (L' := [(w.heap.size + 1 + 1 + 1, 29, #[.float .f32 0, .float .f32 0, .float .f32 0, .float .f32 0, .float .f32 0, .float .f32 0, .float .f32 0, .float .f32 0, .float .f32 0, .float .f32 0, .float .f32 0, .float .f32 0, .float .f32 0, .float .f32 0, .float .f32 0, .float .f32 0])]) (fun z' hz' => by rw [List.mem_singleton.1 hz']; exact ⟨by simp, by simp only [ne_eq]; omega⟩)
  clear KW F
  refine wpList_storeD rfl rfl rfl (cells := #[.float .f32 0, .float .f32 0, .float .f32 0, .float .f32 0, .float .f32 0, .float .f32 0, .float .f32 0, .float .f32 0, .float .f32 0, .float .f32 0, .float .f32 0, .float .f32 0, .float .f32 0, .float .f32 0, .float .f32 0, .float .f32 0]) rfl (F6.row (g := w.heap.size + 1 + 1 + 1) (t := 29) (cs := #[.float .f32 0, .float .f32 0, .float .f32 0, .float .f32 0, .float .f32 0, .float .f32 0, .float .f32 0, .float .f32 0, .float .f32 0, .float .f32 0, .float .f32 0, .float .f32 0, .float .f32 0, .float .f32 0, .float .f32 0, .float .f32 0]) (by simp)) infoBlk rfl (by simp [Value.oneCell']) (fun w7 KW => ?_)
  have F7 := hid (F6.wrote KW (by omega) (L' := [(w.heap.size + 1 + 1, 28, (#[.int .i64 0, .float .f32 0, .float .f32 0, .float .f32 0, .float .f32 0, .float .f32 0] : Array Value))]) (fun z' hz' => by rw [List.mem_singleton.1 hz']; exact ⟨by simp, by simp only [ne_eq]; omega⟩))
  clear KW F6
  go_wp2
  exact bodyPost_ret (results_cct rfl _ _ _ _ _ _ _ _ rfl (F7.out.row (List.mem_cons_of_mem _ List.mem_cons_self)) Try.underlying28 rfl infoFil rfl (F7.out.row List.mem_cons_self) Try.underlying29 rfl infoBlk) rfl ⟨rfl, F7.out.below⟩
end Go.Proofs.Ytmacednkpjfokaa
