/- Texts of the walk, laid in one file. -/
import Derived.StillTail
import Derived.OwnWalk
import Derived.Test.YtgjdmoenobacgaaMb
set_option linter.unusedVariables false
set_option linter.unusedSimpArgs false
/- Values that lead to blocks' cells (never into the midst of a word): what one owns is read so. Lists of rings. Nothing here names a program. -/
namespace Go.Fk
open Go Go.RowKit
def CD.RdN (w : World) (B : Nat) : CD → Value → Prop
  | .int k z, v => CD.leaf (.int k z) v
  | .flt k x, v => CD.leaf (.flt k x) v
  | .fcn k x, v => CD.leaf (.fcn k x) v
  | .bool b, v => CD.leaf (.bool b) v
  | .str s, v => CD.leaf (.str s) v
  | .sl wd n x, v => (v = .slice none 0 0 ∧ n = 0) ∨ ∃ b o cap, v = .slice (some ⟨b, o, none⟩) n cap ∧ n ≤ cap ∧ cap ≤ maxLen ∧ ∀ i, i < n * wd → b < B ∧ ∃ u, w.cell? ⟨b, o + i, none⟩ = some u ∧ CD.RdN w B (x i) u
theorem CD.RdN.rd {w : World} {B : Nat} : ∀ {c : CD} {v : Value}, c.RdN w B v → c.Rd w B v := by
  intro c
  induction c with
  | sl wd n x ih =>
    intro v h
    rcases h with h | ⟨b, o, cap, h1, h2, h3, h4⟩
    · exact .inl h
    · exact .inr ⟨⟨b, o, none⟩, cap, h1, h2, h3, fun i hi => by obtain ⟨h5, u, h6, h7⟩ := h4 i hi; exact ⟨h5, u, by rw [add_none]; exact h6, ih i h7⟩⟩
  | _ => intro v h; exact h
theorem CD.RdN.le {w w' : World} {B : Nat} (hl : Fk.le w w') : ∀ {c : CD} {v : Value}, c.RdN w B v → c.RdN w' B v := by
  intro c
  induction c with
  | sl wd n x ih =>
    intro v h
    rcases h with h | ⟨b, o, cap, h1, h2, h3, h4⟩
    · exact .inl h
    · exact .inr ⟨b, o, cap, h1, h2, h3, fun i hi => by obtain ⟨h5, u, h6, h7⟩ := h4 i hi; exact ⟨h5, u, (Below.cell hl (cell_lt' h6)).trans h6, ih i h7⟩⟩
  | _ => intro v h; exact h
theorem CD.Lay.rdN {w : World} {B : Nat} : ∀ {c : CD} {S : Nat → Prop} {v : Value}, c.Lay w S v → (∀ j, S j → j < B) → c.RdN w B v := by
  intro c
  induction c with
  | sl wd n x ih =>
    intro S v h hS
    rcases h with h | ⟨b, o, cap, t, cs, h1, h2, h3, h4, h5, T, t1, t2, t3⟩
    · exact .inl h
    · refine .inr ⟨b, o, cap, h1, h2, h3, fun i hi => ?_⟩
      obtain ⟨u, hu, hl⟩ := t3 i hi
      exact ⟨hS b h4, u, (h5.cell? (o + i)).trans hu, ih i hl (fun j hj => hS j (t1 i j hj).1)⟩
  | _ => intro S v h _; exact h
theorem CD.RdN.form {w : World} {B wd n : Nat} {x : Nat → CD} {s : Value} (h : (CD.sl wd n x).RdN w B s) : (s = .slice none 0 0 ∧ n = 0) ∨ ∃ b o cap, s = .slice (some ⟨b, o, none⟩) n cap ∧ n ≤ cap ∧ cap ≤ maxLen := by
  rcases h with h | ⟨b, o, cap, h1, h2, h3, _⟩
  · exact .inl h
  · exact .inr ⟨b, o, cap, h1, h2, h3⟩
theorem CD.RdN.cell {w : World} {B wd n b o cap : Nat} {x : Nat → CD} (h : (CD.sl wd n x).RdN w B (.slice (some ⟨b, o, none⟩) n cap)) {i : Nat} (hi : i < n * wd) : ∃ u, w.cell? ⟨b, o + i, none⟩ = some u ∧ (x i).RdN w B u := by
  rcases h with ⟨h, _⟩ | ⟨b', o', cap', h1, _, _, h4⟩
  · cases h
  · simp only [Value.slice.injEq, Option.some.injEq, Addr.mk.injEq, and_true, true_and] at h1
    obtain ⟨⟨rfl, rfl⟩, rfl⟩ := h1
    obtain ⟨_, u, h5, h6⟩ := h4 i hi
    exact ⟨u, h5, h6⟩
def RdLN (w : World) (B : Nat) (cs : List CD) (vs : List Value) : Prop := vs.length = cs.length ∧ ∀ (i : Nat) (v : Value) (c : CD), vs[i]? = some v → cs[i]? = some c → c.RdN w B v
theorem RdLN.inv {w : World} {B : Nat} {c : CD} {cs : List CD} {vs : List Value} (h : RdLN w B (c :: cs) vs) : ∃ v vs', vs = v :: vs' ∧ c.RdN w B v ∧ RdLN w B cs vs' := by
  obtain ⟨h0, h1⟩ := h
  cases vs with
  | nil => simp at h0
  | cons v vs => exact ⟨v, vs, rfl, h1 0 v c rfl rfl, by simpa using h0, fun i v' c' hv hc => h1 (i + 1) v' c' (by simpa using hv) (by simpa using hc)⟩
theorem RdLN.inv0 {w : World} {B : Nat} {vs : List Value} (h : RdLN w B [] vs) : vs = [] := by
  have := h.1
  cases vs with
  | nil => rfl
  | cons => simp at this
theorem LayL.rdN {w : World} {B : Nat} {S : Nat → Prop} {cs : List CD} {vs : List Value} (h : LayL w S cs vs) (hS : ∀ j, S j → j < B) : RdLN w B cs vs := by
  obtain ⟨h0, T, t1, t2, t3⟩ := h
  exact ⟨h0, fun i v c hv hc => (t3 i v c hv hc).rdN (fun j hj => hS j (t1 i j hj))⟩
theorem RdLN.le {w w' : World} {B : Nat} {cs : List CD} {vs : List Value} (h : RdLN w B cs vs) (hl : Fk.le w w') : RdLN w' B cs vs := ⟨h.1, fun i v c hv hc => (h.2 i v c hv hc).le hl⟩
theorem RdLN.rd {w : World} {B : Nat} {cs : List CD} {vs : List Value} (h : RdLN w B cs vs) : RdL w B cs vs := ⟨h.1, fun i v c hv hc => (h.2 i v c hv hc).rd⟩
theorem Frg.layN {w0 w : World} {L : List Fact} (h : Frg w0 w L) {lo hi : Nat} {cs : List CD} {vs : List Value} (hm : layF lo hi cs vs ∈ L) : RdLN w hi cs vs := (h.lay hm).rdN (fun _ hj => hj.2)
/-- Do all hold? -/
def allB (p : Nat → Bool) (n : Nat) : Bool := (List.range n).all p
theorem allB_no {p : Nat → Bool} {n i : Nat} (hi : i < n) (h : p i = false) : allB p n = false := by
  rw [Bool.eq_false_iff]; intro hh
  have := List.all_eq_true.1 hh i (List.mem_range.2 hi)
  rw [h] at this; cases this
theorem allB_yes {p : Nat → Bool} {n : Nat} (h : ∀ i, i < n → p i = true) : allB p n = true := List.all_eq_true.2 (fun i hi => h i (List.mem_range.1 hi))
theorem allB_all {p : Nat → Bool} {n : Nat} (h : allB p n = true) : ∀ i, i < n → p i = true := fun i hi => List.all_eq_true.1 h i (List.mem_range.2 hi)
theorem allB_ex {p : Nat → Bool} {n : Nat} (h : allB p n = false) : ∃ i, i < n ∧ p i = false := by
  apply Classical.byContradiction
  intro hn
  have : allB p n = true := allB_yes (fun i hi => by
    cases hb : p i
    · exact absurd ⟨i, hi, hb⟩ hn
    · rfl)
  rw [h] at this; cases this
theorem finB_allB (f : Nat → Nat) (n : Nat) : finB f n = allB (fun i => fin (f i)) n := rfl
/-- The ring with an index in a list. -/
def rgN (x : Nat → CD) (k : Nat) : Nat := match x (k * 2) with | .sl _ n _ => n | _ => 0
def rgX (x : Nat → CD) (k : Nat) : Nat → Nat := match x (k * 2) with | .sl _ _ y => fun i => (y i).fx | _ => fun _ => 0
def rgK (x : Nat → CD) (k : Nat) : Int := match x (k * 2 + 1) with | .int _ z => z | _ => 0
def rgOk (x : Nat → CD) (k : Nat) : Bool := okRing (rgN x k) (rgK x k) && finB (rgX x k) (rgN x k)
/-- A list of rings. -/
def RgsOk (x : Nat → CD) (n : Nat) : Prop := ∀ k, k < n → (∃ y, x (k * 2) = .sl 1 (rgN x k) y ∧ (∀ i, i < rgN x k → (y i).flk = some .f32) ∧ rgX x k = fun i => (y i).fx) ∧ x (k * 2 + 1) = .int .i64 (rgK x k)
theorem rgs_ok {x : Nat → CD} {n : Nat} {e : Nat → Sh} (h : ∀ i, i < n → ∀ j, j < 2 → ShOk (e j) (x (i * 2 + j))) (h0 : ∃ f, e 0 = .sl 1 f ∧ f 0 = .flt .f32) (h1 : e 1 = .int .i64) : RgsOk x n := fun k hk => by
  obtain ⟨f, f0, f1⟩ := h0
  have a := h k hk 0 (by omega)
  have b := h k hk 1 (by omega)
  rw [f0] at a
  rw [h1] at b
  obtain ⟨m, y, e1, e2⟩ := a
  obtain ⟨z, e3⟩ := b
  have e1' : x (k * 2) = .sl 1 m y := by simpa using e1
  have n1 : rgN x k = m := by unfold rgN; rw [e1']
  refine ⟨⟨y, by rw [n1]; exact e1', ?_, by unfold rgX; rw [e1']⟩, ?_⟩
  · rw [n1]; exact ShOk.flts e2 f1
  · unfold rgK; rw [e3]
theorem RgsOk.rds {x : Nat → CD} {n k B : Nat} {w : World} {u : Value} (h : RgsOk x n) (hk : k < n) (hr : (x (k * 2)).Rd w B u) : RdS w B u (rgX x k) (rgN x k) := by
  obtain ⟨⟨y, e1, e2, e3⟩, _⟩ := h k hk
  rw [e1] at hr
  rw [e3]
  exact hr.rdf e2
theorem RgsOk.int {x : Nat → CD} {n k B : Nat} {w : World} {u : Value} (h : RgsOk x n) (hk : k < n) (hr : (x (k * 2 + 1)).Rd w B u) : u = .int .i64 (rgK x k) ∧ (Lit.int .i64 (rgK x k)).wf = true := by
  rw [(h k hk).2] at hr
  exact hr
/-- The rings of a list, where it lies. -/
theorem RgsOk.at {x : Nat → CD} {n k B b o cap : Nat} {w : World} (h : RgsOk x n) (hr : (CD.sl 2 n x).RdN w B (.slice (some ⟨b, o, none⟩) n cap)) (hk : k < n) : ∃ u, w.cell? ⟨b, o + k * 2, none⟩ = some u ∧ w.cell? ⟨b, o + k * 2 + 1, none⟩ = some (.int .i64 (rgK x k)) ∧ (Lit.int .i64 (rgK x k)).wf = true ∧ RdS w B u (rgX x k) (rgN x k) := by
  obtain ⟨u, h1, h2⟩ := hr.cell (i := k * 2) (by omega)
  obtain ⟨v, h3, h4⟩ := hr.cell (i := k * 2 + 1) (by omega)
  obtain ⟨rfl, h5⟩ := h.int hk h4.rd
  exact ⟨u, h1, by rw [Nat.add_assoc]; exact h3, h5, h.rds hk h2.rd⟩
end Go.Fk

/- Slices of floats in the laws' helpers: 'szFloat32S', 'toFloat32S', 'eqFloat32S', 'markFloat32S', 'heldFloat32S', over facts of memory. -/
namespace Go.Fk
open Go Go.RowKit
theorem can_int (z : Int) : can .f32 (floatOfInt .f32 z) = floatOfInt .f32 z := can_of_not (isNan_int z)
theorem RdS.slIn {w : World} {B : Nat} {v : Value} {x : Nat → Nat} {n : Nat} (h : RdS w B v x n) : ∃ y, SlIn w v y n ∧ ∀ i, i < n → can .f32 (y i) = x i := by
  rcases h with ⟨rfl, rfl⟩ | ⟨a, cap, rfl, h2, h3, h4⟩
  · exact ⟨fun _ => 0, .inl ⟨rfl, rfl⟩, fun i hi => absurd hi (by omega)⟩
  · have : ∀ i, ∃ y, i < n → w.cell? (a.add i) = some (.float .f32 y) ∧ fits .f32 y ∧ can .f32 y = x i := fun i => by
      by_cases hi : i < n
      · obtain ⟨_, y, e⟩ := h4 i hi; exact ⟨y, fun _ => e⟩
      · exact ⟨0, fun h => absurd h hi⟩
    obtain ⟨y, hy⟩ := Classical.skolem.1 this
    exact ⟨y, .inr ⟨a, cap, rfl, h2, h3, fun i hi => ⟨(hy i hi).1, (hy i hi).2.1⟩⟩, fun i hi => (hy i hi).2.2⟩
theorem same_of_can {y : Nat} {z : Int} (h : can .f32 y = floatOfInt .f32 z) : y = floatOfInt .f32 z :=
  (eq_of_can ((can_int z).trans h.symm) (isNan_int z)).symm
end Go.Fk
namespace Go.Proofs.Ytgjdmoenobacgaa
open Go.RowKit Go.Fk
theorem toR (B : Nat) (v : Value) (x : Nat → Nat) (n : Nat) (w : World) (hv : RdS w B v x n) (hn : n ≤ 1048576) :
    Calls Try.prog 26 #[v] w fun e w' => ∃ s, e = .returned s ∧ OwnS w' w.heap.size w'.heap.size s x n ∧ le w w' := by
  obtain ⟨y, hy, hc⟩ := hv.slIn
  have hf : ∀ i, i < n → fits .f32 (y i) := by
    rcases hy with ⟨_, rfl⟩ | ⟨a, cap, _, _, _, h4⟩
    · intro i hi; omega
    · intro i hi; exact (h4 i hi).2
  refine (toS v y n w hy hn).mono ?_
  rintro e w' ⟨rfl, hr, hl⟩
  exact ⟨_, rfl, .inr ⟨_, 0, n, _, rfl, Nat.le_refl _, by unfold maxLen; omega, Nat.le_refl _, hr.lt, hr, fun i hi => ⟨y i, by rw [Nat.zero_add]; exact get_ftab _ _ _ _ hi, hf i hi, hc i hi⟩⟩, hl⟩
set_option maxHeartbeats 1000000 in
theorem eqR (B B' : Nat) (s s' : Value) (x : Nat → Nat) (n : Nat) (w : World) (hn : n ≤ 1048576) (hs : RdS w B s x n) (hs' : RdS w B' s' x n) :
    Calls Try.prog 28 #[s, s'] w fun e w' => e = .returned (.bool true) ∧ ∃ m, w' = w.drewN m := by
  by_cases h0 : n = 0
  · subst h0
    rcases hs with ⟨rfl, _⟩ | ⟨a, cap, rfl, hc, hg, hx⟩ <;> rcases hs' with ⟨rfl, _⟩ | ⟨a', cap', rfl, hc', hg', hx'⟩
    all_goals
      try clear hx
      try clear hx'
      go_enter Try.func28, Try.ntmps28
      go_wp2
      go_loop [5] (fun i => i = .int .i64 0) (fun _ => 0)
      case atStart => rfl
      case round =>
        obtain rfl := hrel
        go_wp2
        go_ret
        exact ⟨rfl, 0, rfl⟩
  rcases hs with ⟨_, h⟩ | ⟨a, cap, rfl, hc, hg, hx⟩
  · exact absurd h h0
  rcases hs' with ⟨_, h⟩ | ⟨a', cap', rfl, hc', hg', hx'⟩
  · exact absurd h h0
  have HX := hid hx; have HY := hid hx'; clear hx hx' h0
  go_enter Try.func28, Try.ntmps28
  go_wp2
  go_loopw [5] (fun i wr => ∃ k : Nat, k ≤ n ∧ i = .int .i64 k ∧ ∃ m, wr = w.drewN m) (fun i _ => n - (intOf i).toNat)
  case atStart => exact ⟨0, by omega, rfl, 0, rfl⟩
  case round =>
    obtain ⟨k, hk, rfl, m, rfl⟩ := hrel
    by_cases hlt : k < n
    · obtain ⟨_, p, c1, _, e1⟩ := HX.out k hlt
      obtain ⟨_, q, c2, _, e2⟩ := HY.out k hlt
      have hxy := hid (e1.trans e2.symm)
      clear e1 e2
      go_wp2_with fail
      refine wp_region_loose (fun _ _ v => v = .bool true) (by kernel_rfl) (by kernel_rfl) ?_
      repeat (first | (with_reducible refine wpLoose_widen rfl rfl rfl Try.underlying22 Try.underlying46 ?_; intro r hr hf; simp only [Act.put, List.setIfInBounds_toArray, List.set_cons_succ, List.set_cons_zero]) | (refine wpLoose_quiet rfl ?_; go_big_quiet_step (fail); refine wpQuiet_nil ?_))
      refine wpLoose_any rfl (· = .bool true) (fun m0 => ?_) ?_
      · go_simp
        have hr1 := ‹Hid (can .f64 _ = can .f64 (widen p))›
        refine (sameFloat_yes _ _ _ (hr1.out.trans ((congrArg (can .f64) (widen_congr hxy.out)).trans hr.out.symm))).mono ?_
        rintro e w2 ⟨rfl, m2, rfl⟩
        exact ⟨_, rfl, rfl, m0 + m2, by go_simp; rw [Nat.add_assoc]⟩
      · rintro v rfl
        simp only [Act.put, List.setIfInBounds_toArray, List.set_cons_succ, List.set_cons_zero]
        repeat (refine wpLoose_quiet rfl ?_; go_big_quiet_step (fail); refine wpQuiet_nil ?_)
        refine wpLoose_nil (fun m1 => ?_)
        go_wp2
        go_roundw
        case rel => exact ⟨k + 1, by omega, by go_num, _, rfl⟩
        case measure => simp [intOf]; omega
    · obtain rfl : k = n := by omega
      go_wp2
      go_ret
      exact ⟨rfl, _, rfl⟩
set_option maxHeartbeats 1000000 in
theorem markR (lo hi : Nat) (s : Value) (x : Nat → Nat) (n : Nat) (z : Int) (w : World) (hn : n ≤ 1048576) (hz : 0 ≤ z) (hz2 : z ≤ 1073741824) (hs : OwnS w lo hi s x n) :
    Calls Try.prog 29 #[s, .int .i64 z] w fun e w' => e = .returned (.int .i64 (z + n)) ∧ OwnS w' lo hi s (markW z) n ∧ Chg (rng lo hi) w w' ∧ w'.heap.size = w.heap.size := by
  rcases hs with ⟨rfl, rfl⟩ | ⟨b, o, cap, cs, rfl, hc, hg, hb, hb', hr, hx⟩
  · go_enter Try.func29, Try.ntmps29
    go_wp2
    go_loop [1, 5] (fun m i => m = .int .i64 z ∧ i = .int .i64 0) (fun _ _ => 0)
    case atStart => exact ⟨rfl, rfl⟩
    case round =>
      obtain ⟨rfl, rfl⟩ := hrel
      go_wp2
      go_ret
      exact ⟨ret_i (by simp), .inl ⟨rfl, rfl⟩, Chg.refl _ _, rfl⟩
  · have HR := hid hr; have HX := hid hx; clear hr hx
    go_enter Try.func29, Try.ntmps29
    go_wp2
    go_loopw [1, 5] (fun m i wr => ∃ k : Nat, k ≤ n ∧ i = .int .i64 k ∧ m = .int .i64 (z + k) ∧ Hid (∃ ds, Row wr b 22 ds ∧ ∀ j, j < n → ∃ y, ds[o + j]? = some (.float .f32 y) ∧ fits .f32 y ∧ (j < k → can .f32 y = markW z j)) ∧ Hid (Chg (rng lo hi) w wr ∧ wr.heap.size = w.heap.size)) (fun _ i _ => n - (intOf i).toNat)
    case atStart => exact ⟨0, by omega, rfl, by simp, ⟨cs, HR.out, fun j hj => by obtain ⟨y, e1, e2, _⟩ := HX.out j hj; exact ⟨y, e1, e2, fun h => absurd h (by omega)⟩⟩, Chg.refl _ _, rfl⟩
    case round =>
      obtain ⟨k, hk, rfl, rfl, HO, HU⟩ := hrel
      by_cases hlt : k < n
      · rename_i wr _
        obtain ⟨ds, hd, hy⟩ := HO.out
        obtain ⟨y0, c0, _⟩ := hy k hlt
        have c2 : wr.cell? ⟨b, o + k, none⟩ = some (.float .f32 y0) := (hd.cell? (o + k)).trans c0
        have f2 := hd.frozen (o + k)
        have HD := hid hd; have HY := hid hy; have HC := hid c0
        clear hd hy c0 HO
        go_wp2
        go_roundw
        case rel =>
          refine ⟨k + 1, by omega, by go_num, by go_num, ⟨_, HD.out.set (o + k) (.float .f32 (markW z k)), fun j hj => ?_⟩, Chg.setCell HU.out.1 ⟨hb, hb'⟩ _, by simpa using HU.out.2⟩
          by_cases e : j = k
          · subst e
            refine ⟨markW z j, ?_, ?_, fun _ => ?_⟩
            · rw [Array.getElem?_setIfInBounds_self_of_lt (Array.getElem?_eq_some_iff.1 HC.out).1]
            · exact floatOfInt_wf .f32 _
            · exact can_int _
          · obtain ⟨y, e1, e2, e3⟩ := HY.out j hj
            exact ⟨y, by rw [Array.getElem?_setIfInBounds_ne (by omega)]; exact e1, e2, fun h => e3 (by omega)⟩
        case measure => simp [intOf]; omega
      · obtain rfl : k = n := by omega
        go_wp2
        go_ret
        obtain ⟨ds, hd, hy⟩ := HO.out
        exact ⟨rfl, .inr ⟨b, o, cap, ds, rfl, hc, hg, hb, hb', hd, fun j hj => by obtain ⟨y, e1, e2, e3⟩ := hy j hj; exact ⟨y, e1, e2, e3 hj⟩⟩, HU.out.1, HU.out.2⟩
set_option maxHeartbeats 1000000 in
theorem heldR (B : Nat) (s : Value) (n : Nat) (z : Int) (w : World) (hn : n ≤ 1048576) (hz : 0 ≤ z) (hz2 : z ≤ 1073741824) (hs : RdS w B s (markW z) n) :
    Calls Try.prog 30 #[s, .int .i64 z] w fun e w' => e = .returned (.int .i64 (z + n)) ∧ w = w' := by
  rcases hs with ⟨rfl, rfl⟩ | ⟨a, cap, rfl, hc, hg, hx⟩
  · go_enter Try.func30, Try.ntmps30
    go_wp2
    go_loop [1, 5] (fun m i => m = .int .i64 z ∧ i = .int .i64 0) (fun _ _ => 0)
    case atStart => exact ⟨rfl, rfl⟩
    case round =>
      obtain ⟨rfl, rfl⟩ := hrel
      go_wp2
      go_ret
      exact ⟨ret_i (by simp), rfl⟩
  · have HX := hid hx; clear hx
    go_enter Try.func30, Try.ntmps30
    go_wp2
    go_loop [1, 5] (fun m i => ∃ k : Nat, k ≤ n ∧ i = .int .i64 k ∧ m = .int .i64 (z + k)) (fun _ i => n - (intOf i).toNat)
    case atStart => exact ⟨0, by omega, rfl, by simp⟩
    case round =>
      obtain ⟨k, hk, rfl, rfl⟩ := hrel
      by_cases hlt : k < n
      · obtain ⟨_, y, c2, _, hm⟩ := HX.out k hlt
        obtain rfl : y = floatOfInt .f32 (z + k) := same_of_can hm
        clear hm
        have e2 := same_int (z + k)
        go_wp2
        go_round
        case rel => exact ⟨k + 1, by omega, by go_num, by go_num⟩
        case measure => simp [intOf]; omega
      · obtain rfl : k = n := by omega
        go_wp2
        go_ret
        exact ⟨rfl, rfl⟩
end Go.Proofs.Ytgjdmoenobacgaa

/- Marks: what the laws write into memory that one owns, by trees of data. Nothing here names a program. -/
namespace Go.Fk
open Go Go.RowKit
/-- How many marks an element takes. -/
def CD.mkE : CD → Nat
  | .sl wd n x => sumTo (fun i => (x i).mkE) (n * wd)
  | _ => 1
/-- What an element is behind them. -/
def CD.mk : CD → Int → CD
  | .int k _, z => .int k z
  | .flt k _, z => .fcn k (floatOfInt k z)
  | .fcn k _, z => .fcn k (floatOfInt k z)
  | .sl wd n x, z => .sl wd n (fun i => (x i).mk (z + (sumTo (fun j => (x j).mkE) i : Nat)))
  | c, _ => c
/-- The same for a cell that comes as a value: only what it leads to is marked. -/
def CD.mt : CD → Nat
  | .sl wd n x => (CD.sl wd n x).mkE
  | _ => 0
def CD.mkT : CD → Int → CD
  | .sl wd n x, z => (CD.sl wd n x).mk z
  | c, _ => c
def mtL : List CD → Nat
  | [] => 0
  | c :: cs => c.mt + mtL cs
def mkL : List CD → Int → List CD
  | [], _ => []
  | c :: cs, z => c.mkT z :: mkL cs (z + (c.mt : Nat))
theorem mtL_append (a b : List CD) : mtL (a ++ b) = mtL a + mtL b := by
  induction a with
  | nil => simp [mtL]
  | cons c a ih => simp only [List.cons_append, mtL, ih]; omega
theorem mkL_append (a b : List CD) : ∀ z : Int, mkL (a ++ b) z = mkL a z ++ mkL b (z + (mtL a : Nat)) := by
  induction a with
  | nil => intro z; simp [mkL, mtL]
  | cons c a ih => intro z; simp only [List.cons_append, mkL, ih, mtL]; congr 3; push_cast; omega
theorem mkL_length (a : List CD) : ∀ z : Int, (mkL a z).length = a.length := by
  induction a with
  | nil => intro z; rfl
  | cons c a ih => intro z; simp [mkL, ih]
theorem CD.mt_fl {c : CD} {k : FloatKind} (h : c.flk = some k) : c.mt = 0 := by
  cases c <;> simp [CD.flk] at h <;> rfl
theorem CD.mkT_fl {c : CD} {k : FloatKind} (h : c.flk = some k) (z : Int) : c.mkT z = c := by
  cases c <;> simp [CD.flk] at h <;> rfl
theorem mkE_flts {n : Nat} {x : Nat → CD} (h : ∀ i, i < n → (x i).flk = some .f32) {m : Nat} (hm : m ≤ n) : sumTo (fun i => (x i).mkE) m = m := by
  induction m with
  | zero => rfl
  | succ m ih =>
    simp only [sumTo]
    rw [ih (by omega)]
    have := h m (by omega)
    cases hx : x m <;> rw [hx] at this <;> simp [CD.flk] at this <;> rfl
theorem CD.mt_flts {n : Nat} {x : Nat → CD} (h : ∀ i, i < n → (x i).flk = some .f32) : (CD.sl 1 n x).mt = n := by
  simp only [CD.mt, CD.mkE, Nat.mul_one]
  exact mkE_flts h (Nat.le_refl _)
/-- A slice of floats, marked. -/
theorem CD.mk_flts {n : Nat} {x : Nat → CD} (h : ∀ i, i < n → (x i).flk = some .f32) (z : Int) : (CD.sl 1 n (fun i => .fcn .f32 (markW z i))).Eqv ((CD.sl 1 n x).mkT z) := by
  refine ⟨_, rfl, fun i hi => ?_⟩
  have hi' : i < n := by simpa using hi
  have hf := h i hi'
  rw [mkE_flts h (by omega)]
  cases hx : x i <;> rw [hx] at hf <;> simp [CD.flk] at hf <;> subst hf <;> exact CD.Eqv.refl _
theorem CD.Eqv.symm : ∀ {c d : CD}, c.Eqv d → d.Eqv c := by
  intro c
  induction c with
  | sl wd n x ih => intro d h; obtain ⟨y, rfl, hy⟩ := h; exact ⟨x, rfl, fun i hi => ih i (hy i hi)⟩
  | _ => intro d h; cases h; rfl
/-- A cell that does not lead to memory. -/
def CD.noS (c : CD) : Prop := ∀ wd n x, c ≠ .sl wd n x
theorem CD.noS.mt {c : CD} (h : c.noS) : c.mt = 0 := by
  cases c with
  | sl wd n x => exact absurd rfl (h wd n x)
  | _ => rfl
theorem CD.noS.mkT {c : CD} (h : c.noS) (z : Int) : c.mkT z = c := by
  cases c with
  | sl wd n x => exact absurd rfl (h wd n x)
  | _ => rfl
theorem noS_fl {c : CD} {k : FloatKind} (h : c.flk = some k) : c.noS := flk_ne h
theorem noS_int {k : IntKind} {z : Int} : (CD.int k z).noS := by intro a b c e; cases e
theorem noS_bool {b : Bool} : (CD.bool b).noS := by intro a b c e; cases e
theorem noS_str {b : ByteArray} : (CD.str b).noS := by intro a b c e; cases e
theorem noL_nil : ∀ c ∈ ([] : List CD), c.noS := fun c h => by cases h
theorem noL_cons {c : CD} {cs : List CD} (h : c.noS) (hs : ∀ d ∈ cs, d.noS) : ∀ d ∈ c :: cs, d.noS := fun d hd => by
  rcases List.mem_cons.1 hd with rfl | hd
  · exact h
  · exact hs d hd
theorem mkL_leaf {cs : List CD} (h : ∀ c ∈ cs, c.noS) : mtL cs = 0 ∧ ∀ z, mkL cs z = cs := by
  induction cs with
  | nil => exact ⟨rfl, fun _ => rfl⟩
  | cons c cs ih =>
    obtain ⟨h1, h2⟩ := ih (fun d hd => h d (List.mem_cons_of_mem _ hd))
    have h0 := h c List.mem_cons_self
    exact ⟨by simp [mtL, h0.mt, h1], fun z => by simp [mkL, h0.mkT, h2]⟩
theorem mkL_leaf_end {a cs : List CD} (h : ∀ c ∈ cs, c.noS) (z : Int) : mkL (a ++ cs) z = mkL a z ++ cs := by
  rw [mkL_append, (mkL_leaf h).2]
theorem LayL.atz {w : World} {S : Nat → Prop} {cs : List CD} {vs : List Value} {z z' : Int} (h : LayL w S (mkL cs z) vs) (e : z = z') : LayL w S (mkL cs z') vs := e ▸ h
theorem RdL.atz {w : World} {B : Nat} {cs : List CD} {vs : List Value} {z z' : Int} (h : RdL w B (mkL cs z) vs) (e : z = z') : RdL w B (mkL cs z') vs := e ▸ h
/-- What does not lead to memory stands anywhere. -/
theorem LayL.leafs {w w' : World} {S S' : Nat → Prop} {cs : List CD} {vs : List Value} (hc : ∀ c ∈ cs, c.noS) (h : LayL w S cs vs) (z : Int) : LayL w' S' (mkL cs z) vs := by
  rw [(mkL_leaf hc).2]
  obtain ⟨h0, T, t1, t2, t3⟩ := h
  refine ⟨h0, fun _ _ => False, fun _ _ h => h.elim, fun _ _ _ h => h.elim, fun i v c hv hc' => ?_⟩
  have h1 := t3 i v c hv hc'
  have h2 := hc c (List.mem_of_getElem? hc')
  cases c with
  | sl wd n x => exact absurd rfl (h2 wd n x)
  | _ => exact h1
theorem RdL.leafs {w : World} {B : Nat} {cs : List CD} {vs : List Value} {z : Int} (hc : ∀ c ∈ cs, c.noS) (h : RdL w B (mkL cs z) vs) : RdL w B cs vs := by
  rwa [(mkL_leaf hc).2] at h
theorem LayL.lt {w : World} {S : Nat → Prop} {cs : List CD} {vs : List Value} (h : LayL w S cs vs) : LayL w (fun j => S j ∧ j < w.heap.size) cs vs := by
  obtain ⟨h0, T, t1, t2, t3⟩ := h
  exact ⟨h0, fun i j => T i j ∧ j < w.heap.size, fun i j h => ⟨t1 i j h.1, h.2⟩, fun i i' j a b => t2 i i' j a.1 b.1, fun i v c hv hc => (t3 i v c hv hc).lt⟩
theorem LayL.split {w : World} {S : Nat → Prop} {a b : List CD} {vs : List Value} (h : LayL w S (a ++ b) vs) : ∃ va vb S1 S2, vs = va ++ vb ∧ LayL w S1 a va ∧ LayL w S2 b vb ∧ (∀ j, S1 j → S j) ∧ (∀ j, S2 j → S j) ∧ (∀ j, S1 j → S2 j → False) := by
  obtain ⟨h0, T, t1, t2, t3⟩ := h
  have hl : vs.length = a.length + b.length := by simpa using h0
  refine ⟨vs.take a.length, vs.drop a.length, fun j => ∃ i, i < a.length ∧ T i j, fun j => ∃ i, T (a.length + i) j, (List.take_append_drop _ _).symm, ⟨by simp; omega, fun i j => i < a.length ∧ T i j, fun i j h => ⟨i, h⟩, fun i i' j x y => t2 i i' j x.2 y.2, fun i v c hv hc => ?_⟩, ⟨by simp; omega, fun i j => T (a.length + i) j, fun i j h => ⟨i, h⟩, fun i i' j x y => by have := t2 _ _ j x y; omega, fun i v c hv hc => ?_⟩, fun j ⟨i, h⟩ => t1 i j h.2, fun j ⟨i, h⟩ => t1 _ j h, fun j ⟨i, h⟩ ⟨i', h'⟩ => by have := t2 _ _ j h.2 h'; omega⟩
  · have hi : i < a.length := (List.getElem?_eq_some_iff.1 hc).1
    refine (t3 i v c (by rw [List.getElem?_take] at hv; simpa [hi] using hv) (by rw [List.getElem?_append_left hi]; exact hc)).mono (fun j hj => ⟨hi, hj⟩)
  · exact t3 (a.length + i) v c (by rw [List.getElem?_drop] at hv; exact hv) (by rw [List.getElem?_append_right (by omega)]; simpa using hc)
theorem RdL.split {w : World} {B : Nat} {a b : List CD} {vs : List Value} (h : RdL w B (a ++ b) vs) : ∃ va vb, vs = va ++ vb ∧ RdL w B a va ∧ RdL w B b vb := by
  obtain ⟨h0, h1⟩ := h
  have hl : vs.length = a.length + b.length := by simpa using h0
  refine ⟨vs.take a.length, vs.drop a.length, (List.take_append_drop _ _).symm, ⟨by simp; omega, fun i v c hv hc => ?_⟩, ⟨by simp; omega, fun i v c hv hc => ?_⟩⟩
  · have hi : i < a.length := (List.getElem?_eq_some_iff.1 hc).1
    exact h1 i v c (by rw [List.getElem?_take] at hv; simpa [hi] using hv) (by rw [List.getElem?_append_left hi]; exact hc)
  · exact h1 (a.length + i) v c (by rw [List.getElem?_drop] at hv; exact hv) (by rw [List.getElem?_append_right (by omega)]; simpa using hc)
/-- What lies apart from what has turned, stands. -/
theorem LayL.apart {w w' : World} {S T : Nat → Prop} {cs : List CD} {vs : List Value} (h : LayL w S cs vs) (k : Chg T w w') (hd : ∀ j, S j → T j → False) : LayL w' S cs vs :=
  (h.lt.ok (fun j hj => k.block j hj.2 (fun hT => hd j hj.1 hT))).mono (fun _ hj => hj.1)
/-- The frame over a base in which older blocks have turned as well. -/
theorem Frg.rebase {w0 w w' : World} {L : List Fact} (h : Frg w0 w L) {S : Nat → Prop} (k : Chg S w w') (hS : ∀ j, S j → j < w0.heap.size) : ∃ wb, Frg wb w' L ∧ Chg S w0 wb ∧ wb.heap.size = w0.heap.size ∧ ∀ j, j < w0.heap.size → wb.heap[j]? = w'.heap[j]? := by
  have hz : w0.heap.size ≤ w'.heap.size := Nat.le_trans h.below.size k.size
  have hh : ∀ j, j < w0.heap.size → (w'.heap.extract 0 w0.heap.size)[j]? = w'.heap[j]? := fun j hj => by
    rw [Array.getElem?_extract]; simp; intro hq; omega
  have hs : (w'.heap.extract 0 w0.heap.size).size = w0.heap.size := by simp; omega
  refine ⟨{ w' with heap := w'.heap.extract 0 w0.heap.size }, ⟨⟨rfl, rfl, rfl, by show _ ≤ _; rw [hs]; exact hz, fun j hj => ?_⟩, fun e he => ?_, h.apart⟩, ⟨k.os.trans h.below.os, k.tape.trans h.below.tape, k.output.trans h.below.output, by show _ ≤ _; rw [hs]; exact Nat.le_refl _, fun j hj hn => ?_⟩, hs, hh⟩
  · have hj' : j < w0.heap.size := by have : j < (w'.heap.extract 0 w0.heap.size).size := hj; omega
    exact (hh j hj').symm
  · obtain ⟨h1, h2, h3⟩ := h.facts e he
    refine ⟨by show _ ≤ _; rw [hs]; exact h1, Nat.le_trans h2 k.size, e.ok w w' h3 (fun i hi1 hi2 => k.block i (by omega) (fun hq => by have := hS i hq; omega))⟩
  · show (w'.heap.extract 0 w0.heap.size)[j]? = w0.heap[j]?
    rw [hh j hj, k.block j (Nat.lt_of_lt_of_le hj h.below.size) hn, h.below.block j hj]
/-- A fact, by its place in the list, is turned. -/
theorem Frg.markAt {w0 w w' : World} {L : List Fact} (i : Nat) {lo hi : Nat} {cs cs' : List CD} {us : List Value} (h : Frg w0 w L) (hp : LayL w' (rng lo hi) cs' us) (k : Chg (rng lo hi) w w') (hi' : L[i]? = some (layF lo hi cs us)) : Frg w0 w' (L.set i (layF lo hi cs' us)) := by
  obtain ⟨hlt, he⟩ := List.getElem?_eq_some_iff.1 hi'
  have e1 : L = L.take i ++ layF lo hi cs us :: L.drop (i + 1) := by
    rw [← he, List.getElem_cons_drop, List.take_append_drop]
  have e2 : L.set i (layF lo hi cs' us) = L.take i ++ layF lo hi cs' us :: L.drop (i + 1) := List.set_eq_take_append_cons_drop.trans (if_pos hlt)
  rw [e2]
  rw [e1] at h
  exact Frg.chg _ (e' := layF lo hi cs' us) h k hp rfl rfl
theorem mkE_cn : ∀ c : CD, c.cn.mkE = c.mkE := by
  intro c
  induction c with
  | sl wd n x ih => simp only [CD.cn, CD.mkE]; congr 1; funext i; exact ih i
  | _ => rfl
theorem mt_cp (c : CD) : c.cp.mt = c.mt := by
  cases c with
  | sl wd n x => exact mkE_cn (.sl wd n x)
  | _ => rfl
theorem mtL_cp (cs : List CD) : mtL (cs.map CD.cp) = mtL cs := by
  induction cs with
  | nil => rfl
  | cons c cs ih => simp only [List.map_cons, mtL, mt_cp, ih]
end Go.Fk
namespace Go.Proofs.Ytgjdmoenobacgaa
open Go.RowKit Go.Fk
set_option maxHeartbeats 1000000 in
theorem markU_Float32S (S : Nat → Prop) (n : Nat) (x : Nat → CD) (s : Value) (z : Int) (w : World) (hn : mtL [CD.sl 1 n x] ≤ 1048576) (hz : 0 ≤ z) (hz2 : z ≤ 1073741824) (hx : ∀ i, i < n → ∀ j, j < 1 → ShOk ([Sh.flt .f32].getD j .bool) (x (i * 1 + j))) (hs : LayL w S [.sl 1 n x] [s]) :
    Calls Try.prog 29 #[s, .int .i64 z] w fun e w' => e = .returned (.int .i64 (z + (mtL [CD.sl 1 n x] : Nat))) ∧ LayL w' S (mkL [.sl 1 n x] z) [s] ∧ Chg S w w' := by
  have hx' := ShOk.flts hx rfl
  have em : mtL [CD.sl 1 n x] = n := by simp only [mtL, CD.mt_flts hx']; omega
  rw [em] at hn ⊢
  obtain ⟨v, vs, S1, S2, e0, hl, _, hS, _, _⟩ := hs.inv
  obtain ⟨rfl, rfl⟩ : s = v ∧ [] = vs := by simpa using e0
  have key : ∀ w', (CD.sl 1 n (fun i => .fcn .f32 (markW z i))).Lay w' S1 s → LayL w' S (mkL [.sl 1 n x] z) [s] := fun w' h => LayL.cons (h.congr (CD.mk_flts hx' z)) (LayL.nil _ (fun _ => False)) hS (fun _ h => h.elim) (fun _ _ h => h)
  have KEY := hid key; clear key e0 hs em
  rcases hl with ⟨rfl, rfl⟩ | ⟨b, o, cap, t, cs, rfl, hc, hg, hb, hr, T, t1, t2, t3⟩
  · go_enter Try.func29, Try.ntmps29
    go_wp2
    go_loop [1, 5] (fun m i => m = .int .i64 z ∧ i = .int .i64 0) (fun _ _ => 0)
    case atStart => exact ⟨rfl, rfl⟩
    case round =>
      obtain ⟨rfl, rfl⟩ := hrel
      go_wp2
      go_ret
      exact ⟨ret_i (by simp), KEY.out _ (.inl ⟨rfl, rfl⟩), Chg.refl _ _⟩
  · have hxx : ∀ j, j < n → ∃ y, cs[o + j]? = some (.float .f32 y) ∧ fits .f32 y := fun j hj => by
      obtain ⟨u, hu, hl⟩ := t3 j (by simpa using hj)
      have hl' : (x j).Rd w (w.heap.size) u := hl.lt.rd (fun j hj => hj.2)
      obtain ⟨y, rfl, e2, e3⟩ := hl'.fl (hx' j hj)
      exact ⟨y, hu, e2⟩
    have HR := hid hr; have HX := hid hxx; have HB := hid (hS b hb); have HS := hid hb; clear hr hx hxx t1 t2 t3 T hb hx'
    go_enter Try.func29, Try.ntmps29
    go_wp2
    go_loopw [1, 5] (fun m i wr => ∃ k : Nat, k ≤ n ∧ i = .int .i64 k ∧ m = .int .i64 (z + k) ∧ Hid (∃ ds, Row wr b t ds ∧ ∀ j, j < n → ∃ y, ds[o + j]? = some (.float .f32 y) ∧ fits .f32 y ∧ (j < k → can .f32 y = markW z j)) ∧ Hid (Chg S w wr)) (fun _ i _ => n - (intOf i).toNat)
    case atStart => exact ⟨0, by omega, rfl, by simp, ⟨cs, HR.out, fun j hj => by obtain ⟨y, e1, e2⟩ := HX.out j hj; exact ⟨y, e1, e2, fun h => absurd h (by omega)⟩⟩, Chg.refl _ _⟩
    case round =>
      obtain ⟨k, hk, rfl, rfl, HO, HU⟩ := hrel
      by_cases hlt : k < n
      · rename_i wr _
        obtain ⟨ds, hd, hy⟩ := HO.out
        obtain ⟨y0, c0, _⟩ := hy k hlt
        have c2 : wr.cell? ⟨b, o + k, none⟩ = some (.float .f32 y0) := (hd.cell? (o + k)).trans c0
        have f2 := hd.frozen (o + k)
        have HD := hid hd; have HY := hid hy; have HC := hid c0
        clear hd hy c0 HO
        go_wp2
        go_roundw
        case rel =>
          refine ⟨k + 1, by omega, by go_num, by go_num, ⟨_, HD.out.set (o + k) (.float .f32 (markW z k)), fun j hj => ?_⟩, Chg.setCell HU.out HB.out _⟩
          by_cases e : j = k
          · subst e
            refine ⟨markW z j, ?_, ?_, fun _ => ?_⟩
            · rw [Array.getElem?_setIfInBounds_self_of_lt (Array.getElem?_eq_some_iff.1 HC.out).1]
            · exact floatOfInt_wf .f32 _
            · exact can_int _
          · obtain ⟨y, e1, e2, e3⟩ := HY.out j hj
            exact ⟨y, by rw [Array.getElem?_setIfInBounds_ne (by omega)]; exact e1, e2, fun h => e3 (by omega)⟩
        case measure => simp [intOf]; omega
      · obtain rfl : k = n := by omega
        go_wp2
        go_ret
        obtain ⟨ds, hd, hy⟩ := HO.out
        exact ⟨rfl, KEY.out _ (.inr ⟨b, o, cap, t, ds, rfl, hc, hg, HS.out, hd, fun _ _ => False, fun _ _ h => h.elim, fun _ _ _ h => h.elim, fun j hj => by obtain ⟨y, e1, e2, e3⟩ := hy j (by simpa using hj); exact ⟨_, e1, y, rfl, e2, e3 (by simpa using hj)⟩⟩), HU.out⟩
theorem heldU_Float32S (B n : Nat) (x : Nat → CD) (s : Value) (z : Int) (w : World) (hn : mtL [CD.sl 1 n x] ≤ 1048576) (hz : 0 ≤ z) (hz2 : z ≤ 1073741824) (hx : ∀ i, i < n → ∀ j, j < 1 → ShOk ([Sh.flt .f32].getD j .bool) (x (i * 1 + j))) (hs : RdL w B (mkL [.sl 1 n x] z) [s]) :
    Calls Try.prog 30 #[s, .int .i64 z] w fun e w' => e = .returned (.int .i64 (z + (mtL [CD.sl 1 n x] : Nat))) ∧ le w w' := by
  have hx' := ShOk.flts hx rfl
  have em : mtL [CD.sl 1 n x] = n := by simp only [mtL, CD.mt_flts hx']; omega
  rw [em] at hn ⊢
  have h0 := hs.2 0 s _ rfl rfl
  exact (heldR B s n z w hn hz hz2 (h0.congr (CD.mk_flts hx' z).symm).rds).mono (fun e w' ⟨h1, h2⟩ => ⟨h1, h2 ▸ le_refl _⟩)
end Go.Proofs.Ytgjdmoenobacgaa

/- What functions give that make a struct with memory of its own. Nothing here names a program. -/
namespace Go.Fk
open Go Go.RowKit
def OutV_Ti (ar0 : List CD) (ar1 : Int) (w : World) (e : Ending) (w' : World) : Prop := ∃ (us : List Value), e = .returned (.tuple #[.agg us.toArray, .int .i64 ar1]) ∧ LayL w' (rng w.heap.size w'.heap.size) ar0 us ∧ le w w'
def OutV_Tfi (ar0 : List CD) (ar1 : Nat) (ar2 : Int) (w : World) (e : Ending) (w' : World) : Prop := ∃ (us : List Value) (v1 : Nat), e = .returned (.tuple #[.agg us.toArray, .float .f32 v1, .int .i64 ar2]) ∧ LayL w' (rng w.heap.size w'.heap.size) ar0 us ∧ le w w' ∧ can .f32 v1 = ar1
def OutV_Tli (ar0 : List CD) (xr1 : Nat → Nat) (nr1 : Nat) (ar2 : Int) (w : World) (e : Ending) (w' : World) : Prop := ∃ (us : List Value) (v1 : Value) (q : Nat), e = .returned (.tuple #[.agg us.toArray, v1, .int .i64 ar2]) ∧ LayL w' (rng w.heap.size q) ar0 us ∧ le w w' ∧ OwnS w' q w'.heap.size v1 xr1 nr1 ∧ w.heap.size ≤ q ∧ q ≤ w'.heap.size
def OutV_T (ar0 : List CD) (w : World) (e : Ending) (w' : World) : Prop := ∃ (us : List Value), e = .returned (.agg us.toArray) ∧ LayL w' (rng w.heap.size w'.heap.size) ar0 us ∧ le w w'
/-- Two results with memory: a struct, and a slice of floats behind it. -/
theorem Frg.lay2 {w0 w w' : World} {L : List Fact} (h : Frg w0 w L) (k : Below w.heap.size w w') {q : Nat} {cs : List CD} {us : List Value} {s : Value} {x : Nat → Nat} {n : Nat} (he : LayL w' (rng w.heap.size q) cs us) (ho : OwnS w' q w'.heap.size s x n) (h1 : w.heap.size ≤ q) (h2 : q ≤ w'.heap.size) : Frg w0 w' (ownF q w'.heap.size s x n :: layF w.heap.size q cs us :: L) := by
  have F1 := h.le k
  refine ⟨F1.below, fun e he' => ?_, .cons (fun x hx => ?_) (.cons (fun x hx => Nat.le_trans (h.facts x hx).2.1 (Nat.le_refl _)) F1.apart)⟩
  · rcases List.mem_cons.1 he' with rfl | he'
    · exact ⟨Nat.le_trans h.below.size h1, Nat.le_refl _, ho⟩
    · rcases List.mem_cons.1 he' with rfl | he'
      · exact ⟨h.below.size, h2, he⟩
      · exact F1.facts e he'
  · rcases List.mem_cons.1 hx with rfl | hx
    · exact Nat.le_refl _
    · exact Nat.le_trans (h.facts x hx).2.1 h1
end Go.Fk

/- Laws for operations that are guarded and wanted. Nothing here names a program. -/
namespace Go.Fk
open Go Go.RowKit
section
variable {P : Program} {w : World} {ops : Array Oper} {rest : List Oper} {o : Oper} {a : Act} {Q : Exit → Act → World → Prop}
theorem wpList_wanted (hw : Region.wanted o (yielded ops a.tmps) = true) (h : ∀ K : Act → World → Prop, (∀ a w, wpList P ops Q rest a w → K a w) → o.wp P a w K Q) : wpList P ops Q (o :: rest) a w :=
  wpList_step fun K hK => by simp only [hw, if_true]; exact h K hK
theorem wpList_widenG {src dst : TypeId} {x : Operand} (hop : o.op = Op.convert src dst x) {b : Nat} (hx : a.eval x = .float .f32 b)
    (hs : P.underlying src = some (.float .f32)) (hd : P.underlying dst = some (.float .f64)) (hw : Region.wanted o (yielded ops a.tmps) = true)
    (hK : ∀ r n, Hid (can .f64 r = can .f64 (widen b)) → Hid (fits .f64 r) → wpList P ops Q rest (a.put o.dst (.float .f64 r)) (w.drewN n)) : wpList P ops Q (o :: rest) a w := by
  refine wpList_wanted hw fun K hK' => ?_
  obtain ⟨r, n, hrun, hr, hf⟩ := run_widen (P := P) w src dst b hs hd
  unfold Oper.wp
  simp [execOp, hop, hx, hrun, Result.andThen]
  exact hK' _ _ (hK r n hr hf)
end
end Go.Fk

/- The same for a region whose last operations are forced to come last, and may write. Nothing here names a program. -/
namespace Go.Fk
open Go Go.RowKit

section
variable {P : Program} {ops : Array Oper} {md : Region.Mode} {C : World → Prop} {K : FuncId → Array Value → Value → Prop}

/-- Whatever order is picked of the first n operations; then L. -/
def anyTail (P : Program) (ops : Array Oper) (md : Region.Mode) (C : World → Prop) (K : FuncId → Array Value → Value → Prop) (n : Nat) (L : Array Bool → Act → Prop) : Nat → Array Bool → Act → Prop
  | 0, listed, a => L listed a
  | f + 1, listed, a => Region.ready md ops listed ≠ [] ∧
      ∀ i ∈ Region.ready md ops listed, i < n ∧ ∀ o, ops[i]? = some o → ∃ V, Gives P ops C K o a V ∧ ∀ v, V v → anyTail P ops md C K n L f (listed.setIfInBounds i true) (a.put o.dst v)

theorem wpOp_gives {i : Nat} {o : Oper} {a : Act} {w : World} {V : Value → Prop} {next : Act → World → Prop} {Q' : Exit → Act → World → Prop} (ho : ops[i]? = some o) (hw : C w) (hg : Gives P ops C K o a V)
    (hn : ∀ v w', C w' → V v → next (a.put o.dst v) w') : wpOp P ops Q' i next a w := by
  unfold wpOp
  simp only [ho]
  rcases hg with ⟨hwant, hv⟩ | ⟨hwant, hv⟩
  · rw [if_pos hwant]
    left
    have h3 := hv w hw
    unfold Oper.wp
    generalize (execOp a.eval o).run P w = r at h3
    cases r with
    | ok x w' =>
      cases x <;> simp only [within] at h3 <;> simp only [Oper.upon]
      case value u => exact hn u _ h3.1 h3.2
      case skip => exact hn undef _ h3.1 h3.2
      case enter f args =>
        refine h3.1.mono fun e w'' he => ?_
        obtain ⟨v, rfl, hk, hc⟩ := he
        exact hn v _ hc (h3.2 v hk)
    | halt x w' => simp only [within] at h3
  · rw [if_neg (by simp [hwant])]
    exact hn undef _ hw hv

theorem anyTail_sound {n g : Nat} {L : Array Bool → Act → Prop} {Q' : Exit → Act → World → Prop} (hL : ∀ listed a w, C w → L listed a → wpAny P md ops Q' g listed a w) :
    ∀ (f : Nat) (listed : Array Bool) (a : Act) (w : World), C w → anyTail P ops md C K n L f listed a → wpAny P md ops Q' (f + g) listed a w := by
  intro f
  induction f with
  | zero => intro listed a w hw h; rw [Nat.zero_add]; exact hL _ _ _ hw h
  | succ f ih =>
    intro listed a w hw h
    rw [show f + 1 + g = (f + g) + 1 by omega]
    refine ⟨fun h0 => absurd h0 h.1, fun i hi => ?_⟩
    obtain ⟨_, o, ho, _⟩ := mem_ready.1 hi
    obtain ⟨V, hg, hn⟩ := (h.2 i hi).2 o ho
    exact wpOp_gives ho hw hg (fun v w' hw' hv => ih _ _ _ hw' (hn v hv))

theorem anyTail_first {n i : Nat} {oi : Oper} {V : Value → Prop} {L : Array Bool → Act → Prop} (hi : ops[i]? = some oi) (hsel : ∀ (j : Nat) (o : Oper) cs b, ops[j]? = some o → o.op ≠ .select cs b) (hne : ∃ v, V v)
    (hs : Region.sinkB md ops n = true) (hc : Region.chainB md ops n = true) (hn : n < ops.size) (hin : i < n)
    (hdone : ∀ listed a, L listed a → ∀ j ∈ Region.ready md ops listed, n ≤ j) :
    ∀ (f : Nat) (listed : Array Bool) (a : Act), HeadInv md ops n listed →
      (∀ j oj, ops[j]? = some oj → j ≠ i → listed.getD j true = false → (∀ e ∈ oj.after, Region.binds md e = true → e.on ≠ i) → oi.apart ops oj = true) →
      i ∈ Region.ready md ops listed → Gives P ops C K oi a V →
      (∀ v, V v → anyTail P ops md C K n L f (listed.setIfInBounds i true) (a.put oi.dst v)) → anyTail P ops md C K n L (f + 1) listed a := by
  intro f
  induction f with
  | zero =>
    intro listed a inv _ hr hg H
    have hun := (mem_ready.1 hr).1
    refine ⟨fun h => (by rw [h] at hr; cases hr), fun j hj => ?_⟩
    have hjn : j < n := by
      rcases Nat.lt_or_ge j n with h | h
      · exact h
      · exact absurd hj (tail_waits hs hc hn inv _ i rfl hin hun j h)
    refine ⟨hjn, fun o ho => ?_⟩
    by_cases hji : j = i
    · subst hji
      rw [hi] at ho; cases ho
      exact ⟨V, hg, H⟩
    · obtain ⟨v, hv⟩ := hne
      have := hdone _ _ (H v hv) j (ready_mono hj hji)
      omega
  | succ f ih =>
    intro listed a inv hfree hr hg H
    have hun := (mem_ready.1 hr).1
    refine ⟨fun h => (by rw [h] at hr; cases hr), fun j hj => ?_⟩
    have hjn : j < n := by
      rcases Nat.lt_or_ge j n with h | h
      · exact h
      · exact absurd hj (tail_waits hs hc hn inv _ i rfl hin hun j h)
    refine ⟨hjn, fun o ho => ?_⟩
    by_cases hji : j = i
    · subst hji
      rw [hi] at ho; cases ho
      exact ⟨V, hg, H⟩
    · obtain ⟨hjun, oj, hoj, hall⟩ := mem_ready.1 hj
      rw [ho] at hoj; cases hoj
      have hnot : ∀ e ∈ o.after, Region.binds md e = true → e.on ≠ i := fun e he hb heq => by
        have h1 := hall e he hb
        rw [heq, getD_both hun] at h1
        cases h1
      have hap := hfree j o ho hji hjun hnot
      obtain ⟨a1, a2, a3⟩ := Oper.apart_spec hap
      have hsi := fun cs b => hsel i oi cs b hi
      have hsj := fun cs b => hsel j o cs b ho
      have hU : ∀ v : {v // V v}, ∃ U, Gives P ops C K o (a.put oi.dst v.1) U ∧ ∀ u, U u → anyTail P ops md C K n L f ((listed.setIfInBounds i true).setIfInBounds j true) ((a.put oi.dst v.1).put o.dst u) :=
        fun v => ((H v.1 v.2).2 j (ready_mono hj hji)).2 o ho
      obtain ⟨v0, hv0⟩ := hne
      let good : Value → Prop := fun u => ∀ v : {v // V v}, True → anyTail P ops md C K n L f ((listed.setIfInBounds i true).setIfInBounds j true) ((a.put oi.dst v.1).put o.dst u)
      have hone : ∀ v : {v // V v}, Gives P ops C K o a (fun u => anyTail P ops md C K n L f ((listed.setIfInBounds i true).setIfInBounds j true) ((a.put oi.dst v.1).put o.dst u)) := fun v => by
        obtain ⟨U, h1, h2⟩ := hU v
        have h1' : Gives P ops C K o a U := h1.same (execOp_put o hsj a oi.dst v.1 a1).symm (wanted_put o a oi.dst v.1 a1).symm
        rcases h1' with ⟨hw, h3⟩ | ⟨hw, h3⟩
        · exact .inl ⟨hw, fun w hw' => within_mono h2 (h3 w hw')⟩
        · exact .inr ⟨hw, h2 _ h3⟩
      have hgood : Gives P ops C K o a good := by
        by_cases hw : Region.wanted o (yielded ops a.tmps) = true
        · refine .inl ⟨hw, fun w hw' => ?_⟩
          refine within_all ⟨⟨v0, hv0⟩, trivial⟩ (fun v _ => ?_)
          rcases hone v with ⟨_, h3⟩ | ⟨h3, _⟩
          · exact h3 w hw'
          · rw [hw] at h3; cases h3
        · refine .inr ⟨by simpa using hw, fun v _ => ?_⟩
          rcases hone v with ⟨h3, _⟩ | ⟨_, h3⟩
          · exact absurd h3 hw
          · exact h3
      refine ⟨good, hgood, ?_⟩
      intro u hu
      have hfree' : ∀ k ok, ops[k]? = some ok → k ≠ i → (listed.setIfInBounds j true).getD k true = false →
          (∀ e ∈ ok.after, Region.binds md e = true → e.on ≠ i) → oi.apart ops ok = true := fun k ok hk hki hun hno => by
        refine hfree k ok hk hki ?_ hno
        by_cases hjk : j = k
        · subst hjk; exact hjun
        · rw [getD_set_ne true hjk] at hun; exact hun
      refine ih (listed.setIfInBounds j true) (a.put o.dst u) (inv.set hj hjn) hfree' (ready_mono hr (Ne.symm hji)) (hg.same (execOp_put oi hsi a o.dst u a3) (wanted_put oi a o.dst u a3)) (fun v hv => ?_)
      rw [Array.setIfInBounds_comm _ _ hji, ← Act.put_comm a v u a2]
      exact hu ⟨v, hv⟩ trivial

theorem anyTail_lex {n g : Nat} {Lq : Act → Prop} (hC : ∃ w, C w) (hsel : Region.noSelect ops = true) (hs : Region.sinkB md ops n = true) (hc : Region.chainB md ops n = true) (hn : n < ops.size) :
    ∀ (l : List Oper) (k : Nat) (listed : Array Bool) (a : Act), (∀ j, j < l.length → l[j]? = ops[k + j]?) → k + l.length = n → HeadInv md ops n listed →
    Region.lexHead md ops g l.length k listed = true → wpLoose P ops C K Lq l a →
    anyTail P ops md C K n (fun listed' a' => Region.seqB md ops g n listed' = true ∧ Lq a') l.length listed a := by
  intro l
  induction l with
  | nil =>
    intro k listed a _ hk _ hB h
    have : k = n := by simpa using hk
    subst this
    exact ⟨by simpa [Region.lexHead] using hB, h⟩
  | cons o l ih =>
    intro k listed a hl hk inv hB h
    have h0 : ops[k]? = some o := by simpa using (hl 0 (by simp)).symm
    simp only [List.length_cons, Region.lexHead, Bool.and_eq_true] at hB
    obtain ⟨⟨hr, hf⟩, hB'⟩ := hB
    have hkn : k < n := by simp only [List.length_cons] at hk; omega
    have hr' : k ∈ Region.ready md ops listed := by simpa using hr
    obtain ⟨V, hg, hnext⟩ := h
    exact anyTail_first h0 (Region.noSelect_spec hsel) (hg.some hC) hs hc hn hkn (fun listed' a' hL => seqB_ready hL.1) l.length listed a inv (Region.free_spec h0 hf) hr' hg
      (fun v hv => ih (k + 1) _ _ (fun j hj => by have := hl (j + 1) (by simp; omega); simpa [Nat.add_assoc, Nat.add_comm 1 j] using this) (by simp only [List.length_cons] at hk; omega) (inv.set hr' hkn) hB' (hnext v hv))

/-- ONE WALK SERVES EVERY ORDER; then the last operations, in theirs. -/
theorem wp_region_tail (K : FuncId → Array Value → Value → Prop) {id : Nat} {Q : Exit → Act → World → Prop} {a : Act} {w : World} {l : List Oper} (n : Nat) (hm : P.follows .mixedOrders = true) (hB : Region.lexTailB .any l.toArray n = true)
    (h : wpLoose P l.toArray (fun w' => ∃ m, w' = w.drewN m) K (fun a' => ∀ m, wpList P l.toArray Q (l.drop n) a' (w.drewN m)) (l.take n) a) : (Code.region id l.toArray true).wp P Q a w := by
  simp only [Region.lexTailB, Bool.and_eq_true, decide_eq_true_eq] at hB
  obtain ⟨⟨⟨⟨hsel, hn⟩, hs⟩, hc⟩, hlex⟩ := hB
  have hn' : n < l.length := by simpa using hn
  have htl : (l.take n).length = n := by simp; omega
  have hdl : (l.drop n).length = l.toArray.size - n := by simp
  have hC : ∃ m, ({ w with drawn := w.drawn + 1 } : World) = w.drewN m := ⟨1, rfl⟩
  have inv0 : HeadInv .any l.toArray n (Array.replicate l.toArray.size false) :=
    ⟨by simp, fun j oj _ hl => (by rw [getD_replicate_false] at hl; cases hl), fun t _ ht => getD_in (by simpa using ht) (getD_replicate_false _ _)⟩
  have H := anyTail_lex (md := .any) (C := fun w' => ∃ m, w' = w.drewN m) (g := l.toArray.size - n) ⟨_, hC⟩ hsel hs hc hn (l.take n) 0 _ a (fun j hj => by
    have hj' : j < n := by rw [htl] at hj; exact hj
    simp [hj']) (by simpa using htl) inv0 (by rw [htl]; exact hlex) h
  refine wp_region_any hm ?_
  have := anyTail_sound (Q' := Q) (C := fun w' => ∃ m, w' = w.drewN m) (g := l.toArray.size - n) (fun listed a' w' hw' hL => by
    obtain ⟨m, rfl⟩ := hw'
    have := wpAny_of_seq (md := .any) (Q' := Q) (l.drop n) n listed a' (w.drewN m) (fun j => by simp [List.getElem?_drop]) (by rw [hdl]; exact hL.1) (hL.2 m)
    rwa [hdl] at this) _ _ _ _ hC H
  rw [htl, show n + (l.toArray.size - n) = l.toArray.size by omega] at this
  exact this
end
end Go.Fk

/- Blocks of 16 floats: 'laws.toBlock', 'laws.eqBlock'. -/
namespace Go.Fk
open Go Go.RowKit
/-- A block of 16 floats is given, each up to the bits of NaN; nothing old is written. -/
def OutB (F : Nat → Nat) (w : World) (e : Ending) (w' : World) : Prop := ∃ g, e = .returned (.agg (ftab .f32 g 16)) ∧ (∀ j, j < 16 → can .f32 (g j) = F j ∧ fits .f32 (g j)) ∧ Below w.heap.size w w'
/-- One cell more of a row that is being filled. -/
theorem fill_step {α : Type} {p : Nat → α → Prop} {g : Nat → α} {k : Nat} {r : α} (h : ∀ j, j < k → p j (g j)) (hr : p k r) : ∀ j, j < k + 1 → p j (if j = k then r else g j) := by
  intro j hj
  by_cases e : j = k
  · subst e; simpa using hr
  · simpa [e] using h j (by omega)
theorem rest_step {α : Type} {g x : Nat → α} {k : Nat} {r : α} (h : ∀ j, k ≤ j → g j = x j) : ∀ j, k + 1 ≤ j → (if j = k then r else g j) = x j := by
  intro j hj
  rw [if_neg (by omega)]
  exact h j (by omega)
end Go.Fk
namespace Go.Proofs.Ytgjdmoenobacgaa
open Go.RowKit Go.Fk

theorem infoBlk : (Try.prog.info? 55).map (·.size) = some 16 := by kernel_rfl

theorem allocBlk (w : World) : (Instr.alloc 55 true (.tuple #[])).run Try.prog w = .ok (.pointer (some ⟨w.heap.size, 0, none⟩)) (w.alloc (.cells (ftab .f32 (fun _ => 0) 16) 55)) := by kernel_rfl

theorem toBlock_any (x : Nat → Nat) (w : World) : Calls Try.prog 32 #[.agg (ftab .f32 x 16)] w fun e w' => e = .returned (.agg (ftab .f32 x 16)) ∧ Below w.heap.size w w' := by
  go_enter Try.func32, Try.ntmps32
  go_wp2
  go_loopw [4] (fun i wr => ∃ k : Nat, k ≤ 16 ∧ i = .int .i64 k ∧ Row wr w.heap.size 54 (ftab .f32 x 16) ∧ (∃ z, Row wr (w.heap.size + 1) 55 (ftab .f32 z 16)) ∧ Row wr (w.heap.size + 1 + 1) 55 (ftab .f32 (fun j => if j < k then x j else 0) 16) ∧ Below w.heap.size w wr) (fun i _ => 16 - (intOf i).toNat)
  case atStart =>
    refine ⟨0, by omega, rfl, ?_, ⟨fun _ => 0, ?_⟩, ?_, by repeat' (first | (with_reducible exact Below.refl _ _) | (with_reducible assumption) | (with_reducible refine below_drewN ?_ _) | (with_reducible refine Below.alloc ?_ ?_ _) | (with_reducible refine Below.drew ?_) | (with_reducible refine Below.setCell ?_ ?_ _) | go_size)⟩
    · exact ((Row.new w _ _).alloc _).alloc _
    · exact (Row.new' _ _ _ (by simp)).alloc _
    · exact Row.new' _ _ _ (by simp)
  case round =>
    obtain ⟨k, hk, rfl, hA, ⟨z, hZ⟩, hO, hb⟩ := hrel
    by_cases hlt : k < 16
    · have c1 := hA.ftab hlt
      have c2 := hO.ftab hlt
      have f2 := hO.frozen k
      have HA := hid hA; clear hA
      have HZ := hid hZ; clear hZ
      have HO := hid hO; clear hO
      go_wp2
      go_roundw
      case rel =>
        refine ⟨k + 1, by omega, by go_num, HA.out.other _ _ (by simp; omega), ⟨z, HZ.out.other _ _ (by simp)⟩, ?_, hb.setCell (by simp; omega) _⟩
        have h := HO.out.set k (.float .f32 (x k))
        rw [set_ftab] at h
        rw [show (fun j => if j < k + 1 then x j else 0) = (fun j => if j = k then x k else if j < k then x j else 0) from ?_]
        · exact h
        · funext j
          by_cases e : j = k
          · subst e; simp
          · simp [e, show (j < k + 1) = (j < k) by simp; omega]
      case measure => simp [intOf]; omega
    · obtain rfl : k = 16 := by omega
      rw [show ftab .f32 (fun j => if j < 16 then x j else 0) 16 = ftab .f32 x 16 from ftab_congr (fun j hj => if_pos hj)] at hO
      have HA := hid hA; clear hA
      have hsz : (Try.prog.info? 55).map (·.size) = some (ftab .f32 x 16).size := by rw [size_ftab]; exact infoBlk
      go_wp2_with (first | (with_reducible refine wpList_loadA rfl rfl rfl hO Try.underlying55 hsz ?_) | (with_reducible refine wpList_storeA rfl rfl rfl rfl hZ hsz (by rw [size_ftab, size_ftab]) (one_ftab _ _ _) ?_))
      exact bodyPost_ret (results_cell_row rfl _ _ _ _ _ (0, 0) _ rfl (hZ.setRow _) Try.underlying55 rfl hsz) rfl ⟨rfl, below_setRow hb (by omega) _⟩

theorem eqBlock_yes (x y : Nat → Nat) (w : World) (h : ∀ j, j < 16 → can .f32 (x j) = can .f32 (y j)) :
    Calls Try.prog 34 #[.agg (ftab .f32 x 16), .agg (ftab .f32 y 16)] w fun e w' => e = .returned (.bool true) ∧ Below w.heap.size w w' := by
  have H := hid h; clear h
  go_enter Try.func34, Try.ntmps34
  go_wp2
  go_loopw [5] (fun i wr => ∃ k : Nat, k ≤ 16 ∧ i = .int .i64 k ∧ Row wr w.heap.size 55 (ftab .f32 x 16) ∧ Row wr (w.heap.size + 1) 55 (ftab .f32 y 16) ∧ Below w.heap.size w wr) (fun i _ => 16 - (intOf i).toNat)
  case atStart =>
    exact ⟨0, by omega, rfl, (Row.new w _ _).alloc _, Row.new' _ _ _ (by simp), by repeat' (first | (with_reducible exact Below.refl _ _) | (with_reducible assumption) | (with_reducible refine below_drewN ?_ _) | (with_reducible refine Below.alloc ?_ ?_ _) | (with_reducible refine Below.drew ?_) | (with_reducible refine Below.setCell ?_ ?_ _) | go_size)⟩
  case round =>
    obtain ⟨k, hk, rfl, hA, hB, hb⟩ := hrel
    by_cases hlt : k < 16
    · have c1 := hA.ftab hlt
      have c2 := hB.ftab hlt
      have HA := hid hA; clear hA
      have HB := hid hB; clear hB
      have hxy := hid (H.out k hlt)
      go_wp2_with fail
      refine wp_region_loose (fun _ _ v => v = .bool true) (by kernel_rfl) (by kernel_rfl) ?_
      repeat (first | (with_reducible refine wpLoose_widen rfl rfl rfl Try.underlying22 Try.underlying46 ?_; intro r hr hf; simp only [Act.put, List.setIfInBounds_toArray, List.set_cons_succ, List.set_cons_zero]) | (refine wpLoose_quiet rfl ?_; go_big_quiet_step (fail); refine wpQuiet_nil ?_))
      refine wpLoose_any rfl (· = .bool true) (fun n => ?_) ?_
      · go_simp
        refine loose_of (sameFloat_yes _ _ _ ?_)
        have hr1 := ‹Hid (can .f64 _ = can .f64 (widen (x k)))›
        exact hr1.out.trans ((congrArg (can .f64) (widen_congr hxy)).trans hr.out.symm)
      · rintro v rfl
        simp only [Act.put, List.setIfInBounds_toArray, List.set_cons_succ, List.set_cons_zero]
        repeat (refine wpLoose_quiet rfl ?_; go_big_quiet_step (fail); refine wpQuiet_nil ?_)
        refine wpLoose_nil (fun n => ?_)
        go_wp2
        go_roundw
        case rel => exact ⟨k + 1, by omega, by go_num, HA.out.drewN _, HB.out.drewN _, below_drewN hb _⟩
        case measure => simp [intOf]; omega
    · obtain rfl : k = 16 := by omega
      have HA := hid hA; clear hA
      have HB := hid hB; clear hB
      go_wp2
      go_ret
      exact ⟨rfl, hb⟩
end Go.Proofs.Ytgjdmoenobacgaa

/- Arrays of floats: 'laws.toX', 'laws.eqX' of [3]float32, [2]float32, Table. -/
namespace Go.Proofs.Ytgjdmoenobacgaa
open Go.RowKit Go.Fk
theorem infoA3 : (Try.prog.info? 26).map (·.size) = some 3 := by kernel_rfl
theorem allocA3 (w : World) : (Instr.alloc 26 true (.tuple #[])).run Try.prog w = .ok (.pointer (some ⟨w.heap.size, 0, none⟩)) (w.alloc (.cells (ftab .f32 (fun _ => 0) 3) 26)) := by kernel_rfl
theorem eqA3_yes (x y : Nat → Nat) (w : World) (h : ∀ j, j < 3 → can .f32 (x j) = can .f32 (y j)) :
    Calls Try.prog 104 #[.agg (ftab .f32 x 3), .agg (ftab .f32 y 3)] w fun e w' => e = .returned (.bool true) ∧ Below w.heap.size w w' := by
  have H := hid h; clear h
  go_enter Try.func104, Try.ntmps104
  go_wp2
  go_loopw [5] (fun i wr => ∃ k : Nat, k ≤ 3 ∧ i = .int .i64 k ∧ Row wr w.heap.size 26 (ftab .f32 x 3) ∧ Row wr (w.heap.size + 1) 26 (ftab .f32 y 3) ∧ Below w.heap.size w wr) (fun i _ => 3 - (intOf i).toNat)
  case atStart =>
    exact ⟨0, by omega, rfl, (Row.new w _ _).alloc _, Row.new' _ _ _ (by simp), by repeat' (first | (with_reducible exact Below.refl _ _) | (with_reducible assumption) | (with_reducible refine below_drewN ?_ _) | (with_reducible refine Below.alloc ?_ ?_ _) | (with_reducible refine Below.drew ?_) | (with_reducible refine Below.setCell ?_ ?_ _) | go_size)⟩
  case round =>
    obtain ⟨k, hk, rfl, hA, hB, hb⟩ := hrel
    by_cases hlt : k < 3
    · have c1 := hA.ftab hlt
      have c2 := hB.ftab hlt
      have HA := hid hA; clear hA
      have HB := hid hB; clear hB
      have hxy := hid (H.out k hlt)
      go_wp2_with fail
      refine wp_region_loose (fun _ _ v => v = .bool true) (by kernel_rfl) (by kernel_rfl) ?_
      repeat (first | (with_reducible refine wpLoose_widen rfl rfl rfl Try.underlying22 Try.underlying46 ?_; intro r hr hf; simp only [Act.put, List.setIfInBounds_toArray, List.set_cons_succ, List.set_cons_zero]) | (refine wpLoose_quiet rfl ?_; go_big_quiet_step (fail); refine wpQuiet_nil ?_))
      refine wpLoose_any rfl (· = .bool true) (fun n => ?_) ?_
      · go_simp
        refine loose_of (sameFloat_yes _ _ _ ?_)
        have hr1 := ‹Hid (can .f64 _ = can .f64 (widen (x k)))›
        exact hr1.out.trans ((congrArg (can .f64) (widen_congr hxy)).trans hr.out.symm)
      · rintro v rfl
        simp only [Act.put, List.setIfInBounds_toArray, List.set_cons_succ, List.set_cons_zero]
        repeat (refine wpLoose_quiet rfl ?_; go_big_quiet_step (fail); refine wpQuiet_nil ?_)
        refine wpLoose_nil (fun n => ?_)
        go_wp2
        go_roundw
        case rel => exact ⟨k + 1, by omega, by go_num, HA.out.drewN _, HB.out.drewN _, below_drewN hb _⟩
        case measure => simp [intOf]; omega
    · obtain rfl : k = 3 := by omega
      have HA := hid hA; clear hA
      have HB := hid hB; clear hB
      go_wp2
      go_ret
      exact ⟨rfl, hb⟩
theorem toA3_any (x : Nat → Nat) (w : World) : Calls Try.prog 112 #[.agg (ftab .f32 x 3)] w fun e w' => e = .returned (.agg (ftab .f32 x 3)) ∧ Below w.heap.size w w' := by
  go_enter Try.func112, Try.ntmps112
  go_wp2
  go_loopw [4] (fun i wr => ∃ k : Nat, k ≤ 3 ∧ i = .int .i64 k ∧ Row wr w.heap.size 26 (ftab .f32 x 3) ∧ (∃ z, Row wr (w.heap.size + 1) 26 (ftab .f32 z 3)) ∧ Row wr (w.heap.size + 1 + 1) 26 (ftab .f32 (fun j => if j < k then x j else 0) 3) ∧ Below w.heap.size w wr) (fun i _ => 3 - (intOf i).toNat)
  case atStart =>
    refine ⟨0, by omega, rfl, ?_, ⟨fun _ => 0, ?_⟩, ?_, by repeat' (first | (with_reducible exact Below.refl _ _) | (with_reducible assumption) | (with_reducible refine below_drewN ?_ _) | (with_reducible refine Below.alloc ?_ ?_ _) | (with_reducible refine Below.drew ?_) | (with_reducible refine Below.setCell ?_ ?_ _) | go_size)⟩
    · exact ((Row.new w _ _).alloc _).alloc _
    · exact (Row.new' _ _ _ (by simp)).alloc _
    · exact Row.new' _ _ _ (by simp)
  case round =>
    obtain ⟨k, hk, rfl, hA, ⟨z, hZ⟩, hO, hb⟩ := hrel
    by_cases hlt : k < 3
    · have c1 := hA.ftab hlt
      have c2 := hO.ftab hlt
      have f2 := hO.frozen k
      have HA := hid hA; clear hA
      have HZ := hid hZ; clear hZ
      have HO := hid hO; clear hO
      go_wp2
      go_roundw
      case rel =>
        refine ⟨k + 1, by omega, by go_num, HA.out.other _ _ (by simp; omega), ⟨z, HZ.out.other _ _ (by simp)⟩, ?_, hb.setCell (by simp; omega) _⟩
        have h := HO.out.set k (.float .f32 (x k))
        rw [set_ftab] at h
        rw [show (fun j => if j < k + 1 then x j else 0) = (fun j => if j = k then x k else if j < k then x j else 0) from ?_]
        · exact h
        · funext j
          by_cases e : j = k
          · subst e; simp
          · simp [e, show (j < k + 1) = (j < k) by simp; omega]
      case measure => simp [intOf]; omega
    · obtain rfl : k = 3 := by omega
      rw [show ftab .f32 (fun j => if j < 3 then x j else 0) 3 = ftab .f32 x 3 from ftab_congr (fun j hj => if_pos hj)] at hO
      have HA := hid hA; clear hA
      have hsz : (Try.prog.info? 26).map (·.size) = some (ftab .f32 x 3).size := by rw [size_ftab]; exact infoA3
      go_wp2_with (first | (with_reducible refine wpList_loadA rfl rfl rfl hO Try.underlying26 hsz ?_) | (with_reducible refine wpList_storeA rfl rfl rfl rfl hZ hsz (by rw [size_ftab, size_ftab]) (one_ftab _ _ _) ?_))
      exact bodyPost_ret (results_cell_row rfl _ _ _ _ _ (0, 0) _ rfl (hZ.setRow _) Try.underlying26 rfl hsz) rfl ⟨rfl, below_setRow hb (by omega) _⟩
theorem infoA2 : (Try.prog.info? 27).map (·.size) = some 2 := by kernel_rfl
theorem allocA2 (w : World) : (Instr.alloc 27 true (.tuple #[])).run Try.prog w = .ok (.pointer (some ⟨w.heap.size, 0, none⟩)) (w.alloc (.cells (ftab .f32 (fun _ => 0) 2) 27)) := by kernel_rfl
theorem eqA2_yes (x y : Nat → Nat) (w : World) (h : ∀ j, j < 2 → can .f32 (x j) = can .f32 (y j)) :
    Calls Try.prog 105 #[.agg (ftab .f32 x 2), .agg (ftab .f32 y 2)] w fun e w' => e = .returned (.bool true) ∧ Below w.heap.size w w' := by
  have H := hid h; clear h
  go_enter Try.func105, Try.ntmps105
  go_wp2
  go_loopw [5] (fun i wr => ∃ k : Nat, k ≤ 2 ∧ i = .int .i64 k ∧ Row wr w.heap.size 27 (ftab .f32 x 2) ∧ Row wr (w.heap.size + 1) 27 (ftab .f32 y 2) ∧ Below w.heap.size w wr) (fun i _ => 2 - (intOf i).toNat)
  case atStart =>
    exact ⟨0, by omega, rfl, (Row.new w _ _).alloc _, Row.new' _ _ _ (by simp), by repeat' (first | (with_reducible exact Below.refl _ _) | (with_reducible assumption) | (with_reducible refine below_drewN ?_ _) | (with_reducible refine Below.alloc ?_ ?_ _) | (with_reducible refine Below.drew ?_) | (with_reducible refine Below.setCell ?_ ?_ _) | go_size)⟩
  case round =>
    obtain ⟨k, hk, rfl, hA, hB, hb⟩ := hrel
    by_cases hlt : k < 2
    · have c1 := hA.ftab hlt
      have c2 := hB.ftab hlt
      have HA := hid hA; clear hA
      have HB := hid hB; clear hB
      have hxy := hid (H.out k hlt)
      go_wp2_with fail
      refine wp_region_loose (fun _ _ v => v = .bool true) (by kernel_rfl) (by kernel_rfl) ?_
      repeat (first | (with_reducible refine wpLoose_widen rfl rfl rfl Try.underlying22 Try.underlying46 ?_; intro r hr hf; simp only [Act.put, List.setIfInBounds_toArray, List.set_cons_succ, List.set_cons_zero]) | (refine wpLoose_quiet rfl ?_; go_big_quiet_step (fail); refine wpQuiet_nil ?_))
      refine wpLoose_any rfl (· = .bool true) (fun n => ?_) ?_
      · go_simp
        refine loose_of (sameFloat_yes _ _ _ ?_)
        have hr1 := ‹Hid (can .f64 _ = can .f64 (widen (x k)))›
        exact hr1.out.trans ((congrArg (can .f64) (widen_congr hxy)).trans hr.out.symm)
      · rintro v rfl
        simp only [Act.put, List.setIfInBounds_toArray, List.set_cons_succ, List.set_cons_zero]
        repeat (refine wpLoose_quiet rfl ?_; go_big_quiet_step (fail); refine wpQuiet_nil ?_)
        refine wpLoose_nil (fun n => ?_)
        go_wp2
        go_roundw
        case rel => exact ⟨k + 1, by omega, by go_num, HA.out.drewN _, HB.out.drewN _, below_drewN hb _⟩
        case measure => simp [intOf]; omega
    · obtain rfl : k = 2 := by omega
      have HA := hid hA; clear hA
      have HB := hid hB; clear hB
      go_wp2
      go_ret
      exact ⟨rfl, hb⟩
theorem toA2_any (x : Nat → Nat) (w : World) : Calls Try.prog 113 #[.agg (ftab .f32 x 2)] w fun e w' => e = .returned (.agg (ftab .f32 x 2)) ∧ Below w.heap.size w w' := by
  go_enter Try.func113, Try.ntmps113
  go_wp2
  go_loopw [4] (fun i wr => ∃ k : Nat, k ≤ 2 ∧ i = .int .i64 k ∧ Row wr w.heap.size 27 (ftab .f32 x 2) ∧ (∃ z, Row wr (w.heap.size + 1) 27 (ftab .f32 z 2)) ∧ Row wr (w.heap.size + 1 + 1) 27 (ftab .f32 (fun j => if j < k then x j else 0) 2) ∧ Below w.heap.size w wr) (fun i _ => 2 - (intOf i).toNat)
  case atStart =>
    refine ⟨0, by omega, rfl, ?_, ⟨fun _ => 0, ?_⟩, ?_, by repeat' (first | (with_reducible exact Below.refl _ _) | (with_reducible assumption) | (with_reducible refine below_drewN ?_ _) | (with_reducible refine Below.alloc ?_ ?_ _) | (with_reducible refine Below.drew ?_) | (with_reducible refine Below.setCell ?_ ?_ _) | go_size)⟩
    · exact ((Row.new w _ _).alloc _).alloc _
    · exact (Row.new' _ _ _ (by simp)).alloc _
    · exact Row.new' _ _ _ (by simp)
  case round =>
    obtain ⟨k, hk, rfl, hA, ⟨z, hZ⟩, hO, hb⟩ := hrel
    by_cases hlt : k < 2
    · have c1 := hA.ftab hlt
      have c2 := hO.ftab hlt
      have f2 := hO.frozen k
      have HA := hid hA; clear hA
      have HZ := hid hZ; clear hZ
      have HO := hid hO; clear hO
      go_wp2
      go_roundw
      case rel =>
        refine ⟨k + 1, by omega, by go_num, HA.out.other _ _ (by simp; omega), ⟨z, HZ.out.other _ _ (by simp)⟩, ?_, hb.setCell (by simp; omega) _⟩
        have h := HO.out.set k (.float .f32 (x k))
        rw [set_ftab] at h
        rw [show (fun j => if j < k + 1 then x j else 0) = (fun j => if j = k then x k else if j < k then x j else 0) from ?_]
        · exact h
        · funext j
          by_cases e : j = k
          · subst e; simp
          · simp [e, show (j < k + 1) = (j < k) by simp; omega]
      case measure => simp [intOf]; omega
    · obtain rfl : k = 2 := by omega
      rw [show ftab .f32 (fun j => if j < 2 then x j else 0) 2 = ftab .f32 x 2 from ftab_congr (fun j hj => if_pos hj)] at hO
      have HA := hid hA; clear hA
      have hsz : (Try.prog.info? 27).map (·.size) = some (ftab .f32 x 2).size := by rw [size_ftab]; exact infoA2
      go_wp2_with (first | (with_reducible refine wpList_loadA rfl rfl rfl hO Try.underlying27 hsz ?_) | (with_reducible refine wpList_storeA rfl rfl rfl rfl hZ hsz (by rw [size_ftab, size_ftab]) (one_ftab _ _ _) ?_))
      exact bodyPost_ret (results_cell_row rfl _ _ _ _ _ (0, 0) _ rfl (hZ.setRow _) Try.underlying27 rfl hsz) rfl ⟨rfl, below_setRow hb (by omega) _⟩
end Go.Proofs.Ytgjdmoenobacgaa

/- Filters: 'laws.toFilter', 'laws.eqFilter'. -/
namespace Go.Fk
open Go Go.RowKit
/-- A row of three, of two. -/
def tri (a b c : Nat) : Nat → Nat | 0 => a | 1 => b | _ => c
def duo (a b : Nat) : Nat → Nat | 0 => a | _ => b
theorem tri_tab (a b c : Nat) : ftab .f32 (tri a b c) 3 = #[.float .f32 a, .float .f32 b, .float .f32 c] := rfl
theorem duo_tab (a b : Nat) : ftab .f32 (duo a b) 2 = #[.float .f32 a, .float .f32 b] := rfl
theorem fil_tab (k : Int) (a b c x y : Nat) : ((#[.int .i64 k, .float .f32 a, .float .f32 b, .float .f32 c, .float .f32 x, .float .f32 y] : Array Value) : Array Value).size = 6 := rfl
theorem tri_can {a b c a' b' c' : Nat} (h1 : can .f32 a = can .f32 a') (h2 : can .f32 b = can .f32 b') (h3 : can .f32 c = can .f32 c') : ∀ j, j < 3 → can .f32 (tri a b c j) = can .f32 (tri a' b' c' j) := by
  intro j hj
  match j, hj with
  | 0, _ => exact h1
  | 1, _ => exact h2
  | 2, _ => exact h3
theorem duo_can {a b a' b' : Nat} (h1 : can .f32 a = can .f32 a') (h2 : can .f32 b = can .f32 b') : ∀ j, j < 2 → can .f32 (duo a b j) = can .f32 (duo a' b' j) := by
  intro j hj
  match j, hj with
  | 0, _ => exact h1
  | 1, _ => exact h2
end Go.Fk
namespace Go.Proofs.Ytgjdmoenobacgaa
open Go.RowKit Go.Fk
theorem infoFil : (Try.prog.info? 29).map (·.size) = some 6 := by kernel_rfl
theorem info3 : (Try.prog.info? 26).map (·.size) = some 3 := by kernel_rfl
theorem info2 : (Try.prog.info? 27).map (·.size) = some 2 := by kernel_rfl
theorem infoFilL : (Try.prog.info? 38).map (·.size) = some 6 := by kernel_rfl
theorem eqFil_yes (k : Int) (a b c x y a' b' c' x' y' : Nat) (w : World) (h1 : can .f32 a = can .f32 a') (h2 : can .f32 b = can .f32 b') (h3 : can .f32 c = can .f32 c') (h4 : can .f32 x = can .f32 x') (h5 : can .f32 y = can .f32 y') :
    Calls Try.prog 68 #[(.agg #[.int .i64 k, .float .f32 a, .float .f32 b, .float .f32 c, .float .f32 x, .float .f32 y]), (.agg #[.int .i64 k, .float .f32 a', .float .f32 b', .float .f32 c', .float .f32 x', .float .f32 y'])] w fun e w' => e = .returned (.bool true) ∧ Below w.heap.size w w' := by
  have H3 := hid (tri_can h1 h2 h3)
  have H2 := hid (duo_can h4 h5)
  clear h1 h2 h3 h4 h5
  go_enter Try.func68, Try.ntmps68
  go_upto_region 1 with (fail)
  obtain ⟨W, hW⟩ : ∃ W, W = (w.alloc (.cells (#[.int .i64 k, .float .f32 a, .float .f32 b, .float .f32 c, .float .f32 x, .float .f32 y] : Array Value) 29)).alloc (.cells (#[.int .i64 k, .float .f32 a', .float .f32 b', .float .f32 c', .float .f32 x', .float .f32 y'] : Array Value) 29) := ⟨_, rfl⟩
  rw [← hW]
  have R1 : Row W w.heap.size 29 (#[.int .i64 k, .float .f32 a, .float .f32 b, .float .f32 c, .float .f32 x, .float .f32 y] : Array Value) := by rw [hW]; exact (Row.new _ _ _).alloc _
  have R2 : Row W (w.heap.size + 1) 29 (#[.int .i64 k, .float .f32 a', .float .f32 b', .float .f32 c', .float .f32 x', .float .f32 y'] : Array Value) := by rw [hW]; exact Row.new' _ _ _ (by simp)
  have hb : Below w.heap.size w W := by rw [hW]; repeat' (first | (with_reducible exact Below.refl _ _) | (with_reducible assumption) | (with_reducible refine below_drewN ?_ _) | (with_reducible refine Below.alloc ?_ ?_ _) | (with_reducible refine Below.drew ?_) | (with_reducible refine Below.setCell ?_ ?_ _) | go_size)
  have c1 := R1.cell? 0
  have c2 := R2.cell? 0
  clear hW
  go_wp2_with (first | (with_reducible refine wpList_load3 rfl rfl rfl (by with_reducible assumption) Try.underlying26 rfl info3 ?_) | (with_reducible refine wpList_load2 rfl rfl rfl (by with_reducible assumption) Try.underlying27 rfl info2 ?_) | (go_at_call 104; refine (eqA3_yes (tri a b c) (tri a' b' c') _ H3.out).mono ?_; rintro e w1 ⟨rfl, hb1⟩; replace R1 := R1.below hb1 (by have := R1.lt; omega); replace R2 := R2.below hb1 (by have := R2.lt; omega)) | (go_at_call 105; refine (eqA2_yes (duo x y) (duo x' y') _ H2.out).mono ?_; rintro e w2 ⟨rfl, hb2⟩))
  go_ret
  exact ⟨rfl, le_trans (le_trans hb hb1) hb2⟩
theorem toA3_lit (a b c : Nat) (w : World) : Calls Try.prog 112 #[.agg #[.float .f32 a, .float .f32 b, .float .f32 c]] w fun e w' => e = .returned (.agg #[.float .f32 a, .float .f32 b, .float .f32 c]) ∧ Below w.heap.size w w' := by
  have h := toA3_any (tri a b c) w
  rwa [tri_tab] at h
theorem toA2_lit (a b : Nat) (w : World) : Calls Try.prog 113 #[.agg #[.float .f32 a, .float .f32 b]] w fun e w' => e = .returned (.agg #[.float .f32 a, .float .f32 b]) ∧ Below w.heap.size w w' := by
  have h := toA2_any (duo a b) w
  rwa [duo_tab] at h
set_option maxRecDepth 100000 in
theorem toFil_any (k : Int) (a b c x y : Nat) (w : World) : Calls Try.prog 76 #[(.agg #[.int .i64 k, .float .f32 a, .float .f32 b, .float .f32 c, .float .f32 x, .float .f32 y])] w fun e w' => e = .returned (.agg #[.int .i64 k, .float .f32 a, .float .f32 b, .float .f32 c, .float .f32 x, .float .f32 y]) ∧ Below w.heap.size w w' := by
  go_enter Try.func76, Try.ntmps76
  go_upto_region 2 with (fail)
  obtain ⟨W, hW⟩ : ∃ W, W = ((w.alloc (.cells (#[.int .i64 k, .float .f32 a, .float .f32 b, .float .f32 c, .float .f32 x, .float .f32 y] : Array Value) 38)).alloc (.cells (#[.int .i64 0, .float .f32 0, .float .f32 0, .float .f32 0, .float .f32 0, .float .f32 0] : Array Value) 29)).alloc (.cells (#[.int .i64 0, .float .f32 0, .float .f32 0, .float .f32 0, .float .f32 0, .float .f32 0] : Array Value) 29) := ⟨_, rfl⟩
  rw [← hW]
  have R1 : Row W w.heap.size 38 (#[.int .i64 k, .float .f32 a, .float .f32 b, .float .f32 c, .float .f32 x, .float .f32 y] : Array Value) := by rw [hW]; exact ((Row.new _ _ _).alloc _).alloc _
  have R2 : Row W (w.heap.size + 1) 29 (#[.int .i64 0, .float .f32 0, .float .f32 0, .float .f32 0, .float .f32 0, .float .f32 0] : Array Value) := by rw [hW]; exact (Row.new' _ _ _ (by simp)).alloc _
  have R3 : Row W (w.heap.size + 1 + 1) 29 (#[.int .i64 0, .float .f32 0, .float .f32 0, .float .f32 0, .float .f32 0, .float .f32 0] : Array Value) := by rw [hW]; exact Row.new' _ _ _ (by simp)
  have hb : le w W := by rw [hW]; unfold le; repeat' (first | (with_reducible exact Below.refl _ _) | (with_reducible assumption) | (with_reducible refine below_drewN ?_ _) | (with_reducible refine Below.alloc ?_ ?_ _) | (with_reducible refine Below.drew ?_) | (with_reducible refine Below.setCell ?_ ?_ _) | go_size)
  have c1 := R1.cell? 0
  have c3 := R3.cell? 0
  have f3 := R3.frozen 0
  have hs := R3.lt
  clear hW
  go_upto_region 3 with (fail)
  obtain ⟨V, hV⟩ : ∃ V, V = W.setCell ⟨w.heap.size + 1 + 1, 0, none⟩ (.int .i64 k) := ⟨_, rfl⟩
  rw [← hV]
  replace R1 := R1.other ⟨w.heap.size + 1 + 1, 0, none⟩ (.int .i64 k) (by simp; omega)
  rw [← hV] at R1
  replace R2 := R2.other ⟨w.heap.size + 1 + 1, 0, none⟩ (.int .i64 k) (by simp)
  rw [← hV] at R2
  replace R3 : Row V (w.heap.size + 1 + 1) 29 (#[.int .i64 k, .float .f32 0, .float .f32 0, .float .f32 0, .float .f32 0, .float .f32 0] : Array Value) := by rw [hV]; exact R3.set 0 _
  replace hb : le w V := by rw [hV]; exact Below.setCell hb (by simp; omega) _
  clear hV c1 c3 f3
  go_wp2_with (first | (with_reducible refine wpList_load3 rfl rfl rfl (by with_reducible assumption) Try.underlying26 rfl info3 ?_) | (with_reducible refine wpList_load2 rfl rfl rfl (by with_reducible assumption) Try.underlying27 rfl info2 ?_) | (go_at_call 112; refine (toA3_lit a b c _).mono ?_; rintro e w1 ⟨rfl, hb1⟩; replace R1 := R1.below hb1 R1.lt; replace R2 := R2.below hb1 R2.lt; replace R3 := R3.below hb1 R3.lt; replace hb := le_trans hb hb1) | (go_at_call 113; refine (toA2_lit x y _).mono ?_; rintro e w1 ⟨rfl, hb1⟩; replace R1 := R1.below hb1 R1.lt; replace R2 := R2.below hb1 R2.lt; replace R3 := R3.below hb1 R3.lt; replace hb := le_trans hb hb1) | (refine wpList_store3 (u1 := .float .f32 a) (u2 := .float .f32 b) (u3 := .float .f32 c) rfl rfl rfl rfl R3 info3 (by simp [Value.oneCell']) ?_; intro w2 K; replace R1 := K.other _ _ _ (by omega) R1; replace R2 := K.other _ _ _ (by omega) R2; replace R3 := K.row; replace hb := K.below _ _ hb (by omega); clear K) | (refine wpList_store2 (u1 := .float .f32 x) (u2 := .float .f32 y) rfl rfl rfl rfl R3 info2 (by simp [Value.oneCell']) ?_; intro w2 K; replace R1 := K.other _ _ _ (by omega) R1; replace R2 := K.other _ _ _ (by omega) R2; replace R3 := K.row; replace hb := K.below _ _ hb (by omega); clear K) | (with_reducible refine wpList_loadDn rfl rfl rfl R3 Try.underlying29 rfl infoFil (by simp) ?_) | (refine wpList_storeD rfl rfl rfl rfl R2 infoFil rfl (by simp [Value.oneCell']) ?_; intro w2 K; replace R2 := K.row; replace hb := K.below _ _ hb (by omega); clear K))
  exact bodyPost_ret (results_row1 rfl _ _ _ _ _ rfl R2 Try.underlying29 rfl infoFil) rfl ⟨rfl, hb⟩
end Go.Proofs.Ytgjdmoenobacgaa

/- Sizes of types, kinds of their cells; the kinds of data. -/
namespace Go.Fk
open Go Go.RowKit
theorem partFilter_C (v0 v1 v2 v3 v4 v5 : Value) : ∀ j, j < [v1, v2, v3].length → (#[v0, v1, v2, v3, v4, v5] : Array Value)[1 + j]? = [v1, v2, v3][j]? := fun j hj => by match j, hj with | 0, _ => rfl | 1, _ => rfl | 2, _ => rfl
theorem partFilter_S (v0 v1 v2 v3 v4 v5 : Value) : ∀ j, j < [v4, v5].length → (#[v0, v1, v2, v3, v4, v5] : Array Value)[4 + j]? = [v4, v5][j]? := fun j hj => by match j, hj with | 0, _ => rfl | 1, _ => rfl
theorem partString_Loop (v0 v1 v2 v3 v4 v5 v6 v7 v8 v9 v10 v11 v12 v13 v14 : Value) : ∀ j, j < [v0, v1].length → (#[v0, v1, v2, v3, v4, v5, v6, v7, v8, v9, v10, v11, v12, v13, v14] : Array Value)[0 + j]? = [v0, v1][j]? := fun j hj => by match j, hj with | 0, _ => rfl | 1, _ => rfl
theorem partString_Tune (v0 v1 v2 v3 v4 v5 v6 v7 v8 v9 v10 v11 v12 v13 v14 : Value) : ∀ j, j < [v2, v3, v4, v5, v6, v7].length → (#[v0, v1, v2, v3, v4, v5, v6, v7, v8, v9, v10, v11, v12, v13, v14] : Array Value)[2 + j]? = [v2, v3, v4, v5, v6, v7][j]? := fun j hj => by match j, hj with | 0, _ => rfl | 1, _ => rfl | 2, _ => rfl | 3, _ => rfl | 4, _ => rfl | 5, _ => rfl
theorem partString_Damp (v0 v1 v2 v3 v4 v5 v6 v7 v8 v9 v10 v11 v12 v13 v14 : Value) : ∀ j, j < [v8, v9, v10, v11, v12, v13].length → (#[v0, v1, v2, v3, v4, v5, v6, v7, v8, v9, v10, v11, v12, v13, v14] : Array Value)[8 + j]? = [v8, v9, v10, v11, v12, v13][j]? := fun j hj => by match j, hj with | 0, _ => rfl | 1, _ => rfl | 2, _ => rfl | 3, _ => rfl | 4, _ => rfl | 5, _ => rfl
theorem partPipe_End (v0 v1 v2 v3 v4 v5 v6 v7 v8 v9 v10 v11 v12 : Value) : ∀ j, j < [v3, v4, v5, v6, v7, v8].length → (#[v0, v1, v2, v3, v4, v5, v6, v7, v8, v9, v10, v11, v12] : Array Value)[3 + j]? = [v3, v4, v5, v6, v7, v8][j]? := fun j hj => by match j, hj with | 0, _ => rfl | 1, _ => rfl | 2, _ => rfl | 3, _ => rfl | 4, _ => rfl | 5, _ => rfl
theorem partBow_Neck (v0 v1 v2 v3 v4 v5 v6 v7 v8 v9 v10 v11 : Value) : ∀ j, j < [v0, v1].length → (#[v0, v1, v2, v3, v4, v5, v6, v7, v8, v9, v10, v11] : Array Value)[0 + j]? = [v0, v1][j]? := fun j hj => by match j, hj with | 0, _ => rfl | 1, _ => rfl
theorem partBow_Bridge (v0 v1 v2 v3 v4 v5 v6 v7 v8 v9 v10 v11 : Value) : ∀ j, j < [v2, v3].length → (#[v0, v1, v2, v3, v4, v5, v6, v7, v8, v9, v10, v11] : Array Value)[2 + j]? = [v2, v3][j]? := fun j hj => by match j, hj with | 0, _ => rfl | 1, _ => rfl
theorem partBow_Damp (v0 v1 v2 v3 v4 v5 v6 v7 v8 v9 v10 v11 : Value) : ∀ j, j < [v4, v5, v6, v7, v8, v9].length → (#[v0, v1, v2, v3, v4, v5, v6, v7, v8, v9, v10, v11] : Array Value)[4 + j]? = [v4, v5, v6, v7, v8, v9][j]? := fun j hj => by match j, hj with | 0, _ => rfl | 1, _ => rfl | 2, _ => rfl | 3, _ => rfl | 4, _ => rfl | 5, _ => rfl
theorem partJet_Throat (v0 v1 v2 v3 v4 v5 v6 v7 v8 v9 v10 v11 v12 v13 v14 v15 v16 v17 : Value) : ∀ j, j < [v0, v1].length → (#[v0, v1, v2, v3, v4, v5, v6, v7, v8, v9, v10, v11, v12, v13, v14, v15, v16, v17] : Array Value)[0 + j]? = [v0, v1][j]? := fun j hj => by match j, hj with | 0, _ => rfl | 1, _ => rfl
theorem partJet_Bore (v0 v1 v2 v3 v4 v5 v6 v7 v8 v9 v10 v11 v12 v13 v14 v15 v16 v17 : Value) : ∀ j, j < [v2, v3].length → (#[v0, v1, v2, v3, v4, v5, v6, v7, v8, v9, v10, v11, v12, v13, v14, v15, v16, v17] : Array Value)[2 + j]? = [v2, v3][j]? := fun j hj => by match j, hj with | 0, _ => rfl | 1, _ => rfl
theorem partJet_Low (v0 v1 v2 v3 v4 v5 v6 v7 v8 v9 v10 v11 v12 v13 v14 v15 v16 v17 : Value) : ∀ j, j < [v4, v5, v6, v7, v8, v9].length → (#[v0, v1, v2, v3, v4, v5, v6, v7, v8, v9, v10, v11, v12, v13, v14, v15, v16, v17] : Array Value)[4 + j]? = [v4, v5, v6, v7, v8, v9][j]? := fun j hj => by match j, hj with | 0, _ => rfl | 1, _ => rfl | 2, _ => rfl | 3, _ => rfl | 4, _ => rfl | 5, _ => rfl
theorem partJet_Dc (v0 v1 v2 v3 v4 v5 v6 v7 v8 v9 v10 v11 v12 v13 v14 v15 v16 v17 : Value) : ∀ j, j < [v10, v11, v12, v13, v14, v15].length → (#[v0, v1, v2, v3, v4, v5, v6, v7, v8, v9, v10, v11, v12, v13, v14, v15, v16, v17] : Array Value)[10 + j]? = [v10, v11, v12, v13, v14, v15][j]? := fun j hj => by match j, hj with | 0, _ => rfl | 1, _ => rfl | 2, _ => rfl | 3, _ => rfl | 4, _ => rfl | 5, _ => rfl
theorem partComb_Ring (v0 v1 v2 : Value) : ∀ j, j < [v0, v1].length → (#[v0, v1, v2] : Array Value)[0 + j]? = [v0, v1][j]? := fun j hj => by match j, hj with | 0, _ => rfl | 1, _ => rfl
def shRing : List Sh := [.sl 1 (fun j => [.flt .f32].getD j .bool), .int .i64]
def shFilter : List Sh := [.int .i64, .flt .f32, .flt .f32, .flt .f32, .flt .f32, .flt .f32]
def shString : List Sh := [.sl 1 (fun j => [.flt .f32].getD j .bool), .int .i64, .int .i64, .flt .f32, .flt .f32, .flt .f32, .flt .f32, .flt .f32, .int .i64, .flt .f32, .flt .f32, .flt .f32, .flt .f32, .flt .f32, .flt .f32]
def shPipe : List Sh := [.sl 2 (fun j => [.sl 1 (fun j => [.flt .f32].getD j .bool), .int .i64].getD j .bool), .sl 2 (fun j => [.sl 1 (fun j => [.flt .f32].getD j .bool), .int .i64].getD j .bool), .sl 1 (fun j => [.flt .f32].getD j .bool), .int .i64, .flt .f32, .flt .f32, .flt .f32, .flt .f32, .flt .f32, .bool, .flt .f32, .flt .f32, .flt .f32]
def shBow : List Sh := [.sl 1 (fun j => [.flt .f32].getD j .bool), .int .i64, .sl 1 (fun j => [.flt .f32].getD j .bool), .int .i64, .int .i64, .flt .f32, .flt .f32, .flt .f32, .flt .f32, .flt .f32, .flt .f32, .flt .f32]
def shJet : List Sh := [.sl 1 (fun j => [.flt .f32].getD j .bool), .int .i64, .sl 1 (fun j => [.flt .f32].getD j .bool), .int .i64, .int .i64, .flt .f32, .flt .f32, .flt .f32, .flt .f32, .flt .f32, .int .i64, .flt .f32, .flt .f32, .flt .f32, .flt .f32, .flt .f32, .flt .f32, .flt .f32]
def shComb : List Sh := [.sl 1 (fun j => [.flt .f32].getD j .bool), .int .i64, .flt .f32]
def shTap : List Sh := [.int .i64, .flt .f32]
def shTuning : List Sh := [.flt .f32, .flt .f32, .sl 1 (fun j => [.flt .f32].getD j .bool)]
section
variable {P : Program} {w : World} {ops : Array Oper} {rest : List Oper} {o : Oper} {a : Act} {Q : Exit → Act → World → Prop}
/-- A value of one cell is loaded. -/
theorem wpList_load1 {w0 : World} {L : List Fact} (hF : Frg w0 w L) (hg : o.guard = none) {ty : TypeId} {x : Operand} (hop : o.op = .load ty x) {g f : Nat} (hx : a.eval x = .pointer (some ⟨g, f, none⟩)) {t : TypeId} {cs : Array Value} (hm : rowF g t cs ∈ L) {v : Value} (hv : cs[f]? = some v) (hu : ∀ w, (isAgg ty).run P w = .ok false w)
    (h : wpList P ops Q rest (a.put o.dst v) w) : wpList P ops Q (o :: rest) a w := by
  refine wpList_plain hg fun K hK' => ?_
  unfold Oper.wp execOp
  have hc : w.cell? ⟨g, f, none⟩ = some v := by rw [(hF.row hm).cell?, hv]
  have hl : (Instr.loadAt ty (.pointer (some ⟨g, f, none⟩))).run P w = .ok v w := by
    simp [Instr.loadAt, Instr.sureAddr, loadVar, hu, hc]
  simp [hop, hx, hl, Result.andThen]
  exact hK' _ _ h
/-- A value of one cell is stored. -/
theorem wpList_store1 (hg : o.guard = none) {ty : TypeId} {x y : Operand} (hop : o.op = .store ty x y) {g f : Nat} (hx : a.eval x = .pointer (some ⟨g, f, none⟩)) {v : Value} (hy : a.eval y = v) {t : TypeId} {old : Array Value}
    (hr : Row w g t old) (hi : (P.info? ty).map (·.size) = some 1) (ho : f < old.size) (h1 : v.oneCell' = true) (cs' : Array Value) (hcs : old.setIfInBounds f v = cs')
    (h : ∀ w', Wrote w w' g t cs' → wpList P ops Q rest (a.put o.dst undef) w') : wpList P ops Q (o :: rest) a w := by
  refine wpList_plain hg fun K hK' => ?_
  unfold Oper.wp execOp
  have hw := wrote_setCells [v] f old w hr
  simp only [patch, hcs, World.setCells] at hw
  have hc : w.cell? ⟨g, f, none⟩ = some old[f] := by rw [hr.cell?, Array.getElem?_eq_getElem ho]
  have hs : (store ⟨g, f, none⟩ v .plain).run P w = .ok () (w.setCell ⟨g, f, none⟩ v) := by rw [run_store P w _ v _ h1, hc]; simp [hr.frozen f]
  have hvc : v.cells = #[v] := by cases v <;> first | rfl | simp [Value.oneCell'] at h1
  cases hq : P.info? ty with
  | none => simp [hq] at hi
  | some i =>
    have hz : i.size = 1 := by simpa [hq] using hi
    have hl : (Instr.storeAt ty (.pointer (some ⟨g, f, none⟩)) v).run P w = .ok () (w.setCell ⟨g, f, none⟩ v) := by
      simp [Instr.storeAt, Instr.sureAddr, storeVar, sizeOf, typeInfo, hq, hz, hvc, storeCells, Addr.add, hs, Sem.run_bind]
    simp [hop, hx, hy, hl, Result.andThen]
    exact hK' _ _ (h _ hw)
end
end Go.Fk
namespace Go.Proofs.Ytgjdmoenobacgaa
open Go.RowKit Go.Fk
theorem uinfoRingL : (Try.prog.info? 37).map (·.size) = some 2 := by kernel_rfl
theorem uinfoRingI : (Try.prog.info? 25).map (·.size) = some 2 := by kernel_rfl
theorem uinfoFilterL : (Try.prog.info? 38).map (·.size) = some 6 := by kernel_rfl
theorem uinfoFilterI : (Try.prog.info? 29).map (·.size) = some 6 := by kernel_rfl
theorem uinfoBowL : (Try.prog.info? 40).map (·.size) = some 12 := by kernel_rfl
theorem uinfoBowI : (Try.prog.info? 31).map (·.size) = some 12 := by kernel_rfl
theorem uinfoJetL : (Try.prog.info? 74).map (·.size) = some 18 := by kernel_rfl
theorem uinfoJetI : (Try.prog.info? 67).map (·.size) = some 18 := by kernel_rfl
theorem uinfoFloat32A2 : (Try.prog.info? 27).map (·.size) = some 2 := by kernel_rfl
theorem uinfoFloat32A3 : (Try.prog.info? 26).map (·.size) = some 3 := by kernel_rfl
theorem ukindFilterSI : ∀ w : World, (isAgg 172).run Try.prog w = .ok false w := fun w => by kernel_rfl
theorem ukindRingSI : ∀ w : World, (isAgg 133).run Try.prog w = .ok false w := fun w => by kernel_rfl
theorem ukindFloat32S : ∀ w : World, (isAgg 23).run Try.prog w = .ok false w := fun w => by kernel_rfl
theorem ukindBool : ∀ w : World, (isAgg 4).run Try.prog w = .ok false w := fun w => by kernel_rfl
theorem ukindFloat32 : ∀ w : World, (isAgg 22).run Try.prog w = .ok false w := fun w => by kernel_rfl
theorem ukindInt64 : ∀ w : World, (isAgg 2).run Try.prog w = .ok false w := fun w => by kernel_rfl
theorem makeW_Ring (n : Nat) (hn : n ≤ 1048576) : ∃ cs : Array Value, cs.size = n * 2 ∧ ∀ w, (Instr.makeSlice 133 (.int .i64 (n : Int)) (.int .i64 (n : Int))).run Try.prog w = .ok (.slice (some ⟨w.heap.size, 0, none⟩) n n) (w.alloc (.cells cs 25)) := run_make_wide _ _ 2 Try.underlying133 (by kernel_rfl) n hn
theorem makeW_Filter (n : Nat) (hn : n ≤ 1048576) : ∃ cs : Array Value, cs.size = n * 6 ∧ ∀ w, (Instr.makeSlice 172 (.int .i64 (n : Int)) (.int .i64 (n : Int))).run Try.prog w = .ok (.slice (some ⟨w.heap.size, 0, none⟩) n n) (w.alloc (.cells cs 29)) := run_make_wide _ _ 6 Try.underlying172 (by kernel_rfl) n hn
theorem uinfo1FilterSI : (Try.prog.info? 172).map (·.size) = some 1 := by kernel_rfl
theorem uinfo1RingSI : (Try.prog.info? 133).map (·.size) = some 1 := by kernel_rfl
theorem uinfo1Float32S : (Try.prog.info? 23).map (·.size) = some 1 := by kernel_rfl
theorem uinfo1Bool : (Try.prog.info? 4).map (·.size) = some 1 := by kernel_rfl
theorem uinfo1Float32 : (Try.prog.info? 22).map (·.size) = some 1 := by kernel_rfl
theorem uinfo1Int64 : (Try.prog.info? 2).map (·.size) = some 1 := by kernel_rfl
theorem szU_Float32S (B n : Nat) (x : Nat → CD) (s : Value) (m r : Int) (w : World) (h : (CD.sl 1 n x).Rd w B s) (hsh : ∀ i, i < n → ∀ j, j < 1 → ShOk ([Sh.flt .f32].getD j .bool) (x (i * 1 + j))) (h0 : 0 ≤ m) (h1 : m ≤ 1048576) (hr : lessBy m (CD.sz (CD.sl 1 n x)) = r) :
    Calls Try.prog 106 #[s, .int .i64 m] w (OutI r w) := by
  have hf := ShOk.flts hsh rfl
  rw [CD.sz_flts hf] at hr
  have hd := h.rdf hf
  obtain ⟨y, hy, _⟩ := hd.slIn
  subst hr
  by_cases g : m - (n : Int) < 0
  · rw [lessBy_neg g]
    exact (szS_no s y n m w hy h0 h1 hd.small g).mono (fun e w' ⟨h1, h2⟩ => ⟨h1, h2 ▸ le_refl _⟩)
  · rw [lessBy_pos g]
    exact (szS_yes s y n m w hy h0 h1 hd.small (by omega)).mono (fun e w' ⟨h1, h2⟩ => ⟨h1, h2 ▸ le_refl _⟩)
theorem eqU_Float32S (B B' n : Nat) (x : Nat → CD) (s s' : Value) (w : World) (h : (CD.sl 1 n x).Rd w B s) (h' : (CD.sl 1 n x).Rd w B' s') (hsh : ∀ i, i < n → ∀ j, j < 1 → ShOk ([Sh.flt .f32].getD j .bool) (x (i * 1 + j))) (hz : CD.sz (CD.sl 1 n x) ≤ 1048576) :
    Calls Try.prog 28 #[s, s'] w (OutT w) := by
  have hf := ShOk.flts hsh rfl
  rw [CD.sz_flts hf] at hz
  exact (eqR B B' s s' _ n w hz (h.rdf hf) (h'.rdf hf)).mono (fun e w' ⟨h1, m, h2⟩ => ⟨h1, h2 ▸ le_drewN _ _⟩)
theorem toU_Float32S (B n : Nat) (x : Nat → CD) (s : Value) (w : World) (h : (CD.sl 1 n x).Rd w B s) (hsh : ∀ i, i < n → ∀ j, j < 1 → ShOk ([Sh.flt .f32].getD j .bool) (x (i * 1 + j))) (hz : CD.sz (CD.sl 1 n x) ≤ 1048576) :
    Calls Try.prog 26 #[s] w (OutC (CD.sl 1 n x).cp w) := by
  have hf := ShOk.flts hsh rfl
  rw [CD.sz_flts hf] at hz
  refine (toR B s _ n w (h.rdf hf) hz).mono ?_
  rintro e w' ⟨u, rfl, ho, hl⟩
  exact ⟨u, rfl, ho.lay.congr ⟨_, rfl, fun i hi => by rw [CD.cn_fl (hf i (by simpa using hi))]; exact CD.Eqv.refl _⟩, hl⟩
end Go.Proofs.Ytgjdmoenobacgaa

/- The laws' helpers for Ring, over trees of data. -/
namespace Go.Proofs.Ytgjdmoenobacgaa
open Go.RowKit Go.Fk
set_option maxRecDepth 100000 in
set_option maxHeartbeats 4000000 in
theorem szU_Ring (B : Nat) (cs : List CD) (vs : List Value) (m r : Int) (w : World) (h : RdL w B cs vs) (hsh : ShOkL shRing cs) (h0 : 0 ≤ m) (h1 : m ≤ 1048576) (hr : lessBy m (szL cs) = r) :
    Calls Try.prog 71 #[.agg vs.toArray, .int .i64 m] w (OutI r w) := by
  obtain ⟨c0, cs, rfl, q0, hsh⟩ := hsh.inv
  obtain ⟨c1, cs, rfl, q1, hsh⟩ := hsh.inv
  obtain rfl := hsh.inv0
  obtain ⟨v0, vs, rfl, r0, h⟩ := h.inv
  obtain ⟨v1, vs, rfl, r1, h⟩ := h.inv
  obtain rfl := h.inv0
  obtain ⟨z1, rfl⟩ := q1
  obtain ⟨rfl, wf1⟩ := r1
  obtain ⟨n0, x0, rfl, q0⟩ := q0
  obtain ⟨a0, ha0⟩ : ∃ a : Nat, a = CD.sz (.sl 1 n0 x0) := ⟨_, rfl⟩
  have H0 := hid (fun (m r : Int) (w' : World) (hl : le w w') (h0 : 0 ≤ m) (h1 : m ≤ 1048576) (hr : lessBy m a0 = r) => szU_Float32S B _ _ v0 m r w' (r0.le hl) q0 h0 h1 (ha0 ▸ hr))
  replace hr : Hid (lessBy m (a0) = r) := by rw [← hr]; congr 1; try (first | (simp only [szL, List.map_cons, List.map_nil, List.sum_cons, List.sum_nil, CD.sz, ha0]; done) | (simp only [szL, List.map_cons, List.map_nil, List.sum_cons, List.sum_nil, CD.sz, ha0]; omega))
  clear ha0
  have F := (Frg.nil w).box 37 #[v0, .int .i64 z1]
  by_cases g0 : m - (a0 : Int) < 0
  · have er : r = -1 := by have := hr.out; rw [lessBy_neg (by omega)] at this; omega
    subst er
    clear hr
    go_enter Try.func71, Try.ntmps71
    go_wp2_with (first | ((with_reducible refine at_load rfl ?_); first | (with_reducible refine wpList_load1 F rfl rfl rfl (by first | exact m0) (f := 0) (v := v0) rfl ukindFloat32S ?_) | (with_reducible refine wpList_load1 F rfl rfl rfl (by first | exact m0) (f := 1) (v := .int .i64 z1) rfl ukindInt64 ?_)) | (go_at_call 106; ((with_reducible refine (H0.out m (-1 : Int) _ F.below (by omega) (by omega) (by exact lessBy_neg (by omega))).mono ?_); rintro e w1 ⟨rfl, hl⟩; replace F := F.le hl; clear hl)))
    go_ret
    exact ⟨rfl, F.below⟩
  · skip
    have er : r = (m - (a0 : Int)) := by have := hr.out; rw [lessBy_pos (by omega)] at this; omega
    subst er
    clear hr
    go_enter Try.func71, Try.ntmps71
    go_wp2_with (first | ((with_reducible refine at_load rfl ?_); first | (with_reducible refine wpList_load1 F rfl rfl rfl (by first | exact m0) (f := 0) (v := v0) rfl ukindFloat32S ?_) | (with_reducible refine wpList_load1 F rfl rfl rfl (by first | exact m0) (f := 1) (v := .int .i64 z1) rfl ukindInt64 ?_)) | (go_at_call 106; ((with_reducible refine (H0.out m (m - (a0 : Int)) _ F.below (by omega) (by omega) (by exact lessBy_pos (by omega))).mono ?_); rintro e w1 ⟨rfl, hl⟩; replace F := F.le hl; clear hl)))
    go_ret
    exact ⟨rfl, F.below⟩
set_option maxRecDepth 100000 in
set_option maxHeartbeats 4000000 in
theorem eqU_Ring (B B' : Nat) (cs : List CD) (vs vs' : List Value) (w : World) (h : RdL w B cs vs) (h' : RdL w B' cs vs') (hsh : ShOkL shRing cs) (hz : szL cs ≤ 1048576) :
    Calls Try.prog 67 #[.agg vs.toArray, .agg vs'.toArray] w (OutT w) := by
  obtain ⟨c0, cs, rfl, q0, hsh⟩ := hsh.inv
  obtain ⟨c1, cs, rfl, q1, hsh⟩ := hsh.inv
  obtain rfl := hsh.inv0
  obtain ⟨v0, vs, rfl, r0, h⟩ := h.inv
  obtain ⟨v1, vs, rfl, r1, h⟩ := h.inv
  obtain rfl := h.inv0
  obtain ⟨v0', vs', rfl, r0', h'⟩ := h'.inv
  obtain ⟨v1', vs', rfl, r1', h'⟩ := h'.inv
  obtain rfl := h'.inv0
  obtain ⟨z1, rfl⟩ := q1
  obtain ⟨rfl, wf1⟩ := r1
  obtain ⟨rfl, wf1'⟩ := r1'
  simp only [szL, List.map_cons, List.map_nil, List.sum_cons, List.sum_nil] at hz
  obtain ⟨n0, x0, rfl, q0⟩ := q0
  have H0 := hid (fun (w' : World) (hl : le w w') => eqU_Float32S B B' _ _ v0 v0' w' (r0.le hl) (r0'.le hl) q0 (by omega))
  have F := ((Frg.nil w).box 25 #[v0, .int .i64 z1]).box 25 #[v0', .int .i64 z1]
  simp only [World.size_alloc] at F
  clear hz
  go_enter Try.func67, Try.ntmps67
  go_wp2_with (first | ((with_reducible refine listN F ?_); clear F; intro wN F) | ((with_reducible refine at_load rfl ?_); first | (with_reducible refine wpList_load1 F rfl rfl rfl (by first | exact m0 | exact m1) (f := 0) (v := v0) rfl ukindFloat32S ?_) | (with_reducible refine wpList_load1 F rfl rfl rfl (by first | exact m0 | exact m1) (f := 1) (v := .int .i64 z1) rfl ukindInt64 ?_) | (with_reducible refine wpList_load1 F rfl rfl rfl (by first | exact m0 | exact m1) (f := 0) (v := v0') rfl ukindFloat32S ?_) | (with_reducible refine wpList_load1 F rfl rfl rfl (by first | exact m0 | exact m1) (f := 1) (v := .int .i64 z1) rfl ukindInt64 ?_)) | (go_at_call 28; ((with_reducible refine (H0.out _ F.below).mono ?_); rintro e w1 ⟨rfl, hl⟩; replace F := F.le hl; clear hl)))
  go_ret
  first | exact ⟨rfl, F.below⟩ | exact ⟨rfl, below_drewN F.below _⟩
theorem inv_Ring {w : World} {S : Nat → Prop} {us : List Value} (n0 : Nat) (x0 : Nat → CD) (z1 : Int) (h : LayL w S (([(.sl 1 n0 x0), (.int .i64 z1)] : List CD).map CD.cp) us) : ∃ u0 : Value, u0.oneCell' = true ∧ us = [u0, .int .i64 z1] ∧ LayL w S (([(.sl 1 n0 x0), (.int .i64 z1)] : List CD).map CD.cp) [u0, .int .i64 z1] := by
  have h0 := h
  simp only [List.map_cons, List.map_nil] at h
  obtain ⟨u0, us0, _, _, rfl, l0, hh0, _, _, _⟩ := h.inv
  obtain ⟨u1, us1, _, _, rfl, l1, hh1, _, _, _⟩ := hh0.inv
  obtain ⟨rfl, _⟩ := l1
  obtain rfl := hh1.inv0
  exact ⟨u0, l0.one, rfl, h0⟩
set_option maxRecDepth 100000 in
set_option maxHeartbeats 4000000 in
theorem toU_Ring (B : Nat) (cs : List CD) (vs : List Value) (w : World) (h : RdL w B cs vs) (hsh : ShOkL shRing cs) (hz : szL cs ≤ 1048576) :
    Calls Try.prog 75 #[.agg vs.toArray] w (OutA' (cs.map CD.cp) w) := by
  obtain ⟨c0, cs, rfl, q0, hsh⟩ := hsh.inv
  obtain ⟨c1, cs, rfl, q1, hsh⟩ := hsh.inv
  obtain rfl := hsh.inv0
  obtain ⟨v0, vs, rfl, r0, h⟩ := h.inv
  obtain ⟨v1, vs, rfl, r1, h⟩ := h.inv
  obtain rfl := h.inv0
  obtain ⟨z1, rfl⟩ := q1
  obtain ⟨rfl, wf1⟩ := r1
  simp only [szL, List.map_cons, List.map_nil, List.sum_cons, List.sum_nil] at hz
  obtain ⟨n0, x0, rfl, q0⟩ := q0
  have H0 := hid (fun (w' : World) (hl : le w w') => toU_Float32S B _ _ v0 w' (r0.le hl) q0 (by omega))
  have F := (((Frg.nil w).box 37 #[v0, .int .i64 z1]).box 25 #[.slice none 0 0, .int .i64 0]).box 25 #[.slice none 0 0, .int .i64 0]
  simp only [World.size_alloc] at F
  clear hz
  go_enter Try.func75, Try.ntmps75
  go_wp2_with (first | ((with_reducible refine listN F ?_); clear F; intro wN F) | ((with_reducible refine at_load rfl ?_); first | (with_reducible refine wpList_load1 F rfl rfl rfl (by first | exact m0 | exact m1 | exact m2 | exact m3) (f := 0) (v := v0) rfl ukindFloat32S ?_) | (with_reducible refine wpList_load1 F rfl rfl rfl (by first | exact m0 | exact m1 | exact m2 | exact m3) (f := 1) (v := .int .i64 z1) rfl ukindInt64 ?_)) | (go_at_call 26; ((with_reducible refine (H0.out _ F.below).mono ?_); rintro e w1 ⟨u0, rfl, ho, hl⟩; have O0 := hid ho.one; replace F := F.lay1 hl (LayL.cons ho (LayL.nil _ (fun _ => False)) (fun _ h => h) (fun _ h => h.elim) (fun _ _ h => h)); clear ho hl)) | (with_reducible refine stop_store rfl ?_))
  show wpList _ _ _ _ _ _
  refine wpList_store1 rfl rfl (f := 0) rfl rfl (F.row m1) uinfo1Float32S (by simp) O0.out #[u0, .int .i64 0] rfl (fun w2 K => ?_)
  replace F := F.wrI1 (cs' := #[u0, .int .i64 0]) K
  clear K
  go_wp2_with (first | ((with_reducible refine listN F ?_); clear F; intro wN F) | ((with_reducible refine at_load rfl ?_); first | (with_reducible refine wpList_load1 F rfl rfl rfl (by first | exact m0 | exact m1 | exact m2 | exact m3 | exact m4) (f := 0) (v := v0) rfl ukindFloat32S ?_) | (with_reducible refine wpList_load1 F rfl rfl rfl (by first | exact m0 | exact m1 | exact m2 | exact m3 | exact m4) (f := 1) (v := .int .i64 z1) rfl ukindInt64 ?_)) | (with_reducible refine stop_store rfl ?_))
  show wpList _ _ _ _ _ _
  refine wpList_store1 rfl rfl (f := 1) rfl rfl (F.row m1) uinfo1Int64 (by simp) rfl #[u0, .int .i64 z1] rfl (fun w2 K => ?_)
  replace F := F.wrI1 (cs' := #[u0, .int .i64 z1]) K
  clear K
  go_wp2_with (first | ((with_reducible refine listN F ?_); clear F; intro wN F) | ((with_reducible refine at_load rfl ?_); (with_reducible refine wpList_loadG F rfl rfl rfl (by first | exact m0 | exact m1) Try.underlying25 rfl uinfoRingI rfl ?_)) | (with_reducible refine stop_store rfl ?_))
  show wpList _ _ _ _ _ _
  refine wpList_storeD rfl rfl rfl (cells := #[u0, .int .i64 z1]) rfl (F.row m2) uinfoRingI rfl (by (simp only [List.all_toArray', List.all_cons, List.all_nil, Bool.and_true, Bool.true_and, O0.out]) <;> rfl) (fun w6 K => ?_)
  have R := hid K.row
  replace F := F.wrI2 K
  have E0 := Eaten.start F
  replace E0 := Eaten.leaf (c := .int .i64 z1) (v := .int .i64 z1) E0 (show CD.Lay _ _ _ _ from ⟨rfl, wf1⟩)
  replace E0 := Eaten.eat F E0
  replace F := F.tl
  have L := hid (show LayL _ _ _ _ ∧ le w _ from ⟨E0.fin, F.below⟩)
  clear K F E0
  go_wp2
  exact bodyPost_ret (results_row1 rfl _ _ _ _ _ rfl R.out Try.underlying25 rfl uinfoRingI) rfl ⟨[u0, .int .i64 z1], rfl, L.out.1, L.out.2⟩
end Go.Proofs.Ytgjdmoenobacgaa

/- The laws' helpers for Bow, over trees of data. -/
namespace Go.Proofs.Ytgjdmoenobacgaa
open Go.RowKit Go.Fk
set_option maxRecDepth 100000 in
set_option maxHeartbeats 4000000 in
theorem szU_Bow (B : Nat) (cs : List CD) (vs : List Value) (m r : Int) (w : World) (h : RdL w B cs vs) (hsh : ShOkL shBow cs) (h0 : 0 ≤ m) (h1 : m ≤ 1048576) (hr : lessBy m (szL cs) = r) :
    Calls Try.prog 20 #[.agg vs.toArray, .int .i64 m] w (OutI r w) := by
  obtain ⟨c0, cs, rfl, q0, hsh⟩ := hsh.inv
  obtain ⟨c1, cs, rfl, q1, hsh⟩ := hsh.inv
  obtain ⟨c2, cs, rfl, q2, hsh⟩ := hsh.inv
  obtain ⟨c3, cs, rfl, q3, hsh⟩ := hsh.inv
  obtain ⟨c4, cs, rfl, q4, hsh⟩ := hsh.inv
  obtain ⟨c5, cs, rfl, q5, hsh⟩ := hsh.inv
  obtain ⟨c6, cs, rfl, q6, hsh⟩ := hsh.inv
  obtain ⟨c7, cs, rfl, q7, hsh⟩ := hsh.inv
  obtain ⟨c8, cs, rfl, q8, hsh⟩ := hsh.inv
  obtain ⟨c9, cs, rfl, q9, hsh⟩ := hsh.inv
  obtain ⟨c10, cs, rfl, q10, hsh⟩ := hsh.inv
  obtain ⟨c11, cs, rfl, q11, hsh⟩ := hsh.inv
  obtain rfl := hsh.inv0
  obtain ⟨v0, vs, rfl, r0, h⟩ := h.inv
  obtain ⟨v1, vs, rfl, r1, h⟩ := h.inv
  obtain ⟨v2, vs, rfl, r2, h⟩ := h.inv
  obtain ⟨v3, vs, rfl, r3, h⟩ := h.inv
  obtain ⟨v4, vs, rfl, r4, h⟩ := h.inv
  obtain ⟨v5, vs, rfl, r5, h⟩ := h.inv
  obtain ⟨v6, vs, rfl, r6, h⟩ := h.inv
  obtain ⟨v7, vs, rfl, r7, h⟩ := h.inv
  obtain ⟨v8, vs, rfl, r8, h⟩ := h.inv
  obtain ⟨v9, vs, rfl, r9, h⟩ := h.inv
  obtain ⟨v10, vs, rfl, r10, h⟩ := h.inv
  obtain ⟨v11, vs, rfl, r11, h⟩ := h.inv
  obtain rfl := h.inv0
  obtain ⟨z1, rfl⟩ := q1
  obtain ⟨rfl, wf1⟩ := r1
  obtain ⟨z3, rfl⟩ := q3
  obtain ⟨rfl, wf3⟩ := r3
  obtain ⟨z4, rfl⟩ := q4
  obtain ⟨rfl, wf4⟩ := r4
  have q5 : c5.flk = some .f32 := q5
  obtain ⟨y5, rfl, f5, e5⟩ := r5.fl q5
  have q6 : c6.flk = some .f32 := q6
  obtain ⟨y6, rfl, f6, e6⟩ := r6.fl q6
  have q7 : c7.flk = some .f32 := q7
  obtain ⟨y7, rfl, f7, e7⟩ := r7.fl q7
  have q8 : c8.flk = some .f32 := q8
  obtain ⟨y8, rfl, f8, e8⟩ := r8.fl q8
  have q9 : c9.flk = some .f32 := q9
  obtain ⟨y9, rfl, f9, e9⟩ := r9.fl q9
  have q10 : c10.flk = some .f32 := q10
  obtain ⟨y10, rfl, f10, e10⟩ := r10.fl q10
  have q11 : c11.flk = some .f32 := q11
  obtain ⟨y11, rfl, f11, e11⟩ := r11.fl q11
  obtain ⟨a0, ha0⟩ : ∃ a : Nat, a = szL [c0, .int .i64 z1] := ⟨_, rfl⟩
  have H0 := hid (fun (m r : Int) (w' : World) (hl : le w w') (h0 : 0 ≤ m) (h1 : m ≤ 1048576) (hr : lessBy m a0 = r) => szU_Ring B _ [v0, .int .i64 z1] m r w' (RdL.cons (c := c0) (r0.le hl) (RdL.cons (c := .int .i64 z1) ⟨rfl, wf1⟩ (RdL.nil _ _))) (ShOkL.cons q0 (ShOkL.cons ⟨_, rfl⟩ (ShOkL.nil))) h0 h1 (ha0 ▸ hr))
  obtain ⟨a1, ha1⟩ : ∃ a : Nat, a = szL [c2, .int .i64 z3] := ⟨_, rfl⟩
  have H1 := hid (fun (m r : Int) (w' : World) (hl : le w w') (h0 : 0 ≤ m) (h1 : m ≤ 1048576) (hr : lessBy m a1 = r) => szU_Ring B _ [v2, .int .i64 z3] m r w' (RdL.cons (c := c2) (r2.le hl) (RdL.cons (c := .int .i64 z3) ⟨rfl, wf3⟩ (RdL.nil _ _))) (ShOkL.cons q2 (ShOkL.cons ⟨_, rfl⟩ (ShOkL.nil))) h0 h1 (ha1 ▸ hr))
  replace hr : Hid (lessBy m (a0 + a1) = r) := by rw [← hr]; congr 1; try (first | (simp only [szL, List.map_cons, List.map_nil, List.sum_cons, List.sum_nil, CD.sz, ha0, ha1, CD.sz_fl q5, CD.sz_fl q6, CD.sz_fl q7, CD.sz_fl q8, CD.sz_fl q9, CD.sz_fl q10, CD.sz_fl q11]; done) | (simp only [szL, List.map_cons, List.map_nil, List.sum_cons, List.sum_nil, CD.sz, ha0, ha1, CD.sz_fl q5, CD.sz_fl q6, CD.sz_fl q7, CD.sz_fl q8, CD.sz_fl q9, CD.sz_fl q10, CD.sz_fl q11]; omega))
  clear ha0 ha1
  have F := (Frg.nil w).box 40 #[v0, .int .i64 z1, v2, .int .i64 z3, .int .i64 z4, .float .f32 y5, .float .f32 y6, .float .f32 y7, .float .f32 y8, .float .f32 y9, .float .f32 y10, .float .f32 y11]
  by_cases g0 : m - (a0 : Int) < 0
  · have er : r = -1 := by have := hr.out; rw [lessBy_neg (by omega)] at this; omega
    subst er
    clear hr
    go_enter Try.func20, Try.ntmps20
    go_wp2_with (first | ((with_reducible refine at_load rfl ?_); first | (with_reducible refine wpList_loadGP F rfl rfl rfl (by first | exact m0) Try.underlying37 rfl [v0, .int .i64 z1] (partBow_Neck (v0) (.int .i64 z1) (v2) (.int .i64 z3) (.int .i64 z4) (.float .f32 y5) (.float .f32 y6) (.float .f32 y7) (.float .f32 y8) (.float .f32 y9) (.float .f32 y10) (.float .f32 y11)) uinfoRingL rfl ?_) | (with_reducible refine wpList_loadGP F rfl rfl rfl (by first | exact m0) Try.underlying37 rfl [v2, .int .i64 z3] (partBow_Bridge (v0) (.int .i64 z1) (v2) (.int .i64 z3) (.int .i64 z4) (.float .f32 y5) (.float .f32 y6) (.float .f32 y7) (.float .f32 y8) (.float .f32 y9) (.float .f32 y10) (.float .f32 y11)) uinfoRingL rfl ?_) | (with_reducible refine wpList_loadGP F rfl rfl rfl (by first | exact m0) Try.underlying38 rfl [.int .i64 z4, .float .f32 y5, .float .f32 y6, .float .f32 y7, .float .f32 y8, .float .f32 y9] (partBow_Damp (v0) (.int .i64 z1) (v2) (.int .i64 z3) (.int .i64 z4) (.float .f32 y5) (.float .f32 y6) (.float .f32 y7) (.float .f32 y8) (.float .f32 y9) (.float .f32 y10) (.float .f32 y11)) uinfoFilterL rfl ?_) | (with_reducible refine wpList_load1 F rfl rfl rfl (by first | exact m0) (f := 10) (v := .float .f32 y10) rfl ukindFloat32 ?_) | (with_reducible refine wpList_load1 F rfl rfl rfl (by first | exact m0) (f := 11) (v := .float .f32 y11) rfl ukindFloat32 ?_)) | (go_at_call 71; ((with_reducible refine (H0.out m (-1 : Int) _ F.below (by omega) (by omega) (by exact lessBy_neg (by omega))).mono ?_); rintro e w1 ⟨rfl, hl⟩; replace F := F.le hl; clear hl)))
    go_ret
    exact ⟨rfl, F.below⟩
  · skip
    by_cases g1 : (m - (a0 : Int)) - (a1 : Int) < 0
    · have er : r = -1 := by have := hr.out; rw [lessBy_neg (by omega)] at this; omega
      subst er
      clear hr
      go_enter Try.func20, Try.ntmps20
      go_wp2_with (first | ((with_reducible refine at_load rfl ?_); first | (with_reducible refine wpList_loadGP F rfl rfl rfl (by first | exact m0) Try.underlying37 rfl [v0, .int .i64 z1] (partBow_Neck (v0) (.int .i64 z1) (v2) (.int .i64 z3) (.int .i64 z4) (.float .f32 y5) (.float .f32 y6) (.float .f32 y7) (.float .f32 y8) (.float .f32 y9) (.float .f32 y10) (.float .f32 y11)) uinfoRingL rfl ?_) | (with_reducible refine wpList_loadGP F rfl rfl rfl (by first | exact m0) Try.underlying37 rfl [v2, .int .i64 z3] (partBow_Bridge (v0) (.int .i64 z1) (v2) (.int .i64 z3) (.int .i64 z4) (.float .f32 y5) (.float .f32 y6) (.float .f32 y7) (.float .f32 y8) (.float .f32 y9) (.float .f32 y10) (.float .f32 y11)) uinfoRingL rfl ?_) | (with_reducible refine wpList_loadGP F rfl rfl rfl (by first | exact m0) Try.underlying38 rfl [.int .i64 z4, .float .f32 y5, .float .f32 y6, .float .f32 y7, .float .f32 y8, .float .f32 y9] (partBow_Damp (v0) (.int .i64 z1) (v2) (.int .i64 z3) (.int .i64 z4) (.float .f32 y5) (.float .f32 y6) (.float .f32 y7) (.float .f32 y8) (.float .f32 y9) (.float .f32 y10) (.float .f32 y11)) uinfoFilterL rfl ?_) | (with_reducible refine wpList_load1 F rfl rfl rfl (by first | exact m0) (f := 10) (v := .float .f32 y10) rfl ukindFloat32 ?_) | (with_reducible refine wpList_load1 F rfl rfl rfl (by first | exact m0) (f := 11) (v := .float .f32 y11) rfl ukindFloat32 ?_)) | (go_at_call 71; ((with_reducible refine (H0.out m (m - (a0 : Int)) _ F.below (by omega) (by omega) (by exact lessBy_pos (by omega))).mono ?_); rintro e w1 ⟨rfl, hl⟩; replace F := F.le hl; clear hl)) | (go_at_call 71; ((with_reducible refine (H1.out (m - (a0 : Int)) (-1 : Int) _ F.below (by omega) (by omega) (by exact lessBy_neg (by omega))).mono ?_); rintro e w1 ⟨rfl, hl⟩; replace F := F.le hl; clear hl)))
      go_ret
      exact ⟨rfl, F.below⟩
    · skip
      have er : r = ((m - (a0 : Int)) - (a1 : Int)) := by have := hr.out; rw [lessBy_pos (by omega)] at this; omega
      subst er
      clear hr
      go_enter Try.func20, Try.ntmps20
      go_wp2_with (first | ((with_reducible refine at_load rfl ?_); first | (with_reducible refine wpList_loadGP F rfl rfl rfl (by first | exact m0) Try.underlying37 rfl [v0, .int .i64 z1] (partBow_Neck (v0) (.int .i64 z1) (v2) (.int .i64 z3) (.int .i64 z4) (.float .f32 y5) (.float .f32 y6) (.float .f32 y7) (.float .f32 y8) (.float .f32 y9) (.float .f32 y10) (.float .f32 y11)) uinfoRingL rfl ?_) | (with_reducible refine wpList_loadGP F rfl rfl rfl (by first | exact m0) Try.underlying37 rfl [v2, .int .i64 z3] (partBow_Bridge (v0) (.int .i64 z1) (v2) (.int .i64 z3) (.int .i64 z4) (.float .f32 y5) (.float .f32 y6) (.float .f32 y7) (.float .f32 y8) (.float .f32 y9) (.float .f32 y10) (.float .f32 y11)) uinfoRingL rfl ?_) | (with_reducible refine wpList_loadGP F rfl rfl rfl (by first | exact m0) Try.underlying38 rfl [.int .i64 z4, .float .f32 y5, .float .f32 y6, .float .f32 y7, .float .f32 y8, .float .f32 y9] (partBow_Damp (v0) (.int .i64 z1) (v2) (.int .i64 z3) (.int .i64 z4) (.float .f32 y5) (.float .f32 y6) (.float .f32 y7) (.float .f32 y8) (.float .f32 y9) (.float .f32 y10) (.float .f32 y11)) uinfoFilterL rfl ?_) | (with_reducible refine wpList_load1 F rfl rfl rfl (by first | exact m0) (f := 10) (v := .float .f32 y10) rfl ukindFloat32 ?_) | (with_reducible refine wpList_load1 F rfl rfl rfl (by first | exact m0) (f := 11) (v := .float .f32 y11) rfl ukindFloat32 ?_)) | (go_at_call 71; ((with_reducible refine (H0.out m (m - (a0 : Int)) _ F.below (by omega) (by omega) (by exact lessBy_pos (by omega))).mono ?_); rintro e w1 ⟨rfl, hl⟩; replace F := F.le hl; clear hl)) | (go_at_call 71; ((with_reducible refine (H1.out (m - (a0 : Int)) ((m - (a0 : Int)) - (a1 : Int)) _ F.below (by omega) (by omega) (by exact lessBy_pos (by omega))).mono ?_); rintro e w1 ⟨rfl, hl⟩; replace F := F.le hl; clear hl)))
      go_ret
      exact ⟨rfl, F.below⟩
set_option maxRecDepth 100000 in
set_option maxHeartbeats 4000000 in
theorem eqU_Bow (B B' : Nat) (cs : List CD) (vs vs' : List Value) (w : World) (h : RdL w B cs vs) (h' : RdL w B' cs vs') (hsh : ShOkL shBow cs) (hz : szL cs ≤ 1048576) :
    Calls Try.prog 17 #[.agg vs.toArray, .agg vs'.toArray] w (OutT w) := by
  obtain ⟨c0, cs, rfl, q0, hsh⟩ := hsh.inv
  obtain ⟨c1, cs, rfl, q1, hsh⟩ := hsh.inv
  obtain ⟨c2, cs, rfl, q2, hsh⟩ := hsh.inv
  obtain ⟨c3, cs, rfl, q3, hsh⟩ := hsh.inv
  obtain ⟨c4, cs, rfl, q4, hsh⟩ := hsh.inv
  obtain ⟨c5, cs, rfl, q5, hsh⟩ := hsh.inv
  obtain ⟨c6, cs, rfl, q6, hsh⟩ := hsh.inv
  obtain ⟨c7, cs, rfl, q7, hsh⟩ := hsh.inv
  obtain ⟨c8, cs, rfl, q8, hsh⟩ := hsh.inv
  obtain ⟨c9, cs, rfl, q9, hsh⟩ := hsh.inv
  obtain ⟨c10, cs, rfl, q10, hsh⟩ := hsh.inv
  obtain ⟨c11, cs, rfl, q11, hsh⟩ := hsh.inv
  obtain rfl := hsh.inv0
  obtain ⟨v0, vs, rfl, r0, h⟩ := h.inv
  obtain ⟨v1, vs, rfl, r1, h⟩ := h.inv
  obtain ⟨v2, vs, rfl, r2, h⟩ := h.inv
  obtain ⟨v3, vs, rfl, r3, h⟩ := h.inv
  obtain ⟨v4, vs, rfl, r4, h⟩ := h.inv
  obtain ⟨v5, vs, rfl, r5, h⟩ := h.inv
  obtain ⟨v6, vs, rfl, r6, h⟩ := h.inv
  obtain ⟨v7, vs, rfl, r7, h⟩ := h.inv
  obtain ⟨v8, vs, rfl, r8, h⟩ := h.inv
  obtain ⟨v9, vs, rfl, r9, h⟩ := h.inv
  obtain ⟨v10, vs, rfl, r10, h⟩ := h.inv
  obtain ⟨v11, vs, rfl, r11, h⟩ := h.inv
  obtain rfl := h.inv0
  obtain ⟨v0', vs', rfl, r0', h'⟩ := h'.inv
  obtain ⟨v1', vs', rfl, r1', h'⟩ := h'.inv
  obtain ⟨v2', vs', rfl, r2', h'⟩ := h'.inv
  obtain ⟨v3', vs', rfl, r3', h'⟩ := h'.inv
  obtain ⟨v4', vs', rfl, r4', h'⟩ := h'.inv
  obtain ⟨v5', vs', rfl, r5', h'⟩ := h'.inv
  obtain ⟨v6', vs', rfl, r6', h'⟩ := h'.inv
  obtain ⟨v7', vs', rfl, r7', h'⟩ := h'.inv
  obtain ⟨v8', vs', rfl, r8', h'⟩ := h'.inv
  obtain ⟨v9', vs', rfl, r9', h'⟩ := h'.inv
  obtain ⟨v10', vs', rfl, r10', h'⟩ := h'.inv
  obtain ⟨v11', vs', rfl, r11', h'⟩ := h'.inv
  obtain rfl := h'.inv0
  obtain ⟨z1, rfl⟩ := q1
  obtain ⟨rfl, wf1⟩ := r1
  obtain ⟨rfl, wf1'⟩ := r1'
  obtain ⟨z3, rfl⟩ := q3
  obtain ⟨rfl, wf3⟩ := r3
  obtain ⟨rfl, wf3'⟩ := r3'
  obtain ⟨z4, rfl⟩ := q4
  obtain ⟨rfl, wf4⟩ := r4
  obtain ⟨rfl, wf4'⟩ := r4'
  have q5 : c5.flk = some .f32 := q5
  obtain ⟨y5, rfl, f5, e5⟩ := r5.fl q5
  obtain ⟨y5', rfl, f5', e5'⟩ := r5'.fl q5
  have q6 : c6.flk = some .f32 := q6
  obtain ⟨y6, rfl, f6, e6⟩ := r6.fl q6
  obtain ⟨y6', rfl, f6', e6'⟩ := r6'.fl q6
  have q7 : c7.flk = some .f32 := q7
  obtain ⟨y7, rfl, f7, e7⟩ := r7.fl q7
  obtain ⟨y7', rfl, f7', e7'⟩ := r7'.fl q7
  have q8 : c8.flk = some .f32 := q8
  obtain ⟨y8, rfl, f8, e8⟩ := r8.fl q8
  obtain ⟨y8', rfl, f8', e8'⟩ := r8'.fl q8
  have q9 : c9.flk = some .f32 := q9
  obtain ⟨y9, rfl, f9, e9⟩ := r9.fl q9
  obtain ⟨y9', rfl, f9', e9'⟩ := r9'.fl q9
  have q10 : c10.flk = some .f32 := q10
  obtain ⟨y10, rfl, f10, e10⟩ := r10.fl q10
  obtain ⟨y10', rfl, f10', e10'⟩ := r10'.fl q10
  have q11 : c11.flk = some .f32 := q11
  obtain ⟨y11, rfl, f11, e11⟩ := r11.fl q11
  obtain ⟨y11', rfl, f11', e11'⟩ := r11'.fl q11
  simp only [szL, List.map_cons, List.map_nil, List.sum_cons, List.sum_nil] at hz
  have H0 := hid (fun (w' : World) (hl : le w w') => eqU_Ring B B' [c0, .int .i64 z1] [v0, .int .i64 z1] [v0', .int .i64 z1] w' (RdL.cons (c := c0) (r0.le hl) (RdL.cons (c := .int .i64 z1) ⟨rfl, wf1⟩ (RdL.nil _ _))) (RdL.cons (c := c0) (r0'.le hl) (RdL.cons (c := .int .i64 z1) ⟨rfl, wf1'⟩ (RdL.nil _ _))) (ShOkL.cons q0 (ShOkL.cons ⟨_, rfl⟩ (ShOkL.nil))) (by simp only [szL, List.map_cons, List.map_nil, List.sum_cons, List.sum_nil]; first | omega | (simp only [CD.sz] at hz ⊢; omega)))
  have H1 := hid (fun (w' : World) (hl : le w w') => eqU_Ring B B' [c2, .int .i64 z3] [v2, .int .i64 z3] [v2', .int .i64 z3] w' (RdL.cons (c := c2) (r2.le hl) (RdL.cons (c := .int .i64 z3) ⟨rfl, wf3⟩ (RdL.nil _ _))) (RdL.cons (c := c2) (r2'.le hl) (RdL.cons (c := .int .i64 z3) ⟨rfl, wf3'⟩ (RdL.nil _ _))) (ShOkL.cons q2 (ShOkL.cons ⟨_, rfl⟩ (ShOkL.nil))) (by simp only [szL, List.map_cons, List.map_nil, List.sum_cons, List.sum_nil]; first | omega | (simp only [CD.sz] at hz ⊢; omega)))
  have H2 := hid (fun (w' : World) => eqFil_yes z4 y5 y6 y7 y8 y9 y5' y6' y7' y8' y9' w' (e5.trans e5'.symm) (e6.trans e6'.symm) (e7.trans e7'.symm) (e8.trans e8'.symm) (e9.trans e9'.symm))
  have E10 := hid (e10.trans e10'.symm)
  have E11 := hid (e11.trans e11'.symm)
  have F := ((Frg.nil w).box 31 #[v0, .int .i64 z1, v2, .int .i64 z3, .int .i64 z4, .float .f32 y5, .float .f32 y6, .float .f32 y7, .float .f32 y8, .float .f32 y9, .float .f32 y10, .float .f32 y11]).box 31 #[v0', .int .i64 z1, v2', .int .i64 z3, .int .i64 z4, .float .f32 y5', .float .f32 y6', .float .f32 y7', .float .f32 y8', .float .f32 y9', .float .f32 y10', .float .f32 y11']
  simp only [World.size_alloc] at F
  clear hz
  go_enter Try.func17, Try.ntmps17
  go_wp2_with (first | ((with_reducible refine listN F ?_); clear F; intro wN F) | ((with_reducible refine at_load rfl ?_); first | (with_reducible refine wpList_loadGP F rfl rfl rfl (by first | exact m0 | exact m1) Try.underlying25 rfl [v0, .int .i64 z1] (partBow_Neck (v0) (.int .i64 z1) (v2) (.int .i64 z3) (.int .i64 z4) (.float .f32 y5) (.float .f32 y6) (.float .f32 y7) (.float .f32 y8) (.float .f32 y9) (.float .f32 y10) (.float .f32 y11)) uinfoRingI rfl ?_) | (with_reducible refine wpList_loadGP F rfl rfl rfl (by first | exact m0 | exact m1) Try.underlying25 rfl [v2, .int .i64 z3] (partBow_Bridge (v0) (.int .i64 z1) (v2) (.int .i64 z3) (.int .i64 z4) (.float .f32 y5) (.float .f32 y6) (.float .f32 y7) (.float .f32 y8) (.float .f32 y9) (.float .f32 y10) (.float .f32 y11)) uinfoRingI rfl ?_) | (with_reducible refine wpList_loadGP F rfl rfl rfl (by first | exact m0 | exact m1) Try.underlying29 rfl [.int .i64 z4, .float .f32 y5, .float .f32 y6, .float .f32 y7, .float .f32 y8, .float .f32 y9] (partBow_Damp (v0) (.int .i64 z1) (v2) (.int .i64 z3) (.int .i64 z4) (.float .f32 y5) (.float .f32 y6) (.float .f32 y7) (.float .f32 y8) (.float .f32 y9) (.float .f32 y10) (.float .f32 y11)) uinfoFilterI rfl ?_) | (with_reducible refine wpList_load1 F rfl rfl rfl (by first | exact m0 | exact m1) (f := 10) (v := .float .f32 y10) rfl ukindFloat32 ?_) | (with_reducible refine wpList_load1 F rfl rfl rfl (by first | exact m0 | exact m1) (f := 11) (v := .float .f32 y11) rfl ukindFloat32 ?_) | (with_reducible refine wpList_loadGP F rfl rfl rfl (by first | exact m0 | exact m1) Try.underlying25 rfl [v0', .int .i64 z1] (partBow_Neck (v0') (.int .i64 z1) (v2') (.int .i64 z3) (.int .i64 z4) (.float .f32 y5') (.float .f32 y6') (.float .f32 y7') (.float .f32 y8') (.float .f32 y9') (.float .f32 y10') (.float .f32 y11')) uinfoRingI rfl ?_) | (with_reducible refine wpList_loadGP F rfl rfl rfl (by first | exact m0 | exact m1) Try.underlying25 rfl [v2', .int .i64 z3] (partBow_Bridge (v0') (.int .i64 z1) (v2') (.int .i64 z3) (.int .i64 z4) (.float .f32 y5') (.float .f32 y6') (.float .f32 y7') (.float .f32 y8') (.float .f32 y9') (.float .f32 y10') (.float .f32 y11')) uinfoRingI rfl ?_) | (with_reducible refine wpList_loadGP F rfl rfl rfl (by first | exact m0 | exact m1) Try.underlying29 rfl [.int .i64 z4, .float .f32 y5', .float .f32 y6', .float .f32 y7', .float .f32 y8', .float .f32 y9'] (partBow_Damp (v0') (.int .i64 z1) (v2') (.int .i64 z3) (.int .i64 z4) (.float .f32 y5') (.float .f32 y6') (.float .f32 y7') (.float .f32 y8') (.float .f32 y9') (.float .f32 y10') (.float .f32 y11')) uinfoFilterI rfl ?_) | (with_reducible refine wpList_load1 F rfl rfl rfl (by first | exact m0 | exact m1) (f := 10) (v := .float .f32 y10') rfl ukindFloat32 ?_) | (with_reducible refine wpList_load1 F rfl rfl rfl (by first | exact m0 | exact m1) (f := 11) (v := .float .f32 y11') rfl ukindFloat32 ?_)) | (go_at_call 67; ((with_reducible refine (H0.out _ F.below).mono ?_); rintro e w1 ⟨rfl, hl⟩; replace F := F.le hl; clear hl)) | (go_at_call 67; ((with_reducible refine (H1.out _ F.below).mono ?_); rintro e w1 ⟨rfl, hl⟩; replace F := F.le hl; clear hl)) | (go_at_call 68; ((with_reducible refine (H2.out _).mono ?_); rintro e w1 ⟨rfl, hl⟩; replace F := F.le hl; clear hl)) | ((with_reducible refine at_convert rfl ?_); (with_reducible refine wpList_widen rfl rfl rfl Try.underlying22 Try.underlying46 ?_; intro s1 n1 h1 f1)) | (go_at_call 24; ((with_reducible refine (sameFloat_yes _ _ _ (by first | exact (Hid.out ‹Hid (can .f64 _ = can .f64 (widen y10))›).trans ((congrArg (can .f64) (widen_congr E10.out)).trans (Hid.out ‹Hid (can .f64 _ = can .f64 (widen y10'))›).symm) | exact (Hid.out ‹Hid (can .f64 _ = can .f64 (widen y11))›).trans ((congrArg (can .f64) (widen_congr E11.out)).trans (Hid.out ‹Hid (can .f64 _ = can .f64 (widen y11'))›).symm))).mono ?_); rintro e w7 ⟨rfl, dq7, rfl⟩; skip)))
  go_ret
  first | exact ⟨rfl, F.below⟩ | exact ⟨rfl, below_drewN F.below _⟩
set_option maxRecDepth 100000 in
set_option maxHeartbeats 4000000 in
theorem toU_Bow (B : Nat) (cs : List CD) (vs : List Value) (w : World) (h : RdL w B cs vs) (hsh : ShOkL shBow cs) (hz : szL cs ≤ 1048576) :
    Calls Try.prog 22 #[.agg vs.toArray] w (OutA' (cs.map CD.cp) w) := by
  obtain ⟨c0, cs, rfl, q0, hsh⟩ := hsh.inv
  obtain ⟨c1, cs, rfl, q1, hsh⟩ := hsh.inv
  obtain ⟨c2, cs, rfl, q2, hsh⟩ := hsh.inv
  obtain ⟨c3, cs, rfl, q3, hsh⟩ := hsh.inv
  obtain ⟨c4, cs, rfl, q4, hsh⟩ := hsh.inv
  obtain ⟨c5, cs, rfl, q5, hsh⟩ := hsh.inv
  obtain ⟨c6, cs, rfl, q6, hsh⟩ := hsh.inv
  obtain ⟨c7, cs, rfl, q7, hsh⟩ := hsh.inv
  obtain ⟨c8, cs, rfl, q8, hsh⟩ := hsh.inv
  obtain ⟨c9, cs, rfl, q9, hsh⟩ := hsh.inv
  obtain ⟨c10, cs, rfl, q10, hsh⟩ := hsh.inv
  obtain ⟨c11, cs, rfl, q11, hsh⟩ := hsh.inv
  obtain rfl := hsh.inv0
  obtain ⟨v0, vs, rfl, r0, h⟩ := h.inv
  obtain ⟨v1, vs, rfl, r1, h⟩ := h.inv
  obtain ⟨v2, vs, rfl, r2, h⟩ := h.inv
  obtain ⟨v3, vs, rfl, r3, h⟩ := h.inv
  obtain ⟨v4, vs, rfl, r4, h⟩ := h.inv
  obtain ⟨v5, vs, rfl, r5, h⟩ := h.inv
  obtain ⟨v6, vs, rfl, r6, h⟩ := h.inv
  obtain ⟨v7, vs, rfl, r7, h⟩ := h.inv
  obtain ⟨v8, vs, rfl, r8, h⟩ := h.inv
  obtain ⟨v9, vs, rfl, r9, h⟩ := h.inv
  obtain ⟨v10, vs, rfl, r10, h⟩ := h.inv
  obtain ⟨v11, vs, rfl, r11, h⟩ := h.inv
  obtain rfl := h.inv0
  obtain ⟨z1, rfl⟩ := q1
  obtain ⟨rfl, wf1⟩ := r1
  obtain ⟨z3, rfl⟩ := q3
  obtain ⟨rfl, wf3⟩ := r3
  obtain ⟨z4, rfl⟩ := q4
  obtain ⟨rfl, wf4⟩ := r4
  have q5 : c5.flk = some .f32 := q5
  obtain ⟨y5, rfl, f5, e5⟩ := r5.fl q5
  have q6 : c6.flk = some .f32 := q6
  obtain ⟨y6, rfl, f6, e6⟩ := r6.fl q6
  have q7 : c7.flk = some .f32 := q7
  obtain ⟨y7, rfl, f7, e7⟩ := r7.fl q7
  have q8 : c8.flk = some .f32 := q8
  obtain ⟨y8, rfl, f8, e8⟩ := r8.fl q8
  have q9 : c9.flk = some .f32 := q9
  obtain ⟨y9, rfl, f9, e9⟩ := r9.fl q9
  have q10 : c10.flk = some .f32 := q10
  obtain ⟨y10, rfl, f10, e10⟩ := r10.fl q10
  have q11 : c11.flk = some .f32 := q11
  obtain ⟨y11, rfl, f11, e11⟩ := r11.fl q11
  simp only [szL, List.map_cons, List.map_nil, List.sum_cons, List.sum_nil] at hz
  have H0 := hid (fun (w' : World) (hl : le w w') => toU_Ring B [c0, .int .i64 z1] [v0, .int .i64 z1] w' (RdL.cons (c := c0) (r0.le hl) (RdL.cons (c := .int .i64 z1) ⟨rfl, wf1⟩ (RdL.nil _ _))) (ShOkL.cons q0 (ShOkL.cons ⟨_, rfl⟩ (ShOkL.nil))) (by simp only [szL, List.map_cons, List.map_nil, List.sum_cons, List.sum_nil]; first | omega | (simp only [CD.sz] at hz ⊢; omega)))
  have H1 := hid (fun (w' : World) (hl : le w w') => toU_Ring B [c2, .int .i64 z3] [v2, .int .i64 z3] w' (RdL.cons (c := c2) (r2.le hl) (RdL.cons (c := .int .i64 z3) ⟨rfl, wf3⟩ (RdL.nil _ _))) (ShOkL.cons q2 (ShOkL.cons ⟨_, rfl⟩ (ShOkL.nil))) (by simp only [szL, List.map_cons, List.map_nil, List.sum_cons, List.sum_nil]; first | omega | (simp only [CD.sz] at hz ⊢; omega)))
  obtain ⟨n0, x0, rfl, -⟩ := q0
  obtain ⟨n2, x2, rfl, -⟩ := q2
  have F := (((Frg.nil w).box 40 #[v0, .int .i64 z1, v2, .int .i64 z3, .int .i64 z4, .float .f32 y5, .float .f32 y6, .float .f32 y7, .float .f32 y8, .float .f32 y9, .float .f32 y10, .float .f32 y11]).box 31 #[.slice none 0 0, .int .i64 0, .slice none 0 0, .int .i64 0, .int .i64 0, .float .f32 0, .float .f32 0, .float .f32 0, .float .f32 0, .float .f32 0, .float .f32 0, .float .f32 0]).box 31 #[.slice none 0 0, .int .i64 0, .slice none 0 0, .int .i64 0, .int .i64 0, .float .f32 0, .float .f32 0, .float .f32 0, .float .f32 0, .float .f32 0, .float .f32 0, .float .f32 0]
  simp only [World.size_alloc] at F
  clear hz
  go_enter Try.func22, Try.ntmps22
  go_wp2_with (first | ((with_reducible refine listN F ?_); clear F; intro wN F) | ((with_reducible refine at_load rfl ?_); first | (with_reducible refine wpList_loadGP F rfl rfl rfl (by first | exact m0 | exact m1 | exact m2 | exact m3) Try.underlying37 rfl [v0, .int .i64 z1] (partBow_Neck (v0) (.int .i64 z1) (v2) (.int .i64 z3) (.int .i64 z4) (.float .f32 y5) (.float .f32 y6) (.float .f32 y7) (.float .f32 y8) (.float .f32 y9) (.float .f32 y10) (.float .f32 y11)) uinfoRingL rfl ?_) | (with_reducible refine wpList_loadGP F rfl rfl rfl (by first | exact m0 | exact m1 | exact m2 | exact m3) Try.underlying37 rfl [v2, .int .i64 z3] (partBow_Bridge (v0) (.int .i64 z1) (v2) (.int .i64 z3) (.int .i64 z4) (.float .f32 y5) (.float .f32 y6) (.float .f32 y7) (.float .f32 y8) (.float .f32 y9) (.float .f32 y10) (.float .f32 y11)) uinfoRingL rfl ?_) | (with_reducible refine wpList_loadGP F rfl rfl rfl (by first | exact m0 | exact m1 | exact m2 | exact m3) Try.underlying38 rfl [.int .i64 z4, .float .f32 y5, .float .f32 y6, .float .f32 y7, .float .f32 y8, .float .f32 y9] (partBow_Damp (v0) (.int .i64 z1) (v2) (.int .i64 z3) (.int .i64 z4) (.float .f32 y5) (.float .f32 y6) (.float .f32 y7) (.float .f32 y8) (.float .f32 y9) (.float .f32 y10) (.float .f32 y11)) uinfoFilterL rfl ?_) | (with_reducible refine wpList_load1 F rfl rfl rfl (by first | exact m0 | exact m1 | exact m2 | exact m3) (f := 10) (v := .float .f32 y10) rfl ukindFloat32 ?_) | (with_reducible refine wpList_load1 F rfl rfl rfl (by first | exact m0 | exact m1 | exact m2 | exact m3) (f := 11) (v := .float .f32 y11) rfl ukindFloat32 ?_)) | (go_at_call 75; ((with_reducible refine (H0.out _ F.below).mono ?_); rintro e w1 ⟨us, rfl, ho, hl⟩; obtain ⟨u0, O0, rfl, ho⟩ := inv_Ring _ _ _ ho; have O0 := hid O0; replace F := F.lay1 hl ho; clear ho hl)) | (with_reducible refine stop_store rfl ?_))
  show wpList _ _ _ _ _ _
  refine wpList_storeP rfl rfl rfl (f := 0) (cells := [u0, .int .i64 z1]) rfl (F.row m1) uinfoRingI (by simp) (by (simp only [List.all_toArray', List.all_cons, List.all_nil, Bool.and_true, Bool.true_and, O0.out]) <;> rfl) (fun w2 K => ?_)
  replace F := F.wrI1 (cs' := #[u0, .int .i64 z1, .slice none 0 0, .int .i64 0, .int .i64 0, .float .f32 0, .float .f32 0, .float .f32 0, .float .f32 0, .float .f32 0, .float .f32 0, .float .f32 0]) K
  clear K
  go_wp2_with (first | ((with_reducible refine listN F ?_); clear F; intro wN F) | ((with_reducible refine at_load rfl ?_); first | (with_reducible refine wpList_loadGP F rfl rfl rfl (by first | exact m0 | exact m1 | exact m2 | exact m3 | exact m4) Try.underlying37 rfl [v0, .int .i64 z1] (partBow_Neck (v0) (.int .i64 z1) (v2) (.int .i64 z3) (.int .i64 z4) (.float .f32 y5) (.float .f32 y6) (.float .f32 y7) (.float .f32 y8) (.float .f32 y9) (.float .f32 y10) (.float .f32 y11)) uinfoRingL rfl ?_) | (with_reducible refine wpList_loadGP F rfl rfl rfl (by first | exact m0 | exact m1 | exact m2 | exact m3 | exact m4) Try.underlying37 rfl [v2, .int .i64 z3] (partBow_Bridge (v0) (.int .i64 z1) (v2) (.int .i64 z3) (.int .i64 z4) (.float .f32 y5) (.float .f32 y6) (.float .f32 y7) (.float .f32 y8) (.float .f32 y9) (.float .f32 y10) (.float .f32 y11)) uinfoRingL rfl ?_) | (with_reducible refine wpList_loadGP F rfl rfl rfl (by first | exact m0 | exact m1 | exact m2 | exact m3 | exact m4) Try.underlying38 rfl [.int .i64 z4, .float .f32 y5, .float .f32 y6, .float .f32 y7, .float .f32 y8, .float .f32 y9] (partBow_Damp (v0) (.int .i64 z1) (v2) (.int .i64 z3) (.int .i64 z4) (.float .f32 y5) (.float .f32 y6) (.float .f32 y7) (.float .f32 y8) (.float .f32 y9) (.float .f32 y10) (.float .f32 y11)) uinfoFilterL rfl ?_) | (with_reducible refine wpList_load1 F rfl rfl rfl (by first | exact m0 | exact m1 | exact m2 | exact m3 | exact m4) (f := 10) (v := .float .f32 y10) rfl ukindFloat32 ?_) | (with_reducible refine wpList_load1 F rfl rfl rfl (by first | exact m0 | exact m1 | exact m2 | exact m3 | exact m4) (f := 11) (v := .float .f32 y11) rfl ukindFloat32 ?_)) | (go_at_call 75; ((with_reducible refine (H1.out _ F.below).mono ?_); rintro e w1 ⟨us, rfl, ho, hl⟩; obtain ⟨u2, O2, rfl, ho⟩ := inv_Ring _ _ _ ho; have O2 := hid O2; replace F := F.lay1 hl ho; clear ho hl)) | (with_reducible refine stop_store rfl ?_))
  show wpList _ _ _ _ _ _
  refine wpList_storeP rfl rfl rfl (f := 2) (cells := [u2, .int .i64 z3]) rfl (F.row m2) uinfoRingI (by simp) (by (simp only [List.all_toArray', List.all_cons, List.all_nil, Bool.and_true, Bool.true_and, O2.out]) <;> rfl) (fun w2 K => ?_)
  replace F := F.wrI2 (cs' := #[u0, .int .i64 z1, u2, .int .i64 z3, .int .i64 0, .float .f32 0, .float .f32 0, .float .f32 0, .float .f32 0, .float .f32 0, .float .f32 0, .float .f32 0]) K
  clear K
  go_wp2_with (first | ((with_reducible refine listN F ?_); clear F; intro wN F) | ((with_reducible refine at_load rfl ?_); first | (with_reducible refine wpList_loadGP F rfl rfl rfl (by first | exact m0 | exact m1 | exact m2 | exact m3 | exact m4 | exact m5) Try.underlying37 rfl [v0, .int .i64 z1] (partBow_Neck (v0) (.int .i64 z1) (v2) (.int .i64 z3) (.int .i64 z4) (.float .f32 y5) (.float .f32 y6) (.float .f32 y7) (.float .f32 y8) (.float .f32 y9) (.float .f32 y10) (.float .f32 y11)) uinfoRingL rfl ?_) | (with_reducible refine wpList_loadGP F rfl rfl rfl (by first | exact m0 | exact m1 | exact m2 | exact m3 | exact m4 | exact m5) Try.underlying37 rfl [v2, .int .i64 z3] (partBow_Bridge (v0) (.int .i64 z1) (v2) (.int .i64 z3) (.int .i64 z4) (.float .f32 y5) (.float .f32 y6) (.float .f32 y7) (.float .f32 y8) (.float .f32 y9) (.float .f32 y10) (.float .f32 y11)) uinfoRingL rfl ?_) | (with_reducible refine wpList_loadGP F rfl rfl rfl (by first | exact m0 | exact m1 | exact m2 | exact m3 | exact m4 | exact m5) Try.underlying38 rfl [.int .i64 z4, .float .f32 y5, .float .f32 y6, .float .f32 y7, .float .f32 y8, .float .f32 y9] (partBow_Damp (v0) (.int .i64 z1) (v2) (.int .i64 z3) (.int .i64 z4) (.float .f32 y5) (.float .f32 y6) (.float .f32 y7) (.float .f32 y8) (.float .f32 y9) (.float .f32 y10) (.float .f32 y11)) uinfoFilterL rfl ?_) | (with_reducible refine wpList_load1 F rfl rfl rfl (by first | exact m0 | exact m1 | exact m2 | exact m3 | exact m4 | exact m5) (f := 10) (v := .float .f32 y10) rfl ukindFloat32 ?_) | (with_reducible refine wpList_load1 F rfl rfl rfl (by first | exact m0 | exact m1 | exact m2 | exact m3 | exact m4 | exact m5) (f := 11) (v := .float .f32 y11) rfl ukindFloat32 ?_)) | (go_at_call 76; ((with_reducible refine (toFil_any _ _ _ _ _ _ _).mono ?_); rintro e w1 ⟨rfl, hl⟩; replace F := F.le hl; clear hl)) | (with_reducible refine stop_store rfl ?_))
  show wpList _ _ _ _ _ _
  refine wpList_storeP rfl rfl rfl (f := 4) (cells := [.int .i64 z4, .float .f32 y5, .float .f32 y6, .float .f32 y7, .float .f32 y8, .float .f32 y9]) rfl (F.row m2) uinfoFilterI (by simp) (by (simp only [List.all_toArray', List.all_cons, List.all_nil, Bool.and_true, Bool.true_and]) <;> rfl) (fun w2 K => ?_)
  replace F := F.wrI2 (cs' := #[u0, .int .i64 z1, u2, .int .i64 z3, .int .i64 z4, .float .f32 y5, .float .f32 y6, .float .f32 y7, .float .f32 y8, .float .f32 y9, .float .f32 0, .float .f32 0]) K
  clear K
  go_wp2_with (first | ((with_reducible refine listN F ?_); clear F; intro wN F) | ((with_reducible refine at_load rfl ?_); first | (with_reducible refine wpList_loadGP F rfl rfl rfl (by first | exact m0 | exact m1 | exact m2 | exact m3 | exact m4 | exact m5) Try.underlying37 rfl [v0, .int .i64 z1] (partBow_Neck (v0) (.int .i64 z1) (v2) (.int .i64 z3) (.int .i64 z4) (.float .f32 y5) (.float .f32 y6) (.float .f32 y7) (.float .f32 y8) (.float .f32 y9) (.float .f32 y10) (.float .f32 y11)) uinfoRingL rfl ?_) | (with_reducible refine wpList_loadGP F rfl rfl rfl (by first | exact m0 | exact m1 | exact m2 | exact m3 | exact m4 | exact m5) Try.underlying37 rfl [v2, .int .i64 z3] (partBow_Bridge (v0) (.int .i64 z1) (v2) (.int .i64 z3) (.int .i64 z4) (.float .f32 y5) (.float .f32 y6) (.float .f32 y7) (.float .f32 y8) (.float .f32 y9) (.float .f32 y10) (.float .f32 y11)) uinfoRingL rfl ?_) | (with_reducible refine wpList_loadGP F rfl rfl rfl (by first | exact m0 | exact m1 | exact m2 | exact m3 | exact m4 | exact m5) Try.underlying38 rfl [.int .i64 z4, .float .f32 y5, .float .f32 y6, .float .f32 y7, .float .f32 y8, .float .f32 y9] (partBow_Damp (v0) (.int .i64 z1) (v2) (.int .i64 z3) (.int .i64 z4) (.float .f32 y5) (.float .f32 y6) (.float .f32 y7) (.float .f32 y8) (.float .f32 y9) (.float .f32 y10) (.float .f32 y11)) uinfoFilterL rfl ?_) | (with_reducible refine wpList_load1 F rfl rfl rfl (by first | exact m0 | exact m1 | exact m2 | exact m3 | exact m4 | exact m5) (f := 10) (v := .float .f32 y10) rfl ukindFloat32 ?_) | (with_reducible refine wpList_load1 F rfl rfl rfl (by first | exact m0 | exact m1 | exact m2 | exact m3 | exact m4 | exact m5) (f := 11) (v := .float .f32 y11) rfl ukindFloat32 ?_)) | (with_reducible refine stop_store rfl ?_))
  show wpList _ _ _ _ _ _
  refine wpList_store1 rfl rfl (f := 10) rfl rfl (F.row m2) uinfo1Float32 (by simp) rfl #[u0, .int .i64 z1, u2, .int .i64 z3, .int .i64 z4, .float .f32 y5, .float .f32 y6, .float .f32 y7, .float .f32 y8, .float .f32 y9, .float .f32 y10, .float .f32 0] rfl (fun w2 K => ?_)
  replace F := F.wrI2 (cs' := #[u0, .int .i64 z1, u2, .int .i64 z3, .int .i64 z4, .float .f32 y5, .float .f32 y6, .float .f32 y7, .float .f32 y8, .float .f32 y9, .float .f32 y10, .float .f32 0]) K
  clear K
  go_wp2_with (first | ((with_reducible refine listN F ?_); clear F; intro wN F) | ((with_reducible refine at_load rfl ?_); first | (with_reducible refine wpList_loadGP F rfl rfl rfl (by first | exact m0 | exact m1 | exact m2 | exact m3 | exact m4 | exact m5) Try.underlying37 rfl [v0, .int .i64 z1] (partBow_Neck (v0) (.int .i64 z1) (v2) (.int .i64 z3) (.int .i64 z4) (.float .f32 y5) (.float .f32 y6) (.float .f32 y7) (.float .f32 y8) (.float .f32 y9) (.float .f32 y10) (.float .f32 y11)) uinfoRingL rfl ?_) | (with_reducible refine wpList_loadGP F rfl rfl rfl (by first | exact m0 | exact m1 | exact m2 | exact m3 | exact m4 | exact m5) Try.underlying37 rfl [v2, .int .i64 z3] (partBow_Bridge (v0) (.int .i64 z1) (v2) (.int .i64 z3) (.int .i64 z4) (.float .f32 y5) (.float .f32 y6) (.float .f32 y7) (.float .f32 y8) (.float .f32 y9) (.float .f32 y10) (.float .f32 y11)) uinfoRingL rfl ?_) | (with_reducible refine wpList_loadGP F rfl rfl rfl (by first | exact m0 | exact m1 | exact m2 | exact m3 | exact m4 | exact m5) Try.underlying38 rfl [.int .i64 z4, .float .f32 y5, .float .f32 y6, .float .f32 y7, .float .f32 y8, .float .f32 y9] (partBow_Damp (v0) (.int .i64 z1) (v2) (.int .i64 z3) (.int .i64 z4) (.float .f32 y5) (.float .f32 y6) (.float .f32 y7) (.float .f32 y8) (.float .f32 y9) (.float .f32 y10) (.float .f32 y11)) uinfoFilterL rfl ?_) | (with_reducible refine wpList_load1 F rfl rfl rfl (by first | exact m0 | exact m1 | exact m2 | exact m3 | exact m4 | exact m5) (f := 10) (v := .float .f32 y10) rfl ukindFloat32 ?_) | (with_reducible refine wpList_load1 F rfl rfl rfl (by first | exact m0 | exact m1 | exact m2 | exact m3 | exact m4 | exact m5) (f := 11) (v := .float .f32 y11) rfl ukindFloat32 ?_)) | (with_reducible refine stop_store rfl ?_))
  show wpList _ _ _ _ _ _
  refine wpList_store1 rfl rfl (f := 11) rfl rfl (F.row m2) uinfo1Float32 (by simp) rfl #[u0, .int .i64 z1, u2, .int .i64 z3, .int .i64 z4, .float .f32 y5, .float .f32 y6, .float .f32 y7, .float .f32 y8, .float .f32 y9, .float .f32 y10, .float .f32 y11] rfl (fun w2 K => ?_)
  replace F := F.wrI2 (cs' := #[u0, .int .i64 z1, u2, .int .i64 z3, .int .i64 z4, .float .f32 y5, .float .f32 y6, .float .f32 y7, .float .f32 y8, .float .f32 y9, .float .f32 y10, .float .f32 y11]) K
  clear K
  go_wp2_with (first | ((with_reducible refine listN F ?_); clear F; intro wN F) | ((with_reducible refine at_load rfl ?_); (with_reducible refine wpList_loadG F rfl rfl rfl (by first | exact m0 | exact m1 | exact m2) Try.underlying31 rfl uinfoBowI rfl ?_)) | (with_reducible refine stop_store rfl ?_))
  show wpList _ _ _ _ _ _
  refine wpList_storeD rfl rfl rfl (cells := #[u0, .int .i64 z1, u2, .int .i64 z3, .int .i64 z4, .float .f32 y5, .float .f32 y6, .float .f32 y7, .float .f32 y8, .float .f32 y9, .float .f32 y10, .float .f32 y11]) rfl (F.row m3) uinfoBowI rfl (by (simp only [List.all_toArray', List.all_cons, List.all_nil, Bool.and_true, Bool.true_and, O0.out, O2.out]) <;> rfl) (fun w6 K => ?_)
  have R := hid K.row
  replace F := F.wrI3 K
  have E0 := Eaten.start F
  replace E0 := Eaten.leaf (c := CD.cp c11) (v := .float .f32 y11) E0 (r11.leafLay (flk_ne q11))
  replace E0 := Eaten.leaf (c := CD.cp c10) (v := .float .f32 y10) E0 (r10.leafLay (flk_ne q10))
  replace E0 := Eaten.leaf (c := CD.cp c9) (v := .float .f32 y9) E0 (r9.leafLay (flk_ne q9))
  replace E0 := Eaten.leaf (c := CD.cp c8) (v := .float .f32 y8) E0 (r8.leafLay (flk_ne q8))
  replace E0 := Eaten.leaf (c := CD.cp c7) (v := .float .f32 y7) E0 (r7.leafLay (flk_ne q7))
  replace E0 := Eaten.leaf (c := CD.cp c6) (v := .float .f32 y6) E0 (r6.leafLay (flk_ne q6))
  replace E0 := Eaten.leaf (c := CD.cp c5) (v := .float .f32 y5) E0 (r5.leafLay (flk_ne q5))
  replace E0 := Eaten.leaf (c := .int .i64 z4) (v := .int .i64 z4) E0 (show CD.Lay _ _ _ _ from ⟨rfl, wf4⟩)
  replace E0 := Eaten.eat F E0
  replace F := F.tl
  replace E0 := Eaten.eat F E0
  replace F := F.tl
  have L := hid (show LayL _ _ _ _ ∧ le w _ from ⟨E0.fin, F.below⟩)
  clear K F E0
  go_wp2
  exact bodyPost_ret (results_row1 rfl _ _ _ _ _ rfl R.out Try.underlying31 rfl uinfoBowI) rfl ⟨[u0, .int .i64 z1, u2, .int .i64 z3, .int .i64 z4, .float .f32 y5, .float .f32 y6, .float .f32 y7, .float .f32 y8, .float .f32 y9, .float .f32 y10, .float .f32 y11], rfl, L.out.1, L.out.2⟩
end Go.Proofs.Ytgjdmoenobacgaa

/- The laws' helpers for Ring, over trees of data. -/
namespace Go.Proofs.Ytgjdmoenobacgaa
open Go.RowKit Go.Fk
theorem mtU_Ring {cs : List CD} (hsh : ShOkL shRing cs) : mtL cs = szL cs := by
  obtain ⟨c0, cs, rfl, q0, hsh⟩ := hsh.inv
  obtain ⟨c1, cs, rfl, q1, hsh⟩ := hsh.inv
  obtain rfl := hsh.inv0
  obtain ⟨n0, x0, rfl, q0⟩ := q0
  obtain ⟨z1, rfl⟩ := q1
  simp only [mtL, szL, List.map_cons, List.map_nil, List.sum_cons, List.sum_nil, CD.mt_flts (ShOk.flts q0 rfl), CD.sz_flts (ShOk.flts q0 rfl)]
  simp [CD.mt, CD.sz]
set_option maxRecDepth 100000 in
set_option maxHeartbeats 4000000 in
theorem markU_Ring (S : Nat → Prop) (cs : List CD) (vs : List Value) (z : Int) (w : World) (hsh : ShOkL shRing cs) (hn : mtL cs ≤ 1048576) (hz : 0 ≤ z) (hz2 : z + (mtL cs : Nat) ≤ 16777216) (h : LayL w S cs vs) :
    Calls Try.prog 69 #[.agg vs.toArray, .int .i64 z] w fun e w' => e = .returned (.int .i64 (z + (mtL cs : Nat))) ∧ LayL w' S (mkL cs z) vs ∧ Chg S w w' := by
  obtain ⟨c0, cs, rfl, q0, hsh⟩ := hsh.inv
  obtain ⟨c1, cs, rfl, q1, hsh⟩ := hsh.inv
  obtain rfl := hsh.inv0
  obtain ⟨n0, x0, rfl, q0⟩ := q0
  obtain ⟨z1, rfl⟩ := q1
  obtain ⟨a0, ha0⟩ : ∃ a : Nat, a = mtL ([.sl 1 n0 x0] : List CD) := ⟨_, rfl⟩
  have hs : mtL ([.sl 1 n0 x0, .int .i64 z1] : List CD) = a0 := by
    rw [show ([.sl 1 n0 x0, .int .i64 z1] : List CD) = ([.sl 1 n0 x0] : List CD) ++ ([.int .i64 z1] : List CD) from rfl]
    simp only [mtL_append]
    have l1 := (mkL_leaf (cs := [.int .i64 z1]) (noL_cons noS_int noL_nil)).1
    omega
  rw [hs] at hn hz2 ⊢
  obtain ⟨g0, r0, A0, B0, rfl, l0, h0, a0_, b0_, d0⟩ := LayL.split (a := [.sl 1 n0 x0]) (b := [.int .i64 z1]) h
  have l1 := h0
  have L0 := hid l0
  obtain ⟨v0, rr, _, _, rfl, e0, l0, _, _, _⟩ := l0.inv
  obtain rfl := l0.inv0
  have L1 := hid l1
  obtain ⟨v1, rr, _, _, rfl, e1, l1, _, _, _⟩ := l1.inv
  obtain rfl := l1.inv0
  have SS0 : ∀ j, A0 j → S j := fun j x => a0_ j x
  have K0 := hid (L0.out.lt)
  have F := (Frg.nil w).box 25 #[v0, v1]
  have CH := hid (Chg.refl S w)
  obtain ⟨N0, hN0⟩ : ∃ N0, N0 = w.heap.size := ⟨_, rfl⟩
  have HW := hid hN0; have SZ := hid hN0; clear hN0
  have M0 : ∀ (zz : Int) (w1 : World), 0 ≤ zz → zz + (a0 : Int) ≤ 16777216 → LayL w1 (fun j => A0 j ∧ j < w.heap.size) ([.sl 1 n0 x0] : List CD) [v0] → Calls Try.prog 29 #[v0, .int .i64 zz] w1 fun e w2 => e = .returned (.int .i64 (zz + (a0 : Int))) ∧ LayL w2 (fun j => A0 j ∧ j < w.heap.size) (mkL ([.sl 1 n0 x0] : List CD) zz) [v0] ∧ Chg (fun j => A0 j ∧ j < w.heap.size) w1 w2 := by
    intro zz w1 h0 h1 h
    rw [ha0] at h1 ⊢
    exact markU_Float32S _ n0 x0 v0 zz _ (by omega) h0 (by omega) q0 h
  replace M0 := hid M0
  replace ha0 := hid ha0
  replace hs := hid hs
  go_enter Try.func69, Try.ntmps69
  go_wp2_with (first | ((with_reducible refine listN F ?_); clear F; intro wN F) | ((with_reducible refine at_load rfl ?_); first | (with_reducible refine wpList_load1 F rfl rfl rfl (by first | exact m0 | exact m1 | exact m2) (f := 0) (v := v0) rfl ukindFloat32S ?_) | (with_reducible refine wpList_load1 F rfl rfl rfl (by first | exact m0 | exact m1 | exact m2) (f := 1) (v := v1) rfl ukindInt64 ?_)))
  first | ((with_reducible refine callAt0 F ?_); clear F; intro wN F) | ((with_reducible refine callAtN F ?_); clear F; intro wN F)
  refine (M0.out z _ (by omega) (by omega) (K0.out.le F.below)).mono ?_
  rintro e w4 ⟨rfl, hl, hc⟩
  obtain ⟨wb0, F2, hcb, hsz, heq⟩ := F.rebase hc (fun j hj => by have := hj.2; have := SZ.out; have := HW.out; omega)
  replace K0 := hid (hl.ok (fun j hj => heq j (by have := hj.2; have := SZ.out; have := HW.out; omega)))
  replace CH := hid (CH.out.trans (hcb.mono (fun j x => SS0 j x.1)))
  replace SZ := hid (SZ.out.trans hsz.symm)
  clear hl heq hcb hsz hc F
  have F := F2
  clear F2
  go_wp2_with (first | ((with_reducible refine listN F ?_); clear F; intro wN F) | ((with_reducible refine at_load rfl ?_); first | (with_reducible refine wpList_load1 F rfl rfl rfl (by first | exact m0 | exact m1 | exact m2) (f := 0) (v := v0) rfl ukindFloat32S ?_) | (with_reducible refine wpList_load1 F rfl rfl rfl (by first | exact m0 | exact m1 | exact m2) (f := 1) (v := v1) rfl ukindInt64 ?_)))
  go_ret
  replace ha0 := ha0.out
  replace hs := hs.out
  refine ⟨ret_i (by omega), ?_, CH.out.le F.below⟩
  rw [show ([.sl 1 n0 x0, .int .i64 z1] : List CD) = (([.sl 1 n0 x0] : List CD) ++ ([.int .i64 z1] : List CD)) from rfl]
  simp only [mkL_append]
  have lf1 := (mkL_leaf (cs := [.int .i64 z1]) (noL_cons noS_int noL_nil)).1
  exact (LayL.append (((K0.out.le F.below).mono (fun j x => x.1)).atz (by omega)) (L1.out.leafs (noL_cons noS_int noL_nil) _) a0_ b0_ d0)
set_option maxRecDepth 100000 in
set_option maxHeartbeats 4000000 in
theorem heldU_Ring (B : Nat) (cs : List CD) (vs : List Value) (z : Int) (w : World) (hsh : ShOkL shRing cs) (hn : mtL cs ≤ 1048576) (hz : 0 ≤ z) (hz2 : z + (mtL cs : Nat) ≤ 16777216) (h : RdL w B (mkL cs z) vs) :
    Calls Try.prog 70 #[.agg vs.toArray, .int .i64 z] w fun e w' => e = .returned (.int .i64 (z + (mtL cs : Nat))) ∧ le w w' := by
  obtain ⟨c0, cs, rfl, q0, hsh⟩ := hsh.inv
  obtain ⟨c1, cs, rfl, q1, hsh⟩ := hsh.inv
  obtain rfl := hsh.inv0
  obtain ⟨n0, x0, rfl, q0⟩ := q0
  obtain ⟨z1, rfl⟩ := q1
  obtain ⟨a0, ha0⟩ : ∃ a : Nat, a = mtL ([.sl 1 n0 x0] : List CD) := ⟨_, rfl⟩
  have hs : mtL ([.sl 1 n0 x0, .int .i64 z1] : List CD) = a0 := by
    rw [show ([.sl 1 n0 x0, .int .i64 z1] : List CD) = ([.sl 1 n0 x0] : List CD) ++ ([.int .i64 z1] : List CD) from rfl]
    simp only [mtL_append]
    have l1 := (mkL_leaf (cs := [.int .i64 z1]) (noL_cons noS_int noL_nil)).1
    omega
  rw [hs] at hn hz2 ⊢
  have lf1 := (mkL_leaf (cs := [.int .i64 z1]) (noL_cons noS_int noL_nil)).1
  rw [show ([.sl 1 n0 x0, .int .i64 z1] : List CD) = (([.sl 1 n0 x0] : List CD) ++ ([.int .i64 z1] : List CD)) from rfl] at h
  simp only [mkL_append] at h
  obtain ⟨g0, r0, rfl, l0, h0⟩ := h.split
  have l1 := h0
  replace l0 := l0.atz (z' := z) (by omega)
  have L0 := hid l0
  simp only [mkL] at l0
  obtain ⟨v0, rr, rfl, e0, l0⟩ := l0.inv
  obtain rfl := l0.inv0
  replace l1 := l1.leafs (noL_cons noS_int noL_nil)
  have L1 := hid l1
  obtain ⟨v1, rr, rfl, e1, l1⟩ := l1.inv
  obtain rfl := l1.inv0
  have F := (Frg.nil w).box 25 #[v0, v1]
  have hz_0 : ¬ ((z + (a0 : Int)) < 0) := by omega
  have M0 : ∀ (w1 : World), le w w1 → Calls Try.prog 30 #[v0, .int .i64 z] w1 fun e w2 => e = .returned (.int .i64 (z + (a0 : Int))) ∧ le w1 w2 := by
    intro w1 h
    rw [show (a0 : Int) = (mtL ([.sl 1 n0 x0] : List CD) : Nat) by rw [ha0]]
    exact heldU_Float32S _ n0 x0 v0 z _ (by omega) (by omega) (by omega) q0 (L0.out.le h)
  replace M0 := hid M0
  replace ha0 := hid ha0
  replace hs := hid hs
  go_enter Try.func70, Try.ntmps70
  go_wp2_with (first | ((with_reducible refine listN F ?_); clear F; intro wN F) | ((with_reducible refine at_load rfl ?_); first | (with_reducible refine wpList_load1 F rfl rfl rfl (by first | exact m0 | exact m1 | exact m2) (f := 0) (v := v0) rfl ukindFloat32S ?_) | (with_reducible refine wpList_load1 F rfl rfl rfl (by first | exact m0 | exact m1 | exact m2) (f := 1) (v := v1) rfl ukindInt64 ?_)) | (go_at_call 30; ((with_reducible refine (M0.out _ F.below).mono ?_); rintro e w1 ⟨rfl, hl⟩; replace F := F.le hl; clear hl)))
  go_ret
  exact ⟨ret_i (by omega), F.below⟩
end Go.Proofs.Ytgjdmoenobacgaa

/- The laws' helpers for Bow, over trees of data. -/
namespace Go.Proofs.Ytgjdmoenobacgaa
open Go.RowKit Go.Fk
theorem mtU_Bow {cs : List CD} (hsh : ShOkL shBow cs) : mtL cs = szL cs := by
  obtain ⟨c0, cs, rfl, q0, hsh⟩ := hsh.inv
  obtain ⟨c1, cs, rfl, q1, hsh⟩ := hsh.inv
  obtain ⟨c2, cs, rfl, q2, hsh⟩ := hsh.inv
  obtain ⟨c3, cs, rfl, q3, hsh⟩ := hsh.inv
  obtain ⟨c4, cs, rfl, q4, hsh⟩ := hsh.inv
  obtain ⟨c5, cs, rfl, q5, hsh⟩ := hsh.inv
  obtain ⟨c6, cs, rfl, q6, hsh⟩ := hsh.inv
  obtain ⟨c7, cs, rfl, q7, hsh⟩ := hsh.inv
  obtain ⟨c8, cs, rfl, q8, hsh⟩ := hsh.inv
  obtain ⟨c9, cs, rfl, q9, hsh⟩ := hsh.inv
  obtain ⟨c10, cs, rfl, q10, hsh⟩ := hsh.inv
  obtain ⟨c11, cs, rfl, q11, hsh⟩ := hsh.inv
  obtain rfl := hsh.inv0
  obtain ⟨n0, x0, rfl, q0⟩ := q0
  obtain ⟨z1, rfl⟩ := q1
  obtain ⟨n2, x2, rfl, q2⟩ := q2
  obtain ⟨z3, rfl⟩ := q3
  obtain ⟨z4, rfl⟩ := q4
  have q5 : c5.flk = some .f32 := q5
  have q6 : c6.flk = some .f32 := q6
  have q7 : c7.flk = some .f32 := q7
  have q8 : c8.flk = some .f32 := q8
  have q9 : c9.flk = some .f32 := q9
  have q10 : c10.flk = some .f32 := q10
  have q11 : c11.flk = some .f32 := q11
  simp only [mtL, szL, List.map_cons, List.map_nil, List.sum_cons, List.sum_nil, CD.mt_flts (ShOk.flts q0 rfl), CD.sz_flts (ShOk.flts q0 rfl), CD.mt_flts (ShOk.flts q2 rfl), CD.sz_flts (ShOk.flts q2 rfl), CD.mt_fl q5, CD.sz_fl q5, CD.mt_fl q6, CD.sz_fl q6, CD.mt_fl q7, CD.sz_fl q7, CD.mt_fl q8, CD.sz_fl q8, CD.mt_fl q9, CD.sz_fl q9, CD.mt_fl q10, CD.sz_fl q10, CD.mt_fl q11, CD.sz_fl q11]
  simp [CD.mt, CD.sz]
set_option maxRecDepth 100000 in
set_option maxHeartbeats 4000000 in
theorem markU_Bow (S : Nat → Prop) (cs : List CD) (vs : List Value) (z : Int) (w : World) (hsh : ShOkL shBow cs) (hn : mtL cs ≤ 1048576) (hz : 0 ≤ z) (hz2 : z + (mtL cs : Nat) ≤ 16777216) (h : LayL w S cs vs) :
    Calls Try.prog 18 #[.agg vs.toArray, .int .i64 z] w fun e w' => e = .returned (.int .i64 (z + (mtL cs : Nat))) ∧ LayL w' S (mkL cs z) vs ∧ Chg S w w' := by
  obtain ⟨c0, cs, rfl, q0, hsh⟩ := hsh.inv
  obtain ⟨c1, cs, rfl, q1, hsh⟩ := hsh.inv
  obtain ⟨c2, cs, rfl, q2, hsh⟩ := hsh.inv
  obtain ⟨c3, cs, rfl, q3, hsh⟩ := hsh.inv
  obtain ⟨c4, cs, rfl, q4, hsh⟩ := hsh.inv
  obtain ⟨c5, cs, rfl, q5, hsh⟩ := hsh.inv
  obtain ⟨c6, cs, rfl, q6, hsh⟩ := hsh.inv
  obtain ⟨c7, cs, rfl, q7, hsh⟩ := hsh.inv
  obtain ⟨c8, cs, rfl, q8, hsh⟩ := hsh.inv
  obtain ⟨c9, cs, rfl, q9, hsh⟩ := hsh.inv
  obtain ⟨c10, cs, rfl, q10, hsh⟩ := hsh.inv
  obtain ⟨c11, cs, rfl, q11, hsh⟩ := hsh.inv
  obtain rfl := hsh.inv0
  obtain ⟨z1, rfl⟩ := q1
  obtain ⟨z3, rfl⟩ := q3
  obtain ⟨z4, rfl⟩ := q4
  have q5 : c5.flk = some .f32 := q5
  have q6 : c6.flk = some .f32 := q6
  have q7 : c7.flk = some .f32 := q7
  have q8 : c8.flk = some .f32 := q8
  have q9 : c9.flk = some .f32 := q9
  have q10 : c10.flk = some .f32 := q10
  have q11 : c11.flk = some .f32 := q11
  obtain ⟨a0, ha0⟩ : ∃ a : Nat, a = mtL ([c0, .int .i64 z1] : List CD) := ⟨_, rfl⟩
  obtain ⟨a1, ha1⟩ : ∃ a : Nat, a = mtL ([c2, .int .i64 z3] : List CD) := ⟨_, rfl⟩
  have hs : mtL ([c0, .int .i64 z1, c2, .int .i64 z3, .int .i64 z4, c5, c6, c7, c8, c9, c10, c11] : List CD) = a0 + a1 := by
    rw [show ([c0, .int .i64 z1, c2, .int .i64 z3, .int .i64 z4, c5, c6, c7, c8, c9, c10, c11] : List CD) = ([c0, .int .i64 z1] : List CD) ++ ([c2, .int .i64 z3] : List CD) ++ ([.int .i64 z4, c5, c6, c7, c8, c9, c10, c11] : List CD) from rfl]
    simp only [mtL_append]
    have l2 := (mkL_leaf (cs := [.int .i64 z4, c5, c6, c7, c8, c9, c10, c11]) (noL_cons noS_int (noL_cons (noS_fl q5) (noL_cons (noS_fl q6) (noL_cons (noS_fl q7) (noL_cons (noS_fl q8) (noL_cons (noS_fl q9) (noL_cons (noS_fl q10) (noL_cons (noS_fl q11) noL_nil))))))))).1
    omega
  rw [hs] at hn hz2 ⊢
  obtain ⟨g0, r0, A0, B0, rfl, l0, h0, a0_, b0_, d0⟩ := LayL.split (a := [c0, .int .i64 z1]) (b := [c2, .int .i64 z3, .int .i64 z4, c5, c6, c7, c8, c9, c10, c11]) h
  obtain ⟨g1, r1, A1, B1, rfl, l1, h1, a1_, b1_, d1⟩ := LayL.split (a := [c2, .int .i64 z3]) (b := [.int .i64 z4, c5, c6, c7, c8, c9, c10, c11]) h0
  have l2 := h1
  have L0 := hid l0
  obtain ⟨v0, rr, _, _, rfl, e0, l0, _, _, _⟩ := l0.inv
  obtain ⟨v1, rr, _, _, rfl, e1, l0, _, _, _⟩ := l0.inv
  obtain rfl := l0.inv0
  obtain ⟨rfl, wf1⟩ := e1
  have L1 := hid l1
  obtain ⟨v2, rr, _, _, rfl, e2, l1, _, _, _⟩ := l1.inv
  obtain ⟨v3, rr, _, _, rfl, e3, l1, _, _, _⟩ := l1.inv
  obtain rfl := l1.inv0
  obtain ⟨rfl, wf3⟩ := e3
  have L2 := hid l2
  obtain ⟨v4, rr, _, _, rfl, e4, l2, _, _, _⟩ := l2.inv
  obtain ⟨v5, rr, _, _, rfl, e5, l2, _, _, _⟩ := l2.inv
  obtain ⟨v6, rr, _, _, rfl, e6, l2, _, _, _⟩ := l2.inv
  obtain ⟨v7, rr, _, _, rfl, e7, l2, _, _, _⟩ := l2.inv
  obtain ⟨v8, rr, _, _, rfl, e8, l2, _, _, _⟩ := l2.inv
  obtain ⟨v9, rr, _, _, rfl, e9, l2, _, _, _⟩ := l2.inv
  obtain ⟨v10, rr, _, _, rfl, e10, l2, _, _, _⟩ := l2.inv
  obtain ⟨v11, rr, _, _, rfl, e11, l2, _, _, _⟩ := l2.inv
  obtain rfl := l2.inv0
  have SS0 : ∀ j, A0 j → S j := fun j x => a0_ j x
  have SS1 : ∀ j, A1 j → S j := fun j x => b0_ j (a1_ j x)
  have D0_1 : ∀ j, A0 j → A1 j → False := fun j y x => d0 j y (a1_ j x)
  have K0 := hid (L0.out.lt)
  have K1 := hid (L1.out.lt)
  have F := (Frg.nil w).box 31 #[v0, .int .i64 z1, v2, .int .i64 z3, v4, v5, v6, v7, v8, v9, v10, v11]
  have CH := hid (Chg.refl S w)
  obtain ⟨N0, hN0⟩ : ∃ N0, N0 = w.heap.size := ⟨_, rfl⟩
  have HW := hid hN0; have SZ := hid hN0; clear hN0
  have M0 : ∀ (zz : Int) (w1 : World), 0 ≤ zz → zz + (a0 : Int) ≤ 16777216 → LayL w1 (fun j => A0 j ∧ j < w.heap.size) ([c0, .int .i64 z1] : List CD) [v0, .int .i64 z1] → Calls Try.prog 69 #[.agg #[v0, .int .i64 z1], .int .i64 zz] w1 fun e w2 => e = .returned (.int .i64 (zz + (a0 : Int))) ∧ LayL w2 (fun j => A0 j ∧ j < w.heap.size) (mkL ([c0, .int .i64 z1] : List CD) zz) [v0, .int .i64 z1] ∧ Chg (fun j => A0 j ∧ j < w.heap.size) w1 w2 := by
    intro zz w1 h0 h1 h
    rw [ha0] at h1 ⊢
    exact markU_Ring _ _ _ zz _ (ShOkL.cons q0 (ShOkL.cons ⟨_, rfl⟩ (ShOkL.nil))) (by omega) h0 (by omega) h
  replace M0 := hid M0
  have M1 : ∀ (zz : Int) (w1 : World), 0 ≤ zz → zz + (a1 : Int) ≤ 16777216 → LayL w1 (fun j => A1 j ∧ j < w.heap.size) ([c2, .int .i64 z3] : List CD) [v2, .int .i64 z3] → Calls Try.prog 69 #[.agg #[v2, .int .i64 z3], .int .i64 zz] w1 fun e w2 => e = .returned (.int .i64 (zz + (a1 : Int))) ∧ LayL w2 (fun j => A1 j ∧ j < w.heap.size) (mkL ([c2, .int .i64 z3] : List CD) zz) [v2, .int .i64 z3] ∧ Chg (fun j => A1 j ∧ j < w.heap.size) w1 w2 := by
    intro zz w1 h0 h1 h
    rw [ha1] at h1 ⊢
    exact markU_Ring _ _ _ zz _ (ShOkL.cons q2 (ShOkL.cons ⟨_, rfl⟩ (ShOkL.nil))) (by omega) h0 (by omega) h
  replace M1 := hid M1
  replace ha0 := hid ha0
  replace ha1 := hid ha1
  replace hs := hid hs
  go_enter Try.func18, Try.ntmps18
  go_wp2_with (first | ((with_reducible refine listN F ?_); clear F; intro wN F) | ((with_reducible refine at_load rfl ?_); first | (with_reducible refine wpList_loadGP F rfl rfl rfl (by first | exact m0 | exact m1 | exact m2) Try.underlying25 rfl [v0, .int .i64 z1] (partBow_Neck (v0) (.int .i64 z1) (v2) (.int .i64 z3) (v4) (v5) (v6) (v7) (v8) (v9) (v10) (v11)) uinfoRingI rfl ?_) | (with_reducible refine wpList_loadGP F rfl rfl rfl (by first | exact m0 | exact m1 | exact m2) Try.underlying25 rfl [v2, .int .i64 z3] (partBow_Bridge (v0) (.int .i64 z1) (v2) (.int .i64 z3) (v4) (v5) (v6) (v7) (v8) (v9) (v10) (v11)) uinfoRingI rfl ?_) | (with_reducible refine wpList_loadGP F rfl rfl rfl (by first | exact m0 | exact m1 | exact m2) Try.underlying29 rfl [v4, v5, v6, v7, v8, v9] (partBow_Damp (v0) (.int .i64 z1) (v2) (.int .i64 z3) (v4) (v5) (v6) (v7) (v8) (v9) (v10) (v11)) uinfoFilterI rfl ?_) | (with_reducible refine wpList_load1 F rfl rfl rfl (by first | exact m0 | exact m1 | exact m2) (f := 10) (v := v10) rfl ukindFloat32 ?_) | (with_reducible refine wpList_load1 F rfl rfl rfl (by first | exact m0 | exact m1 | exact m2) (f := 11) (v := v11) rfl ukindFloat32 ?_)))
  first | ((with_reducible refine callAt0 F ?_); clear F; intro wN F) | ((with_reducible refine callAtN F ?_); clear F; intro wN F)
  refine (M0.out z _ (by omega) (by omega) (K0.out.le F.below)).mono ?_
  rintro e w4 ⟨rfl, hl, hc⟩
  obtain ⟨wb0, F2, hcb, hsz, heq⟩ := F.rebase hc (fun j hj => by have := hj.2; have := SZ.out; have := HW.out; omega)
  replace K0 := hid (hl.ok (fun j hj => heq j (by have := hj.2; have := SZ.out; have := HW.out; omega)))
  replace K1 := hid (K1.out.apart hcb (fun j x y => D0_1 j y.1 x.1))
  replace CH := hid (CH.out.trans (hcb.mono (fun j x => SS0 j x.1)))
  replace SZ := hid (SZ.out.trans hsz.symm)
  clear hl heq hcb hsz hc F
  have F := F2
  clear F2
  go_wp2_with (first | ((with_reducible refine listN F ?_); clear F; intro wN F) | ((with_reducible refine at_load rfl ?_); first | (with_reducible refine wpList_loadGP F rfl rfl rfl (by first | exact m0 | exact m1 | exact m2) Try.underlying25 rfl [v0, .int .i64 z1] (partBow_Neck (v0) (.int .i64 z1) (v2) (.int .i64 z3) (v4) (v5) (v6) (v7) (v8) (v9) (v10) (v11)) uinfoRingI rfl ?_) | (with_reducible refine wpList_loadGP F rfl rfl rfl (by first | exact m0 | exact m1 | exact m2) Try.underlying25 rfl [v2, .int .i64 z3] (partBow_Bridge (v0) (.int .i64 z1) (v2) (.int .i64 z3) (v4) (v5) (v6) (v7) (v8) (v9) (v10) (v11)) uinfoRingI rfl ?_) | (with_reducible refine wpList_loadGP F rfl rfl rfl (by first | exact m0 | exact m1 | exact m2) Try.underlying29 rfl [v4, v5, v6, v7, v8, v9] (partBow_Damp (v0) (.int .i64 z1) (v2) (.int .i64 z3) (v4) (v5) (v6) (v7) (v8) (v9) (v10) (v11)) uinfoFilterI rfl ?_) | (with_reducible refine wpList_load1 F rfl rfl rfl (by first | exact m0 | exact m1 | exact m2) (f := 10) (v := v10) rfl ukindFloat32 ?_) | (with_reducible refine wpList_load1 F rfl rfl rfl (by first | exact m0 | exact m1 | exact m2) (f := 11) (v := v11) rfl ukindFloat32 ?_)))
  first | ((with_reducible refine callAt0 F ?_); clear F; intro wN F) | ((with_reducible refine callAtN F ?_); clear F; intro wN F)
  refine (M1.out (z + (a0 : Int)) _ (by omega) (by omega) (K1.out.le F.below)).mono ?_
  rintro e w4 ⟨rfl, hl, hc⟩
  obtain ⟨wb1, F2, hcb, hsz, heq⟩ := F.rebase hc (fun j hj => by have := hj.2; have := SZ.out; have := HW.out; omega)
  replace K1 := hid (hl.ok (fun j hj => heq j (by have := hj.2; have := SZ.out; have := HW.out; omega)))
  replace K0 := hid (K0.out.apart hcb (fun j x y => D0_1 j x.1 y.1))
  replace CH := hid (CH.out.trans (hcb.mono (fun j x => SS1 j x.1)))
  replace SZ := hid (SZ.out.trans hsz.symm)
  clear hl heq hcb hsz hc F
  have F := F2
  clear F2
  go_wp2_with (first | ((with_reducible refine listN F ?_); clear F; intro wN F) | ((with_reducible refine at_load rfl ?_); first | (with_reducible refine wpList_loadGP F rfl rfl rfl (by first | exact m0 | exact m1 | exact m2) Try.underlying25 rfl [v0, .int .i64 z1] (partBow_Neck (v0) (.int .i64 z1) (v2) (.int .i64 z3) (v4) (v5) (v6) (v7) (v8) (v9) (v10) (v11)) uinfoRingI rfl ?_) | (with_reducible refine wpList_loadGP F rfl rfl rfl (by first | exact m0 | exact m1 | exact m2) Try.underlying25 rfl [v2, .int .i64 z3] (partBow_Bridge (v0) (.int .i64 z1) (v2) (.int .i64 z3) (v4) (v5) (v6) (v7) (v8) (v9) (v10) (v11)) uinfoRingI rfl ?_) | (with_reducible refine wpList_loadGP F rfl rfl rfl (by first | exact m0 | exact m1 | exact m2) Try.underlying29 rfl [v4, v5, v6, v7, v8, v9] (partBow_Damp (v0) (.int .i64 z1) (v2) (.int .i64 z3) (v4) (v5) (v6) (v7) (v8) (v9) (v10) (v11)) uinfoFilterI rfl ?_) | (with_reducible refine wpList_load1 F rfl rfl rfl (by first | exact m0 | exact m1 | exact m2) (f := 10) (v := v10) rfl ukindFloat32 ?_) | (with_reducible refine wpList_load1 F rfl rfl rfl (by first | exact m0 | exact m1 | exact m2) (f := 11) (v := v11) rfl ukindFloat32 ?_)))
  go_ret
  replace ha0 := ha0.out
  replace ha1 := ha1.out
  replace hs := hs.out
  refine ⟨ret_i (by omega), ?_, CH.out.le F.below⟩
  rw [show ([c0, .int .i64 z1, c2, .int .i64 z3, .int .i64 z4, c5, c6, c7, c8, c9, c10, c11] : List CD) = (([c0, .int .i64 z1] : List CD) ++ (([c2, .int .i64 z3] : List CD) ++ ([.int .i64 z4, c5, c6, c7, c8, c9, c10, c11] : List CD))) from rfl]
  simp only [mkL_append]
  have lf2 := (mkL_leaf (cs := [.int .i64 z4, c5, c6, c7, c8, c9, c10, c11]) (noL_cons noS_int (noL_cons (noS_fl q5) (noL_cons (noS_fl q6) (noL_cons (noS_fl q7) (noL_cons (noS_fl q8) (noL_cons (noS_fl q9) (noL_cons (noS_fl q10) (noL_cons (noS_fl q11) noL_nil))))))))).1
  exact (LayL.append (((K0.out.le F.below).mono (fun j x => x.1)).atz (by omega)) (LayL.append (((K1.out.le F.below).mono (fun j x => x.1)).atz (by omega)) (L2.out.leafs (noL_cons noS_int (noL_cons (noS_fl q5) (noL_cons (noS_fl q6) (noL_cons (noS_fl q7) (noL_cons (noS_fl q8) (noL_cons (noS_fl q9) (noL_cons (noS_fl q10) (noL_cons (noS_fl q11) noL_nil)))))))) _) a1_ b1_ d1) a0_ b0_ d0)
set_option maxRecDepth 100000 in
set_option maxHeartbeats 4000000 in
theorem heldU_Bow (B : Nat) (cs : List CD) (vs : List Value) (z : Int) (w : World) (hsh : ShOkL shBow cs) (hn : mtL cs ≤ 1048576) (hz : 0 ≤ z) (hz2 : z + (mtL cs : Nat) ≤ 16777216) (h : RdL w B (mkL cs z) vs) :
    Calls Try.prog 19 #[.agg vs.toArray, .int .i64 z] w fun e w' => e = .returned (.int .i64 (z + (mtL cs : Nat))) ∧ le w w' := by
  obtain ⟨c0, cs, rfl, q0, hsh⟩ := hsh.inv
  obtain ⟨c1, cs, rfl, q1, hsh⟩ := hsh.inv
  obtain ⟨c2, cs, rfl, q2, hsh⟩ := hsh.inv
  obtain ⟨c3, cs, rfl, q3, hsh⟩ := hsh.inv
  obtain ⟨c4, cs, rfl, q4, hsh⟩ := hsh.inv
  obtain ⟨c5, cs, rfl, q5, hsh⟩ := hsh.inv
  obtain ⟨c6, cs, rfl, q6, hsh⟩ := hsh.inv
  obtain ⟨c7, cs, rfl, q7, hsh⟩ := hsh.inv
  obtain ⟨c8, cs, rfl, q8, hsh⟩ := hsh.inv
  obtain ⟨c9, cs, rfl, q9, hsh⟩ := hsh.inv
  obtain ⟨c10, cs, rfl, q10, hsh⟩ := hsh.inv
  obtain ⟨c11, cs, rfl, q11, hsh⟩ := hsh.inv
  obtain rfl := hsh.inv0
  obtain ⟨z1, rfl⟩ := q1
  obtain ⟨z3, rfl⟩ := q3
  obtain ⟨z4, rfl⟩ := q4
  have q5 : c5.flk = some .f32 := q5
  have q6 : c6.flk = some .f32 := q6
  have q7 : c7.flk = some .f32 := q7
  have q8 : c8.flk = some .f32 := q8
  have q9 : c9.flk = some .f32 := q9
  have q10 : c10.flk = some .f32 := q10
  have q11 : c11.flk = some .f32 := q11
  obtain ⟨a0, ha0⟩ : ∃ a : Nat, a = mtL ([c0, .int .i64 z1] : List CD) := ⟨_, rfl⟩
  obtain ⟨a1, ha1⟩ : ∃ a : Nat, a = mtL ([c2, .int .i64 z3] : List CD) := ⟨_, rfl⟩
  have hs : mtL ([c0, .int .i64 z1, c2, .int .i64 z3, .int .i64 z4, c5, c6, c7, c8, c9, c10, c11] : List CD) = a0 + a1 := by
    rw [show ([c0, .int .i64 z1, c2, .int .i64 z3, .int .i64 z4, c5, c6, c7, c8, c9, c10, c11] : List CD) = ([c0, .int .i64 z1] : List CD) ++ ([c2, .int .i64 z3] : List CD) ++ ([.int .i64 z4, c5, c6, c7, c8, c9, c10, c11] : List CD) from rfl]
    simp only [mtL_append]
    have l2 := (mkL_leaf (cs := [.int .i64 z4, c5, c6, c7, c8, c9, c10, c11]) (noL_cons noS_int (noL_cons (noS_fl q5) (noL_cons (noS_fl q6) (noL_cons (noS_fl q7) (noL_cons (noS_fl q8) (noL_cons (noS_fl q9) (noL_cons (noS_fl q10) (noL_cons (noS_fl q11) noL_nil))))))))).1
    omega
  rw [hs] at hn hz2 ⊢
  have lf2 := (mkL_leaf (cs := [.int .i64 z4, c5, c6, c7, c8, c9, c10, c11]) (noL_cons noS_int (noL_cons (noS_fl q5) (noL_cons (noS_fl q6) (noL_cons (noS_fl q7) (noL_cons (noS_fl q8) (noL_cons (noS_fl q9) (noL_cons (noS_fl q10) (noL_cons (noS_fl q11) noL_nil))))))))).1
  rw [show ([c0, .int .i64 z1, c2, .int .i64 z3, .int .i64 z4, c5, c6, c7, c8, c9, c10, c11] : List CD) = (([c0, .int .i64 z1] : List CD) ++ (([c2, .int .i64 z3] : List CD) ++ ([.int .i64 z4, c5, c6, c7, c8, c9, c10, c11] : List CD))) from rfl] at h
  simp only [mkL_append] at h
  obtain ⟨g0, r0, rfl, l0, h0⟩ := h.split
  obtain ⟨g1, r1, rfl, l1, h1⟩ := h0.split
  have l2 := h1
  replace l0 := l0.atz (z' := z) (by omega)
  have L0 := hid l0
  simp only [mkL] at l0
  obtain ⟨v0, rr, rfl, e0, l0⟩ := l0.inv
  obtain ⟨v1, rr, rfl, e1, l0⟩ := l0.inv
  obtain rfl := l0.inv0
  obtain ⟨rfl, wf1⟩ := e1
  replace l1 := l1.atz (z' := (z + (a0 : Int))) (by omega)
  have L1 := hid l1
  simp only [mkL] at l1
  obtain ⟨v2, rr, rfl, e2, l1⟩ := l1.inv
  obtain ⟨v3, rr, rfl, e3, l1⟩ := l1.inv
  obtain rfl := l1.inv0
  obtain ⟨rfl, wf3⟩ := e3
  replace l2 := l2.leafs (noL_cons noS_int (noL_cons (noS_fl q5) (noL_cons (noS_fl q6) (noL_cons (noS_fl q7) (noL_cons (noS_fl q8) (noL_cons (noS_fl q9) (noL_cons (noS_fl q10) (noL_cons (noS_fl q11) noL_nil))))))))
  have L2 := hid l2
  obtain ⟨v4, rr, rfl, e4, l2⟩ := l2.inv
  obtain ⟨v5, rr, rfl, e5, l2⟩ := l2.inv
  obtain ⟨v6, rr, rfl, e6, l2⟩ := l2.inv
  obtain ⟨v7, rr, rfl, e7, l2⟩ := l2.inv
  obtain ⟨v8, rr, rfl, e8, l2⟩ := l2.inv
  obtain ⟨v9, rr, rfl, e9, l2⟩ := l2.inv
  obtain ⟨v10, rr, rfl, e10, l2⟩ := l2.inv
  obtain ⟨v11, rr, rfl, e11, l2⟩ := l2.inv
  obtain rfl := l2.inv0
  have F := (Frg.nil w).box 31 #[v0, .int .i64 z1, v2, .int .i64 z3, v4, v5, v6, v7, v8, v9, v10, v11]
  have hz_0 : ¬ ((z + (a0 : Int)) < 0) := by omega
  have hz_1 : ¬ (((z + (a0 : Int)) + (a1 : Int)) < 0) := by omega
  have M0 : ∀ (w1 : World), le w w1 → Calls Try.prog 70 #[.agg #[v0, .int .i64 z1], .int .i64 z] w1 fun e w2 => e = .returned (.int .i64 (z + (a0 : Int))) ∧ le w1 w2 := by
    intro w1 h
    rw [show (a0 : Int) = (mtL ([c0, .int .i64 z1] : List CD) : Nat) by rw [ha0]]
    exact heldU_Ring _ _ _ z _ (ShOkL.cons q0 (ShOkL.cons ⟨_, rfl⟩ (ShOkL.nil))) (by omega) (by omega) (by omega) (L0.out.le h)
  replace M0 := hid M0
  have M1 : ∀ (w1 : World), le w w1 → Calls Try.prog 70 #[.agg #[v2, .int .i64 z3], .int .i64 (z + (a0 : Int))] w1 fun e w2 => e = .returned (.int .i64 ((z + (a0 : Int)) + (a1 : Int))) ∧ le w1 w2 := by
    intro w1 h
    rw [show (a1 : Int) = (mtL ([c2, .int .i64 z3] : List CD) : Nat) by rw [ha1]]
    exact heldU_Ring _ _ _ (z + (a0 : Int)) _ (ShOkL.cons q2 (ShOkL.cons ⟨_, rfl⟩ (ShOkL.nil))) (by omega) (by omega) (by omega) (L1.out.le h)
  replace M1 := hid M1
  replace ha0 := hid ha0
  replace ha1 := hid ha1
  replace hs := hid hs
  go_enter Try.func19, Try.ntmps19
  go_wp2_with (first | ((with_reducible refine listN F ?_); clear F; intro wN F) | ((with_reducible refine at_load rfl ?_); first | (with_reducible refine wpList_loadGP F rfl rfl rfl (by first | exact m0 | exact m1 | exact m2) Try.underlying25 rfl [v0, .int .i64 z1] (partBow_Neck (v0) (.int .i64 z1) (v2) (.int .i64 z3) (v4) (v5) (v6) (v7) (v8) (v9) (v10) (v11)) uinfoRingI rfl ?_) | (with_reducible refine wpList_loadGP F rfl rfl rfl (by first | exact m0 | exact m1 | exact m2) Try.underlying25 rfl [v2, .int .i64 z3] (partBow_Bridge (v0) (.int .i64 z1) (v2) (.int .i64 z3) (v4) (v5) (v6) (v7) (v8) (v9) (v10) (v11)) uinfoRingI rfl ?_) | (with_reducible refine wpList_loadGP F rfl rfl rfl (by first | exact m0 | exact m1 | exact m2) Try.underlying29 rfl [v4, v5, v6, v7, v8, v9] (partBow_Damp (v0) (.int .i64 z1) (v2) (.int .i64 z3) (v4) (v5) (v6) (v7) (v8) (v9) (v10) (v11)) uinfoFilterI rfl ?_) | (with_reducible refine wpList_load1 F rfl rfl rfl (by first | exact m0 | exact m1 | exact m2) (f := 10) (v := v10) rfl ukindFloat32 ?_) | (with_reducible refine wpList_load1 F rfl rfl rfl (by first | exact m0 | exact m1 | exact m2) (f := 11) (v := v11) rfl ukindFloat32 ?_)) | (go_at_call 70; ((with_reducible refine (M0.out _ F.below).mono ?_); rintro e w1 ⟨rfl, hl⟩; replace F := F.le hl; clear hl)) | (go_at_call 70; ((with_reducible refine (M1.out _ F.below).mono ?_); rintro e w1 ⟨rfl, hl⟩; replace F := F.le hl; clear hl)))
  go_ret
  exact ⟨ret_i (by omega), F.below⟩
end Go.Proofs.Ytgjdmoenobacgaa
