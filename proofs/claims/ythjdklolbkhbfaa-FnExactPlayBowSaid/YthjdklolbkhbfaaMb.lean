/- Texts of the walk, laid in one file. -/
import Derived.Deep.OwnRows
import Derived.Test.YthjdklolbkhbfaaRows
import Derived.Handy
import Derived.Deep.Quiet
import Derived.Deep.QuietTactic
import Derived.BigQuiet
import Derived.Laws.Externs
import Derived.StillTail
import Derived.OwnWalk
import Derived.Test.YthjdklolbkhbfaaMa
set_option linter.unusedVariables false
set_option linter.unusedSimpArgs false
/- Data of any plain type, as trees: what a value and the memory behind it hold (Rd), and memory of one's own (Lay). Nothing here names a program. -/
namespace Go.Fk
open Go Go.RowKit
/-- A cell's datum: 'fcn' is a float up to the bits of NaN; 'sl wd n x' a slice of n elements of wd cells each. -/
inductive CD where
  | int (k : IntKind) (z : Int)
  | flt (k : FloatKind) (x : Nat)
  | fcn (k : FloatKind) (x : Nat)
  | bool (b : Bool)
  | str (s : ByteArray)
  | sl (wd n : Nat) (x : Nat → CD)
/-- What does not lead to memory. -/
def CD.leaf : CD → Value → Prop
  | .int k z, v => v = .int k z ∧ (Lit.int k z).wf = true
  | .flt k x, v => v = .float k x ∧ fits k x
  | .fcn k x, v => ∃ y, v = .float k y ∧ fits k y ∧ can k y = x
  | .bool b, v => v = .bool b
  | .str s, v => v = .string s ∧ s.size ≤ maxLen
  | .sl _ _ _, _ => False
/-- A value that is read: all that it leads to lies below B. -/
def CD.Rd (w : World) (B : Nat) : CD → Value → Prop
  | .int k z, v => CD.leaf (.int k z) v
  | .flt k x, v => CD.leaf (.flt k x) v
  | .fcn k x, v => CD.leaf (.fcn k x) v
  | .bool b, v => CD.leaf (.bool b) v
  | .str s, v => CD.leaf (.str s) v
  | .sl wd n x, v => (v = .slice none 0 0 ∧ n = 0) ∨ ∃ (a : Addr) (cap : Nat), v = .slice (some a) n cap ∧ n ≤ cap ∧ cap ≤ maxLen ∧ ∀ i, i < n * wd → a.block < B ∧ ∃ u, w.cell? (a.add i) = some u ∧ CD.Rd w B (x i) u
/-- A value that owns its memory, which lies in the blocks of S. -/
def CD.Lay (w : World) : CD → (Nat → Prop) → Value → Prop
  | .int k z, _, v => CD.leaf (.int k z) v
  | .flt k x, _, v => CD.leaf (.flt k x) v
  | .fcn k x, _, v => CD.leaf (.fcn k x) v
  | .bool b, _, v => CD.leaf (.bool b) v
  | .str s, _, v => CD.leaf (.str s) v
  | .sl wd n x, S, v => (v = .slice none 0 0 ∧ n = 0) ∨ ∃ (b o cap : Nat) (t : TypeId) (cs : Array Value), v = .slice (some ⟨b, o, none⟩) n cap ∧ n ≤ cap ∧ cap ≤ maxLen ∧ S b ∧ Row w b t cs ∧
      ∃ T : Nat → Nat → Prop, (∀ i j, T i j → S j ∧ j ≠ b) ∧ (∀ i i' j, T i j → T i' j → i = i') ∧ ∀ i, i < n * wd → ∃ u, cs[o + i]? = some u ∧ CD.Lay w (x i) (T i) u
theorem CD.leaf_one {c : CD} {v : Value} (h : c.leaf v) : v.oneCell' = true := by
  cases c with
  | int | flt | str => obtain ⟨rfl, _⟩ := h; rfl
  | fcn => obtain ⟨_, rfl, _⟩ := h; rfl
  | bool => obtain rfl := h; rfl
  | sl => exact h.elim
theorem CD.Rd.one {w : World} {B : Nat} {c : CD} {v : Value} (h : c.Rd w B v) : v.oneCell' = true := by
  cases c with
  | sl wd n x => rcases h with ⟨rfl, _⟩ | ⟨a, cap, rfl, _⟩ <;> rfl
  | _ => exact CD.leaf_one h
theorem CD.Lay.one {w : World} {S : Nat → Prop} {c : CD} {v : Value} (h : c.Lay w S v) : v.oneCell' = true := by
  cases c with
  | sl wd n x => rcases h with ⟨rfl, _⟩ | ⟨b, o, cap, t, cs, rfl, _⟩ <;> rfl
  | _ => exact CD.leaf_one h
theorem CD.Lay.mono {w : World} : ∀ {c : CD} {S S' : Nat → Prop} {v : Value}, c.Lay w S v → (∀ j, S j → S' j) → c.Lay w S' v := by
  intro c S S' v h hS
  cases c with
  | sl wd n x =>
    rcases h with h | ⟨b, o, cap, t, cs, h1, h2, h3, h4, h5, T, t1, t2, t3⟩
    · exact .inl h
    · exact .inr ⟨b, o, cap, t, cs, h1, h2, h3, hS _ h4, h5, T, fun i j hT => ⟨hS _ (t1 i j hT).1, (t1 i j hT).2⟩, t2, t3⟩
  | _ => exact h
/-- It stands while its blocks stand. -/
theorem CD.Lay.ok {w w' : World} : ∀ {c : CD} {S : Nat → Prop} {v : Value}, c.Lay w S v → (∀ j, S j → w'.heap[j]? = w.heap[j]?) → c.Lay w' S v := by
  intro c
  induction c with
  | sl wd n x ih =>
    intro S v h hS
    rcases h with h | ⟨b, o, cap, t, cs, h1, h2, h3, h4, h5, T, t1, t2, t3⟩
    · exact .inl h
    · refine .inr ⟨b, o, cap, t, cs, h1, h2, h3, h4, by unfold Row at *; rw [hS b h4]; exact h5, T, t1, t2, fun i hi => ?_⟩
      obtain ⟨u, hu, hl⟩ := t3 i hi
      exact ⟨u, hu, ih i hl (fun j hj => hS j (t1 i j hj).1)⟩
  | _ => intro S v h _; exact h
theorem CD.Lay.lt {w : World} {c : CD} {S : Nat → Prop} {v : Value} (h : c.Lay w S v) : c.Lay w (fun j => S j ∧ j < w.heap.size) v := by
  induction c generalizing S v with
  | sl wd n x ih =>
    rcases h with h | ⟨b, o, cap, t, cs, h1, h2, h3, h4, h5, T, t1, t2, t3⟩
    · exact .inl h
    · refine .inr ⟨b, o, cap, t, cs, h1, h2, h3, ⟨h4, h5.lt⟩, h5, fun i j => T i j ∧ j < w.heap.size, fun i j hT => ⟨⟨(t1 i j hT.1).1, hT.2⟩, (t1 i j hT.1).2⟩, fun i i' j a b => t2 i i' j a.1 b.1, fun i hi => ?_⟩
      obtain ⟨u, hu, hl⟩ := t3 i hi
      exact ⟨u, hu, ih i hl⟩
  | _ => exact h
theorem CD.Lay.le {w w' : World} {c : CD} {S : Nat → Prop} {v : Value} (h : c.Lay w S v) (hl : Fk.le w w') : c.Lay w' S v :=
  (h.lt.ok (fun j hj => hl.block j hj.2)).mono (fun j hj => hj.1)
theorem CD.Rd.mono {w : World} {B B' : Nat} (hB : B ≤ B') : ∀ {c : CD} {v : Value}, c.Rd w B v → c.Rd w B' v := by
  intro c
  induction c with
  | sl wd n x ih =>
    intro v h
    rcases h with h | ⟨a, cap, h1, h2, h3, h4⟩
    · exact .inl h
    · exact .inr ⟨a, cap, h1, h2, h3, fun i hi => by obtain ⟨h5, u, h6, h7⟩ := h4 i hi; exact ⟨by omega, u, h6, ih i h7⟩⟩
  | _ => intro v h; exact h
theorem cell_lt' {w : World} {p : Addr} {v : Value} (h : w.cell? p = some v) : p.block < w.heap.size := by
  apply Nat.lt_of_not_le
  intro hle
  have : w.heap[p.block]? = none := Array.getElem?_eq_none hle
  simp [World.cell?, this] at h
theorem CD.Rd.le {w w' : World} {B : Nat} (hl : Fk.le w w') : ∀ {c : CD} {v : Value}, c.Rd w B v → c.Rd w' B v := by
  intro c
  induction c with
  | sl wd n x ih =>
    intro v h
    rcases h with h | ⟨a, cap, h1, h2, h3, h4⟩
    · exact .inl h
    · exact .inr ⟨a, cap, h1, h2, h3, fun i hi => by obtain ⟨h5, u, h6, h7⟩ := h4 i hi; exact ⟨h5, u, (Below.cell hl (cell_lt' h6)).trans h6, ih i h7⟩⟩
  | _ => intro v h; exact h
/-- What one owns may be read. -/
theorem CD.Lay.rd {w : World} {B : Nat} : ∀ {c : CD} {S : Nat → Prop} {v : Value}, c.Lay w S v → (∀ j, S j → j < B) → c.Rd w B v := by
  intro c
  induction c with
  | sl wd n x ih =>
    intro S v h hS
    rcases h with h | ⟨b, o, cap, t, cs, h1, h2, h3, h4, h5, T, t1, t2, t3⟩
    · exact .inl h
    · refine .inr ⟨⟨b, o, none⟩, cap, h1, h2, h3, fun i hi => ?_⟩
      obtain ⟨u, hu, hl⟩ := t3 i hi
      exact ⟨hS b h4, u, by rw [add_none]; exact (h5.cell? (o + i)).trans hu, ih i hl (fun j hj => hS j (t1 i j hj).1)⟩
  | _ => intro S v h _; exact h
/-- The same data, where they count. -/
def CD.Eqv : CD → CD → Prop
  | .sl wd n x, d => ∃ y, d = .sl wd n y ∧ ∀ i, i < n * wd → CD.Eqv (x i) (y i)
  | c, d => c = d
theorem CD.Eqv.refl : ∀ c : CD, c.Eqv c := by
  intro c
  induction c with
  | sl wd n x ih => exact ⟨x, rfl, fun i _ => ih i⟩
  | _ => rfl
theorem CD.Rd.congr {w : World} {B : Nat} : ∀ {c d : CD} {v : Value}, c.Rd w B v → c.Eqv d → d.Rd w B v := by
  intro c
  induction c with
  | sl wd n x ih =>
    intro d v h he
    obtain ⟨y, rfl, hy⟩ := he
    rcases h with h | ⟨a, cap, h1, h2, h3, h4⟩
    · exact .inl h
    · exact .inr ⟨a, cap, h1, h2, h3, fun i hi => by obtain ⟨h5, u, h6, h7⟩ := h4 i hi; exact ⟨h5, u, h6, ih i h7 (hy i hi)⟩⟩
  | _ => intro d v h he; cases he; exact h
theorem CD.Lay.congr {w : World} : ∀ {c d : CD} {S : Nat → Prop} {v : Value}, c.Lay w S v → c.Eqv d → d.Lay w S v := by
  intro c
  induction c with
  | sl wd n x ih =>
    intro d S v h he
    obtain ⟨y, rfl, hy⟩ := he
    rcases h with h | ⟨b, o, cap, t, cs, h1, h2, h3, h4, h5, T, t1, t2, t3⟩
    · exact .inl h
    · exact .inr ⟨b, o, cap, t, cs, h1, h2, h3, h4, h5, T, t1, t2, fun i hi => by obtain ⟨u, hu, hl⟩ := t3 i hi; exact ⟨u, hu, ih i hl (hy i hi)⟩⟩
  | _ => intro d S v h he; cases he; exact h

/-- Several cells that are read. -/
def RdL (w : World) (B : Nat) (cs : List CD) (vs : List Value) : Prop := vs.length = cs.length ∧ ∀ (i : Nat) (v : Value) (c : CD), vs[i]? = some v → cs[i]? = some c → c.Rd w B v
/-- Several cells that own their memory, each apart from the others. -/
def LayL (w : World) (S : Nat → Prop) (cs : List CD) (vs : List Value) : Prop := vs.length = cs.length ∧ ∃ T : Nat → Nat → Prop, (∀ i j, T i j → S j) ∧ (∀ i i' j, T i j → T i' j → i = i') ∧ ∀ (i : Nat) (v : Value) (c : CD), vs[i]? = some v → cs[i]? = some c → c.Lay w (T i) v
theorem LayL.ok {w w' : World} {S : Nat → Prop} {cs : List CD} {vs : List Value} (h : LayL w S cs vs) (hS : ∀ j, S j → w'.heap[j]? = w.heap[j]?) : LayL w' S cs vs := by
  obtain ⟨h0, T, t1, t2, t3⟩ := h
  exact ⟨h0, T, t1, t2, fun i v c hv hc => (t3 i v c hv hc).ok (fun j hj => hS j (t1 i j hj))⟩
theorem LayL.le {w w' : World} {S : Nat → Prop} {cs : List CD} {vs : List Value} (h : LayL w S cs vs) (hl : Fk.le w w') : LayL w' S cs vs := by
  obtain ⟨h0, T, t1, t2, t3⟩ := h
  exact ⟨h0, T, t1, t2, fun i v c hv hc => (t3 i v c hv hc).le hl⟩
theorem LayL.mono {w : World} {S S' : Nat → Prop} {cs : List CD} {vs : List Value} (h : LayL w S cs vs) (hS : ∀ j, S j → S' j) : LayL w S' cs vs := by
  obtain ⟨h0, T, t1, t2, t3⟩ := h
  exact ⟨h0, T, fun i j hj => hS j (t1 i j hj), t2, t3⟩
theorem LayL.rd {w : World} {B : Nat} {S : Nat → Prop} {cs : List CD} {vs : List Value} (h : LayL w S cs vs) (hS : ∀ j, S j → j < B) : RdL w B cs vs := by
  obtain ⟨h0, T, t1, t2, t3⟩ := h
  exact ⟨h0, fun i v c hv hc => (t3 i v c hv hc).rd (fun j hj => hS j (t1 i j hj))⟩
theorem RdL.le {w w' : World} {B : Nat} {cs : List CD} {vs : List Value} (h : RdL w B cs vs) (hl : Fk.le w w') : RdL w' B cs vs := ⟨h.1, fun i v c hv hc => (h.2 i v c hv hc).le hl⟩
theorem RdL.mono {w : World} {B B' : Nat} {cs : List CD} {vs : List Value} (h : RdL w B cs vs) (hB : B ≤ B') : RdL w B' cs vs := ⟨h.1, fun i v c hv hc => (h.2 i v c hv hc).mono hB⟩
theorem RdL.nil (w : World) (B : Nat) : RdL w B [] [] := ⟨rfl, fun i v c hv => by simp at hv⟩
theorem RdL.cons {w : World} {B : Nat} {c : CD} {v : Value} {cs : List CD} {vs : List Value} (h : c.Rd w B v) (hs : RdL w B cs vs) : RdL w B (c :: cs) (v :: vs) :=
  ⟨by simp [hs.1], fun i v' c' hv hc => by
    cases i with
    | zero => simp at hv hc; subst hv hc; exact h
    | succ i => simp at hv hc; exact hs.2 i v' c' hv hc⟩
theorem RdL.inv {w : World} {B : Nat} {c : CD} {cs : List CD} {vs : List Value} (h : RdL w B (c :: cs) vs) : ∃ v vs', vs = v :: vs' ∧ c.Rd w B v ∧ RdL w B cs vs' := by
  obtain ⟨h0, h1⟩ := h
  cases vs with
  | nil => simp at h0
  | cons v vs => exact ⟨v, vs, rfl, h1 0 v c rfl rfl, by simpa using h0, fun i v' c' hv hc => h1 (i + 1) v' c' (by simpa using hv) (by simpa using hc)⟩
theorem RdL.inv0 {w : World} {B : Nat} {vs : List Value} (h : RdL w B [] vs) : vs = [] := by
  have := h.1
  cases vs with
  | nil => rfl
  | cons => simp at this
theorem LayL.nil (w : World) (S : Nat → Prop) : LayL w S [] [] := ⟨rfl, fun _ _ => False, fun _ _ h => h.elim, fun _ _ _ h => h.elim, fun i v c hv => by simp at hv⟩
/-- One cell more, of blocks apart from those of the others. -/
theorem LayL.cons {w : World} {S S1 S2 : Nat → Prop} {c : CD} {v : Value} {cs : List CD} {vs : List Value} (h : c.Lay w S1 v) (hs : LayL w S2 cs vs) (h1 : ∀ j, S1 j → S j) (h2 : ∀ j, S2 j → S j) (h3 : ∀ j, S1 j → S2 j → False) : LayL w S (c :: cs) (v :: vs) := by
  obtain ⟨h0, T, t1, t2, t3⟩ := hs
  refine ⟨by simp [h0], fun i => match i with | 0 => S1 | i + 1 => T i, fun i j => ?_, fun i i' j => ?_, fun i v' c' hv hc => ?_⟩
  · cases i with
    | zero => exact fun h => h1 j h
    | succ i => exact fun h => h2 j (t1 i j h)
  · cases i with
    | zero => cases i' with
      | zero => exact fun _ _ => rfl
      | succ i' => exact fun a b => (h3 j a (t1 i' j b)).elim
    | succ i => cases i' with
      | zero => exact fun a b => (h3 j b (t1 i j a)).elim
      | succ i' => exact fun a b => by rw [t2 i i' j a b]
  · cases i with
    | zero => simp at hv hc; subst hv hc; exact h
    | succ i => simp at hv hc; exact t3 i v' c' hv hc
theorem LayL.leaf {w : World} {S : Nat → Prop} {c : CD} {v : Value} {cs : List CD} {vs : List Value} (h : c.Lay w (fun _ => False) v) (hs : LayL w S cs vs) : LayL w S (c :: cs) (v :: vs) :=
  LayL.cons h hs (fun _ h => h.elim) (fun _ h => h) (fun _ h _ => h)
theorem LayL.inv {w : World} {S : Nat → Prop} {c : CD} {cs : List CD} {vs : List Value} (h : LayL w S (c :: cs) vs) : ∃ v vs' S1 S2, vs = v :: vs' ∧ c.Lay w S1 v ∧ LayL w S2 cs vs' ∧ (∀ j, S1 j → S j) ∧ (∀ j, S2 j → S j) ∧ (∀ j, S1 j → S2 j → False) := by
  obtain ⟨h0, T, t1, t2, t3⟩ := h
  cases vs with
  | nil => simp at h0
  | cons v vs =>
    refine ⟨v, vs, T 0, fun j => ∃ i, T (i + 1) j, rfl, t3 0 v c rfl rfl, ⟨by simpa using h0, fun i => T (i + 1), fun i j h => ⟨i, h⟩, fun i i' j a b => by have := t2 _ _ j a b; omega, fun i v' c' hv hc => t3 (i + 1) v' c' (by simpa using hv) (by simpa using hc)⟩, t1 0, fun j ⟨i, h⟩ => t1 _ j h, fun j a ⟨i, b⟩ => by have := t2 _ _ j a b; omega⟩
theorem LayL.inv0 {w : World} {S : Nat → Prop} {vs : List Value} (h : LayL w S [] vs) : vs = [] := by
  have := h.1
  cases vs with
  | nil => rfl
  | cons => simp at this
/-- The fact. -/
def layF (lo hi : Nat) (cs : List CD) (vs : List Value) : Fact := ⟨lo, hi, fun w => LayL w (rng lo hi) cs vs, fun _ _ h hk => h.ok (fun j hj => hk j hj.1 hj.2)⟩
theorem Frg.lay1 {w0 w w' : World} {L : List Fact} (h : Frg w0 w L) (k : Below w.heap.size w w') {cs : List CD} {vs : List Value} (he : LayL w' (rng w.heap.size w'.heap.size) cs vs) : Frg w0 w' (layF w.heap.size w'.heap.size cs vs :: L) :=
  h.push k he (Nat.le_refl _) (Nat.le_refl _)
theorem Frg.lay {w0 w : World} {L : List Fact} (h : Frg w0 w L) {lo hi : Nat} {cs : List CD} {vs : List Value} (hm : layF lo hi cs vs ∈ L) : LayL w (rng lo hi) cs vs := (h.facts _ hm).2.2
theorem Frg.layR {w0 w : World} {L : List Fact} (h : Frg w0 w L) {lo hi : Nat} {cs : List CD} {vs : List Value} (hm : layF lo hi cs vs ∈ L) : RdL w hi cs vs := (h.lay hm).rd (fun _ hj => hj.2)
/-- Slices of floats. -/
theorem RdS.cd {w : World} {B : Nat} {s : Value} {x : Nat → Nat} {n : Nat} (h : RdS w B s x n) : (CD.sl 1 n (fun i => .fcn .f32 (x i))).Rd w B s := by
  rcases h with h | ⟨a, cap, h1, h2, h3, h4⟩
  · exact .inl h
  · exact .inr ⟨a, cap, h1, h2, h3, fun i hi => by obtain ⟨h5, y, e1, e2, e3⟩ := h4 i (by simpa using hi); exact ⟨h5, _, e1, y, rfl, e2, e3⟩⟩
theorem CD.Rd.rds {w : World} {B : Nat} {s : Value} {x : Nat → Nat} {n : Nat} (h : (CD.sl 1 n (fun i => .fcn .f32 (x i))).Rd w B s) : RdS w B s x n := by
  rcases h with h | ⟨a, cap, h1, h2, h3, h4⟩
  · exact .inl h
  · refine .inr ⟨a, cap, h1, h2, h3, fun i hi => ?_⟩
    obtain ⟨h5, u, h6, y, rfl, e2, e3⟩ := h4 i (by simpa using hi)
    exact ⟨h5, y, h6, e2, e3⟩
theorem CD.Rd.rdx {w : World} {B : Nat} {s : Value} {x : Nat → Nat} {n : Nat} (h : (CD.sl 1 n (fun i => .flt .f32 (x i))).Rd w B s) : RdS w B s (fun i => can .f32 (x i)) n := by
  rcases h with h | ⟨a, cap, h1, h2, h3, h4⟩
  · exact .inl h
  · refine .inr ⟨a, cap, h1, h2, h3, fun i hi => ?_⟩
    obtain ⟨h5, u, h6, rfl, e2⟩ := h4 i (by simpa using hi)
    exact ⟨h5, x i, h6, e2, rfl⟩
theorem OwnS.lay {w : World} {lo hi : Nat} {s : Value} {x : Nat → Nat} {n : Nat} (h : OwnS w lo hi s x n) : (CD.sl 1 n (fun i => .fcn .f32 (x i))).Lay w (rng lo hi) s := by
  rcases h with h | ⟨b, o, cap, cs, h1, h2, h3, h4, h5, h6, h7⟩
  · exact .inl h
  · exact .inr ⟨b, o, cap, _, cs, h1, h2, h3, ⟨h4, h5⟩, h6, fun _ _ => False, fun _ _ h => h.elim, fun _ _ _ h => h.elim, fun i hi => by
      obtain ⟨y, e1, e2, e3⟩ := h7 i (by simpa using hi); exact ⟨_, e1, y, rfl, e2, e3⟩⟩
end Go.Fk

/- How an argument that is a struct of a ring, two filters and a float is opened. Nothing here names a program. -/
namespace Go.Fk
open Go Go.RowKit Go.ChangeShapes
section
variable {H : Type} {enc : TypeId × Value → H} {P : Program} {w : World} {base : Nat} {spare : Nat → Bool} {held : Bool}
theorem trod_ring {t t0 t1 e : TypeId} {f0 f1 : Field} {fuel : Nat} {cs : List Value} {x : DataW H × List MemPlace} (ht : P.underlying t = some (.struct #[f0, f1]))
    (e0 : (f0.type, f0.offset) = (t0, 0)) (e1 : (f1.type, f1.offset) = (t1, 1))
    (h0 : P.underlying t0 = some (.slice e)) (h1 : P.underlying t1 = some (.int .i64)) (he : P.underlying e = some (.float .f32))
    (c0 : P.cellsOf t0 = 1) (c1 : P.cellsOf t1 = 1) (ce : P.cellsOf e = 1) (ct : P.cellsOf t = 2) (hf : DataW.trod enc P w base spare held fuel t cs = some x) :
    ∃ (s : Value) (f : Nat → Nat) (n : Nat) (k : Int), cs = [s, .int .i64 k] ∧ (Lit.int .i64 k).wf = true ∧ SlIn w s f n := by
  obtain ⟨xs, m, _, _, hlen, hl, hi⟩ := DataW.trod_struct ht hf
  simp only [Prod.mk.injEq] at e0 e1
  have g0 := hi 0 f0 rfl
  have g1 := hi 1 f1 rfl
  rw [e0.1, e0.2, c0] at g0
  rw [e1.1, e1.2, c1] at g1
  rw [List.getElem?_eq_getElem (by simp_all)] at g0 g1
  have hlen : cs.length = 2 := hlen.trans ct
  match cs, hlen with
  | [v0, v1], _ =>
    simp only [List.drop_zero, List.drop_succ_cons, List.take_succ_cons, List.take_zero] at g0 g1
    obtain ⟨s, f, n, hs, hsl⟩ := trod_fslice h0 he ce g0
    obtain ⟨k, rfl, hk⟩ := trod_int_cell h1 g1
    simp only [List.cons.injEq, and_true] at hs
    subst hs
    exact ⟨_, f, n, k, rfl, hk, hsl⟩
theorem trod_filter {t t0 t1 t2 e : TypeId} {f0 f1 f2 : Field} {fuel : Nat} {cs : List Value} {x : DataW H × List MemPlace} (ht : P.underlying t = some (.struct #[f0, f1, f2]))
    (e0 : (f0.type, f0.offset) = (t0, 0)) (e1 : (f1.type, f1.offset) = (t1, 1)) (e2 : (f2.type, f2.offset) = (t2, 4))
    (h0 : P.underlying t0 = some (.int .i64)) (h1 : P.underlying t1 = some (.array 3 e)) (h2 : P.underlying t2 = some (.array 2 e)) (he : P.underlying e = some (.float .f32))
    (c0 : P.cellsOf t0 = 1) (c1 : P.cellsOf t1 = 3) (c2 : P.cellsOf t2 = 2) (ce : P.cellsOf e = 1) (ct : P.cellsOf t = 6) (hf : DataW.trod enc P w base spare held fuel t cs = some x) :
    ∃ (k : Int) (a b c x y : Nat), cs = [.int .i64 k, .float .f32 a, .float .f32 b, .float .f32 c, .float .f32 x, .float .f32 y] ∧ (Lit.int .i64 k).wf = true ∧ fits .f32 a ∧ fits .f32 b ∧ fits .f32 c ∧ fits .f32 x ∧ fits .f32 y := by
  obtain ⟨xs, m, _, _, hlen, hl, hi⟩ := DataW.trod_struct ht hf
  simp only [Prod.mk.injEq] at e0 e1 e2
  have g0 := hi 0 f0 rfl
  have g1 := hi 1 f1 rfl
  have g2 := hi 2 f2 rfl
  rw [e0.1, e0.2, c0] at g0
  rw [e1.1, e1.2, c1] at g1
  rw [e2.1, e2.2, c2] at g2
  rw [List.getElem?_eq_getElem (by simp_all)] at g0 g1 g2
  have hlen : cs.length = 6 := hlen.trans ct
  obtain ⟨l1, q1, n1, p1⟩ := trod_farr h1 he ce c1 g1
  obtain ⟨l2, q2, n2, p2⟩ := trod_farr h2 he ce c2 g2
  match cs, hlen, l1, n1, l2, n2 with
  | [v0, v1, v2, v3, v4, v5], _, [a, b, c], _, [x, y], _ =>
    simp only [List.drop_zero, List.drop_succ_cons, List.take_succ_cons, List.take_zero, List.map_cons, List.map_nil, List.cons.injEq, and_true] at q1 q2 g0
    obtain ⟨rfl, rfl, rfl⟩ := q1
    obtain ⟨rfl, rfl⟩ := q2
    obtain ⟨k, rfl, hk⟩ := trod_int_cell h0 g0
    exact ⟨k, a, b, c, x, y, rfl, hk, p1 _ (by simp), p1 _ (by simp), p1 _ (by simp), p2 _ (by simp), p2 _ (by simp)⟩
theorem open_str {r : Reach} {b0 : Nat} {t tr tf te : TypeId} {f0 f1 f2 f3 : Field} {v : Value} {d : DataW H} {ps : List MemPlace} (ht : P.underlying t = some (.struct #[f0, f1, f2, f3]))
    (e0 : (f0.type, f0.offset) = (tr, 0)) (e1 : (f1.type, f1.offset) = (tf, 2)) (e2 : (f2.type, f2.offset) = (tf, 8)) (e3 : (f3.type, f3.offset) = (te, 14))
    (hr : ∀ fuel cs (x : DataW H × List MemPlace), DataW.trod enc P w base spare held fuel tr cs = some x → ∃ (s : Value) (f : Nat → Nat) (n : Nat) (k : Int), cs = [s, .int .i64 k] ∧ (Lit.int .i64 k).wf = true ∧ SlIn w s f n)
    (hfil : ∀ fuel cs (x : DataW H × List MemPlace), DataW.trod enc P w base spare held fuel tf cs = some x → ∃ (k : Int) (a b c x y : Nat), cs = [.int .i64 k, .float .f32 a, .float .f32 b, .float .f32 c, .float .f32 x, .float .f32 y] ∧ (Lit.int .i64 k).wf = true ∧ fits .f32 a ∧ fits .f32 b ∧ fits .f32 c ∧ fits .f32 x ∧ fits .f32 y)
    (he : P.underlying te = some (.float .f32)) (cr : P.cellsOf tr = 2) (cf : P.cellsOf tf = 6) (ce : P.cellsOf te = 1) (ct : P.cellsOf t = 15)
    (hval : Value.okWide P w r b0 t v) (hd : DataW.Trod enc P w base spare held t v d ps) :
    ∃ (s : Value) (f : Nat → Nat) (n : Nat) (k tk : Int) (ta tb tc tx ty : Nat) (dk : Int) (da db dc dx dy l : Nat), v = .agg #[s, .int .i64 k, .int .i64 tk, .float .f32 ta, .float .f32 tb, .float .f32 tc, .float .f32 tx, .float .f32 ty, .int .i64 dk, .float .f32 da, .float .f32 db, .float .f32 dc, .float .f32 dx, .float .f32 dy, .float .f32 l] ∧
      ((Lit.int .i64 k).wf = true ∧ (Lit.int .i64 tk).wf = true ∧ fits .f32 ta ∧ fits .f32 tb ∧ fits .f32 tc ∧ fits .f32 tx ∧ fits .f32 ty ∧ (Lit.int .i64 dk).wf = true ∧ fits .f32 da ∧ fits .f32 db ∧ fits .f32 dc ∧ fits .f32 dx ∧ fits .f32 dy ∧ fits .f32 l) ∧ SlIn w s f n := by
  simp only [Value.okWide, ht] at hval
  obtain ⟨cs, rfl, hsz, _⟩ := hval
  obtain ⟨fuel, hf⟩ := hd
  simp only [Value.cells] at hf
  obtain ⟨xs, m, _, _, hlen, hl, hi⟩ := DataW.trod_struct ht hf
  simp only [Prod.mk.injEq] at e0 e1 e2 e3
  have g0 := hi 0 f0 rfl
  have g1 := hi 1 f1 rfl
  have g2 := hi 2 f2 rfl
  have g3 := hi 3 f3 rfl
  rw [e0.1, e0.2, cr] at g0
  rw [e1.1, e1.2, cf] at g1
  rw [e2.1, e2.2, cf] at g2
  rw [e3.1, e3.2, ce] at g3
  rw [List.getElem?_eq_getElem (by simp_all)] at g0 g1 g2 g3
  have hlen : cs.toList.length = 15 := hlen.trans ct
  obtain ⟨s, f, n, k, q0, w0, z0⟩ := hr _ _ _ g0
  obtain ⟨tk, ta, tb, tc, tx, ty, q1, w1⟩ := hfil _ _ _ g1
  obtain ⟨dk, da, db, dc, dx, dy, q2, w2⟩ := hfil _ _ _ g2
  obtain ⟨l⟩ := cs
  simp only at *
  match l, hlen with
  | [v0, v1, v2, v3, v4, v5, v6, v7, v8, v9, v10, v11, v12, v13, v14], _ =>
    simp only [List.drop_zero, List.drop_succ_cons, List.take_succ_cons, List.take_zero, List.cons.injEq, and_true] at q0 q1 q2 g3
    obtain ⟨rfl, rfl⟩ := q0
    obtain ⟨rfl, rfl, rfl, rfl, rfl, rfl⟩ := q1
    obtain ⟨rfl, rfl, rfl, rfl, rfl, rfl⟩ := q2
    obtain ⟨lo, rfl, hlo⟩ := trod_float_cell he g3
    exact ⟨_, f, n, k, tk, ta, tb, tc, tx, ty, dk, da, db, dc, dx, dy, lo, rfl, ⟨w0, w1.1, w1.2.1, w1.2.2.1, w1.2.2.2.1, w1.2.2.2.2.1, w1.2.2.2.2.2, w2.1, w2.2.1, w2.2.2.1, w2.2.2.2.1, w2.2.2.2.2.1, w2.2.2.2.2.2, hlo⟩, z0⟩
end
end Go.Fk

/- An argument of any plain type, opened to a tree. Nothing here names a program. -/
namespace Go.Fk
open Go Go.RowKit Go.ChangeShapes
/-- A cell's kind. -/
inductive Sh where
  | int (k : IntKind)
  | flt (k : FloatKind)
  | bool
  | str
  | sl (wd : Nat) (e : Nat → Sh)
/-- A datum of that kind. -/
def HasSh : Sh → CD → Prop
  | .int k, c => ∃ z, c = .int k z
  | .flt k, c => ∃ x, c = .flt k x
  | .bool, c => ∃ b, c = .bool b
  | .str, c => ∃ s, c = .str s
  | .sl wd e, c => ∃ n x, c = .sl wd n x ∧ ∀ i, i < n → ∀ j, j < wd → HasSh (e j) (x (i * wd + j))
section
variable {H : Type} (enc : TypeId × Value → H) (P : Program) (w : World) (base : Nat) (spare : Nat → Bool) (held : Bool)
/-- Whatever is read at the type t has cells of these kinds. -/
def Opens (t : TypeId) (l : List Sh) : Prop := P.cellsOf t = l.length ∧ ∀ fuel cs (x : DataW H × List MemPlace), DataW.trod enc P w base spare held fuel t cs = some x → cs.length = l.length ∧ ∀ (j : Nat) (v : Value) (s : Sh), cs[j]? = some v → l[j]? = some s → ∃ c, HasSh s c ∧ CD.Rd w w.heap.size c v
def FldO : List Field → Nat → List Sh → Prop
  | [], _, l => l = []
  | f :: fs, off, l => ∃ l1 l2, l = l1 ++ l2 ∧ f.offset = off ∧ Opens enc P w base spare held f.type l1 ∧ FldO fs (off + l1.length) l2
variable {enc P w base spare held}
theorem opens_one {t : TypeId} {s : Sh} (hc : P.cellsOf t = 1) (h : ∀ fuel cs (x : DataW H × List MemPlace), DataW.trod enc P w base spare held fuel t cs = some x → ∃ v c, cs = [v] ∧ HasSh s c ∧ CD.Rd w w.heap.size c v) : Opens enc P w base spare held t [s] := by
  refine ⟨hc, fun fuel cs x hx => ?_⟩
  obtain ⟨v, c, rfl, h1, h2⟩ := h fuel cs x hx
  refine ⟨rfl, fun j v' s' hv hs => ?_⟩
  cases j with
  | zero => simp at hv hs; subst hv hs; exact ⟨c, h1, h2⟩
  | succ j => simp at hv
theorem opens_int {t : TypeId} {k : IntKind} (ht : P.underlying t = some (.int k)) (hc : P.cellsOf t = 1) : Opens enc P w base spare held t [.int k] :=
  opens_one hc (fun fuel cs x h => by
    cases fuel with
    | zero => simp [DataW.trod] at h
    | succ m =>
      rcases cs with _ | ⟨v, _ | ⟨v2, cs⟩⟩
      · simp [DataW.trod, ht] at h
      · cases v <;> simp [DataW.trod, ht] at h
        obtain ⟨⟨rfl, h1⟩, _⟩ := h; exact ⟨_, .int _ _, rfl, ⟨_, rfl⟩, rfl, by simpa [Lit.wf] using h1⟩
      · simp [DataW.trod, ht] at h)
theorem opens_flt {t : TypeId} {k : FloatKind} (ht : P.underlying t = some (.float k)) (hc : P.cellsOf t = 1) : Opens enc P w base spare held t [.flt k] :=
  opens_one hc (fun fuel cs x h => by
    cases fuel with
    | zero => simp [DataW.trod] at h
    | succ m =>
      rcases cs with _ | ⟨v, _ | ⟨v2, cs⟩⟩
      · simp [DataW.trod, ht] at h
      · cases v <;> simp [DataW.trod, ht] at h
        obtain ⟨⟨rfl, h1⟩, _⟩ := h; exact ⟨_, .flt _ _, rfl, ⟨_, rfl⟩, rfl, h1⟩
      · simp [DataW.trod, ht] at h)
theorem opens_bool {t : TypeId} (ht : P.underlying t = some .bool) (hc : P.cellsOf t = 1) : Opens enc P w base spare held t [.bool] :=
  opens_one hc (fun fuel cs x h => by
    cases fuel with
    | zero => simp [DataW.trod] at h
    | succ m =>
      rcases cs with _ | ⟨v, _ | ⟨v2, cs⟩⟩
      · simp [DataW.trod, ht] at h
      · cases v <;> simp [DataW.trod, ht] at h
        exact ⟨_, .bool _, rfl, ⟨_, rfl⟩, rfl⟩
      · simp [DataW.trod, ht] at h)
theorem opens_str {t : TypeId} (ht : P.underlying t = some .string) (hc : P.cellsOf t = 1) : Opens enc P w base spare held t [.str] :=
  opens_one hc (fun fuel cs x h => by
    cases fuel with
    | zero => simp [DataW.trod] at h
    | succ m =>
      rcases cs with _ | ⟨v, _ | ⟨v2, cs⟩⟩
      · simp [DataW.trod, ht] at h
      · cases v <;> simp [DataW.trod, ht] at h
        exact ⟨_, .str _, rfl, ⟨_, rfl⟩, rfl, h.1⟩
      · simp [DataW.trod, ht] at h)
theorem opens_slice {t e : TypeId} {l : List Sh} (ht : P.underlying t = some (.slice e)) (hc : P.cellsOf t = 1) (he : Opens enc P w base spare held e l) : Opens enc P w base spare held t [.sl l.length (fun j => l.getD j .bool)] :=
  opens_one hc (fun fuel cs x h => by
    rcases Go.Deep.open_slice ht h with ⟨rfl, _⟩ | ⟨a, len, cap, m, n, D, Pl, rfl, hb, hl, hm, hmm, _, hx⟩
    · exact ⟨_, .sl l.length 0 (fun _ => .bool false), rfl, ⟨0, _, rfl, fun i hi => absurd hi (by omega)⟩, .inl ⟨rfl, rfl⟩⟩
    · have hle : len ≤ m := by rw [hmm]; split <;> omega
      have key : ∀ q, ∃ c, q < len * l.length → (HasSh (l.getD (q % l.length) .bool) c ∧ ∃ u, w.cell? (a.add q) = some u ∧ CD.Rd w w.heap.size c u) := fun q => by
        by_cases hq : q < len * l.length
        · have hpos : 0 < l.length := by rcases Nat.eq_zero_or_pos l.length with h0 | h0; (rw [h0] at hq; simp at hq); exact h0
          obtain ⟨cs', h1, h2⟩ := hx (q / l.length) (Nat.lt_of_lt_of_le (Nat.div_lt_of_lt_mul (by rw [Nat.mul_comm]; exact hq)) hle)
          obtain ⟨_, h3, h4⟩ := World.cells?_some h1
          rw [he.1] at h3 h4
          have hr := Nat.mod_lt q hpos
          obtain ⟨_, h5⟩ := he.2 _ _ _ h2
          have h6 := h4 (q % l.length) hr
          rw [Go.Deep.add_add, Nat.div_add_mod' q l.length] at h6
          obtain ⟨c, h7, h8⟩ := h5 (q % l.length) (cs'[q % l.length]'(by omega)) (l[q % l.length]'hr) (List.getElem?_eq_getElem (by omega)) (List.getElem?_eq_getElem hr)
          refine ⟨c, fun _ => ⟨?_, _, h6.trans (List.getElem?_eq_getElem (by omega)), h8⟩⟩
          rw [List.getD, List.getElem?_eq_getElem hr]; exact h7
        · exact ⟨.bool false, fun h => absurd h hq⟩
      obtain ⟨X, hX⟩ := Classical.skolem.1 key
      refine ⟨_, .sl l.length len X, rfl, ⟨len, X, rfl, fun i hi j hj => ?_⟩, .inr ⟨a, cap, rfl, hl, hm, fun q hq => ?_⟩⟩
      · have hlt : i * l.length + j < len * l.length := Nat.lt_of_lt_of_le (Nat.add_lt_add_left hj _) (by rw [← Nat.succ_mul]; exact Nat.mul_le_mul_right _ hi)
        have := (hX _ hlt).1
        rwa [Nat.mul_comm i, Nat.mul_add_mod, Nat.mod_eq_of_lt hj, Nat.mul_comm] at this
      · obtain ⟨u, h1, h2⟩ := (hX q hq).2
        refine ⟨?_, u, h1, h2⟩
        have := cell_lt' h1
        rwa [add_block] at this)
theorem fldO_at : ∀ (fs : List Field) (off : Nat) (l : List Sh), FldO enc P w base spare held fs off l → ∀ j, j < l.length → ∃ (i : Nat) (f : Field) (l1 : List Sh) (k : Nat), fs[i]? = some f ∧ Opens enc P w base spare held f.type l1 ∧ f.offset + k = off + j ∧ k < l1.length ∧ l[j]? = l1[k]? := by
  intro fs
  induction fs with
  | nil => intro off l h j hj; simp only [FldO] at h; subst h; simp at hj
  | cons f fs ih =>
    intro off l h j hj
    obtain ⟨l1, l2, rfl, h1, h2, h3⟩ := h
    by_cases hlt : j < l1.length
    · exact ⟨0, f, l1, j, rfl, h2, by omega, hlt, by rw [List.getElem?_append_left hlt]⟩
    · obtain ⟨i, f', l', k, e1, e2, e3, e4, e5⟩ := ih _ _ h3 (j - l1.length) (by simp at hj; omega)
      exact ⟨i + 1, f', l', k, by simpa using e1, e2, by omega, e4, by rw [List.getElem?_append_right (by omega)]; exact e5⟩
theorem opens_struct {t : TypeId} {fs : Array Field} {l : List Sh} (ht : P.underlying t = some (.struct fs)) (hc : P.cellsOf t = l.length) (hf : FldO enc P w base spare held fs.toList 0 l) : Opens enc P w base spare held t l := by
  refine ⟨hc, fun fuel cs x h => ?_⟩
  obtain ⟨xs, m, _, _, hlen, hl, hi⟩ := DataW.trod_struct ht h
  refine ⟨hlen.trans hc, fun j v s hv hs => ?_⟩
  have hj : j < l.length := (List.getElem?_eq_some_iff.1 hs).1
  obtain ⟨i, f, l1, k, e1, e2, e3, e4, e5⟩ := fldO_at _ _ _ hf j hj
  have hi1 : i < xs.length := by rw [hl]; have := (List.getElem?_eq_some_iff.1 e1).1; simpa using this
  have hif := hi i f (by simpa using e1)
  rw [List.getElem?_eq_getElem hi1] at hif
  obtain ⟨_, h2⟩ := e2.2 _ _ _ hif
  refine h2 k v s ?_ (by rw [← e5]; exact hs)
  rw [e2.1, List.getElem?_take_of_lt e4, List.getElem?_drop, e3, Nat.zero_add]; exact hv
theorem rep_at {α : Type} : ∀ (n : Nat) (l : List α) (j : Nat), j < n * l.length → ((List.replicate n l).flatten)[j]? = l[j % l.length]? := by
  intro n l
  induction n with
  | zero => intro j hj; simp at hj
  | succ n ih =>
    intro j hj
    rw [List.replicate_succ, List.flatten_cons]
    by_cases h : j < l.length
    · rw [List.getElem?_append_left h, Nat.mod_eq_of_lt h]
    · have hle : l.length ≤ j := by omega
      rw [List.getElem?_append_right hle, ih (j - l.length) (by rw [Nat.succ_mul] at hj; omega), ← Nat.mod_eq_sub_mod hle]
theorem opens_array {t e : TypeId} {n : Nat} {l : List Sh} (ht : P.underlying t = some (.array n e)) (hc : P.cellsOf t = n * l.length) (he : Opens enc P w base spare held e l) : Opens enc P w base spare held t (List.replicate n l).flatten := by
  have hll : (List.replicate n l).flatten.length = n * l.length := by simp
  refine ⟨hc.trans hll.symm, fun fuel cs x h => ?_⟩
  obtain ⟨xs, m, _, _, hlen, hl, hi⟩ := DataW.trod_array ht h
  refine ⟨(hlen.trans hc).trans hll.symm, fun j v s hv hs => ?_⟩
  have hj : j < n * l.length := by rw [← hll]; exact (List.getElem?_eq_some_iff.1 hs).1
  have hpos : 0 < l.length := by rcases Nat.eq_zero_or_pos l.length with h0 | h0; (rw [h0] at hj; simp at hj); exact h0
  have hr := Nat.mod_lt j hpos
  have hq : j / l.length < n := Nat.div_lt_of_lt_mul (by rw [Nat.mul_comm]; exact hj)
  have h1 := hi (j / l.length) hq
  rw [List.getElem?_eq_getElem (by omega), he.1] at h1
  obtain ⟨_, h2⟩ := he.2 _ _ _ h1
  refine h2 (j % l.length) v s ?_ ?_
  · rw [List.getElem?_take_of_lt hr, List.getElem?_drop, Nat.div_add_mod' j l.length]; exact hv
  · rw [← hs]; exact (rep_at n l j hj).symm
theorem fldO_nil (off : Nat) : FldO enc P w base spare held [] off [] := rfl
theorem fldO_cons {f : Field} {fs : List Field} {off : Nat} {l1 l2 : List Sh} (ho : f.offset = off) (h : Opens enc P w base spare held f.type l1) (hs : FldO enc P w base spare held fs (off + l1.length) l2) : FldO enc P w base spare held (f :: fs) off (l1 ++ l2) := ⟨l1, l2, rfl, ho, h, hs⟩
/-- What is known of cells: their kinds. -/
def HasShL (l : List Sh) (cs : List CD) : Prop := cs.length = l.length ∧ ∀ (j : Nat) (s : Sh) (c : CD), l[j]? = some s → cs[j]? = some c → HasSh s c
theorem HasShL.inv {s : Sh} {l : List Sh} {cs : List CD} (h : HasShL (s :: l) cs) : ∃ c cs', cs = c :: cs' ∧ HasSh s c ∧ HasShL l cs' := by
  obtain ⟨h0, h1⟩ := h
  cases cs with
  | nil => simp at h0
  | cons c cs => exact ⟨c, cs, rfl, h1 0 s c rfl rfl, by simpa using h0, fun j s' c' hs hc => h1 (j + 1) s' c' (by simpa using hs) (by simpa using hc)⟩
theorem HasShL.inv0 {cs : List CD} (h : HasShL [] cs) : cs = [] := by
  have := h.1
  cases cs with
  | nil => rfl
  | cons => simp at this
theorem open_cells {t : TypeId} {l : List Sh} {fuel : Nat} {vs : List Value} {x : DataW H × List MemPlace} (ho : Opens enc P w base spare held t l) (h : DataW.trod enc P w base spare held fuel t vs = some x) : ∃ cs, HasShL l cs ∧ RdL w w.heap.size cs vs := by
  obtain ⟨h0, h1⟩ := ho.2 _ _ _ h
  have key : ∀ j, ∃ c : CD, ∀ v s, vs[j]? = some v → l[j]? = some s → HasSh s c ∧ CD.Rd w w.heap.size c v := fun j => by
    by_cases hj : j < l.length
    · obtain ⟨c, h2, h3⟩ := h1 j (vs[j]'(by omega)) (l[j]'hj) (List.getElem?_eq_getElem (by omega)) (List.getElem?_eq_getElem hj)
      refine ⟨c, fun v s hv hs => ?_⟩
      rw [List.getElem?_eq_getElem (by omega), Option.some.injEq] at hv
      rw [List.getElem?_eq_getElem hj, Option.some.injEq] at hs
      subst hv hs; exact ⟨h2, h3⟩
    · exact ⟨.bool false, fun v s _ hs => absurd (List.getElem?_eq_some_iff.1 hs).1 hj⟩
  obtain ⟨f, hf⟩ := Classical.skolem.1 key
  refine ⟨(List.range l.length).map f, ⟨by simp, fun j s c hs hc => ?_⟩, by simp [h0], fun j v c hv hc => ?_⟩
  · have hj := (List.getElem?_eq_some_iff.1 hs).1
    have : c = f j := by simp [List.getElem?_map, List.getElem?_range hj] at hc; exact hc.symm
    subst this
    exact (hf j (vs[j]'(by omega)) s (List.getElem?_eq_getElem (by omega)) hs).1
  · have hj := (List.getElem?_eq_some_iff.1 hv).1
    have hj' : j < l.length := by omega
    have : c = f j := by simp [List.getElem?_map, List.getElem?_range hj'] at hc; exact hc.symm
    subst this
    exact (hf j v (l[j]'hj') hv (List.getElem?_eq_getElem hj')).2
theorem open_agg {r : Reach} {b0 : Nat} {t : TypeId} {fs : Array Field} {l : List Sh} {v : Value} {d : DataW H} {ps : List MemPlace} (ht : P.underlying t = some (.struct fs)) (ho : Opens enc P w base spare held t l)
    (hval : Value.okWide P w r b0 t v) (hd : DataW.Trod enc P w base spare held t v d ps) : ∃ cs vs, v = .agg vs.toArray ∧ HasShL l cs ∧ RdL w w.heap.size cs vs := by
  simp only [Value.okWide, ht] at hval
  obtain ⟨vs, rfl, hsz, _⟩ := hval
  obtain ⟨fuel, hf⟩ := hd
  simp only [Value.cells] at hf
  obtain ⟨cs, h1, h2⟩ := open_cells ho hf
  exact ⟨cs, vs.toList, by simp, h1, h2⟩
theorem open_sl {r : Reach} {b0 : Nat} {t e : TypeId} {l : List Sh} {v : Value} {d : DataW H} {ps : List MemPlace} (ht : P.underlying t = some (.slice e)) (hc : P.cellsOf t = 1) (ho : Opens enc P w base spare held e l)
    (hval : Value.okWide P w r b0 t v) (hd : DataW.Trod enc P w base spare held t v d ps) : ∃ n x, (∀ i, i < n → ∀ j, j < l.length → HasSh (l.getD j .bool) (x (i * l.length + j))) ∧ (CD.sl l.length n x).Rd w w.heap.size v := by
  obtain ⟨fuel, hf⟩ := hd
  have hvc : v.cells = #[v] := by
    cases v with
    | agg cs => simp [Value.okWide, Cell.okWide, Cell.ok, ht] at hval
    | _ => rfl
  rw [hvc] at hf
  obtain ⟨_, h2⟩ := (opens_slice ht hc ho).2 _ _ _ hf
  obtain ⟨c, ⟨n, x, rfl, h3⟩, h4⟩ := h2 0 v _ rfl rfl
  exact ⟨n, x, h3, h4⟩
end
end Go.Fk

/- The walk's laws for slices of wide elements; sizes. Nothing here names a program. -/
namespace Go.Fk
open Go Go.RowKit
/-- The sum of the first so many. -/
def sumTo (f : Nat → Nat) : Nat → Nat
  | 0 => 0
  | n + 1 => sumTo f n + f n
theorem sumTo_add (f : Nat → Nat) (a b : Nat) : sumTo f (a + b) = sumTo f a + sumTo (fun j => f (a + j)) b := by
  induction b with
  | zero => rfl
  | succ b ih => rw [← Nat.add_assoc]; simp only [sumTo]; rw [ih]; omega
theorem sumTo_le (f : Nat → Nat) {a b : Nat} (h : a ≤ b) : sumTo f a ≤ sumTo f b := by
  obtain ⟨c, rfl⟩ := Nat.exists_eq_add_of_le h
  rw [sumTo_add]; omega
/-- How many elements a datum's slices have. -/
def CD.sz : CD → Nat
  | .sl wd n x => n + sumTo (fun i => (x i).sz) (n * wd)
  | .str s => s.size
  | _ => 0
def szL (cs : List CD) : Nat := (cs.map CD.sz).sum
/-- What is left of so much. -/
def lessBy (m : Int) (s : Nat) : Int := if m - s < 0 then -1 else m - s
theorem CD.Rd.form {w : World} {B wd n : Nat} {x : Nat → CD} {s : Value} (h : (CD.sl wd n x).Rd w B s) : (s = .slice none 0 0 ∧ n = 0) ∨ ∃ (a : Addr) (cap : Nat), s = .slice (some a) n cap ∧ n ≤ cap ∧ cap ≤ maxLen := by
  rcases h with h | ⟨a, cap, h1, h2, h3, _⟩
  · exact .inl h
  · exact .inr ⟨a, cap, h1, h2, h3⟩
theorem CD.Rd.small {w : World} {B wd n : Nat} {x : Nat → CD} {s : Value} (h : (CD.sl wd n x).Rd w B s) : n ≤ 9223372036854775807 := by
  rcases h.form with ⟨_, rfl⟩ | ⟨a, cap, _, h1, h2⟩
  · omega
  · unfold maxLen at h2; omega
/-- The cells of an element. -/
theorem CD.Rd.elem {w : World} {B wd n cap : Nat} {x : Nat → CD} {a : Addr} (h : (CD.sl wd n x).Rd w B (.slice (some a) n cap)) {k : Nat} (hk : k < n) : ∃ vs : List Value, vs.length = wd ∧ (∀ j v, vs[j]? = some v → w.cell? ((a.add (k * wd)).add j) = some v) ∧ RdL w B ((List.range wd).map (fun j => x (k * wd + j))) vs := by
  rcases h with ⟨h, _⟩ | ⟨a', cap', h1, h2, h3, h4⟩
  · cases h
  · simp only [Value.slice.injEq, Option.some.injEq, true_and] at h1
    obtain ⟨rfl, rfl⟩ := h1
    have key : ∀ j, ∃ u, j < wd → w.cell? (a.add (k * wd + j)) = some u ∧ CD.Rd w B (x (k * wd + j)) u := fun j => by
      by_cases hj : j < wd
      · obtain ⟨_, u, h5, h6⟩ := h4 (k * wd + j) (Nat.lt_of_lt_of_le (Nat.add_lt_add_left hj _) (by rw [← Nat.succ_mul]; exact Nat.mul_le_mul_right _ hk))
        exact ⟨u, fun _ => ⟨h5, h6⟩⟩
      · exact ⟨undef, fun h => absurd h hj⟩
    obtain ⟨f, hf⟩ := Classical.skolem.1 key
    refine ⟨(List.range wd).map f, by simp, fun j v hv => ?_, by simp, fun j v c hv hc => ?_⟩
    · have hj : j < wd := by have := (List.getElem?_eq_some_iff.1 hv).1; simpa using this
      simp [List.getElem?_map, List.getElem?_range hj] at hv
      subst hv
      rw [Go.Deep.add_add]; exact (hf j hj).1
    · have hj : j < wd := by have := (List.getElem?_eq_some_iff.1 hv).1; simpa using this
      simp [List.getElem?_map, List.getElem?_range hj] at hv hc
      subst hv hc
      exact (hf j hj).2
theorem LayL.append {w : World} {S S1 S2 : Nat → Prop} {cs1 cs2 : List CD} {vs1 vs2 : List Value} (h : LayL w S1 cs1 vs1) (hs : LayL w S2 cs2 vs2) (h1 : ∀ j, S1 j → S j) (h2 : ∀ j, S2 j → S j) (h3 : ∀ j, S1 j → S2 j → False) : LayL w S (cs1 ++ cs2) (vs1 ++ vs2) := by
  induction cs1 generalizing vs1 S1 S with
  | nil => obtain rfl := h.inv0; exact hs.mono h2
  | cons c cs ih =>
    obtain ⟨v, vs, A, B, rfl, a1, a2, a3, a4, a5⟩ := h.inv
    exact LayL.cons (S2 := fun j => B j ∨ S2 j) a1 (ih a2 (fun j hj => .inl hj) (fun j hj => .inr hj) (fun j a b => h3 j (a4 j a) b)) (fun j hj => h1 j (a3 j hj)) (fun j hj => hj.elim (fun k => h1 j (a4 j k)) (h2 j)) (fun j a b => b.elim (a5 j a) (h3 j (a3 j a)))
theorem Frg.wrI0 {w0 w w' : World} {post : List Fact} {g : Nat} {t : TypeId} {cs cs' : Array Value} (h : Frg w0 w (rowF g t cs :: post)) (k : Wrote w w' g t cs') : Frg w0 w' (rowF g t cs' :: post) := Frg.wrote [] h k
theorem Frg.wrI1 {w0 w w' : World} {b0 : Fact} {post : List Fact} {g : Nat} {t : TypeId} {cs cs' : Array Value} (h : Frg w0 w (b0 :: rowF g t cs :: post)) (k : Wrote w w' g t cs') : Frg w0 w' (b0 :: rowF g t cs' :: post) := Frg.wrote [b0] h k
theorem Frg.wrI2 {w0 w w' : World} {b0 b1 : Fact} {post : List Fact} {g : Nat} {t : TypeId} {cs cs' : Array Value} (h : Frg w0 w (b0 :: b1 :: rowF g t cs :: post)) (k : Wrote w w' g t cs') : Frg w0 w' (b0 :: b1 :: rowF g t cs' :: post) := Frg.wrote [b0, b1] h k
theorem Frg.wrI3 {w0 w w' : World} {b0 b1 b2 : Fact} {post : List Fact} {g : Nat} {t : TypeId} {cs cs' : Array Value} (h : Frg w0 w (b0 :: b1 :: b2 :: rowF g t cs :: post)) (k : Wrote w w' g t cs') : Frg w0 w' (b0 :: b1 :: b2 :: rowF g t cs' :: post) := Frg.wrote [b0, b1, b2] h k
theorem Frg.wrI4 {w0 w w' : World} {b0 b1 b2 b3 : Fact} {post : List Fact} {g : Nat} {t : TypeId} {cs cs' : Array Value} (h : Frg w0 w (b0 :: b1 :: b2 :: b3 :: rowF g t cs :: post)) (k : Wrote w w' g t cs') : Frg w0 w' (b0 :: b1 :: b2 :: b3 :: rowF g t cs' :: post) := Frg.wrote [b0, b1, b2, b3] h k
theorem Frg.wrI5 {w0 w w' : World} {b0 b1 b2 b3 b4 : Fact} {post : List Fact} {g : Nat} {t : TypeId} {cs cs' : Array Value} (h : Frg w0 w (b0 :: b1 :: b2 :: b3 :: b4 :: rowF g t cs :: post)) (k : Wrote w w' g t cs') : Frg w0 w' (b0 :: b1 :: b2 :: b3 :: b4 :: rowF g t cs' :: post) := Frg.wrote [b0, b1, b2, b3, b4] h k
theorem Frg.wrI6 {w0 w w' : World} {b0 b1 b2 b3 b4 b5 : Fact} {post : List Fact} {g : Nat} {t : TypeId} {cs cs' : Array Value} (h : Frg w0 w (b0 :: b1 :: b2 :: b3 :: b4 :: b5 :: rowF g t cs :: post)) (k : Wrote w w' g t cs') : Frg w0 w' (b0 :: b1 :: b2 :: b3 :: b4 :: b5 :: rowF g t cs' :: post) := Frg.wrote [b0, b1, b2, b3, b4, b5] h k
theorem Frg.wrI7 {w0 w w' : World} {b0 b1 b2 b3 b4 b5 b6 : Fact} {post : List Fact} {g : Nat} {t : TypeId} {cs cs' : Array Value} (h : Frg w0 w (b0 :: b1 :: b2 :: b3 :: b4 :: b5 :: b6 :: rowF g t cs :: post)) (k : Wrote w w' g t cs') : Frg w0 w' (b0 :: b1 :: b2 :: b3 :: b4 :: b5 :: b6 :: rowF g t cs' :: post) := Frg.wrote [b0, b1, b2, b3, b4, b5, b6] h k
theorem Frg.wrI8 {w0 w w' : World} {b0 b1 b2 b3 b4 b5 b6 b7 : Fact} {post : List Fact} {g : Nat} {t : TypeId} {cs cs' : Array Value} (h : Frg w0 w (b0 :: b1 :: b2 :: b3 :: b4 :: b5 :: b6 :: b7 :: rowF g t cs :: post)) (k : Wrote w w' g t cs') : Frg w0 w' (b0 :: b1 :: b2 :: b3 :: b4 :: b5 :: b6 :: b7 :: rowF g t cs' :: post) := Frg.wrote [b0, b1, b2, b3, b4, b5, b6, b7] h k
theorem Frg.wrI9 {w0 w w' : World} {b0 b1 b2 b3 b4 b5 b6 b7 b8 : Fact} {post : List Fact} {g : Nat} {t : TypeId} {cs cs' : Array Value} (h : Frg w0 w (b0 :: b1 :: b2 :: b3 :: b4 :: b5 :: b6 :: b7 :: b8 :: rowF g t cs :: post)) (k : Wrote w w' g t cs') : Frg w0 w' (b0 :: b1 :: b2 :: b3 :: b4 :: b5 :: b6 :: b7 :: b8 :: rowF g t cs' :: post) := Frg.wrote [b0, b1, b2, b3, b4, b5, b6, b7, b8] h k
section
variable {P : Program} {w : World} {ops : Array Oper} {rest : List Oper} {o : Oper} {a : Act} {Q : Exit → Act → World → Prop}
/-- The address of an element. -/
theorem wpList_indexW (hg : o.guard = none) {t : TypeId} {x y : Operand} (hop : o.op = .indexAddr t x y) {p : Addr} {n cap sz i : Nat} {kk : IntKind} {e : TypeId} (hx : a.eval x = .slice (some p) n cap) (hy : a.eval y = .int kk (i : Int)) (hu : P.underlying t = some (.slice e)) (hs : (P.info? e).map (·.size) = some sz) (hi : i < n)
    (h : wpList P ops Q rest (a.put o.dst (.pointer (some (p.add (i * sz))))) w) : wpList P ops Q (o :: rest) a w := by
  refine wpList_plain hg fun K hK' => ?_
  unfold Oper.wp
  cases hq : P.info? e with
  | none => simp [hq] at hs
  | some inf =>
    have hz : inf.size = sz := by simpa [hq] using hs
    have h2 : (i : Int) < (n : Int) := by omega
    simp [execOp, hop, hx, hy, Instr.indexAt, asIntOf, run_underlying hu, sizeOf, typeInfo, hq, hz, h2, hi, Result.andThen]
    exact hK' _ _ h
/-- A wide value is loaded, from wherever. -/
theorem wpList_loadW (hg : o.guard = none) {ty : TypeId} {x : Operand} (hop : o.op = .load ty x) {p : Addr} (hx : a.eval x = .pointer (some p)) (vs : List Value) (hc : ∀ j v, vs[j]? = some v → w.cell? (p.add j) = some v) {d : TypeDesc} (hu : P.underlying ty = some d) (hd : d.isRow = true) {sz : Nat} (hs : (P.info? ty).map (·.size) = some sz) (hl : vs.length = sz)
    (h : wpList P ops Q rest (a.put o.dst (.agg vs.toArray)) w) : wpList P ops Q (o :: rest) a w := by
  refine wpList_plain hg fun K hK' => ?_
  unfold Oper.wp execOp
  have hl' : (loadCells p vs.length).run P w = .ok vs.toArray w := run_loadCells_list (P := P) w p vs hc
  cases hq : P.info? ty with
  | none => simp [hq] at hs
  | some inf =>
    have hz : inf.size = vs.length := by simp [hq] at hs; omega
    have hagg : (isAgg ty).run P w = .ok true w := by
      unfold isAgg
      rw [Sem.run_bind, run_underlying hu w]
      cases d <;> simp_all
    simp [hop, hx, Instr.loadAt, Instr.sureAddr, loadVar, Sem.run_bind, hagg, sizeOf, typeInfo, hq, hz, hl', Result.andThen]
    exact hK' _ _ h
/-- The length of any slice. -/
theorem wpList_lenC (hg : o.guard = none) {x : Operand} {t : TypeId} (hop : o.op = Op.call { callee := Callee.builtin Builtin.len, args := #[x], argTypes := #[t] }) {v : Value} (hx : a.eval x = v) {e : TypeId} (hu : P.underlying t = some (.slice e)) {w1 : World} {B wd : Nat} {y : Nat → CD} {n : Nat} (hv : (CD.sl wd n y).Rd w1 B v)
    (h : wpList P ops Q rest (a.put o.dst (.int .i64 n)) w) : wpList P ops Q (o :: rest) a w := by
  refine wpList_plain hg fun K hK' => ?_
  unfold Oper.wp
  rcases hv.form with ⟨rfl, rfl⟩ | ⟨ad, cap, rfl, _, _⟩
  all_goals
    simp [execOp, hop, hx, Result.andThen, resolve, invoke, builtin, Builtin.len_, run_underlying hu]
    exact hK' _ _ h
end
section
variable {E : Ext} {P : Program} {ops : Array Oper} {W : World} {K : FuncId → Array Value → World → Value → Prop} {Q : Act → World → Prop} {F : Facts} {k : Nat} {o : Oper} {rest : List Oper} {a : Act}
theorem wpFreeD_indexW (hg : o.guard = none) {t : TypeId} {x y : Operand} (hop : o.op = .indexAddr t x y) {p : Addr} {n cap sz i : Nat} {kk : IntKind} {e : TypeId} (hx : a.eval x = .slice (some p) n cap) (hy : a.eval y = .int kk (i : Int)) (hu : P.underlying t = some (.slice e)) (hs : (P.info? e).map (·.size) = some sz) (hi : i < n)
    (h : wpFreeD E P ops .any W K Q rest (k + 1) (a.put o.dst (.pointer (some (p.add (i * sz))))) (F.with k (fun _ => True))) : wpFreeD E P ops .any W K Q (o :: rest) k a F := by
  refine wpFreeD_one hg (.pointer (some (p.add (i * sz)))) (fun w _ => ?_) h
  cases hq : P.info? e with
  | none => simp [hq] at hs
  | some inf =>
    have hz : inf.size = sz := by simpa [hq] using hs
    have h2 : (i : Int) < (n : Int) := by omega
    simp [execOp, hop, hx, hy, Instr.indexAt, asIntOf, run_underlying hu, sizeOf, typeInfo, hq, hz, h2, hi, Result.andThen]
theorem wpFreeD_loadW (hg : o.guard = none) {ty : TypeId} {x : Operand} (hop : o.op = .load ty x) {p : Addr} (hx : a.eval x = .pointer (some p)) (vs : List Value) (hc : ∀ w, E.R W w → ∀ j v, vs[j]? = some v → w.cell? (p.add j) = some v) {d : TypeDesc} (hu : P.underlying ty = some d) (hd : d.isRow = true) {sz : Nat} (hs : (P.info? ty).map (·.size) = some sz) (hl : vs.length = sz)
    (h : wpFreeD E P ops .any W K Q rest (k + 1) (a.put o.dst (.agg vs.toArray)) (F.with k (fun _ => True))) : wpFreeD E P ops .any W K Q (o :: rest) k a F := by
  refine wpFreeD_one hg (.agg vs.toArray) (fun w hw => ?_) h
  have hl' : (loadCells p vs.length).run P w = .ok vs.toArray w := run_loadCells_list (P := P) w p vs (hc w hw)
  cases hq : P.info? ty with
  | none => simp [hq] at hs
  | some inf =>
    have hz : inf.size = vs.length := by simp [hq] at hs; omega
    have hagg : (isAgg ty).run P w = .ok true w := by
      unfold isAgg
      rw [Sem.run_bind, run_underlying hu w]
      cases d <;> simp_all
    simp [execOp, hop, hx, Instr.loadAt, Instr.sureAddr, loadVar, Sem.run_bind, hagg, sizeOf, typeInfo, hq, hz, hl', Result.andThen]
end
end Go.Fk

/- Kinds of data, loosely: what the laws' helpers ask of a tree. Nothing here names a program. -/
namespace Go.Fk
open Go Go.RowKit
/-- The width of a float. -/
def CD.flk : CD → Option FloatKind
  | .flt k _ => some k
  | .fcn k _ => some k
  | _ => none
/-- A float up to the bits of NaN. -/
def CD.fx : CD → Nat
  | .flt k x => can k x
  | .fcn _ x => x
  | _ => 0
def ShOk : Sh → CD → Prop
  | .int k, c => ∃ z, c = .int k z
  | .flt k, c => c.flk = some k
  | .bool, c => ∃ b, c = .bool b
  | .str, c => ∃ s, c = .str s
  | .sl wd e, c => ∃ n x, c = .sl wd n x ∧ ∀ i, i < n → ∀ j, j < wd → ShOk (e j) (x (i * wd + j))
theorem HasSh.ok : ∀ {s : Sh} {c : CD}, HasSh s c → ShOk s c := by
  intro s
  induction s with
  | sl wd e ih => intro c ⟨n, x, h1, h2⟩; exact ⟨n, x, h1, fun i hi j hj => ih j (h2 i hi j hj)⟩
  | flt k => intro c ⟨x, h⟩; subst h; rfl
  | _ => intro c h; exact h
def ShOkL (l : List Sh) (cs : List CD) : Prop := cs.length = l.length ∧ ∀ (j : Nat) (s : Sh) (c : CD), l[j]? = some s → cs[j]? = some c → ShOk s c
theorem HasShL.ok {l : List Sh} {cs : List CD} (h : HasShL l cs) : ShOkL l cs := ⟨h.1, fun j s c hs hc => (h.2 j s c hs hc).ok⟩
theorem ShOkL.inv {s : Sh} {l : List Sh} {cs : List CD} (h : ShOkL (s :: l) cs) : ∃ c cs', cs = c :: cs' ∧ ShOk s c ∧ ShOkL l cs' := by
  obtain ⟨h0, h1⟩ := h
  cases cs with
  | nil => simp at h0
  | cons c cs => exact ⟨c, cs, rfl, h1 0 s c rfl rfl, by simpa using h0, fun j s' c' hs hc => h1 (j + 1) s' c' (by simpa using hs) (by simpa using hc)⟩
theorem ShOkL.inv0 {cs : List CD} (h : ShOkL [] cs) : cs = [] := by
  have := h.1
  cases cs with
  | nil => rfl
  | cons => simp at this
theorem ShOkL.cons {s : Sh} {l : List Sh} {c : CD} {cs : List CD} (h : ShOk s c) (hs : ShOkL l cs) : ShOkL (s :: l) (c :: cs) := ⟨by simp [hs.1], fun j s' c' h1 h2 => by
  cases j with
  | zero => simp at h1 h2; subst h1 h2; exact h
  | succ j => simp at h1 h2; exact hs.2 j s' c' h1 h2⟩
theorem ShOkL.nil : ShOkL [] [] := ⟨rfl, fun j s c h => by simp at h⟩
/-- The kinds of an element. -/
theorem ShOk.elem {l : List Sh} {n : Nat} {x : Nat → CD} (h : ∀ i, i < n → ∀ j, j < l.length → ShOk (l.getD j .bool) (x (i * l.length + j))) {k : Nat} (hk : k < n) : ShOkL l ((List.range l.length).map (fun j => x (k * l.length + j))) :=
  ⟨by simp, fun j s c hs hc => by
    have hj := (List.getElem?_eq_some_iff.1 hs).1
    simp [List.getElem?_map, List.getElem?_range hj] at hc
    subst hc
    have := h k hk j hj
    rwa [List.getD, hs] at this⟩
theorem CD.Rd.fl {w : World} {B : Nat} {c : CD} {v : Value} {k : FloatKind} (h : c.Rd w B v) (hk : c.flk = some k) : ∃ y, v = .float k y ∧ fits k y ∧ can k y = c.fx := by
  cases c with
  | flt k' x => obtain ⟨rfl, hf⟩ := h; simp [CD.flk] at hk; subst hk; exact ⟨x, rfl, hf, rfl⟩
  | fcn k' x => obtain ⟨y, rfl, hf, hc⟩ := h; simp [CD.flk] at hk; subst hk; exact ⟨y, rfl, hf, hc⟩
  | _ => simp [CD.flk] at hk
/-- What a copy is. -/
def CD.cn : CD → CD
  | .flt k x => .fcn k (can k x)
  | .sl wd n x => .sl wd n (fun i => (x i).cn)
  | c => c
def CD.cp : CD → CD
  | .sl wd n x => .sl wd n (fun i => (x i).cn)
  | c => c
theorem CD.fx_cn (c : CD) : c.cn.fx = c.fx := by cases c <;> rfl
theorem CD.flk_cn (c : CD) : c.cn.flk = c.flk := by cases c <;> rfl
theorem CD.cn_fl {c : CD} {k : FloatKind} (h : c.flk = some k) : c.cn = .fcn k c.fx := by
  cases c <;> simp [CD.flk] at h <;> subst h <;> rfl
theorem ShOk.cn : ∀ {s : Sh} {c : CD}, ShOk s c → ShOk s c.cn := by
  intro s
  induction s with
  | sl wd e ih => intro c ⟨n, x, h1, h2⟩; subst h1; exact ⟨n, _, rfl, fun i hi j hj => ih j (h2 i hi j hj)⟩
  | flt k => intro c h; exact (CD.flk_cn c).trans h
  | _ => intro c ⟨x, h⟩; subst h; exact ⟨x, rfl⟩
theorem ShOk.cp {s : Sh} {c : CD} (h : ShOk s c) : ShOk s c.cp := by
  cases c with
  | sl wd n x => exact ShOk.cn h
  | _ => exact h
theorem ShOkL.cp {l : List Sh} {cs : List CD} (h : ShOkL l cs) : ShOkL l (cs.map CD.cp) := ⟨by simp [h.1], fun j s c hs hc => by
  simp only [List.getElem?_map, Option.map_eq_some_iff] at hc
  obtain ⟨c', h1, rfl⟩ := hc
  exact (h.2 j s c' hs h1).cp⟩
theorem CD.Lay.cn {w : World} {c : CD} {S : Nat → Prop} {v : Value} (h : c.cp.Lay w S v) : c.cn.Lay w S v := by
  cases c with
  | flt k x => obtain ⟨rfl, hf⟩ := h; exact ⟨x, rfl, hf, rfl⟩
  | _ => exact h
/-- A leaf is a leaf wherever. -/
theorem CD.Rd.leafLay {w w' : World} {B : Nat} {S : Nat → Prop} {c : CD} {v : Value} (h : c.Rd w B v) (hc : ∀ wd n x, c ≠ .sl wd n x) : c.cp.Lay w' S v := by
  cases c with
  | sl wd n x => exact absurd rfl (hc wd n x)
  | _ => exact h
theorem flk_ne {c : CD} {k : FloatKind} (h : c.flk = some k) : ∀ wd n x, c ≠ .sl wd n x := by
  intro wd n x e; subst e; simp [CD.flk] at h
/-- Slices of floats. -/
theorem CD.Rd.rdf {w : World} {B : Nat} {s : Value} {x : Nat → CD} {n : Nat} (h : (CD.sl 1 n x).Rd w B s) (hx : ∀ i, i < n → (x i).flk = some .f32) : RdS w B s (fun i => (x i).fx) n := by
  rcases h with h | ⟨a, cap, h1, h2, h3, h4⟩
  · exact .inl h
  · refine .inr ⟨a, cap, h1, h2, h3, fun i hi => ?_⟩
    obtain ⟨h5, u, h6, h7⟩ := h4 i (by simpa using hi)
    obtain ⟨y, rfl, e2, e3⟩ := h7.fl (hx i hi)
    exact ⟨h5, y, h6, e2, e3⟩
theorem ShOk.flts {n : Nat} {x : Nat → CD} {e : Nat → Sh} (h : ∀ i, i < n → ∀ j, j < 1 → ShOk (e j) (x (i * 1 + j))) (he : e 0 = .flt .f32) : ∀ i, i < n → (x i).flk = some .f32 := fun i hi => by
  have := h i hi 0 (by omega)
  rw [he] at this
  have h2 : ShOk (.flt .f32) (x i) := by simpa using this
  exact h2
theorem sumTo_zero {f : Nat → Nat} {n : Nat} (h : ∀ i, i < n → f i = 0) : sumTo f n = 0 := by
  induction n with
  | zero => rfl
  | succ n ih => simp only [sumTo]; rw [ih (fun i hi => h i (by omega)), h n (by omega)]
theorem CD.sz_fl {c : CD} {k : FloatKind} (h : c.flk = some k) : c.sz = 0 := by
  cases c <;> simp [CD.flk] at h <;> rfl
theorem CD.sz_flts {n : Nat} {x : Nat → CD} (h : ∀ i, i < n → (x i).flk = some .f32) : (CD.sl 1 n x).sz = n := by
  simp only [CD.sz, Nat.mul_one]
  rw [sumTo_zero (fun i hi => CD.sz_fl (h i hi))]; rfl
theorem CD.sz_cn : ∀ c : CD, c.cn.sz = c.sz := by
  intro c
  induction c with
  | sl wd n x ih => simp only [CD.cn, CD.sz]; congr 1; congr 1; funext i; exact ih i
  | _ => rfl
theorem lessBy_neg {m : Int} {s : Nat} (h : m - s < 0) : lessBy m s = -1 := if_pos h
theorem lessBy_pos {m : Int} {s : Nat} (h : ¬ m - (s : Int) < 0) : lessBy m s = m - s := if_neg h
def OutI (z : Int) (w : World) (e : Ending) (w' : World) : Prop := e = .returned (.int .i64 z) ∧ le w w'
def OutT (w : World) (e : Ending) (w' : World) : Prop := e = .returned (.bool true) ∧ le w w'
/-- A new struct that owns its memory. -/
def OutA' (cs : List CD) (w : World) (e : Ending) (w' : World) : Prop := ∃ us : List Value, e = .returned (.agg us.toArray) ∧ LayL w' (rng w.heap.size w'.heap.size) cs us ∧ le w w'
def OutC (c : CD) (w : World) (e : Ending) (w' : World) : Prop := ∃ u : Value, e = .returned u ∧ c.Lay w' (rng w.heap.size w'.heap.size) u ∧ le w w'
theorem lay_fl {w : World} {S : Nat → Prop} {c : CD} {v : Value} (h : c.flk = some .f32) (hl : c.cp.Lay w S v) : ∃ g, v = .float .f32 g := by
  cases c <;> simp [CD.flk] at h
  · subst h; obtain ⟨rfl, _⟩ := hl; exact ⟨_, rfl⟩
  · subst h; obtain ⟨g, rfl, _⟩ := hl; exact ⟨_, rfl⟩
end Go.Fk

/- A slice of wide elements that is filled element by element; a struct put together of parts. Nothing here names a program. -/
namespace Go.Fk
open Go Go.RowKit
theorem size_patch (cs : Array Value) (o : Nat) (vs : List Value) : (patch cs o vs).size = cs.size := by
  induction vs generalizing cs o with
  | nil => rfl
  | cons v r ih => simp only [patch]; rw [ih]; simp
theorem patch_below (cs : Array Value) (o : Nat) (vs : List Value) {i : Nat} (h : i < o) : (patch cs o vs)[i]? = cs[i]? := by
  induction vs generalizing cs o with
  | nil => rfl
  | cons v r ih => simp only [patch]; rw [ih _ _ (by omega), Array.getElem?_setIfInBounds_ne (by omega)]
theorem patch_at (cs : Array Value) (o : Nat) (vs : List Value) {j : Nat} (h : j < vs.length) (hs : o + vs.length ≤ cs.size) : (patch cs o vs)[o + j]? = vs[j]? := by
  induction vs generalizing cs o j with
  | nil => simp at h
  | cons v r ih =>
    simp only [patch]
    simp at h hs
    cases j with
    | zero => show (patch (cs.setIfInBounds o v) (o + 1) r)[o]? = _; rw [patch_below _ _ _ (by omega), Array.getElem?_setIfInBounds_self_of_lt (by omega)]; rfl
    | succ j => rw [show o + (j + 1) = (o + 1) + j by omega, ih _ _ (by omega) (by simp; omega)]; rfl
/-- So many elements are there. -/
def Part (w : World) (b : Nat) (t : TypeId) (wd n k : Nat) (x : Nat → CD) : Prop := ∃ cs : Array Value, Row w b t cs ∧ cs.size = n * wd ∧ ∃ T : Nat → Nat → Prop, (∀ i j, T i j → b < j ∧ j < w.heap.size) ∧ (∀ i i' j, T i j → T i' j → i = i') ∧ ∀ i, i < k * wd → ∃ u, cs[i]? = some u ∧ CD.Lay w (x i) (T i) u
theorem Part.zero {w : World} {b : Nat} {t : TypeId} {wd n : Nat} {x : Nat → CD} {cs : Array Value} (h : Row w b t cs) (hs : cs.size = n * wd) : Part w b t wd n 0 x :=
  ⟨cs, h, hs, fun _ _ => False, fun _ _ h => h.elim, fun _ _ _ h => h.elim, fun i hi => by simp at hi⟩
theorem Part.step {w w1 w2 : World} {b : Nat} {t : TypeId} {wd n k : Nat} {x : Nat → CD} (h : Part w b t wd n k x) (hk : k < n) (hl : Fk.le w w1) {us : List Value} (hu : LayL w1 (rng w.heap.size w1.heap.size) ((List.range wd).map (fun j => x (k * wd + j))) us)
    {cs0 : Array Value} (hr0 : Row w1 b t cs0) (hW0 : Wrote w1 w2 b t (patch cs0 (k * wd) us)) : Part w2 b t wd n (k + 1) x := by
  obtain ⟨cs, hr, hs, T, t1, t2, t3⟩ := h
  have hcs : cs0 = cs := by
    have h1 := hr.le hl
    unfold Row at hr0 h1
    rw [hr0] at h1
    simpa using h1
  subst hcs
  have hW := hW0
  obtain ⟨ul, U, u1, u2, u3⟩ := hu
  have hul : us.length = wd := by simpa using ul
  have hend : k * wd + wd ≤ n * wd := by rw [← Nat.succ_mul]; exact Nat.mul_le_mul_right _ hk
  refine ⟨_, hW.row, by rw [size_patch]; exact hs, fun i j => if i < k * wd then T i j else U (i - k * wd) j, fun i j hT => ?_, fun i i' j a c => ?_, fun i hi => ?_⟩
  · by_cases hi : i < k * wd
    · simp only [if_pos hi] at hT; have := t1 i j hT; exact ⟨this.1, by rw [hW.size]; exact Nat.lt_of_lt_of_le this.2 hl.size⟩
    · simp only [if_neg hi] at hT; have h0 := u1 _ j hT; exact ⟨Nat.lt_of_lt_of_le hr.lt h0.1, by rw [hW.size]; exact h0.2⟩
  · by_cases hi : i < k * wd <;> by_cases hi' : i' < k * wd
    · simp only [if_pos hi] at a; simp only [if_pos hi'] at c; exact t2 i i' j a c
    · simp only [if_pos hi] at a; simp only [if_neg hi'] at c
      have h1 := t1 i j a; have h2 := u1 _ j c; have := h2.1; omega
    · simp only [if_neg hi] at a; simp only [if_pos hi'] at c
      have h1 := t1 i' j c; have h2 := u1 _ j a; have := h2.1; omega
    · simp only [if_neg hi] at a; simp only [if_neg hi'] at c
      have := u2 _ _ j a c; omega
  · by_cases hlt : i < k * wd
    · obtain ⟨u, e1, e2⟩ := t3 i hlt
      refine ⟨u, by rw [patch_below _ _ _ hlt]; exact e1, ?_⟩
      simp only [if_pos hlt]
      exact e2.ok (fun j hj => by
        have h1 := t1 i j hj
        rw [hW.block j (by omega)]; exact hl.block j h1.2)
    · obtain ⟨j, rfl⟩ : ∃ j, i = k * wd + j := ⟨i - k * wd, by omega⟩
      have hj : j < wd := by rw [Nat.succ_mul] at hi; omega
      refine ⟨us[j]'(by omega), by rw [patch_at _ _ _ (by omega) (by omega)]; exact List.getElem?_eq_getElem (by omega), ?_⟩
      have e2 := u3 j (us[j]'(by omega)) (x (k * wd + j)) (List.getElem?_eq_getElem (by omega)) (by simp [List.getElem?_map, List.getElem?_range hj])
      simp only [if_neg hlt, Nat.add_sub_cancel_left]
      exact e2.ok (fun q hq => by
        have h1 := u1 j q hq
        have h2 := hr.lt
        have := h1.1
        exact hW.block q (by omega))
theorem Part.row {w : World} {b : Nat} {t : TypeId} {wd n k : Nat} {x : Nat → CD} (h : Part w b t wd n k x) : ∃ cs, Row w b t cs ∧ cs.size = n * wd := by
  obtain ⟨cs, hr, hs, _⟩ := h
  exact ⟨cs, hr, hs⟩
theorem Part.full {w : World} {b : Nat} {t : TypeId} {wd n : Nat} {x : Nat → CD} (h : Part w b t wd n n x) (hn : n ≤ maxLen) {S : Nat → Prop} (hS : ∀ j, b ≤ j → j < w.heap.size → S j) : (CD.sl wd n x).Lay w S (.slice (some ⟨b, 0, none⟩) n n) := by
  obtain ⟨cs, hr, hs, T, t1, t2, t3⟩ := h
  exact .inr ⟨b, 0, n, t, cs, rfl, Nat.le_refl _, hn, hS b (Nat.le_refl _) hr.lt, hr, T, fun i j hT => ⟨hS j (by have := t1 i j hT; omega) (t1 i j hT).2, by have := t1 i j hT; omega⟩, t2, fun i hi => by rw [Nat.zero_add]; exact t3 i hi⟩
section
variable {P : Program} {w : World} {ops : Array Oper} {rest : List Oper} {o : Oper} {a : Act} {Q : Exit → Act → World → Prop}
theorem wpList_indexW0 (hg : o.guard = none) {t : TypeId} {x y : Operand} (hop : o.op = .indexAddr t x y) {b off n cap sz i : Nat} {kk : IntKind} {e : TypeId} (hx : a.eval x = .slice (some ⟨b, off, none⟩) n cap) (hy : a.eval y = .int kk (i : Int)) (hu : P.underlying t = some (.slice e)) (hs : (P.info? e).map (·.size) = some sz) (hi : i < n)
    (h : wpList P ops Q rest (a.put o.dst (.pointer (some ⟨b, off + i * sz, none⟩))) w) : wpList P ops Q (o :: rest) a w :=
  wpList_indexW hg hop hx hy hu hs hi (by rw [add_none]; exact h)
/-- The same where the operation is guarded, and wanted. -/
theorem wpList_indexW0G {t : TypeId} {x y : Operand} (hop : o.op = .indexAddr t x y) {b off n cap sz i : Nat} {kk : IntKind} {e : TypeId} (hx : a.eval x = .slice (some ⟨b, off, none⟩) n cap) (hy : a.eval y = .int kk (i : Int)) (hu : P.underlying t = some (.slice e)) (hs : (P.info? e).map (·.size) = some sz) (hi : i < n) (hw : Region.wanted o (yielded ops a.tmps) = true)
    (h : wpList P ops Q rest (a.put o.dst (.pointer (some ⟨b, off + i * sz, none⟩))) w) : wpList P ops Q (o :: rest) a w :=
  wpList_step fun K hK => by
    simp only [hw, if_true]
    unfold Oper.wp
    cases hq : P.info? e with
    | none => simp [hq] at hs
    | some inf =>
      have hz : inf.size = sz := by simpa [hq] using hs
      have h2 : (i : Int) < (n : Int) := by omega
      simp [execOp, hop, hx, hy, Instr.indexAt, asIntOf, run_underlying hu, sizeOf, typeInfo, hq, hz, h2, hi, Result.andThen, add_none]
      exact hK _ _ h
theorem wpList_lenCG {x : Operand} {t : TypeId} (hop : o.op = Op.call { callee := Callee.builtin Builtin.len, args := #[x], argTypes := #[t] }) {v : Value} (hx : a.eval x = v) {e : TypeId} (hu : P.underlying t = some (.slice e)) {w1 : World} {B wd : Nat} {y : Nat → CD} {n : Nat} (hv : (CD.sl wd n y).Rd w1 B v) (hw : Region.wanted o (yielded ops a.tmps) = true)
    (h : wpList P ops Q rest (a.put o.dst (.int .i64 n)) w) : wpList P ops Q (o :: rest) a w :=
  wpList_step fun K hK => by
    simp only [hw, if_true]
    unfold Oper.wp
    rcases hv.form with ⟨rfl, rfl⟩ | ⟨ad, cap, rfl, _, _⟩
    all_goals
      simp [execOp, hop, hx, Result.andThen, resolve, invoke, builtin, Builtin.len_, run_underlying hu]
      exact hK _ _ h
theorem wpList_lenRG {x : Operand} {t : TypeId} (hop : o.op = Op.call { callee := Callee.builtin Builtin.len, args := #[x], argTypes := #[t] }) {v : Value} (hx : a.eval x = v) {e : TypeId} (hu : P.underlying t = some (.slice e)) {w1 : World} {B : Nat} {y : Nat → Nat} {n : Nat} (hv : RdS w1 B v y n) (hw : Region.wanted o (yielded ops a.tmps) = true)
    (h : wpList P ops Q rest (a.put o.dst (.int .i64 n)) w) : wpList P ops Q (o :: rest) a w :=
  wpList_lenCG hop hx hu hv.cd hw h
theorem run_make_wide (t e : TypeId) (sz : Nat) (ht : P.underlying t = some (.slice e)) (hi : (P.info? e).map (fun i => (i.zero.isSome, i.size, decide (i.bytes ≤ 4096))) = some (true, sz, true)) (n : Nat) (hn : n ≤ 1048576) :
    ∃ cs : Array Value, cs.size = n * sz ∧ ∀ w, (Instr.makeSlice t (.int .i64 (n : Int)) (.int .i64 (n : Int))).run P w = .ok (.slice (some ⟨w.heap.size, 0, none⟩) n n) (w.alloc (.cells cs e)) := by
  cases hq : P.info? e with
  | none => simp [hq] at hi
  | some i =>
    simp [hq] at hi
    obtain ⟨h1, h2, h3⟩ := hi
    obtain ⟨z, hz⟩ := Option.isSome_iff_exists.1 h1
    refine ⟨madeCells z.cells (n * sz), size_madeCells _ _, fun w => ?_⟩
    have hb : (i.bytes : Int) * (n : Int) ≤ 281474976710656 := by
      have h0 : i.bytes * n ≤ 4096 * 1048576 := Nat.mul_le_mul h3 hn
      have h4 : ((i.bytes * n : Nat) : Int) ≤ 281474976710656 := by omega
      rwa [Int.natCast_mul] at h4
    have := run_make (P := P) w t e i z ht hq hz .i64 .i64 (n : Int) (n : Int) (by omega) (Int.le_refl _) hb (by omega)
    simpa [h2] using this
end
theorem LayL.cn {w : World} {S : Nat → Prop} {cs : List CD} {us : List Value} (h : LayL w S (cs.map CD.cp) us) : LayL w S (cs.map CD.cn) us := by
  obtain ⟨h0, T, t1, t2, t3⟩ := h
  refine ⟨by simpa using h0, T, t1, t2, fun i v c hv hc => ?_⟩
  simp only [List.getElem?_map, Option.map_eq_some_iff] at hc
  obtain ⟨c', h1, rfl⟩ := hc
  exact (t3 i v c'.cp hv (by simp [h1])).cn
theorem LayL.all_one {w : World} {S : Nat → Prop} {cs : List CD} {us : List Value} (h : LayL w S cs us) : us.toArray.all (·.oneCell') = true := by
  obtain ⟨h0, T, t1, t2, t3⟩ := h
  refine all_oneCell_toArray (fun v hv => ?_)
  obtain ⟨i, hi, rfl⟩ := List.getElem_of_mem hv
  exact (t3 i _ (cs[i]'(by omega)) (List.getElem?_eq_getElem hi) (List.getElem?_eq_getElem (by omega))).one
/-- What has been put together of a frame's facts, the last part first. -/
def Eaten (w0 w : World) (T : List Fact) (cs : List CD) (us : List Value) : Prop := ∃ P, w0.heap.size ≤ P ∧ P ≤ w.heap.size ∧ (∀ e ∈ T, e.hi ≤ P) ∧ LayL w (rng P w.heap.size) cs us
theorem Eaten.start {w0 w : World} {T : List Fact} (h : Frg w0 w T) : Eaten w0 w T [] [] := ⟨w.heap.size, h.size, Nat.le_refl _, fun e he => (h.facts e he).2.1, LayL.nil _ _⟩
theorem Eaten.leaf {w0 w : World} {T : List Fact} {c : CD} {v : Value} {cs : List CD} {us : List Value} (h : Eaten w0 w T cs us) (hc : c.Lay w (fun _ => False) v) : Eaten w0 w T (c :: cs) (v :: us) := by
  obtain ⟨P, h1, h2, h3, h4⟩ := h
  exact ⟨P, h1, h2, h3, LayL.leaf hc h4⟩
theorem Eaten.eat {w0 w : World} {T : List Fact} {lo hi : Nat} {cs1 cs : List CD} {us1 us : List Value} (F : Frg w0 w (layF lo hi cs1 us1 :: T)) (h : Eaten w0 w (layF lo hi cs1 us1 :: T) cs us) : Eaten w0 w T (cs1 ++ cs) (us1 ++ us) := by
  obtain ⟨P, h1, h2, h3, h4⟩ := h
  have f := F.facts _ List.mem_cons_self
  have hh : hi ≤ P := h3 _ List.mem_cons_self
  have f1 : w0.heap.size ≤ lo := f.1
  refine ⟨min lo P, by omega, by omega, fun e he => ?_, LayL.append (F.lay List.mem_cons_self) h4 (fun j hj => ⟨by have := hj.1; omega, by have := hj.2; omega⟩) (fun j hj => ⟨by have := hj.1; omega, hj.2⟩) (fun j a b => by have := a.2; have := b.1; omega)⟩
  have a1 : e.hi ≤ lo := (List.pairwise_cons.1 F.apart).1 e he
  have a2 := h3 e (List.mem_cons_of_mem _ he)
  omega
theorem Eaten.skip {w0 w : World} {T : List Fact} {e : Fact} {cs : List CD} {us : List Value} (h : Eaten w0 w (e :: T) cs us) : Eaten w0 w T cs us := by
  obtain ⟨P, h1, h2, h3, h4⟩ := h
  exact ⟨P, h1, h2, fun x hx => h3 x (List.mem_cons_of_mem _ hx), h4⟩
theorem Eaten.fin {w0 w : World} {T : List Fact} {cs : List CD} {us : List Value} (h : Eaten w0 w T cs us) : LayL w (rng w0.heap.size w.heap.size) cs us := by
  obtain ⟨P, h1, h2, h3, h4⟩ := h
  exact h4.mono (fun j hj => ⟨by have := hj.1; omega, hj.2⟩)
theorem CD.sz_cp (c : CD) : c.cp.sz = c.sz := by
  cases c with
  | sl wd n x => exact CD.sz_cn (.sl wd n x)
  | _ => rfl
theorem szL_cp (cs : List CD) : szL (cs.map CD.cp) = szL cs := by
  unfold szL; rw [List.map_map]; congr 1; exact List.map_congr_left (fun c _ => CD.sz_cp c)
theorem Frg.tl {w0 w : World} {T : List Fact} {e : Fact} (F : Frg w0 w (e :: T)) : Frg w0 w T := F.sub (List.sublist_cons_self _ _)
end Go.Fk

/- 'laws.sameFloat': true of two words that are one up to the bits of NaN. -/
namespace Go.Proofs.Ythjdklolbkhbfaa
open Go.RowKit Go.Fk

theorem sameFloat_nan (x y : Nat) (w : World) (hx : isNan .f64 x = true) (hy : isNan .f64 y = true) :
    Calls Try.prog 13 #[.float .f64 x, .float .f64 y] w fun e w' => e = .returned (.bool true) ∧ ∃ n, w' = w.drewN n := by
  have h1 : FloatKind.f64.format.order x x = none := order_of_nan_l hx
  have h2 : FloatKind.f64.format.order y y = none := order_of_nan_l hy
  go_enter Try.func13, Try.ntmps13
  go_wp2
  go_ret
  exact ⟨rfl, 0, rfl⟩

theorem sameFloat_num (x : Nat) (w : World) (hx : isNan .f64 x = false) :
    Calls Try.prog 13 #[.float .f64 x, .float .f64 x] w fun e w' => e = .returned (.bool true) ∧ ∃ n, w' = w.drewN n := by
  have h1 : FloatKind.f64.format.order x x = some .eq := order_self hx
  cases h0 : (FloatKind.f64.format.order x 0 == some .eq)
  · go_enter Try.func13, Try.ntmps13
    go_wp2
    go_ret
    exact ⟨rfl, 0, rfl⟩
  · go_enter Try.func13, Try.ntmps13
    go_wp2_with (with_reducible refine wpList_farith rfl rfl rfl rfl rfl ?_; intro r n hr hf)
    rename_i r1 n1 hr1 _
    go_ret
    refine ⟨?_, _, rfl⟩
    rw [show FloatKind.f64.format.order r1 0 = FloatKind.f64.format.order r 0 from order_congr (hr1.trans hr.symm) rfl]
    simp

theorem sameFloat_yes (x y : Nat) (w : World) (h : can .f64 x = can .f64 y) :
    Calls Try.prog 13 #[.float .f64 x, .float .f64 y] w fun e w' => e = .returned (.bool true) ∧ ∃ n, w' = w.drewN n := by
  cases hx : isNan .f64 x
  · obtain rfl := eq_of_can h hx
    exact sameFloat_num x w hx
  · exact sameFloat_nan x y w hx (by rw [← isNan_of_can h, hx])
end Go.Proofs.Ythjdklolbkhbfaa

/- A region that draws its order, whose operations may draw the bits of a NaN: one walk, in the order of the text, serves every order, also where an operation's value is known up to a predicate alone. 'C': the worlds that may be met. 'K': what is known of what a call gives. Nothing here names a program. -/
namespace Go.Fk
open Go Go.RowKit

section
variable (P : Program) (ops : Array Oper) (md : Region.Mode) (C : World → Prop) (K : FuncId → Array Value → Value → Prop)

/-- What an operation's run must be, for its value to be one of V. -/
def within (V : Value → Prop) : Result Next → Prop
  | .ok (.value u) w' => C w' ∧ V u
  | .ok .skip w' => C w' ∧ V undef
  | .ok (.enter f args) w' => Calls P f args w' (fun e w'' => ∃ v, e = .returned v ∧ K f args v ∧ C w'') ∧ ∀ v, K f args v → V v
  | _ => False

/-- In every world of the class the operation gives a value of V (none of its own where its guard bars it). -/
def Gives (o : Oper) (a : Act) (V : Value → Prop) : Prop :=
  (Region.wanted o (yielded ops a.tmps) = true ∧ ∀ w, C w → within P C K V ((execOp a.eval o).run P w)) ∨ (Region.wanted o (yielded ops a.tmps) = false ∧ V undef)

/-- The walk in the order of the text. -/
def wpLoose (Q : Act → Prop) : List Oper → Act → Prop
  | [], a => Q a
  | o :: rest, a => ∃ V, Gives P ops C K o a V ∧ ∀ v, V v → wpLoose Q rest (a.put o.dst v)

/-- Whatever order is picked. -/
def anyLoose (Q : Act → Prop) : Nat → Array Bool → Act → Prop
  | 0, listed, a => Region.ready md ops listed = [] ∧ Q a
  | fuel + 1, listed, a => (Region.ready md ops listed = [] → Q a) ∧
      ∀ i ∈ Region.ready md ops listed, ∀ o, ops[i]? = some o → ∃ V, Gives P ops C K o a V ∧ ∀ v, V v → anyLoose Q fuel (listed.setIfInBounds i true) (a.put o.dst v)
end

section
variable {P : Program} {ops : Array Oper} {md : Region.Mode} {C : World → Prop} {K : FuncId → Array Value → Value → Prop}

theorem within_mono {V U : Value → Prop} (h : ∀ v, V v → U v) {r : Result Next} (hr : within P C K V r) : within P C K U r := by
  cases r with
  | ok n w' =>
    cases n <;> simp only [within] at hr ⊢
    case value u => exact ⟨hr.1, h _ hr.2⟩
    case skip => exact ⟨hr.1, h _ hr.2⟩
    case enter f args => exact ⟨hr.1, fun v hv => h v (hr.2 v hv)⟩
  | halt x w' => simp only [within] at hr

/-- What holds for each of a family of predicates, of which there is one, holds for all at once. -/
theorem within_all {ι : Type} {p : ι → Prop} {V : ι → Value → Prop} {r : Result Next} (hne : ∃ i, p i) (h : ∀ i, p i → within P C K (V i) r) : within P C K (fun v => ∀ i, p i → V i v) r := by
  obtain ⟨i0, h0⟩ := hne
  have hr := h i0 h0
  cases r with
  | ok n w' =>
    cases n <;> simp only [within] at hr h ⊢
    case value u => exact ⟨hr.1, fun i hi => (h i hi).2⟩
    case skip => exact ⟨hr.1, fun i hi => (h i hi).2⟩
    case enter f args => exact ⟨hr.1, fun v hv i hi => (h i hi).2 v hv⟩
  | halt x w' => simp only [within] at hr

theorem Gives.same {o : Oper} {a a' : Act} {V : Value → Prop} (he : execOp a'.eval o = execOp a.eval o) (hw : Region.wanted o (yielded ops a'.tmps) = Region.wanted o (yielded ops a.tmps))
    (h : Gives P ops C K o a V) : Gives P ops C K o a' V := by
  unfold Gives at *; rw [he, hw]; exact h

theorem within_some {V : Value → Prop} {r : Result Next} (h : within P C K V r) : ∃ v, V v := by
  cases r with
  | ok n w' =>
    cases n <;> simp only [within] at h
    case value u => exact ⟨u, h.2⟩
    case skip => exact ⟨undef, h.2⟩
    case enter f args =>
      obtain ⟨e, w'', fr, ⟨v, _, hk, _⟩, _⟩ := h.1 []
      exact ⟨v, h.2 v hk⟩
  | halt x w' => simp only [within] at h
theorem Gives.some (hC : ∃ w, C w) {o : Oper} {a : Act} {V : Value → Prop} (h : Gives P ops C K o a V) : ∃ v, V v := by
  obtain ⟨w, hw⟩ := hC
  rcases h with ⟨_, h⟩ | ⟨_, h⟩
  · exact within_some (h w hw)
  · exact ⟨undef, h⟩

theorem anyLoose_sound {Q : Act → Prop} {Q' : Exit → Act → World → Prop} (hQ : ∀ a w, C w → Q a → Q' .normal a w) : ∀ (fuel : Nat) (listed : Array Bool) (a : Act) (w : World), C w →
    anyLoose P ops md C K Q fuel listed a → wpAny P md ops Q' fuel listed a w := by
  intro fuel
  induction fuel with
  | zero => intro listed a w hw h; exact ⟨h.1, hQ a w hw h.2⟩
  | succ fuel ih =>
    intro listed a w hw h
    refine ⟨fun h0 => hQ a w hw (h.1 h0), fun i hi => ?_⟩
    obtain ⟨_, o, ho, _⟩ := mem_ready.1 hi
    obtain ⟨V, hg, hn⟩ := h.2 i hi o ho
    unfold wpOp
    simp only [ho]
    rcases hg with ⟨hwant, hv⟩ | ⟨hwant, hv⟩
    · rw [if_pos hwant]
      left
      have h3 := hv w hw
      unfold Oper.wp
      generalize (execOp a.eval o).run P w = r at h3
      cases r with
      | ok n w' =>
        cases n <;> simp only [within] at h3 <;> simp only [Oper.upon]
        case value u => exact ih _ _ _ h3.1 (hn u h3.2)
        case skip => exact ih _ _ _ h3.1 (hn undef h3.2)
        case enter f args =>
          refine h3.1.mono fun e w'' he => ?_
          obtain ⟨v, rfl, hk, hc⟩ := he
          exact ih _ _ _ hc (hn v (h3.2 v hk))
      | halt x w' => simp only [within] at h3
    · rw [if_neg (by simp [hwant])]
      exact ih _ _ _ hw (hn undef hv)

/-- What may come up now may be taken first. -/
theorem anyLoose_first {Q : Act → Prop} {i : Nat} {oi : Oper} {V : Value → Prop} (hi : ops[i]? = some oi) (hsel : ∀ (j : Nat) (o : Oper) cs b, ops[j]? = some o → o.op ≠ .select cs b) (hne : ∃ v, V v) :
    ∀ (fuel : Nat) (listed : Array Bool) (a : Act),
      (∀ j oj, ops[j]? = some oj → j ≠ i → listed.getD j true = false → (∀ e ∈ oj.after, Region.binds md e = true → e.on ≠ i) → oi.apart ops oj = true) →
      i ∈ Region.ready md ops listed → Gives P ops C K oi a V →
      (∀ v, V v → anyLoose P ops md C K Q fuel (listed.setIfInBounds i true) (a.put oi.dst v)) → anyLoose P ops md C K Q (fuel + 1) listed a := by
  intro fuel
  induction fuel with
  | zero =>
    intro listed a _ hr hg H
    refine ⟨fun h => (by rw [h] at hr; cases hr), fun j hj o ho => ?_⟩
    by_cases hji : j = i
    · subst hji
      rw [hi] at ho; cases ho
      exact ⟨V, hg, H⟩
    · obtain ⟨v, hv⟩ := hne
      have h1 := ready_mono hj hji
      rw [(H v hv).1] at h1
      cases h1
  | succ fuel ih =>
    intro listed a hfree hr hg H
    refine ⟨fun h => (by rw [h] at hr; cases hr), fun j hj o ho => ?_⟩
    by_cases hji : j = i
    · subst hji
      rw [hi] at ho; cases ho
      exact ⟨V, hg, H⟩
    · obtain ⟨hjun, oj, hoj, hall⟩ := mem_ready.1 hj
      rw [ho] at hoj; cases hoj
      have hnot : ∀ e ∈ o.after, Region.binds md e = true → e.on ≠ i := fun e he hb heq => by
        have h1 := hall e he hb
        have h0 := (mem_ready.1 hr).1
        rw [heq] at h1
        rcases Nat.lt_or_ge i listed.size with h' | h'
        · simp [h'] at h0 h1; rw [h0] at h1; cases h1
        · simp [Array.getElem?_eq_none h'] at h1
      have hap := hfree j o ho hji hjun hnot
      obtain ⟨a1, a2, a3⟩ := Oper.apart_spec hap
      have hsi := fun cs b => hsel i oi cs b hi
      have hsj := fun cs b => hsel j o cs b ho
      -- at each value of the first, the other one has its predicate; all of them at once
      have hU : ∀ v : {v // V v}, ∃ U, Gives P ops C K o (a.put oi.dst v.1) U ∧ ∀ u, U u → anyLoose P ops md C K Q fuel ((listed.setIfInBounds i true).setIfInBounds j true) ((a.put oi.dst v.1).put o.dst u) :=
        fun v => (H v.1 v.2).2 j (ready_mono hj hji) o ho
      obtain ⟨v0, hv0⟩ := hne
      let good : Value → Prop := fun u => ∀ v : {v // V v}, True → anyLoose P ops md C K Q fuel ((listed.setIfInBounds i true).setIfInBounds j true) ((a.put oi.dst v.1).put o.dst u)
      have hgood : Gives P ops C K o a good := by
        have hone : ∀ v : {v // V v}, Gives P ops C K o a (fun u => anyLoose P ops md C K Q fuel ((listed.setIfInBounds i true).setIfInBounds j true) ((a.put oi.dst v.1).put o.dst u)) := fun v => by
          obtain ⟨U, h1, h2⟩ := hU v
          have h1' : Gives P ops C K o a U := h1.same (execOp_put o hsj a oi.dst v.1 a1).symm (wanted_put o a oi.dst v.1 a1).symm
          rcases h1' with ⟨hw, h3⟩ | ⟨hw, h3⟩
          · exact .inl ⟨hw, fun w hw' => within_mono h2 (h3 w hw')⟩
          · exact .inr ⟨hw, h2 _ h3⟩
        by_cases hw : Region.wanted o (yielded ops a.tmps) = true
        · refine .inl ⟨hw, fun w hw' => ?_⟩
          refine within_all ⟨⟨v0, hv0⟩, trivial⟩ (fun v _ => ?_)
          rcases hone v with ⟨_, h3⟩ | ⟨h3, _⟩
          · exact h3 w hw'
          · rw [hw] at h3; cases h3
        · refine .inr ⟨by simpa using hw, fun v _ => ?_⟩
          rcases hone v with ⟨h3, _⟩ | ⟨_, h3⟩
          · exact absurd h3 hw
          · exact h3
      refine ⟨good, hgood, ?_⟩
      · intro u hu
        have hfree' : ∀ k ok, ops[k]? = some ok → k ≠ i → (listed.setIfInBounds j true).getD k true = false →
            (∀ e ∈ ok.after, Region.binds md e = true → e.on ≠ i) → oi.apart ops ok = true := fun k ok hk hki hun hno => by
          refine hfree k ok hk hki ?_ hno
          by_cases hjk : j = k
          · subst hjk; exact hjun
          · rw [getD_set_ne true hjk] at hun; exact hun
        refine ih (listed.setIfInBounds j true) (a.put o.dst u) hfree' (ready_mono hr (Ne.symm hji)) (hg.same (execOp_put oi hsi a o.dst u a3) (wanted_put oi a o.dst u a3)) (fun v hv => ?_)
        rw [Array.setIfInBounds_comm _ _ hji, ← Act.put_comm a v u a2]
        exact hu ⟨v, hv⟩ trivial

theorem anyLoose_lex {Q : Act → Prop} (hC : ∃ w, C w) (hs : Region.noSelect ops = true) : ∀ (l : List Oper) (k : Nat) (listed : Array Bool) (a : Act), (∀ j, l[j]? = ops[k + j]?) →
    Region.lexFrom md ops l.length k listed = true → wpLoose P ops C K Q l a → anyLoose P ops md C K Q l.length listed a := by
  intro l
  induction l with
  | nil => intro k listed a _ hB h; exact ⟨by simpa [Region.lexFrom] using hB, h⟩
  | cons o l ih =>
    intro k listed a hl hB h
    have h0 : ops[k]? = some o := by simpa using (hl 0).symm
    simp only [List.length_cons, Region.lexFrom, Bool.and_eq_true] at hB
    obtain ⟨⟨hr, hf⟩, hB'⟩ := hB
    obtain ⟨V, hg, hn⟩ := h
    exact anyLoose_first h0 (Region.noSelect_spec hs) (hg.some hC) l.length listed a (Region.free_spec h0 hf) (by simpa using hr) hg
      (fun v hv => ih (k + 1) _ _ (fun j => by have := hl (j + 1); simpa [Nat.add_assoc, Nat.add_comm 1 j] using this) hB' (hn v hv))

/-- ONE WALK SERVES EVERY ORDER. -/
theorem wp_region_loose (K : FuncId → Array Value → Value → Prop) {id : Nat} {Q : Exit → Act → World → Prop} {a : Act} {w : World} {l : List Oper} (hm : P.follows .mixedOrders = true) (hB : Region.lexB .any l.toArray = true)
    (h : wpLoose P l.toArray (fun w' => ∃ n, w' = w.drewN n) K (fun a' => ∀ n, Q .normal a' (w.drewN n)) l a) : (Code.region id l.toArray true).wp P Q a w := by
  simp only [Region.lexB, Bool.and_eq_true] at hB
  have hC : ∃ n, ({ w with drawn := w.drawn + 1 } : World) = w.drewN n := ⟨1, rfl⟩
  refine wp_region_any hm (anyLoose_sound (C := fun w' => ∃ n, w' = w.drewN n) (K := K) (Q := fun a' => ∀ n, Q .normal a' (w.drewN n)) (fun a' w' hw' h' => by obtain ⟨n, rfl⟩ := hw'; exact h' n) _ _ _ _ hC ?_)
  have := anyLoose_lex (md := .any) ⟨_, hC⟩ hB.1 l 0 (Array.replicate l.toArray.size false) a (by simp) (by simpa using hB.2) h
  simpa using this

theorem wpLoose_nil {Q : Act → Prop} {a : Act} (h : Q a) : wpLoose P ops C K Q [] a := h
theorem andThen_value {α : Type} (r : Result α) (f : α → Next) {f' : FuncId} {args : Array Value} {w' : World} (h : (r.andThen fun x w'' => .ok (f x) w'') = .ok (.enter f' args) w') : ∃ x, f x = .enter f' args := by
  cases r with
  | ok x w => simp only [Result.andThen, Result.ok.injEq] at h; exact ⟨x, h.1⟩
  | halt x w => simp [Result.andThen] at h

/-- Operations that surely enter no function. -/
def simple : Op → Bool
  | .nilCheck _ | .call _ | .go _ | .defer _ | .recv .. | .select .. => false
  | _ => true
/-- Only a call enters a function. -/
theorem noEnter {P : Program} {ρ : Operand → Value} {o : Oper} (hnc : simple o.op = true) {w w' : World} {f : FuncId} {args : Array Value} : (execOp ρ o).run P w ≠ .ok (.enter f args) w' := by
  intro h
  unfold execOp at h
  cases ho : o.op <;> simp only [ho, simple] at h hnc
  all_goals first
    | (cases hnc; done)
    | (simp only [Sem.run_bind, Sem.run_pure] at h; obtain ⟨x, hx⟩ := andThen_value _ _ h; cases hx; done)
    | (simp at h; done)

/-- A quiet operation is a loose one: one value, in the very world. -/
theorem wpLoose_quiet {Q : Act → Prop} {o : Oper} {rest : List Oper} {a : Act} (hnc : simple o.op = true) (h : wpQuiet P ops C (fun a' => wpLoose P ops C K Q rest a') [o] a) : wpLoose P ops C K Q (o :: rest) a := by
  simp only [wpQuiet] at h
  by_cases hw : Region.wanted o (yielded ops a.tmps) = true
  · rw [if_pos hw] at h
    obtain ⟨v, h1, h2⟩ := h
    refine ⟨(· = v), .inl ⟨hw, fun w hw' => ?_⟩, fun u hu => by rw [hu]; exact h2⟩
    have h3 := h1 w hw'
    unfold Oper.quietAt at h3
    generalize hrun : (execOp a.eval o).run P w = r at h3
    cases r with
    | ok n w' =>
      cases n <;> simp only [Oper.quietUpon] at h3 <;> simp only [within]
      case value u => exact ⟨by rw [h3.1]; exact hw', h3.2⟩
      case skip => exact ⟨by rw [h3.1]; exact hw', h3.2.symm⟩
      case enter f args => exact (noEnter hnc hrun).elim
    | halt x w' => simp only [Oper.quietUpon] at h3
  · rw [if_neg hw] at h
    exact ⟨(· = undef), .inr ⟨by simpa using hw, rfl⟩, fun u hu => by rw [hu]; exact h⟩
end
end Go.Fk

/- Bounds on the size of rounded floats: the word nearest to a number below a power of two. Nothing here names a program. -/
namespace Go.Fk
open Go Go.RowKit

/-- What is cut off at 'drop' digits, to the nearest, is at most one more than the quotient. -/
theorem cut_le (s : Bool) (n drop K : Nat) (h : n < 2 ^ (K + drop)) : Ieee.Toward.even.cut s n drop ≤ 2 ^ K := by
  by_cases hn : n = 0
  · subst hn
    have hp := Nat.two_pow_pos K
    simp only [Ieee.Toward.cut]
    have h2 : (0 : Nat) / (1 <<< min drop (Nat.log2 0 + 2)) = 0 := Nat.zero_div _
    rw [h2, Nat.zero_mod]
    simp
  · simp only [Ieee.Toward.cut]
    have hb : ∀ b : Bool, b.toNat ≤ 1 := by intro b; cases b <;> simp
    have hlt : n / (1 <<< min drop (n.log2 + 2)) < 2 ^ K := by
      rw [Nat.one_shiftLeft]
      by_cases hd : drop ≤ n.log2 + 2
      · rw [Nat.min_eq_left hd]
        rw [Nat.div_lt_iff_lt_mul (Nat.two_pow_pos _), ← Nat.pow_add]
        exact h
      · rw [Nat.min_eq_right (by omega)]
        rw [Nat.div_lt_iff_lt_mul (Nat.two_pow_pos _)]
        have h1 : n < 2 ^ (n.log2 + 1) := Nat.lt_log2_self
        calc n < 2 ^ (n.log2 + 1) := h1
          _ ≤ 2 ^ (n.log2 + 2) := Nat.pow_le_pow_right (by omega) (by omega)
          _ ≤ 2 ^ K * 2 ^ (n.log2 + 2) := Nat.le_mul_of_pos_left _ (Nat.two_pow_pos _)
    exact Nat.le_trans (Nat.add_le_add_left (hb _) _) (by omega)

/-- The rung of the word nearest to a number below '2 ^ A'. -/
theorem nearest_rung (f : Ieee.Format) (s : Bool) (m : Nat) (e A : Int) (hm : m ≠ 0) (hA : e + m.log2 + 1 ≤ A) (hl : f.leastPlace + f.fractionBits + 1 ≤ A) :
    ∃ r, f.nearest s m e = f.word s r ∧ r ≤ f.infRung ∧ (r : Int) ≤ (A - f.fractionBits - f.leastPlace + 1) * f.binade := by
  unfold Ieee.Format.nearest
  rw [if_neg hm]
  refine ⟨_, rfl, Nat.min_le_right _ _, ?_⟩
  generalize hlast : max (e + m.log2 - f.fractionBits) f.leastPlace = last
  have hlow : f.leastPlace ≤ last := by omega
  have hlast2 : e + m.log2 - f.fractionBits ≤ last := by omega
  have hlast3 : last ≤ A - 1 - f.fractionBits := by omega
  have hkept : Ieee.Toward.even.cut s (m <<< (e - last).toNat) (last - e).toNat ≤ 2 ^ (f.fractionBits + 1) := by
    apply cut_le
    rw [Nat.shiftLeft_eq]
    have h1 : m < 2 ^ (m.log2 + 1) := Nat.lt_log2_self
    calc m * 2 ^ (e - last).toNat < 2 ^ (m.log2 + 1) * 2 ^ (e - last).toNat := Nat.mul_lt_mul_of_pos_right h1 (Nat.two_pow_pos _)
      _ = 2 ^ (m.log2 + 1 + (e - last).toNat) := by rw [← Nat.pow_add]
      _ ≤ 2 ^ (f.fractionBits + 1 + (last - e).toNat) := Nat.pow_le_pow_right (by omega) (by omega)
  generalize Ieee.Toward.even.cut s (m <<< (e - last).toNat) (last - e).toNat = kept at hkept
  have hb : f.binade = 2 ^ f.fractionBits := rfl
  rw [Nat.pow_succ, ← hb] at hkept
  have h1 : min ((last - f.leastPlace).toNat * f.binade + kept) f.infRung ≤ (last - f.leastPlace).toNat * f.binade + kept := Nat.min_le_left _ _
  have h2 : (((last - f.leastPlace).toNat * f.binade + kept : Nat) : Int) ≤ (last - f.leastPlace) * f.binade + f.binade * 2 := by
    rw [Int.natCast_add, Int.natCast_mul, Int.toNat_of_nonneg (by omega)]
    have : (kept : Int) ≤ (f.binade : Int) * 2 := by exact_mod_cast hkept
    omega
  have h3 : (last - f.leastPlace) * (f.binade : Int) + f.binade * 2 = (last - f.leastPlace + 2) * f.binade := by
    rw [Int.add_mul]; omega
  have h4 : (last - f.leastPlace + 2) * (f.binade : Int) ≤ (A - f.fractionBits - f.leastPlace + 1) * f.binade :=
    Int.mul_le_mul_of_nonneg_right (by omega) (by omega)
  omega

theorem word_mod (f : Ieee.Format) (s : Bool) {r : Nat} (h : r < f.signWeight) : f.word s r % f.signWeight = r := by
  unfold Ieee.Format.word
  split
  · rw [Nat.add_mod_left, Nat.mod_eq_of_lt h]
  · exact Nat.mod_eq_of_lt h

/-- A finite number below '2 ^ A' in size. -/
def lt (k : FloatKind) (b : Nat) (A : Int) : Prop := ∃ s m e, k.format.read b = .number s m e ∧ (m ≠ 0 → e + m.log2 + 1 ≤ A)

theorem lt.mono {k : FloatKind} {b : Nat} {A B : Int} (h : lt k b A) (hAB : A ≤ B) : lt k b B := by
  obtain ⟨s, m, e, hr, hm⟩ := h
  exact ⟨s, m, e, hr, fun h0 => by have := hm h0; omega⟩
theorem lt.notNan {k : FloatKind} {b : Nat} {A : Int} (h : lt k b A) : isNan k b = false := by
  obtain ⟨s, m, e, hr, _⟩ := h
  simp [isNan, hr, Ieee.Datum.isNaN]

theorem read_word (k : FloatKind) (s : Bool) {r : Nat} (h : r < k.format.infRung) :
    ∃ s' m e, k.format.read (k.format.word s r) = .number s' m e ∧ (m ≠ 0 → m.log2 ≤ k.format.fractionBits ∧ (e + m.log2 + 1 - k.format.fractionBits - k.format.leastPlace ≤ max 0 ((r / k.format.binade : Nat) : Int))) := by
  have hs : k.format.infRung < k.format.signWeight := Ieee.Format.infRung_lt _
  unfold Ieee.Format.read
  rw [word_mod _ _ (by omega)]
  have hb : k.format.binade = 2 ^ k.format.fractionBits := rfl
  have hbp : 0 < k.format.binade := by rw [hb]; exact Nat.two_pow_pos _
  dsimp only
  split
  · rename_i h1
    refine ⟨_, _, _, rfl, fun h0 => ?_⟩
    rw [hb] at h1
    have := (Nat.log2_lt h0).2 h1
    omega
  · rename_i h1
    refine ⟨_, _, _, rfl, fun h0 => ?_⟩
    have e1 : (k.format.binade + r % k.format.binade).log2 = k.format.fractionBits := by
      refine (Nat.log2_eq_iff h0).2 ⟨?_, ?_⟩
      · rw [← hb]; omega
      · rw [Nat.pow_succ, ← hb]
        have := Nat.mod_lt r hbp
        omega
    rw [e1]
    have h2 : 1 ≤ r / k.format.binade := (Nat.le_div_iff_mul_le hbp).2 (by omega)
    omega

theorem lt_nearest (k : FloatKind) (s : Bool) (m : Nat) (e A : Int) (hA : m ≠ 0 → e + m.log2 + 1 ≤ A) (lo : k.format.leastPlace + k.format.fractionBits + 1 ≤ A)
    (hi : (A - k.format.fractionBits - k.format.leastPlace + 1) * k.format.binade < k.format.infRung) : lt k (k.format.nearest s m e) (A + 1) := by
  have hb : k.format.binade = 2 ^ k.format.fractionBits := rfl
  have hbp : 0 < k.format.binade := by rw [hb]; exact Nat.two_pow_pos _
  have key : ∀ r : Nat, (r : Int) ≤ (A - k.format.fractionBits - k.format.leastPlace + 1) * k.format.binade → lt k (k.format.word s r) (A + 1) := by
    intro r hr
    obtain ⟨s', m', e', hread, hm'⟩ := read_word k s (r := r) (by omega)
    refine ⟨s', m', e', hread, fun h0 => ?_⟩
    have := (hm' h0).2
    have h3 : ((r / k.format.binade : Nat) : Int) ≤ A - k.format.fractionBits - k.format.leastPlace + 1 := by
      rw [Int.natCast_ediv]
      exact Int.ediv_le_of_le_mul (by omega) hr
    omega
  by_cases hm : m = 0
  · subst hm
    have : k.format.nearest s 0 e = k.format.word s 0 := by simp [Ieee.Format.nearest]
    rw [this]
    refine key 0 ?_
    have : 0 ≤ (A - k.format.fractionBits - k.format.leastPlace + 1) * (k.format.binade : Int) := Int.mul_nonneg (by omega) (by omega)
    omega
  · obtain ⟨r, hr, _, h2⟩ := nearest_rung k.format s m e A hm (hA hm) lo
    rw [hr]
    exact key r h2

theorem log2_mul_le {m n : Nat} (hm : m ≠ 0) (hn : n ≠ 0) : (m * n).log2 ≤ m.log2 + n.log2 + 1 := by
  have h0 : m * n ≠ 0 := Nat.mul_ne_zero hm hn
  have h1 : m * n < 2 ^ (m.log2 + n.log2 + 2) := by
    have a := @Nat.lt_log2_self m
    have b := @Nat.lt_log2_self n
    calc m * n < 2 ^ (m.log2 + 1) * 2 ^ (n.log2 + 1) := Nat.mul_lt_mul'' a b
      _ = 2 ^ (m.log2 + n.log2 + 2) := by rw [← Nat.pow_add]; congr 1; omega
  have := (Nat.log2_lt h0).2 h1
  omega

/-- What stands for a format's place for bounds: from 'lo' on nothing is lost, up to 'hi' nothing overflows. -/
def fine (k : FloatKind) (A : Int) : Prop := k.format.leastPlace + k.format.fractionBits + 1 ≤ A ∧ (A - k.format.fractionBits - k.format.leastPlace + 1) * k.format.binade < k.format.infRung

theorem lt_mul {k : FloatKind} {x y : Nat} {A B : Int} (hx : lt k x A) (hy : lt k y B) (hf : fine k (A + B)) :
    ∃ r, floatBits .mul k x y = some r ∧ lt k r (A + B + 1) := by
  obtain ⟨s, m, i, hr, hm⟩ := hx
  obtain ⟨t, n, j, hr2, hn⟩ := hy
  refine ⟨_, by simp only [floatBits, Ieee.Format.mul, hr, hr2, Ieee.Datum.product, Option.map_some]; rfl, ?_⟩
  refine lt_nearest k _ _ _ _ (fun h0 => ?_) hf.1 hf.2
  have m0 : m ≠ 0 := fun h => h0 (by rw [h, Nat.zero_mul])
  have n0 : n ≠ 0 := fun h => h0 (by rw [h, Nat.mul_zero])
  have := log2_mul_le m0 n0
  have := hm m0
  have := hn n0
  omega

theorem signed_natAbs (s : Bool) (m up : Nat) : (Ieee.signed s m up).natAbs = m * 2 ^ up := by
  unfold Ieee.signed
  rw [Nat.shiftLeft_eq]
  split
  · rw [Int.natAbs_neg, Int.natAbs_natCast]
  · rw [Int.natAbs_natCast]

theorem sum_bound {s t : Bool} {m n : Nat} {i j A B : Int} (hm : m ≠ 0 → i + m.log2 + 1 ≤ A) (hn : n ≠ 0 → j + n.log2 + 1 ≤ B) :
    let base := min i j
    let total := Ieee.signed s m (i - base).toNat + Ieee.signed t n (j - base).toNat
    total.natAbs ≠ 0 → base + total.natAbs.log2 + 1 ≤ max A B + 1 := by
  intro base total h0
  have hb1 : base ≤ i := by omega
  have hb2 : base ≤ j := by omega
  have hab : total.natAbs ≤ m * 2 ^ (i - base).toNat + n * 2 ^ (j - base).toNat := by
    rw [← signed_natAbs s, ← signed_natAbs t]
    exact Int.natAbs_add_le _ _
  -- each limb lies below 2 ^ (max A B - base)
  have limb : ∀ (m : Nat) (i A : Int), base ≤ i → (m ≠ 0 → i + m.log2 + 1 ≤ A) → m ≠ 0 → m * 2 ^ (i - base).toNat < 2 ^ (A - base).toNat := by
    intro m i A hb hm h
    have h1 := hm h
    calc m * 2 ^ (i - base).toNat < 2 ^ (m.log2 + 1) * 2 ^ (i - base).toNat := Nat.mul_lt_mul_of_pos_right Nat.lt_log2_self (Nat.two_pow_pos _)
      _ = 2 ^ (m.log2 + 1 + (i - base).toNat) := by rw [← Nat.pow_add]
      _ ≤ 2 ^ (A - base).toNat := Nat.pow_le_pow_right (by omega) (by omega)
  by_cases m0 : m = 0
  · by_cases n0 : n = 0
    · subst m0; subst n0
      simp only [Nat.zero_mul, Nat.add_zero, Nat.le_zero] at hab
      exact absurd hab h0
    · have h1 := limb n j B hb2 hn n0
      have h2 : total.natAbs < 2 ^ (B - base).toNat := by subst m0; simp only [Nat.zero_mul, Nat.zero_add] at hab; omega
      have h3 := (Nat.log2_lt h0).2 h2
      have := hn n0
      omega
  · by_cases n0 : n = 0
    · have h1 := limb m i A hb1 hm m0
      have h2 : total.natAbs < 2 ^ (A - base).toNat := by subst n0; simp only [Nat.zero_mul, Nat.add_zero] at hab; omega
      have h3 := (Nat.log2_lt h0).2 h2
      have := hm m0
      omega
    · have h1 := limb m i A hb1 hm m0
      have h1' := limb n j B hb2 hn n0
      have a1 := hm m0
      have a2 := hn n0
      have e1 : 2 ^ (A - base).toNat ≤ 2 ^ (max A B - base).toNat := Nat.pow_le_pow_right (by omega) (by omega)
      have e2 : 2 ^ (B - base).toNat ≤ 2 ^ (max A B - base).toNat := Nat.pow_le_pow_right (by omega) (by omega)
      have h2 : total.natAbs < 2 ^ ((max A B - base).toNat + 1) := by rw [Nat.pow_succ]; omega
      have h3 := (Nat.log2_lt h0).2 h2
      omega

theorem lt_add {k : FloatKind} {x y : Nat} {A B : Int} (hx : lt k x A) (hy : lt k y B) (hf : fine k (max A B + 1)) :
    ∃ r, floatBits .add k x y = some r ∧ lt k r (max A B + 2) := by
  obtain ⟨s, m, i, hr, hm⟩ := hx
  obtain ⟨t, n, j, hr2, hn⟩ := hy
  refine ⟨_, by simp only [floatBits, Ieee.Format.add, hr, hr2, Ieee.Datum.sum, Option.map_some]; rfl, ?_⟩
  exact (lt_nearest k _ _ _ _ (sum_bound hm hn) hf.1 hf.2).mono (by omega)
theorem lt_sub {k : FloatKind} {x y : Nat} {A B : Int} (hx : lt k x A) (hy : lt k y B) (hf : fine k (max A B + 1)) :
    ∃ r, floatBits .sub k x y = some r ∧ lt k r (max A B + 2) := by
  obtain ⟨s, m, i, hr, hm⟩ := hx
  obtain ⟨t, n, j, hr2, hn⟩ := hy
  refine ⟨_, by simp only [floatBits, Ieee.Format.sub, hr, hr2, Ieee.Datum.opposite, Ieee.Datum.sum, Option.map_some]; rfl, ?_⟩
  exact (lt_nearest k _ _ _ _ (sum_bound hm hn) hf.1 hf.2).mono (by omega)

/-- A number of size at least '2 ^ C'. -/
def ge (k : FloatKind) (b : Nat) (C : Int) : Prop := ∃ s m e, k.format.read b = .number s m e ∧ m ≠ 0 ∧ C ≤ e + m.log2

theorem lt_quo {k : FloatKind} {x y : Nat} {A C : Int} (hx : lt k x A) (hy : ge k y C) (hf : fine k (A - C + 1)) :
    ∃ r, floatBits .quo k x y = some r ∧ lt k r (A - C + 2) := by
  obtain ⟨s, m, i, hr, hm⟩ := hx
  obtain ⟨t, n, j, hr2, n0, hn⟩ := hy
  refine ⟨_, by simp only [floatBits, Ieee.Format.div, hr, hr2, Ieee.Datum.quotient, if_neg n0, Option.map_some]; rfl, ?_⟩
  refine (lt_nearest k _ _ _ (A - C + 1) (fun h0 => ?_) hf.1 hf.2).mono (by omega)
  generalize hmore : k.format.fractionBits + 2 + n.log2 - m.log2 = more at *
  by_cases m0 : m = 0
  · subst m0
    simp at h0
  have h1 : m <<< more < 2 ^ (m.log2 + 1 + more) := by
    rw [Nat.shiftLeft_eq, Nat.pow_add]
    exact Nat.mul_lt_mul_of_pos_right Nat.lt_log2_self (Nat.two_pow_pos _)
  have h2 : 2 ^ n.log2 ≤ n := Nat.log2_self_le n0
  have hge : n.log2 ≤ m.log2 + 1 + more := by omega
  have h3 : m <<< more / n < 2 ^ (m.log2 + 1 + more - n.log2) := by
    rw [Nat.div_lt_iff_lt_mul (by omega)]
    calc m <<< more < 2 ^ (m.log2 + 1 + more) := h1
      _ = 2 ^ (m.log2 + 1 + more - n.log2) * 2 ^ n.log2 := by rw [← Nat.pow_add]; congr 1; omega
      _ ≤ 2 ^ (m.log2 + 1 + more - n.log2) * n := Nat.mul_le_mul_left _ h2
  have hb : ∀ b : Bool, b.toNat ≤ 1 := by intro b; cases b <;> simp
  have h4 : 2 * (m <<< more / n) + (m <<< more % n != 0).toNat < 2 ^ (m.log2 + 2 + more - n.log2) := by
    have e : m.log2 + 2 + more - n.log2 = m.log2 + 1 + more - n.log2 + 1 := by omega
    rw [e, Nat.pow_succ]
    have := hb (m <<< more % n != 0)
    omega
  have h5 := (Nat.log2_lt h0).2 h4
  have := hm m0
  omega
end Go.Fk

/- Conversions between the two widths of floats, up to the bits of NaN. Nothing here names a program. -/
namespace Go.Fk
open Go Go.RowKit

/-- What 'float64(x)' of a narrow x is, up to the bits of NaN. -/
def widen (b : Nat) : Nat := match FloatKind.f32.format.read b with
  | .nan _ _ => qnan .f64
  | d => FloatKind.f64.encode d
/-- What 'float32(x)' of a wide x is, up to the bits of NaN, where it does not overflow. -/
def narrow (b : Nat) : Nat := match FloatKind.f64.format.read b with
  | .nan _ _ => qnan .f32
  | d => FloatKind.f32.encode d

theorem widen_can (b : Nat) : widen (can .f32 b) = widen b := by
  cases h : isNan .f32 b
  · rw [can_of_not h]
  · rw [can_of_nan h]
    obtain ⟨s, t, hr⟩ := read_nan h
    obtain ⟨s', t', hr'⟩ := read_nan (isNan_qnan .f32)
    simp only [widen, hr, hr']
theorem widen_congr {a b : Nat} (h : can .f32 a = can .f32 b) : widen a = widen b := by rw [← widen_can a, h, widen_can]
theorem narrow_can (b : Nat) : narrow (can .f64 b) = narrow b := by
  cases h : isNan .f64 b
  · rw [can_of_not h]
  · rw [can_of_nan h]
    obtain ⟨s, t, hr⟩ := read_nan h
    obtain ⟨s', t', hr'⟩ := read_nan (isNan_qnan .f64)
    simp only [narrow, hr, hr']
theorem narrow_congr {a b : Nat} (h : can .f64 a = can .f64 b) : narrow a = narrow b := by rw [← narrow_can a, h, narrow_can]

/-- Every finite narrow number lies below '2 ^ 128'. -/
theorem lt32 {b : Nat} {s : Bool} {m : Nat} {e : Int} (h : FloatKind.f32.format.read b = .number s m e) : m ≠ 0 → e + m.log2 + 1 ≤ 128 := by
  intro h0
  have e1 : Ieee.single.signWeight = 2147483648 := by decide
  have e2 : Ieee.single.infRung = 2139095040 := by decide
  have e3 : Ieee.single.binade = 8388608 := by decide
  have e4 : Ieee.single.leastPlace = -149 := by decide
  simp only [FloatKind.format, Ieee.Format.read, e1, e2, e3, e4] at h
  split at h
  · simp only [Ieee.Datum.number.injEq] at h
    obtain ⟨_, rfl, rfl⟩ := h
    have : (b % 2147483648).log2 < 23 := (Nat.log2_lt h0).2 (by omega)
    omega
  · split at h
    · simp only [Ieee.Datum.number.injEq] at h
      obtain ⟨_, rfl, rfl⟩ := h
      have : (8388608 + b % 2147483648 % 8388608).log2 < 24 := (Nat.log2_lt h0).2 (by omega)
      omega
    · split at h <;> cases h
/-- Every finite wide number lies below '2 ^ 1024'. -/
theorem lt64 {b : Nat} {s : Bool} {m : Nat} {e : Int} (h : FloatKind.f64.format.read b = .number s m e) : m ≠ 0 → e + m.log2 + 1 ≤ 1024 := by
  intro h0
  have e1 : Ieee.double.signWeight = 9223372036854775808 := by decide
  have e2 : Ieee.double.infRung = 9218868437227405312 := by decide
  have e3 : Ieee.double.binade = 4503599627370496 := by decide
  have e4 : Ieee.double.leastPlace = -1074 := by decide
  simp only [FloatKind.format, Ieee.Format.read, e1, e2, e3, e4] at h
  split at h
  · simp only [Ieee.Datum.number.injEq] at h
    obtain ⟨_, rfl, rfl⟩ := h
    have : (b % 9223372036854775808).log2 < 52 := (Nat.log2_lt h0).2 (by omega)
    omega
  · split at h
    · simp only [Ieee.Datum.number.injEq] at h
      obtain ⟨_, rfl, rfl⟩ := h
      have : (4503599627370496 + b % 9223372036854775808 % 4503599627370496).log2 < 53 := (Nat.log2_lt h0).2 (by omega)
      omega
    · split at h <;> cases h

theorem fine64 {A : Int} (h1 : -1021 ≤ A) (h2 : A ≤ 1022) : fine .f64 A := by
  have e2 : Ieee.double.infRung = 9218868437227405312 := by decide
  have e3 : Ieee.double.binade = 4503599627370496 := by decide
  have e4 : Ieee.double.leastPlace = -1074 := by decide
  have e5 : Ieee.double.fractionBits = 52 := by decide
  simp only [fine, FloatKind.format, e2, e3, e4, e5]
  omega
theorem fine32 {A : Int} (h1 : -125 ≤ A) (h2 : A ≤ 126) : fine .f32 A := by
  have e2 : Ieee.single.infRung = 2139095040 := by decide
  have e3 : Ieee.single.binade = 8388608 := by decide
  have e4 : Ieee.single.leastPlace = -149 := by decide
  have e5 : Ieee.single.fractionBits = 23 := by decide
  simp only [fine, FloatKind.format, e2, e3, e4, e5]
  omega

theorem lt_encode {k : FloatKind} {s : Bool} {m : Nat} {e A : Int} (h : m ≠ 0 → e + m.log2 + 1 ≤ A) (hf : fine k A) : lt k (k.encode (.number s m e)) (A + 1) :=
  lt_nearest k s m e A h hf.1 hf.2
theorem lt.notInf {k : FloatKind} {b : Nat} {A : Int} (h : lt k b A) : (k.decode b).isInfinity = false := by
  obtain ⟨s, m, e, hr, _⟩ := h
  simp [FloatKind.decode, hr, Ieee.Datum.isInfinity]

/-- May be narrowed: what the language fixes. -/
def narrowable (b : Nat) : Prop := isNan .f64 b = true ∨ (FloatKind.f64.format.read b).isInfinity = true ∨ lt .f64 b 126

section
variable {P : Program}
theorem run_widen (w : World) (src dst : TypeId) (b : Nat) (hs : P.underlying src = some (.float .f32)) (hd : P.underlying dst = some (.float .f64)) :
    ∃ r n, (convert src dst (.float .f32 b)).run P w = .ok (.float .f64 r) (w.drewN n) ∧ can .f64 r = can .f64 (widen b) ∧ fits .f64 r := by
  cases hr : FloatKind.f32.format.read b with
  | nan s t =>
    refine ⟨(Question.nanConv .f64 b).cut (w.tape w.drawn (.nanConv .f64 b)), 1, ?_, ?_, (nan_conv .f64 b _).2⟩
    · simp [convert, run_underlying hs, run_underlying hd, Conv.floatToFloat, FloatKind.decode, hr, Question.forced]; rfl
    · rw [can_of_nan (nan_conv .f64 b _).1]; simp only [widen, hr, can_qnan]
  | infinity s =>
    refine ⟨FloatKind.f64.encode (.infinity s), 0, ?_, by simp only [widen, hr], encode_wf _ _⟩
    simp [convert, run_underlying hs, run_underlying hd, Conv.floatToFloat, FloatKind.decode, hr]; rfl
  | number s m e =>
    refine ⟨FloatKind.f64.encode (.number s m e), 0, ?_, by simp only [widen, hr], encode_wf _ _⟩
    have h := (lt_encode (k := .f64) (s := s) (lt32 hr) (fine64 (by omega) (by omega))).notInf
    have hr' : FloatKind.f32.decode b = .number s m e := hr
    simp [convert, run_underlying hs, run_underlying hd, Conv.floatToFloat, hr', h]; rfl

theorem run_narrow (w : World) (src dst : TypeId) (b : Nat) (hs : P.underlying src = some (.float .f64)) (hd : P.underlying dst = some (.float .f32)) (hb : narrowable b) :
    ∃ r n, (convert src dst (.float .f64 b)).run P w = .ok (.float .f32 r) (w.drewN n) ∧ can .f32 r = can .f32 (narrow b) ∧ fits .f32 r := by
  cases hr : FloatKind.f64.format.read b with
  | nan s t =>
    refine ⟨(Question.nanConv .f32 b).cut (w.tape w.drawn (.nanConv .f32 b)), 1, ?_, ?_, (nan_conv .f32 b _).2⟩
    · simp [convert, run_underlying hs, run_underlying hd, Conv.floatToFloat, FloatKind.decode, hr, Question.forced]; rfl
    · rw [can_of_nan (nan_conv .f32 b _).1]; simp only [narrow, hr, can_qnan]
  | infinity s =>
    refine ⟨FloatKind.f32.encode (.infinity s), 0, ?_, by simp only [narrow, hr], encode_wf _ _⟩
    simp [convert, run_underlying hs, run_underlying hd, Conv.floatToFloat, FloatKind.decode, hr]; rfl
  | number s m e =>
    refine ⟨FloatKind.f32.encode (.number s m e), 0, ?_, by simp only [narrow, hr], encode_wf _ _⟩
    have hl : lt .f64 b 126 := by
      rcases hb with h | h | h
      · simp [isNan, hr, Ieee.Datum.isNaN] at h
      · simp [hr, Ieee.Datum.isInfinity] at h
      · exact h
    obtain ⟨s', m', e', hr', hm⟩ := hl
    rw [hr] at hr'
    cases hr'
    have h := (lt_encode (k := .f32) (s := s) hm (fine32 (by omega) (by omega))).notInf
    have hr' : FloatKind.f64.decode b = .number s m e := hr
    simp [convert, run_underlying hs, run_underlying hd, Conv.floatToFloat, hr', h]; rfl

variable {w : World} {ops : Array Oper} {rest : List Oper} {o : Oper} {a : Act} {Q : Exit → Act → World → Prop}
theorem wpList_widen (hg : o.guard = none) {src dst : TypeId} {x : Operand} (hop : o.op = Op.convert src dst x) {b : Nat} (hx : a.eval x = .float .f32 b)
    (hs : P.underlying src = some (.float .f32)) (hd : P.underlying dst = some (.float .f64))
    (hK : ∀ r n, Hid (can .f64 r = can .f64 (widen b)) → Hid (fits .f64 r) → wpList P ops Q rest (a.put o.dst (.float .f64 r)) (w.drewN n)) : wpList P ops Q (o :: rest) a w := by
  refine wpList_plain hg fun K hK' => ?_
  obtain ⟨r, n, hrun, hr, hf⟩ := run_widen (P := P) w src dst b hs hd
  unfold Oper.wp
  simp [execOp, hop, hx, hrun, Result.andThen]
  exact hK' _ _ (hK r n hr hf)
theorem wpList_narrow (hg : o.guard = none) {src dst : TypeId} {x : Operand} (hop : o.op = Op.convert src dst x) {b : Nat} (hx : a.eval x = .float .f64 b)
    (hs : P.underlying src = some (.float .f64)) (hd : P.underlying dst = some (.float .f32)) (hb : narrowable b)
    (hK : ∀ r n, Hid (can .f32 r = can .f32 (narrow b)) → Hid (fits .f32 r) → wpList P ops Q rest (a.put o.dst (.float .f32 r)) (w.drewN n)) : wpList P ops Q (o :: rest) a w := by
  refine wpList_plain hg fun K hK' => ?_
  obtain ⟨r, n, hrun, hr, hf⟩ := run_narrow (P := P) w src dst b hs hd hb
  unfold Oper.wp
  simp [execOp, hop, hx, hrun, Result.andThen]
  exact hK' _ _ (hK r n hr hf)
end
end Go.Fk

/- The steps of a walk through a region that draws its order: + - * / on floats, float64(x), float32(x), calls. Nothing here names a program. -/
namespace Go.Fk
open Go Go.RowKit
attribute [go_sem] within

section
variable {P : Program} {ops : Array Oper} {w : World} {K : FuncId → Array Value → Value → Prop} {Q : Act → Prop} {o : Oper} {rest : List Oper} {a : Act}

theorem wpLoose_any (hg : o.guard = none) (V : Value → Prop) (h1 : ∀ n, within P (fun w' => ∃ m, w' = w.drewN m) K V ((execOp a.eval o).run P (w.drewN n)))
    (h2 : ∀ v, V v → wpLoose P ops (fun w' => ∃ m, w' = w.drewN m) K Q rest (a.put o.dst v)) : wpLoose P ops (fun w' => ∃ m, w' = w.drewN m) K Q (o :: rest) a :=
  ⟨V, .inl ⟨by simp [Region.wanted, hg], fun w' hw' => by obtain ⟨n, rfl⟩ := hw'; exact h1 n⟩, h2⟩

theorem wpLoose_farith (hg : o.guard = none) {op : BinOp} {t t' : TypeId} {x y : Operand} (hop : o.op = Op.binOp op t x y t') (ho : arith op = true)
    {k : FloatKind} {p q : Nat} (hx : a.eval x = .float k p) (hy : a.eval y = .float k q)
    (hK : ∀ r, Hid (can k r = fop op k p q) → Hid (fits k r) → wpLoose P ops (fun w' => ∃ m, w' = w.drewN m) K Q rest (a.put o.dst (.float k r))) : wpLoose P ops (fun w' => ∃ m, w' = w.drewN m) K Q (o :: rest) a := by
  refine wpLoose_any hg (fun v => ∃ r, v = .float k r ∧ can k r = fop op k p q ∧ fits k r) (fun n => ?_) ?_
  · obtain ⟨r, m, hrun, hr, hf⟩ := run_farith (P := P) (w.drewN n) op ho t k p q
    have he := eqGuard_float (P := P) (w.drewN n) op t x y k k p q
    simp [execOp, hop, hx, hy, he, hrun, Result.andThen, within]
    exact ⟨⟨_, rfl⟩, hr, hf⟩
  · rintro v ⟨r, rfl, hr, hf⟩
    exact hK r hr hf
theorem wpLoose_widen (hg : o.guard = none) {src dst : TypeId} {x : Operand} (hop : o.op = Op.convert src dst x) {b : Nat} (hx : a.eval x = .float .f32 b)
    (hs : P.underlying src = some (.float .f32)) (hd : P.underlying dst = some (.float .f64))
    (hK : ∀ r, Hid (can .f64 r = can .f64 (widen b)) → Hid (fits .f64 r) → wpLoose P ops (fun w' => ∃ m, w' = w.drewN m) K Q rest (a.put o.dst (.float .f64 r))) : wpLoose P ops (fun w' => ∃ m, w' = w.drewN m) K Q (o :: rest) a := by
  refine wpLoose_any hg (fun v => ∃ r, v = .float .f64 r ∧ can .f64 r = can .f64 (widen b) ∧ fits .f64 r) (fun n => ?_) ?_
  · obtain ⟨r, m, hrun, hr, hf⟩ := run_widen (P := P) (w.drewN n) src dst b hs hd
    simp [execOp, hop, hx, hrun, Result.andThen, within]
    exact ⟨⟨_, rfl⟩, hr, hf⟩
  · rintro v ⟨r, rfl, hr, hf⟩
    exact hK r hr hf
theorem wpLoose_narrow (hg : o.guard = none) {src dst : TypeId} {x : Operand} (hop : o.op = Op.convert src dst x) {b : Nat} (hx : a.eval x = .float .f64 b)
    (hs : P.underlying src = some (.float .f64)) (hd : P.underlying dst = some (.float .f32)) (hb : narrowable b)
    (hK : ∀ r, Hid (can .f32 r = can .f32 (narrow b)) → Hid (fits .f32 r) → wpLoose P ops (fun w' => ∃ m, w' = w.drewN m) K Q rest (a.put o.dst (.float .f32 r))) : wpLoose P ops (fun w' => ∃ m, w' = w.drewN m) K Q (o :: rest) a := by
  refine wpLoose_any hg (fun v => ∃ r, v = .float .f32 r ∧ can .f32 r = can .f32 (narrow b) ∧ fits .f32 r) (fun n => ?_) ?_
  · obtain ⟨r, m, hrun, hr, hf⟩ := run_narrow (P := P) (w.drewN n) src dst b hs hd hb
    simp [execOp, hop, hx, hrun, Result.andThen, within]
    exact ⟨⟨_, rfl⟩, hr, hf⟩
  · rintro v ⟨r, rfl, hr, hf⟩
    exact hK r hr hf
end
/-- A contract that gives one value, met in a region. -/
theorem loose_of {P : Program} {f : FuncId} {args : Array Value} {w : World} {n : Nat} {v : Value}
    (h : Calls P f args (w.drewN n) fun e w' => e = .returned v ∧ ∃ m, w' = (w.drewN n).drewN m) : Calls P f args (w.drewN n) fun e w'' => ∃ u, e = .returned u ∧ u = v ∧ ∃ m, w'' = w.drewN m :=
  h.mono fun _ _ ⟨he, m, hm⟩ => ⟨v, he, rfl, n + m, by rw [hm, World.drewN_drewN]⟩
theorem loose_of_same {P : Program} {f : FuncId} {args : Array Value} {w : World} {n : Nat} {v : Value}
    (h : Calls P f args (w.drewN n) fun e w' => e = .returned v ∧ w.drewN n = w') : Calls P f args (w.drewN n) fun e w'' => ∃ u, e = .returned u ∧ u = v ∧ ∃ m, w'' = w.drewN m :=
  h.mono fun _ _ ⟨he, hm⟩ => ⟨v, he, rfl, n, hm.symm⟩
end Go.Fk

/- Slices of floats in the laws' helpers: 'szFloat32S', 'toFloat32S', 'eqFloat32S'. -/
namespace Go.Fk
open Go Go.RowKit
theorem made_tab (n : Nat) : madeCells #[Value.float .f32 0] n = ftab .f32 (fun _ => 0) n := by
  apply Array.ext
  · simp [size_madeCells, size_ftab]
  · intro i h1 h2
    simp [madeCells, ftab, tab, Nat.mod_one]
theorem cell_lt {w : World} {p : Addr} {v : Value} (h : w.cell? p = some v) : p.block < w.heap.size := by
  apply Nat.lt_of_not_le
  intro hle
  have : w.heap[p.block]? = none := Array.getElem?_eq_none hle
  simp [World.cell?, this] at h
end Go.Fk
namespace Go.Proofs.Ythjdklolbkhbfaa
open Go.RowKit Go.Fk
theorem szS_no (v : Value) (x : Nat → Nat) (n : Nat) (m : Int) (w : World) (hv : SlIn w v x n) (h0 : 0 ≤ m) (h1 : m ≤ 1048576) (hn : n ≤ 9223372036854775807) (hm : m - (n : Int) < 0) :
    Calls Try.prog 41 #[v, .int .i64 m] w fun e w' => e = .returned (.int .i64 (-1)) ∧ w = w' := by
  rcases hv with ⟨rfl, rfl⟩ | ⟨a, cap, rfl, hc, hg, hx⟩
  · exact absurd hm (by omega)
  · have HX := hid hx; clear hx
    go_enter Try.func41, Try.ntmps41
    go_wp2
    go_ret
    exact ⟨rfl, rfl⟩
theorem szS_yes (v : Value) (x : Nat → Nat) (n : Nat) (m : Int) (w : World) (hv : SlIn w v x n) (h0 : 0 ≤ m) (h1 : m ≤ 1048576) (hn : n ≤ 9223372036854775807) (hm : 0 ≤ m - (n : Int)) :
    Calls Try.prog 41 #[v, .int .i64 m] w fun e w' => e = .returned (.int .i64 (m - n)) ∧ w = w' := by
  rcases hv with ⟨rfl, rfl⟩ | ⟨a, cap, rfl, hc, hg, hx⟩
  · go_enter Try.func41, Try.ntmps41
    go_wp2
    go_ret
    exact ⟨ret_i (by omega), rfl⟩
  · have HX := hid hx; clear hx
    go_enter Try.func41, Try.ntmps41
    go_wp2
    go_ret
    exact ⟨rfl, rfl⟩
theorem info36 : ∃ i, Try.prog.info? 25 = some i ∧ i.zero = some (.float .f32 0) ∧ i.size = 1 ∧ i.bytes = 4 := by
  have h : (Try.prog.info? 25).map (fun i => (i.zero, i.size, i.bytes)) = some (some (.float .f32 0), 1, 4) := by kernel_rfl
  cases e : Try.prog.info? 25 with
  | none => rw [e] at h; cases h
  | some i =>
    rw [e] at h
    simp only [Option.map_some, Option.some.injEq, Prod.mk.injEq] at h
    exact ⟨i, rfl, h.1, h.2.1, h.2.2⟩
theorem makeF (n : Nat) (hn : n ≤ 1048576) (w : World) : (Instr.makeSlice 22 (.int .i64 (n : Int)) (.int .i64 (n : Int))).run Try.prog w = .ok (.slice (some ⟨w.heap.size, 0, none⟩) n n) (w.alloc (.cells (ftab .f32 (fun _ => 0) n) 25)) := by
  obtain ⟨i, h1, h2, h3, h4⟩ := info36
  rw [← made_tab]
  exact run_make_row (P := Try.prog) 22 25 i (.float .f32 0) (by rw [Try.underlying22]) h1 h2 h3 rfl .i64 .i64 n (by rw [h4]; omega) (by omega) w
set_option maxHeartbeats 1000000 in
theorem toS_some (a : Addr) (cap : Nat) (x : Nat → Nat) (n : Nat) (w : World) (hc : n ≤ cap) (hx : ∀ i, i < n → w.cell? (a.add i) = some (.float .f32 (x i))) (hn : n ≤ 1048576) :
    Calls Try.prog 17 #[.slice (some a) n cap] w fun e w' => e = .returned (.slice (some ⟨w.heap.size, 0, none⟩) n n) ∧ Row w' w.heap.size 25 (ftab .f32 x n) ∧ le w w' := by
  have HX := hid hx; clear hx
  have HM := fun w => makeF n hn w
  go_enter Try.func17, Try.ntmps17
  go_wp2
  go_loopw [4] (fun i wr => ∃ k : Nat, k ≤ n ∧ i = .int .i64 k ∧ Hid (Row wr w.heap.size 25 (ftab .f32 (fun j => if j < k then x j else 0) n)) ∧ Hid (le w wr)) (fun i _ => n - (intOf i).toNat)
  case atStart =>
    exact ⟨0, by omega, rfl, Row.new w _ _, le_alloc w _⟩
  case round =>
    obtain ⟨k, hk, rfl, HO, HB⟩ := hrel
    by_cases hlt : k < n
    · rename_i wr _
      have c1 : wr.cell? (a.add k) = some (.float .f32 (x k)) := (Below.cell HB.out (cell_lt (HX.out k hlt))).trans (HX.out k hlt)
      have c2 := HO.out.ftab hlt
      have f2 := HO.out.frozen k
      go_wp2
      go_roundw
      case rel =>
        refine ⟨k + 1, by omega, by go_num, ?_, Below.setCell HB.out (Nat.le_refl _) _⟩
        have h := HO.out.set k (.float .f32 (x k))
        rw [set_ftab] at h
        rw [show (fun j => if j < k + 1 then x j else 0) = (fun j => if j = k then x k else if j < k then x j else 0) from ?_]
        · exact h
        · funext j
          by_cases e : j = k
          · subst e; simp
          · simp [e, show (j < k + 1) = (j < k) by simp; omega]
      case measure => simp [intOf]; omega
    · obtain rfl : k = n := by omega
      have hO := HO.out
      rw [show ftab .f32 (fun j => if j < k then x j else 0) k = ftab .f32 x k from ftab_congr (fun j hj => if_pos hj)] at hO
      have HO := hid hO
      clear hO
      go_wp2
      go_ret
      exact ⟨rfl, HO.out, HB.out⟩
theorem toS_nil (x : Nat → Nat) (w : World) :
    Calls Try.prog 17 #[.slice none 0 0] w fun e w' => e = .returned (.slice (some ⟨w.heap.size, 0, none⟩) 0 0) ∧ Row w' w.heap.size 25 (ftab .f32 x 0) ∧ le w w' := by
  have HM := fun w => makeF 0 (by omega) w
  simp only [Int.natCast_zero] at HM
  have HR : ∀ w : World, Hid (Row (w.alloc (.cells (ftab .f32 (fun _ => 0) 0) 25)) w.heap.size 25 (ftab .f32 x 0)) := fun w => Row.new w _ _
  have HR := HR w
  have HL := hid (le_alloc w (.cells (ftab .f32 (fun _ => 0) 0) 25))
  go_enter Try.func17, Try.ntmps17
  go_wp2
  go_loopw [4] (fun i wr => i = .int .i64 0 ∧ wr = w.alloc (.cells (ftab .f32 (fun _ => 0) 0) 25)) (fun i _ => 0)
  case atStart => exact ⟨rfl, rfl⟩
  case round =>
    obtain ⟨rfl, rfl⟩ := hrel
    go_wp2
    go_ret
    exact ⟨rfl, HR.out, HL.out⟩
theorem toS (v : Value) (x : Nat → Nat) (n : Nat) (w : World) (hv : SlIn w v x n) (hn : n ≤ 1048576) :
    Calls Try.prog 17 #[v] w fun e w' => e = .returned (.slice (some ⟨w.heap.size, 0, none⟩) n n) ∧ Row w' w.heap.size 25 (ftab .f32 x n) ∧ le w w' := by
  rcases hv with ⟨rfl, rfl⟩ | ⟨a, cap, rfl, hc, hg, hx⟩
  · exact toS_nil x w
  · exact toS_some a cap x n w hc (fun i hi => (hx i hi).1) hn
set_option maxHeartbeats 1000000 in
theorem eqS_yes (g o cap g' o' cap' : Nat) (x y : Nat → Nat) (n : Nat) (w : World) (hn : n ≤ 1048576) (hc : n ≤ cap) (hc' : n ≤ cap') (hx : ∀ i, i < n → w.cell? ⟨g, o + i, none⟩ = some (.float .f32 (x i))) (hy : ∀ i, i < n → w.cell? ⟨g', o' + i, none⟩ = some (.float .f32 (y i))) (h : ∀ j, j < n → can .f32 (x j) = can .f32 (y j)) :
    Calls Try.prog 19 #[.slice (some ⟨g, o, none⟩) n cap, .slice (some ⟨g', o', none⟩) n cap'] w fun e w' => e = .returned (.bool true) ∧ ∃ m, w' = w.drewN m := by
  have H := hid h; clear h
  have HX := hid hx; have HY := hid hy; clear hx hy
  go_enter Try.func19, Try.ntmps19
  go_wp2
  go_loopw [5] (fun i wr => ∃ k : Nat, k ≤ n ∧ i = .int .i64 k ∧ ∃ m, wr = w.drewN m) (fun i _ => n - (intOf i).toNat)
  case atStart => exact ⟨0, by omega, rfl, 0, rfl⟩
  case round =>
    obtain ⟨k, hk, rfl, m, rfl⟩ := hrel
    by_cases hlt : k < n
    · have c1 := HX.out k hlt
      have c2 := HY.out k hlt
      have hxy := hid (H.out k hlt)
      generalize x k = p at *
      generalize y k = q at *
      go_wp2_with fail
      refine wp_region_loose (fun _ _ v => v = .bool true) (by kernel_rfl) (by kernel_rfl) ?_
      repeat (first | (with_reducible refine wpLoose_widen rfl rfl rfl Try.underlying25 Try.underlying45 ?_; intro r hr hf; simp only [Act.put, List.setIfInBounds_toArray, List.set_cons_succ, List.set_cons_zero]) | (refine wpLoose_quiet rfl ?_; go_big_quiet_step (fail); refine wpQuiet_nil ?_))
      refine wpLoose_any rfl (· = .bool true) (fun m0 => ?_) ?_
      · go_simp
        have hr1 := ‹Hid (can .f64 _ = can .f64 (widen p))›
        refine (sameFloat_yes _ _ _ (hr1.out.trans ((congrArg (can .f64) (widen_congr hxy.out)).trans hr.out.symm))).mono ?_
        rintro e w2 ⟨rfl, m2, rfl⟩
        exact ⟨_, rfl, rfl, m0 + m2, by go_simp; rw [Nat.add_assoc]⟩
      · rintro v rfl
        simp only [Act.put, List.setIfInBounds_toArray, List.set_cons_succ, List.set_cons_zero]
        repeat (refine wpLoose_quiet rfl ?_; go_big_quiet_step (fail); refine wpQuiet_nil ?_)
        refine wpLoose_nil (fun m1 => ?_)
        go_wp2
        go_roundw
        case rel => exact ⟨k + 1, by omega, by go_num, _, rfl⟩
        case measure => simp [intOf]; omega
    · obtain rfl : k = n := by omega
      go_wp2
      go_ret
      exact ⟨rfl, _, rfl⟩
end Go.Proofs.Ythjdklolbkhbfaa

/- 'l00In' of the model. -/
namespace Go.Proofs.Ythjdklolbkhbfaa
open Go.RowKit Go.Fk
theorem s_In (v a b : Int) (w : World) : Calls Try.prog 64 #[.int .i64 v, .int .i64 a, .int .i64 b] w fun e w' => e = .returned (.bool (decide (a ≤ v) && decide (v ≤ b))) ∧ w = w' := by
  by_cases h1 : a ≤ v <;> by_cases h2 : v ≤ b
  all_goals
    go_enter Try.func64, Try.ntmps64
    go_wp2
    go_ret
    exact ⟨ret_b (by simp [h1, h2]), rfl⟩
end Go.Proofs.Ythjdklolbkhbfaa

/- Rings: 'NewRing' of both. -/
namespace Go.Fk
open Go Go.RowKit
/-- The cells of a ring. -/
def ringC (s : Value) (at' : Int) : Array Value := #[s, .int .i64 at']
def OutR (n : Nat) (w : World) (e : Ending) (w' : World) : Prop := ∃ b, e = .returned (.tuple #[.agg #[.slice (some ⟨b, 0, none⟩) n n, .int .i64 0], .int .i64 0]) ∧ w.heap.size ≤ b ∧ le w w' ∧ Row w' b 25 (ftab .f32 (fun _ => 0) n)
def OutR0 (w : World) (e : Ending) (w' : World) : Prop := e = .returned (.tuple #[.agg #[.slice none 0 0, .int .i64 0], .int .i64 2]) ∧ le w w'
end Go.Fk
namespace Go.Proofs.Ythjdklolbkhbfaa
open Go.RowKit Go.Fk
theorem infoRing : (Try.prog.info? 35).map (·.size) = some 2 := by kernel_rfl
end Go.Proofs.Ythjdklolbkhbfaa

/- The value of a float as a whole number of its smallest units; order, and the way to integers, by it. Nothing here names a program. -/
namespace Go.Fk
open Go Go.RowKit

def unitOf : FloatKind → Nat
  | .f32 => 149
  | .f64 => 1074
/-- Where an infinity is put. -/
def farE : Nat := 3000
theorem farE_ge : 2200 ≤ farE := by decide
def far : Nat := 2 ^ farE
theorem far_pos : 0 < far := Nat.two_pow_pos _
/-- How many smallest units a word stands for; an infinity stands far away. -/
def val (k : FloatKind) (b : Nat) : Int := match k.format.read b with
  | .number s m e => Ieee.signed s m (e + unitOf k).toNat
  | .infinity s => if s then -(far : Int) else far
  | .nan _ _ => 0

theorem signed_eq (s : Bool) (m up : Nat) : Ieee.signed s m up = (if s then -(m : Int) else (m : Int)) * 2 ^ up := by
  unfold Ieee.signed
  rw [Nat.shiftLeft_eq]
  cases s <;> simp [Int.neg_mul]

theorem least_eq (k : FloatKind) : k.format.leastPlace = -(unitOf k : Int) := by cases k <;> decide
theorem read_place {k : FloatKind} {b : Nat} {s : Bool} {m : Nat} {e : Int} (h : k.format.read b = .number s m e) : -(unitOf k : Int) ≤ e := by
  have e4 := least_eq k
  unfold Ieee.Format.read at h
  dsimp only at h
  split at h
  · simp only [Ieee.Datum.number.injEq] at h; omega
  · split at h
    · simp only [Ieee.Datum.number.injEq] at h; omega
    · split at h <;> cases h

theorem val_small {k : FloatKind} {b : Nat} {s : Bool} {m : Nat} {e : Int} (h : k.format.read b = .number s m e) : -(far : Int) < val k b ∧ val k b < far := by
  have hv : val k b = Ieee.signed s m (e + unitOf k).toNat := by simp only [val, h]
  have hp := read_place h
  have key : m * 2 ^ (e + unitOf k).toNat < far := by
    unfold far
    by_cases m0 : m = 0
    · subst m0; rw [Nat.zero_mul]; exact Nat.two_pow_pos _
    · have hm : e + m.log2 + 1 ≤ 1024 := by
        cases k
        · have := lt32 h m0; omega
        · exact lt64 h m0
      have hu : unitOf k ≤ 1074 := by cases k <;> decide
      calc m * 2 ^ (e + unitOf k).toNat < 2 ^ (m.log2 + 1) * 2 ^ (e + unitOf k).toNat := Nat.mul_lt_mul_of_pos_right Nat.lt_log2_self (Nat.two_pow_pos _)
        _ = 2 ^ (m.log2 + 1 + (e + unitOf k).toNat) := by rw [← Nat.pow_add]
        _ ≤ 2 ^ farE := Nat.pow_le_pow_right (by omega) (by have := farE_ge; omega)
  have hc : ((m * 2 ^ (e + unitOf k).toNat : Nat) : Int) < (far : Int) := Int.ofNat_lt.2 key
  have hn : (0 : Int) ≤ ((m * 2 ^ (e + unitOf k).toNat : Nat) : Int) := Int.natCast_nonneg _
  have hv2 : val k b = if s then -((m * 2 ^ (e + unitOf k).toNat : Nat) : Int) else ((m * 2 ^ (e + unitOf k).toNat : Nat) : Int) := by
    rw [hv]; unfold Ieee.signed; rw [Nat.shiftLeft_eq]
  generalize ((m * 2 ^ (e + unitOf k).toNat : Nat) : Int) = v at *
  generalize (far : Int) = big at *
  rw [hv2]
  cases s <;> simp <;> omega

theorem compare_mul (a b c : Int) (hc : 0 < c) : compare (a * c) (b * c) = compare a b := by
  rcases Int.lt_trichotomy a b with h | h | h
  · rw [Int.compare_eq_lt.2 h, Int.compare_eq_lt.2 (Int.mul_lt_mul_of_pos_right h hc)]
  · subst h; rw [Int.compare_eq_eq.2 rfl, Int.compare_eq_eq.2 rfl]
  · rw [Int.compare_eq_gt.2 h, Int.compare_eq_gt.2 (Int.mul_lt_mul_of_pos_right h hc)]

theorem order_val {k : FloatKind} {x y : Nat} (hx : isNan k x = false) (hy : isNan k y = false) : k.format.order x y = some (compare (val k x) (val k y)) := by
  have big : (0 : Int) < (far : Int) := Int.ofNat_lt.2 far_pos
  unfold isNan at hx hy
  unfold Ieee.Format.order
  cases hrx : k.format.read x with
  | nan s t => rw [hrx] at hx; simp [Ieee.Datum.isNaN] at hx
  | infinity s =>
    have vx : val k x = if s then -(far : Int) else far := by simp only [val, hrx]
    cases hry : k.format.read y with
    | nan s t => rw [hry] at hy; simp [Ieee.Datum.isNaN] at hy
    | infinity t =>
      have vy : val k y = if t then -(far : Int) else far := by simp only [val, hry]
      rw [vx, vy]
      generalize (far : Int) = b at *
      simp only [Ieee.Datum.order, Option.some.injEq]
      cases s <;> cases t <;> simp only [if_true, Bool.false_eq_true, if_false]
      · rw [Int.compare_eq_eq.2 rfl]; rfl
      · rw [Int.compare_eq_gt.2 (by omega)]; rfl
      · rw [Int.compare_eq_lt.2 (by omega)]; rfl
      · rw [Int.compare_eq_eq.2 rfl]; rfl
    | number t n j =>
      have hv := val_small hry
      rw [vx]
      generalize (far : Int) = b at *
      simp only [Ieee.Datum.order, Option.some.injEq]
      cases s <;> simp
      · exact (Int.compare_eq_gt.2 (by omega)).symm
      · exact (Int.compare_eq_lt.2 (by omega)).symm
  | number s m i =>
    cases hry : k.format.read y with
    | nan s t => rw [hry] at hy; simp [Ieee.Datum.isNaN] at hy
    | infinity t =>
      have vy : val k y = if t then -(far : Int) else far := by simp only [val, hry]
      have hv := val_small hrx
      rw [vy]
      generalize (far : Int) = b at *
      simp only [Ieee.Datum.order, Option.some.injEq]
      cases t <;> simp
      · exact (Int.compare_eq_lt.2 (by omega)).symm
      · exact (Int.compare_eq_gt.2 (by omega)).symm
    | number t n j =>
      have pi := read_place hrx
      have pj := read_place hry
      simp only [Ieee.Datum.order, val, hrx, hry, Option.some.injEq]
      have e1 : Ieee.signed s m (i + unitOf k).toNat = Ieee.signed s m (i - min i j).toNat * 2 ^ (min i j + unitOf k).toNat := by
        rw [signed_eq, signed_eq, Int.mul_assoc, ← Int.pow_add]
        congr 2; omega
      have e2 : Ieee.signed t n (j + unitOf k).toNat = Ieee.signed t n (j - min i j).toNat * 2 ^ (min i j + unitOf k).toNat := by
        rw [signed_eq, signed_eq, Int.mul_assoc, ← Int.pow_add]
        congr 2; omega
      rw [e1, e2, compare_mul _ _ _ (Int.pow_pos (by omega))]

/-- Cut towards zero, a number is its units divided by those of 1. -/
theorem toInt_val {k : FloatKind} {b : Nat} {s : Bool} {m : Nat} {e : Int} (h : k.format.read b = .number s m e) :
    (k.decode b).toInt .zero = some ((val k b).tdiv (2 ^ unitOf k)) := by
  have hp := read_place h
  simp only [FloatKind.decode, h, val, Ieee.Datum.toInt, Ieee.Datum.integral, Option.some.injEq]
  have hcut : ∀ n d, Ieee.Toward.zero.cut s n d = n / 2 ^ d := by
    intro n d
    simp only [Ieee.Toward.cut, Bool.toNat_false, Nat.add_zero, Nat.one_shiftLeft]
    by_cases hd : d ≤ n.log2 + 2
    · rw [Nat.min_eq_left hd]
    · rw [Nat.min_eq_right (by omega)]
      have h1 : n < 2 ^ (n.log2 + 1) := Nat.lt_log2_self
      have h2 : 2 ^ (n.log2 + 1) ≤ 2 ^ (n.log2 + 2) := Nat.pow_le_pow_right (by omega) (by omega)
      have h3 : 2 ^ (n.log2 + 1) ≤ 2 ^ d := Nat.pow_le_pow_right (by omega) (by omega)
      rw [Nat.div_eq_of_lt (by omega), Nat.div_eq_of_lt (by omega)]
  rw [hcut]
  have e1 : m <<< e.toNat / 2 ^ (-e).toNat = m * 2 ^ (e + unitOf k).toNat / 2 ^ unitOf k := by
    rw [Nat.shiftLeft_eq]
    by_cases he : 0 ≤ e
    · rw [show (-e).toNat = 0 by omega, show (e + unitOf k).toNat = e.toNat + unitOf k by omega, Nat.pow_add, ← Nat.mul_assoc, Nat.mul_div_cancel _ (Nat.two_pow_pos _)]
      simp
    · rw [show e.toNat = 0 by omega]
      have : unitOf k = (-e).toNat + (e + unitOf k).toNat := by omega
      generalize hu : (e + unitOf k).toNat = u at *
      rw [this, Nat.pow_add, Nat.mul_div_mul_right _ _ (Nat.two_pow_pos _)]
      simp
  have e2 : ∀ X : Nat, Ieee.signed s X 0 = if s then -(X : Int) else (X : Int) := by intro X; unfold Ieee.signed; simp
  rw [e1, e2]
  have e3 : Ieee.signed s m (e + unitOf k).toNat = if s then -((m * 2 ^ (e + unitOf k).toNat : Nat) : Int) else ((m * 2 ^ (e + unitOf k).toNat : Nat) : Int) := by
    unfold Ieee.signed; rw [Nat.shiftLeft_eq]
  rw [e3]
  generalize m * 2 ^ (e + unitOf k).toNat = X
  have e4 : ((2 : Int) ^ unitOf k) = ((2 ^ unitOf k : Nat) : Int) := (Int.natCast_pow 2 _).symm
  rw [e4]
  cases s
  · simp only [Bool.false_eq_true, if_false]
    exact (Int.ofNat_tdiv _ _).symm
  · simp only [if_true, Int.neg_tdiv]
    rw [← Int.ofNat_tdiv]
end Go.Fk

/- Floats made whole (math.RoundToEven and its kin), up to the bits of NaN; that rounding gives no NaN; floats to integers by value. Nothing here names a program. -/
namespace Go.Fk
open Go Go.RowKit

theorem infRung_word (k : FloatKind) (s : Bool) {r : Nat} (h : r ≤ k.format.infRung) : isNan k (k.format.word s r) = false := by
  have hs : k.format.infRung < k.format.signWeight := Ieee.Format.infRung_lt _
  cases k
  · have e2 : Ieee.single.infRung = 2139095040 := by decide
    have e1 : Ieee.single.signWeight = 2147483648 := by decide
    have hw := word_mod Ieee.single s (r := r) (Nat.lt_of_le_of_lt h hs)
    rw [e1] at hw
    have hw' : FloatKind.f32.format.word s r % 2147483648 = r := hw
    have h' : r ≤ 2139095040 := Nat.le_trans h (Nat.le_of_eq e2)
    rw [isNan_f32, decide_eq_false_iff_not]; omega
  · have e2 : Ieee.double.infRung = 9218868437227405312 := by decide
    have e1 : Ieee.double.signWeight = 9223372036854775808 := by decide
    have hw := word_mod Ieee.double s (r := r) (Nat.lt_of_le_of_lt h hs)
    rw [e1] at hw
    have hw' : FloatKind.f64.format.word s r % 9223372036854775808 = r := hw
    have h' : r ≤ 9218868437227405312 := Nat.le_trans h (Nat.le_of_eq e2)
    rw [isNan_f64, decide_eq_false_iff_not]; omega
theorem isNan_nearest (k : FloatKind) (s : Bool) (m : Nat) (e : Int) : isNan k (k.format.nearest s m e) = false := by
  unfold Ieee.Format.nearest
  split
  · exact infRung_word k s (Nat.zero_le _)
  · exact infRung_word k s (Nat.min_le_right _ _)
theorem isNan_encode (k : FloatKind) {d : Ieee.Datum} (h : d.isNaN = false) : isNan k (k.encode d) = false := by
  cases d with
  | number s m e => exact isNan_nearest k s m e
  | infinity s => exact infRung_word k s (Nat.le_refl _)
  | nan s t => simp [Ieee.Datum.isNaN] at h

theorem isNan_widen (b : Nat) : isNan .f64 (widen b) = isNan .f32 b := by
  cases hr : FloatKind.f32.format.read b with
  | nan s t => simp only [widen, hr, isNan_qnan]; simp [isNan, hr, Ieee.Datum.isNaN]
  | infinity s => simp only [widen, hr]; rw [isNan_encode _ rfl]; simp [isNan, hr, Ieee.Datum.isNaN]
  | number s m e => simp only [widen, hr]; rw [isNan_encode _ rfl]; simp [isNan, hr, Ieee.Datum.isNaN]

/-- A number made whole, up to the bits of NaN. -/
def integ (way : Ieee.Toward) (b : Nat) : Nat := match FloatKind.f64.decode b with
  | .nan _ _ => qnan .f64
  | d => FloatKind.f64.encode (d.integral way)
theorem integ_can (way : Ieee.Toward) (b : Nat) : integ way (can .f64 b) = integ way b := by
  cases h : isNan .f64 b
  · rw [can_of_not h]
  · rw [can_of_nan h]
    obtain ⟨s, t, hr⟩ := read_nan h
    obtain ⟨s', t', hr'⟩ := read_nan (isNan_qnan .f64)
    simp only [integ, FloatKind.decode, hr, hr']
theorem isNan_integ (way : Ieee.Toward) (b : Nat) : isNan .f64 (integ way b) = isNan .f64 b := by
  cases hr : FloatKind.f64.format.read b with
  | nan s t => simp only [integ, FloatKind.decode, hr, isNan_qnan]; simp [isNan, hr, Ieee.Datum.isNaN]
  | infinity s => simp only [integ, FloatKind.decode, hr]; rw [isNan_encode _ rfl]; simp [isNan, hr, Ieee.Datum.isNaN]
  | number s m e => simp only [integ, FloatKind.decode, hr]; rw [isNan_encode _ rfl]; simp [isNan, hr, Ieee.Datum.isNaN]

/-- A quiet NaN is one. -/
theorem isNan_quiet (s : Bool) (b t : Nat) (h : FloatKind.f64.format.read b = .nan s t) :
    isNan .f64 (FloatKind.f64.encode (.nan s (FloatKind.f64.format.quiet t))) = true := by
  have e1 : Ieee.double.signWeight = 9223372036854775808 := by decide
  have e2 : Ieee.double.infRung = 9218868437227405312 := by decide
  have e3 : Ieee.double.binade = 4503599627370496 := by decide
  have hq : (t ||| 2251799813685248) % 4503599627370496 ≠ 0 := by
    intro h0
    have h1 : ((t ||| 2251799813685248) % 2 ^ 52).testBit 51 = false := by rw [show (2 : Nat) ^ 52 = 4503599627370496 by decide, h0]; simp
    rw [Nat.testBit_mod_two_pow, Nat.testBit_or, show (2251799813685248 : Nat) = 2 ^ 51 by decide, Nat.testBit_two_pow_self] at h1
    simp at h1
  rw [isNan_f64]
  simp only [FloatKind.encode, Ieee.Format.write, FloatKind.format, Ieee.Format.quiet, e2, e3]
  rw [show (2 : Nat) ^ (Ieee.double.fractionBits - 1) = 2251799813685248 by decide]
  have hlt : (t ||| 2251799813685248) % 4503599627370496 < 4503599627370496 := Nat.mod_lt _ (by omega)
  generalize (t ||| 2251799813685248) % 4503599627370496 = q at *
  have hw := word_mod Ieee.double s (r := 9218868437227405312 + q) (by rw [e1]; omega)
  rw [e1] at hw
  rw [hw, decide_eq_true_iff]
  omega

theorem toIntegral_eq (name : String) (way : Ieee.Toward) (x : Nat) : Extern.MathFloor.toIntegral name way #[.float .f64 x] = ((match FloatKind.f64.decode x with
    | .nan s t =>
      if FloatKind.f64.format.quiet t = t then pure (Value.float .f64 x) else do
      let kept ← choose (.extern "math.Floor,Ceil,Trunc,RoundToEven.signallingNaN kept" 2)
      pure (Value.float .f64 (if kept == 1 then x else FloatKind.f64.encode (.nan s (FloatKind.f64.format.quiet t))))
    | d => pure (Value.float .f64 (FloatKind.f64.encode (d.integral way)))) : Sem Value) := rfl

theorem run_integral {P : Program} (name : String) (way : Ieee.Toward) (w : World) (b : Nat) (hb : fits .f64 b) :
    ∃ r n, (Extern.MathFloor.toIntegral name way #[.float .f64 b]).run P w = .ok (.float .f64 r) (w.drewN n) ∧ can .f64 r = can .f64 (integ way b) ∧ fits .f64 r := by
  cases hr : FloatKind.f64.format.read b with
  | nan s t =>
    have hn : isNan .f64 b = true := by simp [isNan, hr, Ieee.Datum.isNaN]
    have hi : integ way b = qnan .f64 := by simp only [integ, FloatKind.decode, hr]
    have hd : FloatKind.f64.decode b = .nan s t := hr
    by_cases hq : FloatKind.f64.format.quiet t = t
    · refine ⟨b, 0, ?_, by rw [hi, can_qnan, can_of_nan hn], hb⟩
      simp [toIntegral_eq, hd, hq]; rfl
    · by_cases hk : ((Question.extern "math.Floor,Ceil,Trunc,RoundToEven.signallingNaN kept" 2).cut (w.tape w.drawn (.extern "math.Floor,Ceil,Trunc,RoundToEven.signallingNaN kept" 2)) == 1) = true
      · refine ⟨b, 1, ?_, by rw [hi, can_qnan, can_of_nan hn], hb⟩
        simp only [beq_iff_eq] at hk
        simp [toIntegral_eq, hd, hq, Question.forced, hk]; rfl
      · refine ⟨FloatKind.f64.encode (.nan s (FloatKind.f64.format.quiet t)), 1, ?_, by rw [hi, can_qnan, can_of_nan (isNan_quiet s b t hr)], encode_wf _ _⟩
        simp only [beq_iff_eq] at hk
        simp [toIntegral_eq, hd, hq, Question.forced, hk]; rfl
  | infinity s =>
    have hd : FloatKind.f64.decode b = .infinity s := hr
    refine ⟨FloatKind.f64.encode (Ieee.Datum.integral way (.infinity s)), 0, ?_, by simp only [integ, hd], encode_wf _ _⟩
    simp [toIntegral_eq, hd]; rfl
  | number s m e =>
    have hd : FloatKind.f64.decode b = .number s m e := hr
    refine ⟨FloatKind.f64.encode (Ieee.Datum.integral way (.number s m e)), 0, ?_, by simp only [integ, hd], encode_wf _ _⟩
    simp [toIntegral_eq, hd]; rfl

/-- THE WALK's LAW for a call of a function without a body that gives a float. -/
theorem wpList_extern {P : Program} {w : World} {ops : Array Oper} {rest : List Oper} {o : Oper} {a : Act} {Q : Exit → Act → World → Prop}
    (hg : o.guard = none) {f : FuncId} {x : Operand} {ts : Array TypeId} (hop : o.op = Op.call { callee := Callee.value (Operand.func f), args := #[x], argTypes := ts })
    {k' : FloatKind} {q : Nat} (hx : a.eval x = .float k' q) (Res : Nat → Prop) {k : FloatKind}
    (hrun : ∀ w, ∃ r n, (callFunc f #[.float k' q]).run P w = .ok (.value (.float k r)) (w.drewN n) ∧ Res r)
    (hK : ∀ r n, Hid (Res r) → wpList P ops Q rest (a.put o.dst (.float k r)) (w.drewN n)) : wpList P ops Q (o :: rest) a w := by
  refine wpList_plain hg fun K hK' => ?_
  obtain ⟨r, n, hr, hres⟩ := hrun w
  unfold Oper.wp
  have hf : a.eval (Operand.func f) = .func (.func f) #[] #[] := rfl
  simp [execOp, hop, hx, hf, resolve, invoke, Deferred.ofValue, hr, Result.andThen]
  exact hK' _ _ (hK r n hres)

/-- A wide float to an integer of 16 bits. -/
theorem floatToInt_val {b : Nat} {k : IntKind} (hn : isNan .f64 b = false) (hlo : k.min * 2 ^ unitOf .f64 ≤ val .f64 b) (hhi : val .f64 b ≤ k.max * 2 ^ unitOf .f64)
    (hsmall : k.max * 2 ^ unitOf .f64 < far) (hsmall' : -(far : Int) < k.min * 2 ^ unitOf .f64) :
    floatToIntVal .f64 b k = some ((val .f64 b).tdiv (2 ^ unitOf .f64)) := by
  cases hr : FloatKind.f64.format.read b with
  | nan s t => simp [isNan, hr, Ieee.Datum.isNaN] at hn
  | infinity s =>
    have hv : val .f64 b = if s then -(far : Int) else far := by simp only [val, hr]
    rw [hv] at hlo hhi
    cases s <;> simp at hlo hhi <;> omega
  | number s m e =>
    have ht := toInt_val hr
    unfold floatToIntVal
    rw [ht]
    have hU : (0 : Int) < 2 ^ unitOf .f64 := Int.pow_pos (by omega)
    generalize (2 : Int) ^ unitOf .f64 = U at *
    generalize val .f64 b = v at *
    have h1 : k.min ≤ v.tdiv U := by
      have : k.min = (k.min * U).tdiv U := (Int.mul_tdiv_cancel _ (by omega)).symm
      rw [this]; exact Int.tdiv_le_tdiv hU hlo
    have h2 : v.tdiv U ≤ k.max := by
      have : k.max = (k.max * U).tdiv U := (Int.mul_tdiv_cancel _ (by omega)).symm
      rw [this]; exact Int.tdiv_le_tdiv hU hhi
    simp only [h1, h2, and_self, if_true]
end Go.Fk

/- Rings: what the laws do with them, marks and all. -/
namespace Go.Fk
open Go Go.RowKit
theorem isNan_int (z : Int) : isNan .f32 (floatOfInt .f32 z) = false := by
  unfold floatOfInt
  exact isNan_encode .f32 rfl
theorem same_int (z : Int) : (FloatKind.f32.format.order (floatOfInt .f32 z) (floatOfInt .f32 z) != some .eq) = false := by
  rw [order_ne, isNan_int]
/-- What a mark leaves. -/
def markW (m : Int) (j : Nat) : Nat := floatOfInt .f32 (m + j)
end Go.Fk
namespace Go.Proofs.Ythjdklolbkhbfaa
open Go.RowKit Go.Fk
set_option maxHeartbeats 1000000 in
theorem markS (b n : Nat) (t : TypeId) (x : Nat → Nat) (w : World) (hn : n ≤ 1048576) (hr : Row w b t (ftab .f32 x n)) :
    Calls Try.prog 20 #[.slice (some ⟨b, 0, none⟩) n n, .int .i64 1] w fun e w' => e = .returned (.int .i64 (1 + n)) ∧ Row w' b t (ftab .f32 (markW 1) n) ∧ Upd b w w' := by
  have HR := hid hr; clear hr
  go_enter Try.func20, Try.ntmps20
  go_wp2
  go_loopw [1, 5] (fun m i wr => ∃ k : Nat, k ≤ n ∧ i = .int .i64 k ∧ m = .int .i64 (1 + k) ∧ Hid (Row wr b t (ftab .f32 (fun j => if j < k then markW 1 j else x j) n)) ∧ Hid (Upd b w wr)) (fun _ i _ => n - (intOf i).toNat)
  case atStart => exact ⟨0, by omega, rfl, rfl, HR, Upd.refl _ _⟩
  case round =>
    obtain ⟨k, hk, rfl, rfl, HO, HU⟩ := hrel
    by_cases hlt : k < n
    · have c2 := HO.out.ftab hlt
      have f2 := HO.out.frozen k
      go_wp2
      go_roundw
      case rel =>
        refine ⟨k + 1, by omega, by go_num, by go_num, ?_, Upd.setCell HU.out rfl _⟩
        have h := HO.out.set k (.float .f32 (markW 1 k))
        rw [set_ftab] at h
        rw [show (fun j => if j < k + 1 then markW 1 j else x j) = (fun j => if j = k then markW 1 k else if j < k then markW 1 j else x j) from ?_]
        · exact h
        · funext j
          by_cases e : j = k
          · subst e; simp
          · simp [e, show (j < k + 1) = (j < k) by simp; omega]
      case measure => simp [intOf]; omega
    · obtain rfl : k = n := by omega
      have hO := HO.out
      rw [show ftab .f32 (fun j => if j < k then markW 1 j else x j) k = ftab .f32 (markW 1) k from ftab_congr (fun j hj => if_pos hj)] at hO
      have HO := hid hO
      clear hO
      go_wp2
      go_ret
      exact ⟨rfl, HO.out, HU.out⟩
set_option maxHeartbeats 1000000 in
theorem heldS (b n : Nat) (t : TypeId) (w : World) (hn : n ≤ 1048576) (hr : Row w b t (ftab .f32 (markW 1) n)) :
    Calls Try.prog 21 #[.slice (some ⟨b, 0, none⟩) n n, .int .i64 1] w fun e w' => e = .returned (.int .i64 (1 + n)) ∧ w = w' := by
  have HR := hid hr; clear hr
  go_enter Try.func21, Try.ntmps21
  go_wp2
  go_loop [1, 5] (fun m i => ∃ k : Nat, k ≤ n ∧ i = .int .i64 k ∧ m = .int .i64 (1 + k)) (fun _ i => n - (intOf i).toNat)
  case atStart => exact ⟨0, by omega, rfl, rfl⟩
  case round =>
    obtain ⟨k, hk, rfl, rfl⟩ := hrel
    by_cases hlt : k < n
    · have c2 : w.cell? ⟨b, k, none⟩ = some (.float .f32 (floatOfInt .f32 (1 + k))) := HR.out.ftab hlt
      have e2 := same_int (1 + k)
      go_wp2
      go_round
      case rel => exact ⟨k + 1, by omega, by go_num, by go_num⟩
      case measure => simp [intOf]; omega
    · obtain rfl : k = n := by omega
      go_wp2
      go_ret
      exact ⟨rfl, rfl⟩
theorem markRing_any (b n : Nat) (t : TypeId) (x : Nat → Nat) (k : Int) (w : World) (hn : n ≤ 1048576) (hr : Row w b t (ftab .f32 x n)) :
    Calls Try.prog 38 #[.agg #[.slice (some ⟨b, 0, none⟩) n n, .int .i64 k], .int .i64 1] w fun e w' => e = .returned (.int .i64 (1 + n)) ∧ Row w' b t (ftab .f32 (markW 1) n) ∧ Upd b w w' := by
  have HR := hid hr; clear hr
  go_enter Try.func38, Try.ntmps38
  go_wp2_with (go_at_call 20; ((with_reducible refine (markS b n t x _ hn (HR.out.le (le_alloc _ _))).mono ?_); rintro e w2 ⟨rfl, hR, hU⟩; have HR2 := hid hR; have HU := hid (Upd.trans (Upd.of_le (le_alloc _ _)) hU); clear hR hU))
  go_ret
  exact ⟨rfl, HR2.out, HU.out⟩
theorem heldRing_any (b n : Nat) (t : TypeId) (k : Int) (w : World) (hn : n ≤ 1048576) (hr : Row w b t (ftab .f32 (markW 1) n)) :
    Calls Try.prog 39 #[.agg #[.slice (some ⟨b, 0, none⟩) n n, .int .i64 k], .int .i64 1] w fun e w' => e = .returned (.int .i64 (1 + n)) ∧ le w w' := by
  have HR := hid hr; clear hr
  have HL := hid (le_alloc w (.cells #[.slice (some ⟨b, 0, none⟩) n n, .int .i64 k] 35))
  go_enter Try.func39, Try.ntmps39
  go_wp2_with (go_at_call 21; ((with_reducible refine (heldS b n t _ hn (HR.out.le (le_alloc _ _))).mono ?_); rintro e w2 ⟨rfl, rfl⟩))
  go_ret
  exact ⟨rfl, HL.out⟩
theorem eqRing_yes (b b' n : Nat) (t t' : TypeId) (x y : Nat → Nat) (k : Int) (w : World) (hn : n ≤ 1048576) (hr : Row w b t (ftab .f32 x n)) (hr' : Row w b' t' (ftab .f32 y n)) (h : ∀ j, j < n → can .f32 (x j) = can .f32 (y j)) :
    Calls Try.prog 33 #[.agg #[.slice (some ⟨b, 0, none⟩) n n, .int .i64 k], .agg #[.slice (some ⟨b', 0, none⟩) n n, .int .i64 k]] w fun e w' => e = .returned (.bool true) ∧ le w w' := by
  have HR := hid hr; have HR' := hid hr'; have H := hid h; clear hr hr' h
  have F := ((Frm.nil w).box 35 #[.slice (some ⟨b, 0, none⟩) n n, .int .i64 k]).box 35 #[.slice (some ⟨b', 0, none⟩) n n, .int .i64 k]
  have HL := hid F.below
  have HX := hid (fun (i : Nat) (hi : i < n) => (((HR.out.alloc (.cells #[.slice (some ⟨b, 0, none⟩) n n, .int .i64 k] 35)).alloc (.cells #[.slice (some ⟨b', 0, none⟩) n n, .int .i64 k] 35)).ftab hi))
  have HY := hid (fun (i : Nat) (hi : i < n) => (((HR'.out.alloc (.cells #[.slice (some ⟨b, 0, none⟩) n n, .int .i64 k] 35)).alloc (.cells #[.slice (some ⟨b', 0, none⟩) n n, .int .i64 k] 35)).ftab hi))
  clear F
  go_enter Try.func33, Try.ntmps33
  go_wp2_with (go_at_call 19; ((with_reducible refine (eqS_yes b 0 n b' 0 n x y n _ hn (Nat.le_refl _) (Nat.le_refl _) (fun i hi => by rw [Nat.zero_add]; exact HX.out i hi) (fun i hi => by rw [Nat.zero_add]; exact HY.out i hi) H.out).mono ?_); rintro e w2 ⟨rfl, m, rfl⟩))
  go_ret
  exact ⟨rfl, le_trans HL.out (le_drewN _ _)⟩
theorem markS_nil (w : World) : Calls Try.prog 20 #[.slice none 0 0, .int .i64 1] w fun e w' => e = .returned (.int .i64 1) ∧ w = w' := by
  go_enter Try.func20, Try.ntmps20
  go_wp2
  go_loop [1, 5] (fun m i => m = .int .i64 1 ∧ i = .int .i64 0) (fun _ _ => 0)
  case atStart => exact ⟨rfl, rfl⟩
  case round =>
    obtain ⟨rfl, rfl⟩ := hrel
    go_wp2
    go_ret
    exact ⟨rfl, rfl⟩
theorem heldS_nil (w : World) : Calls Try.prog 21 #[.slice none 0 0, .int .i64 1] w fun e w' => e = .returned (.int .i64 1) ∧ w = w' := by
  go_enter Try.func21, Try.ntmps21
  go_wp2
  go_loop [1, 5] (fun m i => m = .int .i64 1 ∧ i = .int .i64 0) (fun _ _ => 0)
  case atStart => exact ⟨rfl, rfl⟩
  case round =>
    obtain ⟨rfl, rfl⟩ := hrel
    go_wp2
    go_ret
    exact ⟨rfl, rfl⟩
theorem eqS_nil (w : World) : Calls Try.prog 19 #[.slice none 0 0, .slice none 0 0] w fun e w' => e = .returned (.bool true) ∧ w = w' := by
  go_enter Try.func19, Try.ntmps19
  go_wp2
  go_loop [5] (fun i => i = .int .i64 0) (fun _ => 0)
  case atStart => rfl
  case round =>
    obtain rfl := hrel
    go_wp2
    go_ret
    exact ⟨rfl, rfl⟩
theorem markRing_nil (k : Int) (w : World) : Calls Try.prog 38 #[.agg #[.slice none 0 0, .int .i64 k], .int .i64 1] w fun e w' => e = .returned (.int .i64 1) ∧ le w w' := by
  have HL := hid (le_alloc w (.cells #[.slice none 0 0, .int .i64 k] 35))
  go_enter Try.func38, Try.ntmps38
  go_wp2_with (go_at_call 20; ((with_reducible refine (markS_nil _).mono ?_); rintro e w2 ⟨rfl, rfl⟩))
  go_ret
  exact ⟨rfl, HL.out⟩
theorem heldRing_nil (k : Int) (w : World) : Calls Try.prog 39 #[.agg #[.slice none 0 0, .int .i64 k], .int .i64 1] w fun e w' => e = .returned (.int .i64 1) ∧ le w w' := by
  have HL := hid (le_alloc w (.cells #[.slice none 0 0, .int .i64 k] 35))
  go_enter Try.func39, Try.ntmps39
  go_wp2_with (go_at_call 21; ((with_reducible refine (heldS_nil _).mono ?_); rintro e w2 ⟨rfl, rfl⟩))
  go_ret
  exact ⟨rfl, HL.out⟩
theorem eqRing_nil (k : Int) (w : World) : Calls Try.prog 33 #[.agg #[.slice none 0 0, .int .i64 k], .agg #[.slice none 0 0, .int .i64 k]] w fun e w' => e = .returned (.bool true) ∧ le w w' := by
  have F := ((Frm.nil w).box 35 #[.slice none 0 0, .int .i64 k]).box 35 #[.slice none 0 0, .int .i64 k]
  have HL := hid F.below
  clear F
  go_enter Try.func33, Try.ntmps33
  go_wp2_with (go_at_call 19; ((with_reducible refine (eqS_nil _).mono ?_); rintro e w2 ⟨rfl, rfl⟩))
  go_ret
  exact ⟨rfl, HL.out⟩
end Go.Proofs.Ythjdklolbkhbfaa

/- Slices of floats in the laws' helpers: 'szFloat32S', 'toFloat32S', 'eqFloat32S', 'markFloat32S', 'heldFloat32S', over facts of memory. -/
namespace Go.Fk
open Go Go.RowKit
theorem can_int (z : Int) : can .f32 (floatOfInt .f32 z) = floatOfInt .f32 z := can_of_not (isNan_int z)
theorem RdS.slIn {w : World} {B : Nat} {v : Value} {x : Nat → Nat} {n : Nat} (h : RdS w B v x n) : ∃ y, SlIn w v y n ∧ ∀ i, i < n → can .f32 (y i) = x i := by
  rcases h with ⟨rfl, rfl⟩ | ⟨a, cap, rfl, h2, h3, h4⟩
  · exact ⟨fun _ => 0, .inl ⟨rfl, rfl⟩, fun i hi => absurd hi (by omega)⟩
  · have : ∀ i, ∃ y, i < n → w.cell? (a.add i) = some (.float .f32 y) ∧ fits .f32 y ∧ can .f32 y = x i := fun i => by
      by_cases hi : i < n
      · obtain ⟨_, y, e⟩ := h4 i hi; exact ⟨y, fun _ => e⟩
      · exact ⟨0, fun h => absurd h hi⟩
    obtain ⟨y, hy⟩ := Classical.skolem.1 this
    exact ⟨y, .inr ⟨a, cap, rfl, h2, h3, fun i hi => ⟨(hy i hi).1, (hy i hi).2.1⟩⟩, fun i hi => (hy i hi).2.2⟩
theorem same_of_can {y : Nat} {z : Int} (h : can .f32 y = floatOfInt .f32 z) : y = floatOfInt .f32 z :=
  (eq_of_can ((can_int z).trans h.symm) (isNan_int z)).symm
end Go.Fk
namespace Go.Proofs.Ythjdklolbkhbfaa
open Go.RowKit Go.Fk
theorem toR (B : Nat) (v : Value) (x : Nat → Nat) (n : Nat) (w : World) (hv : RdS w B v x n) (hn : n ≤ 1048576) :
    Calls Try.prog 17 #[v] w fun e w' => ∃ s, e = .returned s ∧ OwnS w' w.heap.size w'.heap.size s x n ∧ le w w' := by
  obtain ⟨y, hy, hc⟩ := hv.slIn
  have hf : ∀ i, i < n → fits .f32 (y i) := by
    rcases hy with ⟨_, rfl⟩ | ⟨a, cap, _, _, _, h4⟩
    · intro i hi; omega
    · intro i hi; exact (h4 i hi).2
  refine (toS v y n w hy hn).mono ?_
  rintro e w' ⟨rfl, hr, hl⟩
  exact ⟨_, rfl, .inr ⟨_, 0, n, _, rfl, Nat.le_refl _, by unfold maxLen; omega, Nat.le_refl _, hr.lt, hr, fun i hi => ⟨y i, by rw [Nat.zero_add]; exact get_ftab _ _ _ _ hi, hf i hi, hc i hi⟩⟩, hl⟩
set_option maxHeartbeats 1000000 in
theorem eqR (B B' : Nat) (s s' : Value) (x : Nat → Nat) (n : Nat) (w : World) (hn : n ≤ 1048576) (hs : RdS w B s x n) (hs' : RdS w B' s' x n) :
    Calls Try.prog 19 #[s, s'] w fun e w' => e = .returned (.bool true) ∧ ∃ m, w' = w.drewN m := by
  by_cases h0 : n = 0
  · subst h0
    rcases hs with ⟨rfl, _⟩ | ⟨a, cap, rfl, hc, hg, hx⟩ <;> rcases hs' with ⟨rfl, _⟩ | ⟨a', cap', rfl, hc', hg', hx'⟩
    all_goals
      try clear hx
      try clear hx'
      go_enter Try.func19, Try.ntmps19
      go_wp2
      go_loop [5] (fun i => i = .int .i64 0) (fun _ => 0)
      case atStart => rfl
      case round =>
        obtain rfl := hrel
        go_wp2
        go_ret
        exact ⟨rfl, 0, rfl⟩
  rcases hs with ⟨_, h⟩ | ⟨a, cap, rfl, hc, hg, hx⟩
  · exact absurd h h0
  rcases hs' with ⟨_, h⟩ | ⟨a', cap', rfl, hc', hg', hx'⟩
  · exact absurd h h0
  have HX := hid hx; have HY := hid hx'; clear hx hx' h0
  go_enter Try.func19, Try.ntmps19
  go_wp2
  go_loopw [5] (fun i wr => ∃ k : Nat, k ≤ n ∧ i = .int .i64 k ∧ ∃ m, wr = w.drewN m) (fun i _ => n - (intOf i).toNat)
  case atStart => exact ⟨0, by omega, rfl, 0, rfl⟩
  case round =>
    obtain ⟨k, hk, rfl, m, rfl⟩ := hrel
    by_cases hlt : k < n
    · obtain ⟨_, p, c1, _, e1⟩ := HX.out k hlt
      obtain ⟨_, q, c2, _, e2⟩ := HY.out k hlt
      have hxy := hid (e1.trans e2.symm)
      clear e1 e2
      go_wp2_with fail
      refine wp_region_loose (fun _ _ v => v = .bool true) (by kernel_rfl) (by kernel_rfl) ?_
      repeat (first | (with_reducible refine wpLoose_widen rfl rfl rfl Try.underlying25 Try.underlying45 ?_; intro r hr hf; simp only [Act.put, List.setIfInBounds_toArray, List.set_cons_succ, List.set_cons_zero]) | (refine wpLoose_quiet rfl ?_; go_big_quiet_step (fail); refine wpQuiet_nil ?_))
      refine wpLoose_any rfl (· = .bool true) (fun m0 => ?_) ?_
      · go_simp
        have hr1 := ‹Hid (can .f64 _ = can .f64 (widen p))›
        refine (sameFloat_yes _ _ _ (hr1.out.trans ((congrArg (can .f64) (widen_congr hxy.out)).trans hr.out.symm))).mono ?_
        rintro e w2 ⟨rfl, m2, rfl⟩
        exact ⟨_, rfl, rfl, m0 + m2, by go_simp; rw [Nat.add_assoc]⟩
      · rintro v rfl
        simp only [Act.put, List.setIfInBounds_toArray, List.set_cons_succ, List.set_cons_zero]
        repeat (refine wpLoose_quiet rfl ?_; go_big_quiet_step (fail); refine wpQuiet_nil ?_)
        refine wpLoose_nil (fun m1 => ?_)
        go_wp2
        go_roundw
        case rel => exact ⟨k + 1, by omega, by go_num, _, rfl⟩
        case measure => simp [intOf]; omega
    · obtain rfl : k = n := by omega
      go_wp2
      go_ret
      exact ⟨rfl, _, rfl⟩
set_option maxHeartbeats 1000000 in
theorem markR (lo hi : Nat) (s : Value) (x : Nat → Nat) (n : Nat) (z : Int) (w : World) (hn : n ≤ 1048576) (hz : 0 ≤ z) (hz2 : z ≤ 1073741824) (hs : OwnS w lo hi s x n) :
    Calls Try.prog 20 #[s, .int .i64 z] w fun e w' => e = .returned (.int .i64 (z + n)) ∧ OwnS w' lo hi s (markW z) n ∧ Chg (rng lo hi) w w' ∧ w'.heap.size = w.heap.size := by
  rcases hs with ⟨rfl, rfl⟩ | ⟨b, o, cap, cs, rfl, hc, hg, hb, hb', hr, hx⟩
  · go_enter Try.func20, Try.ntmps20
    go_wp2
    go_loop [1, 5] (fun m i => m = .int .i64 z ∧ i = .int .i64 0) (fun _ _ => 0)
    case atStart => exact ⟨rfl, rfl⟩
    case round =>
      obtain ⟨rfl, rfl⟩ := hrel
      go_wp2
      go_ret
      exact ⟨ret_i (by simp), .inl ⟨rfl, rfl⟩, Chg.refl _ _, rfl⟩
  · have HR := hid hr; have HX := hid hx; clear hr hx
    go_enter Try.func20, Try.ntmps20
    go_wp2
    go_loopw [1, 5] (fun m i wr => ∃ k : Nat, k ≤ n ∧ i = .int .i64 k ∧ m = .int .i64 (z + k) ∧ Hid (∃ ds, Row wr b 25 ds ∧ ∀ j, j < n → ∃ y, ds[o + j]? = some (.float .f32 y) ∧ fits .f32 y ∧ (j < k → can .f32 y = markW z j)) ∧ Hid (Chg (rng lo hi) w wr ∧ wr.heap.size = w.heap.size)) (fun _ i _ => n - (intOf i).toNat)
    case atStart => exact ⟨0, by omega, rfl, by simp, ⟨cs, HR.out, fun j hj => by obtain ⟨y, e1, e2, _⟩ := HX.out j hj; exact ⟨y, e1, e2, fun h => absurd h (by omega)⟩⟩, Chg.refl _ _, rfl⟩
    case round =>
      obtain ⟨k, hk, rfl, rfl, HO, HU⟩ := hrel
      by_cases hlt : k < n
      · rename_i wr _
        obtain ⟨ds, hd, hy⟩ := HO.out
        obtain ⟨y0, c0, _⟩ := hy k hlt
        have c2 : wr.cell? ⟨b, o + k, none⟩ = some (.float .f32 y0) := (hd.cell? (o + k)).trans c0
        have f2 := hd.frozen (o + k)
        have HD := hid hd; have HY := hid hy; have HC := hid c0
        clear hd hy c0 HO
        go_wp2
        go_roundw
        case rel =>
          refine ⟨k + 1, by omega, by go_num, by go_num, ⟨_, HD.out.set (o + k) (.float .f32 (markW z k)), fun j hj => ?_⟩, Chg.setCell HU.out.1 ⟨hb, hb'⟩ _, by simpa using HU.out.2⟩
          by_cases e : j = k
          · subst e
            refine ⟨markW z j, ?_, ?_, fun _ => ?_⟩
            · rw [Array.getElem?_setIfInBounds_self_of_lt (Array.getElem?_eq_some_iff.1 HC.out).1]
            · exact floatOfInt_wf .f32 _
            · exact can_int _
          · obtain ⟨y, e1, e2, e3⟩ := HY.out j hj
            exact ⟨y, by rw [Array.getElem?_setIfInBounds_ne (by omega)]; exact e1, e2, fun h => e3 (by omega)⟩
        case measure => simp [intOf]; omega
      · obtain rfl : k = n := by omega
        go_wp2
        go_ret
        obtain ⟨ds, hd, hy⟩ := HO.out
        exact ⟨rfl, .inr ⟨b, o, cap, ds, rfl, hc, hg, hb, hb', hd, fun j hj => by obtain ⟨y, e1, e2, e3⟩ := hy j hj; exact ⟨y, e1, e2, e3 hj⟩⟩, HU.out.1, HU.out.2⟩
set_option maxHeartbeats 1000000 in
theorem heldR (B : Nat) (s : Value) (n : Nat) (z : Int) (w : World) (hn : n ≤ 1048576) (hz : 0 ≤ z) (hz2 : z ≤ 1073741824) (hs : RdS w B s (markW z) n) :
    Calls Try.prog 21 #[s, .int .i64 z] w fun e w' => e = .returned (.int .i64 (z + n)) ∧ w = w' := by
  rcases hs with ⟨rfl, rfl⟩ | ⟨a, cap, rfl, hc, hg, hx⟩
  · go_enter Try.func21, Try.ntmps21
    go_wp2
    go_loop [1, 5] (fun m i => m = .int .i64 z ∧ i = .int .i64 0) (fun _ _ => 0)
    case atStart => exact ⟨rfl, rfl⟩
    case round =>
      obtain ⟨rfl, rfl⟩ := hrel
      go_wp2
      go_ret
      exact ⟨ret_i (by simp), rfl⟩
  · have HX := hid hx; clear hx
    go_enter Try.func21, Try.ntmps21
    go_wp2
    go_loop [1, 5] (fun m i => ∃ k : Nat, k ≤ n ∧ i = .int .i64 k ∧ m = .int .i64 (z + k)) (fun _ i => n - (intOf i).toNat)
    case atStart => exact ⟨0, by omega, rfl, by simp⟩
    case round =>
      obtain ⟨k, hk, rfl, rfl⟩ := hrel
      by_cases hlt : k < n
      · obtain ⟨_, y, c2, _, hm⟩ := HX.out k hlt
        obtain rfl : y = floatOfInt .f32 (z + k) := same_of_can hm
        clear hm
        have e2 := same_int (z + k)
        go_wp2
        go_round
        case rel => exact ⟨k + 1, by omega, by go_num, by go_num⟩
        case measure => simp [intOf]; omega
      · obtain rfl : k = n := by omega
        go_wp2
        go_ret
        exact ⟨rfl, rfl⟩
end Go.Proofs.Ythjdklolbkhbfaa

/- The same for a region whose last operations are forced to come last, and may write. Nothing here names a program. -/
namespace Go.Fk
open Go Go.RowKit

section
variable {P : Program} {ops : Array Oper} {md : Region.Mode} {C : World → Prop} {K : FuncId → Array Value → Value → Prop}

/-- Whatever order is picked of the first n operations; then L. -/
def anyTail (P : Program) (ops : Array Oper) (md : Region.Mode) (C : World → Prop) (K : FuncId → Array Value → Value → Prop) (n : Nat) (L : Array Bool → Act → Prop) : Nat → Array Bool → Act → Prop
  | 0, listed, a => L listed a
  | f + 1, listed, a => Region.ready md ops listed ≠ [] ∧
      ∀ i ∈ Region.ready md ops listed, i < n ∧ ∀ o, ops[i]? = some o → ∃ V, Gives P ops C K o a V ∧ ∀ v, V v → anyTail P ops md C K n L f (listed.setIfInBounds i true) (a.put o.dst v)

theorem wpOp_gives {i : Nat} {o : Oper} {a : Act} {w : World} {V : Value → Prop} {next : Act → World → Prop} {Q' : Exit → Act → World → Prop} (ho : ops[i]? = some o) (hw : C w) (hg : Gives P ops C K o a V)
    (hn : ∀ v w', C w' → V v → next (a.put o.dst v) w') : wpOp P ops Q' i next a w := by
  unfold wpOp
  simp only [ho]
  rcases hg with ⟨hwant, hv⟩ | ⟨hwant, hv⟩
  · rw [if_pos hwant]
    left
    have h3 := hv w hw
    unfold Oper.wp
    generalize (execOp a.eval o).run P w = r at h3
    cases r with
    | ok x w' =>
      cases x <;> simp only [within] at h3 <;> simp only [Oper.upon]
      case value u => exact hn u _ h3.1 h3.2
      case skip => exact hn undef _ h3.1 h3.2
      case enter f args =>
        refine h3.1.mono fun e w'' he => ?_
        obtain ⟨v, rfl, hk, hc⟩ := he
        exact hn v _ hc (h3.2 v hk)
    | halt x w' => simp only [within] at h3
  · rw [if_neg (by simp [hwant])]
    exact hn undef _ hw hv

theorem anyTail_sound {n g : Nat} {L : Array Bool → Act → Prop} {Q' : Exit → Act → World → Prop} (hL : ∀ listed a w, C w → L listed a → wpAny P md ops Q' g listed a w) :
    ∀ (f : Nat) (listed : Array Bool) (a : Act) (w : World), C w → anyTail P ops md C K n L f listed a → wpAny P md ops Q' (f + g) listed a w := by
  intro f
  induction f with
  | zero => intro listed a w hw h; rw [Nat.zero_add]; exact hL _ _ _ hw h
  | succ f ih =>
    intro listed a w hw h
    rw [show f + 1 + g = (f + g) + 1 by omega]
    refine ⟨fun h0 => absurd h0 h.1, fun i hi => ?_⟩
    obtain ⟨_, o, ho, _⟩ := mem_ready.1 hi
    obtain ⟨V, hg, hn⟩ := (h.2 i hi).2 o ho
    exact wpOp_gives ho hw hg (fun v w' hw' hv => ih _ _ _ hw' (hn v hv))

theorem anyTail_first {n i : Nat} {oi : Oper} {V : Value → Prop} {L : Array Bool → Act → Prop} (hi : ops[i]? = some oi) (hsel : ∀ (j : Nat) (o : Oper) cs b, ops[j]? = some o → o.op ≠ .select cs b) (hne : ∃ v, V v)
    (hs : Region.sinkB md ops n = true) (hc : Region.chainB md ops n = true) (hn : n < ops.size) (hin : i < n)
    (hdone : ∀ listed a, L listed a → ∀ j ∈ Region.ready md ops listed, n ≤ j) :
    ∀ (f : Nat) (listed : Array Bool) (a : Act), HeadInv md ops n listed →
      (∀ j oj, ops[j]? = some oj → j ≠ i → listed.getD j true = false → (∀ e ∈ oj.after, Region.binds md e = true → e.on ≠ i) → oi.apart ops oj = true) →
      i ∈ Region.ready md ops listed → Gives P ops C K oi a V →
      (∀ v, V v → anyTail P ops md C K n L f (listed.setIfInBounds i true) (a.put oi.dst v)) → anyTail P ops md C K n L (f + 1) listed a := by
  intro f
  induction f with
  | zero =>
    intro listed a inv _ hr hg H
    have hun := (mem_ready.1 hr).1
    refine ⟨fun h => (by rw [h] at hr; cases hr), fun j hj => ?_⟩
    have hjn : j < n := by
      rcases Nat.lt_or_ge j n with h | h
      · exact h
      · exact absurd hj (tail_waits hs hc hn inv _ i rfl hin hun j h)
    refine ⟨hjn, fun o ho => ?_⟩
    by_cases hji : j = i
    · subst hji
      rw [hi] at ho; cases ho
      exact ⟨V, hg, H⟩
    · obtain ⟨v, hv⟩ := hne
      have := hdone _ _ (H v hv) j (ready_mono hj hji)
      omega
  | succ f ih =>
    intro listed a inv hfree hr hg H
    have hun := (mem_ready.1 hr).1
    refine ⟨fun h => (by rw [h] at hr; cases hr), fun j hj => ?_⟩
    have hjn : j < n := by
      rcases Nat.lt_or_ge j n with h | h
      · exact h
      · exact absurd hj (tail_waits hs hc hn inv _ i rfl hin hun j h)
    refine ⟨hjn, fun o ho => ?_⟩
    by_cases hji : j = i
    · subst hji
      rw [hi] at ho; cases ho
      exact ⟨V, hg, H⟩
    · obtain ⟨hjun, oj, hoj, hall⟩ := mem_ready.1 hj
      rw [ho] at hoj; cases hoj
      have hnot : ∀ e ∈ o.after, Region.binds md e = true → e.on ≠ i := fun e he hb heq => by
        have h1 := hall e he hb
        rw [heq, getD_both hun] at h1
        cases h1
      have hap := hfree j o ho hji hjun hnot
      obtain ⟨a1, a2, a3⟩ := Oper.apart_spec hap
      have hsi := fun cs b => hsel i oi cs b hi
      have hsj := fun cs b => hsel j o cs b ho
      have hU : ∀ v : {v // V v}, ∃ U, Gives P ops C K o (a.put oi.dst v.1) U ∧ ∀ u, U u → anyTail P ops md C K n L f ((listed.setIfInBounds i true).setIfInBounds j true) ((a.put oi.dst v.1).put o.dst u) :=
        fun v => ((H v.1 v.2).2 j (ready_mono hj hji)).2 o ho
      obtain ⟨v0, hv0⟩ := hne
      let good : Value → Prop := fun u => ∀ v : {v // V v}, True → anyTail P ops md C K n L f ((listed.setIfInBounds i true).setIfInBounds j true) ((a.put oi.dst v.1).put o.dst u)
      have hone : ∀ v : {v // V v}, Gives P ops C K o a (fun u => anyTail P ops md C K n L f ((listed.setIfInBounds i true).setIfInBounds j true) ((a.put oi.dst v.1).put o.dst u)) := fun v => by
        obtain ⟨U, h1, h2⟩ := hU v
        have h1' : Gives P ops C K o a U := h1.same (execOp_put o hsj a oi.dst v.1 a1).symm (wanted_put o a oi.dst v.1 a1).symm
        rcases h1' with ⟨hw, h3⟩ | ⟨hw, h3⟩
        · exact .inl ⟨hw, fun w hw' => within_mono h2 (h3 w hw')⟩
        · exact .inr ⟨hw, h2 _ h3⟩
      have hgood : Gives P ops C K o a good := by
        by_cases hw : Region.wanted o (yielded ops a.tmps) = true
        · refine .inl ⟨hw, fun w hw' => ?_⟩
          refine within_all ⟨⟨v0, hv0⟩, trivial⟩ (fun v _ => ?_)
          rcases hone v with ⟨_, h3⟩ | ⟨h3, _⟩
          · exact h3 w hw'
          · rw [hw] at h3; cases h3
        · refine .inr ⟨by simpa using hw, fun v _ => ?_⟩
          rcases hone v with ⟨h3, _⟩ | ⟨_, h3⟩
          · exact absurd h3 hw
          · exact h3
      refine ⟨good, hgood, ?_⟩
      intro u hu
      have hfree' : ∀ k ok, ops[k]? = some ok → k ≠ i → (listed.setIfInBounds j true).getD k true = false →
          (∀ e ∈ ok.after, Region.binds md e = true → e.on ≠ i) → oi.apart ops ok = true := fun k ok hk hki hun hno => by
        refine hfree k ok hk hki ?_ hno
        by_cases hjk : j = k
        · subst hjk; exact hjun
        · rw [getD_set_ne true hjk] at hun; exact hun
      refine ih (listed.setIfInBounds j true) (a.put o.dst u) (inv.set hj hjn) hfree' (ready_mono hr (Ne.symm hji)) (hg.same (execOp_put oi hsi a o.dst u a3) (wanted_put oi a o.dst u a3)) (fun v hv => ?_)
      rw [Array.setIfInBounds_comm _ _ hji, ← Act.put_comm a v u a2]
      exact hu ⟨v, hv⟩ trivial

theorem anyTail_lex {n g : Nat} {Lq : Act → Prop} (hC : ∃ w, C w) (hsel : Region.noSelect ops = true) (hs : Region.sinkB md ops n = true) (hc : Region.chainB md ops n = true) (hn : n < ops.size) :
    ∀ (l : List Oper) (k : Nat) (listed : Array Bool) (a : Act), (∀ j, j < l.length → l[j]? = ops[k + j]?) → k + l.length = n → HeadInv md ops n listed →
    Region.lexHead md ops g l.length k listed = true → wpLoose P ops C K Lq l a →
    anyTail P ops md C K n (fun listed' a' => Region.seqB md ops g n listed' = true ∧ Lq a') l.length listed a := by
  intro l
  induction l with
  | nil =>
    intro k listed a _ hk _ hB h
    have : k = n := by simpa using hk
    subst this
    exact ⟨by simpa [Region.lexHead] using hB, h⟩
  | cons o l ih =>
    intro k listed a hl hk inv hB h
    have h0 : ops[k]? = some o := by simpa using (hl 0 (by simp)).symm
    simp only [List.length_cons, Region.lexHead, Bool.and_eq_true] at hB
    obtain ⟨⟨hr, hf⟩, hB'⟩ := hB
    have hkn : k < n := by simp only [List.length_cons] at hk; omega
    have hr' : k ∈ Region.ready md ops listed := by simpa using hr
    obtain ⟨V, hg, hnext⟩ := h
    exact anyTail_first h0 (Region.noSelect_spec hsel) (hg.some hC) hs hc hn hkn (fun listed' a' hL => seqB_ready hL.1) l.length listed a inv (Region.free_spec h0 hf) hr' hg
      (fun v hv => ih (k + 1) _ _ (fun j hj => by have := hl (j + 1) (by simp; omega); simpa [Nat.add_assoc, Nat.add_comm 1 j] using this) (by simp only [List.length_cons] at hk; omega) (inv.set hr' hkn) hB' (hnext v hv))

/-- ONE WALK SERVES EVERY ORDER; then the last operations, in theirs. -/
theorem wp_region_tail (K : FuncId → Array Value → Value → Prop) {id : Nat} {Q : Exit → Act → World → Prop} {a : Act} {w : World} {l : List Oper} (n : Nat) (hm : P.follows .mixedOrders = true) (hB : Region.lexTailB .any l.toArray n = true)
    (h : wpLoose P l.toArray (fun w' => ∃ m, w' = w.drewN m) K (fun a' => ∀ m, wpList P l.toArray Q (l.drop n) a' (w.drewN m)) (l.take n) a) : (Code.region id l.toArray true).wp P Q a w := by
  simp only [Region.lexTailB, Bool.and_eq_true, decide_eq_true_eq] at hB
  obtain ⟨⟨⟨⟨hsel, hn⟩, hs⟩, hc⟩, hlex⟩ := hB
  have hn' : n < l.length := by simpa using hn
  have htl : (l.take n).length = n := by simp; omega
  have hdl : (l.drop n).length = l.toArray.size - n := by simp
  have hC : ∃ m, ({ w with drawn := w.drawn + 1 } : World) = w.drewN m := ⟨1, rfl⟩
  have inv0 : HeadInv .any l.toArray n (Array.replicate l.toArray.size false) :=
    ⟨by simp, fun j oj _ hl => (by rw [getD_replicate_false] at hl; cases hl), fun t _ ht => getD_in (by simpa using ht) (getD_replicate_false _ _)⟩
  have H := anyTail_lex (md := .any) (C := fun w' => ∃ m, w' = w.drewN m) (g := l.toArray.size - n) ⟨_, hC⟩ hsel hs hc hn (l.take n) 0 _ a (fun j hj => by
    have hj' : j < n := by rw [htl] at hj; exact hj
    simp [hj']) (by simpa using htl) inv0 (by rw [htl]; exact hlex) h
  refine wp_region_any hm ?_
  have := anyTail_sound (Q' := Q) (C := fun w' => ∃ m, w' = w.drewN m) (g := l.toArray.size - n) (fun listed a' w' hw' hL => by
    obtain ⟨m, rfl⟩ := hw'
    have := wpAny_of_seq (md := .any) (Q' := Q) (l.drop n) n listed a' (w.drewN m) (fun j => by simp [List.getElem?_drop]) (by rw [hdl]; exact hL.1) (hL.2 m)
    rwa [hdl] at this) _ _ _ _ hC H
  rw [htl, show n + (l.toArray.size - n) = l.toArray.size by omega] at this
  exact this
end
end Go.Fk

/- Blocks of 16 floats: 'laws.toBlock', 'laws.eqBlock'. -/
namespace Go.Fk
open Go Go.RowKit
/-- A block of 16 floats is given, each up to the bits of NaN; nothing old is written. -/
def OutB (F : Nat → Nat) (w : World) (e : Ending) (w' : World) : Prop := ∃ g, e = .returned (.agg (ftab .f32 g 16)) ∧ (∀ j, j < 16 → can .f32 (g j) = F j ∧ fits .f32 (g j)) ∧ Below w.heap.size w w'
/-- One cell more of a row that is being filled. -/
theorem fill_step {α : Type} {p : Nat → α → Prop} {g : Nat → α} {k : Nat} {r : α} (h : ∀ j, j < k → p j (g j)) (hr : p k r) : ∀ j, j < k + 1 → p j (if j = k then r else g j) := by
  intro j hj
  by_cases e : j = k
  · subst e; simpa using hr
  · simpa [e] using h j (by omega)
theorem rest_step {α : Type} {g x : Nat → α} {k : Nat} {r : α} (h : ∀ j, k ≤ j → g j = x j) : ∀ j, k + 1 ≤ j → (if j = k then r else g j) = x j := by
  intro j hj
  rw [if_neg (by omega)]
  exact h j (by omega)
end Go.Fk
namespace Go.Proofs.Ythjdklolbkhbfaa
open Go.RowKit Go.Fk



end Go.Proofs.Ythjdklolbkhbfaa

/- Arrays of floats: 'laws.toX', 'laws.eqX' of [3]float32, [2]float32, Table. -/
namespace Go.Proofs.Ythjdklolbkhbfaa
open Go.RowKit Go.Fk
theorem infoA3 : (Try.prog.info? 26).map (·.size) = some 3 := by kernel_rfl
theorem allocA3 (w : World) : (Instr.alloc 26 true (.tuple #[])).run Try.prog w = .ok (.pointer (some ⟨w.heap.size, 0, none⟩)) (w.alloc (.cells (ftab .f32 (fun _ => 0) 3) 26)) := by kernel_rfl
theorem eqA3_yes (x y : Nat → Nat) (w : World) (h : ∀ j, j < 3 → can .f32 (x j) = can .f32 (y j)) :
    Calls Try.prog 58 #[.agg (ftab .f32 x 3), .agg (ftab .f32 y 3)] w fun e w' => e = .returned (.bool true) ∧ Below w.heap.size w w' := by
  have H := hid h; clear h
  go_enter Try.func58, Try.ntmps58
  go_wp2
  go_loopw [5] (fun i wr => ∃ k : Nat, k ≤ 3 ∧ i = .int .i64 k ∧ Row wr w.heap.size 26 (ftab .f32 x 3) ∧ Row wr (w.heap.size + 1) 26 (ftab .f32 y 3) ∧ Below w.heap.size w wr) (fun i _ => 3 - (intOf i).toNat)
  case atStart =>
    exact ⟨0, by omega, rfl, (Row.new w _ _).alloc _, Row.new' _ _ _ (by simp), by repeat' (first | (with_reducible exact Below.refl _ _) | (with_reducible assumption) | (with_reducible refine below_drewN ?_ _) | (with_reducible refine Below.alloc ?_ ?_ _) | (with_reducible refine Below.drew ?_) | (with_reducible refine Below.setCell ?_ ?_ _) | go_size)⟩
  case round =>
    obtain ⟨k, hk, rfl, hA, hB, hb⟩ := hrel
    by_cases hlt : k < 3
    · have c1 := hA.ftab hlt
      have c2 := hB.ftab hlt
      have HA := hid hA; clear hA
      have HB := hid hB; clear hB
      have hxy := hid (H.out k hlt)
      go_wp2_with fail
      refine wp_region_loose (fun _ _ v => v = .bool true) (by kernel_rfl) (by kernel_rfl) ?_
      repeat (first | (with_reducible refine wpLoose_widen rfl rfl rfl Try.underlying25 Try.underlying45 ?_; intro r hr hf; simp only [Act.put, List.setIfInBounds_toArray, List.set_cons_succ, List.set_cons_zero]) | (refine wpLoose_quiet rfl ?_; go_big_quiet_step (fail); refine wpQuiet_nil ?_))
      refine wpLoose_any rfl (· = .bool true) (fun n => ?_) ?_
      · go_simp
        refine loose_of (sameFloat_yes _ _ _ ?_)
        have hr1 := ‹Hid (can .f64 _ = can .f64 (widen (x k)))›
        exact hr1.out.trans ((congrArg (can .f64) (widen_congr hxy)).trans hr.out.symm)
      · rintro v rfl
        simp only [Act.put, List.setIfInBounds_toArray, List.set_cons_succ, List.set_cons_zero]
        repeat (refine wpLoose_quiet rfl ?_; go_big_quiet_step (fail); refine wpQuiet_nil ?_)
        refine wpLoose_nil (fun n => ?_)
        go_wp2
        go_roundw
        case rel => exact ⟨k + 1, by omega, by go_num, HA.out.drewN _, HB.out.drewN _, below_drewN hb _⟩
        case measure => simp [intOf]; omega
    · obtain rfl : k = 3 := by omega
      have HA := hid hA; clear hA
      have HB := hid hB; clear hB
      go_wp2
      go_ret
      exact ⟨rfl, hb⟩
theorem toA3_any (x : Nat → Nat) (w : World) : Calls Try.prog 48 #[.agg (ftab .f32 x 3)] w fun e w' => e = .returned (.agg (ftab .f32 x 3)) ∧ Below w.heap.size w w' := by
  go_enter Try.func48, Try.ntmps48
  go_wp2
  go_loopw [4] (fun i wr => ∃ k : Nat, k ≤ 3 ∧ i = .int .i64 k ∧ Row wr w.heap.size 26 (ftab .f32 x 3) ∧ (∃ z, Row wr (w.heap.size + 1) 26 (ftab .f32 z 3)) ∧ Row wr (w.heap.size + 1 + 1) 26 (ftab .f32 (fun j => if j < k then x j else 0) 3) ∧ Below w.heap.size w wr) (fun i _ => 3 - (intOf i).toNat)
  case atStart =>
    refine ⟨0, by omega, rfl, ?_, ⟨fun _ => 0, ?_⟩, ?_, by repeat' (first | (with_reducible exact Below.refl _ _) | (with_reducible assumption) | (with_reducible refine below_drewN ?_ _) | (with_reducible refine Below.alloc ?_ ?_ _) | (with_reducible refine Below.drew ?_) | (with_reducible refine Below.setCell ?_ ?_ _) | go_size)⟩
    · exact ((Row.new w _ _).alloc _).alloc _
    · exact (Row.new' _ _ _ (by simp)).alloc _
    · exact Row.new' _ _ _ (by simp)
  case round =>
    obtain ⟨k, hk, rfl, hA, ⟨z, hZ⟩, hO, hb⟩ := hrel
    by_cases hlt : k < 3
    · have c1 := hA.ftab hlt
      have c2 := hO.ftab hlt
      have f2 := hO.frozen k
      have HA := hid hA; clear hA
      have HZ := hid hZ; clear hZ
      have HO := hid hO; clear hO
      go_wp2
      go_roundw
      case rel =>
        refine ⟨k + 1, by omega, by go_num, HA.out.other _ _ (by simp; omega), ⟨z, HZ.out.other _ _ (by simp)⟩, ?_, hb.setCell (by simp; omega) _⟩
        have h := HO.out.set k (.float .f32 (x k))
        rw [set_ftab] at h
        rw [show (fun j => if j < k + 1 then x j else 0) = (fun j => if j = k then x k else if j < k then x j else 0) from ?_]
        · exact h
        · funext j
          by_cases e : j = k
          · subst e; simp
          · simp [e, show (j < k + 1) = (j < k) by simp; omega]
      case measure => simp [intOf]; omega
    · obtain rfl : k = 3 := by omega
      rw [show ftab .f32 (fun j => if j < 3 then x j else 0) 3 = ftab .f32 x 3 from ftab_congr (fun j hj => if_pos hj)] at hO
      have HA := hid hA; clear hA
      have hsz : (Try.prog.info? 26).map (·.size) = some (ftab .f32 x 3).size := by rw [size_ftab]; exact infoA3
      go_wp2_with (first | (with_reducible refine wpList_loadA rfl rfl rfl hO Try.underlying26 hsz ?_) | (with_reducible refine wpList_storeA rfl rfl rfl rfl hZ hsz (by rw [size_ftab, size_ftab]) (one_ftab _ _ _) ?_))
      exact bodyPost_ret (results_cell_row rfl _ _ _ _ _ (0, 0) _ rfl (hZ.setRow _) Try.underlying26 rfl hsz) rfl ⟨rfl, below_setRow hb (by omega) _⟩
theorem infoA2 : (Try.prog.info? 27).map (·.size) = some 2 := by kernel_rfl
theorem allocA2 (w : World) : (Instr.alloc 27 true (.tuple #[])).run Try.prog w = .ok (.pointer (some ⟨w.heap.size, 0, none⟩)) (w.alloc (.cells (ftab .f32 (fun _ => 0) 2) 27)) := by kernel_rfl
theorem eqA2_yes (x y : Nat → Nat) (w : World) (h : ∀ j, j < 2 → can .f32 (x j) = can .f32 (y j)) :
    Calls Try.prog 59 #[.agg (ftab .f32 x 2), .agg (ftab .f32 y 2)] w fun e w' => e = .returned (.bool true) ∧ Below w.heap.size w w' := by
  have H := hid h; clear h
  go_enter Try.func59, Try.ntmps59
  go_wp2
  go_loopw [5] (fun i wr => ∃ k : Nat, k ≤ 2 ∧ i = .int .i64 k ∧ Row wr w.heap.size 27 (ftab .f32 x 2) ∧ Row wr (w.heap.size + 1) 27 (ftab .f32 y 2) ∧ Below w.heap.size w wr) (fun i _ => 2 - (intOf i).toNat)
  case atStart =>
    exact ⟨0, by omega, rfl, (Row.new w _ _).alloc _, Row.new' _ _ _ (by simp), by repeat' (first | (with_reducible exact Below.refl _ _) | (with_reducible assumption) | (with_reducible refine below_drewN ?_ _) | (with_reducible refine Below.alloc ?_ ?_ _) | (with_reducible refine Below.drew ?_) | (with_reducible refine Below.setCell ?_ ?_ _) | go_size)⟩
  case round =>
    obtain ⟨k, hk, rfl, hA, hB, hb⟩ := hrel
    by_cases hlt : k < 2
    · have c1 := hA.ftab hlt
      have c2 := hB.ftab hlt
      have HA := hid hA; clear hA
      have HB := hid hB; clear hB
      have hxy := hid (H.out k hlt)
      go_wp2_with fail
      refine wp_region_loose (fun _ _ v => v = .bool true) (by kernel_rfl) (by kernel_rfl) ?_
      repeat (first | (with_reducible refine wpLoose_widen rfl rfl rfl Try.underlying25 Try.underlying45 ?_; intro r hr hf; simp only [Act.put, List.setIfInBounds_toArray, List.set_cons_succ, List.set_cons_zero]) | (refine wpLoose_quiet rfl ?_; go_big_quiet_step (fail); refine wpQuiet_nil ?_))
      refine wpLoose_any rfl (· = .bool true) (fun n => ?_) ?_
      · go_simp
        refine loose_of (sameFloat_yes _ _ _ ?_)
        have hr1 := ‹Hid (can .f64 _ = can .f64 (widen (x k)))›
        exact hr1.out.trans ((congrArg (can .f64) (widen_congr hxy)).trans hr.out.symm)
      · rintro v rfl
        simp only [Act.put, List.setIfInBounds_toArray, List.set_cons_succ, List.set_cons_zero]
        repeat (refine wpLoose_quiet rfl ?_; go_big_quiet_step (fail); refine wpQuiet_nil ?_)
        refine wpLoose_nil (fun n => ?_)
        go_wp2
        go_roundw
        case rel => exact ⟨k + 1, by omega, by go_num, HA.out.drewN _, HB.out.drewN _, below_drewN hb _⟩
        case measure => simp [intOf]; omega
    · obtain rfl : k = 2 := by omega
      have HA := hid hA; clear hA
      have HB := hid hB; clear hB
      go_wp2
      go_ret
      exact ⟨rfl, hb⟩
theorem toA2_any (x : Nat → Nat) (w : World) : Calls Try.prog 49 #[.agg (ftab .f32 x 2)] w fun e w' => e = .returned (.agg (ftab .f32 x 2)) ∧ Below w.heap.size w w' := by
  go_enter Try.func49, Try.ntmps49
  go_wp2
  go_loopw [4] (fun i wr => ∃ k : Nat, k ≤ 2 ∧ i = .int .i64 k ∧ Row wr w.heap.size 27 (ftab .f32 x 2) ∧ (∃ z, Row wr (w.heap.size + 1) 27 (ftab .f32 z 2)) ∧ Row wr (w.heap.size + 1 + 1) 27 (ftab .f32 (fun j => if j < k then x j else 0) 2) ∧ Below w.heap.size w wr) (fun i _ => 2 - (intOf i).toNat)
  case atStart =>
    refine ⟨0, by omega, rfl, ?_, ⟨fun _ => 0, ?_⟩, ?_, by repeat' (first | (with_reducible exact Below.refl _ _) | (with_reducible assumption) | (with_reducible refine below_drewN ?_ _) | (with_reducible refine Below.alloc ?_ ?_ _) | (with_reducible refine Below.drew ?_) | (with_reducible refine Below.setCell ?_ ?_ _) | go_size)⟩
    · exact ((Row.new w _ _).alloc _).alloc _
    · exact (Row.new' _ _ _ (by simp)).alloc _
    · exact Row.new' _ _ _ (by simp)
  case round =>
    obtain ⟨k, hk, rfl, hA, ⟨z, hZ⟩, hO, hb⟩ := hrel
    by_cases hlt : k < 2
    · have c1 := hA.ftab hlt
      have c2 := hO.ftab hlt
      have f2 := hO.frozen k
      have HA := hid hA; clear hA
      have HZ := hid hZ; clear hZ
      have HO := hid hO; clear hO
      go_wp2
      go_roundw
      case rel =>
        refine ⟨k + 1, by omega, by go_num, HA.out.other _ _ (by simp; omega), ⟨z, HZ.out.other _ _ (by simp)⟩, ?_, hb.setCell (by simp; omega) _⟩
        have h := HO.out.set k (.float .f32 (x k))
        rw [set_ftab] at h
        rw [show (fun j => if j < k + 1 then x j else 0) = (fun j => if j = k then x k else if j < k then x j else 0) from ?_]
        · exact h
        · funext j
          by_cases e : j = k
          · subst e; simp
          · simp [e, show (j < k + 1) = (j < k) by simp; omega]
      case measure => simp [intOf]; omega
    · obtain rfl : k = 2 := by omega
      rw [show ftab .f32 (fun j => if j < 2 then x j else 0) 2 = ftab .f32 x 2 from ftab_congr (fun j hj => if_pos hj)] at hO
      have HA := hid hA; clear hA
      have hsz : (Try.prog.info? 27).map (·.size) = some (ftab .f32 x 2).size := by rw [size_ftab]; exact infoA2
      go_wp2_with (first | (with_reducible refine wpList_loadA rfl rfl rfl hO Try.underlying27 hsz ?_) | (with_reducible refine wpList_storeA rfl rfl rfl rfl hZ hsz (by rw [size_ftab, size_ftab]) (one_ftab _ _ _) ?_))
      exact bodyPost_ret (results_cell_row rfl _ _ _ _ _ (0, 0) _ rfl (hZ.setRow _) Try.underlying27 rfl hsz) rfl ⟨rfl, below_setRow hb (by omega) _⟩
end Go.Proofs.Ythjdklolbkhbfaa
