/- Facts of memory, all in one hypothesis: each speaks of a range of blocks. Slices of floats, up to the bits of NaN. Nothing here names a program. -/
import Derived.Test.YtaenbpkcehenkacFreeD
import Derived.Test.YtaenbpkcehenkacOpen3
namespace Go.Fk
open Go Go.RowKit

/-- Of what was there, blocks of S alone may have turned. -/
structure Chg (S : Nat → Prop) (w w' : World) : Prop where
  os : w'.os = w.os
  tape : w'.tape = w.tape
  output : w'.output = w.output
  size : w.heap.size ≤ w'.heap.size
  block : ∀ k, k < w.heap.size → ¬ S k → w'.heap[k]? = w.heap[k]?
/-- Blocks from lo to hi. -/
def rng (lo hi : Nat) (k : Nat) : Prop := lo ≤ k ∧ k < hi
namespace Chg
variable {S T : Nat → Prop} {w w' w'' : World}
theorem refl (S : Nat → Prop) (w : World) : Chg S w w := ⟨rfl, rfl, rfl, Nat.le_refl _, fun _ _ _ => rfl⟩
theorem of_le (k : Fk.le w w') : Chg S w w' := ⟨k.os, k.tape, k.output, k.size, fun i hi _ => k.block i hi⟩
theorem trans (h : Chg S w w') (k : Chg S w' w'') : Chg S w w'' :=
  ⟨k.os.trans h.os, k.tape.trans h.tape, k.output.trans h.output, Nat.le_trans h.size k.size, fun i hi hn => (k.block i (Nat.lt_of_lt_of_le hi h.size) hn).trans (h.block i hi hn)⟩
theorem le (h : Chg S w w') (k : Fk.le w' w'') : Chg S w w'' := h.trans (of_le k)
theorem setCell (h : Chg S w w') {a : Addr} (h1 : S a.block) (v : Value) : Chg S w (w'.setCell a v) :=
  ⟨h.os, h.tape, h.output, by simpa using h.size, fun i hi hn => (Below.heap_setCell _ _ _ _ (by intro e; subst e; exact hn h1)).trans (h.block i hi hn)⟩
theorem mono (h : Chg S w w') (hS : ∀ k, S k → T k) : Chg T w w' :=
  ⟨h.os, h.tape, h.output, h.size, fun i hi hn => h.block i hi (fun hs => hn (hS i hs))⟩
theorem below (h : Chg S w w') {B : Nat} (hB : ∀ k, S k → B ≤ k) (hw : B ≤ w.heap.size) : Below B w w' :=
  ⟨h.os, h.tape, h.output, h.size, fun i hi => h.block i (by omega) (fun hs => by have := hB i hs; omega)⟩
theorem row (h : Chg S w w') {g : Nat} {t : TypeId} {cs : Array Value} (hr : Row w g t cs) (hn : ¬ S g) : Row w' g t cs := by
  have := h.block g hr.lt hn
  unfold Row at *; rw [this]; exact hr
theorem wrote (h : Chg S w w') {g : Nat} {t : TypeId} {cs : Array Value} (k : Wrote w' w'' g t cs) (hg : S g) : Chg S w w'' :=
  have kb := k.below 0 w' (Below.refl _ _) (Nat.zero_le _)
  h.trans ⟨kb.os, kb.tape, kb.output, kb.size, fun i _ hn => k.block i (fun e => hn (e ▸ hg))⟩
end Chg

/-- What is known of memory, and the blocks that it speaks of. -/
structure Fact where
  lo : Nat
  hi : Nat
  p : World → Prop
  ok : ∀ w w', p w → (∀ k, lo ≤ k → k < hi → w'.heap[k]? = w.heap[k]?) → p w'

/-- Nothing that 'w0' holds has turned; and these facts, the newest first: each speaks of blocks that are newer than those of the next. -/
structure Frg (w0 w : World) (L : List Fact) : Prop where
  below : le w0 w
  facts : ∀ e ∈ L, w0.heap.size ≤ e.lo ∧ e.hi ≤ w.heap.size ∧ e.p w
  apart : L.Pairwise (fun a b => b.hi ≤ a.lo)

theorem m0 {a : Fact} {l : List Fact} : a ∈ a :: l := List.mem_cons_self
theorem m1 {b0 a : Fact} {l : List Fact} : a ∈ b0 :: a :: l := List.mem_cons_of_mem _ (List.mem_cons_self)
theorem m2 {b0 b1 a : Fact} {l : List Fact} : a ∈ b0 :: b1 :: a :: l := List.mem_cons_of_mem _ (List.mem_cons_of_mem _ (List.mem_cons_self))
theorem m3 {b0 b1 b2 a : Fact} {l : List Fact} : a ∈ b0 :: b1 :: b2 :: a :: l := List.mem_cons_of_mem _ (List.mem_cons_of_mem _ (List.mem_cons_of_mem _ (List.mem_cons_self)))
theorem m4 {b0 b1 b2 b3 a : Fact} {l : List Fact} : a ∈ b0 :: b1 :: b2 :: b3 :: a :: l := List.mem_cons_of_mem _ (List.mem_cons_of_mem _ (List.mem_cons_of_mem _ (List.mem_cons_of_mem _ (List.mem_cons_self))))
theorem m5 {b0 b1 b2 b3 b4 a : Fact} {l : List Fact} : a ∈ b0 :: b1 :: b2 :: b3 :: b4 :: a :: l := List.mem_cons_of_mem _ (List.mem_cons_of_mem _ (List.mem_cons_of_mem _ (List.mem_cons_of_mem _ (List.mem_cons_of_mem _ (List.mem_cons_self)))))
theorem m6 {b0 b1 b2 b3 b4 b5 a : Fact} {l : List Fact} : a ∈ b0 :: b1 :: b2 :: b3 :: b4 :: b5 :: a :: l := List.mem_cons_of_mem _ (List.mem_cons_of_mem _ (List.mem_cons_of_mem _ (List.mem_cons_of_mem _ (List.mem_cons_of_mem _ (List.mem_cons_of_mem _ (List.mem_cons_self))))))
theorem m7 {b0 b1 b2 b3 b4 b5 b6 a : Fact} {l : List Fact} : a ∈ b0 :: b1 :: b2 :: b3 :: b4 :: b5 :: b6 :: a :: l := List.mem_cons_of_mem _ (List.mem_cons_of_mem _ (List.mem_cons_of_mem _ (List.mem_cons_of_mem _ (List.mem_cons_of_mem _ (List.mem_cons_of_mem _ (List.mem_cons_of_mem _ (List.mem_cons_self)))))))
theorem m8 {b0 b1 b2 b3 b4 b5 b6 b7 a : Fact} {l : List Fact} : a ∈ b0 :: b1 :: b2 :: b3 :: b4 :: b5 :: b6 :: b7 :: a :: l := List.mem_cons_of_mem _ (List.mem_cons_of_mem _ (List.mem_cons_of_mem _ (List.mem_cons_of_mem _ (List.mem_cons_of_mem _ (List.mem_cons_of_mem _ (List.mem_cons_of_mem _ (List.mem_cons_of_mem _ (List.mem_cons_self))))))))
theorem m9 {b0 b1 b2 b3 b4 b5 b6 b7 b8 a : Fact} {l : List Fact} : a ∈ b0 :: b1 :: b2 :: b3 :: b4 :: b5 :: b6 :: b7 :: b8 :: a :: l := List.mem_cons_of_mem _ (List.mem_cons_of_mem _ (List.mem_cons_of_mem _ (List.mem_cons_of_mem _ (List.mem_cons_of_mem _ (List.mem_cons_of_mem _ (List.mem_cons_of_mem _ (List.mem_cons_of_mem _ (List.mem_cons_of_mem _ (List.mem_cons_self)))))))))
theorem m10 {b0 b1 b2 b3 b4 b5 b6 b7 b8 b9 a : Fact} {l : List Fact} : a ∈ b0 :: b1 :: b2 :: b3 :: b4 :: b5 :: b6 :: b7 :: b8 :: b9 :: a :: l := List.mem_cons_of_mem _ (List.mem_cons_of_mem _ (List.mem_cons_of_mem _ (List.mem_cons_of_mem _ (List.mem_cons_of_mem _ (List.mem_cons_of_mem _ (List.mem_cons_of_mem _ (List.mem_cons_of_mem _ (List.mem_cons_of_mem _ (List.mem_cons_of_mem _ (List.mem_cons_self))))))))))
theorem m11 {b0 b1 b2 b3 b4 b5 b6 b7 b8 b9 b10 a : Fact} {l : List Fact} : a ∈ b0 :: b1 :: b2 :: b3 :: b4 :: b5 :: b6 :: b7 :: b8 :: b9 :: b10 :: a :: l := List.mem_cons_of_mem _ (List.mem_cons_of_mem _ (List.mem_cons_of_mem _ (List.mem_cons_of_mem _ (List.mem_cons_of_mem _ (List.mem_cons_of_mem _ (List.mem_cons_of_mem _ (List.mem_cons_of_mem _ (List.mem_cons_of_mem _ (List.mem_cons_of_mem _ (List.mem_cons_of_mem _ (List.mem_cons_self)))))))))))
def rowF (g : Nat) (t : TypeId) (cs : Array Value) : Fact := ⟨g, g + 1, fun w => Row w g t cs, fun w w' h hk => by
  unfold Row at *; rw [hk g (Nat.le_refl _) (Nat.lt_succ_self _)]; exact h⟩

/-- A slice of n floats that can be read; its blocks lie below B. -/
def RdS (w : World) (B : Nat) (s : Value) (x : Nat → Nat) (n : Nat) : Prop :=
  (s = .slice none 0 0 ∧ n = 0) ∨ ∃ (a : Addr) (cap : Nat), s = .slice (some a) n cap ∧ n ≤ cap ∧ cap ≤ maxLen ∧ ∀ i, i < n → a.block < B ∧ ∃ y, w.cell? (a.add i) = some (.float .f32 y) ∧ fits .f32 y ∧ can .f32 y = x i
/-- A slice of n floats that one may write, in blocks from lo to hi. -/
def OwnS (w : World) (lo hi : Nat) (s : Value) (x : Nat → Nat) (n : Nat) : Prop :=
  (s = .slice none 0 0 ∧ n = 0) ∨ ∃ (b o cap : Nat) (t : TypeId) (cs : Array Value), s = .slice (some ⟨b, o, none⟩) n cap ∧ n ≤ cap ∧ cap ≤ maxLen ∧ lo ≤ b ∧ b < hi ∧ Row w b t cs ∧ ∀ i, i < n → ∃ y, cs[o + i]? = some (.float .f32 y) ∧ fits .f32 y ∧ can .f32 y = x i

theorem add_block (a : Addr) (i : Nat) : (a.add i).block = a.block := by unfold Addr.add; split <;> rfl
theorem add_none (b o i : Nat) : (⟨b, o, none⟩ : Addr).add i = ⟨b, o + i, none⟩ := by
  unfold Addr.add; split
  · subst_vars; rfl
  · rfl
theorem cell_of_heap {w w' : World} {a : Addr} (h : w'.heap[a.block]? = w.heap[a.block]?) : w'.cell? a = w.cell? a := by simp [World.cell?, h]
def rdF (B : Nat) (s : Value) (x : Nat → Nat) (n : Nat) : Fact := ⟨0, B, fun w => RdS w B s x n, fun w w' h hk => by
  rcases h with h | ⟨a, cap, h1, h2, h3, h5⟩
  · exact .inl h
  · exact .inr ⟨a, cap, h1, h2, h3, fun i hi => by
      obtain ⟨h4, y, e1, e2⟩ := h5 i hi
      exact ⟨h4, y, (cell_of_heap (a := a.add i) (by rw [add_block]; exact hk a.block (Nat.zero_le _) h4)).trans e1, e2⟩⟩⟩
def ownF (lo hi : Nat) (s : Value) (x : Nat → Nat) (n : Nat) : Fact := ⟨lo, hi, fun w => OwnS w lo hi s x n, fun w w' h hk => by
  rcases h with h | ⟨b, o, cap, t, cs, h1, h2, h3, h4, h5, h6, h7⟩
  · exact .inl h
  · exact .inr ⟨b, o, cap, t, cs, h1, h2, h3, h4, h5, by unfold Row at *; rw [hk b h4 h5]; exact h6, h7⟩⟩
theorem OwnS.rd {w : World} {lo hi : Nat} {s : Value} {x : Nat → Nat} {n : Nat} (h : OwnS w lo hi s x n) : RdS w hi s x n := by
  rcases h with h | ⟨b, o, cap, t, cs, h1, h2, h3, h4, h5, h6, h7⟩
  · exact .inl h
  · exact .inr ⟨_, cap, h1, h2, h3, fun i hi => by
      obtain ⟨y, e1, e2⟩ := h7 i hi
      exact ⟨h5, y, by rw [add_none]; exact (h6.cell? (o + i)).trans e1, e2⟩⟩
theorem RdS.mono {w : World} {B B' : Nat} {s : Value} {x : Nat → Nat} {n : Nat} (h : RdS w B s x n) (hB : B ≤ B') : RdS w B' s x n := by
  rcases h with h | ⟨a, cap, h1, h2, h3, h5⟩
  · exact .inl h
  · exact .inr ⟨a, cap, h1, h2, h3, fun i hi => ⟨Nat.lt_of_lt_of_le (h5 i hi).1 hB, (h5 i hi).2⟩⟩
theorem OwnS.mono {w : World} {lo hi lo' hi' : Nat} {s : Value} {x : Nat → Nat} {n : Nat} (h : OwnS w lo hi s x n) (h1 : lo' ≤ lo) (h2 : hi ≤ hi') : OwnS w lo' hi' s x n := by
  rcases h with h | ⟨b, o, cap, t, cs, e1, e2, e3, e4, e5, e6, e7⟩
  · exact .inl h
  · exact .inr ⟨b, o, cap, t, cs, e1, e2, e3, by omega, by omega, e6, e7⟩
theorem RdS.congr {w : World} {B : Nat} {s : Value} {x x' : Nat → Nat} {n : Nat} (h : RdS w B s x n) (hx : ∀ i, i < n → x i = x' i) : RdS w B s x' n := by
  rcases h with h | ⟨a, cap, h1, h2, h3, h5⟩
  · exact .inl h
  · exact .inr ⟨a, cap, h1, h2, h3, fun i hi => by obtain ⟨h4, y, e1, e2, e3⟩ := h5 i hi; exact ⟨h4, y, e1, e2, e3.trans (hx i hi)⟩⟩
theorem OwnS.congr {w : World} {lo hi : Nat} {s : Value} {x x' : Nat → Nat} {n : Nat} (h : OwnS w lo hi s x n) (hx : ∀ i, i < n → x i = x' i) : OwnS w lo hi s x' n := by
  rcases h with h | ⟨b, o, cap, t, cs, h1, h2, h3, h4, h5, h6, h7⟩
  · exact .inl h
  · exact .inr ⟨b, o, cap, t, cs, h1, h2, h3, h4, h5, h6, fun i hi => by obtain ⟨y, e1, e2, e3⟩ := h7 i hi; exact ⟨y, e1, e2, e3.trans (hx i hi)⟩⟩
theorem RdS.le {w w' : World} {B : Nat} {s : Value} {x : Nat → Nat} {n : Nat} (h : RdS w B s x n) (hl : Fk.le w w') : RdS w' B s x n := by
  rcases h with h | ⟨a, cap, h1, h2, h3, h5⟩
  · exact .inl h
  · exact .inr ⟨a, cap, h1, h2, h3, fun i hi => by
      obtain ⟨h4, y, e1, e2⟩ := h5 i hi
      have hlt : (a.add i).block < w.heap.size := by
        apply Nat.lt_of_not_le
        intro hle
        have : w.heap[(a.add i).block]? = none := Array.getElem?_eq_none hle
        simp [World.cell?, this] at e1
      exact ⟨h4, y, (Below.cell hl hlt).trans e1, e2⟩⟩
theorem OwnS.le {w w' : World} {lo hi : Nat} {s : Value} {x : Nat → Nat} {n : Nat} (h : OwnS w lo hi s x n) (hl : Fk.le w w') : OwnS w' lo hi s x n := by
  rcases h with h | ⟨b, o, cap, t, cs, h1, h2, h3, h4, h5, h6, h7⟩
  · exact .inl h
  · exact .inr ⟨b, o, cap, t, cs, h1, h2, h3, h4, h5, h6.le hl, h7⟩
theorem RdS.small {w : World} {B : Nat} {s : Value} {x : Nat → Nat} {n : Nat} (h : RdS w B s x n) : n ≤ 9223372036854775807 := by
  rcases h with ⟨_, rfl⟩ | ⟨a, cap, h1, h2, h3, _⟩
  · omega
  · unfold maxLen at h3; omega
theorem SlIn.rd {w : World} {s : Value} {x : Nat → Nat} {n : Nat} (h : SlIn w s x n) : RdS w w.heap.size s (fun i => can .f32 (x i)) n := by
  rcases h with h | ⟨a, cap, h1, h2, h3, h4⟩
  · exact .inl h
  · exact .inr ⟨a, cap, h1, h2, h3, fun i hi => by
      obtain ⟨e1, e2⟩ := h4 i hi
      refine ⟨?_, _, e1, e2, rfl⟩
      show a.block < _
      rw [← add_block a i]
      apply Nat.lt_of_not_le
      intro hle
      have : w.heap[(a.add i).block]? = none := Array.getElem?_eq_none hle
      simp [World.cell?, this] at e1⟩

theorem OwnS.one {w : World} {lo hi : Nat} {s : Value} {x : Nat → Nat} {n : Nat} (h : OwnS w lo hi s x n) : s.oneCell' = true := by
  rcases h with ⟨rfl, _⟩ | ⟨b, o, cap, t, cs, rfl, _⟩ <;> rfl
theorem RdS.one {w : World} {B : Nat} {s : Value} {x : Nat → Nat} {n : Nat} (h : RdS w B s x n) : s.oneCell' = true := by
  rcases h with ⟨rfl, _⟩ | ⟨a, cap, rfl, _⟩ <;> rfl
theorem one_head {s : Value} {l : List Value} (h : s.oneCell' = true) (hl : l.all (·.oneCell') = true) : (s :: l).toArray.all (·.oneCell') = true := by
  simp only [List.all_toArray', List.all_cons, h, hl, Bool.and_self]
namespace Frg
variable {w0 w w' : World} {L : List Fact}
theorem nil (w : World) : Frg w w [] := ⟨le_refl w, by simp, .nil⟩
theorem le (h : Frg w0 w L) (k : Below w.heap.size w w') : Frg w0 w' L := ⟨le_trans h.below k, fun e he => by
  obtain ⟨h0, h1, h2⟩ := h.facts e he
  exact ⟨h0, Nat.le_trans h1 k.size, e.ok w w' h2 (fun i _ hi => k.block i (by omega))⟩, h.apart⟩
theorem drewN (h : Frg w0 w L) (n : Nat) : Frg w0 (w.drewN n) L := h.le (le_drewN w n)
theorem alloc (h : Frg w0 w L) (o : Obj) : Frg w0 (w.alloc o) L := h.le (le_alloc w o)
/-- A new fact, of blocks that are newer than all that was there. -/
theorem push (h : Frg w0 w L) (k : Below w.heap.size w w') {e : Fact} (he : e.p w') (hl : w.heap.size ≤ e.lo) (hh : e.hi ≤ w'.heap.size) : Frg w0 w' (e :: L) := by
  refine ⟨(h.le k).below, fun x hx => ?_, .cons (fun x hx => Nat.le_trans (h.facts x hx).2.1 hl) h.apart⟩
  rcases List.mem_cons.1 hx with rfl | hx
  · exact ⟨Nat.le_trans h.below.size hl, hh, he⟩
  · exact (h.le k).facts x hx
theorem box (h : Frg w0 w L) (t : TypeId) (cs : Array Value) : Frg w0 (w.alloc (.cells cs t)) (rowF w.heap.size t cs :: L) :=
  h.push (le_alloc w _) (Row.new w t cs) (Nat.le_refl _) (by simp [rowF])
theorem own1 (h : Frg w0 w L) (k : Below w.heap.size w w') {s : Value} {x : Nat → Nat} {n : Nat} (he : OwnS w' w.heap.size w'.heap.size s x n) : Frg w0 w' (ownF w.heap.size w'.heap.size s x n :: L) :=
  h.push k he (Nat.le_refl _) (Nat.le_refl _)
theorem row (h : Frg w0 w L) {g : Nat} {t : TypeId} {cs : Array Value} (hm : rowF g t cs ∈ L) : Row w g t cs := (h.facts _ hm).2.2
theorem own (h : Frg w0 w L) {lo hi : Nat} {s : Value} {x : Nat → Nat} {n : Nat} (hm : ownF lo hi s x n ∈ L) : OwnS w lo hi s x n := (h.facts _ hm).2.2
theorem size (h : Frg w0 w L) : w0.heap.size ≤ w.heap.size := h.below.size
theorem sub {L' : List Fact} (h : Frg w0 w L) (hs : L'.Sublist L) : Frg w0 w L' := ⟨h.below, fun x hx => h.facts x (hs.mem hx), h.apart.sublist hs⟩
/-- One fact's blocks are written: all other facts stand. -/
theorem chg (pre : List Fact) {post : List Fact} {e e' : Fact} (h : Frg w0 w (pre ++ e :: post)) (k : Chg (rng e.lo e.hi) w w') (hp : e'.p w') (h1 : e'.lo = e.lo) (h2 : e'.hi = e.hi) : Frg w0 w' (pre ++ e' :: post) := by
  have he := h.facts e (by simp)
  have hap := List.pairwise_append.1 h.apart
  have hap2 := List.pairwise_cons.1 hap.2.1
  refine ⟨h.below.trans (k.below (fun i hi => Nat.le_trans he.1 hi.1) h.size), fun x hx => ?_, ?_⟩
  · rcases List.mem_append.1 hx with hx | hx
    · have hx' := h.facts x (List.mem_append_left _ hx)
      have ha := hap.2.2 x hx e (by simp)
      exact ⟨hx'.1, Nat.le_trans hx'.2.1 k.size, x.ok w w' hx'.2.2 (fun i a b => k.block i (by omega) (fun c => by have := c.2; omega))⟩
    · rcases List.mem_cons.1 hx with rfl | hx
      · exact ⟨by rw [h1]; exact he.1, by rw [h2]; exact Nat.le_trans he.2.1 k.size, hp⟩
      · have hx' := h.facts x (List.mem_append_right _ (List.mem_cons_of_mem _ hx))
        have ha := hap2.1 x hx
        exact ⟨hx'.1, Nat.le_trans hx'.2.1 k.size, x.ok w w' hx'.2.2 (fun i a b => k.block i (by omega) (fun c => by have := c.1; omega))⟩
  · refine List.pairwise_append.2 ⟨hap.1, List.pairwise_cons.2 ⟨fun x hx => ?_, hap2.2⟩, fun x hx y hy => ?_⟩
    · show x.hi ≤ e'.lo; rw [h1]; exact hap2.1 x hx
    · rcases List.mem_cons.1 hy with rfl | hy
      · show y.hi ≤ x.lo; rw [h2]; exact hap.2.2 x hx e (by simp)
      · exact hap.2.2 x hx y (List.mem_cons_of_mem _ hy)
/-- A row is written. -/
theorem wrote (pre : List Fact) {post : List Fact} {g : Nat} {t : TypeId} {cs cs' : Array Value} (h : Frg w0 w (pre ++ rowF g t cs :: post)) (k : Wrote w w' g t cs') : Frg w0 w' (pre ++ rowF g t cs' :: post) :=
  chg pre (e := rowF g t cs) (e' := rowF g t cs') h ((Chg.refl (rng g (g + 1)) w).wrote k ⟨Nat.le_refl _, Nat.lt_succ_self _⟩) k.row rfl rfl
theorem setC (pre : List Fact) {post : List Fact} {g : Nat} {t : TypeId} {cs : Array Value} (h : Frg w0 w (pre ++ rowF g t cs :: post)) (i : Nat) (v : Value) : Frg w0 (w.setCell ⟨g, i, none⟩ v) (pre ++ rowF g t (cs.setIfInBounds i v) :: post) :=
  chg pre (e := rowF g t cs) (e' := rowF g t (cs.setIfInBounds i v)) h ((Chg.refl (rng g (g + 1)) w).setCell ⟨Nat.le_refl _, Nat.lt_succ_self _⟩ v) ((h.row (by simp)).set i v) rfl rfl
theorem wr0 {post : List Fact} {g : Nat} {t : TypeId} {cs cs' : Array Value} (h : Frg w0 w (rowF g t cs :: post)) (k : Wrote w w' g t cs') : Frg w0 w' (rowF g t cs' :: post) := wrote [] h k
theorem wr1 {b0 : Fact} {post : List Fact} {g : Nat} {t : TypeId} {cs cs' : Array Value} (h : Frg w0 w (b0 :: rowF g t cs :: post)) (k : Wrote w w' g t cs') : Frg w0 w' (b0 :: rowF g t cs' :: post) := wrote [b0] h k
theorem wr2 {b0 b1 : Fact} {post : List Fact} {g : Nat} {t : TypeId} {cs cs' : Array Value} (h : Frg w0 w (b0 :: b1 :: rowF g t cs :: post)) (k : Wrote w w' g t cs') : Frg w0 w' (b0 :: b1 :: rowF g t cs' :: post) := wrote [b0, b1] h k
theorem wr3 {b0 b1 b2 : Fact} {post : List Fact} {g : Nat} {t : TypeId} {cs cs' : Array Value} (h : Frg w0 w (b0 :: b1 :: b2 :: rowF g t cs :: post)) (k : Wrote w w' g t cs') : Frg w0 w' (b0 :: b1 :: b2 :: rowF g t cs' :: post) := wrote [b0, b1, b2] h k
theorem set0 {post : List Fact} {g : Nat} {t : TypeId} {cs : Array Value} (h : Frg w0 w (rowF g t cs :: post)) (i : Nat) (v : Value) : Frg w0 (w.setCell ⟨g, i, none⟩ v) (rowF g t (cs.setIfInBounds i v) :: post) := setC [] h i v
theorem set1 {b0 : Fact} {post : List Fact} {g : Nat} {t : TypeId} {cs : Array Value} (h : Frg w0 w (b0 :: rowF g t cs :: post)) (i : Nat) (v : Value) : Frg w0 (w.setCell ⟨g, i, none⟩ v) (b0 :: rowF g t (cs.setIfInBounds i v) :: post) := setC [b0] h i v
theorem set2 {b0 b1 : Fact} {post : List Fact} {g : Nat} {t : TypeId} {cs : Array Value} (h : Frg w0 w (b0 :: b1 :: rowF g t cs :: post)) (i : Nat) (v : Value) : Frg w0 (w.setCell ⟨g, i, none⟩ v) (b0 :: b1 :: rowF g t (cs.setIfInBounds i v) :: post) := setC [b0, b1] h i v
theorem mark0 {lo hi n : Nat} {s : Value} {x x' : Nat → Nat} {l : List Fact} (h : Frg w0 w (ownF lo hi s x n :: l)) (hp : OwnS w' lo hi s x' n) (k : Chg (rng lo hi) w w') : Frg w0 w' (ownF lo hi s x' n :: l) :=
  chg [] (e := ownF lo hi s x n) (e' := ownF lo hi s x' n) h k hp rfl rfl
theorem mark1 {lo hi n : Nat} {s : Value} {x x' : Nat → Nat} {l : List Fact} {b0 : Fact} (h : Frg w0 w (b0 :: ownF lo hi s x n :: l)) (hp : OwnS w' lo hi s x' n) (k : Chg (rng lo hi) w w') : Frg w0 w' (b0 :: ownF lo hi s x' n :: l) :=
  chg [b0] (e := ownF lo hi s x n) (e' := ownF lo hi s x' n) h k hp rfl rfl
theorem mark2 {lo hi n : Nat} {s : Value} {x x' : Nat → Nat} {l : List Fact} {b0 b1 : Fact} (h : Frg w0 w (b0 :: b1 :: ownF lo hi s x n :: l)) (hp : OwnS w' lo hi s x' n) (k : Chg (rng lo hi) w w') : Frg w0 w' (b0 :: b1 :: ownF lo hi s x' n :: l) :=
  chg [b0, b1] (e := ownF lo hi s x n) (e' := ownF lo hi s x' n) h k hp rfl rfl
theorem mark3 {lo hi n : Nat} {s : Value} {x x' : Nat → Nat} {l : List Fact} {b0 b1 b2 : Fact} (h : Frg w0 w (b0 :: b1 :: b2 :: ownF lo hi s x n :: l)) (hp : OwnS w' lo hi s x' n) (k : Chg (rng lo hi) w w') : Frg w0 w' (b0 :: b1 :: b2 :: ownF lo hi s x' n :: l) :=
  chg [b0, b1, b2] (e := ownF lo hi s x n) (e' := ownF lo hi s x' n) h k hp rfl rfl
theorem mark4 {lo hi n : Nat} {s : Value} {x x' : Nat → Nat} {l : List Fact} {b0 b1 b2 b3 : Fact} (h : Frg w0 w (b0 :: b1 :: b2 :: b3 :: ownF lo hi s x n :: l)) (hp : OwnS w' lo hi s x' n) (k : Chg (rng lo hi) w w') : Frg w0 w' (b0 :: b1 :: b2 :: b3 :: ownF lo hi s x' n :: l) :=
  chg [b0, b1, b2, b3] (e := ownF lo hi s x n) (e' := ownF lo hi s x' n) h k hp rfl rfl
theorem mark5 {lo hi n : Nat} {s : Value} {x x' : Nat → Nat} {l : List Fact} {b0 b1 b2 b3 b4 : Fact} (h : Frg w0 w (b0 :: b1 :: b2 :: b3 :: b4 :: ownF lo hi s x n :: l)) (hp : OwnS w' lo hi s x' n) (k : Chg (rng lo hi) w w') : Frg w0 w' (b0 :: b1 :: b2 :: b3 :: b4 :: ownF lo hi s x' n :: l) :=
  chg [b0, b1, b2, b3, b4] (e := ownF lo hi s x n) (e' := ownF lo hi s x' n) h k hp rfl rfl
theorem mark6 {lo hi n : Nat} {s : Value} {x x' : Nat → Nat} {l : List Fact} {b0 b1 b2 b3 b4 b5 : Fact} (h : Frg w0 w (b0 :: b1 :: b2 :: b3 :: b4 :: b5 :: ownF lo hi s x n :: l)) (hp : OwnS w' lo hi s x' n) (k : Chg (rng lo hi) w w') : Frg w0 w' (b0 :: b1 :: b2 :: b3 :: b4 :: b5 :: ownF lo hi s x' n :: l) :=
  chg [b0, b1, b2, b3, b4, b5] (e := ownF lo hi s x n) (e' := ownF lo hi s x' n) h k hp rfl rfl
theorem mark7 {lo hi n : Nat} {s : Value} {x x' : Nat → Nat} {l : List Fact} {b0 b1 b2 b3 b4 b5 b6 : Fact} (h : Frg w0 w (b0 :: b1 :: b2 :: b3 :: b4 :: b5 :: b6 :: ownF lo hi s x n :: l)) (hp : OwnS w' lo hi s x' n) (k : Chg (rng lo hi) w w') : Frg w0 w' (b0 :: b1 :: b2 :: b3 :: b4 :: b5 :: b6 :: ownF lo hi s x' n :: l) :=
  chg [b0, b1, b2, b3, b4, b5, b6] (e := ownF lo hi s x n) (e' := ownF lo hi s x' n) h k hp rfl rfl
theorem mark8 {lo hi n : Nat} {s : Value} {x x' : Nat → Nat} {l : List Fact} {b0 b1 b2 b3 b4 b5 b6 b7 : Fact} (h : Frg w0 w (b0 :: b1 :: b2 :: b3 :: b4 :: b5 :: b6 :: b7 :: ownF lo hi s x n :: l)) (hp : OwnS w' lo hi s x' n) (k : Chg (rng lo hi) w w') : Frg w0 w' (b0 :: b1 :: b2 :: b3 :: b4 :: b5 :: b6 :: b7 :: ownF lo hi s x' n :: l) :=
  chg [b0, b1, b2, b3, b4, b5, b6, b7] (e := ownF lo hi s x n) (e' := ownF lo hi s x' n) h k hp rfl rfl
theorem mark9 {lo hi n : Nat} {s : Value} {x x' : Nat → Nat} {l : List Fact} {b0 b1 b2 b3 b4 b5 b6 b7 b8 : Fact} (h : Frg w0 w (b0 :: b1 :: b2 :: b3 :: b4 :: b5 :: b6 :: b7 :: b8 :: ownF lo hi s x n :: l)) (hp : OwnS w' lo hi s x' n) (k : Chg (rng lo hi) w w') : Frg w0 w' (b0 :: b1 :: b2 :: b3 :: b4 :: b5 :: b6 :: b7 :: b8 :: ownF lo hi s x' n :: l) :=
  chg [b0, b1, b2, b3, b4, b5, b6, b7, b8] (e := ownF lo hi s x n) (e' := ownF lo hi s x' n) h k hp rfl rfl
end Frg

section
variable {P : Program} {w : World} {ops : Array Oper} {rest : List Oper} {o : Oper} {a : Act} {Q : Exit → Act → World → Prop}
theorem wpList_loadG {w0 : World} {L : List Fact} (hF : Frg w0 w L) (hg : o.guard = none) {ty : TypeId} {x : Operand} (hop : o.op = .load ty x) {g : Nat} (hx : a.eval x = .pointer (some ⟨g, 0, none⟩)) {t : TypeId} {cs : Array Value} {d : TypeDesc}
    (hm : rowF g t cs ∈ L) (hu : P.underlying ty = some d) (hd : (match d with | .struct _ | .array _ _ => true | _ => false) = true) {n : Nat} (hi : (P.info? ty).map (·.size) = some n) (hn : cs.size = n)
    (h : wpList P ops Q rest (a.put o.dst (.agg cs)) w) : wpList P ops Q (o :: rest) a w :=
  wpList_loadD hg hop hx (hF.row hm) hu hd (hn ▸ hi) h
theorem wpList_loadGG {w0 : World} {L : List Fact} (hF : Frg w0 w L) {ty : TypeId} {x : Operand} (hop : o.op = .load ty x) {g : Nat} (hx : a.eval x = .pointer (some ⟨g, 0, none⟩)) {t : TypeId} {cs : Array Value} {d : TypeDesc}
    (hm : rowF g t cs ∈ L) (hu : P.underlying ty = some d) (hd : (match d with | .struct _ | .array _ _ => true | _ => false) = true) {n : Nat} (hi : (P.info? ty).map (·.size) = some n) (hn : cs.size = n) (hw : Region.wanted o (yielded ops a.tmps) = true)
    (h : wpList P ops Q rest (a.put o.dst (.agg cs)) w) : wpList P ops Q (o :: rest) a w :=
  wpList_step fun K hK => by
    simp only [hw, if_true]
    exact wp_load_row ty x hop g hx t cs (0, 0) d (hF.row hm) hu hd (hn ▸ hi) (hK _ _ h)
/-- A part of a block is loaded. -/
theorem wpList_loadGP {w0 : World} {L : List Fact} (hF : Frg w0 w L) (hg : o.guard = none) {ty : TypeId} {x : Operand} (hop : o.op = .load ty x) {g f : Nat} (hx : a.eval x = .pointer (some ⟨g, f, none⟩)) {t : TypeId} {cs : Array Value} {d : TypeDesc}
    (hm : rowF g t cs ∈ L) (hu : P.underlying ty = some d) (hd : d.isRow = true) (ds : List Value) (hc : ∀ j, j < ds.length → cs[f + j]? = ds[j]?) {n : Nat} (hi : (P.info? ty).map (·.size) = some n) (hn : ds.length = n)
    (h : wpList P ops Q rest (a.put o.dst (.agg ds.toArray)) w) : wpList P ops Q (o :: rest) a w :=
  wpList_loadP hg hop hx (hF.row hm) hu hd ds hc (hn ▸ hi) h
/-- A part of a block is loaded, by a guarded operation. -/
theorem wpList_loadGPG {w0 : World} {L : List Fact} (hF : Frg w0 w L) {ty : TypeId} {x : Operand} (hop : o.op = .load ty x) {g f : Nat} (hx : a.eval x = .pointer (some ⟨g, f, none⟩)) {t : TypeId} {cs : Array Value} {d : TypeDesc}
    (hm : rowF g t cs ∈ L) (hu : P.underlying ty = some d) (hd : d.isRow = true) (ds : List Value) (hc : ∀ j, j < ds.length → cs[f + j]? = ds[j]?) {n : Nat} (hi : (P.info? ty).map (·.size) = some n) (hn : ds.length = n) (hw : Region.wanted o (yielded ops a.tmps) = true)
    (h : wpList P ops Q rest (a.put o.dst (.agg ds.toArray)) w) : wpList P ops Q (o :: rest) a w :=
  wpList_step fun K hK => by
    simp only [hw, if_true]
    exact wp_load_mid ty x hop g f hx ds d (fun j v hv => by rw [(hF.row hm).cell?, hc j (List.getElem?_eq_some_iff.1 hv).1, hv]) hu hd (hn ▸ hi) (hK _ _ h)
/-- A fresh block is written whole. -/
theorem wpList_storeG {w0 w1 : World} {L : List Fact} {t : TypeId} {old : Array Value} (hF : Frg w0 w1 L) (hw : w = w1.alloc (.cells old t)) (hg : o.guard = none) {ty : TypeId} {x y : Operand} (hop : o.op = .store ty x y) (hx : a.eval x = .pointer (some ⟨w1.heap.size, 0, none⟩)) {cells : Array Value} (hy : a.eval y = .agg cells)
    (hi : (P.info? ty).map (·.size) = some cells.size) (ho : old.size = cells.size) (h1 : cells.all (·.oneCell') = true)
    (h : ∀ w', Frg w0 w' (rowF w1.heap.size t cells :: L) → w'.heap.size = w1.heap.size + 1 → wpList P ops Q rest (a.put o.dst undef) w') : wpList P ops Q (o :: rest) a w :=
  wpList_storeN hw hg hop hx hy hi ho h1 (fun w' hr hl hz => h w' (hF.push hl hr (Nat.le_refl _) (by have := hr.lt; simp only [rowF]; omega)) hz)
end

theorem wpAt0 {P : Program} {c : Code} {Q : Exit → Act → World → Prop} {a : Act} {w0 w : World} {L : List Fact} (F : Frg w0 w L) (h : ∀ w', Frg w0 w' L → c.wp P Q a w') : c.wp P Q a w := h _ F
theorem wpAtN {P : Program} {c : Code} {Q : Exit → Act → World → Prop} {a : Act} {w0 w : World} {L : List Fact} {n : Nat} (F : Frg w0 w L) (h : ∀ w', Frg w0 w' L → c.wp P Q a w') : c.wp P Q a (w.drewN n) := h _ (F.drewN n)
theorem callAt0 {P : Program} {f : FuncId} {args : Array Value} {R : Ending → World → Prop} {w0 w : World} {L : List Fact} (F : Frg w0 w L) (h : ∀ w', Frg w0 w' L → Calls P f args w' R) : Calls P f args w R := h _ F
theorem callAtN {P : Program} {f : FuncId} {args : Array Value} {R : Ending → World → Prop} {w0 w : World} {L : List Fact} {n : Nat} (F : Frg w0 w L) (h : ∀ w', Frg w0 w' L → Calls P f args w' R) : Calls P f args (w.drewN n) R := h _ (F.drewN n)
section
variable {P : Program} {w0 w : World} {L : List Fact} {n : Nat} {ops : Array Oper} {rest : List Oper} {o : Oper} {a : Act} {Q : Exit → Act → World → Prop}
/-- The world behind draws under a name. -/
theorem listN (F : Frg w0 w L) (h : ∀ w', Frg w0 w' L → wpList P ops Q rest a w') : wpList P ops Q rest a (w.drewN n) := h _ (F.drewN n)
theorem at_loadU {ty : TypeId} {x : Operand} (_ : o.guard = none) (_ : o.op = .load ty x) (h : wpList P ops Q (o :: rest) a w) : wpList P ops Q (o :: rest) a w := h
theorem at_loadV {ty : TypeId} {x : Operand} {g : Tmp × Bool} (_ : o.guard = some g) (_ : o.op = .load ty x) (h : wpList P ops Q (o :: rest) a w) : wpList P ops Q (o :: rest) a w := h
theorem at_store {ty : TypeId} {x y : Operand} (_ : o.op = .store ty x y) (h : wpList P ops Q (o :: rest) a w) : wpList P ops Q (o :: rest) a w := h
end
/-- Nothing turns. -/
def leX : Ext := ⟨le, le_refl, le_trans, id⟩
section
variable {E : Ext} {P : Program} {ops : Array Oper} {W : World} {K : FuncId → Array Value → World → Value → Prop} {Q : Act → World → Prop} {F : Facts} {k : Nat} {o : Oper} {rest : List Oper} {a : Act}
/-- A call that leans on what is known of the operations that it comes behind. -/
theorem wpFreeD_callB (hg : o.guard = none) {f : FuncId} {xs : Array Operand} {ts : Array TypeId} (hop : o.op = Op.call { callee := Callee.value (Operand.func f), args := xs, argTypes := ts }) {fn : Func} (hf : P.funcs[f]? = some fn)
    (hb : fn.body.isNone = false) (hn : (fn.name == "runtime.NumGoroutine") = false) {args : Array Value} (ha : xs.map a.eval = args) (hm : MonoT E (K f args))
    (h1 : ∀ w, E.R W w → behind .any o F w → Calls P f args w (fun e w' => ∃ v, e = .returned v ∧ le w w' ∧ K f args w' v)) (h2 : ∀ v, (∃ w, E.R W w ∧ (∀ e, F e w) ∧ K f args w v) → wpFreeD E P ops .any W K Q rest (k + 1) (a.put o.dst v) (F.with k (fun w => K f args w v))) : wpFreeD E P ops .any W K Q (o :: rest) k a F := by
  refine ⟨K f args, ⟨hm, .inl ⟨by simp [Region.wanted, hg], fun w hw hbe => ?_⟩⟩, fun v hv => h2 v hv⟩
  rw [run_enter hop hf hb hn ha]
  refine ⟨E.refl w, (h1 w hw hbe).mono ?_, fun _ _ h => h⟩
  rintro e w' ⟨v, rfl, hl, hk⟩
  exact ⟨v, rfl, E.of_le hl, hk⟩
theorem wpFreeD_loadG {w0 w1 : World} {L : List Fact} {n : Nat} (hF : Frg w0 w1 L) (hW : W = w1.drewN n) (hg : o.guard = none) {ty : TypeId} {x : Operand} (hop : o.op = .load ty x) {g : Nat} (hx : a.eval x = .pointer (some ⟨g, 0, none⟩)) {t : TypeId} {cs : Array Value} {d : TypeDesc}
    (hm : rowF g t cs ∈ L) (hu : P.underlying ty = some d) (hd : (match d with | .struct _ | .array _ _ => true | _ => false) = true) {m : Nat} (hi : (P.info? ty).map (·.size) = some m) (hs : cs.size = m)
    (h : wpFreeD leX P ops .any W K Q rest (k + 1) (a.put o.dst (.agg cs)) (F.with k (fun _ => True))) : wpFreeD leX P ops .any W K Q (o :: rest) k a F := by
  subst hW hs
  refine wpFreeD_one hg (.agg cs) (fun w hw => ?_) h
  have := run_loadVar_row (P := P) w g t ty cs (0, 0) _ (((hF.row hm).drewN n).le hw) hu hd hi
  simp [execOp, hop, hx, Instr.loadAt, Instr.sureAddr, this, Result.andThen]
end
end Go.Fk
