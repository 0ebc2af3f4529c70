/- Texts of the walk, laid in one file. -/
import Derived.OwnWalk
import Derived.Deep.AppendLies
import Derived.Shelf.Strconv.Itoa4
import Derived.Lib.AppendIntMem
import Derived.Test.YtjihkfemejhllaaDoorRows
import Derived.Lib.LaidTab
import Derived.LaidLaws
import Derived.Handy
import Derived.Test.YtjihkfemejhllaaDoorMc
set_option linter.unusedVariables false
set_option linter.unusedSimpArgs false
/- What grows by append, beside facts of memory. Nothing here names a program. -/
namespace Go.Fk
open Go Go.RowKit
theorem ownsRow_chS {S : Nat → Prop} {w w' : World} {e : TypeId} {n B : Nat} {xs : List Value} {v : Value} (hw : Chg S w w') (h : w.ownsRow B e 1 v n xs) (hS : ∀ i, S i → i < B) : w'.ownsRow B e 1 v n xs := by
  obtain ⟨h1, h2⟩ := h
  refine ⟨h1, ?_⟩
  rcases h2 with h2 | ⟨q, cap, cur, e1, e2, e3, e4⟩
  · exact .inl h2
  · exact .inr ⟨q, cap, cur, e1, e2, by have := hw.row (g := q) (t := e) (cs := cur) e3 (fun hq => by have := hS q hq; omega); exact this, e4⟩
theorem ownBlock_ge {w : World} {B : Nat} {e : TypeId} {z : Nat} {v : Value} {n : Nat} {xs : List Value} (h : w.ownsRow B e z v n xs) : ∀ k, v.ownBlock = some k → B ≤ k := by
  rcases h.2 with ⟨rfl, _⟩ | ⟨q, cap, cur, rfl, hb, _⟩
  · intro k hk; cases hk
  · intro k hk; simp only [Value.ownBlock, Option.some.injEq] at hk; omega
theorem chg_grown {w w' : World} {row : Option Nat} {B : Nat} (h : w.grownBy w' row) (hr : ∀ k, row = some k → B ≤ k) : Chg (B ≤ ·) w w' :=
  ⟨h.os, h.tape, h.output, h.size, fun k hk hn => h.block k hk (fun e => hn (hr k e.symm))⟩
theorem Frg.up {w0 w w' : World} {L : List Fact} {B : Nat} (h : Frg w0 w L) (k : Chg (B ≤ ·) w w') (hB : ∀ e ∈ L, e.hi ≤ B) (h0 : w0.heap.size ≤ B) : Frg w0 w' L :=
  ⟨h.below.trans (k.below (fun i hi => Nat.le_trans h0 hi) h.size), fun e he => by
    obtain ⟨h1, h2, h3⟩ := h.facts e he
    exact ⟨h1, Nat.le_trans h2 k.size, e.ok w w' h3 (fun i _ hi => k.block i (by omega) (fun hb => by have := hB e he; omega))⟩, h.apart⟩
theorem flist_snoc (y : Nat → Nat) (n a : Nat) : flist y n ++ [.float .f32 a] = flist (fun j => if j = n then a else y j) (n + 1) := by
  have h := flist_app y (fun _ => a) n 1
  have h1 : flist (fun _ => a) 1 = [.float .f32 a] := by simp [flist]
  rw [h1] at h
  rw [h]
  apply List.ext_getElem?
  intro i
  by_cases hi : i < n + 1
  · rw [flist_get' _ hi, flist_get' _ hi]
    by_cases e : i = n
    · simp [e]
    · simp [e, show i < n by omega]
  · rw [List.getElem?_eq_none (by rw [flist_length]; omega), List.getElem?_eq_none (by rw [flist_length]; omega)]
theorem Frg.own2 {w0 w w' : World} {L : List Fact} {q n n' : Nat} {s s' : Value} {x x' : Nat → Nat} (h : Frg w0 w L) (k : Below w.heap.size w w') (h1 : w.heap.size ≤ q) (h2 : q ≤ w'.heap.size) (o1 : OwnS w' w.heap.size q s x n) (o2 : OwnS w' q w'.heap.size s' x' n') :
    Frg w0 w' (ownF q w'.heap.size s' x' n' :: ownF w.heap.size q s x n :: L) := by
  refine ⟨(h.le k).below, fun e he => ?_, .cons (fun e he => ?_) (.cons (fun e he => (h.facts e he).2.1) h.apart)⟩
  · rcases List.mem_cons.1 he with rfl | he
    · exact ⟨Nat.le_trans h.size h1, Nat.le_refl _, o2⟩
    · rcases List.mem_cons.1 he with rfl | he
      · exact ⟨h.size, h2, o1⟩
      · exact (h.le k).facts e he
  · rcases List.mem_cons.1 he with rfl | he
    · exact Nat.le_refl q
    · exact Nat.le_trans (h.facts e he).2.1 h1
theorem m12 {b0 b1 b2 b3 b4 b5 b6 b7 b8 b9 b10 b11 a : Fact} {l : List Fact} : a ∈ b0 :: b1 :: b2 :: b3 :: b4 :: b5 :: b6 :: b7 :: b8 :: b9 :: b10 :: b11 :: a :: l := List.mem_cons_of_mem _ (List.mem_cons_of_mem _ (List.mem_cons_of_mem _ (List.mem_cons_of_mem _ (List.mem_cons_of_mem _ (List.mem_cons_of_mem _ (List.mem_cons_of_mem _ (List.mem_cons_of_mem _ (List.mem_cons_of_mem _ (List.mem_cons_of_mem _ (List.mem_cons_of_mem _ (List.mem_cons_of_mem _ (List.mem_cons_self))))))))))))
theorem m13 {b0 b1 b2 b3 b4 b5 b6 b7 b8 b9 b10 b11 b12 a : Fact} {l : List Fact} : a ∈ b0 :: b1 :: b2 :: b3 :: b4 :: b5 :: b6 :: b7 :: b8 :: b9 :: b10 :: b11 :: b12 :: a :: l := List.mem_cons_of_mem _ (List.mem_cons_of_mem _ (List.mem_cons_of_mem _ (List.mem_cons_of_mem _ (List.mem_cons_of_mem _ (List.mem_cons_of_mem _ (List.mem_cons_of_mem _ (List.mem_cons_of_mem _ (List.mem_cons_of_mem _ (List.mem_cons_of_mem _ (List.mem_cons_of_mem _ (List.mem_cons_of_mem _ (List.mem_cons_of_mem _ (List.mem_cons_self)))))))))))))
theorem m14 {b0 b1 b2 b3 b4 b5 b6 b7 b8 b9 b10 b11 b12 b13 a : Fact} {l : List Fact} : a ∈ b0 :: b1 :: b2 :: b3 :: b4 :: b5 :: b6 :: b7 :: b8 :: b9 :: b10 :: b11 :: b12 :: b13 :: a :: l := List.mem_cons_of_mem _ (List.mem_cons_of_mem _ (List.mem_cons_of_mem _ (List.mem_cons_of_mem _ (List.mem_cons_of_mem _ (List.mem_cons_of_mem _ (List.mem_cons_of_mem _ (List.mem_cons_of_mem _ (List.mem_cons_of_mem _ (List.mem_cons_of_mem _ (List.mem_cons_of_mem _ (List.mem_cons_of_mem _ (List.mem_cons_of_mem _ (List.mem_cons_of_mem _ (List.mem_cons_self))))))))))))))
theorem m15 {b0 b1 b2 b3 b4 b5 b6 b7 b8 b9 b10 b11 b12 b13 b14 a : Fact} {l : List Fact} : a ∈ b0 :: b1 :: b2 :: b3 :: b4 :: b5 :: b6 :: b7 :: b8 :: b9 :: b10 :: b11 :: b12 :: b13 :: b14 :: a :: l := List.mem_cons_of_mem _ (List.mem_cons_of_mem _ (List.mem_cons_of_mem _ (List.mem_cons_of_mem _ (List.mem_cons_of_mem _ (List.mem_cons_of_mem _ (List.mem_cons_of_mem _ (List.mem_cons_of_mem _ (List.mem_cons_of_mem _ (List.mem_cons_of_mem _ (List.mem_cons_of_mem _ (List.mem_cons_of_mem _ (List.mem_cons_of_mem _ (List.mem_cons_of_mem _ (List.mem_cons_of_mem _ (List.mem_cons_self)))))))))))))))
theorem m16 {b0 b1 b2 b3 b4 b5 b6 b7 b8 b9 b10 b11 b12 b13 b14 b15 a : Fact} {l : List Fact} : a ∈ b0 :: b1 :: b2 :: b3 :: b4 :: b5 :: b6 :: b7 :: b8 :: b9 :: b10 :: b11 :: b12 :: b13 :: b14 :: b15 :: a :: l := List.mem_cons_of_mem _ (List.mem_cons_of_mem _ (List.mem_cons_of_mem _ (List.mem_cons_of_mem _ (List.mem_cons_of_mem _ (List.mem_cons_of_mem _ (List.mem_cons_of_mem _ (List.mem_cons_of_mem _ (List.mem_cons_of_mem _ (List.mem_cons_of_mem _ (List.mem_cons_of_mem _ (List.mem_cons_of_mem _ (List.mem_cons_of_mem _ (List.mem_cons_of_mem _ (List.mem_cons_of_mem _ (List.mem_cons_of_mem _ (List.mem_cons_self))))))))))))))))
theorem m17 {b0 b1 b2 b3 b4 b5 b6 b7 b8 b9 b10 b11 b12 b13 b14 b15 b16 a : Fact} {l : List Fact} : a ∈ b0 :: b1 :: b2 :: b3 :: b4 :: b5 :: b6 :: b7 :: b8 :: b9 :: b10 :: b11 :: b12 :: b13 :: b14 :: b15 :: b16 :: a :: l := List.mem_cons_of_mem _ (List.mem_cons_of_mem _ (List.mem_cons_of_mem _ (List.mem_cons_of_mem _ (List.mem_cons_of_mem _ (List.mem_cons_of_mem _ (List.mem_cons_of_mem _ (List.mem_cons_of_mem _ (List.mem_cons_of_mem _ (List.mem_cons_of_mem _ (List.mem_cons_of_mem _ (List.mem_cons_of_mem _ (List.mem_cons_of_mem _ (List.mem_cons_of_mem _ (List.mem_cons_of_mem _ (List.mem_cons_of_mem _ (List.mem_cons_of_mem _ (List.mem_cons_self)))))))))))))))))
theorem m18 {b0 b1 b2 b3 b4 b5 b6 b7 b8 b9 b10 b11 b12 b13 b14 b15 b16 b17 a : Fact} {l : List Fact} : a ∈ b0 :: b1 :: b2 :: b3 :: b4 :: b5 :: b6 :: b7 :: b8 :: b9 :: b10 :: b11 :: b12 :: b13 :: b14 :: b15 :: b16 :: b17 :: a :: l := List.mem_cons_of_mem _ (List.mem_cons_of_mem _ (List.mem_cons_of_mem _ (List.mem_cons_of_mem _ (List.mem_cons_of_mem _ (List.mem_cons_of_mem _ (List.mem_cons_of_mem _ (List.mem_cons_of_mem _ (List.mem_cons_of_mem _ (List.mem_cons_of_mem _ (List.mem_cons_of_mem _ (List.mem_cons_of_mem _ (List.mem_cons_of_mem _ (List.mem_cons_of_mem _ (List.mem_cons_of_mem _ (List.mem_cons_of_mem _ (List.mem_cons_of_mem _ (List.mem_cons_of_mem _ (List.mem_cons_self))))))))))))))))))
theorem m19 {b0 b1 b2 b3 b4 b5 b6 b7 b8 b9 b10 b11 b12 b13 b14 b15 b16 b17 b18 a : Fact} {l : List Fact} : a ∈ b0 :: b1 :: b2 :: b3 :: b4 :: b5 :: b6 :: b7 :: b8 :: b9 :: b10 :: b11 :: b12 :: b13 :: b14 :: b15 :: b16 :: b17 :: b18 :: a :: l := List.mem_cons_of_mem _ (List.mem_cons_of_mem _ (List.mem_cons_of_mem _ (List.mem_cons_of_mem _ (List.mem_cons_of_mem _ (List.mem_cons_of_mem _ (List.mem_cons_of_mem _ (List.mem_cons_of_mem _ (List.mem_cons_of_mem _ (List.mem_cons_of_mem _ (List.mem_cons_of_mem _ (List.mem_cons_of_mem _ (List.mem_cons_of_mem _ (List.mem_cons_of_mem _ (List.mem_cons_of_mem _ (List.mem_cons_of_mem _ (List.mem_cons_of_mem _ (List.mem_cons_of_mem _ (List.mem_cons_of_mem _ (List.mem_cons_self)))))))))))))))))))
theorem Frg.mark10 {w0 w w' : World} {lo hi n : Nat} {s : Value} {x x' : Nat → Nat} {l : List Fact} {b0 b1 b2 b3 b4 b5 b6 b7 b8 b9 : Fact} (h : Frg w0 w (b0 :: b1 :: b2 :: b3 :: b4 :: b5 :: b6 :: b7 :: b8 :: b9 :: ownF lo hi s x n :: l)) (hp : OwnS w' lo hi s x' n) (k : Chg (rng lo hi) w w') : Frg w0 w' (b0 :: b1 :: b2 :: b3 :: b4 :: b5 :: b6 :: b7 :: b8 :: b9 :: ownF lo hi s x' n :: l) :=
  Frg.chg [b0, b1, b2, b3, b4, b5, b6, b7, b8, b9] (e := ownF lo hi s x n) (e' := ownF lo hi s x' n) h k hp rfl rfl
theorem Frg.mark11 {w0 w w' : World} {lo hi n : Nat} {s : Value} {x x' : Nat → Nat} {l : List Fact} {b0 b1 b2 b3 b4 b5 b6 b7 b8 b9 b10 : Fact} (h : Frg w0 w (b0 :: b1 :: b2 :: b3 :: b4 :: b5 :: b6 :: b7 :: b8 :: b9 :: b10 :: ownF lo hi s x n :: l)) (hp : OwnS w' lo hi s x' n) (k : Chg (rng lo hi) w w') : Frg w0 w' (b0 :: b1 :: b2 :: b3 :: b4 :: b5 :: b6 :: b7 :: b8 :: b9 :: b10 :: ownF lo hi s x' n :: l) :=
  Frg.chg [b0, b1, b2, b3, b4, b5, b6, b7, b8, b9, b10] (e := ownF lo hi s x n) (e' := ownF lo hi s x' n) h k hp rfl rfl
theorem Frg.mark12 {w0 w w' : World} {lo hi n : Nat} {s : Value} {x x' : Nat → Nat} {l : List Fact} {b0 b1 b2 b3 b4 b5 b6 b7 b8 b9 b10 b11 : Fact} (h : Frg w0 w (b0 :: b1 :: b2 :: b3 :: b4 :: b5 :: b6 :: b7 :: b8 :: b9 :: b10 :: b11 :: ownF lo hi s x n :: l)) (hp : OwnS w' lo hi s x' n) (k : Chg (rng lo hi) w w') : Frg w0 w' (b0 :: b1 :: b2 :: b3 :: b4 :: b5 :: b6 :: b7 :: b8 :: b9 :: b10 :: b11 :: ownF lo hi s x' n :: l) :=
  Frg.chg [b0, b1, b2, b3, b4, b5, b6, b7, b8, b9, b10, b11] (e := ownF lo hi s x n) (e' := ownF lo hi s x' n) h k hp rfl rfl
theorem Frg.mark13 {w0 w w' : World} {lo hi n : Nat} {s : Value} {x x' : Nat → Nat} {l : List Fact} {b0 b1 b2 b3 b4 b5 b6 b7 b8 b9 b10 b11 b12 : Fact} (h : Frg w0 w (b0 :: b1 :: b2 :: b3 :: b4 :: b5 :: b6 :: b7 :: b8 :: b9 :: b10 :: b11 :: b12 :: ownF lo hi s x n :: l)) (hp : OwnS w' lo hi s x' n) (k : Chg (rng lo hi) w w') : Frg w0 w' (b0 :: b1 :: b2 :: b3 :: b4 :: b5 :: b6 :: b7 :: b8 :: b9 :: b10 :: b11 :: b12 :: ownF lo hi s x' n :: l) :=
  Frg.chg [b0, b1, b2, b3, b4, b5, b6, b7, b8, b9, b10, b11, b12] (e := ownF lo hi s x n) (e' := ownF lo hi s x' n) h k hp rfl rfl
theorem Frg.mark14 {w0 w w' : World} {lo hi n : Nat} {s : Value} {x x' : Nat → Nat} {l : List Fact} {b0 b1 b2 b3 b4 b5 b6 b7 b8 b9 b10 b11 b12 b13 : Fact} (h : Frg w0 w (b0 :: b1 :: b2 :: b3 :: b4 :: b5 :: b6 :: b7 :: b8 :: b9 :: b10 :: b11 :: b12 :: b13 :: ownF lo hi s x n :: l)) (hp : OwnS w' lo hi s x' n) (k : Chg (rng lo hi) w w') : Frg w0 w' (b0 :: b1 :: b2 :: b3 :: b4 :: b5 :: b6 :: b7 :: b8 :: b9 :: b10 :: b11 :: b12 :: b13 :: ownF lo hi s x' n :: l) :=
  Frg.chg [b0, b1, b2, b3, b4, b5, b6, b7, b8, b9, b10, b11, b12, b13] (e := ownF lo hi s x n) (e' := ownF lo hi s x' n) h k hp rfl rfl
theorem Frg.mark15 {w0 w w' : World} {lo hi n : Nat} {s : Value} {x x' : Nat → Nat} {l : List Fact} {b0 b1 b2 b3 b4 b5 b6 b7 b8 b9 b10 b11 b12 b13 b14 : Fact} (h : Frg w0 w (b0 :: b1 :: b2 :: b3 :: b4 :: b5 :: b6 :: b7 :: b8 :: b9 :: b10 :: b11 :: b12 :: b13 :: b14 :: ownF lo hi s x n :: l)) (hp : OwnS w' lo hi s x' n) (k : Chg (rng lo hi) w w') : Frg w0 w' (b0 :: b1 :: b2 :: b3 :: b4 :: b5 :: b6 :: b7 :: b8 :: b9 :: b10 :: b11 :: b12 :: b13 :: b14 :: ownF lo hi s x' n :: l) :=
  Frg.chg [b0, b1, b2, b3, b4, b5, b6, b7, b8, b9, b10, b11, b12, b13, b14] (e := ownF lo hi s x n) (e' := ownF lo hi s x' n) h k hp rfl rfl
theorem Frg.mark16 {w0 w w' : World} {lo hi n : Nat} {s : Value} {x x' : Nat → Nat} {l : List Fact} {b0 b1 b2 b3 b4 b5 b6 b7 b8 b9 b10 b11 b12 b13 b14 b15 : Fact} (h : Frg w0 w (b0 :: b1 :: b2 :: b3 :: b4 :: b5 :: b6 :: b7 :: b8 :: b9 :: b10 :: b11 :: b12 :: b13 :: b14 :: b15 :: ownF lo hi s x n :: l)) (hp : OwnS w' lo hi s x' n) (k : Chg (rng lo hi) w w') : Frg w0 w' (b0 :: b1 :: b2 :: b3 :: b4 :: b5 :: b6 :: b7 :: b8 :: b9 :: b10 :: b11 :: b12 :: b13 :: b14 :: b15 :: ownF lo hi s x' n :: l) :=
  Frg.chg [b0, b1, b2, b3, b4, b5, b6, b7, b8, b9, b10, b11, b12, b13, b14, b15] (e := ownF lo hi s x n) (e' := ownF lo hi s x' n) h k hp rfl rfl
end Go.Fk

/- An append to a row of one's own in a region that draws its order: elements of any width. Nothing here names a program. -/
namespace Go.Fk
open Go Go.RowKit
theorem ownsRow_keep {w w' : World} {B : Nat} {e : TypeId} {z : Nat} {v : Value} {n : Nat} {xs : List Value} {S : Nat → Prop} (h : w.ownsRow B e z v n xs) (hw : Chg S w w') (hS : ∀ k, v.ownBlock = some k → ¬ S k) : w'.ownsRow B e z v n xs := by
  obtain ⟨h1, h2⟩ := h
  refine ⟨h1, ?_⟩
  rcases h2 with h2 | ⟨q, cap, cur, e1, e2, e3, e4⟩
  · exact .inl h2
  · exact .inr ⟨q, cap, cur, e1, e2, by have := hw.row (g := q) (t := e) (cs := cur) e3 (hS q (by rw [e1]; rfl)); exact this, e4⟩
theorem ownsRow_mono {w : World} {B B' : Nat} {e : TypeId} {z : Nat} {v : Value} {n : Nat} {xs : List Value} (h : w.ownsRow B e z v n xs) (hb : B' ≤ B) : w.ownsRow B' e z v n xs := by
  obtain ⟨h1, h2⟩ := h
  refine ⟨h1, ?_⟩
  rcases h2 with h2 | ⟨q, cap, cur, e1, e2, e3⟩
  · exact .inl h2
  · exact .inr ⟨q, cap, cur, e1, Nat.le_trans hb e2, e3⟩
theorem ownsRow_lt {w : World} {B : Nat} {e : TypeId} {z : Nat} {v : Value} {n : Nat} {xs : List Value} (h : w.ownsRow B e z v n xs) : ∀ k, v.ownBlock = some k → B ≤ k ∧ k < w.heap.size := by
  intro k hk
  rcases h.2 with ⟨rfl, _⟩ | ⟨q, cap, cur, rfl, e2, e3, _⟩
  · cases hk
  · obtain rfl : q = k := by simpa [Value.ownBlock] using hk
    refine ⟨e2, ?_⟩
    rcases Nat.lt_or_ge q w.heap.size with hlt | hge
    · exact hlt
    · rw [Array.getElem?_eq_none hge] at e3; cases e3
theorem run_append_keep {P : Program} (w : World) (t ty : TypeId) (base : Nat) (e : TypeId) (i : TypeInfo) (z : Value) (size bytes : Nat) (ht : P.underlying t = some (.slice e)) (hi : P.info? e = some i) (hz : i.zero = some z)
    (hsize : i.size = size) (hby : i.bytes = bytes) (hzs : z.cells.size = size) (hsz : 0 < size)
    (v : Value) (n : Nat) (xs : List Value) (hown : w.ownsRow base e size v n xs)
    (ad : Addr) (m c : Nat) (news : List Value) (hl : news.length = m * size) (hnews : ∀ j u, news[j]? = some u → w.cell? (ad.add j) = some u) (h1 : ∀ u ∈ news, u.oneCell' = true)
    (hm : 0 < m) (h63 : n + m ≤ maxLen) (hbytes : (n + m) * bytes ≤ 140737488355328) (hbase : base ≤ w.heap.size) :
    ∃ v' w', (Builtin.append_ #[t, t] ty #[v, .slice (some ad) m c]).run P w = .ok v' w' ∧ w'.ownsRow base e size v' (n + m) (xs ++ news) ∧ Chg (fun k => v.ownBlock = some k) w w' ∧
      (v'.ownBlock = v.ownBlock ∨ ∃ q, v'.ownBlock = some q ∧ w.heap.size ≤ q) ∧ w'.ownsRow base e size v n xs ∧ (∀ u, u.ownBlock = v.ownBlock → w.ownsRow base e size u (n + m) (xs ++ news) → w'.ownsRow base e size u (n + m) (xs ++ news)) := by
  have hlen : (xs ++ news).length = (n + m) * size := by rw [List.length_append, hown.1, hl, Nat.add_mul]
  rcases hown.2 with ⟨rfl, rfl⟩ | ⟨g, cap, cur, rfl, hbg, hg, hnc, hcm, hcs, htake⟩
  · obtain ⟨v', w', hr, h2, h3, _, h5⟩ := run_append_own_at (P := P) w base t ty e i z size bytes ht hi hz hsize hby hzs hsz (.slice none 0 0) 0 xs hown ad m c news hl hnews h1 h63 hbytes hbase
    have hle : le w w' := le_of_grown h3
    refine ⟨v', w', hr, h2, Chg.of_le hle, ?_, ownsRow_le hown hle, fun u _ hu => ownsRow_le hu hle⟩
    rcases h5 with h5 | h5
    · exact .inl h5
    · exact .inr ⟨_, h5, Nat.le_refl _⟩
  · by_cases hroom : n + m ≤ cap
    · subst hsize
      have hfit : n * i.size + news.length ≤ cur.size := by rw [hl, hcs, ← Nat.add_mul]; exact Nat.mul_le_mul_right _ hroom
      have hr := run_append_room (P := P) w t ty e i ht hi g n cap cur hg ad m c news hl hnews h1 hroom hfit
      have hnew : (w.setRow g (cur.toList.take (n * i.size) ++ news ++ cur.toList.drop (n * i.size + news.length)).toArray).ownsRow base e i.size (.slice (some ⟨g, 0, none⟩) (n + m) cap) (n + m) (xs ++ news) := by
        refine ⟨hlen, .inr ⟨g, cap, _, rfl, hbg, setRow_heap w g cur _ e _ hg, hroom, hcm, ?_, ?_⟩⟩
        · simp only [List.size_toArray, List.length_append, List.length_take, List.length_drop, Array.length_toList]
          omega
        · rw [htake, ← hlen]
          exact List.take_left
      refine ⟨_, _, hr, hnew, ⟨rfl, rfl, rfl, by simp, fun k _ hk => setRow_other w g k _ (fun e => hk (by simp [Value.ownBlock, e]))⟩, .inl rfl, ?_, fun u hu ho => ?_⟩
      · refine ⟨hown.1, .inr ⟨g, cap, _, rfl, hbg, setRow_heap w g cur _ e _ hg, hnc, hcm, ?_, ?_⟩⟩
        · simp only [List.size_toArray, List.length_append, List.length_take, List.length_drop, Array.length_toList]
          omega
        · rw [htake, List.append_assoc, ← hown.1]
          exact List.take_left
      · rcases ho.2 with ⟨rfl, h0⟩ | ⟨g0, cap0, cur0, rfl, _, hg0, _, _, hs0, _⟩
        · omega
        · obtain rfl : g0 = g := by simpa [Value.ownBlock] using hu
          rw [hg] at hg0
          simp only [Option.some.injEq, Obj.cells.injEq] at hg0
          obtain ⟨rfl, _⟩ := hg0
          obtain rfl : cap = cap0 := Nat.eq_of_mul_eq_mul_right hsz (hcs.symm.trans hs0)
          exact hnew
    · obtain ⟨v', w', hr, h2, h3⟩ := run_append_arg_grows (P := P) w t ty e i z size bytes ht hi hz hsize hby hzs hsz ⟨g, 0, none⟩ n cap xs hown.1 (hown.cells (g := g) rfl) ad m c news hl hnews (by omega) h63 hbytes
      have hle : le w w' := le_of_grown h3
      obtain ⟨q, c', rfl, hq, _⟩ := h2.form (by omega)
      exact ⟨_, w', hr, ownsRow_mono h2 hbase, Chg.of_le hle, .inr ⟨q, rfl, hq⟩, ownsRow_le hown hle, fun u _ hu => ownsRow_le hu hle⟩
/-- Only the row that one owns is written, by one append. -/
def appX (base : Nat) (e : TypeId) (z : Nat) (v : Value) (n : Nat) (xs : List Value) (m : Nat) (news : List Value) : Ext where
  R w w' := Chg (fun k => v.ownBlock = some k) w w' ∧ (w.ownsRow base e z v n xs → w'.ownsRow base e z v n xs) ∧ (∀ u, u.ownBlock = v.ownBlock → w.ownsRow base e z u (n + m) (xs ++ news) → w'.ownsRow base e z u (n + m) (xs ++ news))
  refl w := ⟨Chg.refl _ w, fun h => h, fun _ _ h => h⟩
  trans h k := ⟨h.1.trans k.1, fun x => k.2.1 (h.2.1 x), fun u hu x => k.2.2 u hu (h.2.2 u hu x)⟩
  of_le h := ⟨Chg.of_le h, fun x => ownsRow_le x h, fun _ _ x => ownsRow_le x h⟩
section
variable {P : Program} {ops : Array Oper} {W : World} {K : FuncId → Array Value → World → Value → Prop} {Q : Act → World → Prop} {F : Facts} {k : Nat} {o : Oper} {rest : List Oper} {a : Act}
variable {base : Nat} {e : TypeId} {z : Nat} {v : Value} {n : Nat} {xs : List Value} {m : Nat} {news : List Value}
theorem appX_row {w : World} (hown : W.ownsRow base e z v n xs) (hw : (appX base e z v n xs m news).R W w) {q : Nat} {t : TypeId} {cs : Array Value} (hr : Row W q t cs) (hq : v.ownBlock ≠ some q) : Row w q t cs := hw.1.row hr hq
theorem wpFreeD_madeX (hown : W.ownsRow base e z v n xs) (hg : o.guard = none) (f : Nat → Value) (t : TypeId) (cs : Array Value) (hr : ∀ w, (execOp a.eval o).run P w = .ok (.value (f w.heap.size)) (w.alloc (.cells cs t)))
    (h : ∀ b, wpFreeD (appX base e z v n xs m news) P ops .any W K Q rest (k + 1) (a.put o.dst (f b)) (F.with k (fun w => ∃ b', f b = f b' ∧ Row w b' t cs))) : wpFreeD (appX base e z v n xs m news) P ops .any W K Q (o :: rest) k a F := by
  refine ⟨fun w u => ∃ b', u = f b' ∧ W.heap.size ≤ b' ∧ Row w b' t cs, ⟨fun u w w' hw hu => ?_, .inl ⟨by simp [Region.wanted, hg], fun w hw _ => ?_⟩⟩, fun u hu => ?_⟩
  · obtain ⟨b', e1, h2, hrow⟩ := hu
    exact ⟨b', e1, h2, hw.1.row hrow (fun e2 => by have := (ownsRow_lt hown _ e2).2; omega)⟩
  · rw [hr w]
    exact ⟨(appX base e z v n xs m news).of_le (le_alloc w _), w.heap.size, rfl, hw.1.size, Row.new w t cs⟩
  · obtain ⟨w, _, _, b, rfl, _⟩ := hu
    exact wpFreeD_weaken _ _ _ _ _ (fun e w h => ⟨h.1, fun he => by obtain ⟨b', e1, _, h2⟩ := h.2 he; exact ⟨b', e1, h2⟩⟩) (h b)
/-- What an append gives. -/
def Gave (W : World) (base : Nat) (e : TypeId) (z : Nat) (v : Value) (n : Nat) (xs : List Value) (w : World) (u : Value) : Prop := w.ownsRow base e z u n xs ∧ (u.ownBlock = v.ownBlock ∨ ∃ q, u.ownBlock = some q ∧ W.heap.size ≤ q)
theorem wpFreeD_appK (hown : W.ownsRow base e z v n xs) (hg : o.guard = none) {s x : Operand} {t : TypeId} (hop : o.op = .call { callee := .builtin .append, args := #[s, x], argTypes := #[t, t] }) {i : TypeInfo} {zv : Value} {bytes : Nat}
    (ht : P.underlying t = some (.slice e)) (hi : P.info? e = some i) (hz : i.zero = some zv) (hsize : i.size = z) (hby : i.bytes = bytes) (hzs : zv.cells.size = z) (hsz : 0 < z)
    (hs : a.eval s = v) {ad : Addr} {c : Nat} (hx : a.eval x = .slice (some ad) m c) (hl : news.length = m * z) (hnews : ∀ w, (appX base e z v n xs m news).R W w → behind .any o F w → ∀ j u, news[j]? = some u → w.cell? (ad.add j) = some u) (h1 : ∀ u ∈ news, u.oneCell' = true)
    (hm : 0 < m) (h63 : n + m ≤ maxLen) (hbytes : (n + m) * bytes ≤ 140737488355328) (hbase : base ≤ W.heap.size)
    (h : ∀ u, (∃ w, (appX base e z v n xs m news).R W w ∧ Gave W base e z v (n + m) (xs ++ news) w u) → wpFreeD (appX base e z v n xs m news) P ops .any W K Q rest (k + 1) (a.put o.dst u) (F.with k (fun w => Gave W base e z v (n + m) (xs ++ news) w u))) : wpFreeD (appX base e z v n xs m news) P ops .any W K Q (o :: rest) k a F := by
  refine ⟨Gave W base e z v (n + m) (xs ++ news), ⟨fun u w w' hw hu => ?_, .inl ⟨by simp [Region.wanted, hg], fun w hw hbe => ?_⟩⟩, fun u hu => h u (by obtain ⟨w, h1, _, h2⟩ := hu; exact ⟨w, h1, h2⟩)⟩
  · obtain ⟨g1, g2⟩ := hu
    refine ⟨?_, g2⟩
    by_cases hq : u.ownBlock = v.ownBlock
    · exact hw.2.2 u hq g1
    · exact ownsRow_keep g1 hw.1 (fun q e1 e2 => hq (e1.trans e2.symm))
  · obtain ⟨v', w', hr, r1, r2, r3, r4, r5⟩ := run_append_keep (P := P) w t o.type base e i zv z bytes ht hi hz hsize hby hzs hsz v n xs (hw.2.1 hown) ad m c news hl (hnews w hw hbe) h1 hm h63 hbytes (Nat.le_trans hbase hw.1.size)
    simp [execOp, hop, resolve, invoke, builtin, hs, hx, hr, Result.andThen, insideT]
    refine ⟨⟨r2, fun _ => r4, r5⟩, r1, ?_⟩
    rcases r3 with r3 | ⟨q, r3, r6⟩
    · exact .inl r3
    · exact .inr ⟨q, r3, Nat.le_trans hw.1.size r6⟩
end
end Go.Fk

/- Drawn regions with facts whose last operations are forced; float arithmetic within them. Nothing here names a program. -/
namespace Go.Fk
open Go Go.RowKit
section
variable {E : Ext} {P : Program} {ops : Array Oper} {W : World} {K : FuncId → Array Value → World → Value → Prop} {Q : Act → World → Prop} {F : Facts} {k : Nat} {o : Oper} {rest : List Oper} {a : Act}
theorem wpFreeD_some (hg : o.guard = none) (V : Value → Prop) (hr : ∀ w, E.R W w → ∃ v n, (execOp a.eval o).run P w = .ok (.value v) (w.drewN n) ∧ V v)
    (h : ∀ v, V v → wpFreeD E P ops .any W K Q rest (k + 1) (a.put o.dst v) (F.with k (fun _ => True))) : wpFreeD E P ops .any W K Q (o :: rest) k a F := by
  refine ⟨fun _ u => V u, ⟨fun _ _ _ _ h => h, .inl ⟨by simp [Region.wanted, hg], fun w hw _ => ?_⟩⟩, fun u hu => ?_⟩
  · obtain ⟨v, n, hrun, hv⟩ := hr w hw
    rw [hrun]; exact ⟨E.of_le (le_drewN w n), hv⟩
  · obtain ⟨w, _, _, hv⟩ := hu
    exact wpFreeD_weaken _ _ _ _ _ (fun e w h => ⟨h.1, fun _ => trivial⟩) (h u hv)
theorem wpFreeD_farith (hg : o.guard = none) {op : BinOp} {t t' : TypeId} {x y : Operand} (hop : o.op = Op.binOp op t x y t') (ho : arith op = true)
    {fk : FloatKind} {p q : Nat} (hx : a.eval x = .float fk p) (hy : a.eval y = .float fk q)
    (h : ∀ r, Hid (can fk r = fop op fk p q) → Hid (fits fk r) → wpFreeD E P ops .any W K Q rest (k + 1) (a.put o.dst (.float fk r)) (F.with k (fun _ => True))) : wpFreeD E P ops .any W K Q (o :: rest) k a F := by
  refine wpFreeD_some hg (fun v => ∃ r, v = .float fk r ∧ can fk r = fop op fk p q ∧ fits fk r) (fun w _ => ?_) ?_
  · obtain ⟨r, n, hrun, hr, hf⟩ := run_farith (P := P) w op ho t fk p q
    have he := eqGuard_float (P := P) w op t x y fk fk p q
    refine ⟨.float fk r, n, ?_, r, rfl, hr, hf⟩
    simp [execOp, hop, hx, hy, he, hrun, Result.andThen]
  · rintro v ⟨r, rfl, h1, h2⟩
    exact h r h1 h2
end
section
variable {E : Ext} {P : Program}
/-- A REGION WITH FORCED LAST OPERATIONS (from number n on). -/
theorem region_tailD (K : FuncId → Array Value → World → Value → Prop) {id : Nat} {Q : Exit → Act → World → Prop} {a : Act} {w : World} {l : List Oper} (n : Nat) (hm : P.follows .mixedOrders = true) (hB : Region.lexTailB .any l.toArray n = true)
    (h : wpFreeD E P l.toArray .any (w.drewN 1) K (fun a' w' => wpList P l.toArray Q (l.drop n) a' w') (l.take n) 0 a noFacts) : (Code.region id l.toArray true).wp P Q a w := by
  simp only [Region.lexTailB, Bool.and_eq_true, decide_eq_true_eq] at hB
  obtain ⟨⟨⟨⟨hsel, hn⟩, hs'⟩, hc⟩, hlex⟩ := hB
  have hn' : n < l.length := by simpa using hn
  have htl : (l.take n).length = n := by simp; omega
  have hdl : (l.drop n).length = l.toArray.size - n := by simp
  have hbound : ∀ listed i, HeadInv .any l.toArray n listed → i < n → listed.getD i true = false → ∀ j ∈ Region.ready .any l.toArray listed, j < n := by
    intro listed i inv hi hun j hj
    rcases Nat.lt_or_ge j n with h | h
    · exact h
    · exact absurd hj (tail_waits hs' hc hn inv _ i rfl hi hun j h)
  have H := anyFreeD_lex (md := .any) (g := l.toArray.size - n) hsel hbound (l.take n) 0 _ a noFacts (fun j hj => by
    have hj' : j < n := by rw [htl] at hj; exact hj
    simp [hj']) (by simpa using htl) (head_start _ n) (by rw [htl]; exact hlex) (fun _ _ _ h => h) ⟨w.drewN 1, E.refl _, fun _ => trivial, trivial⟩ h
  refine wp_region_any hm ?_
  have := anyFreeD_sound (Q' := Q) (W := w.drewN 1) (g := l.toArray.size - n) (fun listed a' F w' hw' hF hL => by
    have := wpAny_of_seq (md := .any) (Q' := Q) (l.drop n) n listed a' w' (fun j => by simp [List.getElem?_drop]) (by rw [hdl]; exact hL.1) (hL.2 w' hw' hF)
    rwa [hdl] at this) _ _ _ _ _ (fun _ _ _ h => h) (E.refl _) (fun _ => trivial) H
  rw [htl, show n + (l.toArray.size - n) = l.toArray.size by omega] at this
  exact this
end
end Go.Fk

/- The texts of samples, each behind a blank. -/
namespace Go.Fk
open Go Go.RowKit
/-- Each behind a blank. -/
def samL (f : Nat → Nat) : Nat → ByteArray
  | 0 => ⟨#[]⟩
  | n + 1 => samL f n ++ (spB ++ hexT (can .f32 (f n)))
theorem ba_assoc (a b c : ByteArray) : a ++ b ++ c = a ++ (b ++ c) := by apply ba_ext; simp
theorem ba_nil (a : ByteArray) : (⟨#[]⟩ : ByteArray) ++ a = a := by apply ba_ext; simp
theorem samL_txt (f : Nat → Nat) {n : Nat} (h : 0 < n) : samL f n = spB ++ txtS f n := by
  induction n with
  | zero => omega
  | succ n ih =>
    by_cases h0 : n = 0
    · subst h0; rw [txtS_one, samL, samL, ba_nil]
    · rw [samL, ih (by omega), txtS_succ f (by omega), ba_assoc]
theorem samL_size (f : Nat → Nat) (n : Nat) : (samL f n).size = n * 9 := by
  induction n with
  | zero => rfl
  | succ n ih => rw [samL, ByteArray.size_append, ByteArray.size_append, ih, hexT_size, show spB.size = 1 from rfl]; omega
theorem samL_congr {f g : Nat → Nat} {n : Nat} (h : ∀ i, i < n → can .f32 (f i) = can .f32 (g i)) : samL f n = samL g n := by
  induction n with
  | zero => rfl
  | succ n ih => rw [samL, samL, ih (fun i hi => h i (by omega)), h n (by omega)]
/-- A text. -/
def Out_t (ar0 : ByteArray) (w : World) (e : Ending) (w' : World) : Prop := e = .returned (.string ar0) ∧ le w w'
end Go.Fk
namespace Go.Proofs.YtjihkfemejhllaaDoor
open Go.RowKit Go.Fk
set_option maxRecDepth 100000 in
set_option maxHeartbeats 4000000 in
theorem s_l04Samples (f : Nat → Nat) (a : Addr) (u cap : Nat) (w : World) (hu : u ≤ 1048576) (hf : ∀ i, i < u → fits .f32 (f i)) (hc : ∀ i, i < u → w.cell? (a.add i) = some (.float .f32 (f i))) :
    Calls Tryd.prog 52 #[.slice (some a) u cap] w fun e w' => e = .returned (.string (samL f u)) ∧ le w w' := by
  have Hf := hid hf; have Hc := hid hc; clear hf hc
  go_enter Tryd.func52, Tryd.ntmps52
  go_wp2
  go_loopw [3, 4] (fun q i wr => ∃ j : Nat, j ≤ u ∧ i = .int .i64 j ∧ q = .string (samL f j) ∧ Hid (le w wr)) (fun _ i _ => u - (intOf i).toNat)
  case atStart => exact ⟨0, by omega, rfl, rfl, le_refl _⟩
  case round =>
    obtain ⟨j, hj, rfl, rfl, HL⟩ := hrel
    rename_i wr _
    by_cases hlt : j < u
    · have cj := (Below.cell HL.out (cell_lt' (Hc.out j hlt))).trans (Hc.out j hlt)
      have HT := hid (s_l01Hex (f j) (Hf.out j hlt))
      have ez := samL_size f j
      have eh := hexT_size (can .f32 (f j))
      have EN := hid (show samL f (j + 1) = samL f j ++ (spB ++ hexT (can .f32 (f j))) from rfl)
      go_wp2_with (go_at_call 75; ((with_reducible refine (HT.out _).mono ?_); rintro e w1 ⟨rfl, hl1⟩; have HL1 := hid (le_trans HL.out hl1); clear hl1))
      go_roundw
      case rel => exact ⟨j + 1, by omega, by go_num, by rw [EN.out]; rfl, HL1.out⟩
      case measure => simp [intOf]; omega
    · obtain rfl : j = u := by omega
      go_wp2
      go_ret
      exact ⟨rfl, HL.out⟩
end Go.Proofs.YtjihkfemejhllaaDoor

/- The laws' helpers for Ring, over trees of data. -/
namespace Go.Proofs.YtjihkfemejhllaaDoor
open Go.RowKit Go.Fk
set_option maxRecDepth 100000 in
set_option maxHeartbeats 4000000 in
theorem szU_Ring (B : Nat) (cs : List CD) (vs : List Value) (m r : Int) (w : World) (h : RdL w B cs vs) (hsh : ShOkL shRing cs) (h0 : 0 ≤ m) (h1 : m ≤ 1048576) (hr : lessBy m (szL cs) = r) :
    Calls Tryd.prog 21 #[.agg vs.toArray, .int .i64 m] w (OutI r w) := by
  obtain ⟨c0, cs, rfl, q0, hsh⟩ := hsh.inv
  obtain ⟨c1, cs, rfl, q1, hsh⟩ := hsh.inv
  obtain rfl := hsh.inv0
  obtain ⟨v0, vs, rfl, r0, h⟩ := h.inv
  obtain ⟨v1, vs, rfl, r1, h⟩ := h.inv
  obtain rfl := h.inv0
  obtain ⟨z1, rfl⟩ := q1
  obtain ⟨rfl, wf1⟩ := r1
  obtain ⟨n0, x0, rfl, q0⟩ := q0
  obtain ⟨a0, ha0⟩ : ∃ a : Nat, a = CD.sz (.sl 1 n0 x0) := ⟨_, rfl⟩
  have H0 := hid (fun (m r : Int) (w' : World) (hl : le w w') (h0 : 0 ≤ m) (h1 : m ≤ 1048576) (hr : lessBy m a0 = r) => szU_Float32S B _ _ v0 m r w' (r0.le hl) q0 h0 h1 (ha0 ▸ hr))
  replace hr : Hid (lessBy m (a0) = r) := by rw [← hr]; congr 1; try (first | (simp only [szL, List.map_cons, List.map_nil, List.sum_cons, List.sum_nil, CD.sz, ha0]; done) | (simp only [szL, List.map_cons, List.map_nil, List.sum_cons, List.sum_nil, CD.sz, ha0]; omega))
  clear ha0
  have F := (Frg.nil w).box 24 #[v0, .int .i64 z1]
  by_cases g0 : m - (a0 : Int) < 0
  · have er : r = -1 := by have := hr.out; rw [lessBy_neg (by omega)] at this; omega
    subst er
    clear hr
    go_enter Tryd.func21, Tryd.ntmps21
    go_wp2_with (first | ((with_reducible refine at_load rfl ?_); first | (with_reducible refine wpList_load1 F rfl rfl rfl (by first | exact m0) (f := 0) (v := v0) rfl ukindFloat32S ?_) | (with_reducible refine wpList_load1 F rfl rfl rfl (by first | exact m0) (f := 1) (v := .int .i64 z1) rfl ukindInt64 ?_)) | (go_at_call 35; ((with_reducible refine (H0.out m (-1 : Int) _ F.below (by omega) (by omega) (by exact lessBy_neg (by omega))).mono ?_); rintro e w1 ⟨rfl, hl⟩; replace F := F.le hl; clear hl)))
    go_ret
    exact ⟨rfl, F.below⟩
  · skip
    have er : r = (m - (a0 : Int)) := by have := hr.out; rw [lessBy_pos (by omega)] at this; omega
    subst er
    clear hr
    go_enter Tryd.func21, Tryd.ntmps21
    go_wp2_with (first | ((with_reducible refine at_load rfl ?_); first | (with_reducible refine wpList_load1 F rfl rfl rfl (by first | exact m0) (f := 0) (v := v0) rfl ukindFloat32S ?_) | (with_reducible refine wpList_load1 F rfl rfl rfl (by first | exact m0) (f := 1) (v := .int .i64 z1) rfl ukindInt64 ?_)) | (go_at_call 35; ((with_reducible refine (H0.out m (m - (a0 : Int)) _ F.below (by omega) (by omega) (by exact lessBy_pos (by omega))).mono ?_); rintro e w1 ⟨rfl, hl⟩; replace F := F.le hl; clear hl)))
    go_ret
    exact ⟨rfl, F.below⟩
set_option maxRecDepth 100000 in
set_option maxHeartbeats 4000000 in
theorem eqU_Ring (B B' : Nat) (cs : List CD) (vs vs' : List Value) (w : World) (h : RdL w B cs vs) (h' : RdL w B' cs vs') (hsh : ShOkL shRing cs) (hz : szL cs ≤ 1048576) :
    Calls Tryd.prog 28 #[.agg vs.toArray, .agg vs'.toArray] w (OutT w) := by
  obtain ⟨c0, cs, rfl, q0, hsh⟩ := hsh.inv
  obtain ⟨c1, cs, rfl, q1, hsh⟩ := hsh.inv
  obtain rfl := hsh.inv0
  obtain ⟨v0, vs, rfl, r0, h⟩ := h.inv
  obtain ⟨v1, vs, rfl, r1, h⟩ := h.inv
  obtain rfl := h.inv0
  obtain ⟨v0', vs', rfl, r0', h'⟩ := h'.inv
  obtain ⟨v1', vs', rfl, r1', h'⟩ := h'.inv
  obtain rfl := h'.inv0
  obtain ⟨z1, rfl⟩ := q1
  obtain ⟨rfl, wf1⟩ := r1
  obtain ⟨rfl, wf1'⟩ := r1'
  have HZ := hid hz
  obtain ⟨n0, x0, rfl, q0⟩ := q0
  have H0 := hid (fun (w' : World) (hl : le w w') => eqU_Float32S B B' _ _ v0 v0' w' (r0.le hl) (r0'.le hl) q0 (szC_le HZ.out 0 rfl))
  have F := ((Frg.nil w).box 34 #[v0, .int .i64 z1]).box 34 #[v0', .int .i64 z1]
  simp only [World.size_alloc] at F
  clear hz HZ
  go_enter Tryd.func28, Tryd.ntmps28
  go_wp2_with (first | ((with_reducible refine listN F ?_); clear F; intro wN F) | ((with_reducible refine at_load rfl ?_); first | (with_reducible refine wpList_load1 F rfl rfl rfl (by first | exact m0 | exact m1) (f := 0) (v := v0) rfl ukindFloat32S ?_) | (with_reducible refine wpList_load1 F rfl rfl rfl (by first | exact m0 | exact m1) (f := 1) (v := .int .i64 z1) rfl ukindInt64 ?_) | (with_reducible refine wpList_load1 F rfl rfl rfl (by first | exact m0 | exact m1) (f := 0) (v := v0') rfl ukindFloat32S ?_) | (with_reducible refine wpList_load1 F rfl rfl rfl (by first | exact m0 | exact m1) (f := 1) (v := .int .i64 z1) rfl ukindInt64 ?_)) | (go_at_call 48; ((with_reducible refine (H0.out _ F.below).mono ?_); rintro e w1 ⟨rfl, hl⟩; replace F := F.le hl; clear hl)))
  go_ret
  first | exact ⟨rfl, F.below⟩ | exact ⟨rfl, below_drewN F.below _⟩
theorem inv_Ring {w : World} {S : Nat → Prop} {us : List Value} (n0 : Nat) (x0 : Nat → CD) (z1 : Int) (h : LayL w S (([(.sl 1 n0 x0), (.int .i64 z1)] : List CD).map CD.cp) us) : ∃ u0 : Value, u0.oneCell' = true ∧ us = [u0, .int .i64 z1] ∧ LayL w S (([(.sl 1 n0 x0), (.int .i64 z1)] : List CD).map CD.cp) [u0, .int .i64 z1] := by
  have h0 := h
  simp only [List.map_cons, List.map_nil] at h
  obtain ⟨u0, us0, _, _, rfl, l0, hh0, _, _, _⟩ := h.inv
  obtain ⟨u1, us1, _, _, rfl, l1, hh1, _, _, _⟩ := hh0.inv
  obtain ⟨rfl, _⟩ := l1
  obtain rfl := hh1.inv0
  exact ⟨u0, l0.one, rfl, h0⟩
set_option maxRecDepth 100000 in
set_option maxHeartbeats 4000000 in
theorem toU_Ring (B : Nat) (cs : List CD) (vs : List Value) (w : World) (h : RdL w B cs vs) (hsh : ShOkL shRing cs) (hz : szL cs ≤ 1048576) :
    Calls Tryd.prog 24 #[.agg vs.toArray] w (OutA' (cs.map CD.cp) w) := by
  obtain ⟨c0, cs, rfl, q0, hsh⟩ := hsh.inv
  obtain ⟨c1, cs, rfl, q1, hsh⟩ := hsh.inv
  obtain rfl := hsh.inv0
  obtain ⟨v0, vs, rfl, r0, h⟩ := h.inv
  obtain ⟨v1, vs, rfl, r1, h⟩ := h.inv
  obtain rfl := h.inv0
  obtain ⟨z1, rfl⟩ := q1
  obtain ⟨rfl, wf1⟩ := r1
  have HZ := hid hz
  obtain ⟨n0, x0, rfl, q0⟩ := q0
  have H0 := hid (fun (w' : World) (hl : le w w') => toU_Float32S B _ _ v0 w' (r0.le hl) q0 (szC_le HZ.out 0 rfl))
  have F := (((Frg.nil w).box 24 #[v0, .int .i64 z1]).box 34 #[.slice none 0 0, .int .i64 0]).box 34 #[.slice none 0 0, .int .i64 0]
  simp only [World.size_alloc] at F
  clear hz HZ
  go_enter Tryd.func24, Tryd.ntmps24
  go_wp2_with (first | ((with_reducible refine listN F ?_); clear F; intro wN F) | ((with_reducible refine at_load rfl ?_); first | (with_reducible refine wpList_load1 F rfl rfl rfl (by first | exact m0 | exact m1 | exact m2 | exact m3) (f := 0) (v := v0) rfl ukindFloat32S ?_) | (with_reducible refine wpList_load1 F rfl rfl rfl (by first | exact m0 | exact m1 | exact m2 | exact m3) (f := 1) (v := .int .i64 z1) rfl ukindInt64 ?_)) | (go_at_call 39; ((with_reducible refine (H0.out _ F.below).mono ?_); rintro e w1 ⟨u0, rfl, ho, hl⟩; have O0 := hid ho.one; replace F := F.lay1 hl (LayL.cons ho (LayL.nil _ (fun _ => False)) (fun _ h => h) (fun _ h => h.elim) (fun _ _ h => h)); clear ho hl)) | (with_reducible refine stop_store rfl ?_))
  show wpList _ _ _ _ _ _
  refine wpList_store1 rfl rfl (f := 0) rfl rfl (F.row m1) uinfo1Float32S (by simp) O0.out #[u0, .int .i64 0] rfl (fun w2 K => ?_)
  replace F := F.wrI1 (cs' := #[u0, .int .i64 0]) K
  clear K
  go_wp2_with (first | ((with_reducible refine listN F ?_); clear F; intro wN F) | ((with_reducible refine at_load rfl ?_); first | (with_reducible refine wpList_load1 F rfl rfl rfl (by first | exact m0 | exact m1 | exact m2 | exact m3 | exact m4) (f := 0) (v := v0) rfl ukindFloat32S ?_) | (with_reducible refine wpList_load1 F rfl rfl rfl (by first | exact m0 | exact m1 | exact m2 | exact m3 | exact m4) (f := 1) (v := .int .i64 z1) rfl ukindInt64 ?_)) | (with_reducible refine stop_store rfl ?_))
  show wpList _ _ _ _ _ _
  refine wpList_store1 rfl rfl (f := 1) rfl rfl (F.row m1) uinfo1Int64 (by simp) rfl #[u0, .int .i64 z1] rfl (fun w2 K => ?_)
  replace F := F.wrI1 (cs' := #[u0, .int .i64 z1]) K
  clear K
  go_wp2_with (first | ((with_reducible refine listN F ?_); clear F; intro wN F) | ((with_reducible refine at_load rfl ?_); (with_reducible refine wpList_loadG F rfl rfl rfl (by first | exact m0 | exact m1) Tryd.underlying34 rfl uinfoRingI rfl ?_)) | (with_reducible refine stop_store rfl ?_))
  show wpList _ _ _ _ _ _
  refine wpList_storeD rfl rfl rfl (cells := #[u0, .int .i64 z1]) rfl (F.row m2) uinfoRingI rfl (by (simp only [List.all_toArray', List.all_cons, List.all_nil, Bool.and_true, Bool.true_and, O0.out]) <;> rfl) (fun w6 K => ?_)
  have R := hid K.row
  replace F := F.wrI2 K
  have E0 := Eaten.start F
  replace E0 := Eaten.leaf (c := .int .i64 z1) (v := .int .i64 z1) E0 (show CD.Lay _ _ _ _ from ⟨rfl, wf1⟩)
  replace E0 := Eaten.eat F E0
  replace F := F.tl
  have L := hid (show LayL _ _ _ _ ∧ le w _ from ⟨E0.fin, F.below⟩)
  clear K F E0
  go_wp2
  exact bodyPost_ret (results_row1 rfl _ _ _ _ _ rfl R.out Tryd.underlying34 rfl uinfoRingI) rfl ⟨[u0, .int .i64 z1], rfl, L.out.1, L.out.2⟩
end Go.Proofs.YtjihkfemejhllaaDoor

/- The laws' helpers for []Ring, over trees of data. -/
namespace Go.Proofs.YtjihkfemejhllaaDoor
open Go.RowKit Go.Fk
theorem sz_elRing (x : Nat → CD) (k : Nat) : sumTo (fun i => (x i).sz) ((k + 1) * 2) = sumTo (fun i => (x i).sz) (k * 2) + szL ((List.range 2).map (fun j => x (k * 2 + j))) := by
  rw [Nat.succ_mul, sumTo_add]; (simp [szL, sumTo, List.range_succ, List.sum_append]) <;> omega
theorem sz_atRing {n : Nat} (x : Nat → CD) (k : Nat) (hk : k < n) : sumTo (fun i => (x i).sz) (k * 2) + szL ((List.range 2).map (fun j => x (k * 2 + j))) ≤ sumTo (fun i => (x i).sz) (n * 2) := by
  rw [← sz_elRing]; exact sumTo_le _ (Nat.mul_le_mul_right _ hk)
set_option maxRecDepth 100000 in
set_option maxHeartbeats 4000000 in
theorem szU_RingS (B n : Nat) (x : Nat → CD) (s : Value) (m r : Int) (w : World) (h : (CD.sl 2 n x).Rd w B s) (hsh : ∀ i, i < n → ∀ j, j < 2 → ShOk (shRing.getD j .bool) (x (i * 2 + j))) (h0 : 0 ≤ m) (h1 : m ≤ 1048576) (hr : lessBy m (CD.sz (CD.sl 2 n x)) = r) :
    Calls Tryd.prog 34 #[s, .int .i64 m] w (OutI r w) := by
  have hsm := h.small
  have hrd := hid h
  simp only [CD.sz] at hr
  have hr := hid hr
  by_cases g0 : m - (n : Int) < 0
  · have er : r = -1 := by have := hr.out; rw [lessBy_neg (by omega)] at this; omega
    subst er
    clear hr h
    go_enter Tryd.func34, Tryd.ntmps34
    go_wp2_with ((with_reducible refine wpList_lenC rfl rfl rfl Tryd.underlying50 hrd.out ?_))
    go_ret
    exact ⟨rfl, le_refl _⟩
  have hn : n ≤ 1048576 := by omega
  rcases h.form with ⟨rfl, rfl⟩ | ⟨a, cap, rfl, hc, hm⟩
  · have er : r = m := by have := hr.out; simp [sumTo, lessBy] at this; omega
    subst er
    clear hr h hrd
    go_enter Tryd.func34, Tryd.ntmps34
    go_wp2
    go_loop [1, 5] (fun q i => q = .int .i64 r ∧ i = .int .i64 0) (fun _ _ => 0)
    case atStart => exact ⟨by simp, rfl⟩
    case round =>
      obtain ⟨rfl, rfl⟩ := hrel
      go_wp2
      go_ret
      exact ⟨rfl, le_refl _⟩
  · have HE := hid (fun k (hk : k < n) => h.elem hk)
    have HQ := hid hsh
    unfold maxLen at hm
    clear h hrd hsh
    go_enter Tryd.func34, Tryd.ntmps34
    go_wp2
    go_loopw [1, 5] (fun q i wr => ∃ k S : Nat, k ≤ n ∧ i = .int .i64 k ∧ q = .int .i64 (m - n - (S : Int)) ∧ Hid (S = sumTo (fun i => (x i).sz) (k * 2)) ∧ Hid (0 ≤ m - n - (S : Int)) ∧ Hid (le w wr)) (fun _ i _ => n - (intOf i).toNat)
    case atStart => exact ⟨0, 0, by omega, rfl, by simp, by simp [sumTo, Hid], by show (0 : Int) ≤ m - n - ((0 : Nat) : Int); omega, le_refl _⟩
    case round =>
      obtain ⟨k, S, hk, rfl, rfl, HS, HP, HL⟩ := hrel
      rename_i wr _
      have hp := HP.out
      by_cases hlt : k < n
      · obtain ⟨vs, hvl, hvc, hvr⟩ := HE.out k hlt
        have hvc' := hid (fun j v (hv : vs[j]? = some v) => (Below.cell HL.out (cell_lt' (hvc j v hv))).trans (hvc j v hv))
        obtain ⟨E, hE⟩ : ∃ E : Nat, E = szL ((List.range 2).map (fun j => x (k * 2 + j))) := ⟨_, rfl⟩
        have hel := sz_elRing x k
        have hat := sz_atRing x k hlt
        rw [← HS.out, ← hE] at hel hat
        have HZ := hid (fun (q r : Int) (w' : World) (hl : le wr w') (h0 : 0 ≤ q) (h1 : q ≤ 1048576) (hr : lessBy q E = r) => szU_Ring B ((List.range 2).map (fun j => x (k * 2 + j))) vs q r w' (hvr.le (le_trans HL.out hl)) (ShOk.elem (l := shRing) HQ.out hlt) h0 h1 (hE ▸ hr))
        have hvl := hid hvl
        have Hel := hid hel
        clear hvc hvr hel hE
        by_cases g1 : m - n - (S : Int) - (E : Int) < 0
        · have er : r = -1 := by have := hr.out; rw [lessBy_neg (by omega)] at this; omega
          subst er
          clear hr hat
          go_wp2_with (first | (with_reducible refine wpList_indexW rfl rfl rfl rfl Tryd.underlying50 uinfoRingL hlt ?_) | ((with_reducible refine at_load rfl ?_); (with_reducible refine wpList_loadW rfl rfl rfl vs hvc'.out Tryd.underlying24 rfl uinfoRingL hvl.out ?_)) | (go_at_call 21; ((with_reducible refine (HZ.out (m - n - (S : Int)) (-1) _ (le_refl _) (by omega) (by omega) (lessBy_neg (by omega))).mono ?_); rintro e w1 ⟨rfl, hl⟩; have HL1 := hid (le_trans HL.out hl); clear hl)))
          go_ret
          exact ⟨rfl, HL1.out⟩
        · clear hr hat
          go_wp2_with (first | (with_reducible refine wpList_indexW rfl rfl rfl rfl Tryd.underlying50 uinfoRingL hlt ?_) | ((with_reducible refine at_load rfl ?_); (with_reducible refine wpList_loadW rfl rfl rfl vs hvc'.out Tryd.underlying24 rfl uinfoRingL hvl.out ?_)) | (go_at_call 21; ((with_reducible refine (HZ.out (m - n - (S : Int)) (m - n - (S : Int) - (E : Int)) _ (le_refl _) (by omega) (by omega) (lessBy_pos g1)).mono ?_); rintro e w1 ⟨rfl, hl⟩; have HL1 := hid (le_trans HL.out hl); clear hl)))
          go_roundw
          case rel => exact ⟨k + 1, S + E, by omega, by go_num, by go_num, Hel.out.symm, by show (0 : Int) ≤ m - n - ((S + E : Nat) : Int); omega, HL1.out⟩
          case measure => simp [intOf]; omega
      · obtain rfl : k = n := by omega
        have er : r = m - k - (S : Int) := by have := hr.out; have h2 := HS.out; rw [← h2, lessBy_pos (by omega)] at this; omega
        subst er
        clear hr
        go_wp2
        go_ret
        exact ⟨rfl, HL.out⟩
set_option maxRecDepth 100000 in
set_option maxHeartbeats 4000000 in
theorem toU_RingS (B n : Nat) (x : Nat → CD) (s : Value) (w : World) (h : (CD.sl 2 n x).Rd w B s) (hsh : ∀ i, i < n → ∀ j, j < 2 → ShOk (shRing.getD j .bool) (x (i * 2 + j))) (hz : CD.sz (CD.sl 2 n x) ≤ 1048576) :
    Calls Tryd.prog 38 #[s] w (OutC (CD.sl 2 n x).cp w) := by
  simp only [CD.sz] at hz
  have hn : n ≤ 1048576 := by omega
  obtain ⟨cs0, hcs, HM⟩ := makeW_Ring n hn
  have HP0 : Hid (Part (w.alloc (.cells cs0 34)) w.heap.size 34 2 n 0 (fun i => (x i).cn)) := Part.zero (Row.new w _ _) hcs
  have HL0 := hid (le_alloc w (.cells cs0 34))
  rcases h.form with ⟨rfl, rfl⟩ | ⟨a, cap, rfl, hc, hm⟩
  · simp only [Int.natCast_zero] at HM
    clear h hsh hz hcs
    go_enter Tryd.func38, Tryd.ntmps38
    go_wp2
    go_loopw [4] (fun i wr => i = .int .i64 0 ∧ wr = w.alloc (.cells cs0 34)) (fun i _ => 0)
    case atStart => exact ⟨rfl, rfl⟩
    case round =>
      obtain ⟨rfl, rfl⟩ := hrel
      go_wp2
      go_ret
      exact ⟨_, rfl, HP0.out.full (by decide) (fun j h1 h2 => ⟨h1, h2⟩), HL0.out⟩
  · have HE := hid (fun k (hk : k < n) => h.elem hk)
    have HQ := hid hsh
    have HZ := hid hz
    unfold maxLen at hm
    clear h hsh hz hcs
    go_enter Tryd.func38, Tryd.ntmps38
    go_wp2
    go_loopw [4] (fun i wr => ∃ k : Nat, k ≤ n ∧ i = .int .i64 k ∧ Hid (Part wr w.heap.size 34 2 n k (fun i => (x i).cn)) ∧ Hid (le w wr)) (fun i _ => n - (intOf i).toNat)
    case atStart => exact ⟨0, by omega, rfl, HP0.out, HL0.out⟩
    case round =>
      obtain ⟨k, hk, rfl, HP, HL⟩ := hrel
      rename_i wr _
      by_cases hlt : k < n
      · obtain ⟨vs, hvl, hvc, hvr⟩ := HE.out k hlt
        have hat := sz_atRing x k hlt
        have hvc' := hid (fun j v (hv : vs[j]? = some v) => (Below.cell HL.out (cell_lt' (hvc j v hv))).trans (hvc j v hv))
        have HT := hid (fun (w' : World) (hl : le wr w') => toU_Ring B _ vs w' (hvr.le (le_trans HL.out hl)) (ShOk.elem (l := shRing) HQ.out hlt) (by have := HZ.out; omega))
        have hvl := hid hvl
        clear hvc hvr hat
        go_wp2_with (first | (with_reducible refine wpList_indexW0 rfl rfl rfl rfl Tryd.underlying55 uinfoRingI hlt ?_) | (with_reducible refine wpList_indexW rfl rfl rfl rfl Tryd.underlying50 uinfoRingL hlt ?_) | ((with_reducible refine at_load rfl ?_); (with_reducible refine wpList_loadW rfl rfl rfl vs hvc'.out Tryd.underlying24 rfl uinfoRingL hvl.out ?_)) | (go_at_call 24; ((with_reducible refine (HT.out _ (le_refl _)).mono ?_); rintro e w1 ⟨us, rfl, ho, hl⟩; have HO := hid ho; have HL1 := hid hl; clear ho hl)) | (with_reducible refine stop_store rfl ?_))
        show wpList _ _ _ _ _ _
        obtain ⟨cs1, hr1, hs1⟩ := HP.out.row
        have hul : us.length = 2 := by have := HO.out.1; simpa using this
        have hend : k * 2 + 2 ≤ n * 2 := by rw [← Nat.succ_mul]; exact Nat.mul_le_mul_right _ hlt
        refine wpList_storeP rfl rfl rfl (f := k * 2) (cells := us) rfl (hr1.le HL1.out) (by rw [hul]; exact uinfoRingI) (by omega) HO.out.all_one (fun w2 K => ?_)
        have HP2 := hid (HP.out.step hlt HL1.out (by have := HO.out.cn; simpa [List.map_map, Function.comp_def] using this) (hr1.le HL1.out) K)
        have HL2 := hid (K.below _ _ (le_trans HL.out HL1.out) (Nat.le_refl _))
        clear K hr1 hs1 hul hend
        go_wp2
        go_roundw
        case rel => exact ⟨k + 1, by omega, by go_num, HP2.out, HL2.out⟩
        case measure => simp [intOf]; omega
      · obtain rfl : k = n := by omega
        go_wp2
        go_ret
        exact ⟨_, rfl, HP.out.full (by unfold maxLen; omega) (fun j h1 h2 => ⟨h1, h2⟩), HL.out⟩
set_option maxRecDepth 100000 in
set_option maxHeartbeats 4000000 in
theorem eqU_RingS (B B' n : Nat) (x : Nat → CD) (s s' : Value) (w : World) (h : (CD.sl 2 n x).Rd w B s) (h' : (CD.sl 2 n x).Rd w B' s') (hsh : ∀ i, i < n → ∀ j, j < 2 → ShOk (shRing.getD j .bool) (x (i * 2 + j))) (hz : CD.sz (CD.sl 2 n x) ≤ 1048576) :
    Calls Tryd.prog 47 #[s, s'] w (OutT w) := by
  have hzz := hid hz
  simp only [CD.sz] at hz
  by_cases h0 : n = 0
  · have hrd := hid h; have hrd' := hid h'
    subst h0
    clear h h' hz hzz hsh
    go_enter Tryd.func47, Tryd.ntmps47
    go_wp2_with (first | (with_reducible refine wpList_lenC rfl rfl rfl Tryd.underlying55 hrd.out ?_) | (with_reducible refine wpList_lenC rfl rfl rfl Tryd.underlying55 hrd'.out ?_))
    go_loop [5] (fun i => i = .int .i64 0) (fun _ => 0)
    case atStart => rfl
    case round =>
      obtain rfl := hrel
      go_wp2_with (first | (with_reducible refine wpList_lenC rfl rfl rfl Tryd.underlying55 hrd.out ?_) | (with_reducible refine wpList_lenC rfl rfl rfl Tryd.underlying55 hrd'.out ?_))
      go_ret
      exact ⟨rfl, le_refl _⟩
  have HE := hid (fun k (hk : k < n) a cap (e : s = .slice (some a) n cap) => (CD.Rd.elem (w := w) (B := B) (wd := 2) (x := x) (cap := cap) (a := a) (e ▸ h) hk))
  have HE' := hid (fun k (hk : k < n) a cap (e : s' = .slice (some a) n cap) => (CD.Rd.elem (w := w) (B := B') (wd := 2) (x := x) (cap := cap) (a := a) (e ▸ h') hk))
  rcases h.form with ⟨_, e0⟩ | ⟨a, cap, rfl, hc, hm⟩
  · exact absurd e0 h0
  rcases h'.form with ⟨_, e0⟩ | ⟨a', cap', rfl, hc', hm'⟩
  · exact absurd e0 h0
  have HQ := hid hsh
  unfold maxLen at hm hm'
  clear h h' hsh h0
  go_enter Tryd.func47, Tryd.ntmps47
  go_wp2
  go_loopw [5] (fun i wr => ∃ k : Nat, k ≤ n ∧ i = .int .i64 k ∧ Hid (le w wr)) (fun i _ => n - (intOf i).toNat)
  case atStart => exact ⟨0, by omega, rfl, le_refl _⟩
  case round =>
    obtain ⟨k, hk, rfl, HL⟩ := hrel
    rename_i wr _
    by_cases hlt : k < n
    · obtain ⟨vs, hvl, hvc, hvr⟩ := HE.out k hlt a cap rfl
      obtain ⟨vs', hvl', hvc', hvr'⟩ := HE'.out k hlt a' cap' rfl
      have hat := sz_atRing x k hlt
      have HQE := hid (fun (w' : World) (hl : le wr w') => eqU_Ring B B' _ vs vs' w' (hvr.le (le_trans HL.out hl)) (hvr'.le (le_trans HL.out hl)) (ShOk.elem (l := shRing) HQ.out hlt) (by omega))
      have gvc := hid (fun (w' : World) (hl : le wr w') j v (hv : vs[j]? = some v) => (Below.cell (le_trans HL.out hl) (cell_lt' (hvc j v hv))).trans (hvc j v hv))
      have gvc' := hid (fun (w' : World) (hl : le wr w') j v (hv : vs'[j]? = some v) => (Below.cell (le_trans HL.out hl) (cell_lt' (hvc' j v hv))).trans (hvc' j v hv))
      have hvl := hid hvl; have hvl' := hid hvl'
      clear hvc hvr hvc' hvr' hat
      go_wp2_with fail
      refine region_freeD (E := leX) (fun f args w v => v = .bool true) (by kernel_rfl) (by kernel_rfl) ?_
      refine wpFreeD_one rfl (.slice (some a) n cap) (fun w1 _ => by kernel_rfl) ?_
      simp only [Act.put, List.setIfInBounds_toArray, List.set_cons_succ, List.set_cons_zero]
      refine wpFreeD_one rfl (.int .i64 k) (fun w1 _ => by kernel_rfl) ?_
      simp only [Act.put, List.setIfInBounds_toArray, List.set_cons_succ, List.set_cons_zero]
      refine wpFreeD_indexW rfl rfl rfl rfl Tryd.underlying55 uinfoRingI hlt ?_
      simp only [Act.put, List.setIfInBounds_toArray, List.set_cons_succ, List.set_cons_zero]
      refine wpFreeD_loadW rfl rfl rfl vs (fun w1 h1 j v hv => gvc.out w1 (le_trans (le_drewN _ _) h1) j v hv) Tryd.underlying34 rfl uinfoRingI hvl.out ?_
      simp only [Act.put, List.setIfInBounds_toArray, List.set_cons_succ, List.set_cons_zero]
      refine wpFreeD_one rfl (.slice (some a') n cap') (fun w1 _ => by kernel_rfl) ?_
      simp only [Act.put, List.setIfInBounds_toArray, List.set_cons_succ, List.set_cons_zero]
      refine wpFreeD_one rfl (.int .i64 k) (fun w1 _ => by kernel_rfl) ?_
      simp only [Act.put, List.setIfInBounds_toArray, List.set_cons_succ, List.set_cons_zero]
      refine wpFreeD_indexW rfl rfl rfl rfl Tryd.underlying55 uinfoRingI hlt ?_
      simp only [Act.put, List.setIfInBounds_toArray, List.set_cons_succ, List.set_cons_zero]
      refine wpFreeD_loadW rfl rfl rfl vs' (fun w1 h1 j v hv => gvc'.out w1 (le_trans (le_drewN _ _) h1) j v hv) Tryd.underlying34 rfl uinfoRingI hvl'.out ?_
      simp only [Act.put, List.setIfInBounds_toArray, List.set_cons_succ, List.set_cons_zero]
      refine wpFreeD_callB rfl rfl Tryd.func28 (by kernel_rfl) (by kernel_rfl) (args := #[.agg vs.toArray, .agg vs'.toArray]) (by simp [Act.eval]) (fun v w1 w2 hw hv => hv) (fun w1 hw1 _ => (HQE.out w1 (le_trans (le_drewN _ _) hw1)).mono ?_) ?_
      · rintro e w2 ⟨rfl, hl⟩
        exact ⟨_, rfl, hl, rfl⟩
      rintro v ⟨_, _, _, rfl⟩
      simp only [Act.put, List.setIfInBounds_toArray, List.set_cons_succ, List.set_cons_zero]
      refine wpFreeD_one rfl (.bool false) (fun w1 _ => by kernel_rfl) ?_
      simp only [Act.put, List.setIfInBounds_toArray, List.set_cons_succ, List.set_cons_zero]
      refine wpFreeD_nil (fun wR hwR _ => ?_)
      have HL1 := hid (le_trans HL.out (le_trans (le_drewN _ _) hwR))
      clear hwR
      go_wp2
      go_roundw
      case rel => exact ⟨k + 1, by omega, by go_num, HL1.out⟩
      case measure => simp [intOf]; omega
    · obtain rfl : k = n := by omega
      go_wp2
      go_ret
      exact ⟨rfl, HL.out⟩
end Go.Proofs.YtjihkfemejhllaaDoor

/- The laws' helpers for Pipe, over trees of data. -/
namespace Go.Proofs.YtjihkfemejhllaaDoor
open Go.RowKit Go.Fk
set_option maxRecDepth 100000 in
set_option maxHeartbeats 4000000 in
theorem szU_Pipe (B : Nat) (cs : List CD) (vs : List Value) (m r : Int) (w : World) (h : RdL w B cs vs) (hsh : ShOkL shPipe cs) (h0 : 0 ≤ m) (h1 : m ≤ 1048576) (hr : lessBy m (szL cs) = r) :
    Calls Tryd.prog 16 #[.agg vs.toArray, .int .i64 m] w (OutI r w) := by
  obtain ⟨c0, cs, rfl, q0, hsh⟩ := hsh.inv
  obtain ⟨c1, cs, rfl, q1, hsh⟩ := hsh.inv
  obtain ⟨c2, cs, rfl, q2, hsh⟩ := hsh.inv
  obtain ⟨c3, cs, rfl, q3, hsh⟩ := hsh.inv
  obtain ⟨c4, cs, rfl, q4, hsh⟩ := hsh.inv
  obtain ⟨c5, cs, rfl, q5, hsh⟩ := hsh.inv
  obtain ⟨c6, cs, rfl, q6, hsh⟩ := hsh.inv
  obtain ⟨c7, cs, rfl, q7, hsh⟩ := hsh.inv
  obtain ⟨c8, cs, rfl, q8, hsh⟩ := hsh.inv
  obtain ⟨c9, cs, rfl, q9, hsh⟩ := hsh.inv
  obtain ⟨c10, cs, rfl, q10, hsh⟩ := hsh.inv
  obtain ⟨c11, cs, rfl, q11, hsh⟩ := hsh.inv
  obtain ⟨c12, cs, rfl, q12, hsh⟩ := hsh.inv
  obtain rfl := hsh.inv0
  obtain ⟨v0, vs, rfl, r0, h⟩ := h.inv
  obtain ⟨v1, vs, rfl, r1, h⟩ := h.inv
  obtain ⟨v2, vs, rfl, r2, h⟩ := h.inv
  obtain ⟨v3, vs, rfl, r3, h⟩ := h.inv
  obtain ⟨v4, vs, rfl, r4, h⟩ := h.inv
  obtain ⟨v5, vs, rfl, r5, h⟩ := h.inv
  obtain ⟨v6, vs, rfl, r6, h⟩ := h.inv
  obtain ⟨v7, vs, rfl, r7, h⟩ := h.inv
  obtain ⟨v8, vs, rfl, r8, h⟩ := h.inv
  obtain ⟨v9, vs, rfl, r9, h⟩ := h.inv
  obtain ⟨v10, vs, rfl, r10, h⟩ := h.inv
  obtain ⟨v11, vs, rfl, r11, h⟩ := h.inv
  obtain ⟨v12, vs, rfl, r12, h⟩ := h.inv
  obtain rfl := h.inv0
  obtain ⟨z3, rfl⟩ := q3
  obtain ⟨rfl, wf3⟩ := r3
  have q4 : c4.flk = some .f32 := q4
  obtain ⟨y4, rfl, f4, e4⟩ := r4.fl q4
  have q5 : c5.flk = some .f32 := q5
  obtain ⟨y5, rfl, f5, e5⟩ := r5.fl q5
  have q6 : c6.flk = some .f32 := q6
  obtain ⟨y6, rfl, f6, e6⟩ := r6.fl q6
  have q7 : c7.flk = some .f32 := q7
  obtain ⟨y7, rfl, f7, e7⟩ := r7.fl q7
  have q8 : c8.flk = some .f32 := q8
  obtain ⟨y8, rfl, f8, e8⟩ := r8.fl q8
  obtain ⟨b9, rfl⟩ := q9
  obtain rfl := r9
  have q10 : c10.flk = some .f32 := q10
  obtain ⟨y10, rfl, f10, e10⟩ := r10.fl q10
  have q11 : c11.flk = some .f32 := q11
  obtain ⟨y11, rfl, f11, e11⟩ := r11.fl q11
  have q12 : c12.flk = some .f32 := q12
  obtain ⟨y12, rfl, f12, e12⟩ := r12.fl q12
  obtain ⟨n0, x0, rfl, q0⟩ := q0
  obtain ⟨a0, ha0⟩ : ∃ a : Nat, a = CD.sz (.sl 2 n0 x0) := ⟨_, rfl⟩
  have H0 := hid (fun (m r : Int) (w' : World) (hl : le w w') (h0 : 0 ≤ m) (h1 : m ≤ 1048576) (hr : lessBy m a0 = r) => szU_RingS B _ _ v0 m r w' (r0.le hl) q0 h0 h1 (ha0 ▸ hr))
  obtain ⟨n1, x1, rfl, q1⟩ := q1
  obtain ⟨a1, ha1⟩ : ∃ a : Nat, a = CD.sz (.sl 2 n1 x1) := ⟨_, rfl⟩
  have H1 := hid (fun (m r : Int) (w' : World) (hl : le w w') (h0 : 0 ≤ m) (h1 : m ≤ 1048576) (hr : lessBy m a1 = r) => szU_RingS B _ _ v1 m r w' (r1.le hl) q1 h0 h1 (ha1 ▸ hr))
  obtain ⟨n2, x2, rfl, q2⟩ := q2
  obtain ⟨a2, ha2⟩ : ∃ a : Nat, a = CD.sz (.sl 1 n2 x2) := ⟨_, rfl⟩
  have H2 := hid (fun (m r : Int) (w' : World) (hl : le w w') (h0 : 0 ≤ m) (h1 : m ≤ 1048576) (hr : lessBy m a2 = r) => szU_Float32S B _ _ v2 m r w' (r2.le hl) q2 h0 h1 (ha2 ▸ hr))
  replace hr : Hid (lessBy m (a0 + a1 + a2) = r) := by rw [← hr]; congr 1; try (first | (simp only [szL, List.map_cons, List.map_nil, List.sum_cons, List.sum_nil, CD.sz, ha0, ha1, ha2, CD.sz_fl q4, CD.sz_fl q5, CD.sz_fl q6, CD.sz_fl q7, CD.sz_fl q8, CD.sz_fl q10, CD.sz_fl q11, CD.sz_fl q12]; done) | (simp only [szL, List.map_cons, List.map_nil, List.sum_cons, List.sum_nil, CD.sz, ha0, ha1, ha2, CD.sz_fl q4, CD.sz_fl q5, CD.sz_fl q6, CD.sz_fl q7, CD.sz_fl q8, CD.sz_fl q10, CD.sz_fl q11, CD.sz_fl q12]; omega))
  clear ha0 ha1 ha2
  have F := (Frg.nil w).box 52 #[v0, v1, v2, .int .i64 z3, .float .f32 y4, .float .f32 y5, .float .f32 y6, .float .f32 y7, .float .f32 y8, .bool b9, .float .f32 y10, .float .f32 y11, .float .f32 y12]
  by_cases g0 : m - (a0 : Int) < 0
  · have er : r = -1 := by have := hr.out; rw [lessBy_neg (by omega)] at this; omega
    subst er
    clear hr
    go_enter Tryd.func16, Tryd.ntmps16
    go_wp2_with (first | ((with_reducible refine at_load rfl ?_); first | (with_reducible refine wpList_load1 F rfl rfl rfl (by first | exact m0) (f := 0) (v := v0) rfl ukindRingSL ?_) | (with_reducible refine wpList_load1 F rfl rfl rfl (by first | exact m0) (f := 1) (v := v1) rfl ukindRingSL ?_) | (with_reducible refine wpList_load1 F rfl rfl rfl (by first | exact m0) (f := 2) (v := v2) rfl ukindFloat32S ?_) | (with_reducible refine wpList_loadGP F rfl rfl rfl (by first | exact m0) Tryd.underlying29 rfl [.int .i64 z3, .float .f32 y4, .float .f32 y5, .float .f32 y6, .float .f32 y7, .float .f32 y8] (partPipe_End (v0) (v1) (v2) (.int .i64 z3) (.float .f32 y4) (.float .f32 y5) (.float .f32 y6) (.float .f32 y7) (.float .f32 y8) (.bool b9) (.float .f32 y10) (.float .f32 y11) (.float .f32 y12)) uinfoFilterL rfl ?_) | (with_reducible refine wpList_load1 F rfl rfl rfl (by first | exact m0) (f := 9) (v := .bool b9) rfl ukindBool ?_) | (with_reducible refine wpList_load1 F rfl rfl rfl (by first | exact m0) (f := 10) (v := .float .f32 y10) rfl ukindFloat32 ?_) | (with_reducible refine wpList_load1 F rfl rfl rfl (by first | exact m0) (f := 11) (v := .float .f32 y11) rfl ukindFloat32 ?_) | (with_reducible refine wpList_load1 F rfl rfl rfl (by first | exact m0) (f := 12) (v := .float .f32 y12) rfl ukindFloat32 ?_)) | (go_at_call 34; ((with_reducible refine (H0.out m (-1 : Int) _ F.below (by omega) (by omega) (by exact lessBy_neg (by omega))).mono ?_); rintro e w1 ⟨rfl, hl⟩; replace F := F.le hl; clear hl)))
    go_ret
    exact ⟨rfl, F.below⟩
  · skip
    by_cases g1 : (m - (a0 : Int)) - (a1 : Int) < 0
    · have er : r = -1 := by have := hr.out; rw [lessBy_neg (by omega)] at this; omega
      subst er
      clear hr
      go_enter Tryd.func16, Tryd.ntmps16
      go_wp2_with (first | ((with_reducible refine at_load rfl ?_); first | (with_reducible refine wpList_load1 F rfl rfl rfl (by first | exact m0) (f := 0) (v := v0) rfl ukindRingSL ?_) | (with_reducible refine wpList_load1 F rfl rfl rfl (by first | exact m0) (f := 1) (v := v1) rfl ukindRingSL ?_) | (with_reducible refine wpList_load1 F rfl rfl rfl (by first | exact m0) (f := 2) (v := v2) rfl ukindFloat32S ?_) | (with_reducible refine wpList_loadGP F rfl rfl rfl (by first | exact m0) Tryd.underlying29 rfl [.int .i64 z3, .float .f32 y4, .float .f32 y5, .float .f32 y6, .float .f32 y7, .float .f32 y8] (partPipe_End (v0) (v1) (v2) (.int .i64 z3) (.float .f32 y4) (.float .f32 y5) (.float .f32 y6) (.float .f32 y7) (.float .f32 y8) (.bool b9) (.float .f32 y10) (.float .f32 y11) (.float .f32 y12)) uinfoFilterL rfl ?_) | (with_reducible refine wpList_load1 F rfl rfl rfl (by first | exact m0) (f := 9) (v := .bool b9) rfl ukindBool ?_) | (with_reducible refine wpList_load1 F rfl rfl rfl (by first | exact m0) (f := 10) (v := .float .f32 y10) rfl ukindFloat32 ?_) | (with_reducible refine wpList_load1 F rfl rfl rfl (by first | exact m0) (f := 11) (v := .float .f32 y11) rfl ukindFloat32 ?_) | (with_reducible refine wpList_load1 F rfl rfl rfl (by first | exact m0) (f := 12) (v := .float .f32 y12) rfl ukindFloat32 ?_)) | (go_at_call 34; ((with_reducible refine (H0.out m (m - (a0 : Int)) _ F.below (by omega) (by omega) (by exact lessBy_pos (by omega))).mono ?_); rintro e w1 ⟨rfl, hl⟩; replace F := F.le hl; clear hl)) | (go_at_call 34; ((with_reducible refine (H1.out (m - (a0 : Int)) (-1 : Int) _ F.below (by omega) (by omega) (by exact lessBy_neg (by omega))).mono ?_); rintro e w1 ⟨rfl, hl⟩; replace F := F.le hl; clear hl)))
      go_ret
      exact ⟨rfl, F.below⟩
    · skip
      by_cases g2 : ((m - (a0 : Int)) - (a1 : Int)) - (a2 : Int) < 0
      · have er : r = -1 := by have := hr.out; rw [lessBy_neg (by omega)] at this; omega
        subst er
        clear hr
        go_enter Tryd.func16, Tryd.ntmps16
        go_wp2_with (first | ((with_reducible refine at_load rfl ?_); first | (with_reducible refine wpList_load1 F rfl rfl rfl (by first | exact m0) (f := 0) (v := v0) rfl ukindRingSL ?_) | (with_reducible refine wpList_load1 F rfl rfl rfl (by first | exact m0) (f := 1) (v := v1) rfl ukindRingSL ?_) | (with_reducible refine wpList_load1 F rfl rfl rfl (by first | exact m0) (f := 2) (v := v2) rfl ukindFloat32S ?_) | (with_reducible refine wpList_loadGP F rfl rfl rfl (by first | exact m0) Tryd.underlying29 rfl [.int .i64 z3, .float .f32 y4, .float .f32 y5, .float .f32 y6, .float .f32 y7, .float .f32 y8] (partPipe_End (v0) (v1) (v2) (.int .i64 z3) (.float .f32 y4) (.float .f32 y5) (.float .f32 y6) (.float .f32 y7) (.float .f32 y8) (.bool b9) (.float .f32 y10) (.float .f32 y11) (.float .f32 y12)) uinfoFilterL rfl ?_) | (with_reducible refine wpList_load1 F rfl rfl rfl (by first | exact m0) (f := 9) (v := .bool b9) rfl ukindBool ?_) | (with_reducible refine wpList_load1 F rfl rfl rfl (by first | exact m0) (f := 10) (v := .float .f32 y10) rfl ukindFloat32 ?_) | (with_reducible refine wpList_load1 F rfl rfl rfl (by first | exact m0) (f := 11) (v := .float .f32 y11) rfl ukindFloat32 ?_) | (with_reducible refine wpList_load1 F rfl rfl rfl (by first | exact m0) (f := 12) (v := .float .f32 y12) rfl ukindFloat32 ?_)) | (go_at_call 34; ((with_reducible refine (H0.out m (m - (a0 : Int)) _ F.below (by omega) (by omega) (by exact lessBy_pos (by omega))).mono ?_); rintro e w1 ⟨rfl, hl⟩; replace F := F.le hl; clear hl)) | (go_at_call 34; ((with_reducible refine (H1.out (m - (a0 : Int)) ((m - (a0 : Int)) - (a1 : Int)) _ F.below (by omega) (by omega) (by exact lessBy_pos (by omega))).mono ?_); rintro e w1 ⟨rfl, hl⟩; replace F := F.le hl; clear hl)) | (go_at_call 35; ((with_reducible refine (H2.out ((m - (a0 : Int)) - (a1 : Int)) (-1 : Int) _ F.below (by omega) (by omega) (by exact lessBy_neg (by omega))).mono ?_); rintro e w1 ⟨rfl, hl⟩; replace F := F.le hl; clear hl)))
        go_ret
        exact ⟨rfl, F.below⟩
      · skip
        have er : r = (((m - (a0 : Int)) - (a1 : Int)) - (a2 : Int)) := by have := hr.out; rw [lessBy_pos (by omega)] at this; omega
        subst er
        clear hr
        go_enter Tryd.func16, Tryd.ntmps16
        go_wp2_with (first | ((with_reducible refine at_load rfl ?_); first | (with_reducible refine wpList_load1 F rfl rfl rfl (by first | exact m0) (f := 0) (v := v0) rfl ukindRingSL ?_) | (with_reducible refine wpList_load1 F rfl rfl rfl (by first | exact m0) (f := 1) (v := v1) rfl ukindRingSL ?_) | (with_reducible refine wpList_load1 F rfl rfl rfl (by first | exact m0) (f := 2) (v := v2) rfl ukindFloat32S ?_) | (with_reducible refine wpList_loadGP F rfl rfl rfl (by first | exact m0) Tryd.underlying29 rfl [.int .i64 z3, .float .f32 y4, .float .f32 y5, .float .f32 y6, .float .f32 y7, .float .f32 y8] (partPipe_End (v0) (v1) (v2) (.int .i64 z3) (.float .f32 y4) (.float .f32 y5) (.float .f32 y6) (.float .f32 y7) (.float .f32 y8) (.bool b9) (.float .f32 y10) (.float .f32 y11) (.float .f32 y12)) uinfoFilterL rfl ?_) | (with_reducible refine wpList_load1 F rfl rfl rfl (by first | exact m0) (f := 9) (v := .bool b9) rfl ukindBool ?_) | (with_reducible refine wpList_load1 F rfl rfl rfl (by first | exact m0) (f := 10) (v := .float .f32 y10) rfl ukindFloat32 ?_) | (with_reducible refine wpList_load1 F rfl rfl rfl (by first | exact m0) (f := 11) (v := .float .f32 y11) rfl ukindFloat32 ?_) | (with_reducible refine wpList_load1 F rfl rfl rfl (by first | exact m0) (f := 12) (v := .float .f32 y12) rfl ukindFloat32 ?_)) | (go_at_call 34; ((with_reducible refine (H0.out m (m - (a0 : Int)) _ F.below (by omega) (by omega) (by exact lessBy_pos (by omega))).mono ?_); rintro e w1 ⟨rfl, hl⟩; replace F := F.le hl; clear hl)) | (go_at_call 34; ((with_reducible refine (H1.out (m - (a0 : Int)) ((m - (a0 : Int)) - (a1 : Int)) _ F.below (by omega) (by omega) (by exact lessBy_pos (by omega))).mono ?_); rintro e w1 ⟨rfl, hl⟩; replace F := F.le hl; clear hl)) | (go_at_call 35; ((with_reducible refine (H2.out ((m - (a0 : Int)) - (a1 : Int)) (((m - (a0 : Int)) - (a1 : Int)) - (a2 : Int)) _ F.below (by omega) (by omega) (by exact lessBy_pos (by omega))).mono ?_); rintro e w1 ⟨rfl, hl⟩; replace F := F.le hl; clear hl)))
        go_ret
        exact ⟨rfl, F.below⟩
set_option maxRecDepth 100000 in
set_option maxHeartbeats 4000000 in
theorem eqU_Pipe (B B' : Nat) (cs : List CD) (vs vs' : List Value) (w : World) (h : RdL w B cs vs) (h' : RdL w B' cs vs') (hsh : ShOkL shPipe cs) (hz : szL cs ≤ 1048576) :
    Calls Tryd.prog 20 #[.agg vs.toArray, .agg vs'.toArray] w (OutT w) := by
  obtain ⟨c0, cs, rfl, q0, hsh⟩ := hsh.inv
  obtain ⟨c1, cs, rfl, q1, hsh⟩ := hsh.inv
  obtain ⟨c2, cs, rfl, q2, hsh⟩ := hsh.inv
  obtain ⟨c3, cs, rfl, q3, hsh⟩ := hsh.inv
  obtain ⟨c4, cs, rfl, q4, hsh⟩ := hsh.inv
  obtain ⟨c5, cs, rfl, q5, hsh⟩ := hsh.inv
  obtain ⟨c6, cs, rfl, q6, hsh⟩ := hsh.inv
  obtain ⟨c7, cs, rfl, q7, hsh⟩ := hsh.inv
  obtain ⟨c8, cs, rfl, q8, hsh⟩ := hsh.inv
  obtain ⟨c9, cs, rfl, q9, hsh⟩ := hsh.inv
  obtain ⟨c10, cs, rfl, q10, hsh⟩ := hsh.inv
  obtain ⟨c11, cs, rfl, q11, hsh⟩ := hsh.inv
  obtain ⟨c12, cs, rfl, q12, hsh⟩ := hsh.inv
  obtain rfl := hsh.inv0
  obtain ⟨v0, vs, rfl, r0, h⟩ := h.inv
  obtain ⟨v1, vs, rfl, r1, h⟩ := h.inv
  obtain ⟨v2, vs, rfl, r2, h⟩ := h.inv
  obtain ⟨v3, vs, rfl, r3, h⟩ := h.inv
  obtain ⟨v4, vs, rfl, r4, h⟩ := h.inv
  obtain ⟨v5, vs, rfl, r5, h⟩ := h.inv
  obtain ⟨v6, vs, rfl, r6, h⟩ := h.inv
  obtain ⟨v7, vs, rfl, r7, h⟩ := h.inv
  obtain ⟨v8, vs, rfl, r8, h⟩ := h.inv
  obtain ⟨v9, vs, rfl, r9, h⟩ := h.inv
  obtain ⟨v10, vs, rfl, r10, h⟩ := h.inv
  obtain ⟨v11, vs, rfl, r11, h⟩ := h.inv
  obtain ⟨v12, vs, rfl, r12, h⟩ := h.inv
  obtain rfl := h.inv0
  obtain ⟨v0', vs', rfl, r0', h'⟩ := h'.inv
  obtain ⟨v1', vs', rfl, r1', h'⟩ := h'.inv
  obtain ⟨v2', vs', rfl, r2', h'⟩ := h'.inv
  obtain ⟨v3', vs', rfl, r3', h'⟩ := h'.inv
  obtain ⟨v4', vs', rfl, r4', h'⟩ := h'.inv
  obtain ⟨v5', vs', rfl, r5', h'⟩ := h'.inv
  obtain ⟨v6', vs', rfl, r6', h'⟩ := h'.inv
  obtain ⟨v7', vs', rfl, r7', h'⟩ := h'.inv
  obtain ⟨v8', vs', rfl, r8', h'⟩ := h'.inv
  obtain ⟨v9', vs', rfl, r9', h'⟩ := h'.inv
  obtain ⟨v10', vs', rfl, r10', h'⟩ := h'.inv
  obtain ⟨v11', vs', rfl, r11', h'⟩ := h'.inv
  obtain ⟨v12', vs', rfl, r12', h'⟩ := h'.inv
  obtain rfl := h'.inv0
  obtain ⟨z3, rfl⟩ := q3
  obtain ⟨rfl, wf3⟩ := r3
  obtain ⟨rfl, wf3'⟩ := r3'
  have q4 : c4.flk = some .f32 := q4
  obtain ⟨y4, rfl, f4, e4⟩ := r4.fl q4
  obtain ⟨y4', rfl, f4', e4'⟩ := r4'.fl q4
  have q5 : c5.flk = some .f32 := q5
  obtain ⟨y5, rfl, f5, e5⟩ := r5.fl q5
  obtain ⟨y5', rfl, f5', e5'⟩ := r5'.fl q5
  have q6 : c6.flk = some .f32 := q6
  obtain ⟨y6, rfl, f6, e6⟩ := r6.fl q6
  obtain ⟨y6', rfl, f6', e6'⟩ := r6'.fl q6
  have q7 : c7.flk = some .f32 := q7
  obtain ⟨y7, rfl, f7, e7⟩ := r7.fl q7
  obtain ⟨y7', rfl, f7', e7'⟩ := r7'.fl q7
  have q8 : c8.flk = some .f32 := q8
  obtain ⟨y8, rfl, f8, e8⟩ := r8.fl q8
  obtain ⟨y8', rfl, f8', e8'⟩ := r8'.fl q8
  obtain ⟨b9, rfl⟩ := q9
  obtain rfl := r9
  obtain rfl := r9'
  have q10 : c10.flk = some .f32 := q10
  obtain ⟨y10, rfl, f10, e10⟩ := r10.fl q10
  obtain ⟨y10', rfl, f10', e10'⟩ := r10'.fl q10
  have q11 : c11.flk = some .f32 := q11
  obtain ⟨y11, rfl, f11, e11⟩ := r11.fl q11
  obtain ⟨y11', rfl, f11', e11'⟩ := r11'.fl q11
  have q12 : c12.flk = some .f32 := q12
  obtain ⟨y12, rfl, f12, e12⟩ := r12.fl q12
  obtain ⟨y12', rfl, f12', e12'⟩ := r12'.fl q12
  have HZ := hid hz
  obtain ⟨n0, x0, rfl, q0⟩ := q0
  have H0 := hid (fun (w' : World) (hl : le w w') => eqU_RingS B B' _ _ v0 v0' w' (r0.le hl) (r0'.le hl) q0 (szC_le HZ.out 0 rfl))
  obtain ⟨n1, x1, rfl, q1⟩ := q1
  have H1 := hid (fun (w' : World) (hl : le w w') => eqU_RingS B B' _ _ v1 v1' w' (r1.le hl) (r1'.le hl) q1 (szC_le HZ.out 1 rfl))
  obtain ⟨n2, x2, rfl, q2⟩ := q2
  have H2 := hid (fun (w' : World) (hl : le w w') => eqU_Float32S B B' _ _ v2 v2' w' (r2.le hl) (r2'.le hl) q2 (szC_le HZ.out 2 rfl))
  have H3 := hid (fun (w' : World) => eqFil_yes z3 y4 y5 y6 y7 y8 y4' y5' y6' y7' y8' w' (e4.trans e4'.symm) (e5.trans e5'.symm) (e6.trans e6'.symm) (e7.trans e7'.symm) (e8.trans e8'.symm))
  have E10 := hid (e10.trans e10'.symm)
  have E11 := hid (e11.trans e11'.symm)
  have E12 := hid (e12.trans e12'.symm)
  have F := ((Frg.nil w).box 57 #[v0, v1, v2, .int .i64 z3, .float .f32 y4, .float .f32 y5, .float .f32 y6, .float .f32 y7, .float .f32 y8, .bool b9, .float .f32 y10, .float .f32 y11, .float .f32 y12]).box 57 #[v0', v1', v2', .int .i64 z3, .float .f32 y4', .float .f32 y5', .float .f32 y6', .float .f32 y7', .float .f32 y8', .bool b9, .float .f32 y10', .float .f32 y11', .float .f32 y12']
  simp only [World.size_alloc] at F
  clear hz HZ
  go_enter Tryd.func20, Tryd.ntmps20
  go_wp2_with (first | ((with_reducible refine listN F ?_); clear F; intro wN F) | ((with_reducible refine at_load rfl ?_); first | (with_reducible refine wpList_load1 F rfl rfl rfl (by first | exact m0 | exact m1) (f := 0) (v := v0) rfl ukindRingSI ?_) | (with_reducible refine wpList_load1 F rfl rfl rfl (by first | exact m0 | exact m1) (f := 1) (v := v1) rfl ukindRingSI ?_) | (with_reducible refine wpList_load1 F rfl rfl rfl (by first | exact m0 | exact m1) (f := 2) (v := v2) rfl ukindFloat32S ?_) | (with_reducible refine wpList_loadGP F rfl rfl rfl (by first | exact m0 | exact m1) Tryd.underlying35 rfl [.int .i64 z3, .float .f32 y4, .float .f32 y5, .float .f32 y6, .float .f32 y7, .float .f32 y8] (partPipe_End (v0) (v1) (v2) (.int .i64 z3) (.float .f32 y4) (.float .f32 y5) (.float .f32 y6) (.float .f32 y7) (.float .f32 y8) (.bool b9) (.float .f32 y10) (.float .f32 y11) (.float .f32 y12)) uinfoFilterI rfl ?_) | (with_reducible refine wpList_load1 F rfl rfl rfl (by first | exact m0 | exact m1) (f := 9) (v := .bool b9) rfl ukindBool ?_) | (with_reducible refine wpList_load1 F rfl rfl rfl (by first | exact m0 | exact m1) (f := 10) (v := .float .f32 y10) rfl ukindFloat32 ?_) | (with_reducible refine wpList_load1 F rfl rfl rfl (by first | exact m0 | exact m1) (f := 11) (v := .float .f32 y11) rfl ukindFloat32 ?_) | (with_reducible refine wpList_load1 F rfl rfl rfl (by first | exact m0 | exact m1) (f := 12) (v := .float .f32 y12) rfl ukindFloat32 ?_) | (with_reducible refine wpList_load1 F rfl rfl rfl (by first | exact m0 | exact m1) (f := 0) (v := v0') rfl ukindRingSI ?_) | (with_reducible refine wpList_load1 F rfl rfl rfl (by first | exact m0 | exact m1) (f := 1) (v := v1') rfl ukindRingSI ?_) | (with_reducible refine wpList_load1 F rfl rfl rfl (by first | exact m0 | exact m1) (f := 2) (v := v2') rfl ukindFloat32S ?_) | (with_reducible refine wpList_loadGP F rfl rfl rfl (by first | exact m0 | exact m1) Tryd.underlying35 rfl [.int .i64 z3, .float .f32 y4', .float .f32 y5', .float .f32 y6', .float .f32 y7', .float .f32 y8'] (partPipe_End (v0') (v1') (v2') (.int .i64 z3) (.float .f32 y4') (.float .f32 y5') (.float .f32 y6') (.float .f32 y7') (.float .f32 y8') (.bool b9) (.float .f32 y10') (.float .f32 y11') (.float .f32 y12')) uinfoFilterI rfl ?_) | (with_reducible refine wpList_load1 F rfl rfl rfl (by first | exact m0 | exact m1) (f := 9) (v := .bool b9) rfl ukindBool ?_) | (with_reducible refine wpList_load1 F rfl rfl rfl (by first | exact m0 | exact m1) (f := 10) (v := .float .f32 y10') rfl ukindFloat32 ?_) | (with_reducible refine wpList_load1 F rfl rfl rfl (by first | exact m0 | exact m1) (f := 11) (v := .float .f32 y11') rfl ukindFloat32 ?_) | (with_reducible refine wpList_load1 F rfl rfl rfl (by first | exact m0 | exact m1) (f := 12) (v := .float .f32 y12') rfl ukindFloat32 ?_)) | (go_at_call 47; ((with_reducible refine (H0.out _ F.below).mono ?_); rintro e w1 ⟨rfl, hl⟩; replace F := F.le hl; clear hl)) | (go_at_call 47; ((with_reducible refine (H1.out _ F.below).mono ?_); rintro e w1 ⟨rfl, hl⟩; replace F := F.le hl; clear hl)) | (go_at_call 48; ((with_reducible refine (H2.out _ F.below).mono ?_); rintro e w1 ⟨rfl, hl⟩; replace F := F.le hl; clear hl)) | (go_at_call 29; ((with_reducible refine (H3.out _).mono ?_); rintro e w1 ⟨rfl, hl⟩; replace F := F.le hl; clear hl)) | ((with_reducible refine at_convert rfl ?_); (with_reducible refine wpList_widen rfl rfl rfl Tryd.underlying25 Tryd.underlying72 ?_; intro s1 n1 h1 f1)) | (go_at_call 30; ((with_reducible refine (sameFloat_yes _ _ _ (by first | exact (Hid.out ‹Hid (can .f64 _ = can .f64 (widen y10))›).trans ((congrArg (can .f64) (widen_congr E10.out)).trans (Hid.out ‹Hid (can .f64 _ = can .f64 (widen y10'))›).symm) | exact (Hid.out ‹Hid (can .f64 _ = can .f64 (widen y11))›).trans ((congrArg (can .f64) (widen_congr E11.out)).trans (Hid.out ‹Hid (can .f64 _ = can .f64 (widen y11'))›).symm) | exact (Hid.out ‹Hid (can .f64 _ = can .f64 (widen y12))›).trans ((congrArg (can .f64) (widen_congr E12.out)).trans (Hid.out ‹Hid (can .f64 _ = can .f64 (widen y12'))›).symm))).mono ?_); rintro e w7 ⟨rfl, dq7, rfl⟩; skip)))
  go_ret
  first | exact ⟨rfl, F.below⟩ | exact ⟨rfl, below_drewN F.below _⟩
theorem invf_Pipe {w : World} {S : Nat → Prop} {us : List Value} (n0 : Nat) (x0 : Nat → CD) (n1 : Nat) (x1 : Nat → CD) (n2 : Nat) (x2 : Nat → CD) (z3 : Int) (c4 : CD) (c5 : CD) (c6 : CD) (c7 : CD) (c8 : CD) (b9 : Bool) (c10 : CD) (c11 : CD) (c12 : CD) (q4 : c4.flk = some .f32) (q5 : c5.flk = some .f32) (q6 : c6.flk = some .f32) (q7 : c7.flk = some .f32) (q8 : c8.flk = some .f32) (q10 : c10.flk = some .f32) (q11 : c11.flk = some .f32) (q12 : c12.flk = some .f32) (h : LayL w S (([(.sl 2 n0 x0), (.sl 2 n1 x1), (.sl 1 n2 x2), (.int .i64 z3), (c4), (c5), (c6), (c7), (c8), (.bool b9), (c10), (c11), (c12)] : List CD).map CD.cp) us) : ∃ (u0 : Value) (u1 : Value) (u2 : Value) (g4 : Nat) (g5 : Nat) (g6 : Nat) (g7 : Nat) (g8 : Nat) (g10 : Nat) (g11 : Nat) (g12 : Nat), u0.oneCell' = true ∧ u1.oneCell' = true ∧ u2.oneCell' = true ∧ us = [u0, u1, u2, .int .i64 z3, .float .f32 g4, .float .f32 g5, .float .f32 g6, .float .f32 g7, .float .f32 g8, .bool b9, .float .f32 g10, .float .f32 g11, .float .f32 g12] ∧ LayL w S (([(.sl 2 n0 x0), (.sl 2 n1 x1), (.sl 1 n2 x2), (.int .i64 z3), (c4), (c5), (c6), (c7), (c8), (.bool b9), (c10), (c11), (c12)] : List CD).map CD.cp) [u0, u1, u2, .int .i64 z3, .float .f32 g4, .float .f32 g5, .float .f32 g6, .float .f32 g7, .float .f32 g8, .bool b9, .float .f32 g10, .float .f32 g11, .float .f32 g12] := by
  have h0 := h
  simp only [List.map_cons, List.map_nil] at h
  obtain ⟨u0, us0, _, _, rfl, l0, hh0, _, _, _⟩ := h.inv
  obtain ⟨u1, us1, _, _, rfl, l1, hh1, _, _, _⟩ := hh0.inv
  obtain ⟨u2, us2, _, _, rfl, l2, hh2, _, _, _⟩ := hh1.inv
  obtain ⟨u3, us3, _, _, rfl, l3, hh3, _, _, _⟩ := hh2.inv
  obtain ⟨rfl, _⟩ := l3
  obtain ⟨u4, us4, _, _, rfl, l4, hh4, _, _, _⟩ := hh3.inv
  obtain ⟨g4, rfl⟩ := lay_fl q4 l4
  obtain ⟨u5, us5, _, _, rfl, l5, hh5, _, _, _⟩ := hh4.inv
  obtain ⟨g5, rfl⟩ := lay_fl q5 l5
  obtain ⟨u6, us6, _, _, rfl, l6, hh6, _, _, _⟩ := hh5.inv
  obtain ⟨g6, rfl⟩ := lay_fl q6 l6
  obtain ⟨u7, us7, _, _, rfl, l7, hh7, _, _, _⟩ := hh6.inv
  obtain ⟨g7, rfl⟩ := lay_fl q7 l7
  obtain ⟨u8, us8, _, _, rfl, l8, hh8, _, _, _⟩ := hh7.inv
  obtain ⟨g8, rfl⟩ := lay_fl q8 l8
  obtain ⟨u9, us9, _, _, rfl, l9, hh9, _, _, _⟩ := hh8.inv
  obtain rfl := l9
  obtain ⟨u10, us10, _, _, rfl, l10, hh10, _, _, _⟩ := hh9.inv
  obtain ⟨g10, rfl⟩ := lay_fl q10 l10
  obtain ⟨u11, us11, _, _, rfl, l11, hh11, _, _, _⟩ := hh10.inv
  obtain ⟨g11, rfl⟩ := lay_fl q11 l11
  obtain ⟨u12, us12, _, _, rfl, l12, hh12, _, _, _⟩ := hh11.inv
  obtain ⟨g12, rfl⟩ := lay_fl q12 l12
  obtain rfl := hh12.inv0
  exact ⟨u0, u1, u2, g4, g5, g6, g7, g8, g10, g11, g12, l0.one, l1.one, l2.one, rfl, h0⟩
set_option maxRecDepth 100000 in
set_option maxHeartbeats 4000000 in
theorem toU_Pipe (B : Nat) (cs : List CD) (vs : List Value) (w : World) (h : RdL w B cs vs) (hsh : ShOkL shPipe cs) (hz : szL cs ≤ 1048576) :
    Calls Tryd.prog 18 #[.agg vs.toArray] w (OutA' (cs.map CD.cp) w) := by
  obtain ⟨c0, cs, rfl, q0, hsh⟩ := hsh.inv
  obtain ⟨c1, cs, rfl, q1, hsh⟩ := hsh.inv
  obtain ⟨c2, cs, rfl, q2, hsh⟩ := hsh.inv
  obtain ⟨c3, cs, rfl, q3, hsh⟩ := hsh.inv
  obtain ⟨c4, cs, rfl, q4, hsh⟩ := hsh.inv
  obtain ⟨c5, cs, rfl, q5, hsh⟩ := hsh.inv
  obtain ⟨c6, cs, rfl, q6, hsh⟩ := hsh.inv
  obtain ⟨c7, cs, rfl, q7, hsh⟩ := hsh.inv
  obtain ⟨c8, cs, rfl, q8, hsh⟩ := hsh.inv
  obtain ⟨c9, cs, rfl, q9, hsh⟩ := hsh.inv
  obtain ⟨c10, cs, rfl, q10, hsh⟩ := hsh.inv
  obtain ⟨c11, cs, rfl, q11, hsh⟩ := hsh.inv
  obtain ⟨c12, cs, rfl, q12, hsh⟩ := hsh.inv
  obtain rfl := hsh.inv0
  obtain ⟨v0, vs, rfl, r0, h⟩ := h.inv
  obtain ⟨v1, vs, rfl, r1, h⟩ := h.inv
  obtain ⟨v2, vs, rfl, r2, h⟩ := h.inv
  obtain ⟨v3, vs, rfl, r3, h⟩ := h.inv
  obtain ⟨v4, vs, rfl, r4, h⟩ := h.inv
  obtain ⟨v5, vs, rfl, r5, h⟩ := h.inv
  obtain ⟨v6, vs, rfl, r6, h⟩ := h.inv
  obtain ⟨v7, vs, rfl, r7, h⟩ := h.inv
  obtain ⟨v8, vs, rfl, r8, h⟩ := h.inv
  obtain ⟨v9, vs, rfl, r9, h⟩ := h.inv
  obtain ⟨v10, vs, rfl, r10, h⟩ := h.inv
  obtain ⟨v11, vs, rfl, r11, h⟩ := h.inv
  obtain ⟨v12, vs, rfl, r12, h⟩ := h.inv
  obtain rfl := h.inv0
  obtain ⟨z3, rfl⟩ := q3
  obtain ⟨rfl, wf3⟩ := r3
  have q4 : c4.flk = some .f32 := q4
  obtain ⟨y4, rfl, f4, e4⟩ := r4.fl q4
  have q5 : c5.flk = some .f32 := q5
  obtain ⟨y5, rfl, f5, e5⟩ := r5.fl q5
  have q6 : c6.flk = some .f32 := q6
  obtain ⟨y6, rfl, f6, e6⟩ := r6.fl q6
  have q7 : c7.flk = some .f32 := q7
  obtain ⟨y7, rfl, f7, e7⟩ := r7.fl q7
  have q8 : c8.flk = some .f32 := q8
  obtain ⟨y8, rfl, f8, e8⟩ := r8.fl q8
  obtain ⟨b9, rfl⟩ := q9
  obtain rfl := r9
  have q10 : c10.flk = some .f32 := q10
  obtain ⟨y10, rfl, f10, e10⟩ := r10.fl q10
  have q11 : c11.flk = some .f32 := q11
  obtain ⟨y11, rfl, f11, e11⟩ := r11.fl q11
  have q12 : c12.flk = some .f32 := q12
  obtain ⟨y12, rfl, f12, e12⟩ := r12.fl q12
  have HZ := hid hz
  obtain ⟨n0, x0, rfl, q0⟩ := q0
  have H0 := hid (fun (w' : World) (hl : le w w') => toU_RingS B _ _ v0 w' (r0.le hl) q0 (szC_le HZ.out 0 rfl))
  obtain ⟨n1, x1, rfl, q1⟩ := q1
  have H1 := hid (fun (w' : World) (hl : le w w') => toU_RingS B _ _ v1 w' (r1.le hl) q1 (szC_le HZ.out 1 rfl))
  obtain ⟨n2, x2, rfl, q2⟩ := q2
  have H2 := hid (fun (w' : World) (hl : le w w') => toU_Float32S B _ _ v2 w' (r2.le hl) q2 (szC_le HZ.out 2 rfl))
  have F := (((Frg.nil w).box 52 #[v0, v1, v2, .int .i64 z3, .float .f32 y4, .float .f32 y5, .float .f32 y6, .float .f32 y7, .float .f32 y8, .bool b9, .float .f32 y10, .float .f32 y11, .float .f32 y12]).box 57 #[.slice none 0 0, .slice none 0 0, .slice none 0 0, .int .i64 0, .float .f32 0, .float .f32 0, .float .f32 0, .float .f32 0, .float .f32 0, .bool false, .float .f32 0, .float .f32 0, .float .f32 0]).box 57 #[.slice none 0 0, .slice none 0 0, .slice none 0 0, .int .i64 0, .float .f32 0, .float .f32 0, .float .f32 0, .float .f32 0, .float .f32 0, .bool false, .float .f32 0, .float .f32 0, .float .f32 0]
  simp only [World.size_alloc] at F
  clear hz HZ
  go_enter Tryd.func18, Tryd.ntmps18
  go_wp2_with (first | ((with_reducible refine listN F ?_); clear F; intro wN F) | ((with_reducible refine at_load rfl ?_); first | (with_reducible refine wpList_load1 F rfl rfl rfl (by first | exact m0 | exact m1 | exact m2 | exact m3) (f := 0) (v := v0) rfl ukindRingSL ?_) | (with_reducible refine wpList_load1 F rfl rfl rfl (by first | exact m0 | exact m1 | exact m2 | exact m3) (f := 1) (v := v1) rfl ukindRingSL ?_) | (with_reducible refine wpList_load1 F rfl rfl rfl (by first | exact m0 | exact m1 | exact m2 | exact m3) (f := 2) (v := v2) rfl ukindFloat32S ?_) | (with_reducible refine wpList_loadGP F rfl rfl rfl (by first | exact m0 | exact m1 | exact m2 | exact m3) Tryd.underlying29 rfl [.int .i64 z3, .float .f32 y4, .float .f32 y5, .float .f32 y6, .float .f32 y7, .float .f32 y8] (partPipe_End (v0) (v1) (v2) (.int .i64 z3) (.float .f32 y4) (.float .f32 y5) (.float .f32 y6) (.float .f32 y7) (.float .f32 y8) (.bool b9) (.float .f32 y10) (.float .f32 y11) (.float .f32 y12)) uinfoFilterL rfl ?_) | (with_reducible refine wpList_load1 F rfl rfl rfl (by first | exact m0 | exact m1 | exact m2 | exact m3) (f := 9) (v := .bool b9) rfl ukindBool ?_) | (with_reducible refine wpList_load1 F rfl rfl rfl (by first | exact m0 | exact m1 | exact m2 | exact m3) (f := 10) (v := .float .f32 y10) rfl ukindFloat32 ?_) | (with_reducible refine wpList_load1 F rfl rfl rfl (by first | exact m0 | exact m1 | exact m2 | exact m3) (f := 11) (v := .float .f32 y11) rfl ukindFloat32 ?_) | (with_reducible refine wpList_load1 F rfl rfl rfl (by first | exact m0 | exact m1 | exact m2 | exact m3) (f := 12) (v := .float .f32 y12) rfl ukindFloat32 ?_)) | (go_at_call 38; ((with_reducible refine (H0.out _ F.below).mono ?_); rintro e w1 ⟨u0, rfl, ho, hl⟩; have O0 := hid ho.one; replace F := F.lay1 hl (LayL.cons ho (LayL.nil _ (fun _ => False)) (fun _ h => h) (fun _ h => h.elim) (fun _ _ h => h)); clear ho hl)) | (with_reducible refine stop_store rfl ?_))
  show wpList _ _ _ _ _ _
  refine wpList_store1 rfl rfl (f := 0) rfl rfl (F.row m1) uinfo1RingSI (by simp) O0.out #[u0, .slice none 0 0, .slice none 0 0, .int .i64 0, .float .f32 0, .float .f32 0, .float .f32 0, .float .f32 0, .float .f32 0, .bool false, .float .f32 0, .float .f32 0, .float .f32 0] rfl (fun w2 K => ?_)
  replace F := F.wrI1 (cs' := #[u0, .slice none 0 0, .slice none 0 0, .int .i64 0, .float .f32 0, .float .f32 0, .float .f32 0, .float .f32 0, .float .f32 0, .bool false, .float .f32 0, .float .f32 0, .float .f32 0]) K
  clear K
  go_wp2_with (first | ((with_reducible refine listN F ?_); clear F; intro wN F) | ((with_reducible refine at_load rfl ?_); first | (with_reducible refine wpList_load1 F rfl rfl rfl (by first | exact m0 | exact m1 | exact m2 | exact m3 | exact m4) (f := 0) (v := v0) rfl ukindRingSL ?_) | (with_reducible refine wpList_load1 F rfl rfl rfl (by first | exact m0 | exact m1 | exact m2 | exact m3 | exact m4) (f := 1) (v := v1) rfl ukindRingSL ?_) | (with_reducible refine wpList_load1 F rfl rfl rfl (by first | exact m0 | exact m1 | exact m2 | exact m3 | exact m4) (f := 2) (v := v2) rfl ukindFloat32S ?_) | (with_reducible refine wpList_loadGP F rfl rfl rfl (by first | exact m0 | exact m1 | exact m2 | exact m3 | exact m4) Tryd.underlying29 rfl [.int .i64 z3, .float .f32 y4, .float .f32 y5, .float .f32 y6, .float .f32 y7, .float .f32 y8] (partPipe_End (v0) (v1) (v2) (.int .i64 z3) (.float .f32 y4) (.float .f32 y5) (.float .f32 y6) (.float .f32 y7) (.float .f32 y8) (.bool b9) (.float .f32 y10) (.float .f32 y11) (.float .f32 y12)) uinfoFilterL rfl ?_) | (with_reducible refine wpList_load1 F rfl rfl rfl (by first | exact m0 | exact m1 | exact m2 | exact m3 | exact m4) (f := 9) (v := .bool b9) rfl ukindBool ?_) | (with_reducible refine wpList_load1 F rfl rfl rfl (by first | exact m0 | exact m1 | exact m2 | exact m3 | exact m4) (f := 10) (v := .float .f32 y10) rfl ukindFloat32 ?_) | (with_reducible refine wpList_load1 F rfl rfl rfl (by first | exact m0 | exact m1 | exact m2 | exact m3 | exact m4) (f := 11) (v := .float .f32 y11) rfl ukindFloat32 ?_) | (with_reducible refine wpList_load1 F rfl rfl rfl (by first | exact m0 | exact m1 | exact m2 | exact m3 | exact m4) (f := 12) (v := .float .f32 y12) rfl ukindFloat32 ?_)) | (go_at_call 38; ((with_reducible refine (H1.out _ F.below).mono ?_); rintro e w1 ⟨u1, rfl, ho, hl⟩; have O1 := hid ho.one; replace F := F.lay1 hl (LayL.cons ho (LayL.nil _ (fun _ => False)) (fun _ h => h) (fun _ h => h.elim) (fun _ _ h => h)); clear ho hl)) | (with_reducible refine stop_store rfl ?_))
  show wpList _ _ _ _ _ _
  refine wpList_store1 rfl rfl (f := 1) rfl rfl (F.row m2) uinfo1RingSI (by simp) O1.out #[u0, u1, .slice none 0 0, .int .i64 0, .float .f32 0, .float .f32 0, .float .f32 0, .float .f32 0, .float .f32 0, .bool false, .float .f32 0, .float .f32 0, .float .f32 0] rfl (fun w2 K => ?_)
  replace F := F.wrI2 (cs' := #[u0, u1, .slice none 0 0, .int .i64 0, .float .f32 0, .float .f32 0, .float .f32 0, .float .f32 0, .float .f32 0, .bool false, .float .f32 0, .float .f32 0, .float .f32 0]) K
  clear K
  go_wp2_with (first | ((with_reducible refine listN F ?_); clear F; intro wN F) | ((with_reducible refine at_load rfl ?_); first | (with_reducible refine wpList_load1 F rfl rfl rfl (by first | exact m0 | exact m1 | exact m2 | exact m3 | exact m4 | exact m5) (f := 0) (v := v0) rfl ukindRingSL ?_) | (with_reducible refine wpList_load1 F rfl rfl rfl (by first | exact m0 | exact m1 | exact m2 | exact m3 | exact m4 | exact m5) (f := 1) (v := v1) rfl ukindRingSL ?_) | (with_reducible refine wpList_load1 F rfl rfl rfl (by first | exact m0 | exact m1 | exact m2 | exact m3 | exact m4 | exact m5) (f := 2) (v := v2) rfl ukindFloat32S ?_) | (with_reducible refine wpList_loadGP F rfl rfl rfl (by first | exact m0 | exact m1 | exact m2 | exact m3 | exact m4 | exact m5) Tryd.underlying29 rfl [.int .i64 z3, .float .f32 y4, .float .f32 y5, .float .f32 y6, .float .f32 y7, .float .f32 y8] (partPipe_End (v0) (v1) (v2) (.int .i64 z3) (.float .f32 y4) (.float .f32 y5) (.float .f32 y6) (.float .f32 y7) (.float .f32 y8) (.bool b9) (.float .f32 y10) (.float .f32 y11) (.float .f32 y12)) uinfoFilterL rfl ?_) | (with_reducible refine wpList_load1 F rfl rfl rfl (by first | exact m0 | exact m1 | exact m2 | exact m3 | exact m4 | exact m5) (f := 9) (v := .bool b9) rfl ukindBool ?_) | (with_reducible refine wpList_load1 F rfl rfl rfl (by first | exact m0 | exact m1 | exact m2 | exact m3 | exact m4 | exact m5) (f := 10) (v := .float .f32 y10) rfl ukindFloat32 ?_) | (with_reducible refine wpList_load1 F rfl rfl rfl (by first | exact m0 | exact m1 | exact m2 | exact m3 | exact m4 | exact m5) (f := 11) (v := .float .f32 y11) rfl ukindFloat32 ?_) | (with_reducible refine wpList_load1 F rfl rfl rfl (by first | exact m0 | exact m1 | exact m2 | exact m3 | exact m4 | exact m5) (f := 12) (v := .float .f32 y12) rfl ukindFloat32 ?_)) | (go_at_call 39; ((with_reducible refine (H2.out _ F.below).mono ?_); rintro e w1 ⟨u2, rfl, ho, hl⟩; have O2 := hid ho.one; replace F := F.lay1 hl (LayL.cons ho (LayL.nil _ (fun _ => False)) (fun _ h => h) (fun _ h => h.elim) (fun _ _ h => h)); clear ho hl)) | (with_reducible refine stop_store rfl ?_))
  show wpList _ _ _ _ _ _
  refine wpList_store1 rfl rfl (f := 2) rfl rfl (F.row m3) uinfo1Float32S (by simp) O2.out #[u0, u1, u2, .int .i64 0, .float .f32 0, .float .f32 0, .float .f32 0, .float .f32 0, .float .f32 0, .bool false, .float .f32 0, .float .f32 0, .float .f32 0] rfl (fun w2 K => ?_)
  replace F := F.wrI3 (cs' := #[u0, u1, u2, .int .i64 0, .float .f32 0, .float .f32 0, .float .f32 0, .float .f32 0, .float .f32 0, .bool false, .float .f32 0, .float .f32 0, .float .f32 0]) K
  clear K
  go_wp2_with (first | ((with_reducible refine listN F ?_); clear F; intro wN F) | ((with_reducible refine at_load rfl ?_); first | (with_reducible refine wpList_load1 F rfl rfl rfl (by first | exact m0 | exact m1 | exact m2 | exact m3 | exact m4 | exact m5 | exact m6) (f := 0) (v := v0) rfl ukindRingSL ?_) | (with_reducible refine wpList_load1 F rfl rfl rfl (by first | exact m0 | exact m1 | exact m2 | exact m3 | exact m4 | exact m5 | exact m6) (f := 1) (v := v1) rfl ukindRingSL ?_) | (with_reducible refine wpList_load1 F rfl rfl rfl (by first | exact m0 | exact m1 | exact m2 | exact m3 | exact m4 | exact m5 | exact m6) (f := 2) (v := v2) rfl ukindFloat32S ?_) | (with_reducible refine wpList_loadGP F rfl rfl rfl (by first | exact m0 | exact m1 | exact m2 | exact m3 | exact m4 | exact m5 | exact m6) Tryd.underlying29 rfl [.int .i64 z3, .float .f32 y4, .float .f32 y5, .float .f32 y6, .float .f32 y7, .float .f32 y8] (partPipe_End (v0) (v1) (v2) (.int .i64 z3) (.float .f32 y4) (.float .f32 y5) (.float .f32 y6) (.float .f32 y7) (.float .f32 y8) (.bool b9) (.float .f32 y10) (.float .f32 y11) (.float .f32 y12)) uinfoFilterL rfl ?_) | (with_reducible refine wpList_load1 F rfl rfl rfl (by first | exact m0 | exact m1 | exact m2 | exact m3 | exact m4 | exact m5 | exact m6) (f := 9) (v := .bool b9) rfl ukindBool ?_) | (with_reducible refine wpList_load1 F rfl rfl rfl (by first | exact m0 | exact m1 | exact m2 | exact m3 | exact m4 | exact m5 | exact m6) (f := 10) (v := .float .f32 y10) rfl ukindFloat32 ?_) | (with_reducible refine wpList_load1 F rfl rfl rfl (by first | exact m0 | exact m1 | exact m2 | exact m3 | exact m4 | exact m5 | exact m6) (f := 11) (v := .float .f32 y11) rfl ukindFloat32 ?_) | (with_reducible refine wpList_load1 F rfl rfl rfl (by first | exact m0 | exact m1 | exact m2 | exact m3 | exact m4 | exact m5 | exact m6) (f := 12) (v := .float .f32 y12) rfl ukindFloat32 ?_)) | (go_at_call 25; ((with_reducible refine (toFil_any _ _ _ _ _ _ _).mono ?_); rintro e w1 ⟨rfl, hl⟩; replace F := F.le hl; clear hl)) | (with_reducible refine stop_store rfl ?_))
  show wpList _ _ _ _ _ _
  refine wpList_storeP rfl rfl rfl (f := 3) (cells := [.int .i64 z3, .float .f32 y4, .float .f32 y5, .float .f32 y6, .float .f32 y7, .float .f32 y8]) rfl (F.row m3) uinfoFilterI (by simp) (by (simp only [List.all_toArray', List.all_cons, List.all_nil, Bool.and_true, Bool.true_and]) <;> rfl) (fun w2 K => ?_)
  replace F := F.wrI3 (cs' := #[u0, u1, u2, .int .i64 z3, .float .f32 y4, .float .f32 y5, .float .f32 y6, .float .f32 y7, .float .f32 y8, .bool false, .float .f32 0, .float .f32 0, .float .f32 0]) K
  clear K
  go_wp2_with (first | ((with_reducible refine listN F ?_); clear F; intro wN F) | ((with_reducible refine at_load rfl ?_); first | (with_reducible refine wpList_load1 F rfl rfl rfl (by first | exact m0 | exact m1 | exact m2 | exact m3 | exact m4 | exact m5 | exact m6) (f := 0) (v := v0) rfl ukindRingSL ?_) | (with_reducible refine wpList_load1 F rfl rfl rfl (by first | exact m0 | exact m1 | exact m2 | exact m3 | exact m4 | exact m5 | exact m6) (f := 1) (v := v1) rfl ukindRingSL ?_) | (with_reducible refine wpList_load1 F rfl rfl rfl (by first | exact m0 | exact m1 | exact m2 | exact m3 | exact m4 | exact m5 | exact m6) (f := 2) (v := v2) rfl ukindFloat32S ?_) | (with_reducible refine wpList_loadGP F rfl rfl rfl (by first | exact m0 | exact m1 | exact m2 | exact m3 | exact m4 | exact m5 | exact m6) Tryd.underlying29 rfl [.int .i64 z3, .float .f32 y4, .float .f32 y5, .float .f32 y6, .float .f32 y7, .float .f32 y8] (partPipe_End (v0) (v1) (v2) (.int .i64 z3) (.float .f32 y4) (.float .f32 y5) (.float .f32 y6) (.float .f32 y7) (.float .f32 y8) (.bool b9) (.float .f32 y10) (.float .f32 y11) (.float .f32 y12)) uinfoFilterL rfl ?_) | (with_reducible refine wpList_load1 F rfl rfl rfl (by first | exact m0 | exact m1 | exact m2 | exact m3 | exact m4 | exact m5 | exact m6) (f := 9) (v := .bool b9) rfl ukindBool ?_) | (with_reducible refine wpList_load1 F rfl rfl rfl (by first | exact m0 | exact m1 | exact m2 | exact m3 | exact m4 | exact m5 | exact m6) (f := 10) (v := .float .f32 y10) rfl ukindFloat32 ?_) | (with_reducible refine wpList_load1 F rfl rfl rfl (by first | exact m0 | exact m1 | exact m2 | exact m3 | exact m4 | exact m5 | exact m6) (f := 11) (v := .float .f32 y11) rfl ukindFloat32 ?_) | (with_reducible refine wpList_load1 F rfl rfl rfl (by first | exact m0 | exact m1 | exact m2 | exact m3 | exact m4 | exact m5 | exact m6) (f := 12) (v := .float .f32 y12) rfl ukindFloat32 ?_)) | (with_reducible refine stop_store rfl ?_))
  show wpList _ _ _ _ _ _
  refine wpList_store1 rfl rfl (f := 9) rfl rfl (F.row m3) uinfo1Bool (by simp) rfl #[u0, u1, u2, .int .i64 z3, .float .f32 y4, .float .f32 y5, .float .f32 y6, .float .f32 y7, .float .f32 y8, .bool b9, .float .f32 0, .float .f32 0, .float .f32 0] rfl (fun w2 K => ?_)
  replace F := F.wrI3 (cs' := #[u0, u1, u2, .int .i64 z3, .float .f32 y4, .float .f32 y5, .float .f32 y6, .float .f32 y7, .float .f32 y8, .bool b9, .float .f32 0, .float .f32 0, .float .f32 0]) K
  clear K
  go_wp2_with (first | ((with_reducible refine listN F ?_); clear F; intro wN F) | ((with_reducible refine at_load rfl ?_); first | (with_reducible refine wpList_load1 F rfl rfl rfl (by first | exact m0 | exact m1 | exact m2 | exact m3 | exact m4 | exact m5 | exact m6) (f := 0) (v := v0) rfl ukindRingSL ?_) | (with_reducible refine wpList_load1 F rfl rfl rfl (by first | exact m0 | exact m1 | exact m2 | exact m3 | exact m4 | exact m5 | exact m6) (f := 1) (v := v1) rfl ukindRingSL ?_) | (with_reducible refine wpList_load1 F rfl rfl rfl (by first | exact m0 | exact m1 | exact m2 | exact m3 | exact m4 | exact m5 | exact m6) (f := 2) (v := v2) rfl ukindFloat32S ?_) | (with_reducible refine wpList_loadGP F rfl rfl rfl (by first | exact m0 | exact m1 | exact m2 | exact m3 | exact m4 | exact m5 | exact m6) Tryd.underlying29 rfl [.int .i64 z3, .float .f32 y4, .float .f32 y5, .float .f32 y6, .float .f32 y7, .float .f32 y8] (partPipe_End (v0) (v1) (v2) (.int .i64 z3) (.float .f32 y4) (.float .f32 y5) (.float .f32 y6) (.float .f32 y7) (.float .f32 y8) (.bool b9) (.float .f32 y10) (.float .f32 y11) (.float .f32 y12)) uinfoFilterL rfl ?_) | (with_reducible refine wpList_load1 F rfl rfl rfl (by first | exact m0 | exact m1 | exact m2 | exact m3 | exact m4 | exact m5 | exact m6) (f := 9) (v := .bool b9) rfl ukindBool ?_) | (with_reducible refine wpList_load1 F rfl rfl rfl (by first | exact m0 | exact m1 | exact m2 | exact m3 | exact m4 | exact m5 | exact m6) (f := 10) (v := .float .f32 y10) rfl ukindFloat32 ?_) | (with_reducible refine wpList_load1 F rfl rfl rfl (by first | exact m0 | exact m1 | exact m2 | exact m3 | exact m4 | exact m5 | exact m6) (f := 11) (v := .float .f32 y11) rfl ukindFloat32 ?_) | (with_reducible refine wpList_load1 F rfl rfl rfl (by first | exact m0 | exact m1 | exact m2 | exact m3 | exact m4 | exact m5 | exact m6) (f := 12) (v := .float .f32 y12) rfl ukindFloat32 ?_)) | (with_reducible refine stop_store rfl ?_))
  show wpList _ _ _ _ _ _
  refine wpList_store1 rfl rfl (f := 10) rfl rfl (F.row m3) uinfo1Float32 (by simp) rfl #[u0, u1, u2, .int .i64 z3, .float .f32 y4, .float .f32 y5, .float .f32 y6, .float .f32 y7, .float .f32 y8, .bool b9, .float .f32 y10, .float .f32 0, .float .f32 0] rfl (fun w2 K => ?_)
  replace F := F.wrI3 (cs' := #[u0, u1, u2, .int .i64 z3, .float .f32 y4, .float .f32 y5, .float .f32 y6, .float .f32 y7, .float .f32 y8, .bool b9, .float .f32 y10, .float .f32 0, .float .f32 0]) K
  clear K
  go_wp2_with (first | ((with_reducible refine listN F ?_); clear F; intro wN F) | ((with_reducible refine at_load rfl ?_); first | (with_reducible refine wpList_load1 F rfl rfl rfl (by first | exact m0 | exact m1 | exact m2 | exact m3 | exact m4 | exact m5 | exact m6) (f := 0) (v := v0) rfl ukindRingSL ?_) | (with_reducible refine wpList_load1 F rfl rfl rfl (by first | exact m0 | exact m1 | exact m2 | exact m3 | exact m4 | exact m5 | exact m6) (f := 1) (v := v1) rfl ukindRingSL ?_) | (with_reducible refine wpList_load1 F rfl rfl rfl (by first | exact m0 | exact m1 | exact m2 | exact m3 | exact m4 | exact m5 | exact m6) (f := 2) (v := v2) rfl ukindFloat32S ?_) | (with_reducible refine wpList_loadGP F rfl rfl rfl (by first | exact m0 | exact m1 | exact m2 | exact m3 | exact m4 | exact m5 | exact m6) Tryd.underlying29 rfl [.int .i64 z3, .float .f32 y4, .float .f32 y5, .float .f32 y6, .float .f32 y7, .float .f32 y8] (partPipe_End (v0) (v1) (v2) (.int .i64 z3) (.float .f32 y4) (.float .f32 y5) (.float .f32 y6) (.float .f32 y7) (.float .f32 y8) (.bool b9) (.float .f32 y10) (.float .f32 y11) (.float .f32 y12)) uinfoFilterL rfl ?_) | (with_reducible refine wpList_load1 F rfl rfl rfl (by first | exact m0 | exact m1 | exact m2 | exact m3 | exact m4 | exact m5 | exact m6) (f := 9) (v := .bool b9) rfl ukindBool ?_) | (with_reducible refine wpList_load1 F rfl rfl rfl (by first | exact m0 | exact m1 | exact m2 | exact m3 | exact m4 | exact m5 | exact m6) (f := 10) (v := .float .f32 y10) rfl ukindFloat32 ?_) | (with_reducible refine wpList_load1 F rfl rfl rfl (by first | exact m0 | exact m1 | exact m2 | exact m3 | exact m4 | exact m5 | exact m6) (f := 11) (v := .float .f32 y11) rfl ukindFloat32 ?_) | (with_reducible refine wpList_load1 F rfl rfl rfl (by first | exact m0 | exact m1 | exact m2 | exact m3 | exact m4 | exact m5 | exact m6) (f := 12) (v := .float .f32 y12) rfl ukindFloat32 ?_)) | (with_reducible refine stop_store rfl ?_))
  show wpList _ _ _ _ _ _
  refine wpList_store1 rfl rfl (f := 11) rfl rfl (F.row m3) uinfo1Float32 (by simp) rfl #[u0, u1, u2, .int .i64 z3, .float .f32 y4, .float .f32 y5, .float .f32 y6, .float .f32 y7, .float .f32 y8, .bool b9, .float .f32 y10, .float .f32 y11, .float .f32 0] rfl (fun w2 K => ?_)
  replace F := F.wrI3 (cs' := #[u0, u1, u2, .int .i64 z3, .float .f32 y4, .float .f32 y5, .float .f32 y6, .float .f32 y7, .float .f32 y8, .bool b9, .float .f32 y10, .float .f32 y11, .float .f32 0]) K
  clear K
  go_wp2_with (first | ((with_reducible refine listN F ?_); clear F; intro wN F) | ((with_reducible refine at_load rfl ?_); first | (with_reducible refine wpList_load1 F rfl rfl rfl (by first | exact m0 | exact m1 | exact m2 | exact m3 | exact m4 | exact m5 | exact m6) (f := 0) (v := v0) rfl ukindRingSL ?_) | (with_reducible refine wpList_load1 F rfl rfl rfl (by first | exact m0 | exact m1 | exact m2 | exact m3 | exact m4 | exact m5 | exact m6) (f := 1) (v := v1) rfl ukindRingSL ?_) | (with_reducible refine wpList_load1 F rfl rfl rfl (by first | exact m0 | exact m1 | exact m2 | exact m3 | exact m4 | exact m5 | exact m6) (f := 2) (v := v2) rfl ukindFloat32S ?_) | (with_reducible refine wpList_loadGP F rfl rfl rfl (by first | exact m0 | exact m1 | exact m2 | exact m3 | exact m4 | exact m5 | exact m6) Tryd.underlying29 rfl [.int .i64 z3, .float .f32 y4, .float .f32 y5, .float .f32 y6, .float .f32 y7, .float .f32 y8] (partPipe_End (v0) (v1) (v2) (.int .i64 z3) (.float .f32 y4) (.float .f32 y5) (.float .f32 y6) (.float .f32 y7) (.float .f32 y8) (.bool b9) (.float .f32 y10) (.float .f32 y11) (.float .f32 y12)) uinfoFilterL rfl ?_) | (with_reducible refine wpList_load1 F rfl rfl rfl (by first | exact m0 | exact m1 | exact m2 | exact m3 | exact m4 | exact m5 | exact m6) (f := 9) (v := .bool b9) rfl ukindBool ?_) | (with_reducible refine wpList_load1 F rfl rfl rfl (by first | exact m0 | exact m1 | exact m2 | exact m3 | exact m4 | exact m5 | exact m6) (f := 10) (v := .float .f32 y10) rfl ukindFloat32 ?_) | (with_reducible refine wpList_load1 F rfl rfl rfl (by first | exact m0 | exact m1 | exact m2 | exact m3 | exact m4 | exact m5 | exact m6) (f := 11) (v := .float .f32 y11) rfl ukindFloat32 ?_) | (with_reducible refine wpList_load1 F rfl rfl rfl (by first | exact m0 | exact m1 | exact m2 | exact m3 | exact m4 | exact m5 | exact m6) (f := 12) (v := .float .f32 y12) rfl ukindFloat32 ?_)) | (with_reducible refine stop_store rfl ?_))
  show wpList _ _ _ _ _ _
  refine wpList_store1 rfl rfl (f := 12) rfl rfl (F.row m3) uinfo1Float32 (by simp) rfl #[u0, u1, u2, .int .i64 z3, .float .f32 y4, .float .f32 y5, .float .f32 y6, .float .f32 y7, .float .f32 y8, .bool b9, .float .f32 y10, .float .f32 y11, .float .f32 y12] rfl (fun w2 K => ?_)
  replace F := F.wrI3 (cs' := #[u0, u1, u2, .int .i64 z3, .float .f32 y4, .float .f32 y5, .float .f32 y6, .float .f32 y7, .float .f32 y8, .bool b9, .float .f32 y10, .float .f32 y11, .float .f32 y12]) K
  clear K
  go_wp2_with (first | ((with_reducible refine listN F ?_); clear F; intro wN F) | ((with_reducible refine at_load rfl ?_); (with_reducible refine wpList_loadG F rfl rfl rfl (by first | exact m0 | exact m1 | exact m2 | exact m3) Tryd.underlying57 rfl uinfoPipeI rfl ?_)) | (with_reducible refine stop_store rfl ?_))
  show wpList _ _ _ _ _ _
  refine wpList_storeD rfl rfl rfl (cells := #[u0, u1, u2, .int .i64 z3, .float .f32 y4, .float .f32 y5, .float .f32 y6, .float .f32 y7, .float .f32 y8, .bool b9, .float .f32 y10, .float .f32 y11, .float .f32 y12]) rfl (F.row m4) uinfoPipeI rfl (by (simp only [List.all_toArray', List.all_cons, List.all_nil, Bool.and_true, Bool.true_and, O0.out, O1.out, O2.out]) <;> rfl) (fun w6 K => ?_)
  have R := hid K.row
  replace F := F.wrI4 K
  have E0 := Eaten.start F
  replace E0 := Eaten.leaf (c := CD.cp c12) (v := .float .f32 y12) E0 (r12.leafLay (flk_ne q12))
  replace E0 := Eaten.leaf (c := CD.cp c11) (v := .float .f32 y11) E0 (r11.leafLay (flk_ne q11))
  replace E0 := Eaten.leaf (c := CD.cp c10) (v := .float .f32 y10) E0 (r10.leafLay (flk_ne q10))
  replace E0 := Eaten.leaf (c := .bool b9) (v := .bool b9) E0 (show CD.Lay _ _ _ _ from rfl)
  replace E0 := Eaten.leaf (c := CD.cp c8) (v := .float .f32 y8) E0 (r8.leafLay (flk_ne q8))
  replace E0 := Eaten.leaf (c := CD.cp c7) (v := .float .f32 y7) E0 (r7.leafLay (flk_ne q7))
  replace E0 := Eaten.leaf (c := CD.cp c6) (v := .float .f32 y6) E0 (r6.leafLay (flk_ne q6))
  replace E0 := Eaten.leaf (c := CD.cp c5) (v := .float .f32 y5) E0 (r5.leafLay (flk_ne q5))
  replace E0 := Eaten.leaf (c := CD.cp c4) (v := .float .f32 y4) E0 (r4.leafLay (flk_ne q4))
  replace E0 := Eaten.leaf (c := .int .i64 z3) (v := .int .i64 z3) E0 (show CD.Lay _ _ _ _ from ⟨rfl, wf3⟩)
  replace E0 := Eaten.eat F E0
  replace F := F.tl
  replace E0 := Eaten.eat F E0
  replace F := F.tl
  replace E0 := Eaten.eat F E0
  replace F := F.tl
  have L := hid (show LayL _ _ _ _ ∧ le w _ from ⟨E0.fin, F.below⟩)
  clear K F E0
  go_wp2
  exact bodyPost_ret (results_row1 rfl _ _ _ _ _ rfl R.out Tryd.underlying57 rfl uinfoPipeI) rfl ⟨[u0, u1, u2, .int .i64 z3, .float .f32 y4, .float .f32 y5, .float .f32 y6, .float .f32 y7, .float .f32 y8, .bool b9, .float .f32 y10, .float .f32 y11, .float .f32 y12], rfl, L.out.1, L.out.2⟩
end Go.Proofs.YtjihkfemejhllaaDoor

/- strconv.FormatInt at base 10 by its contracts. -/
namespace Go.Fk
open Go Go.RowKit
/-- A natural number in decimal. -/
def decT (n : Nat) : ByteArray := ⟨(Lib.decDigits n).toArray⟩
end Go.Fk
namespace Go.Proofs.YtjihkfemejhllaaDoor
open Go.Shelf Go.RowKit Go.Fk
def renI : Go.Shelf.Ren := ⟨fun | 173 => 87 | 246 => 95 | 283 => 96 | 284 => 97 | 285 => 98 | 286 => 99 | 129 => 101 | 317 => 100 | 318 => 102 | 319 => 103 | 320 => 104 | 337 => 105 | 338 => 106 | n => n, fun | 2 => 2 | 3 => 3 | 9 => 9 | 4 => 4 | 171 => 152 | 0 => 0 | 53 => 153 | 37 => 105 | 5 => 5 | 173 => 156 | 212 => 160 | 51 => 138 | 20 => 20 | 213 => 161 | 46 => 163 | 232 => 166 | 233 => 167 | n => n, fun | 17 => 2 | 18 => 3 | 19 => 4 | n => n⟩
theorem laysMI : Go.Proofs.LaysM.n173 Tryd.prog renI := {
  mixed := by kernel_rfl
  f129 := Tryd.func101.trans (congrArg some (by kernel_rfl))
  f173 := Tryd.func87.trans (congrArg some (by kernel_rfl))
  f246 := Tryd.func95.trans (congrArg some (by kernel_rfl))
  f283 := Tryd.func96.trans (congrArg some (by kernel_rfl))
  f284 := Tryd.func97.trans (congrArg some (by kernel_rfl))
  f285 := Tryd.func98.trans (congrArg some (by kernel_rfl))
  f286 := Tryd.func99.trans (congrArg some (by kernel_rfl))
  f317 := Tryd.func100.trans (congrArg some (by kernel_rfl))
  f318 := Tryd.func102.trans (congrArg some (by kernel_rfl))
  f319 := Tryd.func103.trans (congrArg some (by kernel_rfl))
  f320 := Tryd.func104.trans (congrArg some (by kernel_rfl))
  f337 := Tryd.func105.trans (congrArg some (by kernel_rfl))
  f338 := Tryd.func106.trans (congrArg some (by kernel_rfl))
  t0 := Tryd.underlying0
  a0 := Tryd.isAgg0
  z0 := Tryd.sizeOf0
  v0 := Tryd.zeroValue0
  t2 := Tryd.underlying2
  a2 := Tryd.isAgg2
  z2 := Tryd.sizeOf2
  v2 := Tryd.zeroValue2
  t3 := Tryd.underlying3
  a3 := Tryd.isAgg3
  z3 := Tryd.sizeOf3
  v3 := Tryd.zeroValue3
  t4 := Tryd.underlying4
  a4 := Tryd.isAgg4
  z4 := Tryd.sizeOf4
  v4 := Tryd.zeroValue4
  t5 := Tryd.underlying5
  a5 := Tryd.isAgg5
  z5 := Tryd.sizeOf5
  v5 := Tryd.zeroValue5
  t9 := Tryd.underlying9
  a9 := Tryd.isAgg9
  z9 := Tryd.sizeOf9
  v9 := Tryd.zeroValue9
  t20 := Tryd.underlying20
  a20 := Tryd.isAgg20
  z20 := Tryd.sizeOf20
  v20 := Tryd.zeroValue20
  t37 := Tryd.underlying105
  a37 := Tryd.isAgg105
  z37 := Tryd.sizeOf105
  v37 := Tryd.zeroValue105
  t46 := Tryd.underlying163
  a46 := Tryd.isAgg163
  z46 := Tryd.sizeOf163
  v46 := Tryd.zeroValue163
  t51 := Tryd.underlying138
  a51 := Tryd.isAgg138
  z51 := Tryd.sizeOf138
  v51 := Tryd.zeroValue138
  t53 := Tryd.underlying153
  a53 := Tryd.isAgg153
  z53 := Tryd.sizeOf153
  v53 := Tryd.zeroValue153
  t171 := Tryd.underlying152
  a171 := Tryd.isAgg152
  z171 := Tryd.sizeOf152
  v171 := Tryd.zeroValue152
  t173 := Tryd.underlying156
  a173 := Tryd.isAgg156
  z173 := Tryd.sizeOf156
  v173 := Tryd.zeroValue156
  t212 := Tryd.underlying160
  a212 := Tryd.isAgg160
  z212 := Tryd.sizeOf160
  v212 := Tryd.zeroValue160
  t213 := Tryd.underlying161
  a213 := Tryd.isAgg161
  z213 := Tryd.sizeOf161
  t232 := Tryd.underlying166
  a232 := Tryd.isAgg166
  z232 := Tryd.sizeOf166
  v232 := Tryd.zeroValue166
  t233 := Tryd.underlying167
  a233 := Tryd.isAgg167
  z233 := Tryd.sizeOf167
  v233 := Tryd.zeroValue167
  g17 := by kernel_rfl
  g18 := by kernel_rfl
  g19 := by kernel_rfl
  i0 := by kernel_rfl
  i2 := by kernel_rfl
  i3 := by kernel_rfl
  i4 := by kernel_rfl
  i5 := by kernel_rfl
  i9 := by kernel_rfl
  i20 := by kernel_rfl
  i37 := by kernel_rfl
  i46 := by kernel_rfl
  i51 := by kernel_rfl
  i53 := by kernel_rfl
  i171 := by kernel_rfl
  i173 := by kernel_rfl
  i212 := by kernel_rfl
  i232 := by kernel_rfl
  i233 := by kernel_rfl
  m17 := by kernel_rfl
  m18 := by kernel_rfl
  m19 := by kernel_rfl }
theorem laysI : Go.Proofs.Lays.n173 Tryd.prog renI := {
  mixed := by kernel_rfl
  f129 := Tryd.func101.trans (congrArg some (by kernel_rfl))
  f173 := Tryd.func87.trans (congrArg some (by kernel_rfl))
  f246 := Tryd.func95.trans (congrArg some (by kernel_rfl))
  f283 := Tryd.func96.trans (congrArg some (by kernel_rfl))
  f284 := Tryd.func97.trans (congrArg some (by kernel_rfl))
  f285 := Tryd.func98.trans (congrArg some (by kernel_rfl))
  f286 := Tryd.func99.trans (congrArg some (by kernel_rfl))
  f317 := Tryd.func100.trans (congrArg some (by kernel_rfl))
  f318 := Tryd.func102.trans (congrArg some (by kernel_rfl))
  f319 := Tryd.func103.trans (congrArg some (by kernel_rfl))
  f320 := Tryd.func104.trans (congrArg some (by kernel_rfl))
  f337 := Tryd.func105.trans (congrArg some (by kernel_rfl))
  f338 := Tryd.func106.trans (congrArg some (by kernel_rfl))
  t0 := Tryd.underlying0
  a0 := Tryd.isAgg0
  z0 := Tryd.sizeOf0
  v0 := Tryd.zeroValue0
  t2 := Tryd.underlying2
  a2 := Tryd.isAgg2
  z2 := Tryd.sizeOf2
  v2 := Tryd.zeroValue2
  t3 := Tryd.underlying3
  a3 := Tryd.isAgg3
  z3 := Tryd.sizeOf3
  v3 := Tryd.zeroValue3
  t4 := Tryd.underlying4
  a4 := Tryd.isAgg4
  z4 := Tryd.sizeOf4
  v4 := Tryd.zeroValue4
  t5 := Tryd.underlying5
  a5 := Tryd.isAgg5
  z5 := Tryd.sizeOf5
  v5 := Tryd.zeroValue5
  t9 := Tryd.underlying9
  a9 := Tryd.isAgg9
  z9 := Tryd.sizeOf9
  v9 := Tryd.zeroValue9
  t20 := Tryd.underlying20
  a20 := Tryd.isAgg20
  z20 := Tryd.sizeOf20
  v20 := Tryd.zeroValue20
  t37 := Tryd.underlying105
  a37 := Tryd.isAgg105
  z37 := Tryd.sizeOf105
  v37 := Tryd.zeroValue105
  t46 := Tryd.underlying163
  a46 := Tryd.isAgg163
  z46 := Tryd.sizeOf163
  v46 := Tryd.zeroValue163
  t51 := Tryd.underlying138
  a51 := Tryd.isAgg138
  z51 := Tryd.sizeOf138
  v51 := Tryd.zeroValue138
  t53 := Tryd.underlying153
  a53 := Tryd.isAgg153
  z53 := Tryd.sizeOf153
  v53 := Tryd.zeroValue153
  t171 := Tryd.underlying152
  a171 := Tryd.isAgg152
  z171 := Tryd.sizeOf152
  v171 := Tryd.zeroValue152
  t173 := Tryd.underlying156
  a173 := Tryd.isAgg156
  z173 := Tryd.sizeOf156
  v173 := Tryd.zeroValue156
  t212 := Tryd.underlying160
  a212 := Tryd.isAgg160
  z212 := Tryd.sizeOf160
  v212 := Tryd.zeroValue160
  t213 := Tryd.underlying161
  a213 := Tryd.isAgg161
  z213 := Tryd.sizeOf161
  t232 := Tryd.underlying166
  a232 := Tryd.isAgg166
  z232 := Tryd.sizeOf166
  v232 := Tryd.zeroValue166
  t233 := Tryd.underlying167
  a233 := Tryd.isAgg167
  z233 := Tryd.sizeOf167
  v233 := Tryd.zeroValue167
  g17 := by kernel_rfl
  g18 := by kernel_rfl
  g19 := by kernel_rfl }
theorem run_FormatS (i : Nat) (hi : i < 100) (w : World) : Calls Tryd.prog 87 #[.int .i64 i, .int .i64 10] w fun e w' => e = .returned (.string (decT i)) ∧ le w w' :=
  (Any.strconv_FormatInt_10_small laysI i hi w).mono fun e w' ⟨h1, h2⟩ => ⟨h1, h2 ▸ le_refl _⟩
/-- The library's table of powers of ten is where it should be. -/
def Tab10 (w : World) : Prop := Lib.TabIs Tryd.prog w "internal/strconv.uint64pow10" .u64 Lib.pow10Tab
theorem run_Format (n : Nat) (hn : n ≤ 9223372036854775807) (w : World) (htab : Tab10 w) : Calls Tryd.prog 87 #[.int .i64 n, .int .i64 10] w fun e w' => e = .returned (.string (decT n)) ∧ le w w' :=
  (Any.strconv_FormatInt_10 laysMI n (by omega) (by omega) w htab).mono fun e w' ⟨h1, k, os, h2⟩ => ⟨by rw [h1]; unfold decT Lib.itoa; rw [if_neg (by omega)]; simp, h2 ▸ Lib.below_grow _ w (Nat.le_refl _) k os⟩
set_option maxRecDepth 100000 in
theorem i_decimalS (n : Nat) (hn : n < 100) (w : World) : Calls Tryd.prog 69 #[.int .i64 n] w fun e w' => e = .returned (.string (decT n)) ∧ le w w' := by
  have H := hid (run_FormatS n hn)
  go_enter Tryd.func69, Tryd.ntmps69
  go_wp2_with (go_at_call 87; ((with_reducible refine (H.out _).mono ?_); rintro e w1 ⟨rfl, hl1⟩; skip))
  go_ret
  exact ⟨rfl, hl1⟩
set_option maxRecDepth 100000 in
theorem i_decimal (n : Nat) (hn : n ≤ 9223372036854775807) (w : World) (htab : Tab10 w) : Calls Tryd.prog 69 #[.int .i64 n] w fun e w' => e = .returned (.string (decT n)) ∧ le w w' := by
  have H := hid (run_Format n hn w htab)
  go_enter Tryd.func69, Tryd.ntmps69
  go_wp2_with (go_at_call 87; ((with_reducible refine H.out.mono ?_); rintro e w1 ⟨rfl, hl1⟩; skip))
  go_ret
  exact ⟨rfl, hl1⟩
end Go.Proofs.YtjihkfemejhllaaDoor

/- The model's 'Decimal'. -/
namespace Go.Fk
open Go Go.RowKit
def oneB (d : Nat) : ByteArray := ⟨#[UInt8.ofNat d]⟩
theorem oneB_bytes {w : World} {b d : Nat} {t : TypeId} (h : Row w b t #[.int .u8 (d : Int)]) (hd : d < 256) : Lib.Bytes w b 0 (oneB d) := fun i hi => by
  have h1 : i < 1 := hi
  obtain rfl : i = 0 := by omega
  rw [Nat.zero_add, h.cell?]
  show some (Value.int .u8 (d : Int)) = some (Value.int .u8 (((UInt8.ofNat d).toNat : Nat) : Int))
  rw [show (UInt8.ofNat d).toNat = d by simp; omega]
theorem decT_small {n : Nat} (h : n < 10) : decT n = oneB (48 + n) := by unfold decT oneB; rw [Lib.decDigits_one h]
theorem decT_big {n : Nat} (h : ¬ n < 10) : decT (n / 10) ++ oneB (48 + n % 10) = decT n := by
  apply ba_ext
  unfold decT oneB
  conv => rhs; rw [Lib.decDigits, dif_neg h]
  simp
theorem nDigits_le : ∀ (k n : Nat), n < 10 ^ (k + 1) → Lib.nDigits n ≤ k + 1 := by
  intro k
  induction k with
  | zero => intro n h; rw [Lib.nDigits_small (by simpa using h)]; exact Nat.le_refl _
  | succ k ih =>
    intro n h
    by_cases h1 : n < 10
    · rw [Lib.nDigits_small h1]; omega
    · rw [Lib.nDigits, dif_neg h1]
      have := ih (n / 10) (by rw [Nat.pow_succ] at h; omega)
      omega
theorem decT_size (n : Nat) (h : n ≤ 9223372036854775807) : (decT n).size ≤ 19 := by
  have : (decT n).size = Lib.nDigits n := by rw [ba_size]; unfold decT; simp [Lib.decDigits_length]
  rw [this]
  exact nDigits_le 18 n (by omega)
section
variable {P : Program} {ops : Array Oper} {W : World} {K : FuncId → Array Value → World → Value → Prop} {Q : Act → World → Prop} {F : Facts} {k : Nat} {o : Oper} {rest : List Oper} {a : Act}
/-- An operation whose value hangs on what is known of the ones that it comes behind. -/
theorem wpFreeD_oneF (hg : o.guard = none) (v : Value) (hr : ∀ w, le W w → behind .any o F w → (execOp a.eval o).run P w = .ok (.value v) w)
    (h : wpFreeD leX P ops .any W K Q rest (k + 1) (a.put o.dst v) (F.with k (fun _ => True))) : wpFreeD leX P ops .any W K Q (o :: rest) k a F := by
  refine ⟨fun _ u => u = v, ⟨fun _ _ _ _ h => h, .inl ⟨by simp [Region.wanted, hg], fun w hw hbe => ?_⟩⟩, fun u hu => ?_⟩
  · rw [hr w hw hbe]; exact ⟨le_refl w, rfl⟩
  · obtain ⟨w, _, _, rfl⟩ := hu
    exact wpFreeD_weaken _ _ _ _ _ (fun e w h => ⟨h.1, fun _ => trivial⟩) h
end
end Go.Fk
namespace Go.Proofs.YtjihkfemejhllaaDoor
open Go.RowKit Go.Fk
theorem infoU14 : (Tryd.prog.info? 5).map (fun i => (i.zero, i.size, i.bytes)) = some (some (.int .u8 0), 1, 1) := by kernel_rfl
theorem fillU1 (ti : TypeInfo) (p : Int) (h : ti.size = 1) : Instr.fill (fun i => some (i * ti.size, ti.size)) ((Array.range (1 * ti.size)).map ((.int .u8 0 : Value).cells[· % (.int .u8 0 : Value).cells.size]!)) (#[(0, .int .u8 p)] : Array (Nat × Value)).toList = some #[.int .u8 p] := by
  rw [h]
  have hr : Array.range (1 * 1) = #[0] := by decide
  rw [hr]
  simp [Instr.fill, Value.cells]
theorem mkU1 (p : Int) (w : World) : (Instr.buildSlice 105 1 #[(0, .int .u8 p)]).run Tryd.prog w = .ok (.slice (some ⟨w.heap.size, 0, none⟩) 1 1) (w.alloc (.cells #[.int .u8 p] 5)) := by
  have h := infoU14
  cases hi : Tryd.prog.info? 5 with
  | none => rw [hi] at h; simp at h
  | some i =>
    rw [hi] at h; simp at h
    exact run_buildSlice (P := Tryd.prog) w 105 5 1 _ _ i _ Tryd.underlying105 hi h.1 (by rw [h.2.1]; decide) (by rw [h.2.1]; decide) (fillU1 _ _ h.2.1)
theorem conv1 {w : World} {b d : Nat} {t : TypeId} (h : Row w b t #[.int .u8 (d : Int)]) (hd : d < 256) : (convert 105 9 (.slice (some ⟨b, 0, none⟩) 1 1)).run Tryd.prog w = .ok (.string (oneB d)) w := by
  have := Lib.run_convert_whole (P := Tryd.prog) w 105 5 9 Tryd.underlying105 Tryd.underlying5 Tryd.underlying9 b 0 (oneB d) (oneB_bytes h hd) 1
  exact this
set_option maxRecDepth 100000 in
set_option maxHeartbeats 4000000 in
theorem s_Decimal : ∀ (n : Nat), n ≤ 9223372036854775807 → ∀ w : World, Calls Tryd.prog 76 #[.int .i64 n] w fun e w' => e = .returned (.string (decT n)) ∧ le w w' := by
  intro n
  induction n using Nat.strongRecOn with
  | ind n ih =>
  intro hn w
  by_cases h10 : n < 10
  · have e1 := decT_small h10
    have hb := mkU1 ((48 : Int) + n) w
    have hR := Row.new w 5 #[.int .u8 (((48 + n : Nat) : Int))]
    have hc := conv1 hR (by omega)
    have e2 : (((48 + n : Nat) : Int)) = (48 : Int) + n := by omega
    rw [e2] at hc hR
    rw [e1]
    have HL := hid (le_alloc w (.cells #[.int .u8 ((48 : Int) + n)] 5))
    clear ih hR e1 e2
    go_enter Tryd.func76, Tryd.ntmps76
    go_wp2
    go_ret
    exact ⟨rfl, HL.out⟩
  · have IH := hid (ih (n / 10) (by omega) (by omega))
    have ez := decT_size (n / 10) (by omega)
    have EB := hid (decT_big h10)
    clear ih
    go_enter Tryd.func76, Tryd.ntmps76
    go_wp2_with fail
    have G := hid (le_drewN w 1)
    refine region_freeD (E := leX) (fun _ _ _ v => v = .string (decT (n / 10))) (by kernel_rfl) (by kernel_rfl) ?_
    refine wpFreeD_one rfl (.int .i64 n) (fun w1 _ => by kernel_rfl) ?_
    simp only [Act.put, List.setIfInBounds_toArray, List.set_cons_succ, List.set_cons_zero]
    refine wpFreeD_one rfl (.int .i64 ((n / 10 : Nat) : Int)) (fun w1 _ => ?_) ?_
    · first | (go_simp; done) | (go_simp; go_num; done) | (go_simp; exact Int.tmod_eq_emod_of_nonneg (by omega)) | (go_simp; simp [IntKind.wrap, IntKind.bits]; omega)
    simp only [Act.put, List.setIfInBounds_toArray, List.set_cons_succ, List.set_cons_zero]
    refine wpFreeD_callB rfl rfl Tryd.func76 (by kernel_rfl) (by kernel_rfl) (args := #[.int .i64 ((n / 10 : Nat) : Int)]) (by simp [Act.eval]) (fun v w1 w2 hw hv => hv) (fun w1 hw1 _ => (IH.out w1).mono ?_) ?_
    · rintro e w2 ⟨rfl, hl⟩
      exact ⟨_, rfl, hl, rfl⟩
    rintro v ⟨_, _, _, rfl⟩
    simp only [Act.put, List.setIfInBounds_toArray, List.set_cons_succ, List.set_cons_zero]
    refine wpFreeD_one rfl (.int .i64 n) (fun w1 _ => by kernel_rfl) ?_
    simp only [Act.put, List.setIfInBounds_toArray, List.set_cons_succ, List.set_cons_zero]
    refine wpFreeD_one rfl (.int .i64 ((n % 10 : Nat) : Int)) (fun w1 _ => ?_) ?_
    · first | (go_simp; done) | (go_simp; go_num; done) | (go_simp; exact Int.tmod_eq_emod_of_nonneg (by omega)) | (go_simp; simp [IntKind.wrap, IntKind.bits]; omega)
    simp only [Act.put, List.setIfInBounds_toArray, List.set_cons_succ, List.set_cons_zero]
    refine wpFreeD_one rfl (.int .i64 ((48 + n % 10 : Nat) : Int)) (fun w1 _ => ?_) ?_
    · first | (go_simp; done) | (go_simp; go_num; done) | (go_simp; exact Int.tmod_eq_emod_of_nonneg (by omega)) | (go_simp; simp [IntKind.wrap, IntKind.bits]; omega)
    simp only [Act.put, List.setIfInBounds_toArray, List.set_cons_succ, List.set_cons_zero]
    refine wpFreeD_one rfl (.int .u8 ((48 + n % 10 : Nat) : Int)) (fun w1 _ => ?_) ?_
    · first | (go_simp; done) | (go_simp; go_num; done) | (go_simp; exact Int.tmod_eq_emod_of_nonneg (by omega)) | (go_simp; simp [IntKind.wrap, IntKind.bits]; omega)
    simp only [Act.put, List.setIfInBounds_toArray, List.set_cons_succ, List.set_cons_zero]
    refine wpFreeD_newN rfl (fun q => .slice (some ⟨q, 0, none⟩) 1 1) (fun b b' h => by simpa using h) 5 #[.int .u8 ((48 + n % 10 : Nat) : Int)] (fun w1 => ?_) (fun q => ?_)
    · have hb := mkU1 ((48 + n % 10 : Nat) : Int) w1
      push_cast at hb
      simp [execOp, Act.eval, Result.andThen, hb]
    simp only [Act.put, List.setIfInBounds_toArray, List.set_cons_succ, List.set_cons_zero]
    refine wpFreeD_oneF rfl (.string (oneB (48 + n % 10))) (fun w1 hw1 hbe => ?_) ?_
    · obtain ⟨_, h2⟩ := (hbe ⟨7, Ground.data⟩ (by simp) (by kernel_rfl)).2 rfl
      have hc := conv1 h2 (by omega)
      simp [execOp, Act.eval, Result.andThen, hc]
    simp only [Act.put, List.setIfInBounds_toArray, List.set_cons_succ, List.set_cons_zero]
    refine wpFreeD_cat rfl rfl (s := decT (n / 10)) (r := oneB (48 + n % 10)) rfl rfl (by rw [show (oneB (48 + n % 10)).size = 1 from rfl]; omega) EB.out ?_
    simp only [Act.put, List.setIfInBounds_toArray, List.set_cons_succ, List.set_cons_zero]
    refine wpFreeD_one rfl (.string (decT n)) (fun w1 _ => by kernel_rfl) ?_
    simp only [Act.put, List.setIfInBounds_toArray, List.set_cons_succ, List.set_cons_zero]
    refine wpFreeD_nil (fun wR hwR _ => ?_)
    have HL := hid (le_trans G.out hwR)
    clear hwR
    go_wp2
    go_ret
    exact ⟨rfl, HL.out⟩
end Go.Proofs.YtjihkfemejhllaaDoor

/- The kinds of filters as the program has them: 'modelOf', 'sizesOf'; 'ValidFilter' of both. -/
namespace Go.Proofs.YtjihkfemejhllaaDoor
open Go.RowKit Go.Fk
/-- The value of a kind. -/
def mdl (k : Int) (a b c : Nat) : Value :=
  if k = 1 then .iface 145 (.agg #[.float .f32 a, .float .f32 b, .float .f32 c])
  else if k = 2 then .iface 146 (.agg #[.float .f32 a, .float .f32 b, .float .f32 c])
  else if k = 3 then .iface 147 (.agg #[.float .f32 a, .float .f32 b, .float .f32 c])
  else if k = 4 then .iface 148 (.agg #[.float .f32 a, .float .f32 b, .float .f32 c])
  else if k = 5 then .iface 149 (.agg #[.float .f32 a, .float .f32 b, .float .f32 c])
  else .nilIface
set_option maxRecDepth 100000 in
@[go_sem] theorem ta11 (v : Value) (w : World) : (Instr.typeAssert (.iface 145 v) 134 145 true).run Tryd.prog w = .ok (.tuple #[v, .bool true]) w := by rfl
set_option maxRecDepth 100000 in
@[go_sem] theorem ta12 (v : Value) (w : World) : (Instr.typeAssert (.iface 145 v) 134 146 true).run Tryd.prog w = .ok (.tuple #[.agg #[.float .f32 0, .float .f32 0, .float .f32 0], .bool false]) w := by rfl
set_option maxRecDepth 100000 in
@[go_sem] theorem ta13 (v : Value) (w : World) : (Instr.typeAssert (.iface 145 v) 134 147 true).run Tryd.prog w = .ok (.tuple #[.agg #[.float .f32 0, .float .f32 0, .float .f32 0], .bool false]) w := by rfl
set_option maxRecDepth 100000 in
@[go_sem] theorem ta15 (v : Value) (w : World) : (Instr.typeAssert (.iface 145 v) 134 149 true).run Tryd.prog w = .ok (.tuple #[.agg #[.float .f32 0, .float .f32 0, .float .f32 0], .bool false]) w := by rfl
set_option maxRecDepth 100000 in
@[go_sem] theorem ta21 (v : Value) (w : World) : (Instr.typeAssert (.iface 146 v) 134 145 true).run Tryd.prog w = .ok (.tuple #[.agg #[.float .f32 0, .float .f32 0, .float .f32 0], .bool false]) w := by rfl
set_option maxRecDepth 100000 in
@[go_sem] theorem ta22 (v : Value) (w : World) : (Instr.typeAssert (.iface 146 v) 134 146 true).run Tryd.prog w = .ok (.tuple #[v, .bool true]) w := by rfl
set_option maxRecDepth 100000 in
@[go_sem] theorem ta23 (v : Value) (w : World) : (Instr.typeAssert (.iface 146 v) 134 147 true).run Tryd.prog w = .ok (.tuple #[.agg #[.float .f32 0, .float .f32 0, .float .f32 0], .bool false]) w := by rfl
set_option maxRecDepth 100000 in
@[go_sem] theorem ta25 (v : Value) (w : World) : (Instr.typeAssert (.iface 146 v) 134 149 true).run Tryd.prog w = .ok (.tuple #[.agg #[.float .f32 0, .float .f32 0, .float .f32 0], .bool false]) w := by rfl
set_option maxRecDepth 100000 in
@[go_sem] theorem ta31 (v : Value) (w : World) : (Instr.typeAssert (.iface 147 v) 134 145 true).run Tryd.prog w = .ok (.tuple #[.agg #[.float .f32 0, .float .f32 0, .float .f32 0], .bool false]) w := by rfl
set_option maxRecDepth 100000 in
@[go_sem] theorem ta32 (v : Value) (w : World) : (Instr.typeAssert (.iface 147 v) 134 146 true).run Tryd.prog w = .ok (.tuple #[.agg #[.float .f32 0, .float .f32 0, .float .f32 0], .bool false]) w := by rfl
set_option maxRecDepth 100000 in
@[go_sem] theorem ta33 (v : Value) (w : World) : (Instr.typeAssert (.iface 147 v) 134 147 true).run Tryd.prog w = .ok (.tuple #[v, .bool true]) w := by rfl
set_option maxRecDepth 100000 in
@[go_sem] theorem ta35 (v : Value) (w : World) : (Instr.typeAssert (.iface 147 v) 134 149 true).run Tryd.prog w = .ok (.tuple #[.agg #[.float .f32 0, .float .f32 0, .float .f32 0], .bool false]) w := by rfl
set_option maxRecDepth 100000 in
@[go_sem] theorem ta41 (v : Value) (w : World) : (Instr.typeAssert (.iface 148 v) 134 145 true).run Tryd.prog w = .ok (.tuple #[.agg #[.float .f32 0, .float .f32 0, .float .f32 0], .bool false]) w := by rfl
set_option maxRecDepth 100000 in
@[go_sem] theorem ta42 (v : Value) (w : World) : (Instr.typeAssert (.iface 148 v) 134 146 true).run Tryd.prog w = .ok (.tuple #[.agg #[.float .f32 0, .float .f32 0, .float .f32 0], .bool false]) w := by rfl
set_option maxRecDepth 100000 in
@[go_sem] theorem ta43 (v : Value) (w : World) : (Instr.typeAssert (.iface 148 v) 134 147 true).run Tryd.prog w = .ok (.tuple #[.agg #[.float .f32 0, .float .f32 0, .float .f32 0], .bool false]) w := by rfl
set_option maxRecDepth 100000 in
@[go_sem] theorem ta45 (v : Value) (w : World) : (Instr.typeAssert (.iface 148 v) 134 149 true).run Tryd.prog w = .ok (.tuple #[.agg #[.float .f32 0, .float .f32 0, .float .f32 0], .bool false]) w := by rfl
set_option maxRecDepth 100000 in
@[go_sem] theorem ta51 (v : Value) (w : World) : (Instr.typeAssert (.iface 149 v) 134 145 true).run Tryd.prog w = .ok (.tuple #[.agg #[.float .f32 0, .float .f32 0, .float .f32 0], .bool false]) w := by rfl
set_option maxRecDepth 100000 in
@[go_sem] theorem ta52 (v : Value) (w : World) : (Instr.typeAssert (.iface 149 v) 134 146 true).run Tryd.prog w = .ok (.tuple #[.agg #[.float .f32 0, .float .f32 0, .float .f32 0], .bool false]) w := by rfl
set_option maxRecDepth 100000 in
@[go_sem] theorem ta53 (v : Value) (w : World) : (Instr.typeAssert (.iface 149 v) 134 147 true).run Tryd.prog w = .ok (.tuple #[.agg #[.float .f32 0, .float .f32 0, .float .f32 0], .bool false]) w := by rfl
set_option maxRecDepth 100000 in
@[go_sem] theorem ta55 (v : Value) (w : World) : (Instr.typeAssert (.iface 149 v) 134 149 true).run Tryd.prog w = .ok (.tuple #[v, .bool true]) w := by rfl
set_option maxRecDepth 100000 in
theorem mdl1 (a b c : Nat) : mdl 1 a b c = .iface 145 (.agg #[.float .f32 a, .float .f32 b, .float .f32 c]) := by simp [mdl]
theorem i_modelOf1 (a b c x y : Nat) (w : World) : Calls Tryd.prog 80 #[(.agg #[.int .i64 1, .float .f32 a, .float .f32 b, .float .f32 c, .float .f32 x, .float .f32 y])] w fun e w' => e = .returned (.iface 145 (.agg #[.float .f32 a, .float .f32 b, .float .f32 c])) ∧ Below w.heap.size w w' := by
  go_enter Tryd.func80, Tryd.ntmps80
  go_wp2
  go_ret
  exact ⟨rfl, by repeat' (first | (with_reducible exact Below.refl _ _) | (with_reducible assumption) | (with_reducible refine below_drewN ?_ _) | (with_reducible refine Below.alloc ?_ ?_ _) | (with_reducible refine Below.drew ?_) | (with_reducible refine Below.setCell ?_ ?_ _) | go_size)⟩
set_option maxRecDepth 100000 in
theorem i_sizesOf1 (v : Value) (w : World) : Calls Tryd.prog 81 #[.iface 145 v] w fun e w' => e = .returned (.tuple #[.int .i64 (cU 1), .int .i64 (sU 1)]) ∧ w = w' := by
  go_enter Tryd.func81, Tryd.ntmps81
  go_wp2
  go_ret2
  exact ⟨rfl, rfl⟩
set_option maxRecDepth 100000 in
theorem mdl2 (a b c : Nat) : mdl 2 a b c = .iface 146 (.agg #[.float .f32 a, .float .f32 b, .float .f32 c]) := by simp [mdl]
theorem i_modelOf2 (a b c x y : Nat) (w : World) : Calls Tryd.prog 80 #[(.agg #[.int .i64 2, .float .f32 a, .float .f32 b, .float .f32 c, .float .f32 x, .float .f32 y])] w fun e w' => e = .returned (.iface 146 (.agg #[.float .f32 a, .float .f32 b, .float .f32 c])) ∧ Below w.heap.size w w' := by
  go_enter Tryd.func80, Tryd.ntmps80
  go_wp2
  go_ret
  exact ⟨rfl, by repeat' (first | (with_reducible exact Below.refl _ _) | (with_reducible assumption) | (with_reducible refine below_drewN ?_ _) | (with_reducible refine Below.alloc ?_ ?_ _) | (with_reducible refine Below.drew ?_) | (with_reducible refine Below.setCell ?_ ?_ _) | go_size)⟩
set_option maxRecDepth 100000 in
theorem i_sizesOf2 (v : Value) (w : World) : Calls Tryd.prog 81 #[.iface 146 v] w fun e w' => e = .returned (.tuple #[.int .i64 (cU 2), .int .i64 (sU 2)]) ∧ w = w' := by
  go_enter Tryd.func81, Tryd.ntmps81
  go_wp2
  go_ret2
  exact ⟨rfl, rfl⟩
set_option maxRecDepth 100000 in
theorem mdl3 (a b c : Nat) : mdl 3 a b c = .iface 147 (.agg #[.float .f32 a, .float .f32 b, .float .f32 c]) := by simp [mdl]
theorem i_modelOf3 (a b c x y : Nat) (w : World) : Calls Tryd.prog 80 #[(.agg #[.int .i64 3, .float .f32 a, .float .f32 b, .float .f32 c, .float .f32 x, .float .f32 y])] w fun e w' => e = .returned (.iface 147 (.agg #[.float .f32 a, .float .f32 b, .float .f32 c])) ∧ Below w.heap.size w w' := by
  go_enter Tryd.func80, Tryd.ntmps80
  go_wp2
  go_ret
  exact ⟨rfl, by repeat' (first | (with_reducible exact Below.refl _ _) | (with_reducible assumption) | (with_reducible refine below_drewN ?_ _) | (with_reducible refine Below.alloc ?_ ?_ _) | (with_reducible refine Below.drew ?_) | (with_reducible refine Below.setCell ?_ ?_ _) | go_size)⟩
set_option maxRecDepth 100000 in
theorem i_sizesOf3 (v : Value) (w : World) : Calls Tryd.prog 81 #[.iface 147 v] w fun e w' => e = .returned (.tuple #[.int .i64 (cU 3), .int .i64 (sU 3)]) ∧ w = w' := by
  go_enter Tryd.func81, Tryd.ntmps81
  go_wp2
  go_ret2
  exact ⟨rfl, rfl⟩
set_option maxRecDepth 100000 in
theorem mdl4 (a b c : Nat) : mdl 4 a b c = .iface 148 (.agg #[.float .f32 a, .float .f32 b, .float .f32 c]) := by simp [mdl]
theorem i_modelOf4 (a b c x y : Nat) (w : World) : Calls Tryd.prog 80 #[(.agg #[.int .i64 4, .float .f32 a, .float .f32 b, .float .f32 c, .float .f32 x, .float .f32 y])] w fun e w' => e = .returned (.iface 148 (.agg #[.float .f32 a, .float .f32 b, .float .f32 c])) ∧ Below w.heap.size w w' := by
  go_enter Tryd.func80, Tryd.ntmps80
  go_wp2
  go_ret
  exact ⟨rfl, by repeat' (first | (with_reducible exact Below.refl _ _) | (with_reducible assumption) | (with_reducible refine below_drewN ?_ _) | (with_reducible refine Below.alloc ?_ ?_ _) | (with_reducible refine Below.drew ?_) | (with_reducible refine Below.setCell ?_ ?_ _) | go_size)⟩
set_option maxRecDepth 100000 in
theorem i_sizesOf4 (v : Value) (w : World) : Calls Tryd.prog 81 #[.iface 148 v] w fun e w' => e = .returned (.tuple #[.int .i64 (cU 4), .int .i64 (sU 4)]) ∧ w = w' := by
  go_enter Tryd.func81, Tryd.ntmps81
  go_wp2
  go_ret2
  exact ⟨rfl, rfl⟩
set_option maxRecDepth 100000 in
theorem mdl5 (a b c : Nat) : mdl 5 a b c = .iface 149 (.agg #[.float .f32 a, .float .f32 b, .float .f32 c]) := by simp [mdl]
theorem i_modelOf5 (a b c x y : Nat) (w : World) : Calls Tryd.prog 80 #[(.agg #[.int .i64 5, .float .f32 a, .float .f32 b, .float .f32 c, .float .f32 x, .float .f32 y])] w fun e w' => e = .returned (.iface 149 (.agg #[.float .f32 a, .float .f32 b, .float .f32 c])) ∧ Below w.heap.size w w' := by
  go_enter Tryd.func80, Tryd.ntmps80
  go_wp2
  go_ret
  exact ⟨rfl, by repeat' (first | (with_reducible exact Below.refl _ _) | (with_reducible assumption) | (with_reducible refine below_drewN ?_ _) | (with_reducible refine Below.alloc ?_ ?_ _) | (with_reducible refine Below.drew ?_) | (with_reducible refine Below.setCell ?_ ?_ _) | go_size)⟩
set_option maxRecDepth 100000 in
theorem i_sizesOf5 (v : Value) (w : World) : Calls Tryd.prog 81 #[.iface 149 v] w fun e w' => e = .returned (.tuple #[.int .i64 (cU 5), .int .i64 (sU 5)]) ∧ w = w' := by
  go_enter Tryd.func81, Tryd.ntmps81
  go_wp2
  go_ret2
  exact ⟨rfl, rfl⟩
set_option maxRecDepth 100000 in
theorem mdl_no {k : Int} (h : ¬ (1 ≤ k ∧ k ≤ 5)) (a b c : Nat) : mdl k a b c = .nilIface := by
  unfold mdl
  rw [if_neg (by omega), if_neg (by omega), if_neg (by omega), if_neg (by omega), if_neg (by omega)]
set_option maxRecDepth 100000 in
theorem i_modelOf_no (k : Int) (a b c x y : Nat) (w : World) (h : ¬ (1 ≤ k ∧ k ≤ 5)) : Calls Tryd.prog 80 #[(.agg #[.int .i64 k, .float .f32 a, .float .f32 b, .float .f32 c, .float .f32 x, .float .f32 y])] w fun e w' => e = .returned .nilIface ∧ Below w.heap.size w w' := by
  have h1 : ((k : Int) == 1) = false := by simp only [beq_eq_false_iff_ne]; omega
  have h2 : ((k : Int) == 2) = false := by simp only [beq_eq_false_iff_ne]; omega
  have h3 : ((k : Int) == 3) = false := by simp only [beq_eq_false_iff_ne]; omega
  have h4 : ((k : Int) == 4) = false := by simp only [beq_eq_false_iff_ne]; omega
  have h5 : ((k : Int) == 5) = false := by simp only [beq_eq_false_iff_ne]; omega
  clear h
  go_enter Tryd.func80, Tryd.ntmps80
  go_wp2
  go_ret
  exact ⟨rfl, by repeat' (first | (with_reducible exact Below.refl _ _) | (with_reducible assumption) | (with_reducible refine below_drewN ?_ _) | (with_reducible refine Below.alloc ?_ ?_ _) | (with_reducible refine Below.drew ?_) | (with_reducible refine Below.setCell ?_ ?_ _) | go_size)⟩
set_option maxRecDepth 100000 in
theorem i_modelOf (k : Int) (a b c x y : Nat) (w : World) : Calls Tryd.prog 80 #[(.agg #[.int .i64 k, .float .f32 a, .float .f32 b, .float .f32 c, .float .f32 x, .float .f32 y])] w fun e w' => e = .returned (mdl k a b c) ∧ Below w.heap.size w w' := by
  by_cases h : 1 ≤ k ∧ k ≤ 5
  · rcases (show k = 1 ∨ k = 2 ∨ k = 3 ∨ k = 4 ∨ k = 5 by omega) with rfl | rfl | rfl | rfl | rfl
    · rw [mdl1]; exact i_modelOf1 a b c x y w
    · rw [mdl2]; exact i_modelOf2 a b c x y w
    · rw [mdl3]; exact i_modelOf3 a b c x y w
    · rw [mdl4]; exact i_modelOf4 a b c x y w
    · rw [mdl5]; exact i_modelOf5 a b c x y w
  · rw [mdl_no h]; exact i_modelOf_no k a b c x y w h
set_option maxRecDepth 100000 in
theorem i_ValidFilter_no (k : Int) (a b c x y : Nat) (w : World) (h : ¬ (1 ≤ k ∧ k ≤ 5)) : Calls Tryd.prog 63 #[(.agg #[.int .i64 k, .float .f32 a, .float .f32 b, .float .f32 c, .float .f32 x, .float .f32 y])] w fun e w' => e = .returned (.bool false) ∧ Below w.heap.size w w' := by
  go_enter Tryd.func63, Tryd.ntmps63
  go_wp2_with (first | (go_at_call 80; refine (i_modelOf_no _ _ _ _ _ _ _ h).mono ?_; rintro e w' ⟨rfl, hb⟩))
  go_ret
  exact ⟨rfl, le_trans (le_alloc w _) hb⟩
set_option maxRecDepth 100000 in
set_option maxHeartbeats 1000000 in
theorem i_ValidFilter1 (a b c x y : Nat) (w : World) (fa : fits .f32 a) (fb : fits .f32 b) (fc : fits .f32 c) (fx : fits .f32 x) (fy : fits .f32 y) : Calls Tryd.prog 63 #[(.agg #[.int .i64 1, .float .f32 a, .float .f32 b, .float .f32 c, .float .f32 x, .float .f32 y])] w fun e w' => e = .returned (.bool (usedB (tri a b c) 3 (cU 1) && usedB (duo x y) 2 (sU 1))) ∧ Below w.heap.size w w' := by
  have F3 := hid (fits_tri fa fb fc)
  have F2 := hid (fits_duo fx fy)
  clear fa fb fc fx fy
  have F := (Frm.nil w).box 35 (#[.int .i64 1, .float .f32 a, .float .f32 b, .float .f32 c, .float .f32 x, .float .f32 y] : Array Value)
  cases h1 : usedB (tri a b c) 3 (cU 1) <;> cases h2 : usedB (duo x y) 2 (sU 1)
  all_goals
    have H1 := hid h1
    have H2 := hid h2
    clear h1 h2
    go_enter Tryd.func63, Tryd.ntmps63
    go_wp2_with (first | (go_at_call 80; refine (i_modelOf1 _ _ _ _ _ _).mono ?_; rintro e w' ⟨rfl, hb⟩; replace F := F.le hb; have R := hid (F.row List.mem_cons_self)) | (go_at_call 81; refine (i_sizesOf1 _ _).mono ?_; rintro e w' ⟨rfl, rfl⟩) | (go_at_call 82; (with_reducible refine (i_areUsed (tri a b c) _ 1 3 (cU 1) _ (by omega) (cU_le _) F3.out (fun i hi => R.out.tri i hi)).mono ?_); rw [H1.out]; rintro e w' ⟨rfl, rfl⟩) | (go_at_call 82; (with_reducible refine (i_areUsed (duo x y) _ 4 2 (sU 1) _ (by omega) (sU_le _) F2.out (fun i hi => R.out.duo i hi)).mono ?_); rw [H2.out]; rintro e w' ⟨rfl, rfl⟩))
    go_ret
    exact ⟨rfl, F.below⟩
set_option maxRecDepth 100000 in
set_option maxHeartbeats 1000000 in
theorem i_ValidFilter2 (a b c x y : Nat) (w : World) (fa : fits .f32 a) (fb : fits .f32 b) (fc : fits .f32 c) (fx : fits .f32 x) (fy : fits .f32 y) : Calls Tryd.prog 63 #[(.agg #[.int .i64 2, .float .f32 a, .float .f32 b, .float .f32 c, .float .f32 x, .float .f32 y])] w fun e w' => e = .returned (.bool (usedB (tri a b c) 3 (cU 2) && usedB (duo x y) 2 (sU 2))) ∧ Below w.heap.size w w' := by
  have F3 := hid (fits_tri fa fb fc)
  have F2 := hid (fits_duo fx fy)
  clear fa fb fc fx fy
  have F := (Frm.nil w).box 35 (#[.int .i64 2, .float .f32 a, .float .f32 b, .float .f32 c, .float .f32 x, .float .f32 y] : Array Value)
  cases h1 : usedB (tri a b c) 3 (cU 2) <;> cases h2 : usedB (duo x y) 2 (sU 2)
  all_goals
    have H1 := hid h1
    have H2 := hid h2
    clear h1 h2
    go_enter Tryd.func63, Tryd.ntmps63
    go_wp2_with (first | (go_at_call 80; refine (i_modelOf2 _ _ _ _ _ _).mono ?_; rintro e w' ⟨rfl, hb⟩; replace F := F.le hb; have R := hid (F.row List.mem_cons_self)) | (go_at_call 81; refine (i_sizesOf2 _ _).mono ?_; rintro e w' ⟨rfl, rfl⟩) | (go_at_call 82; (with_reducible refine (i_areUsed (tri a b c) _ 1 3 (cU 2) _ (by omega) (cU_le _) F3.out (fun i hi => R.out.tri i hi)).mono ?_); rw [H1.out]; rintro e w' ⟨rfl, rfl⟩) | (go_at_call 82; (with_reducible refine (i_areUsed (duo x y) _ 4 2 (sU 2) _ (by omega) (sU_le _) F2.out (fun i hi => R.out.duo i hi)).mono ?_); rw [H2.out]; rintro e w' ⟨rfl, rfl⟩))
    go_ret
    exact ⟨rfl, F.below⟩
set_option maxRecDepth 100000 in
set_option maxHeartbeats 1000000 in
theorem i_ValidFilter3 (a b c x y : Nat) (w : World) (fa : fits .f32 a) (fb : fits .f32 b) (fc : fits .f32 c) (fx : fits .f32 x) (fy : fits .f32 y) : Calls Tryd.prog 63 #[(.agg #[.int .i64 3, .float .f32 a, .float .f32 b, .float .f32 c, .float .f32 x, .float .f32 y])] w fun e w' => e = .returned (.bool (usedB (tri a b c) 3 (cU 3) && usedB (duo x y) 2 (sU 3))) ∧ Below w.heap.size w w' := by
  have F3 := hid (fits_tri fa fb fc)
  have F2 := hid (fits_duo fx fy)
  clear fa fb fc fx fy
  have F := (Frm.nil w).box 35 (#[.int .i64 3, .float .f32 a, .float .f32 b, .float .f32 c, .float .f32 x, .float .f32 y] : Array Value)
  cases h1 : usedB (tri a b c) 3 (cU 3) <;> cases h2 : usedB (duo x y) 2 (sU 3)
  all_goals
    have H1 := hid h1
    have H2 := hid h2
    clear h1 h2
    go_enter Tryd.func63, Tryd.ntmps63
    go_wp2_with (first | (go_at_call 80; refine (i_modelOf3 _ _ _ _ _ _).mono ?_; rintro e w' ⟨rfl, hb⟩; replace F := F.le hb; have R := hid (F.row List.mem_cons_self)) | (go_at_call 81; refine (i_sizesOf3 _ _).mono ?_; rintro e w' ⟨rfl, rfl⟩) | (go_at_call 82; (with_reducible refine (i_areUsed (tri a b c) _ 1 3 (cU 3) _ (by omega) (cU_le _) F3.out (fun i hi => R.out.tri i hi)).mono ?_); rw [H1.out]; rintro e w' ⟨rfl, rfl⟩) | (go_at_call 82; (with_reducible refine (i_areUsed (duo x y) _ 4 2 (sU 3) _ (by omega) (sU_le _) F2.out (fun i hi => R.out.duo i hi)).mono ?_); rw [H2.out]; rintro e w' ⟨rfl, rfl⟩))
    go_ret
    exact ⟨rfl, F.below⟩
set_option maxRecDepth 100000 in
set_option maxHeartbeats 1000000 in
theorem i_ValidFilter4 (a b c x y : Nat) (w : World) (fa : fits .f32 a) (fb : fits .f32 b) (fc : fits .f32 c) (fx : fits .f32 x) (fy : fits .f32 y) : Calls Tryd.prog 63 #[(.agg #[.int .i64 4, .float .f32 a, .float .f32 b, .float .f32 c, .float .f32 x, .float .f32 y])] w fun e w' => e = .returned (.bool (usedB (tri a b c) 3 (cU 4) && usedB (duo x y) 2 (sU 4))) ∧ Below w.heap.size w w' := by
  have F3 := hid (fits_tri fa fb fc)
  have F2 := hid (fits_duo fx fy)
  clear fa fb fc fx fy
  have F := (Frm.nil w).box 35 (#[.int .i64 4, .float .f32 a, .float .f32 b, .float .f32 c, .float .f32 x, .float .f32 y] : Array Value)
  cases h1 : usedB (tri a b c) 3 (cU 4) <;> cases h2 : usedB (duo x y) 2 (sU 4)
  all_goals
    have H1 := hid h1
    have H2 := hid h2
    clear h1 h2
    go_enter Tryd.func63, Tryd.ntmps63
    go_wp2_with (first | (go_at_call 80; refine (i_modelOf4 _ _ _ _ _ _).mono ?_; rintro e w' ⟨rfl, hb⟩; replace F := F.le hb; have R := hid (F.row List.mem_cons_self)) | (go_at_call 81; refine (i_sizesOf4 _ _).mono ?_; rintro e w' ⟨rfl, rfl⟩) | (go_at_call 82; (with_reducible refine (i_areUsed (tri a b c) _ 1 3 (cU 4) _ (by omega) (cU_le _) F3.out (fun i hi => R.out.tri i hi)).mono ?_); rw [H1.out]; rintro e w' ⟨rfl, rfl⟩) | (go_at_call 82; (with_reducible refine (i_areUsed (duo x y) _ 4 2 (sU 4) _ (by omega) (sU_le _) F2.out (fun i hi => R.out.duo i hi)).mono ?_); rw [H2.out]; rintro e w' ⟨rfl, rfl⟩))
    go_ret
    exact ⟨rfl, F.below⟩
set_option maxRecDepth 100000 in
set_option maxHeartbeats 1000000 in
theorem i_ValidFilter5 (a b c x y : Nat) (w : World) (fa : fits .f32 a) (fb : fits .f32 b) (fc : fits .f32 c) (fx : fits .f32 x) (fy : fits .f32 y) : Calls Tryd.prog 63 #[(.agg #[.int .i64 5, .float .f32 a, .float .f32 b, .float .f32 c, .float .f32 x, .float .f32 y])] w fun e w' => e = .returned (.bool (usedB (tri a b c) 3 (cU 5) && usedB (duo x y) 2 (sU 5))) ∧ Below w.heap.size w w' := by
  have F3 := hid (fits_tri fa fb fc)
  have F2 := hid (fits_duo fx fy)
  clear fa fb fc fx fy
  have F := (Frm.nil w).box 35 (#[.int .i64 5, .float .f32 a, .float .f32 b, .float .f32 c, .float .f32 x, .float .f32 y] : Array Value)
  cases h1 : usedB (tri a b c) 3 (cU 5) <;> cases h2 : usedB (duo x y) 2 (sU 5)
  all_goals
    have H1 := hid h1
    have H2 := hid h2
    clear h1 h2
    go_enter Tryd.func63, Tryd.ntmps63
    go_wp2_with (first | (go_at_call 80; refine (i_modelOf5 _ _ _ _ _ _).mono ?_; rintro e w' ⟨rfl, hb⟩; replace F := F.le hb; have R := hid (F.row List.mem_cons_self)) | (go_at_call 81; refine (i_sizesOf5 _ _).mono ?_; rintro e w' ⟨rfl, rfl⟩) | (go_at_call 82; (with_reducible refine (i_areUsed (tri a b c) _ 1 3 (cU 5) _ (by omega) (cU_le _) F3.out (fun i hi => R.out.tri i hi)).mono ?_); rw [H1.out]; rintro e w' ⟨rfl, rfl⟩) | (go_at_call 82; (with_reducible refine (i_areUsed (duo x y) _ 4 2 (sU 5) _ (by omega) (sU_le _) F2.out (fun i hi => R.out.duo i hi)).mono ?_); rw [H2.out]; rintro e w' ⟨rfl, rfl⟩))
    go_ret
    exact ⟨rfl, F.below⟩
set_option maxRecDepth 100000 in
theorem i_ValidFilter (k : Int) (a b c x y : Nat) (w : World) (hf : fits .f32 a ∧ fits .f32 b ∧ fits .f32 c ∧ fits .f32 x ∧ fits .f32 y) : Calls Tryd.prog 63 #[(.agg #[.int .i64 k, .float .f32 a, .float .f32 b, .float .f32 c, .float .f32 x, .float .f32 y])] w fun e w' => e = .returned (.bool (okF k a b c x y)) ∧ Below w.heap.size w w' := by
  obtain ⟨fa, fb, fc, fx, fy⟩ := hf
  by_cases h : 1 ≤ k ∧ k ≤ 5
  · have E : okF k a b c x y = (usedB (tri a b c) 3 (cU k) && usedB (duo x y) 2 (sU k)) := by simp [okF, h.1, h.2]
    rw [E]
    rcases (show k = 1 ∨ k = 2 ∨ k = 3 ∨ k = 4 ∨ k = 5 by omega) with rfl | rfl | rfl | rfl | rfl
    · exact i_ValidFilter1 a b c x y w fa fb fc fx fy
    · exact i_ValidFilter2 a b c x y w fa fb fc fx fy
    · exact i_ValidFilter3 a b c x y w fa fb fc fx fy
    · exact i_ValidFilter4 a b c x y w fa fb fc fx fy
    · exact i_ValidFilter5 a b c x y w fa fb fc fx fy
  · rw [okF_out h]; exact i_ValidFilter_no k a b c x y w h
end Go.Proofs.YtjihkfemejhllaaDoor

/- Laws for operations that are guarded and wanted. Nothing here names a program. -/
namespace Go.Fk
open Go Go.RowKit
section
variable {P : Program} {w : World} {ops : Array Oper} {rest : List Oper} {o : Oper} {a : Act} {Q : Exit → Act → World → Prop}
theorem wpList_wanted (hw : Region.wanted o (yielded ops a.tmps) = true) (h : ∀ K : Act → World → Prop, (∀ a w, wpList P ops Q rest a w → K a w) → o.wp P a w K Q) : wpList P ops Q (o :: rest) a w :=
  wpList_step fun K hK => by simp only [hw, if_true]; exact h K hK
theorem wpList_widenG {src dst : TypeId} {x : Operand} (hop : o.op = Op.convert src dst x) {b : Nat} (hx : a.eval x = .float .f32 b)
    (hs : P.underlying src = some (.float .f32)) (hd : P.underlying dst = some (.float .f64)) (hw : Region.wanted o (yielded ops a.tmps) = true)
    (hK : ∀ r n, Hid (can .f64 r = can .f64 (widen b)) → Hid (fits .f64 r) → wpList P ops Q rest (a.put o.dst (.float .f64 r)) (w.drewN n)) : wpList P ops Q (o :: rest) a w := by
  refine wpList_wanted hw fun K hK' => ?_
  obtain ⟨r, n, hrun, hr, hf⟩ := run_widen (P := P) w src dst b hs hd
  unfold Oper.wp
  simp [execOp, hop, hx, hrun, Result.andThen]
  exact hK' _ _ (hK r n hr hf)
end
end Go.Fk

/- Loads that may be guarded (and wanted), the cells being told as facts. Nothing here names a program. -/
namespace Go.Fk
open Go Go.RowKit
section
variable {P : Program} {w : World} {ops : Array Oper} {rest : List Oper} {o : Oper} {a : Act} {Q : Exit → Act → World → Prop}
theorem wpList_load1C {ty : TypeId} {x : Operand} (hop : o.op = .load ty x) {g f : Nat} (hx : a.eval x = .pointer (some ⟨g, f, none⟩)) {v : Value} (hw : Region.wanted o (yielded ops a.tmps) = true) {t : TypeId} {cs : Array Value} (hr : Row w g t cs) (hv : cs[f]? = some v) (hu : ∀ w, (isAgg ty).run P w = .ok false w)
    (h : wpList P ops Q rest (a.put o.dst v) w) : wpList P ops Q (o :: rest) a w := by
  refine wpList_wanted hw fun K hK' => ?_
  unfold Oper.wp execOp
  have hc : w.cell? ⟨g, f, none⟩ = some v := by rw [hr.cell?, hv]
  have hl : (Instr.loadAt ty (.pointer (some ⟨g, f, none⟩))).run P w = .ok v w := by
    simp [Instr.loadAt, Instr.sureAddr, loadVar, hu, hc]
  simp [hop, hx, hl, Result.andThen]
  exact hK' _ _ h
/-- A value of one cell is loaded, guarded or not. -/
theorem wpList_load1G {ty : TypeId} {x : Operand} (hop : o.op = .load ty x) {p : Addr} (hx : a.eval x = .pointer (some p)) {v : Value} (hw : Region.wanted o (yielded ops a.tmps) = true) (hc : w.cell? p = some v) (hu : ∀ w, (isAgg ty).run P w = .ok false w)
    (h : wpList P ops Q rest (a.put o.dst v) w) : wpList P ops Q (o :: rest) a w := by
  refine wpList_wanted hw fun K hK' => ?_
  unfold Oper.wp execOp
  have hl : (Instr.loadAt ty (.pointer (some p))).run P w = .ok v w := by
    simp [Instr.loadAt, Instr.sureAddr, loadVar, hu, hc]
  simp [hop, hx, hl, Result.andThen]
  exact hK' _ _ h
theorem wpList_load1X {ty : TypeId} {x : Operand} (hop : o.op = .load ty x) {g f : Nat} (hx : a.eval x = .pointer (some ⟨g, f, none⟩)) {v : Value} (hw : Region.wanted o (yielded ops a.tmps) = true) (hc : w.cell? ((⟨g, 0, none⟩ : Addr).add f) = some v) (hu : ∀ w, (isAgg ty).run P w = .ok false w)
    (h : wpList P ops Q rest (a.put o.dst v) w) : wpList P ops Q (o :: rest) a w := by
  refine wpList_wanted hw fun K hK' => ?_
  unfold Oper.wp execOp
  rw [add_none, Nat.zero_add] at hc
  have hl : (Instr.loadAt ty (.pointer (some ⟨g, f, none⟩))).run P w = .ok v w := by
    simp [Instr.loadAt, Instr.sureAddr, loadVar, hu, hc]
  simp [hop, hx, hl, Result.andThen]
  exact hK' _ _ h
theorem wpList_loadWC {ty : TypeId} {x : Operand} (hop : o.op = .load ty x) {p : Addr} (hx : a.eval x = .pointer (some p)) (vs : List Value) (hw : Region.wanted o (yielded ops a.tmps) = true) (hc : ∀ j v, vs[j]? = some v → w.cell? (p.add j) = some v) {d : TypeDesc} (hu : P.underlying ty = some d) (hd : d.isRow = true) {sz : Nat} (hs : (P.info? ty).map (·.size) = some sz) (hl : vs.length = sz)
    (h : wpList P ops Q rest (a.put o.dst (.agg vs.toArray)) w) : wpList P ops Q (o :: rest) a w := by
  refine wpList_wanted hw fun K hK' => ?_
  unfold Oper.wp execOp
  have hl' : (loadCells p vs.length).run P w = .ok vs.toArray w := run_loadCells_list (P := P) w p vs hc
  cases hq : P.info? ty with
  | none => simp [hq] at hs
  | some inf =>
    have hz : inf.size = vs.length := by simp [hq] at hs; omega
    have hagg : (isAgg ty).run P w = .ok true w := by
      unfold isAgg
      rw [Sem.run_bind, run_underlying hu w]
      cases d <;> simp_all
    have hL : (Instr.loadAt ty (.pointer (some p))).run P w = .ok (.agg vs.toArray) w := by
      simp [Instr.loadAt, Instr.sureAddr, loadVar, hagg, sizeOf, typeInfo, hq, hz, Sem.run_bind, hl']
    simp [hop, hx, hL, Result.andThen]
    exact hK' _ _ h
end
end Go.Fk
namespace Go.Fk
open Go Go.RowKit
/-- One call has one end: two contracts tell the same bool. -/
theorem agree_b {P : Program} {f : FuncId} {args : Array Value} {w : World} {c d : Bool} {R R' : World → Prop} (h : Calls P f args w fun e w' => e = .returned (.bool c) ∧ R w') (h' : Calls P f args w fun e w' => e = .returned (.bool d) ∧ R' w') (hi : P.inits.idxOf? f = none) : c = d := by
  have g := (h.mono (R' := fun e w' => match e, w' with | .returned v, _ => v = .bool c | _, _ => False) (fun e w' ⟨h1, _⟩ => by subst h1; rfl)).done (R := fun v _ => v = .bool c) hi
  have g' := (h'.mono (R' := fun e w' => match e, w' with | .returned v, _ => v = .bool d | _, _ => False) (fun e w' ⟨h1, _⟩ => by subst h1; rfl)).done (R := fun v _ => v = .bool d) hi
  obtain ⟨n, v, w1, e1, rfl⟩ := g
  obtain ⟨m, v', w2, e2, rfl⟩ := g'
  have a := runN_ended e1 m
  have b := runN_ended e2 n
  rw [Nat.add_comm, a] at b
  injection b with ho hw
  injection ho with hv
  injection hv
end Go.Fk

/- 'FilterText' of both. -/
namespace Go.Fk
open Go Go.RowKit
def filW : ByteArray := ⟨#[102, 105, 108, 116, 101, 114]⟩
def filWb : ByteArray := ⟨#[102, 105, 108, 116, 101, 114, 32]⟩
theorem filWb_eq (a : ByteArray) : filWb ++ a = filW ++ (spB ++ a) := by apply ba_ext; rw [← ba_assoc]; simp [filWb, filW, spB]
/-- The text of a filter. -/
def txtF (k : Nat) (a b c x y : Nat) : ByteArray := jnB spB [filW, decT k, txtS (tri a b c) 3, txtS (duo x y) 2]
theorem txtF_eq (k a b c x y : Nat) : (filWb ++ decT k ++ samL (tri a b c) 3) ++ spB ++ hexT (can .f32 x) ++ spB ++ hexT (can .f32 y) = txtF k a b c x y := by
  unfold txtF
  rw [samL_txt _ (by decide), jnB_cons, jnB_cons, jnB_cons, jnB_one, txtS_succ (duo x y) (n := 1) (by decide), txtS_one]
  simp only [filWb_eq, ba_assoc]
  rfl
theorem decT_sz100 {k : Nat} (h : k < 100) : (decT k).size ≤ 19 := decT_size k (by omega)
/-- The text of the float that a call gets. -/
def hexA (args : Array Value) : ByteArray := match args.toList with | [.float _ a] => hexT (can .f32 a) | _ => ⟨#[]⟩
end Go.Fk
namespace Go.Proofs.YtjihkfemejhllaaDoor
open Go.RowKit Go.Fk
theorem infoStr4F : (Tryd.prog.info? 9).map (fun i => (i.zero, i.size, i.bytes)) = some (some (.string ⟨#[]⟩), 1, 16) := by kernel_rfl
theorem fill4F (ti : TypeInfo) (p q r t : ByteArray) (h : ti.size = 1) : Instr.fill (fun i => some (i * ti.size, ti.size)) ((Array.range (4 * ti.size)).map ((.string ⟨#[]⟩ : Value).cells[· % (.string ⟨#[]⟩ : Value).cells.size]!)) (#[(0, .string p), (1, .string q), (2, .string r), (3, .string t)] : Array (Nat × Value)).toList = some #[.string p, .string q, .string r, .string t] := by
  rw [h]
  have hr : Array.range (4 * 1) = #[0, 1, 2, 3] := by decide
  rw [hr]
  simp [Instr.fill, Value.cells]
theorem mkStr4F (p q r t : ByteArray) (w : World) : (Instr.buildSlice 87 4 #[(0, .string p), (1, .string q), (2, .string r), (3, .string t)]).run Tryd.prog w = .ok (.slice (some ⟨w.heap.size, 0, none⟩) 4 4) (w.alloc (.cells #[.string p, .string q, .string r, .string t] 9)) := by
  have h := infoStr4F
  cases hi : Tryd.prog.info? 9 with
  | none => rw [hi] at h; simp at h
  | some i =>
    rw [hi] at h; simp at h
    exact run_buildSlice (P := Tryd.prog) w 87 9 4 _ _ i _ Tryd.underlying87 hi h.1 (by rw [h.2.1]; decide) (by rw [h.2.1]; decide) (fill4F _ _ _ _ _ h.2.1)
set_option maxRecDepth 100000 in
set_option maxHeartbeats 4000000 in
theorem i_FilterText_no (k : Int) (a b c x y : Nat) (w : World) (hf : fits .f32 a ∧ fits .f32 b ∧ fits .f32 c ∧ fits .f32 x ∧ fits .f32 y) (hok : okF k a b c x y = false) : Calls Tryd.prog 44 #[(.agg #[.int .i64 k, .float .f32 a, .float .f32 b, .float .f32 c, .float .f32 x, .float .f32 y])] w (Out_t ⟨#[]⟩ w) := by
  have HV := hid (fun (w' : World) => i_ValidFilter k a b c x y w' hf)
  rw [hok] at HV
  clear hok hf
  have F := (Frg.nil w).box 35 (#[.int .i64 k, .float .f32 a, .float .f32 b, .float .f32 c, .float .f32 x, .float .f32 y] : Array Value)
  go_enter Tryd.func44, Tryd.ntmps44
  go_wp2_with (first | ((with_reducible refine listN F ?_); clear F; intro wN F) | ((with_reducible refine at_load rfl ?_); (with_reducible refine wpList_loadG F rfl rfl rfl m0 Tryd.underlying35 rfl infoFil rfl ?_)) | (go_at_call 63; ((with_reducible refine (HV.out _).mono ?_); rintro e w1 ⟨rfl, hl1⟩; replace F := F.le hl1; clear hl1)))
  go_ret
  exact ⟨rfl, F.below⟩
set_option maxRecDepth 100000 in
set_option maxHeartbeats 4000000 in
theorem i_FilterText_yes (k : Nat) (a b c x y : Nat) (w : World) (hf : fits .f32 a ∧ fits .f32 b ∧ fits .f32 c ∧ fits .f32 x ∧ fits .f32 y) (hk : k < 100) (hok : okF (k : Int) a b c x y = true) : Calls Tryd.prog 44 #[(.agg #[.int .i64 (k : Nat), .float .f32 a, .float .f32 b, .float .f32 c, .float .f32 x, .float .f32 y])] w (Out_t (txtF k a b c x y) w) := by
  have HV := hid (fun (w' : World) => i_ValidFilter k a b c x y w' hf)
  rw [hok] at HV
  clear hok
  obtain ⟨fa, fb, fc, fx, fy⟩ := hf
  have HC := hid (fun (w' : World) (g : Nat) (R : Row w' g 35 (#[.int .i64 (k : Nat), .float .f32 a, .float .f32 b, .float .f32 c, .float .f32 x, .float .f32 y] : Array Value)) => i_samplesText (tri a b c) ⟨g, 1, none⟩ 3 3 w' (by decide) (fun i hi => by match i, hi with | 0, _ => exact fa | 1, _ => exact fb | 2, _ => exact fc) (fun i hi => by rw [add_none, R.cell?]; match i, hi with | 0, _ => rfl | 1, _ => rfl | 2, _ => rfl))
  have HS := hid (fun (w' : World) (g : Nat) (R : Row w' g 35 (#[.int .i64 (k : Nat), .float .f32 a, .float .f32 b, .float .f32 c, .float .f32 x, .float .f32 y] : Array Value)) => i_samplesText (duo x y) ⟨g, 4, none⟩ 2 2 w' (by decide) (fun i hi => by match i, hi with | 0, _ => exact fx | 1, _ => exact fy) (fun i hi => by rw [add_none, R.cell?]; match i, hi with | 0, _ => rfl | 1, _ => rfl))
  have HD := hid (i_decimalS k hk)
  have ed := decT_sz100 hk
  clear fa fb fc fx fy
  have F := (Frg.nil w).box 35 (#[.int .i64 (k : Nat), .float .f32 a, .float .f32 b, .float .f32 c, .float .f32 x, .float .f32 y] : Array Value)
  go_enter Tryd.func44, Tryd.ntmps44
  go_wp2_with (first | ((with_reducible refine listN F ?_); clear F; intro wN F) | ((with_reducible refine at_load rfl ?_); (with_reducible refine wpList_loadG F rfl rfl rfl m0 Tryd.underlying35 rfl infoFil rfl ?_)) | (go_at_call 63; ((with_reducible refine (HV.out _).mono ?_); rintro e w1 ⟨rfl, hl1⟩; replace F := F.le hl1; clear hl1)))
  first | (refine wpAt0 F ?_; clear F; intro wN F) | (refine wpAtN F ?_; clear F; intro wN F)
  have FD := F.drewN 1
  refine region_freeD (E := leX) (fun f args _ v => v = .string (if f = 69 then decT k else (match args.toList with | [.slice _ 3 _] => txtS (tri a b c) 3 | _ => txtS (duo x y) 2))) (by kernel_rfl) (by kernel_rfl) ?_
  refine wpFreeD_one rfl (.pointer (some ⟨w.heap.size, 0, none⟩)) (fun w1 _ => by kernel_rfl) ?_
  simp only [Act.put, List.setIfInBounds_toArray, List.set_cons_succ, List.set_cons_zero]
  refine wpFreeD_load1 rfl rfl rfl (p := ⟨w.heap.size, 0, none⟩) (v := .int .i64 k) (fun w1 h1 => by rw [((FD.le h1).row m0).cell?]; rfl) ukindInt64 ?_
  simp only [Act.put, List.setIfInBounds_toArray, List.set_cons_succ, List.set_cons_zero]
  refine wpFreeD_callB rfl rfl Tryd.func69 (by kernel_rfl) (by kernel_rfl) (args := #[.int .i64 k]) (by simp [Act.eval]) (fun v w1 w2 hw hv => hv) (fun w1 hw1 _ => (HD.out w1).mono ?_) ?_
  · rintro e w2 ⟨rfl, hl⟩
    exact ⟨_, rfl, hl, rfl⟩
  rintro v ⟨_, _, _, hv⟩
  replace hv : v = .string (decT k) := hv
  subst hv
  simp only [Act.put, List.setIfInBounds_toArray, List.set_cons_succ, List.set_cons_zero]
  refine wpFreeD_one rfl (.pointer (some ⟨w.heap.size, 1, none⟩)) (fun w1 _ => by kernel_rfl) ?_
  simp only [Act.put, List.setIfInBounds_toArray, List.set_cons_succ, List.set_cons_zero]
  refine wpFreeD_one rfl (.slice (some ⟨w.heap.size, 1, none⟩) 3 3) (fun w1 _ => by kernel_rfl) ?_
  simp only [Act.put, List.setIfInBounds_toArray, List.set_cons_succ, List.set_cons_zero]
  refine wpFreeD_callB rfl rfl Tryd.func42 (by kernel_rfl) (by kernel_rfl) (args := #[.slice (some ⟨w.heap.size, 1, none⟩) 3 3]) (by simp [Act.eval]) (fun v w1 w2 hw hv => hv) (fun w1 hw1 _ => (HC.out w1 _ ((FD.le hw1).row m0)).mono ?_) ?_
  · rintro e w2 ⟨rfl, hl⟩
    exact ⟨_, rfl, hl, rfl⟩
  rintro v ⟨_, _, _, hv⟩
  replace hv : v = .string (txtS (tri a b c) 3) := hv
  subst hv
  simp only [Act.put, List.setIfInBounds_toArray, List.set_cons_succ, List.set_cons_zero]
  refine wpFreeD_one rfl (.pointer (some ⟨w.heap.size, 4, none⟩)) (fun w1 _ => by kernel_rfl) ?_
  simp only [Act.put, List.setIfInBounds_toArray, List.set_cons_succ, List.set_cons_zero]
  refine wpFreeD_one rfl (.slice (some ⟨w.heap.size, 4, none⟩) 2 2) (fun w1 _ => by kernel_rfl) ?_
  simp only [Act.put, List.setIfInBounds_toArray, List.set_cons_succ, List.set_cons_zero]
  refine wpFreeD_callB rfl rfl Tryd.func42 (by kernel_rfl) (by kernel_rfl) (args := #[.slice (some ⟨w.heap.size, 4, none⟩) 2 2]) (by simp [Act.eval]) (fun v w1 w2 hw hv => hv) (fun w1 hw1 _ => (HS.out w1 _ ((FD.le hw1).row m0)).mono ?_) ?_
  · rintro e w2 ⟨rfl, hl⟩
    exact ⟨_, rfl, hl, rfl⟩
  rintro v ⟨_, _, _, hv⟩
  replace hv : v = .string (txtS (duo x y) 2) := hv
  subst hv
  simp only [Act.put, List.setIfInBounds_toArray, List.set_cons_succ, List.set_cons_zero]
  refine wpFreeD_newN rfl (fun q => .slice (some ⟨q, 0, none⟩) 4 4) (fun b b' h => by simpa using h) 9 #[.string filW, .string (decT k), .string (txtS (tri a b c) 3), .string (txtS (duo x y) 2)] (fun w1 => ?_) (fun q => ?_)
  · have hb := mkStr4F filW (decT k) (txtS (tri a b c) 3) (txtS (duo x y) 2) w1
    unfold filW at hb ⊢
    simp [execOp, Act.eval, Result.andThen, hb]
  simp only [Act.put, List.setIfInBounds_toArray, List.set_cons_succ, List.set_cons_zero]
  refine wpFreeD_one rfl (.slice (some ⟨q, 0, none⟩) 4 4) (fun w1 _ => by kernel_rfl) ?_
  simp only [Act.put, List.setIfInBounds_toArray, List.set_cons_succ, List.set_cons_zero]
  refine wpFreeD_nil (fun wR hwR hF => ?_)
  obtain ⟨_, hq⟩ := (hF 9).1.2 rfl
  clear hF
  replace F := FD.le hwR
  clear hwR FD
  have HJ := hid (run_Join q 0 4 [filW, decT k, txtS (tri a b c) 3, txtS (duo x y) 2] spB 4 rfl wR (fun j z hj => by
    rw [Nat.zero_add, hq.cell?]
    match j, hj with
    | 0, hj => simp at hj; subst hj; rfl
    | 1, hj => simp at hj; subst hj; rfl
    | 2, hj => simp at hj; subst hj; rfl
    | 3, hj => simp at hj; subst hj; rfl
    | j + 4, hj => simp at hj) hq.lt (Nat.le_refl _) (by decide) (by
      have h1 := txtS_size (tri a b c) 3; have h2 := txtS_size (duo x y) 2
      have := jnB_size spB 1024 [filW, decT k, txtS (tri a b c) 3, txtS (duo x y) 2] (fun z hz => by
        simp only [List.mem_cons, List.not_mem_nil, or_false] at hz
        rcases hz with rfl | rfl | rfl | rfl
        · decide
        · omega
        · omega
        · omega)
      simp only [List.length_cons, List.length_nil] at this
      rw [show spB.size = 1 from rfl] at this
      omega))
  clear hq
  go_wp2_with (first | ((with_reducible refine listN F ?_); clear F; intro wN F) | (go_at_call 41; (refine HJ.out.mono ?_; rintro e w1 ⟨rfl, hl1⟩; replace F := F.le hl1; clear hl1)))
  go_ret
  exact ⟨rfl, F.below⟩
set_option maxRecDepth 100000 in
set_option maxHeartbeats 4000000 in
theorem s_FilterText_no (k : Int) (a b c x y : Nat) (w : World) (hok : okF k a b c x y = false) : Calls Tryd.prog 53 #[(.agg #[.int .i64 k, .float .f32 a, .float .f32 b, .float .f32 c, .float .f32 x, .float .f32 y])] w (Out_t ⟨#[]⟩ w) := by
  have HV := hid (fun (w' : World) (R : Row w' w.heap.size 35 (#[.int .i64 k, .float .f32 a, .float .f32 b, .float .f32 c, .float .f32 x, .float .f32 y] : Array Value)) => s_Ok k a b c x y w.heap.size w' R)
  rw [hok] at HV
  clear hok
  have F := (Frg.nil w).box 35 (#[.int .i64 k, .float .f32 a, .float .f32 b, .float .f32 c, .float .f32 x, .float .f32 y] : Array Value)
  go_enter Tryd.func53, Tryd.ntmps53
  go_wp2_with (first | ((with_reducible refine listN F ?_); clear F; intro wN F) | (go_at_call 50; ((with_reducible refine (HV.out _ (F.row m0)).mono ?_); rintro e w1 ⟨rfl, dn, rfl⟩; replace F := F.drewN dn)))
  go_ret
  exact ⟨rfl, F.below⟩
set_option maxRecDepth 100000 in
set_option maxHeartbeats 4000000 in
theorem s_FilterText_yes (k : Nat) (a b c x y : Nat) (w : World) (hf : fits .f32 a ∧ fits .f32 b ∧ fits .f32 c ∧ fits .f32 x ∧ fits .f32 y) (hk : k < 100) (hok : okF (k : Int) a b c x y = true) : Calls Tryd.prog 53 #[(.agg #[.int .i64 (k : Nat), .float .f32 a, .float .f32 b, .float .f32 c, .float .f32 x, .float .f32 y])] w (Out_t (txtF k a b c x y) w) := by
  have HV := hid (fun (w' : World) (R : Row w' w.heap.size 35 (#[.int .i64 (k : Nat), .float .f32 a, .float .f32 b, .float .f32 c, .float .f32 x, .float .f32 y] : Array Value)) => s_Ok k a b c x y w.heap.size w' R)
  rw [hok] at HV
  clear hok
  obtain ⟨fa, fb, fc, fx, fy⟩ := hf
  have HS := hid (fun j (hj : j < 3) => s_l01Hex (tri a b c j) (by match j, hj with | 0, _ => exact fa | 1, _ => exact fb | 2, _ => exact fc))
  have HX := hid (s_l01Hex x fx)
  have HY := hid (s_l01Hex y fy)
  have HA := hid (fun j (hj : j < 3) => show ((#[.int .i64 (k : Nat), .float .f32 a, .float .f32 b, .float .f32 c, .float .f32 x, .float .f32 y] : Array Value))[1 + j]? = some (.float .f32 (tri a b c j)) by match j, hj with | 0, _ => rfl | 1, _ => rfl | 2, _ => rfl)
  have HD := hid (s_Decimal k (by omega))
  have ed := decT_sz100 hk
  have ef : filWb.size = 7 := rfl
  clear fa fb fc fx fy
  have F := (Frg.nil w).box 35 (#[.int .i64 (k : Nat), .float .f32 a, .float .f32 b, .float .f32 c, .float .f32 x, .float .f32 y] : Array Value)
  obtain ⟨S, hS⟩ : ∃ S, S = filWb ++ decT k := ⟨_, rfl⟩
  have es : S.size ≤ 26 := by rw [hS, ByteArray.size_append]; omega
  have HSS := hid hS
  clear hS
  go_enter Tryd.func53, Tryd.ntmps53
  go_wp2_with (first | ((with_reducible refine listN F ?_); clear F; intro wN F) | (go_at_call 50; ((with_reducible refine (HV.out _ (F.row m0)).mono ?_); rintro e w1 ⟨rfl, dn, rfl⟩; replace F := F.drewN dn)) | ((with_reducible refine at_load rfl ?_); (refine wpList_load1 F rfl rfl rfl m0 (f := 0) (v := .int .i64 k) rfl ukindInt64 ?_)) | (go_at_call 76; ((with_reducible refine (HD.out _).mono ?_); rintro e w1 ⟨rfl, hl1⟩; replace F := F.le hl1; clear hl1)))
  go_loopw [3, 4] (fun q i wr => ∃ j : Nat, j ≤ 3 ∧ i = .int .i64 j ∧ q = .string (S ++ samL (tri a b c) j) ∧ Hid (Frg w wr [rowF w.heap.size 35 (#[.int .i64 (k : Nat), .float .f32 a, .float .f32 b, .float .f32 c, .float .f32 x, .float .f32 y] : Array Value)])) (fun _ i _ => 3 - (intOf i).toNat)
  case atStart => exact ⟨0, by omega, rfl, by rw [HSS.out]; congr 1; apply ba_ext; simp [samL, filWb], F⟩
  case round =>
    obtain ⟨j, hj, rfl, rfl, FJ⟩ := hrel
    rename_i wr _
    clear F
    have F := FJ.out
    clear FJ
    by_cases hlt : j < 3
    · have HT := hid (HS.out j hlt)
      have HG := hid (HA.out j hlt)
      have ez := samL_size (tri a b c) j
      have e2 : (S ++ samL (tri a b c) j).size ≤ 60 := by rw [ByteArray.size_append]; omega
      have eh := hexT_size (can .f32 (tri a b c j))
      have EN := hid (show S ++ samL (tri a b c) (j + 1) = (S ++ samL (tri a b c) j) ++ (spB ++ hexT (can .f32 (tri a b c j))) by rw [samL, ba_assoc])
      obtain ⟨Z, hZ⟩ : ∃ Z, Z = S ++ samL (tri a b c) j := ⟨_, rfl⟩
      rw [← hZ] at EN e2 ⊢
      clear hZ
      go_wp2_with (first | ((with_reducible refine listN F ?_); clear F; intro wN F) | ((with_reducible refine at_load rfl ?_); (refine wpList_load1 F rfl rfl rfl m0 (f := 1 + j) (v := .float .f32 (tri a b c j)) HG.out ukindFloat32 ?_)) | (go_at_call 75; ((with_reducible refine (HT.out _).mono ?_); rintro e w1 ⟨rfl, hl1⟩; replace F := F.le hl1; clear hl1)))
      go_roundw
      case rel => exact ⟨j + 1, by omega, by go_num, by rw [EN.out]; rfl, F⟩
      case measure => simp [intOf]; omega
    · obtain rfl : j = 3 := by omega
      have ez := samL_size (tri a b c) 3
      have e2 : (S ++ samL (tri a b c) 3).size ≤ 60 := by rw [ByteArray.size_append]; omega
      have EN := hid (show (S ++ samL (tri a b c) 3) ++ spB ++ hexT (can .f32 x) ++ spB ++ hexT (can .f32 y) = txtF k a b c x y by rw [HSS.out]; exact txtF_eq k a b c x y)
      obtain ⟨Z, hZ⟩ : ∃ Z, Z = S ++ samL (tri a b c) 3 := ⟨_, rfl⟩
      rw [← hZ] at EN e2 ⊢
      clear hZ
      have hx8 := hexT_size (can .f32 x)
      have hy8 := hexT_size (can .f32 y)
      have e1 : spB.size = 1 := rfl
      go_wp2_with fail
      first | (refine wpAt0 F ?_; clear F; intro wN F) | (refine wpAtN F ?_; clear F; intro wN F)
      have FD := F.drewN 1
      refine region_freeD (E := leX) (fun _ args _ v => v = .string (hexA args)) (by kernel_rfl) (by kernel_rfl) ?_
      refine wpFreeD_one rfl (.string Z) (fun w1 _ => by kernel_rfl) ?_
      simp only [Act.put, List.setIfInBounds_toArray, List.set_cons_succ, List.set_cons_zero]
      refine wpFreeD_cat rfl rfl (s := Z) (r := spB) rfl rfl (by first | omega | (simp only [ByteArray.size_append]; omega)) (q := Z ++ spB) rfl ?_
      simp only [Act.put, List.setIfInBounds_toArray, List.set_cons_succ, List.set_cons_zero]
      refine wpFreeD_one rfl (.pointer (some ⟨w.heap.size, 4, none⟩)) (fun w1 _ => by kernel_rfl) ?_
      simp only [Act.put, List.setIfInBounds_toArray, List.set_cons_succ, List.set_cons_zero]
      refine wpFreeD_one rfl (.pointer (some ⟨w.heap.size, 4, none⟩)) (fun w1 _ => by kernel_rfl) ?_
      simp only [Act.put, List.setIfInBounds_toArray, List.set_cons_succ, List.set_cons_zero]
      refine wpFreeD_load1 rfl rfl rfl (p := ⟨w.heap.size, 4, none⟩) (v := .float .f32 x) (fun w1 h1 => by rw [((FD.le h1).row m0).cell?]; rfl) ukindFloat32 ?_
      simp only [Act.put, List.setIfInBounds_toArray, List.set_cons_succ, List.set_cons_zero]
      refine wpFreeD_callB rfl rfl Tryd.func75 (by kernel_rfl) (by kernel_rfl) (args := #[.float .f32 x]) (by simp [Act.eval]) (fun v w1 w2 hw hv => hv) (fun w1 hw1 _ => (HX.out w1).mono ?_) ?_
      · rintro e w2 ⟨rfl, hl⟩
        exact ⟨_, rfl, hl, rfl⟩
      rintro v ⟨_, _, _, hv⟩
      replace hv : v = .string (hexT (can .f32 x)) := hv
      subst hv
      simp only [Act.put, List.setIfInBounds_toArray, List.set_cons_succ, List.set_cons_zero]
      refine wpFreeD_cat rfl rfl (s := (Z ++ spB)) (r := (hexT (can .f32 x))) rfl rfl (by first | omega | (simp only [ByteArray.size_append]; omega)) (q := Z ++ spB ++ hexT (can .f32 x)) rfl ?_
      simp only [Act.put, List.setIfInBounds_toArray, List.set_cons_succ, List.set_cons_zero]
      refine wpFreeD_cat rfl rfl (s := (Z ++ spB ++ hexT (can .f32 x))) (r := spB) rfl rfl (by first | omega | (simp only [ByteArray.size_append]; omega)) (q := Z ++ spB ++ hexT (can .f32 x) ++ spB) rfl ?_
      simp only [Act.put, List.setIfInBounds_toArray, List.set_cons_succ, List.set_cons_zero]
      refine wpFreeD_one rfl (.pointer (some ⟨w.heap.size, 4, none⟩)) (fun w1 _ => by kernel_rfl) ?_
      simp only [Act.put, List.setIfInBounds_toArray, List.set_cons_succ, List.set_cons_zero]
      refine wpFreeD_one rfl (.pointer (some ⟨w.heap.size, 5, none⟩)) (fun w1 _ => by kernel_rfl) ?_
      simp only [Act.put, List.setIfInBounds_toArray, List.set_cons_succ, List.set_cons_zero]
      refine wpFreeD_load1 rfl rfl rfl (p := ⟨w.heap.size, 5, none⟩) (v := .float .f32 y) (fun w1 h1 => by rw [((FD.le h1).row m0).cell?]; rfl) ukindFloat32 ?_
      simp only [Act.put, List.setIfInBounds_toArray, List.set_cons_succ, List.set_cons_zero]
      refine wpFreeD_callB rfl rfl Tryd.func75 (by kernel_rfl) (by kernel_rfl) (args := #[.float .f32 y]) (by simp [Act.eval]) (fun v w1 w2 hw hv => hv) (fun w1 hw1 _ => (HY.out w1).mono ?_) ?_
      · rintro e w2 ⟨rfl, hl⟩
        exact ⟨_, rfl, hl, rfl⟩
      rintro v ⟨_, _, _, hv⟩
      replace hv : v = .string (hexT (can .f32 y)) := hv
      subst hv
      simp only [Act.put, List.setIfInBounds_toArray, List.set_cons_succ, List.set_cons_zero]
      refine wpFreeD_cat rfl rfl (s := (Z ++ spB ++ hexT (can .f32 x) ++ spB)) (r := (hexT (can .f32 y))) rfl rfl (by first | omega | (simp only [ByteArray.size_append]; omega)) (q := txtF k a b c x y) EN.out ?_
      simp only [Act.put, List.setIfInBounds_toArray, List.set_cons_succ, List.set_cons_zero]
      refine wpFreeD_one rfl (.string (txtF k a b c x y)) (fun w1 _ => by kernel_rfl) ?_
      simp only [Act.put, List.setIfInBounds_toArray, List.set_cons_succ, List.set_cons_zero]
      refine wpFreeD_nil (fun wR hwR _ => ?_)
      replace F := FD.le hwR
      clear hwR FD
      go_wp2
      go_ret
      exact ⟨rfl, F.below⟩
theorem okF_k {k : Int} {a b c x y : Nat} (h : okF k a b c x y = true) : ∃ n : Nat, k = n ∧ n < 100 := by
  unfold okF at h
  simp only [Bool.and_eq_true, decide_eq_true_eq] at h
  exact ⟨k.toNat, by omega, by omega⟩
/-- The text of a filter, or none. -/
def filT (k : Int) (a b c x y : Nat) : ByteArray := if okF k a b c x y then txtF k.toNat a b c x y else ⟨#[]⟩
theorem i_FilterText (k : Int) (a b c x y : Nat) (w : World) (hf : fits .f32 a ∧ fits .f32 b ∧ fits .f32 c ∧ fits .f32 x ∧ fits .f32 y) : Calls Tryd.prog 44 #[(.agg #[.int .i64 k, .float .f32 a, .float .f32 b, .float .f32 c, .float .f32 x, .float .f32 y])] w (Out_t (filT k a b c x y) w) := by
  unfold filT
  cases hok : okF k a b c x y
  · simpa using i_FilterText_no k a b c x y w hf hok
  · obtain ⟨n, rfl, hn⟩ := okF_k hok
    simpa using i_FilterText_yes n a b c x y w hf hn hok
theorem s_FilterText (k : Int) (a b c x y : Nat) (w : World) (hf : fits .f32 a ∧ fits .f32 b ∧ fits .f32 c ∧ fits .f32 x ∧ fits .f32 y) : Calls Tryd.prog 53 #[(.agg #[.int .i64 k, .float .f32 a, .float .f32 b, .float .f32 c, .float .f32 x, .float .f32 y])] w (Out_t (filT k a b c x y) w) := by
  unfold filT
  cases hok : okF k a b c x y
  · simpa using s_FilterText_no k a b c x y w hok
  · obtain ⟨n, rfl, hn⟩ := okF_k hok
    simpa using s_FilterText_yes n a b c x y w hf hn hok
end Go.Proofs.YtjihkfemejhllaaDoor

/- The library's table of powers of ten: it stays where it is. -/
namespace Go.Proofs.YtjihkfemejhllaaDoor
open Go.RowKit Go.Fk
theorem Tab10.le {w w' : World} (h : Tab10 w) (hl : Go.Fk.le w w') : Tab10 w' := by
  have hg : Tryd.prog.globalNamed "internal/strconv.uint64pow10" = some 2 := by kernel_rfl
  unfold Tab10 Lib.TabIs World.var? at h ⊢
  rw [hg] at h ⊢
  simp only [Option.bind_some] at h ⊢
  have hlt : 2 < w.heap.size := by
    rcases Nat.lt_or_ge 2 w.heap.size with h' | h'
    · exact h'
    · rw [Array.getElem?_eq_none h'] at h; cases h
  rw [hl.block _ hlt]
  exact h
theorem tabIs_of_mem {P : Program} {W : World} {name : String} {k : IntKind} {zs : List Int} {g : Nat} {t e : TypeId} {n : Nat}
    (hg : P.globalNamed name = some g) (hty : (P.globals[g]?).map (·.type) = some t) (ht : P.underlying t = some (.array n e)) (he : P.underlying e = some (.int k)) (hce : P.cellsOf e = 1) (hct : P.cellsOf t = n) :
    ∀ (l : List (String × DataW Unit)) (ps : List MemPlace), DataW.LaidVars P W l ps → (name, Lib.tabData k zs) ∈ l → Lib.TabIs P W name k zs
  | [], _, _, hm => by cases hm
  | (nm, d) :: l, ps, h, hm => by
    obtain ⟨g', t', cs, fuel, p, q, hg', ht', hvar, hd, hrest, _⟩ := h
    rcases List.mem_cons.1 hm with hm | hm
    · simp only [Prod.mk.injEq] at hm
      obtain ⟨rfl, rfl⟩ := hm
      obtain rfl := Option.some.inj (hg.symm.trans hg')
      obtain rfl := Option.some.inj (hty.symm.trans ht')
      unfold Lib.TabIs
      rw [hvar, ← Lib.cells_of_tab ht he hce hct hd]
    · exact tabIs_of_mem hg hty ht he hce hct l q hrest hm
theorem tab10_of {W : World} {l : List (String × DataW Unit)} (h : laidMet Tryd.prog l W) (hm : ("internal/strconv.uint64pow10", Lib.tabData .u64 Lib.pow10Tab) ∈ l) : Tab10 W := by
  obtain ⟨ps, h, _⟩ := h
  exact tabIs_of_mem (g := 2) (t := 160) (e := 153) (n := 20) (by kernel_rfl) (by kernel_rfl) Tryd.underlying160 Tryd.underlying153 (by kernel_rfl) (by kernel_rfl) l ps h hm
end Go.Proofs.YtjihkfemejhllaaDoor

/- 'isWithin'. -/
namespace Go.Fk
open Go Go.RowKit
/-- Is a number from one to another? Not NaN. -/
def withinB (a l g : Nat) : Bool := (FloatKind.f32.format.order a l == some .gt || FloatKind.f32.format.order a l == some .eq) && (FloatKind.f32.format.order a g == some .lt || FloatKind.f32.format.order a g == some .eq)
end Go.Fk
namespace Go.Proofs.YtjihkfemejhllaaDoor
open Go.RowKit Go.Fk
theorem i_isWithin (a l g : Nat) (w : World) : Calls Tryd.prog 84 #[.float .f32 a, .float .f32 l, .float .f32 g] w fun e w' => e = .returned (.bool (withinB a l g)) ∧ w = w' := by
  rcases h0 : FloatKind.f32.format.order a l with _ | (_ | _ | _) <;> rcases h1 : FloatKind.f32.format.order a g with _ | (_ | _ | _)
  all_goals
    go_enter Tryd.func84, Tryd.ntmps84
    go_wp2
    go_ret
    exact ⟨ret_b (by unfold withinB; rw [h0, h1]; rfl), rfl⟩
end Go.Proofs.YtjihkfemejhllaaDoor
