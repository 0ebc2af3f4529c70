/- Texts of the walk, laid in one file. -/
import Derived.OwnWalk
import Derived.Deep.AppendLies
import Derived.Great.BuildSlice
import Derived.Test.YtjcbolllohmjjaaMd
set_option linter.unusedVariables false
set_option linter.unusedSimpArgs false
/- What grows by append, beside facts of memory. Nothing here names a program. -/
namespace Go.Fk
open Go Go.RowKit
theorem ownsRow_chS {S : Nat → Prop} {w w' : World} {e : TypeId} {n B : Nat} {xs : List Value} {v : Value} (hw : Chg S w w') (h : w.ownsRow B e 1 v n xs) (hS : ∀ i, S i → i < B) : w'.ownsRow B e 1 v n xs := by
  obtain ⟨h1, h2⟩ := h
  refine ⟨h1, ?_⟩
  rcases h2 with h2 | ⟨q, cap, cur, e1, e2, e3, e4⟩
  · exact .inl h2
  · exact .inr ⟨q, cap, cur, e1, e2, by have := hw.row (g := q) (t := e) (cs := cur) e3 (fun hq => by have := hS q hq; omega); exact this, e4⟩
theorem ownBlock_ge {w : World} {B : Nat} {e : TypeId} {z : Nat} {v : Value} {n : Nat} {xs : List Value} (h : w.ownsRow B e z v n xs) : ∀ k, v.ownBlock = some k → B ≤ k := by
  rcases h.2 with ⟨rfl, _⟩ | ⟨q, cap, cur, rfl, hb, _⟩
  · intro k hk; cases hk
  · intro k hk; simp only [Value.ownBlock, Option.some.injEq] at hk; omega
theorem chg_grown {w w' : World} {row : Option Nat} {B : Nat} (h : w.grownBy w' row) (hr : ∀ k, row = some k → B ≤ k) : Chg (B ≤ ·) w w' :=
  ⟨h.os, h.tape, h.output, h.size, fun k hk hn => h.block k hk (fun e => hn (hr k e.symm))⟩
theorem Frg.up {w0 w w' : World} {L : List Fact} {B : Nat} (h : Frg w0 w L) (k : Chg (B ≤ ·) w w') (hB : ∀ e ∈ L, e.hi ≤ B) (h0 : w0.heap.size ≤ B) : Frg w0 w' L :=
  ⟨h.below.trans (k.below (fun i hi => Nat.le_trans h0 hi) h.size), fun e he => by
    obtain ⟨h1, h2, h3⟩ := h.facts e he
    exact ⟨h1, Nat.le_trans h2 k.size, e.ok w w' h3 (fun i _ hi => k.block i (by omega) (fun hb => by have := hB e he; omega))⟩, h.apart⟩
theorem flist_snoc (y : Nat → Nat) (n a : Nat) : flist y n ++ [.float .f32 a] = flist (fun j => if j = n then a else y j) (n + 1) := by
  have h := flist_app y (fun _ => a) n 1
  have h1 : flist (fun _ => a) 1 = [.float .f32 a] := by simp [flist]
  rw [h1] at h
  rw [h]
  apply List.ext_getElem?
  intro i
  by_cases hi : i < n + 1
  · rw [flist_get' _ hi, flist_get' _ hi]
    by_cases e : i = n
    · simp [e]
    · simp [e, show i < n by omega]
  · rw [List.getElem?_eq_none (by rw [flist_length]; omega), List.getElem?_eq_none (by rw [flist_length]; omega)]
theorem Frg.own2 {w0 w w' : World} {L : List Fact} {q n n' : Nat} {s s' : Value} {x x' : Nat → Nat} (h : Frg w0 w L) (k : Below w.heap.size w w') (h1 : w.heap.size ≤ q) (h2 : q ≤ w'.heap.size) (o1 : OwnS w' w.heap.size q s x n) (o2 : OwnS w' q w'.heap.size s' x' n') :
    Frg w0 w' (ownF q w'.heap.size s' x' n' :: ownF w.heap.size q s x n :: L) := by
  refine ⟨(h.le k).below, fun e he => ?_, .cons (fun e he => ?_) (.cons (fun e he => (h.facts e he).2.1) h.apart)⟩
  · rcases List.mem_cons.1 he with rfl | he
    · exact ⟨Nat.le_trans h.size h1, Nat.le_refl _, o2⟩
    · rcases List.mem_cons.1 he with rfl | he
      · exact ⟨h.size, h2, o1⟩
      · exact (h.le k).facts e he
  · rcases List.mem_cons.1 he with rfl | he
    · exact Nat.le_refl q
    · exact Nat.le_trans (h.facts e he).2.1 h1
theorem m12 {b0 b1 b2 b3 b4 b5 b6 b7 b8 b9 b10 b11 a : Fact} {l : List Fact} : a ∈ b0 :: b1 :: b2 :: b3 :: b4 :: b5 :: b6 :: b7 :: b8 :: b9 :: b10 :: b11 :: a :: l := List.mem_cons_of_mem _ (List.mem_cons_of_mem _ (List.mem_cons_of_mem _ (List.mem_cons_of_mem _ (List.mem_cons_of_mem _ (List.mem_cons_of_mem _ (List.mem_cons_of_mem _ (List.mem_cons_of_mem _ (List.mem_cons_of_mem _ (List.mem_cons_of_mem _ (List.mem_cons_of_mem _ (List.mem_cons_of_mem _ (List.mem_cons_self))))))))))))
theorem m13 {b0 b1 b2 b3 b4 b5 b6 b7 b8 b9 b10 b11 b12 a : Fact} {l : List Fact} : a ∈ b0 :: b1 :: b2 :: b3 :: b4 :: b5 :: b6 :: b7 :: b8 :: b9 :: b10 :: b11 :: b12 :: a :: l := List.mem_cons_of_mem _ (List.mem_cons_of_mem _ (List.mem_cons_of_mem _ (List.mem_cons_of_mem _ (List.mem_cons_of_mem _ (List.mem_cons_of_mem _ (List.mem_cons_of_mem _ (List.mem_cons_of_mem _ (List.mem_cons_of_mem _ (List.mem_cons_of_mem _ (List.mem_cons_of_mem _ (List.mem_cons_of_mem _ (List.mem_cons_of_mem _ (List.mem_cons_self)))))))))))))
theorem m14 {b0 b1 b2 b3 b4 b5 b6 b7 b8 b9 b10 b11 b12 b13 a : Fact} {l : List Fact} : a ∈ b0 :: b1 :: b2 :: b3 :: b4 :: b5 :: b6 :: b7 :: b8 :: b9 :: b10 :: b11 :: b12 :: b13 :: a :: l := List.mem_cons_of_mem _ (List.mem_cons_of_mem _ (List.mem_cons_of_mem _ (List.mem_cons_of_mem _ (List.mem_cons_of_mem _ (List.mem_cons_of_mem _ (List.mem_cons_of_mem _ (List.mem_cons_of_mem _ (List.mem_cons_of_mem _ (List.mem_cons_of_mem _ (List.mem_cons_of_mem _ (List.mem_cons_of_mem _ (List.mem_cons_of_mem _ (List.mem_cons_of_mem _ (List.mem_cons_self))))))))))))))
theorem m15 {b0 b1 b2 b3 b4 b5 b6 b7 b8 b9 b10 b11 b12 b13 b14 a : Fact} {l : List Fact} : a ∈ b0 :: b1 :: b2 :: b3 :: b4 :: b5 :: b6 :: b7 :: b8 :: b9 :: b10 :: b11 :: b12 :: b13 :: b14 :: a :: l := List.mem_cons_of_mem _ (List.mem_cons_of_mem _ (List.mem_cons_of_mem _ (List.mem_cons_of_mem _ (List.mem_cons_of_mem _ (List.mem_cons_of_mem _ (List.mem_cons_of_mem _ (List.mem_cons_of_mem _ (List.mem_cons_of_mem _ (List.mem_cons_of_mem _ (List.mem_cons_of_mem _ (List.mem_cons_of_mem _ (List.mem_cons_of_mem _ (List.mem_cons_of_mem _ (List.mem_cons_of_mem _ (List.mem_cons_self)))))))))))))))
theorem m16 {b0 b1 b2 b3 b4 b5 b6 b7 b8 b9 b10 b11 b12 b13 b14 b15 a : Fact} {l : List Fact} : a ∈ b0 :: b1 :: b2 :: b3 :: b4 :: b5 :: b6 :: b7 :: b8 :: b9 :: b10 :: b11 :: b12 :: b13 :: b14 :: b15 :: a :: l := List.mem_cons_of_mem _ (List.mem_cons_of_mem _ (List.mem_cons_of_mem _ (List.mem_cons_of_mem _ (List.mem_cons_of_mem _ (List.mem_cons_of_mem _ (List.mem_cons_of_mem _ (List.mem_cons_of_mem _ (List.mem_cons_of_mem _ (List.mem_cons_of_mem _ (List.mem_cons_of_mem _ (List.mem_cons_of_mem _ (List.mem_cons_of_mem _ (List.mem_cons_of_mem _ (List.mem_cons_of_mem _ (List.mem_cons_of_mem _ (List.mem_cons_self))))))))))))))))
theorem m17 {b0 b1 b2 b3 b4 b5 b6 b7 b8 b9 b10 b11 b12 b13 b14 b15 b16 a : Fact} {l : List Fact} : a ∈ b0 :: b1 :: b2 :: b3 :: b4 :: b5 :: b6 :: b7 :: b8 :: b9 :: b10 :: b11 :: b12 :: b13 :: b14 :: b15 :: b16 :: a :: l := List.mem_cons_of_mem _ (List.mem_cons_of_mem _ (List.mem_cons_of_mem _ (List.mem_cons_of_mem _ (List.mem_cons_of_mem _ (List.mem_cons_of_mem _ (List.mem_cons_of_mem _ (List.mem_cons_of_mem _ (List.mem_cons_of_mem _ (List.mem_cons_of_mem _ (List.mem_cons_of_mem _ (List.mem_cons_of_mem _ (List.mem_cons_of_mem _ (List.mem_cons_of_mem _ (List.mem_cons_of_mem _ (List.mem_cons_of_mem _ (List.mem_cons_of_mem _ (List.mem_cons_self)))))))))))))))))
theorem m18 {b0 b1 b2 b3 b4 b5 b6 b7 b8 b9 b10 b11 b12 b13 b14 b15 b16 b17 a : Fact} {l : List Fact} : a ∈ b0 :: b1 :: b2 :: b3 :: b4 :: b5 :: b6 :: b7 :: b8 :: b9 :: b10 :: b11 :: b12 :: b13 :: b14 :: b15 :: b16 :: b17 :: a :: l := List.mem_cons_of_mem _ (List.mem_cons_of_mem _ (List.mem_cons_of_mem _ (List.mem_cons_of_mem _ (List.mem_cons_of_mem _ (List.mem_cons_of_mem _ (List.mem_cons_of_mem _ (List.mem_cons_of_mem _ (List.mem_cons_of_mem _ (List.mem_cons_of_mem _ (List.mem_cons_of_mem _ (List.mem_cons_of_mem _ (List.mem_cons_of_mem _ (List.mem_cons_of_mem _ (List.mem_cons_of_mem _ (List.mem_cons_of_mem _ (List.mem_cons_of_mem _ (List.mem_cons_of_mem _ (List.mem_cons_self))))))))))))))))))
theorem m19 {b0 b1 b2 b3 b4 b5 b6 b7 b8 b9 b10 b11 b12 b13 b14 b15 b16 b17 b18 a : Fact} {l : List Fact} : a ∈ b0 :: b1 :: b2 :: b3 :: b4 :: b5 :: b6 :: b7 :: b8 :: b9 :: b10 :: b11 :: b12 :: b13 :: b14 :: b15 :: b16 :: b17 :: b18 :: a :: l := List.mem_cons_of_mem _ (List.mem_cons_of_mem _ (List.mem_cons_of_mem _ (List.mem_cons_of_mem _ (List.mem_cons_of_mem _ (List.mem_cons_of_mem _ (List.mem_cons_of_mem _ (List.mem_cons_of_mem _ (List.mem_cons_of_mem _ (List.mem_cons_of_mem _ (List.mem_cons_of_mem _ (List.mem_cons_of_mem _ (List.mem_cons_of_mem _ (List.mem_cons_of_mem _ (List.mem_cons_of_mem _ (List.mem_cons_of_mem _ (List.mem_cons_of_mem _ (List.mem_cons_of_mem _ (List.mem_cons_of_mem _ (List.mem_cons_self)))))))))))))))))))
theorem Frg.mark10 {w0 w w' : World} {lo hi n : Nat} {s : Value} {x x' : Nat → Nat} {l : List Fact} {b0 b1 b2 b3 b4 b5 b6 b7 b8 b9 : Fact} (h : Frg w0 w (b0 :: b1 :: b2 :: b3 :: b4 :: b5 :: b6 :: b7 :: b8 :: b9 :: ownF lo hi s x n :: l)) (hp : OwnS w' lo hi s x' n) (k : Chg (rng lo hi) w w') : Frg w0 w' (b0 :: b1 :: b2 :: b3 :: b4 :: b5 :: b6 :: b7 :: b8 :: b9 :: ownF lo hi s x' n :: l) :=
  Frg.chg [b0, b1, b2, b3, b4, b5, b6, b7, b8, b9] (e := ownF lo hi s x n) (e' := ownF lo hi s x' n) h k hp rfl rfl
theorem Frg.mark11 {w0 w w' : World} {lo hi n : Nat} {s : Value} {x x' : Nat → Nat} {l : List Fact} {b0 b1 b2 b3 b4 b5 b6 b7 b8 b9 b10 : Fact} (h : Frg w0 w (b0 :: b1 :: b2 :: b3 :: b4 :: b5 :: b6 :: b7 :: b8 :: b9 :: b10 :: ownF lo hi s x n :: l)) (hp : OwnS w' lo hi s x' n) (k : Chg (rng lo hi) w w') : Frg w0 w' (b0 :: b1 :: b2 :: b3 :: b4 :: b5 :: b6 :: b7 :: b8 :: b9 :: b10 :: ownF lo hi s x' n :: l) :=
  Frg.chg [b0, b1, b2, b3, b4, b5, b6, b7, b8, b9, b10] (e := ownF lo hi s x n) (e' := ownF lo hi s x' n) h k hp rfl rfl
theorem Frg.mark12 {w0 w w' : World} {lo hi n : Nat} {s : Value} {x x' : Nat → Nat} {l : List Fact} {b0 b1 b2 b3 b4 b5 b6 b7 b8 b9 b10 b11 : Fact} (h : Frg w0 w (b0 :: b1 :: b2 :: b3 :: b4 :: b5 :: b6 :: b7 :: b8 :: b9 :: b10 :: b11 :: ownF lo hi s x n :: l)) (hp : OwnS w' lo hi s x' n) (k : Chg (rng lo hi) w w') : Frg w0 w' (b0 :: b1 :: b2 :: b3 :: b4 :: b5 :: b6 :: b7 :: b8 :: b9 :: b10 :: b11 :: ownF lo hi s x' n :: l) :=
  Frg.chg [b0, b1, b2, b3, b4, b5, b6, b7, b8, b9, b10, b11] (e := ownF lo hi s x n) (e' := ownF lo hi s x' n) h k hp rfl rfl
theorem Frg.mark13 {w0 w w' : World} {lo hi n : Nat} {s : Value} {x x' : Nat → Nat} {l : List Fact} {b0 b1 b2 b3 b4 b5 b6 b7 b8 b9 b10 b11 b12 : Fact} (h : Frg w0 w (b0 :: b1 :: b2 :: b3 :: b4 :: b5 :: b6 :: b7 :: b8 :: b9 :: b10 :: b11 :: b12 :: ownF lo hi s x n :: l)) (hp : OwnS w' lo hi s x' n) (k : Chg (rng lo hi) w w') : Frg w0 w' (b0 :: b1 :: b2 :: b3 :: b4 :: b5 :: b6 :: b7 :: b8 :: b9 :: b10 :: b11 :: b12 :: ownF lo hi s x' n :: l) :=
  Frg.chg [b0, b1, b2, b3, b4, b5, b6, b7, b8, b9, b10, b11, b12] (e := ownF lo hi s x n) (e' := ownF lo hi s x' n) h k hp rfl rfl
theorem Frg.mark14 {w0 w w' : World} {lo hi n : Nat} {s : Value} {x x' : Nat → Nat} {l : List Fact} {b0 b1 b2 b3 b4 b5 b6 b7 b8 b9 b10 b11 b12 b13 : Fact} (h : Frg w0 w (b0 :: b1 :: b2 :: b3 :: b4 :: b5 :: b6 :: b7 :: b8 :: b9 :: b10 :: b11 :: b12 :: b13 :: ownF lo hi s x n :: l)) (hp : OwnS w' lo hi s x' n) (k : Chg (rng lo hi) w w') : Frg w0 w' (b0 :: b1 :: b2 :: b3 :: b4 :: b5 :: b6 :: b7 :: b8 :: b9 :: b10 :: b11 :: b12 :: b13 :: ownF lo hi s x' n :: l) :=
  Frg.chg [b0, b1, b2, b3, b4, b5, b6, b7, b8, b9, b10, b11, b12, b13] (e := ownF lo hi s x n) (e' := ownF lo hi s x' n) h k hp rfl rfl
theorem Frg.mark15 {w0 w w' : World} {lo hi n : Nat} {s : Value} {x x' : Nat → Nat} {l : List Fact} {b0 b1 b2 b3 b4 b5 b6 b7 b8 b9 b10 b11 b12 b13 b14 : Fact} (h : Frg w0 w (b0 :: b1 :: b2 :: b3 :: b4 :: b5 :: b6 :: b7 :: b8 :: b9 :: b10 :: b11 :: b12 :: b13 :: b14 :: ownF lo hi s x n :: l)) (hp : OwnS w' lo hi s x' n) (k : Chg (rng lo hi) w w') : Frg w0 w' (b0 :: b1 :: b2 :: b3 :: b4 :: b5 :: b6 :: b7 :: b8 :: b9 :: b10 :: b11 :: b12 :: b13 :: b14 :: ownF lo hi s x' n :: l) :=
  Frg.chg [b0, b1, b2, b3, b4, b5, b6, b7, b8, b9, b10, b11, b12, b13, b14] (e := ownF lo hi s x n) (e' := ownF lo hi s x' n) h k hp rfl rfl
theorem Frg.mark16 {w0 w w' : World} {lo hi n : Nat} {s : Value} {x x' : Nat → Nat} {l : List Fact} {b0 b1 b2 b3 b4 b5 b6 b7 b8 b9 b10 b11 b12 b13 b14 b15 : Fact} (h : Frg w0 w (b0 :: b1 :: b2 :: b3 :: b4 :: b5 :: b6 :: b7 :: b8 :: b9 :: b10 :: b11 :: b12 :: b13 :: b14 :: b15 :: ownF lo hi s x n :: l)) (hp : OwnS w' lo hi s x' n) (k : Chg (rng lo hi) w w') : Frg w0 w' (b0 :: b1 :: b2 :: b3 :: b4 :: b5 :: b6 :: b7 :: b8 :: b9 :: b10 :: b11 :: b12 :: b13 :: b14 :: b15 :: ownF lo hi s x' n :: l) :=
  Frg.chg [b0, b1, b2, b3, b4, b5, b6, b7, b8, b9, b10, b11, b12, b13, b14, b15] (e := ownF lo hi s x n) (e' := ownF lo hi s x' n) h k hp rfl rfl
end Go.Fk

/- An append to a row of one's own in a region that draws its order: elements of any width. Nothing here names a program. -/
namespace Go.Fk
open Go Go.RowKit
theorem ownsRow_keep {w w' : World} {B : Nat} {e : TypeId} {z : Nat} {v : Value} {n : Nat} {xs : List Value} {S : Nat → Prop} (h : w.ownsRow B e z v n xs) (hw : Chg S w w') (hS : ∀ k, v.ownBlock = some k → ¬ S k) : w'.ownsRow B e z v n xs := by
  obtain ⟨h1, h2⟩ := h
  refine ⟨h1, ?_⟩
  rcases h2 with h2 | ⟨q, cap, cur, e1, e2, e3, e4⟩
  · exact .inl h2
  · exact .inr ⟨q, cap, cur, e1, e2, by have := hw.row (g := q) (t := e) (cs := cur) e3 (hS q (by rw [e1]; rfl)); exact this, e4⟩
theorem ownsRow_mono {w : World} {B B' : Nat} {e : TypeId} {z : Nat} {v : Value} {n : Nat} {xs : List Value} (h : w.ownsRow B e z v n xs) (hb : B' ≤ B) : w.ownsRow B' e z v n xs := by
  obtain ⟨h1, h2⟩ := h
  refine ⟨h1, ?_⟩
  rcases h2 with h2 | ⟨q, cap, cur, e1, e2, e3⟩
  · exact .inl h2
  · exact .inr ⟨q, cap, cur, e1, Nat.le_trans hb e2, e3⟩
theorem ownsRow_lt {w : World} {B : Nat} {e : TypeId} {z : Nat} {v : Value} {n : Nat} {xs : List Value} (h : w.ownsRow B e z v n xs) : ∀ k, v.ownBlock = some k → B ≤ k ∧ k < w.heap.size := by
  intro k hk
  rcases h.2 with ⟨rfl, _⟩ | ⟨q, cap, cur, rfl, e2, e3, _⟩
  · cases hk
  · obtain rfl : q = k := by simpa [Value.ownBlock] using hk
    refine ⟨e2, ?_⟩
    rcases Nat.lt_or_ge q w.heap.size with hlt | hge
    · exact hlt
    · rw [Array.getElem?_eq_none hge] at e3; cases e3
theorem run_append_keep {P : Program} (w : World) (t ty : TypeId) (base : Nat) (e : TypeId) (i : TypeInfo) (z : Value) (size bytes : Nat) (ht : P.underlying t = some (.slice e)) (hi : P.info? e = some i) (hz : i.zero = some z)
    (hsize : i.size = size) (hby : i.bytes = bytes) (hzs : z.cells.size = size) (hsz : 0 < size)
    (v : Value) (n : Nat) (xs : List Value) (hown : w.ownsRow base e size v n xs)
    (ad : Addr) (m c : Nat) (news : List Value) (hl : news.length = m * size) (hnews : ∀ j u, news[j]? = some u → w.cell? (ad.add j) = some u) (h1 : ∀ u ∈ news, u.oneCell' = true)
    (hm : 0 < m) (h63 : n + m ≤ maxLen) (hbytes : (n + m) * bytes ≤ 140737488355328) (hbase : base ≤ w.heap.size) :
    ∃ v' w', (Builtin.append_ #[t, t] ty #[v, .slice (some ad) m c]).run P w = .ok v' w' ∧ w'.ownsRow base e size v' (n + m) (xs ++ news) ∧ Chg (fun k => v.ownBlock = some k) w w' ∧
      (v'.ownBlock = v.ownBlock ∨ ∃ q, v'.ownBlock = some q ∧ w.heap.size ≤ q) ∧ w'.ownsRow base e size v n xs ∧ (∀ u, u.ownBlock = v.ownBlock → w.ownsRow base e size u (n + m) (xs ++ news) → w'.ownsRow base e size u (n + m) (xs ++ news)) := by
  have hlen : (xs ++ news).length = (n + m) * size := by rw [List.length_append, hown.1, hl, Nat.add_mul]
  rcases hown.2 with ⟨rfl, rfl⟩ | ⟨g, cap, cur, rfl, hbg, hg, hnc, hcm, hcs, htake⟩
  · obtain ⟨v', w', hr, h2, h3, _, h5⟩ := run_append_own_at (P := P) w base t ty e i z size bytes ht hi hz hsize hby hzs hsz (.slice none 0 0) 0 xs hown ad m c news hl hnews h1 h63 hbytes hbase
    have hle : le w w' := le_of_grown h3
    refine ⟨v', w', hr, h2, Chg.of_le hle, ?_, ownsRow_le hown hle, fun u _ hu => ownsRow_le hu hle⟩
    rcases h5 with h5 | h5
    · exact .inl h5
    · exact .inr ⟨_, h5, Nat.le_refl _⟩
  · by_cases hroom : n + m ≤ cap
    · subst hsize
      have hfit : n * i.size + news.length ≤ cur.size := by rw [hl, hcs, ← Nat.add_mul]; exact Nat.mul_le_mul_right _ hroom
      have hr := run_append_room (P := P) w t ty e i ht hi g n cap cur hg ad m c news hl hnews h1 hroom hfit
      have hnew : (w.setRow g (cur.toList.take (n * i.size) ++ news ++ cur.toList.drop (n * i.size + news.length)).toArray).ownsRow base e i.size (.slice (some ⟨g, 0, none⟩) (n + m) cap) (n + m) (xs ++ news) := by
        refine ⟨hlen, .inr ⟨g, cap, _, rfl, hbg, setRow_heap w g cur _ e _ hg, hroom, hcm, ?_, ?_⟩⟩
        · simp only [List.size_toArray, List.length_append, List.length_take, List.length_drop, Array.length_toList]
          omega
        · rw [htake, ← hlen]
          exact List.take_left
      refine ⟨_, _, hr, hnew, ⟨rfl, rfl, rfl, by simp, fun k _ hk => setRow_other w g k _ (fun e => hk (by simp [Value.ownBlock, e]))⟩, .inl rfl, ?_, fun u hu ho => ?_⟩
      · refine ⟨hown.1, .inr ⟨g, cap, _, rfl, hbg, setRow_heap w g cur _ e _ hg, hnc, hcm, ?_, ?_⟩⟩
        · simp only [List.size_toArray, List.length_append, List.length_take, List.length_drop, Array.length_toList]
          omega
        · rw [htake, List.append_assoc, ← hown.1]
          exact List.take_left
      · rcases ho.2 with ⟨rfl, h0⟩ | ⟨g0, cap0, cur0, rfl, _, hg0, _, _, hs0, _⟩
        · omega
        · obtain rfl : g0 = g := by simpa [Value.ownBlock] using hu
          rw [hg] at hg0
          simp only [Option.some.injEq, Obj.cells.injEq] at hg0
          obtain ⟨rfl, _⟩ := hg0
          obtain rfl : cap = cap0 := Nat.eq_of_mul_eq_mul_right hsz (hcs.symm.trans hs0)
          exact hnew
    · obtain ⟨v', w', hr, h2, h3⟩ := run_append_arg_grows (P := P) w t ty e i z size bytes ht hi hz hsize hby hzs hsz ⟨g, 0, none⟩ n cap xs hown.1 (hown.cells (g := g) rfl) ad m c news hl hnews (by omega) h63 hbytes
      have hle : le w w' := le_of_grown h3
      obtain ⟨q, c', rfl, hq, _⟩ := h2.form (by omega)
      exact ⟨_, w', hr, ownsRow_mono h2 hbase, Chg.of_le hle, .inr ⟨q, rfl, hq⟩, ownsRow_le hown hle, fun u _ hu => ownsRow_le hu hle⟩
/-- Only the row that one owns is written, by one append. -/
def appX (base : Nat) (e : TypeId) (z : Nat) (v : Value) (n : Nat) (xs : List Value) (m : Nat) (news : List Value) : Ext where
  R w w' := Chg (fun k => v.ownBlock = some k) w w' ∧ (w.ownsRow base e z v n xs → w'.ownsRow base e z v n xs) ∧ (∀ u, u.ownBlock = v.ownBlock → w.ownsRow base e z u (n + m) (xs ++ news) → w'.ownsRow base e z u (n + m) (xs ++ news))
  refl w := ⟨Chg.refl _ w, fun h => h, fun _ _ h => h⟩
  trans h k := ⟨h.1.trans k.1, fun x => k.2.1 (h.2.1 x), fun u hu x => k.2.2 u hu (h.2.2 u hu x)⟩
  of_le h := ⟨Chg.of_le h, fun x => ownsRow_le x h, fun _ _ x => ownsRow_le x h⟩
section
variable {P : Program} {ops : Array Oper} {W : World} {K : FuncId → Array Value → World → Value → Prop} {Q : Act → World → Prop} {F : Facts} {k : Nat} {o : Oper} {rest : List Oper} {a : Act}
variable {base : Nat} {e : TypeId} {z : Nat} {v : Value} {n : Nat} {xs : List Value} {m : Nat} {news : List Value}
theorem appX_row {w : World} (hown : W.ownsRow base e z v n xs) (hw : (appX base e z v n xs m news).R W w) {q : Nat} {t : TypeId} {cs : Array Value} (hr : Row W q t cs) (hq : v.ownBlock ≠ some q) : Row w q t cs := hw.1.row hr hq
theorem wpFreeD_madeX (hown : W.ownsRow base e z v n xs) (hg : o.guard = none) (f : Nat → Value) (t : TypeId) (cs : Array Value) (hr : ∀ w, (execOp a.eval o).run P w = .ok (.value (f w.heap.size)) (w.alloc (.cells cs t)))
    (h : ∀ b, wpFreeD (appX base e z v n xs m news) P ops .any W K Q rest (k + 1) (a.put o.dst (f b)) (F.with k (fun w => ∃ b', f b = f b' ∧ Row w b' t cs))) : wpFreeD (appX base e z v n xs m news) P ops .any W K Q (o :: rest) k a F := by
  refine ⟨fun w u => ∃ b', u = f b' ∧ W.heap.size ≤ b' ∧ Row w b' t cs, ⟨fun u w w' hw hu => ?_, .inl ⟨by simp [Region.wanted, hg], fun w hw _ => ?_⟩⟩, fun u hu => ?_⟩
  · obtain ⟨b', e1, h2, hrow⟩ := hu
    exact ⟨b', e1, h2, hw.1.row hrow (fun e2 => by have := (ownsRow_lt hown _ e2).2; omega)⟩
  · rw [hr w]
    exact ⟨(appX base e z v n xs m news).of_le (le_alloc w _), w.heap.size, rfl, hw.1.size, Row.new w t cs⟩
  · obtain ⟨w, _, _, b, rfl, _⟩ := hu
    exact wpFreeD_weaken _ _ _ _ _ (fun e w h => ⟨h.1, fun he => by obtain ⟨b', e1, _, h2⟩ := h.2 he; exact ⟨b', e1, h2⟩⟩) (h b)
/-- What an append gives. -/
def Gave (W : World) (base : Nat) (e : TypeId) (z : Nat) (v : Value) (n : Nat) (xs : List Value) (w : World) (u : Value) : Prop := w.ownsRow base e z u n xs ∧ (u.ownBlock = v.ownBlock ∨ ∃ q, u.ownBlock = some q ∧ W.heap.size ≤ q)
theorem wpFreeD_appK (hown : W.ownsRow base e z v n xs) (hg : o.guard = none) {s x : Operand} {t : TypeId} (hop : o.op = .call { callee := .builtin .append, args := #[s, x], argTypes := #[t, t] }) {i : TypeInfo} {zv : Value} {bytes : Nat}
    (ht : P.underlying t = some (.slice e)) (hi : P.info? e = some i) (hz : i.zero = some zv) (hsize : i.size = z) (hby : i.bytes = bytes) (hzs : zv.cells.size = z) (hsz : 0 < z)
    (hs : a.eval s = v) {ad : Addr} {c : Nat} (hx : a.eval x = .slice (some ad) m c) (hl : news.length = m * z) (hnews : ∀ w, (appX base e z v n xs m news).R W w → behind .any o F w → ∀ j u, news[j]? = some u → w.cell? (ad.add j) = some u) (h1 : ∀ u ∈ news, u.oneCell' = true)
    (hm : 0 < m) (h63 : n + m ≤ maxLen) (hbytes : (n + m) * bytes ≤ 140737488355328) (hbase : base ≤ W.heap.size)
    (h : ∀ u, (∃ w, (appX base e z v n xs m news).R W w ∧ Gave W base e z v (n + m) (xs ++ news) w u) → wpFreeD (appX base e z v n xs m news) P ops .any W K Q rest (k + 1) (a.put o.dst u) (F.with k (fun w => Gave W base e z v (n + m) (xs ++ news) w u))) : wpFreeD (appX base e z v n xs m news) P ops .any W K Q (o :: rest) k a F := by
  refine ⟨Gave W base e z v (n + m) (xs ++ news), ⟨fun u w w' hw hu => ?_, .inl ⟨by simp [Region.wanted, hg], fun w hw hbe => ?_⟩⟩, fun u hu => h u (by obtain ⟨w, h1, _, h2⟩ := hu; exact ⟨w, h1, h2⟩)⟩
  · obtain ⟨g1, g2⟩ := hu
    refine ⟨?_, g2⟩
    by_cases hq : u.ownBlock = v.ownBlock
    · exact hw.2.2 u hq g1
    · exact ownsRow_keep g1 hw.1 (fun q e1 e2 => hq (e1.trans e2.symm))
  · obtain ⟨v', w', hr, r1, r2, r3, r4, r5⟩ := run_append_keep (P := P) w t o.type base e i zv z bytes ht hi hz hsize hby hzs hsz v n xs (hw.2.1 hown) ad m c news hl (hnews w hw hbe) h1 hm h63 hbytes (Nat.le_trans hbase hw.1.size)
    simp [execOp, hop, resolve, invoke, builtin, hs, hx, hr, Result.andThen, insideT]
    refine ⟨⟨r2, fun _ => r4, r5⟩, r1, ?_⟩
    rcases r3 with r3 | ⟨q, r3, r6⟩
    · exact .inl r3
    · exact .inr ⟨q, r3, Nat.le_trans hw.1.size r6⟩
end
end Go.Fk

/- 'rings': the rings of a pipe in one list. -/
namespace Go.Fk
open Go Go.RowKit
/-- Four cells a section. -/
def fourC (u u' : Nat → Value) (x y : Nat → CD) (i : Nat) : Value := match i % 4 with | 0 => u (i / 4) | 1 => .int .i64 (rgK x (i / 4)) | 2 => u' (i / 4) | _ => .int .i64 (rgK y (i / 4))
def fourL (u u' : Nat → Value) (x y : Nat → CD) (j : Nat) : List Value := (List.range (4 * j)).map (fourC u u' x y)
theorem fourL_succ (u u' : Nat → Value) (x y : Nat → CD) (j : Nat) : fourL u u' x y j ++ [u j, .int .i64 (rgK x j), u' j, .int .i64 (rgK y j)] = fourL u u' x y (j + 1) := by
  have e0 : fourC u u' x y (4 * j) = u j := by unfold fourC; rw [show 4 * j % 4 = 0 by omega, show 4 * j / 4 = j by omega]; rfl
  have e1 : fourC u u' x y (4 * j + 1) = .int .i64 (rgK x j) := by unfold fourC; rw [show (4 * j + 1) % 4 = 1 by omega, show (4 * j + 1) / 4 = j by omega]; rfl
  have e2 : fourC u u' x y (4 * j + 2) = u' j := by unfold fourC; rw [show (4 * j + 2) % 4 = 2 by omega, show (4 * j + 2) / 4 = j by omega]; rfl
  have e3 : fourC u u' x y (4 * j + 3) = .int .i64 (rgK y j) := by unfold fourC; rw [show (4 * j + 3) % 4 = 3 by omega, show (4 * j + 3) / 4 = j by omega]; rfl
  unfold fourL
  rw [show 4 * (j + 1) = 4 * j + 1 + 1 + 1 + 1 by omega, List.range_succ, List.range_succ, List.range_succ, List.range_succ]
  simp only [List.map_append, List.map_cons, List.map_nil, List.append_assoc, List.cons_append, List.nil_append, e0, e1, e2, e3]
theorem fourL_length (u u' : Nat → Value) (x y : Nat → CD) (j : Nat) : (fourL u u' x y j).length = 4 * j := by simp [fourL]
/-- The rings of two lists by turns. -/
def zN (x y : Nat → CD) (k : Nat) : Nat := if k % 2 = 0 then rgN x (k / 2) else rgN y (k / 2)
def zX (x y : Nat → CD) (k : Nat) : Nat → Nat := if k % 2 = 0 then rgX x (k / 2) else rgX y (k / 2)
def zK (x y : Nat → CD) (k : Nat) : Int := if k % 2 = 0 then rgK x (k / 2) else rgK y (k / 2)
theorem fourL_even {u u' : Nat → Value} {x y : Nat → CD} {n k : Nat} (hk : k < 2 * n) : (fourL u u' x y n)[k * 2]? = some (if k % 2 = 0 then u (k / 2) else u' (k / 2)) := by
  unfold fourL
  rw [List.getElem?_map, List.getElem?_range (by omega)]
  simp only [Option.map_some, fourC]
  rcases Nat.mod_two_eq_zero_or_one k with h | h
  · rw [show k * 2 % 4 = 0 by omega, show k * 2 / 4 = k / 2 by omega, if_pos h]; rfl
  · rw [show k * 2 % 4 = 2 by omega, show k * 2 / 4 = k / 2 by omega, if_neg (by omega)]; rfl
theorem fourL_odd {u u' : Nat → Value} {x y : Nat → CD} {n k : Nat} (hk : k < 2 * n) : (fourL u u' x y n)[k * 2 + 1]? = some (.int .i64 (zK x y k)) := by
  unfold fourL
  rw [List.getElem?_map, List.getElem?_range (by omega)]
  simp only [Option.map_some, fourC, zK]
  rcases Nat.mod_two_eq_zero_or_one k with h | h
  · rw [show (k * 2 + 1) % 4 = 1 by omega, show (k * 2 + 1) / 4 = k / 2 by omega, if_pos h]; rfl
  · rw [show (k * 2 + 1) % 4 = 3 by omega, show (k * 2 + 1) / 4 = k / 2 by omega, if_neg (by omega)]; rfl
/-- A list of rings where it lies. -/
def Rings (w : World) (B m : Nat) (X : Nat → Nat → Nat) (N : Nat → Nat) (K : Nat → Int) (v : Value) : Prop := ∃ q cap, v = .slice (some ⟨q, 0, none⟩) m cap ∧ m ≤ cap ∧ cap ≤ maxLen ∧ ∀ k, k < m → ∃ u, w.cell? ⟨q, k * 2, none⟩ = some u ∧ w.cell? ⟨q, k * 2 + 1, none⟩ = some (.int .i64 (K k)) ∧ RdS w B u (X k) (N k)
theorem appX_cell {W w : World} {base : Nat} {e : TypeId} {z : Nat} {v : Value} {n : Nat} {xs : List Value} {m : Nat} {news : List Value} (hw : (appX base e z v n xs m news).R W w) {p : Addr} {x : Value} (hc : W.cell? p = some x) (hp : v.ownBlock ≠ some p.block) : w.cell? p = some x :=
  (cell_of_heap (hw.1.block _ (World.block_lt_of_cell? W _ hc) hp)).trans hc
end Go.Fk
namespace Go.Proofs.Ytjcbolllohmjjaa
open Go.RowKit Go.Fk
theorem fill_four (ti : TypeInfo) (p q r t : Value) (h : ti.size = 2) : Instr.fill (fun i => some (i * ti.size, ti.size)) ((Array.range (2 * ti.size)).map ((.agg #[.slice none 0 0, .int .i64 0] : Value).cells[· % (.agg #[.slice none 0 0, .int .i64 0] : Value).cells.size]!)) (#[(0, .agg #[p, q]), (1, .agg #[r, t])] : Array (Nat × Value)).toList = some #[p, q, r, t] := by
  rw [h]
  have hr : Array.range (2 * 2) = #[0, 1, 2, 3] := by decide
  rw [hr]
  simp [Instr.fill, Value.cells]
theorem ringInfo : (Try.prog.info? 82).map (fun i => (i.zero, i.size, i.bytes)) = some (some (.agg #[.slice none 0 0, .int .i64 0]), 2, 32) := by kernel_rfl
set_option maxRecDepth 100000 in
set_option maxHeartbeats 2000000 in
theorem i_rings (B b0 o0 k0 b1 o1 k1 n : Nat) (v2 : Value) (xR xL : Nat → CD) (k : Int) (a b c x y : Nat) (op : Bool) (l r s : Nat) (w : World) (n1 : 1 ≤ n) (n3 : n ≤ 3) (h0 : (CD.sl 2 n xR).RdN w B (.slice (some ⟨b0, o0, none⟩) n k0)) (h1 : (CD.sl 2 n xL).RdN w B (.slice (some ⟨b1, o1, none⟩) n k1)) (p0 : RgsOk xR n) (p1 : RgsOk xL n) :
    Calls Try.prog 64 #[.agg #[.slice (some ⟨b0, o0, none⟩) n k0, .slice (some ⟨b1, o1, none⟩) n k1, v2, .int .i64 k, .float .f32 a, .float .f32 b, .float .f32 c, .float .f32 x, .float .f32 y, .bool op, .float .f32 l, .float .f32 r, .float .f32 s]] w (fun e w' => ∃ v, e = .returned v ∧ Rings w' B (2 * n) (zX xR xL) (zN xR xL) (zK xR xL) v ∧ le w w') := by
  have CR := fun t (ht : t < n) => p0.at h0 ht
  have CL := fun t (ht : t < n) => p1.at h1 ht
  have CR' : ∀ t, ∃ u, t < n → w.cell? ⟨b0, o0 + t * 2, none⟩ = some u ∧ w.cell? ⟨b0, o0 + t * 2 + 1, none⟩ = some (.int .i64 (rgK xR t)) ∧ RdS w B u (rgX xR t) (rgN xR t) := fun t => by
    by_cases ht : t < n
    · obtain ⟨u, e1, e2, _, e3⟩ := CR t ht; exact ⟨u, fun _ => ⟨e1, e2, e3⟩⟩
    · exact ⟨default, fun h => absurd h ht⟩
  have CL' : ∀ t, ∃ u, t < n → w.cell? ⟨b1, o1 + t * 2, none⟩ = some u ∧ w.cell? ⟨b1, o1 + t * 2 + 1, none⟩ = some (.int .i64 (rgK xL t)) ∧ RdS w B u (rgX xL t) (rgN xL t) := fun t => by
    by_cases ht : t < n
    · obtain ⟨u, e1, e2, _, e3⟩ := CL t ht; exact ⟨u, fun _ => ⟨e1, e2, e3⟩⟩
    · exact ⟨default, fun h => absurd h ht⟩
  obtain ⟨uR, HR⟩ := Classical.axiomOfChoice CR'
  obtain ⟨uL, HL⟩ := Classical.axiomOfChoice CL'
  replace HR := hid HR; replace HL := hid HL
  obtain ⟨ti, hti, htz, hts, htb⟩ : ∃ i, Try.prog.info? 82 = some i ∧ i.zero = some (.agg #[.slice none 0 0, .int .i64 0]) ∧ i.size = 2 ∧ i.bytes = 32 := by
    have h := ringInfo
    cases hi : Try.prog.info? 82 with
    | none => rw [hi] at h; simp at h
    | some i => rw [hi] at h; simp at h; exact ⟨i, rfl, h.1, h.2.1, h.2.2⟩
  have HT := hid (And.intro hti (And.intro htz (And.intro hts htb)))
  clear CR CL CR' CL' h0 h1 p0 p1 hti htz hts htb
  have F := (Frg.nil w).box 49 #[.slice (some ⟨b0, o0, none⟩) n k0, .slice (some ⟨b1, o1, none⟩) n k1, v2, .int .i64 k, .float .f32 a, .float .f32 b, .float .f32 c, .float .f32 x, .float .f32 y, .bool op, .float .f32 l, .float .f32 r, .float .f32 s]
  have c0 := (F.row m0).cell? 0
  have c1 := hid ((F.row m0).cell? 1)
  have HW := hid F.below
  clear F
  go_enter Try.func64, Try.ntmps64
  go_wp2_with fail
  have hsz : (w.alloc (.cells #[.slice (some ⟨b0, o0, none⟩) n k0, .slice (some ⟨b1, o1, none⟩) n k1, v2, .int .i64 k, .float .f32 a, .float .f32 b, .float .f32 c, .float .f32 x, .float .f32 y, .bool op, .float .f32 l, .float .f32 r, .float .f32 s] 49)).heap.size = w.heap.size + 1 := by simp
  generalize hWB : w.alloc _ = wB at *
  replace hsz := hid hsz
  clear hWB
  go_loopw [3, 9] (fun v i wr => ∃ j : Nat, j ≤ n ∧ i = .int .i64 j ∧ Hid (wr.ownsRow wB.heap.size 82 2 v (2 * j) (fourL uR uL xR xL j)) ∧ Hid (le wB wr)) (fun _ i _ => n - (intOf i).toNat)
  case atStart => exact ⟨0, by omega, rfl, World.ownsRow_nil _ _ _ _, le_refl _⟩
  case round =>
    obtain ⟨j, hj, rfl, HO, HB⟩ := hrel
    rename_i v wr _
    by_cases hlt : j < n
    · obtain ⟨d0, d1, dr⟩ := HR.out j hlt
      obtain ⟨e0, e1, er⟩ := HL.out j hlt
      have hlb := le_trans HW.out HB.out
      have gx : Hid (∀ (i : Nat) (q : Value), [uR j, .int .i64 (rgK xR j)][i]? = some q → wr.cell? ((⟨b0, o0 + j * 2, none⟩ : Addr).add i) = some q) := fun i q hi => by
        rw [add_none]
        match i, hi with
        | 0, hi => simp at hi; subst hi; exact (Below.cell hlb (cell_lt' d0)).trans d0
        | 1, hi => simp at hi; subst hi; exact (Below.cell hlb (cell_lt' d1)).trans d1
      have ou := hid dr.one
      have ov := hid er.one
      have F := Frg.nil wr
      have D0 := hid d0; have E0 := hid e0; have E1 := hid e1
      clear c0 d0 d1 e0 e1 dr er hlb
      go_wp2_with (first | (with_reducible refine wpList_indexW0 rfl rfl rfl rfl Try.underlying46 uinfoRingI hlt ?_) | ((with_reducible refine at_loadU (ty := 82) rfl rfl ?_); (with_reducible refine wpList_loadW rfl rfl rfl [uR j, .int .i64 (rgK xR j)] gx.out Try.underlying82 rfl uinfoRingI rfl ?_)) | ((with_reducible refine at_store rfl ?_); (refine wpList_storeG F rfl rfl rfl rfl rfl uinfoRingI rfl (by first | exact one_head ou.out rfl) ?_; clear F; intro W F zW; clear zW)))
      have FD := F.drewN 1
      have R5 := FD.row m0
      have HO1 := ownsRow_le HO.out FD.below
      have hol := ownsRow_lt HO.out
      have hlb := le_trans HB.out FD.below
      have hlw := le_trans HW.out hlb
      have z1 := (Below.cell hlb (by show w.heap.size < wB.heap.size; have := hsz.out; omega)).trans c1.out
      have z2 := (Below.cell hlw (cell_lt' E0.out)).trans E0.out
      have z3 := (Below.cell hlw (cell_lt' E1.out)).trans E1.out
      have hb1 : b1 < w.heap.size := cell_lt' E0.out
      have hws := hsz.out
      have hwr := HB.out.size
      have far : ∀ q, q < wB.heap.size ∨ wr.heap.size ≤ q → u3.ownBlock ≠ some q := fun q hq hh => by have := hol q hh; omega
      refine region_freeD (E := appX wB.heap.size 82 2 u3 (2 * j) (fourL uR uL xR xL j) 2 [uR j, .int .i64 (rgK xR j), uL j, .int .i64 (rgK xL j)]) (fun _ _ _ _ => True) (by kernel_rfl) (by kernel_rfl) ?_
      refine wpFreeD_one rfl u3 (fun w1 _ => by kernel_rfl) ?_
      simp only [Act.put, List.setIfInBounds_toArray, List.set_cons_succ, List.set_cons_zero]
      refine wpFreeD_loadW rfl rfl rfl [uR j, .int .i64 (rgK xR j)] (fun w1 h1 i q hi => ?_) Try.underlying82 rfl uinfoRingI rfl ?_
      · rw [add_none]
        match i, hi with
        | 0, hi => simp at hi; subst hi; exact appX_cell h1 (R5.cell? 0) (far _ (.inr (Nat.le_refl _)))
        | 1, hi => simp at hi; subst hi; exact appX_cell h1 (R5.cell? 1) (far _ (.inr (Nat.le_refl _)))
      simp only [Act.put, List.setIfInBounds_toArray, List.set_cons_succ, List.set_cons_zero]
      refine wpFreeD_one rfl (.pointer (some ⟨w.heap.size, 1, none⟩)) (fun w1 _ => by kernel_rfl) ?_
      simp only [Act.put, List.setIfInBounds_toArray, List.set_cons_succ, List.set_cons_zero]
      refine wpFreeD_load1 rfl rfl rfl (p := ⟨w.heap.size, 1, none⟩) (fun w1 h1 => appX_cell h1 z1 (far _ (.inl (by show w.heap.size < _; omega)))) ukindRingSI ?_
      simp only [Act.put, List.setIfInBounds_toArray, List.set_cons_succ, List.set_cons_zero]
      refine wpFreeD_one rfl (.int .i64 j) (fun w1 _ => by kernel_rfl) ?_
      simp only [Act.put, List.setIfInBounds_toArray, List.set_cons_succ, List.set_cons_zero]
      refine wpFreeD_indexW0 rfl rfl rfl rfl Try.underlying46 uinfoRingI hlt ?_
      simp only [Act.put, List.setIfInBounds_toArray, List.set_cons_succ, List.set_cons_zero]
      refine wpFreeD_loadW rfl rfl rfl [uL j, .int .i64 (rgK xL j)] (fun w1 h1 i q hi => ?_) Try.underlying82 rfl uinfoRingI rfl ?_
      · rw [add_none]
        match i, hi with
        | 0, hi => simp at hi; subst hi; exact appX_cell h1 z2 (far _ (.inl (by show b1 < _; omega)))
        | 1, hi => simp at hi; subst hi; exact appX_cell h1 z3 (far _ (.inl (by show b1 < _; omega)))
      simp only [Act.put, List.setIfInBounds_toArray, List.set_cons_succ, List.set_cons_zero]
      refine wpFreeD_madeX HO1 rfl (fun q => .slice (some ⟨q, 0, none⟩) 2 2) 82 #[uR j, .int .i64 (rgK xR j), uL j, .int .i64 (rgK xL j)] (fun w1 => ?_) (fun q => ?_)
      · have hb := run_buildSlice (P := Try.prog) w1 46 82 2 #[(0, .agg #[uR j, .int .i64 (rgK xR j)]), (1, .agg #[uL j, .int .i64 (rgK xL j)])] #[uR j, .int .i64 (rgK xR j), uL j, .int .i64 (rgK xL j)] ti _ Try.underlying46 HT.out.1 HT.out.2.1 (by rw [HT.out.2.2.1]; decide) (by rw [HT.out.2.2.1]; decide) (fill_four _ _ _ _ _ HT.out.2.2.1)
        simp [execOp, Act.eval, Result.andThen, hb]
      simp only [Act.put, List.setIfInBounds_toArray, List.set_cons_succ, List.set_cons_zero]
      refine wpFreeD_appK HO1 rfl rfl Try.underlying46 HT.out.1 HT.out.2.1 HT.out.2.2.1 HT.out.2.2.2 rfl (by omega) rfl (ad := ⟨q, 0, none⟩) rfl rfl (fun w1 h1 hbe => ?_) ?_ (by omega) (by unfold maxLen; omega) (by omega) (Nat.le_trans hwr FD.below.size) (fun u hu => ?_)
      · obtain ⟨q', e1, hrow⟩ := (hbe ⟨7, Ground.data⟩ (by simp) (by kernel_rfl)).2 rfl
        obtain rfl : q = q' := by simpa using e1
        intro i x hi
        rw [add_none, hrow.cell?, Nat.zero_add, ← hi]
        simp
      · have := ou.out; have := ov.out
        intro x hx
        simp only [List.mem_cons, List.not_mem_nil, or_false] at hx
        rcases hx with rfl | rfl | rfl | rfl
        · exact ou.out
        · rfl
        · exact ov.out
        · rfl
      simp only [Act.put, List.setIfInBounds_toArray, List.set_cons_succ, List.set_cons_zero]
      refine wpFreeD_one rfl u (fun w1 _ => by kernel_rfl) ?_
      simp only [Act.put, List.setIfInBounds_toArray, List.set_cons_succ, List.set_cons_zero]
      refine wpFreeD_nil (fun wR hwR hF => ?_)
      have hG := ((hF 8).1.2 rfl).1
      rw [fourL_succ] at hG
      have HO2 := hid hG
      have HB2 := hid (Below.trans hlb (hwR.1.below (B := wB.heap.size) (fun q hq => (hol q hq).1) hlb.size))
      clear hF hwR hG hu hol far z1 z2 z3 R5 HO1 FD F hlb hlw
      go_wp2
      go_roundw
      case rel => exact ⟨j + 1, by omega, by go_num, HO2.out, HB2.out⟩
      case measure => simp [intOf]; omega
    · obtain rfl : j = n := by omega
      go_wp2
      go_ret
      obtain ⟨q, cap, hv, hq, _⟩ := HO.out.form (by omega)
      subst hv
      refine ⟨_, rfl, ⟨q, cap, rfl, ?_, ?_, fun k hk => ?_⟩, le_trans HW.out HB.out⟩
      · rcases HO.out.2 with ⟨h, _⟩ | ⟨g, cap', cur, h, _, _, h3, _⟩
        · cases h
        · cases h; exact h3
      · rcases HO.out.2 with ⟨h, _⟩ | ⟨g, cap', cur, h, _, _, _, h3, _⟩
        · cases h
        · cases h; exact h3
      · have hc := HO.out.cells (g := q) rfl
        have c1 := hc _ _ (fourL_even hk)
        have c2 := hc _ _ (fourL_odd hk)
        rw [add_none, Nat.zero_add] at c1 c2
        refine ⟨_, c1, c2, ?_⟩
        unfold zX zN
        have hlb := le_trans HW.out HB.out
        by_cases h2 : k % 2 = 0
        · rw [if_pos h2, if_pos h2, if_pos h2]; exact ((HR.out (k / 2) (by omega)).2.2).le hlb
        · rw [if_neg h2, if_neg h2, if_neg h2]; exact ((HL.out (k / 2) (by omega)).2.2).le hlb
end Go.Proofs.Ytjcbolllohmjjaa

/- Exactness: what a format has is written as it stands. Nothing here names a program. -/
namespace Go.Fk
open Go Go.RowKit

theorem cut_zero (s : Bool) (n : Nat) : Ieee.Toward.even.cut s n 0 = n := by
  simp [Ieee.Toward.cut, Nat.mod_one]

/-- What is cut off leaves nothing behind: the quotient. -/
theorem cut_exact (s : Bool) (n d : Nat) : Ieee.Toward.even.cut s (n * 2 ^ d) d = n := by
  by_cases hn : n = 0
  · subst hn
    have hp := Nat.two_pow_pos (min d (Nat.log2 0 + 2))
    simp only [Ieee.Toward.cut, Nat.zero_mul, Nat.one_shiftLeft, Nat.zero_div, Nat.zero_mod]
    simp
  · have h0 : n * 2 ^ d ≠ 0 := Nat.mul_ne_zero hn (Nat.ne_of_gt (Nat.two_pow_pos d))
    have hd : d ≤ (n * 2 ^ d).log2 := by
      refine (Nat.le_log2 h0).2 ?_
      exact Nat.le_mul_of_pos_left _ (by omega)
    have hp := Nat.two_pow_pos d
    simp only [Ieee.Toward.cut, Nat.one_shiftLeft]
    rw [Nat.min_eq_left (by omega), Nat.mul_div_cancel _ hp, Nat.mul_mod_left]
    simp

theorem cut_scale (s : Bool) (n d j : Nat) (hn : n ≠ 0) : Ieee.Toward.even.cut s (n * 2 ^ j) (d + j) = Ieee.Toward.even.cut s n d := by
  have hl : (n * 2 ^ j).log2 = n.log2 + j := by
    have h0 : n * 2 ^ j ≠ 0 := Nat.mul_ne_zero hn (Nat.ne_of_gt (Nat.two_pow_pos j))
    refine (Nat.log2_eq_iff h0).2 ⟨?_, ?_⟩
    · rw [Nat.pow_add]; exact Nat.mul_le_mul_right _ (Nat.log2_self_le hn)
    · rw [show n.log2 + j + 1 = (n.log2 + 1) + j by omega, Nat.pow_add]
      exact Nat.mul_lt_mul_of_pos_right Nat.lt_log2_self (Nat.two_pow_pos j)
  have hp := Nat.two_pow_pos j
  simp only [Ieee.Toward.cut, Nat.one_shiftLeft, hl]
  rw [show min (d + j) (n.log2 + j + 2) = min d (n.log2 + 2) + j by omega, Nat.pow_add, Nat.mul_div_mul_right _ _ hp, Nat.mul_mod_mul_right]
  generalize 2 ^ min d (n.log2 + 2) = g
  have e1 : decide (g * 2 ^ j < 2 * (n % g * 2 ^ j)) = decide (g < 2 * (n % g)) := by
    rw [← Nat.mul_assoc]
    exact decide_eq_decide.2 (Nat.mul_lt_mul_right hp)
  have e2 : (g * 2 ^ j == 2 * (n % g * 2 ^ j)) = (g == 2 * (n % g)) := by
    rw [← Nat.mul_assoc, Bool.eq_iff_iff, beq_iff_eq, beq_iff_eq]
    exact Nat.mul_left_inj (by omega)
  rw [e1, e2]

theorem log2_scale {n : Nat} (hn : n ≠ 0) (j : Nat) : (n * 2 ^ j).log2 = n.log2 + j := by
  have h0 : n * 2 ^ j ≠ 0 := Nat.mul_ne_zero hn (Nat.ne_of_gt (Nat.two_pow_pos j))
  refine (Nat.log2_eq_iff h0).2 ⟨?_, ?_⟩
  · rw [Nat.pow_add]; exact Nat.mul_le_mul_right _ (Nat.log2_self_le hn)
  · rw [show n.log2 + j + 1 = (n.log2 + 1) + j by omega, Nat.pow_add]
    exact Nat.mul_lt_mul_of_pos_right Nat.lt_log2_self (Nat.two_pow_pos j)

/-- What is written speaks of the number alone, not of how it is split. -/
theorem nearest_scale (f : Ieee.Format) (s : Bool) (m j : Nat) (e : Int) : f.nearest s (m * 2 ^ j) (e - j) = f.nearest s m e := by
  by_cases hm : m = 0
  · subst hm; simp [Ieee.Format.nearest]
  have h0 : m * 2 ^ j ≠ 0 := Nat.mul_ne_zero hm (Nat.ne_of_gt (Nat.two_pow_pos j))
  unfold Ieee.Format.nearest
  rw [if_neg hm, if_neg h0, log2_scale hm]
  rw [show e - (j : Int) + ((m.log2 + j : Nat) : Int) - f.fractionBits = e + m.log2 - f.fractionBits by omega]
  generalize max (e + (m.log2 : Int) - f.fractionBits) f.leastPlace = last
  dsimp only
  congr 3
  simp only [Nat.shiftLeft_eq]
  by_cases h1 : e ≤ last
  · rw [show (e - (j : Int) - last).toNat = 0 by omega, show (e - last).toNat = 0 by omega, show (last - (e - (j : Int))).toNat = (last - e).toNat + j by omega]
    simpa using cut_scale s m _ j hm
  · by_cases h2 : last ≤ e - j
    · rw [show (last - (e - (j : Int))).toNat = 0 by omega, show (last - e).toNat = 0 by omega, cut_zero, cut_zero, Nat.mul_assoc, ← Nat.pow_add,
        show j + (e - (j : Int) - last).toNat = (e - last).toNat by omega]
    · rw [show (e - (j : Int) - last).toNat = 0 by omega, show (last - e).toNat = 0 by omega, cut_zero, Nat.pow_zero, Nat.mul_one,
        show j = (e - last).toNat + (last - (e - (j : Int))).toNat by omega, Nat.pow_add, ← Nat.mul_assoc]
      rw [show (last - (e - (((e - last).toNat + (last - (e - (j : Int))).toNat : Nat) : Int))).toNat = (last - (e - (j : Int))).toNat by omega]
      exact cut_exact s _ _

/-- The place of the last digit that is kept. -/
def lastOf (f : Ieee.Format) (m : Nat) (e : Int) : Int := max (e + m.log2 - f.fractionBits) f.leastPlace

/-- A number that the format has is read as it was written, shifted to the format's own place. -/
theorem read_nearest (f : Ieee.Format) (s : Bool) (m : Nat) (e : Int) (hm : m ≠ 0) (hp : m.log2 ≤ f.fractionBits) (he : f.leastPlace ≤ e)
    (ho : e + m.log2 - f.fractionBits ≤ f.leastPlace + 2 ^ f.exponentBits - 3) (hx : 2 ≤ f.exponentBits) :
    f.read (f.nearest s m e) = .number s (m * 2 ^ (e - lastOf f m e).toNat) (lastOf f m e) ∧ f.nearest s m e % f.signWeight < f.infRung := by
  have hx4 : (4 : Int) ≤ 2 ^ f.exponentBits := by
    have h : 2 ^ 2 ≤ 2 ^ f.exponentBits := Nat.pow_le_pow_right (by omega) hx
    exact_mod_cast h
  have hb : f.binade = 2 ^ f.fractionBits := rfl
  have hbp : 0 < f.binade := by rw [hb]; exact Nat.two_pow_pos _
  have hl1 : lastOf f m e ≤ e := by unfold lastOf; omega
  have hl2 : f.leastPlace ≤ lastOf f m e := by unfold lastOf; omega
  have hl3 : lastOf f m e ≤ f.leastPlace + 2 ^ f.exponentBits - 3 := by unfold lastOf; omega
  have hlog : (m * 2 ^ (e - lastOf f m e).toNat).log2 = m.log2 + (e - lastOf f m e).toNat := log2_scale hm _
  have hM0 : m * 2 ^ (e - lastOf f m e).toNat ≠ 0 := Nat.mul_ne_zero hm (Nat.ne_of_gt (Nat.two_pow_pos _))
  have hM : m * 2 ^ (e - lastOf f m e).toNat < 2 * f.binade := by
    have h1 : m.log2 + (e - lastOf f m e).toNat ≤ f.fractionBits := by unfold lastOf; omega
    have := @Nat.lt_log2_self (m * 2 ^ (e - lastOf f m e).toNat)
    rw [hlog] at this
    calc _ < _ := this
      _ ≤ 2 ^ (f.fractionBits + 1) := Nat.pow_le_pow_right (by omega) (by omega)
      _ = 2 * f.binade := by rw [Nat.pow_succ, ← hb]; omega
  have hfull : f.leastPlace < lastOf f m e → f.binade ≤ m * 2 ^ (e - lastOf f m e).toNat := by
    intro h
    have h1 : m.log2 + (e - lastOf f m e).toNat = f.fractionBits := by unfold lastOf at h ⊢; omega
    have := Nat.log2_self_le hM0
    rw [hlog, h1, ← hb] at this
    exact this
  have hn : f.nearest s m e = f.word s (min ((lastOf f m e - f.leastPlace).toNat * f.binade + m * 2 ^ (e - lastOf f m e).toNat) f.infRung) := by
    unfold Ieee.Format.nearest
    rw [if_neg hm]
    show f.word s (min ((lastOf f m e - f.leastPlace).toNat * f.binade + Ieee.Toward.even.cut s (m <<< (e - lastOf f m e).toNat) (lastOf f m e - e).toNat) f.infRung) = _
    rw [show (lastOf f m e - e).toNat = 0 by omega, cut_zero, Nat.shiftLeft_eq]
  generalize hM' : m * 2 ^ (e - lastOf f m e).toNat = M at *
  generalize hq : (lastOf f m e - f.leastPlace).toNat = q at *
  have hq2 : q + 3 ≤ 2 ^ f.exponentBits := by
    have : (q : Int) + 3 ≤ ((2 ^ f.exponentBits : Nat) : Int) := by push_cast; omega
    exact_mod_cast this
  have hr : q * f.binade + M < f.infRung := by
    unfold Ieee.Format.infRung
    have h1 : (q + 2) * f.binade ≤ (2 ^ f.exponentBits - 1) * f.binade := Nat.mul_le_mul_right _ (by omega)
    rw [Nat.add_mul] at h1
    omega
  have hs : f.infRung < f.signWeight := Ieee.Format.infRung_lt _
  rw [Nat.min_eq_left (Nat.le_of_lt hr)] at hn
  rw [hn]
  have hmod := word_mod f s (r := q * f.binade + M) (by omega)
  refine ⟨?_, by rw [hmod]; exact hr⟩
  have hsg : (f.word s (q * f.binade + M) / f.signWeight % 2 == 1) = s := by
    unfold Ieee.Format.word
    cases s
    · simp [Nat.div_eq_of_lt (show q * f.binade + M < f.signWeight by omega)]
    · simp [Nat.add_div_left _ (show 0 < f.signWeight by omega), Nat.div_eq_of_lt (show q * f.binade + M < f.signWeight by omega)]
  unfold Ieee.Format.read
  simp only [hmod, hsg]
  by_cases hsub : q * f.binade + M < f.binade
  · rw [if_pos hsub]
    have hq0 : q = 0 := by
      apply Nat.eq_zero_of_not_pos
      intro h
      have : 1 * f.binade ≤ q * f.binade := Nat.mul_le_mul_right _ h
      omega
    rw [hq0]
    congr 1
    · simp
    · omega
  · rw [if_neg hsub, if_pos hr]
    have hMb : f.binade ≤ M := by
      by_cases h : f.leastPlace < lastOf f m e
      · exact hfull h
      · have : q = 0 := by omega
        rw [this] at hsub; omega
    have e1 : (q * f.binade + M) % f.binade = M - f.binade := by
      rw [Nat.mul_add_mod_self_right, Nat.mod_eq_sub_mod hMb, Nat.mod_eq_of_lt (by omega)]
    have e2 : (q * f.binade + M) / f.binade = q + 1 := by
      rw [Nat.mul_comm, Nat.mul_add_div hbp]
      congr 1
      rw [show M = f.binade + (M - f.binade) by omega, Nat.add_div_left _ hbp, Nat.div_eq_of_lt (by omega)]
    rw [e1, e2]
    congr 1
    · omega
    · omega

/-- What is read is written back. -/
theorem write_read (f : Ieee.Format) (hx : 2 ≤ f.exponentBits) (b : Nat) {s : Bool} {m : Nat} {e : Int} (h : f.read b = .number s m e) : f.nearest s m e = f.word s (b % f.signWeight) := by
  have hb : f.binade = 2 ^ f.fractionBits := rfl
  have hbp : 0 < f.binade := by rw [hb]; exact Nat.two_pow_pos _
  have hx4 : 4 ≤ 2 ^ f.exponentBits := Nat.pow_le_pow_right (n := 2) (by omega) hx
  have hinf : f.binade ≤ f.infRung := by
    unfold Ieee.Format.infRung
    exact Nat.le_mul_of_pos_left _ (by omega)
  unfold Ieee.Format.read at h
  dsimp only at h
  generalize b % f.signWeight = r at *
  split at h
  · rename_i h1
    simp only [Ieee.Datum.number.injEq] at h
    obtain ⟨_, rfl, rfl⟩ := h
    by_cases h0 : r = 0
    · subst h0; simp [Ieee.Format.nearest]
    · unfold Ieee.Format.nearest
      rw [if_neg h0]
      have h2 := h1
      rw [hb] at h2
      have := (Nat.log2_lt h0).2 h2
      rw [show max (f.leastPlace + (r.log2 : Int) - f.fractionBits) f.leastPlace = f.leastPlace by omega]
      simp only [Int.sub_self, Int.toNat_zero, Nat.shiftLeft_zero, cut_zero, Nat.zero_mul, Nat.zero_add]
      rw [Nat.min_eq_left (by omega)]
  · rename_i h1
    split at h
    · rename_i h2
      simp only [Ieee.Datum.number.injEq] at h
      obtain ⟨_, rfl, rfl⟩ := h
      have hlt := Nat.mod_lt r hbp
      have h0 : f.binade + r % f.binade ≠ 0 := by omega
      have e1 : (f.binade + r % f.binade).log2 = f.fractionBits := by
        refine (Nat.log2_eq_iff h0).2 ⟨?_, ?_⟩
        · rw [← hb]; omega
        · rw [Nat.pow_succ, ← hb]; omega
      have h3 : 1 ≤ r / f.binade := (Nat.le_div_iff_mul_le hbp).2 (by omega)
      unfold Ieee.Format.nearest
      rw [if_neg h0, e1]
      rw [show max (f.leastPlace + ((r / f.binade - 1 : Nat) : Int) + (f.fractionBits : Int) - f.fractionBits) f.leastPlace = f.leastPlace + ((r / f.binade - 1 : Nat) : Int) by omega]
      simp only [Int.sub_self, Int.toNat_zero, Nat.shiftLeft_zero, cut_zero]
      rw [show (f.leastPlace + ((r / f.binade - 1 : Nat) : Int) - f.leastPlace).toNat = r / f.binade - 1 by omega]
      have h4 : (r / f.binade - 1) * f.binade + (f.binade + r % f.binade) = r := by
        have h5 := Nat.div_add_mod r f.binade
        have h6 : (r / f.binade - 1) * f.binade + f.binade = r / f.binade * f.binade := by
          rw [← Nat.succ_mul]; congr 1; omega
        rw [Nat.mul_comm] at h5
        omega
      rw [h4, Nat.min_eq_left (by omega)]
    · split at h <;> cases h

theorem bits32 : FloatKind.f32.format.exponentBits = 8 ∧ FloatKind.f32.format.fractionBits = 23 ∧ FloatKind.f32.format.leastPlace = -149 ∧ FloatKind.f32.format.signWeight = 2147483648 ∧ FloatKind.f32.format.infRung = 2139095040 := by decide
theorem bits64 : FloatKind.f64.format.exponentBits = 11 ∧ FloatKind.f64.format.fractionBits = 52 ∧ FloatKind.f64.format.leastPlace = -1074 ∧ FloatKind.f64.format.signWeight = 9223372036854775808 ∧ FloatKind.f64.format.infRung = 9218868437227405312 := by decide

/-- What a narrow number's datum is made of. -/
theorem read32 {b : Nat} {s : Bool} {m : Nat} {e : Int} (h : FloatKind.f32.format.read b = .number s m e) : -149 ≤ e ∧ (m ≠ 0 → m.log2 ≤ 23 ∧ e + m.log2 + 1 ≤ 128) := by
  refine ⟨?_, fun h0 => ⟨?_, lt32 h h0⟩⟩
  all_goals
    have e1 : Ieee.single.signWeight = 2147483648 := by decide
    have e2 : Ieee.single.infRung = 2139095040 := by decide
    have e3 : Ieee.single.binade = 8388608 := by decide
    have e4 : Ieee.single.leastPlace = -149 := by decide
    simp only [FloatKind.format, Ieee.Format.read, e1, e2, e3, e4] at h
    split at h
    · simp only [Ieee.Datum.number.injEq] at h
      obtain ⟨_, rfl, rfl⟩ := h
      first | omega | (have : (b % 2147483648).log2 < 23 := (Nat.log2_lt h0).2 (by omega)
                       omega)
    · split at h
      · simp only [Ieee.Datum.number.injEq] at h
        obtain ⟨_, rfl, rfl⟩ := h
        first | omega | (have : (8388608 + b % 2147483648 % 8388608).log2 < 24 := (Nat.log2_lt h0).2 (by omega)
                         omega)
      · split at h <;> cases h

/-- A narrow number is widened exactly. -/
theorem read_widen {b : Nat} {s : Bool} {m : Nat} {e : Int} (h : FloatKind.f32.format.read b = .number s m e) :
    ∃ j : Nat, ∃ e', FloatKind.f64.format.read (widen b) = .number s (m * 2 ^ j) e' ∧ (m ≠ 0 → e' = e - j) ∧ widen b % 9223372036854775808 < 9218868437227405312 := by
  obtain ⟨b1, b2, b3, b4, b5⟩ := bits64
  obtain ⟨h1, h2⟩ := read32 h
  have hw : widen b = FloatKind.f64.format.nearest s m e := by simp only [widen, h]; rfl
  rw [hw]
  by_cases hm : m = 0
  · subst hm
    refine ⟨0, -1074, ?_, fun h => absurd rfl h, ?_⟩
    · cases s <;> simp [Ieee.Format.nearest, Ieee.Format.word] <;> decide
    · cases s <;> simp [Ieee.Format.nearest, Ieee.Format.word] <;> decide
  · obtain ⟨h3, h4⟩ := h2 hm
    obtain ⟨h5, h6⟩ := read_nearest FloatKind.f64.format s m e hm (by omega) (by omega) (by rw [b1, b2, b3]; omega) (by omega)
    rw [b4, b5] at h6
    refine ⟨_, _, h5, fun _ => ?_, h6⟩
    have : lastOf FloatKind.f64.format m e ≤ e := by unfold lastOf; omega
    omega
end Go.Fk
namespace Go.Fk
open Go Go.RowKit
theorem read_mod {k : FloatKind} {b : Nat} {s : Bool} {m : Nat} {e : Int} (h : k.format.read b = .number s m e) : k.format.read (b % k.format.signWeight) = .number false m e := by
  have hs : 0 < k.format.signWeight := by unfold Ieee.Format.signWeight; exact Nat.two_pow_pos _
  have e1 : (b % k.format.signWeight / k.format.signWeight % 2 == 1) = false := by
    rw [Nat.div_eq_of_lt (Nat.mod_lt _ hs)]; rfl
  unfold Ieee.Format.read at h ⊢
  dsimp only at h ⊢
  rw [e1, Nat.mod_mod]
  generalize b % k.format.signWeight = r at *
  split
  · rename_i h1
    rw [if_pos h1] at h
    simp only [Ieee.Datum.number.injEq] at h ⊢
    exact ⟨trivial, h.2⟩
  · rename_i h1
    rw [if_neg h1] at h
    split
    · rename_i h2
      rw [if_pos h2] at h
      simp only [Ieee.Datum.number.injEq] at h ⊢
      exact ⟨trivial, h.2⟩
    · rename_i h2
      rw [if_neg h2] at h
      split at h <;> cases h

/-- May be narrowed: what the language fixes, whole range. -/
def narrowableX (b : Nat) : Prop := ∀ s m e, FloatKind.f64.format.read b = .number s m e → (FloatKind.f32.decode (FloatKind.f32.encode (.number s m e))).isInfinity = false

/-- The size of a narrow number, by way of the wide ones. -/
theorem narrow_abs {b w : Nat} (hw : can .f64 w = can .f64 (widen b)) : narrowableX (w % 9223372036854775808) ∧ can .f32 (narrow (w % 9223372036854775808)) = can .f32 (b % 2147483648) := by
  obtain ⟨a1, a2, a3, a4, a5⟩ := bits32
  obtain ⟨b1, b2, b3, b4, b5⟩ := bits64
  cases hr : FloatKind.f32.format.read b with
  | nan s t =>
    have hn : isNan .f32 b = true := by simp [isNan, hr, Ieee.Datum.isNaN]
    have hq : widen b = qnan .f64 := by simp only [widen, hr]
    have hwn : isNan .f64 w = true := by rw [isNan_of_can hw, hq]; exact isNan_qnan _
    have hm : isNan .f64 (w % 9223372036854775808) = true := by rw [isNan_f64] at hwn ⊢; rwa [Nat.mod_mod]
    have hm2 : isNan .f32 (b % 2147483648) = true := by rw [isNan_f32] at hn ⊢; rwa [Nat.mod_mod]
    obtain ⟨s', t', hr'⟩ := read_nan hm
    refine ⟨fun s1 m1 e1 h => (by rw [hr'] at h; cases h), ?_⟩
    rw [can_of_nan hm2]
    simp only [narrow, hr', can_qnan]
  | infinity s =>
    have hb : b % 2147483648 = 2139095040 := by
      have e1 : Ieee.single.signWeight = 2147483648 := by decide
      have e2 : Ieee.single.infRung = 2139095040 := by decide
      simp only [FloatKind.format, Ieee.Format.read, e1, e2] at hr
      split at hr
      · cases hr
      · split at hr
        · cases hr
        · split at hr
          · assumption
          · cases hr
    have hq : widen b = FloatKind.f64.encode (.infinity s) := by simp only [widen, hr]
    have hwq : w = FloatKind.f64.encode (.infinity s) := by
      rw [hq] at hw
      exact (eq_of_can hw.symm (by cases s <;> decide)).symm
    rw [hwq, hb]
    have e1 : FloatKind.f64.format.read (FloatKind.f64.encode (.infinity s) % 9223372036854775808) = .infinity false := by cases s <;> decide
    refine ⟨fun s1 m1 e1' h => (by rw [e1] at h; cases h), ?_⟩
    simp only [narrow, e1]
    decide
  | number s m e =>
    obtain ⟨j, e', h1, h2, h3⟩ := read_widen hr
    have hwq : w = widen b := by
      refine (eq_of_can hw.symm ?_).symm
      simp [isNan, h1, Ieee.Datum.isNaN]
    rw [hwq]
    have h4 := read_mod h1
    have h5 := read_mod hr
    rw [b4] at h4
    rw [a4] at h5
    have h6 : FloatKind.f32.format.nearest false (m * 2 ^ j) e' = b % 2147483648 := by
      have h7 := write_read FloatKind.f32.format (by omega) (b % 2147483648) h5
      rw [a4, Nat.mod_mod] at h7
      by_cases hm : m = 0
      · subst hm
        rw [Nat.zero_mul]
        exact (show FloatKind.f32.format.nearest false 0 e' = FloatKind.f32.format.nearest false 0 e by simp [Ieee.Format.nearest]).trans h7
      · rw [h2 hm, nearest_scale, h7]; rfl
    have h8 : FloatKind.f32.encode (.number false (m * 2 ^ j) e') = b % 2147483648 := h6
    refine ⟨fun s1 m1 e1 h => ?_, ?_⟩
    · rw [h4] at h
      cases h
      rw [h8]
      have : FloatKind.f32.decode (b % 2147483648) = .number false m e := h5
      rw [this]; rfl
    · have : narrow (widen b % 9223372036854775808) = FloatKind.f32.encode (.number false (m * 2 ^ j) e') := by simp only [narrow, h4]
      rw [this, h8]

section
variable {P : Program}
theorem run_narrowX (w : World) (src dst : TypeId) (b : Nat) (hs : P.underlying src = some (.float .f64)) (hd : P.underlying dst = some (.float .f32)) (hb : narrowableX b) :
    ∃ r n, (convert src dst (.float .f64 b)).run P w = .ok (.float .f32 r) (w.drewN n) ∧ can .f32 r = can .f32 (narrow b) ∧ fits .f32 r := by
  cases hr : FloatKind.f64.format.read b with
  | nan s t =>
    refine ⟨(Question.nanConv .f32 b).cut (w.tape w.drawn (.nanConv .f32 b)), 1, ?_, ?_, (nan_conv .f32 b _).2⟩
    · simp [convert, run_underlying hs, run_underlying hd, Conv.floatToFloat, FloatKind.decode, hr, Question.forced]; rfl
    · rw [can_of_nan (nan_conv .f32 b _).1]; simp only [narrow, hr, can_qnan]
  | infinity s =>
    refine ⟨FloatKind.f32.encode (.infinity s), 0, ?_, by simp only [narrow, hr], encode_wf _ _⟩
    simp [convert, run_underlying hs, run_underlying hd, Conv.floatToFloat, FloatKind.decode, hr]; rfl
  | number s m e =>
    refine ⟨FloatKind.f32.encode (.number s m e), 0, ?_, by simp only [narrow, hr], encode_wf _ _⟩
    have h := hb s m e hr
    have hr' : FloatKind.f64.decode b = .number s m e := hr
    simp [convert, run_underlying hs, run_underlying hd, Conv.floatToFloat, hr', h]; rfl

variable {w : World} {ops : Array Oper} {rest : List Oper} {o : Oper} {a : Act} {Q : Exit → Act → World → Prop}
theorem wpList_narrowX (hg : o.guard = none) {src dst : TypeId} {x : Operand} (hop : o.op = Op.convert src dst x) {b : Nat} (hx : a.eval x = .float .f64 b)
    (hs : P.underlying src = some (.float .f64)) (hd : P.underlying dst = some (.float .f32)) (hb : narrowableX b)
    (hK : ∀ r n, Hid (can .f32 r = can .f32 (narrow b)) → Hid (fits .f32 r) → wpList P ops Q rest (a.put o.dst (.float .f32 r)) (w.drewN n)) : wpList P ops Q (o :: rest) a w := by
  refine wpList_plain hg fun K hK' => ?_
  obtain ⟨r, n, hrun, hr, hf⟩ := run_narrowX (P := P) w src dst b hs hd hb
  unfold Oper.wp
  simp [execOp, hop, hx, hrun, Result.andThen]
  exact hK' _ _ (hK r n hr hf)
end
end Go.Fk

/- Nothing and a number: 0 + x. Nothing here names a program. -/
namespace Go.Fk
open Go Go.RowKit
theorem infRung64 : FloatKind.f64.format.infRung = 9218868437227405312 := by decide
theorem read0_64 : FloatKind.f64.format.read 0 = .number false 0 (-1074) := by decide
theorem add0_inf : fop .add .f64 0 9218868437227405312 = 9218868437227405312 := by decide +kernel
theorem add0_nan : fop .add .f64 0 (qnan .f64) = qnan .f64 := by decide +kernel
theorem read_pos {r : Nat} (h : r < 9218868437227405312) : ∃ m e, FloatKind.f64.format.read r = .number false m e := by
  have e1 : Ieee.double.signWeight = 9223372036854775808 := by decide
  have e2 : Ieee.double.infRung = 9218868437227405312 := by decide
  simp only [FloatKind.format, Ieee.Format.read, e1, e2]
  have h1 : r % 9223372036854775808 = r := Nat.mod_eq_of_lt (by omega)
  rw [h1]
  have h3 : (r / 9223372036854775808 % 2 == 1) = false := by rw [Nat.div_eq_of_lt (by omega)]; rfl
  rw [h3]
  split
  · exact ⟨_, _, rfl⟩
  · exact ⟨_, _, rfl⟩
theorem sign64 : FloatKind.f64.format.signWeight = 9223372036854775808 := by decide
theorem add0_word {r : Nat} (h : r ≤ 9218868437227405312) : fop .add .f64 0 r = r := by
  rcases Nat.lt_or_ge r 9218868437227405312 with hlt | hge
  · obtain ⟨m, e, hr⟩ := read_pos hlt
    have hn : isNan .f64 r = false := by unfold isNan; rw [hr]; rfl
    have hp := read_place hr
    have hw := write_read FloatKind.f64.format (by decide) r hr
    have hm : r % FloatKind.f64.format.signWeight = r := by rw [sign64]; exact Nat.mod_eq_of_lt (by omega)
    rw [hm] at hw
    have hu : (unitOf .f64 : Int) = 1074 := rfl
    rw [hu] at hp
    obtain ⟨j, hj⟩ : ∃ j : Nat, e = -1074 + (j : Int) := ⟨(e + 1074).toNat, by omega⟩
    have hs := nearest_scale FloatKind.f64.format false m j e
    rw [show e - (j : Int) = -1074 by omega] at hs
    have hsum : Ieee.Datum.sum (.number false 0 (-1074)) (.number false m e) = some (.number false (m * 2 ^ j) (-1074)) := by
      unfold Ieee.Datum.sum
      have hb : min (-1074 : Int) e = -1074 := by omega
      simp only [hb, signed_eq]
      have h1 : (e - -1074).toNat = j := by omega
      have h2 : ((if false = true then -((0 : Nat) : Int) else ((0 : Nat) : Int)) * 2 ^ (-1074 - -1074 : Int).toNat + (if false = true then -(m : Int) else (m : Int)) * 2 ^ j) = ((m * 2 ^ j : Nat) : Int) := by simp
      rw [h1, h2]
      have h3 : ¬ ((m * 2 ^ j : Nat) : Int) < 0 := by omega
      simp only [Int.natAbs_natCast, h3, decide_false, Bool.and_false, ite_self]
    have hf : floatBits .add .f64 0 r = some r := by
      simp only [floatBits, Ieee.Format.add, read0_64, hr, hsum, Option.map_some]
      show some (FloatKind.f64.format.nearest false (m * 2 ^ j) (-1074)) = some r
      rw [hs, hw]
      rfl
    unfold fop
    rw [hf]
    exact can_of_not hn
  · obtain rfl : r = 9218868437227405312 := by omega
    exact add0_inf
theorem sq_word (c : Nat) : fop .mul .f64 c c = qnan .f64 ∨ fop .mul .f64 c c ≤ FloatKind.f64.format.infRung := by
  have hw : ∀ x, FloatKind.f64.format.word false x = x := fun _ => rfl
  cases h : floatBits .mul .f64 c c with
  | none => exact .inl (by unfold fop; rw [h])
  | some r =>
    right
    have e : fop .mul .f64 c c = can .f64 r := by unfold fop; rw [h]
    rw [e]
    simp only [floatBits, Ieee.Format.mul] at h
    cases hr : FloatKind.f64.format.read c with
    | nan s t => rw [hr] at h; simp [Ieee.Datum.product] at h
    | infinity s =>
      rw [hr] at h
      simp only [Ieee.Datum.product, Bool.xor_self, Option.map_some, Option.some.injEq, Ieee.Format.write] at h
      rw [← h, can_of_not (infRung_word .f64 false (Nat.le_refl _)), hw]
      exact Nat.le_refl _
    | number s m e =>
      rw [hr] at h
      simp only [Ieee.Datum.product, Bool.xor_self, Option.map_some, Option.some.injEq, Ieee.Format.write] at h
      rw [← h, can_of_not (isNan_nearest .f64 false _ _)]
      unfold Ieee.Format.nearest
      split
      · exact Nat.zero_le _
      · rw [hw]; exact Nat.min_le_right _ _
theorem add0_sq (c : Nat) : fop .add .f64 0 (fop .mul .f64 c c) = fop .mul .f64 c c := by
  rcases sq_word c with h | h
  · rw [h, add0_nan]
  · exact add0_word (infRung64 ▸ h)
end Go.Fk

/- 'EnergyOfPipe'. -/
namespace Go.Fk
open Go Go.RowKit
def Out_di (ar0 : Nat) (ar1 : Int) (w : World) (e : Ending) (w' : World) : Prop := ∃ (v0 : Nat), e = .returned (.tuple #[.float .f64 v0, .int .i64 ar1]) ∧ can .f64 v0 = ar0 ∧ le w w'
def sqW (a : Nat) : Nat := fop .mul .f64 (widen a) (widen a)
/-- The sum of the squares, from left to right. -/
def sumSq (l : List Nat) : Nat := l.foldl (fun s a => fop .add .f64 s (sqW a)) 0
theorem sumSq_snoc (l : List Nat) (a : Nat) : sumSq (l ++ [a]) = fop .add .f64 (sumSq l) (sqW a) := by simp [sumSq]
theorem sumSq_one (a : Nat) : sumSq [a] = sqW a := by
  show fop .add .f64 0 (sqW a) = sqW a
  exact add0_sq _
def ringZ (x y : Nat → CD) (k p : Nat) : List Nat := (List.range p).map (zX x y k)
theorem ringZ_succ (x y : Nat → CD) (k p : Nat) : ringZ x y k (p + 1) = ringZ x y k p ++ [zX x y k p] := by simp [ringZ, List.range_succ]
def concZ (x y : Nat → CD) : Nat → List Nat
  | 0 => []
  | k + 1 => concZ x y k ++ ringZ x y k (zN x y k)
theorem sumSq_step {l : List Nat} {S r m v u x : Nat} (hS : can .f64 S = sumSq l) (hv : can .f64 v = can .f64 (widen u)) (hu : can .f32 u = x) (hm : can .f64 m = fop .mul .f64 v v) (hr : can .f64 r = fop .add .f64 S m) : can .f64 r = sumSq (l ++ [x]) := by
  rw [sumSq_snoc, hr]
  refine fop_congr (by rw [← hS, can_can]) ?_
  rw [hm]
  unfold sqW
  rw [can_fop, ← hu, widen_can]
  exact fop_congr hv hv
theorem bits_ring {x y : Nat → CD} {k n : Nat} {f : Nat → Nat} (hn : zN x y k = n) (h : ∀ i, i < n → can .f32 (f i) = zX x y k i) : ((List.range n).map f).map (can .f32) = ringZ x y k (zN x y k) := by
  rw [hn]
  unfold ringZ
  rw [List.map_map]
  exact List.map_congr_left (fun i hi => h i (List.mem_range.1 hi))
theorem flist_bits (f : Nat → Nat) (n : Nat) : flist f n = ((List.range n).map f).map (Value.float .f32) := by unfold flist; rw [List.map_map]; rfl
end Go.Fk
namespace Go.Proofs.Ytjcbolllohmjjaa
open Go.RowKit Go.Fk
set_option maxRecDepth 100000 in
set_option maxHeartbeats 4000000 in
theorem i_EnergyOfPipe (B : Nat) (v0 v1 v2 : Value) (nR nL nS : Nat) (xR xL : Nat → CD) (yS : Nat → Nat) (k : Int) (a b c x y : Nat) (op : Bool) (l r s : Nat) (w : World) (h0 : (CD.sl 2 nR xR).RdN w B v0) (h1 : (CD.sl 2 nL xL).RdN w B v1) (h2 : RdS w B v2 yS nS) (p0 : RgsOk xR nR) (p1 : RgsOk xL nL) (hf : fits .f32 a ∧ fits .f32 b ∧ fits .f32 c ∧ fits .f32 x ∧ fits .f32 y) (hg : fits .f32 l ∧ fits .f32 r ∧ fits .f32 s) (v : Nat) (d : Int) (h : (okP nR nL nS xR xL yS k a b c x y l r s = false ∧ v = 0 ∧ d = 1) ∨ (okP nR nL nS xR xL yS k a b c x y l r s = true ∧ v = sumSq (concZ xR xL (2 * nR)) ∧ d = 0)) :
    Calls Try.prog 35 #[.agg #[v0, v1, v2, .int .i64 k, .float .f32 a, .float .f32 b, .float .f32 c, .float .f32 x, .float .f32 y, .bool op, .float .f32 l, .float .f32 r, .float .f32 s]] w (Out_di v d w) := by
  have HV := hid (fun (w' : World) (hl : le w w') => i_ValidPipe B v0 v1 v2 nR nL nS xR xL yS k a b c x y op l r s w' (h0.le hl) (h1.le hl) (h2.le hl) p0 p1 hf hg)
  have F := (Frg.nil w).box 49 #[v0, v1, v2, .int .i64 k, .float .f32 a, .float .f32 b, .float .f32 c, .float .f32 x, .float .f32 y, .bool op, .float .f32 l, .float .f32 r, .float .f32 s]
  rcases h with ⟨hv, rfl, rfl⟩ | ⟨hv, rfl, rfl⟩
  · rw [hv] at HV
    clear h0 h1 h2 p0 p1 hf hg hv
    go_enter Try.func35, Try.ntmps35
    go_wp2_with (first | ((with_reducible refine at_loadU rfl rfl ?_); (with_reducible refine wpList_loadG F rfl rfl rfl m0 Try.underlying49 rfl uinfoPipeI rfl ?_)) | (go_at_call 31; ((with_reducible refine (HV.out _ F.below).mono ?_); rintro e w1 ⟨rfl, hl⟩; replace F := F.le hl; clear hl)))
    go_ret2
    exact ⟨_, rfl, by decide, F.below⟩
  · obtain ⟨n1, n2, n3, n4⟩ := okP_parts hv
    rw [hv] at HV
    subst n3
    obtain ⟨b0, o0, k0, rfl, hk0, hm0⟩ := h0.form.resolve_left (fun h => by have := h.2; omega)
    obtain ⟨b1, o1, k1, rfl, hk1, hm1⟩ := h1.form.resolve_left (fun h => by have := h.2; omega)
    unfold maxLen at hm0 hm1
    have HRG := hid (fun (w' : World) (hl : le w w') => i_rings B b0 o0 k0 b1 o1 k1 nL v2 xR xL k a b c x y op l r s w' n1 n2 (h0.le hl) (h1.le hl) p0 p1)
    have HB : Hid (∀ t, t < 2 * nL → 1 ≤ zN xR xL t ∧ zN xR xL t ≤ 1024) := fun t ht => by
      have q := n4 (t / 2) (by omega)
      obtain ⟨q1, q2, jR, _, _, _, q3, _⟩ := q
      unfold zN
      split
      · exact ⟨by omega, q2⟩
      · rw [q1]; exact ⟨by omega, q2⟩
    clear h0 h1 h2 p0 p1 hf hg hv n4
    go_enter Try.func35, Try.ntmps35
    go_wp2_with (first | ((with_reducible refine at_loadU rfl rfl ?_); (with_reducible refine wpList_loadG F rfl rfl rfl m0 Try.underlying49 rfl uinfoPipeI rfl ?_)) | (go_at_call 31; ((with_reducible refine (HV.out _ F.below).mono ?_); rintro e w1 ⟨rfl, hl⟩; replace F := F.le hl; clear hl)) | (go_at_call 64; ((with_reducible refine (HRG.out _ F.below).mono ?_); rintro e w2 ⟨v, rfl, ⟨q, cap, rfl, hcq, hmq, HA⟩, hl⟩; replace F := F.le hl; clear hl; replace HA := hid HA; unfold maxLen at hmq)))
    have HL2 := hid F.below
    clear F HV HRG
    go_loopw [4, 16] (fun s i wr => ∃ j S : Nat, j ≤ 2 * nL ∧ i = .int .i64 j ∧ s = .float .f64 S ∧ Hid (can .f64 S = sumSq (concZ xR xL j)) ∧ Hid (le w2 wr)) (fun _ i _ => 2 * nL - (intOf i).toNat)
    case atStart => exact ⟨0, 0, by omega, rfl, rfl, (by decide : can .f64 0 = 0), le_refl _⟩
    case round =>
      obtain ⟨j, S, hj, rfl, rfl, ES, HL3⟩ := hrel
      rename_i wr _
      by_cases hlt : j < 2 * nL
      · obtain ⟨u, d0, d1, hr⟩ := HA.out j hlt
        have hb := HB.out j hlt
        obtain ⟨au, cu, yu, rfl, hcu, hmu, hxu⟩ := hr.raw hb.1
        unfold maxLen at hmu
        have gx : Hid (∀ (i : Nat) (p : Value), [.slice (some au) (zN xR xL j) cu, .int .i64 (zK xR xL j)][i]? = some p → wr.cell? ((⟨q, 0 + j * 2, none⟩ : Addr).add i) = some p) := fun i p hi => by
          rw [add_none, Nat.zero_add]
          match i, hi with
          | 0, hi => simp at hi; subst hi; exact (Below.cell HL3.out (cell_lt' d0)).trans d0
          | 1, hi => simp at hi; subst hi; exact (Below.cell HL3.out (cell_lt' d1)).trans d1
        have ou := hid hr.one
        have HX := hid hxu
        have F := Frg.nil wr
        clear d0 d1 hr hxu
        go_wp2_with (first | (with_reducible refine wpList_indexW0 rfl rfl rfl rfl Try.underlying46 uinfoRingI hlt ?_) | ((with_reducible refine at_loadU (ty := 82) rfl rfl ?_); (with_reducible refine wpList_loadW rfl rfl rfl [.slice (some au) (zN xR xL j) cu, .int .i64 (zK xR xL j)] gx.out Try.underlying82 rfl uinfoRingI rfl ?_)) | ((with_reducible refine at_store rfl ?_); (refine wpList_storeG F rfl rfl rfl rfl rfl uinfoRingI rfl (by first | exact one_head ou.out rfl) ?_; clear F; intro W F zW; clear zW; have cq := (F.row m0).cell? 0)))
        have HL4 := hid (le_trans HL3.out F.below)
        clear F cq gx
        go_loopw [4, 23] (fun s i wv => ∃ p S : Nat, p ≤ zN xR xL j ∧ i = .int .i64 p ∧ s = .float .f64 S ∧ Hid (can .f64 S = sumSq (concZ xR xL j ++ ringZ xR xL j p)) ∧ Hid (le W wv)) (fun _ i _ => zN xR xL j - (intOf i).toNat)
        case atStart => exact ⟨0, S, by omega, rfl, rfl, by show can .f64 S = sumSq (concZ xR xL j ++ []); rw [List.append_nil]; exact ES.out, le_refl _⟩
        case round =>
          obtain ⟨p, S2, hp, rfl, rfl, ES2, HL5⟩ := hrel
          rename_i wv _
          by_cases hlt2 : p < zN xR xL j
          · obtain ⟨z1, z2, z3⟩ := HX.out p hlt2
            have cz := (Below.cell (le_trans HL4.out HL5.out) (cell_lt' z1)).trans z1
            replace z3 := hid z3
            clear z1 z2
            go_wp2_with (first | (with_reducible refine wpList_widen rfl rfl rfl Try.underlying22 Try.underlying26 ?_; intro rv nv hv fv) | (with_reducible refine wpList_farith (op := .mul) rfl rfl rfl rfl rfl ?_; intro rm nm hm fm) | (with_reducible refine wpList_farith (op := .add) rfl rfl rfl rfl rfl ?_; intro ra na ha fa))
            go_roundw
            case rel => exact ⟨p + 1, ra, by omega, by go_num, rfl, by rw [ringZ_succ, ← List.append_assoc]; exact sumSq_step ES2.out hv.out z3.out hm.out ha.out, le_trans HL5.out (by first | exact le_drewN _ _ | exact le_trans (le_drewN _ _) (le_drewN _ _) | exact le_trans (le_drewN _ _) (le_trans (le_drewN _ _) (le_drewN _ _)))⟩
            case measure => simp [intOf]; omega
          · obtain rfl : p = zN xR xL j := by omega
            have HL6 := hid (le_trans HL4.out HL5.out)
            go_wp2
            go_roundw
            case rel => exact ⟨j + 1, S2, by omega, by go_num, rfl, ES2.out, HL6.out⟩
            case measure => simp [intOf]; omega
      · obtain rfl : j = 2 * nL := by omega
        go_wp2
        go_ret2
        exact ⟨S, rfl, ES.out, le_trans HL2.out HL3.out⟩
set_option maxRecDepth 100000 in
set_option maxHeartbeats 4000000 in
theorem s_EnergyOfPipe (B : Nat) (v0 v1 v2 : Value) (nR nL nS : Nat) (xR xL : Nat → CD) (yS : Nat → Nat) (k : Int) (a b c x y : Nat) (op : Bool) (l r s : Nat) (w : World) (h0 : (CD.sl 2 nR xR).RdN w B v0) (h1 : (CD.sl 2 nL xL).RdN w B v1) (h2 : RdS w B v2 yS nS) (p0 : RgsOk xR nR) (p1 : RgsOk xL nL) (hf : fits .f32 a ∧ fits .f32 b ∧ fits .f32 c ∧ fits .f32 x ∧ fits .f32 y) (hg : fits .f32 l ∧ fits .f32 r ∧ fits .f32 s) (v : Nat) (d : Int) (h : (okP nR nL nS xR xL yS k a b c x y l r s = false ∧ v = 0 ∧ d = 1) ∨ (okP nR nL nS xR xL yS k a b c x y l r s = true ∧ v = sumSq (concZ xR xL (2 * nR)) ∧ d = 0)) :
    Calls Try.prog 34 #[.agg #[v0, v1, v2, .int .i64 k, .float .f32 a, .float .f32 b, .float .f32 c, .float .f32 x, .float .f32 y, .bool op, .float .f32 l, .float .f32 r, .float .f32 s]] w (Out_di v d w) := by
  have HV := hid (fun (w' : World) (hl : le w w') (g : Nat) (R : Row w' g 49 #[v0, v1, v2, .int .i64 k, .float .f32 a, .float .f32 b, .float .f32 c, .float .f32 x, .float .f32 y, .bool op, .float .f32 l, .float .f32 r, .float .f32 s]) => s_l04Ok B v0 v1 v2 nR nL nS xR xL yS k a b c x y op l r s g w' R (h0.le hl) (h1.le hl) (h2.le hl) p0 p1 hf hg)
  have F := (Frg.nil w).box 49 #[v0, v1, v2, .int .i64 k, .float .f32 a, .float .f32 b, .float .f32 c, .float .f32 x, .float .f32 y, .bool op, .float .f32 l, .float .f32 r, .float .f32 s]
  rcases h with ⟨hv, rfl, rfl⟩ | ⟨hv, rfl, rfl⟩
  · rw [hv] at HV
    clear h0 h1 h2 p0 p1 hf hg hv
    go_enter Try.func34, Try.ntmps34
    go_wp2_with (first | (go_at_call 61; ((with_reducible refine (HV.out _ F.below _ (F.row m0)).mono ?_); rintro e w1 ⟨rfl, hl⟩; replace F := F.le hl; clear hl; have c0 := (F.row m0).cell? 0)))
    go_ret2
    exact ⟨_, rfl, by decide, F.below⟩
  · obtain ⟨n1, n2, n3, n4⟩ := okP_parts hv
    rw [hv] at HV
    subst n3
    obtain ⟨b0, o0, k0, rfl, hk0, hm0⟩ := h0.form.resolve_left (fun h => by have := h.2; omega)
    obtain ⟨b1, o1, k1, rfl, hk1, hm1⟩ := h1.form.resolve_left (fun h => by have := h.2; omega)
    unfold maxLen at hm0 hm1
    have HA := hid (fun t (ht : t < nL) => p0.at h0 ht)
    have HC := hid (fun t (ht : t < nL) => p1.at h1 ht)
    have HB : Hid (∀ t, t < nL → rgN xL t = rgN xR t ∧ 1 ≤ rgN xR t ∧ rgN xR t ≤ 1024) := fun t ht => by
      obtain ⟨q1, q2, jR, _, _, _, q3, _⟩ := n4 t ht
      exact ⟨q1, by omega, q2⟩
    obtain ⟨fi, hfi, hfz, hfs, hfb⟩ := info36
    have HI := hid (And.intro hfi (And.intro hfz (And.intro hfs hfb)))
    clear h0 h1 h2 p0 p1 hf hg hv n4 hfi hfz hfs hfb
    go_enter Try.func34, Try.ntmps34
    go_wp2_with (first | (go_at_call 61; ((with_reducible refine (HV.out _ F.below _ (F.row m0)).mono ?_); rintro e w1 ⟨rfl, hl⟩; replace F := F.le hl; clear hl; have c0 := (F.row m0).cell? 0)))
    have SZ := hid F.size
    have HR := hid (F.row m0)
    have HF := hid F.below
    have hbx : Hid (w.heap.size < w1.heap.size) := World.block_lt_of_cell? w1 ⟨w.heap.size, 0, none⟩ ((F.row m0).cell? 0)
    clear c0 F HV
    go_loopw [4, 5] (fun v i wr => ∃ (j : Nat) (L : List Nat), j ≤ nL ∧ i = .int .i64 j ∧ 2 * j ≤ L.length ∧ L.length ≤ 2048 * j ∧ Hid (L.map (can .f32) = concZ xR xL (2 * j)) ∧ Hid (wr.ownsRow w1.heap.size 22 1 v L.length (L.map (Value.float .f32))) ∧ Hid (le w1 wr)) (fun _ i _ => nL - (intOf i).toNat)
    case atStart => exact ⟨0, [], by omega, rfl, by simp, by simp, rfl, ⟨rfl, .inr ⟨w1.heap.size, 0, #[], rfl, Nat.le_refl _, heap_alloc_new w1 _, Nat.le_refl _, Nat.zero_le _, rfl, rfl⟩⟩, le_alloc _ _⟩
    case round =>
      obtain ⟨j, L, hj, rfl, hL1, hL2, EL, HO, HL⟩ := hrel
      rename_i wr _
      by_cases hlt : j < nL
      · obtain ⟨u, d0, _, _, hru⟩ := HA.out j hlt
        obtain ⟨u', e0, _, _, hrv⟩ := HC.out j hlt
        obtain ⟨hb1, hb2, hb3⟩ := HB.out j hlt
        obtain ⟨au, cu, yu, rfl, hcu, hmu, hxu⟩ := hru.raw (by omega)
        obtain ⟨av, cv, yv, rfl, hcv, hmv, hxv⟩ := hrv.raw (by omega)
        rw [hb1] at hcv hxv e0
        unfold maxLen at hmu hmv
        have hlw := le_trans HF.out HL.out
        have c0 := (Row.le HR.out HL.out).cell? 0
        have z0 := (Below.cell hlw (cell_lt' d0)).trans d0
        have hn1 : ∀ i x, (flist yu (rgN xR j))[i]? = some x → wr.cell? (au.add i) = some x := fun i x hi => by
          obtain ⟨h1, rfl⟩ := flist_get hi
          have := (hxu i h1).1
          exact (Below.cell hlw (cell_lt' this)).trans this
        have E0 := hid e0
        have XU := hid hxu; have XV := hid hxv; have N1 := hid hn1
        have hll : L.length ≤ 8192 := by omega
        clear d0 e0 hxu hxv hn1 hlw hru hrv
        go_wp2_with (first | (with_reducible refine wpList_indexW0 rfl rfl rfl rfl Try.underlying46 uinfoRingI hlt ?_) | (at_builtin; refine wpList_append_lies _ rfl (.tmp 19) (.tmp 25) 30 rfl w1.heap.size 22 fi (.float .f32 0) 1 4 Try.underlying30 HI.out.1 HI.out.2.1 HI.out.2.2.1 HI.out.2.2.2 rfl (by omega) u4 L.length (L.map (Value.float .f32)) rfl HO.out au (rgN xR j) cu (flist yu (rgN xR j)) rfl (by rw [flist_length]; omega) N1.out (flist_one _ _) (by omega) (by unfold maxLen; omega) (by omega) HL.out.size _ rfl ?_; intro g1 q1 wa o1 gr1 at1 lt1; clear c0 z0; have HLa := hid (Below.trans HL.out ((chg_grown (B := w1.heap.size) gr1 (fun k hk => (ownsRow_lt HO.out k hk).1)).below (fun _ h => h) HL.out.size)); replace o1 := hid o1; have c1 := (Row.le HR.out HLa.out).cell? 1; have z1 := (Below.cell (le_trans HF.out HLa.out) (cell_lt' E0.out)).trans E0.out; clear gr1 at1 lt1) | (at_builtin; refine wpList_append_lies _ rfl (.tmp 27) (.tmp 33) 30 rfl w1.heap.size 22 fi (.float .f32 0) 1 4 Try.underlying30 HI.out.1 HI.out.2.1 HI.out.2.2.1 HI.out.2.2.2 rfl (by omega) _ (L.length + rgN xR j) (L.map (Value.float .f32) ++ flist yu (rgN xR j)) rfl o1.out av (rgN xR j) cv (flist yv (rgN xR j)) rfl (by rw [flist_length]; omega) (fun i x hi => by obtain ⟨h1, rfl⟩ := flist_get hi; have := (XV.out i h1).1; exact (Below.cell (le_trans HF.out HLa.out) (cell_lt' this)).trans this) (flist_one _ _) (by omega) (by unfold maxLen; omega) (by omega) HLa.out.size _ rfl ?_; intro g2 q2 wb o2 gr2 at2 lt2; have HLb := hid (Below.trans HLa.out ((chg_grown (B := w1.heap.size) gr2 (fun k hk => (ownsRow_lt o1.out k hk).1)).below (fun _ h => h) HLa.out.size)); replace o2 := hid o2; clear gr2 at2 lt2 c1 z1))
        have EL2 : Hid ((L ++ (List.range (rgN xR j)).map yu ++ (List.range (rgN xR j)).map yv).map (can .f32) = concZ xR xL (2 * (j + 1))) := by
          show _ = concZ xR xL (2 * j) ++ ringZ xR xL (2 * j) _ ++ ringZ xR xL (2 * j + 1) _
          rw [List.map_append, List.map_append, EL.out]
          have k0 : 2 * j / 2 = j := by omega
          have k1 : (2 * j + 1) / 2 = j := by omega
          rw [bits_ring (k := 2 * j) (x := xR) (y := xL) (by unfold zN; rw [if_pos (by omega), k0]) (fun i hi => by unfold zX; rw [if_pos (by omega), k0]; exact (XU.out i hi).2.2)]
          rw [bits_ring (k := 2 * j + 1) (x := xR) (y := xL) (by unfold zN; rw [if_neg (by omega), k1, hb1]) (fun i hi => by unfold zX; rw [if_neg (by omega), k1]; exact (XV.out i hi).2.2)]
          rfl
        have hlen : (L ++ (List.range (rgN xR j)).map yu ++ (List.range (rgN xR j)).map yv).length = L.length + rgN xR j + rgN xR j := by simp [Nat.add_assoc]
        have HO2 : Hid (wb.ownsRow w1.heap.size 22 1 (.slice (some ⟨g2, 0, none⟩) (L.length + rgN xR j + rgN xR j) q2) (L ++ (List.range (rgN xR j)).map yu ++ (List.range (rgN xR j)).map yv).length ((L ++ (List.range (rgN xR j)).map yu ++ (List.range (rgN xR j)).map yv).map (Value.float .f32))) := by
          have h := o2.out
          rw [flist_bits, flist_bits] at h
          show wb.ownsRow _ _ _ _ _ _
          rw [hlen, List.map_append, List.map_append]
          exact h
        go_roundw
        case rel => exact ⟨j + 1, _, by omega, by go_num, by rw [hlen]; omega, by rw [hlen]; omega, EL2.out, HO2.out, HLb.out⟩
        case measure => simp [intOf]; omega
      · obtain rfl : j = nL := by omega
        have c0 := (Row.le HR.out HL.out).cell? 0
        obtain ⟨g, cap, hv, _, _⟩ := HO.out.form (by omega)
        subst hv
        have HO3 := hid HO.out
        have hcp : L.length ≤ cap ∧ cap ≤ maxLen := by
          rcases HO.out.2 with ⟨h, _⟩ | ⟨g', cap', cur, h, _, _, h2, h3, _⟩
          · cases h
          · cases h; exact ⟨h2, h3⟩
        unfold maxLen at hcp
        obtain ⟨hcp1, hcp2⟩ := hcp
        have hll : L.length ≤ 8192 := by omega
        go_wp2_with fail
        go_loopw [6, 7] (fun s i wv => ∃ p S : Nat, p ≤ L.length ∧ i = .int .i64 p ∧ s = .float .f64 S ∧ Hid (can .f64 S = sumSq ((L.take p).map (can .f32))) ∧ Hid (le wr wv)) (fun _ i _ => L.length - (intOf i).toNat)
        case atStart => exact ⟨0, 0, by omega, rfl, rfl, (by decide : can .f64 0 = 0), le_refl _⟩
        case round =>
          obtain ⟨p, S, hp, rfl, rfl, ES, HL5⟩ := hrel
          rename_i wv _
          by_cases hlt2 : p < L.length
          · have hgp : L[p]? = some L[p] := List.getElem?_eq_getElem hlt2
            obtain ⟨t, ht⟩ : ∃ t, t = L[p] := ⟨_, rfl⟩
            have hc := HO3.out.cells (g := g) rfl p (.float .f32 t) (by rw [List.getElem?_map, hgp, ht]; rfl)
            rw [add_none, Nat.zero_add] at hc
            have cz := (Below.cell HL5.out (cell_lt' hc)).trans hc
            have htk : Hid ((L.take (p + 1)).map (can .f32) = (L.take p).map (can .f32) ++ [can .f32 t]) := by
              show (L.take (p + 1)).map (can .f32) = _
              rw [List.take_add_one, hgp, List.map_append, ht]; rfl
            clear hgp ht hc c0
            have hpi : (p : Int) < (L.length : Int) := by omega
            go_wp2_with fail
            refine wp_region_tail (fun _ _ _ => True) 11 (by kernel_rfl) (by kernel_rfl) ?_; simp only [List.take_succ_cons, List.take_zero, List.drop_succ_cons, List.drop_zero]
            repeat (first | (with_reducible refine wpLoose_widen rfl rfl rfl Try.underlying22 Try.underlying26 ?_; intro rv hv fv; simp only [Act.put, List.setIfInBounds_toArray, List.set_cons_succ, List.set_cons_zero]) | (with_reducible refine wpLoose_farith rfl rfl rfl rfl rfl ?_; intro rm hm fm; simp only [Act.put, List.setIfInBounds_toArray, List.set_cons_succ, List.set_cons_zero]) | (refine wpLoose_quiet rfl ?_; go_big_quiet_step (fail); refine wpQuiet_nil ?_))
            have hw2 := ‹Hid (can .f64 rm = fop .mul .f64 _ _)›
            have hsq : Hid (can .f64 rm = sqW (can .f32 t)) := by
              show _ = fop .mul .f64 (widen (can .f32 t)) (widen (can .f32 t))
              rw [hm.out, widen_can]
              exact fop_congr (Hid.out (by assumption)) (Hid.out (by assumption))
            clear hw2
            refine wpLoose_nil (fun m1 => ?_)
            by_cases hp0 : p = 0
            · subst hp0
              have e1 : Hid (sumSq ((L.take (0 + 1)).map (can .f32)) = can .f64 rm) := by
                show sumSq _ = _
                rw [htk.out, hsq.out]; exact sumSq_one _
              clear hsq htk hm
              go_wp2
              go_roundw
              case rel => exact ⟨1, rm, by omega, by go_num, rfl, e1.out.symm, le_trans HL5.out (by first | exact le_drewN _ _ | exact le_trans (le_drewN _ _) (le_drewN _ _))⟩
              case measure => simp [intOf]; omega
            · have hp1 : ¬ (p : Int) = 0 := by omega
              have hp2 : ((p : Int) == 0) = false := by simp; omega
              go_wp2_with (with_reducible refine wpList_farith (op := .add) rfl rfl rfl rfl rfl ?_; intro ra na ha fa)
              have e1 : Hid (can .f64 ra = sumSq ((L.take (p + 1)).map (can .f32))) := by
                show can .f64 ra = _
                rw [htk.out, sumSq_snoc, ha.out]
                exact fop_congr (by rw [← ES.out, can_can]) (by rw [hsq.out]; exact (can_fop .mul .f64 _ _).symm)
              go_roundw
              case rel => exact ⟨p + 1, ra, by omega, by go_num, rfl, e1.out, le_trans HL5.out (by first | exact le_drewN _ _ | exact le_trans (le_drewN _ _) (le_drewN _ _))⟩
              case measure => simp [intOf]; omega
          · obtain rfl : p = L.length := by omega
            go_wp2
            go_ret2
            exact ⟨S, rfl, by rw [ES.out, List.take_length, EL.out], le_trans HF.out (le_trans HL.out HL5.out)⟩
theorem both_EnergyOfPipe (cs : List CD) (h : HasShL shPipe cs) : ∃ (ar0 : Nat) (ar1 : Int), (∀ (w : World) (B : Nat) (u : List Value), RdLN w B (cs.map CD.cp) u → Calls Try.prog 34 #[.agg u.toArray] w (Out_di ar0 ar1 w)) ∧ (∀ (w : World) (B : Nat) (u : List Value), RdLN w B (cs.map CD.cp) u → Calls Try.prog 35 #[.agg u.toArray] w (Out_di ar0 ar1 w)) := by
  obtain ⟨nR, nL, nS, xR, xL, xS, k, a, b, c, x, y, op, l, r, s, rfl, p0, p1, hS⟩ := pipe_data h
  have key : ∃ (v : Nat) (d : Int), (okP nR nL nS (fun i => (xR i).cn) (fun i => (xL i).cn) (fun i => (xS i).cn.fx) k a b c x y l r s = false ∧ v = 0 ∧ d = 1) ∨ (okP nR nL nS (fun i => (xR i).cn) (fun i => (xL i).cn) (fun i => (xS i).cn.fx) k a b c x y l r s = true ∧ v = sumSq (concZ (fun i => (xR i).cn) (fun i => (xL i).cn) (2 * nR)) ∧ d = 0) := by
    cases okP nR nL nS (fun i => (xR i).cn) (fun i => (xL i).cn) (fun i => (xS i).cn.fx) k a b c x y l r s
    · exact ⟨0, 1, .inl ⟨rfl, rfl, rfl⟩⟩
    · exact ⟨_, 0, .inr ⟨rfl, rfl, rfl⟩⟩
  obtain ⟨v, d, hk⟩ := key
  refine ⟨v, d, fun w B u hu => ?_, fun w B u hu => ?_⟩
  · obtain ⟨v0, v1, v2, rfl, h0, h1, h2, hf, hg⟩ := pipe_open hu hS
    exact s_EnergyOfPipe B v0 v1 v2 nR nL nS _ _ _ k a b c x y op l r s w h0 h1 h2 p0 p1 hf hg v d hk
  · obtain ⟨v0, v1, v2, rfl, h0, h1, h2, hf, hg⟩ := pipe_open hu hS
    exact i_EnergyOfPipe B v0 v1 v2 nR nL nS _ _ _ k a b c x y op l r s w h0 h1 h2 p0 p1 hf hg v d hk
end Go.Proofs.Ytjcbolllohmjjaa

/- The walk of 'FnExactEnergyOfPipe'. -/
namespace Go.Proofs.Ytjcbolllohmjjaa.fnExactEnergyOfPipe
open Go.RowKit Go.Fk
set_option maxRecDepth 100000 in
set_option maxHeartbeats 4000000 in
theorem core (cs0 : List CD) (vs0 : List Value) (ar0 : Nat) (ar1 : Int) (w : World) (z0 : RdL w w.heap.size cs0 vs0) (k0 : ShOkL shPipe cs0) (hz : szL cs0 ≤ 1048576)
    (hS : ∀ (w : World) (B0 : Nat) (u0 : List Value), RdLN w B0 (cs0.map CD.cp) u0 → Calls Try.prog 34 #[.agg u0.toArray] w (Out_di ar0 ar1 w))
    (hI : ∀ (w : World) (B0 : Nat) (u0 : List Value), RdLN w B0 (cs0.map CD.cp) u0 → Calls Try.prog 35 #[.agg u0.toArray] w (Out_di ar0 ar1 w)) :
    Calls Try.prog 9 #[.agg vs0.toArray] w fun e w' => e = .returned (.bool true) ∧ Below w.heap.size w w' := by
  have Z0 := hid z0; have K0 := hid k0; have hl0 : Hid (vs0.length = 13) := z0.1.trans k0.1; clear z0 k0
  have hz0 : szL cs0 ≤ 1048576 := by omega
  have hm0 : ¬ (1048576 : Int) - (szL cs0 : Nat) < 0 := by omega
  have HS := hid hS; have HI := hid hI; clear hS hI
  have F := Frg.nil w
  replace F := F.box 42 vs0.toArray
  go_enter Try.func9, Try.ntmps9
  go_wp2_with (first | (((with_reducible refine listN F ?_); clear F; intro wN F)) | ((with_reducible refine at_loadU rfl rfl ?_); first | (with_reducible refine wpList_loadG F rfl rfl rfl (by first | exact m0 | exact m1 | exact m2 | exact m3 | exact m4 | exact m5 | exact m6 | exact m7 | exact m8) Try.underlying49 rfl uinfoPipeI (by simp only [List.size_toArray]; first | exact hl0.out | exact hl1.out | exact hu0.out | exact hu1.out) ?_) | (with_reducible refine wpList_loadG F rfl rfl rfl (by first | exact m0 | exact m1 | exact m2 | exact m3 | exact m4 | exact m5 | exact m6 | exact m7 | exact m8) Try.underlying42 rfl uinfoPipeL (by simp only [List.size_toArray]; first | exact hl0.out | exact hl1.out | exact hu0.out | exact hu1.out) ?_)) | (go_at_call 25; ((with_reducible refine (szU_Pipe _ cs0 vs0 (1048576 : Int) ((1048576 : Int) - (szL cs0 : Nat)) _ (Z0.out.le F.below) K0.out (by omega) (by omega) (lessBy_pos hm0)).mono ?_); rintro e w1 ⟨rfl, hb1⟩; replace F := F.le hb1)) | (go_at_call 27; ((with_reducible refine (toU_Pipe _ cs0 vs0 _ (Z0.out.le F.below) K0.out hz0).mono ?_); rintro e w1 ⟨usA0, rfl, ho, hl⟩; have hu0 : Hid (usA0.length = 13) := ho.1.trans ((List.length_map ..).trans K0.out.1); have ho0 := hid ho.all_one; replace F := F.lay1 hl ho; clear ho hl)))
  first | ((with_reducible refine callAt0 F ?_); clear F; intro wN F) | ((with_reducible refine callAtN F ?_); clear F; intro wN F)
  refine (HS.out _ _ _ (F.layN (by first | exact m0 | exact m1 | exact m2 | exact m3 | exact m4 | exact m5 | exact m6 | exact m7 | exact m8))).mono ?_
  rintro e wS ⟨vS0, rfl, cS0, hlS⟩
  replace cS0 := hid cS0
  replace F := F.le hlS
  go_wp2_with (first | (((with_reducible refine listN F ?_); clear F; intro wN F)) | ((with_reducible refine at_store rfl ?_); first | (refine wpList_storeG F rfl rfl rfl rfl rfl (by simp only [List.size_toArray]; first | (rw [hu0.out]; exact uinfoPipeI) | (rw [hu1.out]; exact uinfoPipeI)) (by simp only [List.size_toArray]; first | (rw [hu0.out]; rfl) | (rw [hu1.out]; rfl)) (by first | exact ho0.out | exact ho1.out) ?_; clear F; intro W F zW; clear zW)) | ((with_reducible refine at_loadU rfl rfl ?_); first | (with_reducible refine wpList_loadG F rfl rfl rfl (by first | exact m0 | exact m1 | exact m2 | exact m3 | exact m4 | exact m5 | exact m6 | exact m7 | exact m8) Try.underlying49 rfl uinfoPipeI (by simp only [List.size_toArray]; first | exact hl0.out | exact hl1.out | exact hu0.out | exact hu1.out) ?_) | (with_reducible refine wpList_loadG F rfl rfl rfl (by first | exact m0 | exact m1 | exact m2 | exact m3 | exact m4 | exact m5 | exact m6 | exact m7 | exact m8) Try.underlying42 rfl uinfoPipeL (by simp only [List.size_toArray]; first | exact hl0.out | exact hl1.out | exact hu0.out | exact hu1.out) ?_)) | (go_at_call 27; ((with_reducible refine (toU_Pipe _ cs0 vs0 _ (Z0.out.le F.below) K0.out hz0).mono ?_); rintro e w1 ⟨usB0, rfl, ho, hl⟩; have hu0 : Hid (usB0.length = 13) := ho.1.trans ((List.length_map ..).trans K0.out.1); have ho0 := hid ho.all_one; replace F := F.lay1 hl ho; clear ho hl)))
  first | ((with_reducible refine callAt0 F ?_); clear F; intro wN F) | ((with_reducible refine callAtN F ?_); clear F; intro wN F)
  refine (HI.out _ _ _ (F.layN (by first | exact m0 | exact m1 | exact m2 | exact m3 | exact m4 | exact m5 | exact m6 | exact m7 | exact m8))).mono ?_
  rintro e wI ⟨vI0, rfl, cI0, hlI⟩
  replace cI0 := hid cI0
  replace F := F.le hlI
  go_wp2_with (first | (((with_reducible refine listN F ?_); clear F; intro wN F)) | ((with_reducible refine at_store rfl ?_); first | (refine wpList_storeG F rfl rfl rfl rfl rfl (by simp only [List.size_toArray]; first | (rw [hu0.out]; exact uinfoPipeI) | (rw [hu1.out]; exact uinfoPipeI)) (by simp only [List.size_toArray]; first | (rw [hu0.out]; rfl) | (rw [hu1.out]; rfl)) (by first | exact ho0.out | exact ho1.out) ?_; clear F; intro W F zW; clear zW)) | ((with_reducible refine at_loadU rfl rfl ?_); first | (with_reducible refine wpList_loadG F rfl rfl rfl (by first | exact m0 | exact m1 | exact m2 | exact m3 | exact m4 | exact m5 | exact m6 | exact m7 | exact m8) Try.underlying49 rfl uinfoPipeI (by simp only [List.size_toArray]; first | exact hl0.out | exact hl1.out | exact hu0.out | exact hu1.out) ?_) | (with_reducible refine wpList_loadG F rfl rfl rfl (by first | exact m0 | exact m1 | exact m2 | exact m3 | exact m4 | exact m5 | exact m6 | exact m7 | exact m8) Try.underlying42 rfl uinfoPipeL (by simp only [List.size_toArray]; first | exact hl0.out | exact hl1.out | exact hu0.out | exact hu1.out) ?_)) | (go_at_call 17; ((with_reducible refine (sameFloat_yes _ _ _ (cI0.out.trans cS0.out.symm)).mono ?_); rintro e w7 ⟨rfl, dq7, rfl⟩; skip)))
  first | (refine wpAt0 F ?_; clear F; intro wN F) | (refine wpAtN F ?_; clear F; intro wN F)
  refine region_freeD (E := leX) (fun f _ w v => if f = 27 then ∃ (us : List Value) (B : Nat), v = .agg us.toArray ∧ RdL w B (cs0.map CD.cp) us else v = .bool true) (by kernel_rfl) (by kernel_rfl) ?_
  refine wpFreeD_loadG F rfl rfl rfl rfl (by first | exact m0 | exact m1 | exact m2 | exact m3 | exact m4 | exact m5 | exact m6 | exact m7 | exact m8) Try.underlying49 rfl uinfoPipeI (by simp only [List.size_toArray]; exact hu0.out) ?_
  simp only [Act.put, List.setIfInBounds_toArray, List.set_cons_succ, List.set_cons_zero]
  refine wpFreeD_loadG F rfl rfl rfl rfl (by first | exact m0 | exact m1 | exact m2 | exact m3 | exact m4 | exact m5 | exact m6 | exact m7 | exact m8) Try.underlying42 rfl uinfoPipeL (by simp only [List.size_toArray]; exact hl0.out) ?_
  simp only [Act.put, List.setIfInBounds_toArray, List.set_cons_succ, List.set_cons_zero]
  refine wpFreeD_callB rfl rfl Try.func27 (by kernel_rfl) (by kernel_rfl) (args := #[.agg vs0.toArray]) (by simp [Act.eval]) (fun v w1 w2 hw hv => by simp only [if_true] at hv ⊢; obtain ⟨u, B, h1, h2⟩ := hv; exact ⟨u, B, h1, h2.le hw⟩) (fun w1 hw1 _ => (toU_Pipe _ cs0 vs0 w1 (Z0.out.le (le_trans (F.drewN _).below hw1)) K0.out hz0).mono ?_) ?_
  · rintro e w2 ⟨u, rfl, ho, hl⟩
    exact ⟨_, rfl, hl, by simp only [if_true]; exact ⟨u, _, rfl, ho.rd (fun _ hj => hj.2)⟩⟩
  rintro v ⟨_, _, _, hv⟩
  simp only [if_true] at hv
  obtain ⟨u0, Bu0, rfl, _⟩ := hv
  simp only [Act.put, List.setIfInBounds_toArray, List.set_cons_succ, List.set_cons_zero]
  refine wpFreeD_callB rfl rfl Try.func29 (by kernel_rfl) (by kernel_rfl) (args := #[.agg usB0.toArray, .agg u0.toArray]) (by simp [Act.eval]) (fun v w1 w2 hw hv => by simp only [show ¬ (29 = 27) by decide, if_false] at hv ⊢; exact hv) (fun w1 hw1 hbe => ?_) ?_
  · have hk := (hbe ⟨2, Ground.data⟩ (by simp) (by kernel_rfl)).2 rfl
    simp only [if_true] at hk
    obtain ⟨u', B', he, hr⟩ := hk
    obtain rfl : u0 = u' := by simpa using he
    refine (eqU_Pipe _ _ (cs0.map CD.cp) _ _ _ (((F.drewN 1).le hw1).layR (by first | exact m0 | exact m1 | exact m2 | exact m3 | exact m4 | exact m5 | exact m6 | exact m7 | exact m8)) hr K0.out.cp (by rw [szL_cp]; exact hz0)).mono ?_
    rintro e w2 ⟨rfl, hl⟩
    exact ⟨_, rfl, hl, by simp only [show ¬ (29 = 27) by decide, if_false]⟩
  rintro v ⟨_, _, _, hv⟩
  simp only [show ¬ (29 = 27) by decide, if_false] at hv
  subst hv
  simp only [Act.put, List.setIfInBounds_toArray, List.set_cons_succ, List.set_cons_zero]
  refine wpFreeD_one rfl (.bool false) (fun w1 _ => by kernel_rfl) ?_
  simp only [Act.put, List.setIfInBounds_toArray, List.set_cons_succ, List.set_cons_zero]
  refine wpFreeD_nil (fun wR hwR _ => ?_)
  replace F := (F.drewN 1).le hwR
  clear hwR
  go_wp2_with (first | (((with_reducible refine listN F ?_); clear F; intro wN F)) | ((with_reducible refine at_loadU rfl rfl ?_); first | (with_reducible refine wpList_loadG F rfl rfl rfl (by first | exact m0 | exact m1 | exact m2 | exact m3 | exact m4 | exact m5 | exact m6 | exact m7 | exact m8) Try.underlying49 rfl uinfoPipeI (by simp only [List.size_toArray]; first | exact hl0.out | exact hl1.out | exact hu0.out | exact hu1.out) ?_) | (with_reducible refine wpList_loadG F rfl rfl rfl (by first | exact m0 | exact m1 | exact m2 | exact m3 | exact m4 | exact m5 | exact m6 | exact m7 | exact m8) Try.underlying42 rfl uinfoPipeL (by simp only [List.size_toArray]; first | exact hl0.out | exact hl1.out | exact hu0.out | exact hu1.out) ?_)))
  go_ret
  first | exact ⟨rfl, F.below⟩ | exact ⟨rfl, below_drewN F.below _⟩
set_option maxRecDepth 100000 in
set_option maxHeartbeats 4000000 in
theorem large0 (cs0 : List CD) (vs0 : List Value) (w : World) (z0 : RdL w w.heap.size cs0 vs0) (k0 : ShOkL shPipe cs0)  (hg : ¬ szL cs0 ≤ 1048576) :
    Calls Try.prog 9 #[.agg vs0.toArray] w fun e w' => e = .returned (.bool true) ∧ Below w.heap.size w w' := by
  have Z0 := hid z0; have K0 := hid k0; have hl0 : Hid (vs0.length = 13) := z0.1.trans k0.1; clear z0 k0
  have hn0 : (1048576 : Int) - (szL cs0 : Nat) < 0 := by omega
  have F := Frg.nil w
  replace F := F.box 42 vs0.toArray
  go_enter Try.func9, Try.ntmps9
  go_wp2_with (first | (((with_reducible refine listN F ?_); clear F; intro wN F)) | ((with_reducible refine at_loadU rfl rfl ?_); first | (with_reducible refine wpList_loadG F rfl rfl rfl (by first | exact m0 | exact m1 | exact m2 | exact m3 | exact m4 | exact m5 | exact m6 | exact m7 | exact m8) Try.underlying49 rfl uinfoPipeI (by simp only [List.size_toArray]; first | exact hl0.out | exact hl1.out | exact hu0.out | exact hu1.out) ?_) | (with_reducible refine wpList_loadG F rfl rfl rfl (by first | exact m0 | exact m1 | exact m2 | exact m3 | exact m4 | exact m5 | exact m6 | exact m7 | exact m8) Try.underlying42 rfl uinfoPipeL (by simp only [List.size_toArray]; first | exact hl0.out | exact hl1.out | exact hu0.out | exact hu1.out) ?_)) | (go_at_call 25; ((with_reducible refine (szU_Pipe _ cs0 vs0 (1048576 : Int) (-1 : Int) _ (Z0.out.le F.below) K0.out (by omega) (by omega) (lessBy_neg hn0)).mono ?_); rintro e w1 ⟨rfl, hb1⟩; replace F := F.le hb1)))
  go_ret
  first | exact ⟨rfl, F.below⟩ | exact ⟨rfl, below_drewN F.below _⟩
theorem walk (cs0 : List CD) (vs0 : List Value) (w : World) (k0 : HasShL shPipe cs0) (z0 : RdL w w.heap.size cs0 vs0) :
    Calls Try.prog 9 #[.agg vs0.toArray] w fun e w' => e = .returned (.bool true) ∧ Below w.heap.size w w' := by
  by_cases g0 : szL cs0 ≤ 1048576
  · skip
    obtain ⟨ar0, ar1, hS, hI⟩ := both_EnergyOfPipe cs0 k0
    exact core cs0 vs0 ar0 ar1 w z0 k0.ok g0 hS hI
  · exact large0 cs0 vs0 w z0 k0.ok  g0
end Go.Proofs.Ytjcbolllohmjjaa.fnExactEnergyOfPipe
