/- Texts of the walk, laid in one file. -/
import Derived.OwnWalk
import Derived.Deep.AppendLies
import Derived.Great.BuildSlice
import Derived.Test.YtjcbolllohmjjaaMd
set_option linter.unusedVariables false
set_option linter.unusedSimpArgs false
/- What grows by append, beside facts of memory. Nothing here names a program. -/
namespace Go.Fk
open Go Go.RowKit
theorem ownsRow_chS {S : Nat → Prop} {w w' : World} {e : TypeId} {n B : Nat} {xs : List Value} {v : Value} (hw : Chg S w w') (h : w.ownsRow B e 1 v n xs) (hS : ∀ i, S i → i < B) : w'.ownsRow B e 1 v n xs := by
  obtain ⟨h1, h2⟩ := h
  refine ⟨h1, ?_⟩
  rcases h2 with h2 | ⟨q, cap, cur, e1, e2, e3, e4⟩
  · exact .inl h2
  · exact .inr ⟨q, cap, cur, e1, e2, by have := hw.row (g := q) (t := e) (cs := cur) e3 (fun hq => by have := hS q hq; omega); exact this, e4⟩
theorem ownBlock_ge {w : World} {B : Nat} {e : TypeId} {z : Nat} {v : Value} {n : Nat} {xs : List Value} (h : w.ownsRow B e z v n xs) : ∀ k, v.ownBlock = some k → B ≤ k := by
  rcases h.2 with ⟨rfl, _⟩ | ⟨q, cap, cur, rfl, hb, _⟩
  · intro k hk; cases hk
  · intro k hk; simp only [Value.ownBlock, Option.some.injEq] at hk; omega
theorem chg_grown {w w' : World} {row : Option Nat} {B : Nat} (h : w.grownBy w' row) (hr : ∀ k, row = some k → B ≤ k) : Chg (B ≤ ·) w w' :=
  ⟨h.os, h.tape, h.output, h.size, fun k hk hn => h.block k hk (fun e => hn (hr k e.symm))⟩
theorem Frg.up {w0 w w' : World} {L : List Fact} {B : Nat} (h : Frg w0 w L) (k : Chg (B ≤ ·) w w') (hB : ∀ e ∈ L, e.hi ≤ B) (h0 : w0.heap.size ≤ B) : Frg w0 w' L :=
  ⟨h.below.trans (k.below (fun i hi => Nat.le_trans h0 hi) h.size), fun e he => by
    obtain ⟨h1, h2, h3⟩ := h.facts e he
    exact ⟨h1, Nat.le_trans h2 k.size, e.ok w w' h3 (fun i _ hi => k.block i (by omega) (fun hb => by have := hB e he; omega))⟩, h.apart⟩
theorem flist_snoc (y : Nat → Nat) (n a : Nat) : flist y n ++ [.float .f32 a] = flist (fun j => if j = n then a else y j) (n + 1) := by
  have h := flist_app y (fun _ => a) n 1
  have h1 : flist (fun _ => a) 1 = [.float .f32 a] := by simp [flist]
  rw [h1] at h
  rw [h]
  apply List.ext_getElem?
  intro i
  by_cases hi : i < n + 1
  · rw [flist_get' _ hi, flist_get' _ hi]
    by_cases e : i = n
    · simp [e]
    · simp [e, show i < n by omega]
  · rw [List.getElem?_eq_none (by rw [flist_length]; omega), List.getElem?_eq_none (by rw [flist_length]; omega)]
theorem Frg.own2 {w0 w w' : World} {L : List Fact} {q n n' : Nat} {s s' : Value} {x x' : Nat → Nat} (h : Frg w0 w L) (k : Below w.heap.size w w') (h1 : w.heap.size ≤ q) (h2 : q ≤ w'.heap.size) (o1 : OwnS w' w.heap.size q s x n) (o2 : OwnS w' q w'.heap.size s' x' n') :
    Frg w0 w' (ownF q w'.heap.size s' x' n' :: ownF w.heap.size q s x n :: L) := by
  refine ⟨(h.le k).below, fun e he => ?_, .cons (fun e he => ?_) (.cons (fun e he => (h.facts e he).2.1) h.apart)⟩
  · rcases List.mem_cons.1 he with rfl | he
    · exact ⟨Nat.le_trans h.size h1, Nat.le_refl _, o2⟩
    · rcases List.mem_cons.1 he with rfl | he
      · exact ⟨h.size, h2, o1⟩
      · exact (h.le k).facts e he
  · rcases List.mem_cons.1 he with rfl | he
    · exact Nat.le_refl q
    · exact Nat.le_trans (h.facts e he).2.1 h1
theorem m12 {b0 b1 b2 b3 b4 b5 b6 b7 b8 b9 b10 b11 a : Fact} {l : List Fact} : a ∈ b0 :: b1 :: b2 :: b3 :: b4 :: b5 :: b6 :: b7 :: b8 :: b9 :: b10 :: b11 :: a :: l := List.mem_cons_of_mem _ (List.mem_cons_of_mem _ (List.mem_cons_of_mem _ (List.mem_cons_of_mem _ (List.mem_cons_of_mem _ (List.mem_cons_of_mem _ (List.mem_cons_of_mem _ (List.mem_cons_of_mem _ (List.mem_cons_of_mem _ (List.mem_cons_of_mem _ (List.mem_cons_of_mem _ (List.mem_cons_of_mem _ (List.mem_cons_self))))))))))))
theorem m13 {b0 b1 b2 b3 b4 b5 b6 b7 b8 b9 b10 b11 b12 a : Fact} {l : List Fact} : a ∈ b0 :: b1 :: b2 :: b3 :: b4 :: b5 :: b6 :: b7 :: b8 :: b9 :: b10 :: b11 :: b12 :: a :: l := List.mem_cons_of_mem _ (List.mem_cons_of_mem _ (List.mem_cons_of_mem _ (List.mem_cons_of_mem _ (List.mem_cons_of_mem _ (List.mem_cons_of_mem _ (List.mem_cons_of_mem _ (List.mem_cons_of_mem _ (List.mem_cons_of_mem _ (List.mem_cons_of_mem _ (List.mem_cons_of_mem _ (List.mem_cons_of_mem _ (List.mem_cons_of_mem _ (List.mem_cons_self)))))))))))))
theorem m14 {b0 b1 b2 b3 b4 b5 b6 b7 b8 b9 b10 b11 b12 b13 a : Fact} {l : List Fact} : a ∈ b0 :: b1 :: b2 :: b3 :: b4 :: b5 :: b6 :: b7 :: b8 :: b9 :: b10 :: b11 :: b12 :: b13 :: a :: l := List.mem_cons_of_mem _ (List.mem_cons_of_mem _ (List.mem_cons_of_mem _ (List.mem_cons_of_mem _ (List.mem_cons_of_mem _ (List.mem_cons_of_mem _ (List.mem_cons_of_mem _ (List.mem_cons_of_mem _ (List.mem_cons_of_mem _ (List.mem_cons_of_mem _ (List.mem_cons_of_mem _ (List.mem_cons_of_mem _ (List.mem_cons_of_mem _ (List.mem_cons_of_mem _ (List.mem_cons_self))))))))))))))
theorem m15 {b0 b1 b2 b3 b4 b5 b6 b7 b8 b9 b10 b11 b12 b13 b14 a : Fact} {l : List Fact} : a ∈ b0 :: b1 :: b2 :: b3 :: b4 :: b5 :: b6 :: b7 :: b8 :: b9 :: b10 :: b11 :: b12 :: b13 :: b14 :: a :: l := List.mem_cons_of_mem _ (List.mem_cons_of_mem _ (List.mem_cons_of_mem _ (List.mem_cons_of_mem _ (List.mem_cons_of_mem _ (List.mem_cons_of_mem _ (List.mem_cons_of_mem _ (List.mem_cons_of_mem _ (List.mem_cons_of_mem _ (List.mem_cons_of_mem _ (List.mem_cons_of_mem _ (List.mem_cons_of_mem _ (List.mem_cons_of_mem _ (List.mem_cons_of_mem _ (List.mem_cons_of_mem _ (List.mem_cons_self)))))))))))))))
theorem m16 {b0 b1 b2 b3 b4 b5 b6 b7 b8 b9 b10 b11 b12 b13 b14 b15 a : Fact} {l : List Fact} : a ∈ b0 :: b1 :: b2 :: b3 :: b4 :: b5 :: b6 :: b7 :: b8 :: b9 :: b10 :: b11 :: b12 :: b13 :: b14 :: b15 :: a :: l := List.mem_cons_of_mem _ (List.mem_cons_of_mem _ (List.mem_cons_of_mem _ (List.mem_cons_of_mem _ (List.mem_cons_of_mem _ (List.mem_cons_of_mem _ (List.mem_cons_of_mem _ (List.mem_cons_of_mem _ (List.mem_cons_of_mem _ (List.mem_cons_of_mem _ (List.mem_cons_of_mem _ (List.mem_cons_of_mem _ (List.mem_cons_of_mem _ (List.mem_cons_of_mem _ (List.mem_cons_of_mem _ (List.mem_cons_of_mem _ (List.mem_cons_self))))))))))))))))
theorem m17 {b0 b1 b2 b3 b4 b5 b6 b7 b8 b9 b10 b11 b12 b13 b14 b15 b16 a : Fact} {l : List Fact} : a ∈ b0 :: b1 :: b2 :: b3 :: b4 :: b5 :: b6 :: b7 :: b8 :: b9 :: b10 :: b11 :: b12 :: b13 :: b14 :: b15 :: b16 :: a :: l := List.mem_cons_of_mem _ (List.mem_cons_of_mem _ (List.mem_cons_of_mem _ (List.mem_cons_of_mem _ (List.mem_cons_of_mem _ (List.mem_cons_of_mem _ (List.mem_cons_of_mem _ (List.mem_cons_of_mem _ (List.mem_cons_of_mem _ (List.mem_cons_of_mem _ (List.mem_cons_of_mem _ (List.mem_cons_of_mem _ (List.mem_cons_of_mem _ (List.mem_cons_of_mem _ (List.mem_cons_of_mem _ (List.mem_cons_of_mem _ (List.mem_cons_of_mem _ (List.mem_cons_self)))))))))))))))))
theorem m18 {b0 b1 b2 b3 b4 b5 b6 b7 b8 b9 b10 b11 b12 b13 b14 b15 b16 b17 a : Fact} {l : List Fact} : a ∈ b0 :: b1 :: b2 :: b3 :: b4 :: b5 :: b6 :: b7 :: b8 :: b9 :: b10 :: b11 :: b12 :: b13 :: b14 :: b15 :: b16 :: b17 :: a :: l := List.mem_cons_of_mem _ (List.mem_cons_of_mem _ (List.mem_cons_of_mem _ (List.mem_cons_of_mem _ (List.mem_cons_of_mem _ (List.mem_cons_of_mem _ (List.mem_cons_of_mem _ (List.mem_cons_of_mem _ (List.mem_cons_of_mem _ (List.mem_cons_of_mem _ (List.mem_cons_of_mem _ (List.mem_cons_of_mem _ (List.mem_cons_of_mem _ (List.mem_cons_of_mem _ (List.mem_cons_of_mem _ (List.mem_cons_of_mem _ (List.mem_cons_of_mem _ (List.mem_cons_of_mem _ (List.mem_cons_self))))))))))))))))))
theorem m19 {b0 b1 b2 b3 b4 b5 b6 b7 b8 b9 b10 b11 b12 b13 b14 b15 b16 b17 b18 a : Fact} {l : List Fact} : a ∈ b0 :: b1 :: b2 :: b3 :: b4 :: b5 :: b6 :: b7 :: b8 :: b9 :: b10 :: b11 :: b12 :: b13 :: b14 :: b15 :: b16 :: b17 :: b18 :: a :: l := List.mem_cons_of_mem _ (List.mem_cons_of_mem _ (List.mem_cons_of_mem _ (List.mem_cons_of_mem _ (List.mem_cons_of_mem _ (List.mem_cons_of_mem _ (List.mem_cons_of_mem _ (List.mem_cons_of_mem _ (List.mem_cons_of_mem _ (List.mem_cons_of_mem _ (List.mem_cons_of_mem _ (List.mem_cons_of_mem _ (List.mem_cons_of_mem _ (List.mem_cons_of_mem _ (List.mem_cons_of_mem _ (List.mem_cons_of_mem _ (List.mem_cons_of_mem _ (List.mem_cons_of_mem _ (List.mem_cons_of_mem _ (List.mem_cons_self)))))))))))))))))))
theorem Frg.mark10 {w0 w w' : World} {lo hi n : Nat} {s : Value} {x x' : Nat → Nat} {l : List Fact} {b0 b1 b2 b3 b4 b5 b6 b7 b8 b9 : Fact} (h : Frg w0 w (b0 :: b1 :: b2 :: b3 :: b4 :: b5 :: b6 :: b7 :: b8 :: b9 :: ownF lo hi s x n :: l)) (hp : OwnS w' lo hi s x' n) (k : Chg (rng lo hi) w w') : Frg w0 w' (b0 :: b1 :: b2 :: b3 :: b4 :: b5 :: b6 :: b7 :: b8 :: b9 :: ownF lo hi s x' n :: l) :=
  Frg.chg [b0, b1, b2, b3, b4, b5, b6, b7, b8, b9] (e := ownF lo hi s x n) (e' := ownF lo hi s x' n) h k hp rfl rfl
theorem Frg.mark11 {w0 w w' : World} {lo hi n : Nat} {s : Value} {x x' : Nat → Nat} {l : List Fact} {b0 b1 b2 b3 b4 b5 b6 b7 b8 b9 b10 : Fact} (h : Frg w0 w (b0 :: b1 :: b2 :: b3 :: b4 :: b5 :: b6 :: b7 :: b8 :: b9 :: b10 :: ownF lo hi s x n :: l)) (hp : OwnS w' lo hi s x' n) (k : Chg (rng lo hi) w w') : Frg w0 w' (b0 :: b1 :: b2 :: b3 :: b4 :: b5 :: b6 :: b7 :: b8 :: b9 :: b10 :: ownF lo hi s x' n :: l) :=
  Frg.chg [b0, b1, b2, b3, b4, b5, b6, b7, b8, b9, b10] (e := ownF lo hi s x n) (e' := ownF lo hi s x' n) h k hp rfl rfl
theorem Frg.mark12 {w0 w w' : World} {lo hi n : Nat} {s : Value} {x x' : Nat → Nat} {l : List Fact} {b0 b1 b2 b3 b4 b5 b6 b7 b8 b9 b10 b11 : Fact} (h : Frg w0 w (b0 :: b1 :: b2 :: b3 :: b4 :: b5 :: b6 :: b7 :: b8 :: b9 :: b10 :: b11 :: ownF lo hi s x n :: l)) (hp : OwnS w' lo hi s x' n) (k : Chg (rng lo hi) w w') : Frg w0 w' (b0 :: b1 :: b2 :: b3 :: b4 :: b5 :: b6 :: b7 :: b8 :: b9 :: b10 :: b11 :: ownF lo hi s x' n :: l) :=
  Frg.chg [b0, b1, b2, b3, b4, b5, b6, b7, b8, b9, b10, b11] (e := ownF lo hi s x n) (e' := ownF lo hi s x' n) h k hp rfl rfl
theorem Frg.mark13 {w0 w w' : World} {lo hi n : Nat} {s : Value} {x x' : Nat → Nat} {l : List Fact} {b0 b1 b2 b3 b4 b5 b6 b7 b8 b9 b10 b11 b12 : Fact} (h : Frg w0 w (b0 :: b1 :: b2 :: b3 :: b4 :: b5 :: b6 :: b7 :: b8 :: b9 :: b10 :: b11 :: b12 :: ownF lo hi s x n :: l)) (hp : OwnS w' lo hi s x' n) (k : Chg (rng lo hi) w w') : Frg w0 w' (b0 :: b1 :: b2 :: b3 :: b4 :: b5 :: b6 :: b7 :: b8 :: b9 :: b10 :: b11 :: b12 :: ownF lo hi s x' n :: l) :=
  Frg.chg [b0, b1, b2, b3, b4, b5, b6, b7, b8, b9, b10, b11, b12] (e := ownF lo hi s x n) (e' := ownF lo hi s x' n) h k hp rfl rfl
theorem Frg.mark14 {w0 w w' : World} {lo hi n : Nat} {s : Value} {x x' : Nat → Nat} {l : List Fact} {b0 b1 b2 b3 b4 b5 b6 b7 b8 b9 b10 b11 b12 b13 : Fact} (h : Frg w0 w (b0 :: b1 :: b2 :: b3 :: b4 :: b5 :: b6 :: b7 :: b8 :: b9 :: b10 :: b11 :: b12 :: b13 :: ownF lo hi s x n :: l)) (hp : OwnS w' lo hi s x' n) (k : Chg (rng lo hi) w w') : Frg w0 w' (b0 :: b1 :: b2 :: b3 :: b4 :: b5 :: b6 :: b7 :: b8 :: b9 :: b10 :: b11 :: b12 :: b13 :: ownF lo hi s x' n :: l) :=
  Frg.chg [b0, b1, b2, b3, b4, b5, b6, b7, b8, b9, b10, b11, b12, b13] (e := ownF lo hi s x n) (e' := ownF lo hi s x' n) h k hp rfl rfl
theorem Frg.mark15 {w0 w w' : World} {lo hi n : Nat} {s : Value} {x x' : Nat → Nat} {l : List Fact} {b0 b1 b2 b3 b4 b5 b6 b7 b8 b9 b10 b11 b12 b13 b14 : Fact} (h : Frg w0 w (b0 :: b1 :: b2 :: b3 :: b4 :: b5 :: b6 :: b7 :: b8 :: b9 :: b10 :: b11 :: b12 :: b13 :: b14 :: ownF lo hi s x n :: l)) (hp : OwnS w' lo hi s x' n) (k : Chg (rng lo hi) w w') : Frg w0 w' (b0 :: b1 :: b2 :: b3 :: b4 :: b5 :: b6 :: b7 :: b8 :: b9 :: b10 :: b11 :: b12 :: b13 :: b14 :: ownF lo hi s x' n :: l) :=
  Frg.chg [b0, b1, b2, b3, b4, b5, b6, b7, b8, b9, b10, b11, b12, b13, b14] (e := ownF lo hi s x n) (e' := ownF lo hi s x' n) h k hp rfl rfl
theorem Frg.mark16 {w0 w w' : World} {lo hi n : Nat} {s : Value} {x x' : Nat → Nat} {l : List Fact} {b0 b1 b2 b3 b4 b5 b6 b7 b8 b9 b10 b11 b12 b13 b14 b15 : Fact} (h : Frg w0 w (b0 :: b1 :: b2 :: b3 :: b4 :: b5 :: b6 :: b7 :: b8 :: b9 :: b10 :: b11 :: b12 :: b13 :: b14 :: b15 :: ownF lo hi s x n :: l)) (hp : OwnS w' lo hi s x' n) (k : Chg (rng lo hi) w w') : Frg w0 w' (b0 :: b1 :: b2 :: b3 :: b4 :: b5 :: b6 :: b7 :: b8 :: b9 :: b10 :: b11 :: b12 :: b13 :: b14 :: b15 :: ownF lo hi s x' n :: l) :=
  Frg.chg [b0, b1, b2, b3, b4, b5, b6, b7, b8, b9, b10, b11, b12, b13, b14, b15] (e := ownF lo hi s x n) (e' := ownF lo hi s x' n) h k hp rfl rfl
end Go.Fk

/- An append to a row of one's own in a region that draws its order: elements of any width. Nothing here names a program. -/
namespace Go.Fk
open Go Go.RowKit
theorem ownsRow_keep {w w' : World} {B : Nat} {e : TypeId} {z : Nat} {v : Value} {n : Nat} {xs : List Value} {S : Nat → Prop} (h : w.ownsRow B e z v n xs) (hw : Chg S w w') (hS : ∀ k, v.ownBlock = some k → ¬ S k) : w'.ownsRow B e z v n xs := by
  obtain ⟨h1, h2⟩ := h
  refine ⟨h1, ?_⟩
  rcases h2 with h2 | ⟨q, cap, cur, e1, e2, e3, e4⟩
  · exact .inl h2
  · exact .inr ⟨q, cap, cur, e1, e2, by have := hw.row (g := q) (t := e) (cs := cur) e3 (hS q (by rw [e1]; rfl)); exact this, e4⟩
theorem ownsRow_mono {w : World} {B B' : Nat} {e : TypeId} {z : Nat} {v : Value} {n : Nat} {xs : List Value} (h : w.ownsRow B e z v n xs) (hb : B' ≤ B) : w.ownsRow B' e z v n xs := by
  obtain ⟨h1, h2⟩ := h
  refine ⟨h1, ?_⟩
  rcases h2 with h2 | ⟨q, cap, cur, e1, e2, e3⟩
  · exact .inl h2
  · exact .inr ⟨q, cap, cur, e1, Nat.le_trans hb e2, e3⟩
theorem ownsRow_lt {w : World} {B : Nat} {e : TypeId} {z : Nat} {v : Value} {n : Nat} {xs : List Value} (h : w.ownsRow B e z v n xs) : ∀ k, v.ownBlock = some k → B ≤ k ∧ k < w.heap.size := by
  intro k hk
  rcases h.2 with ⟨rfl, _⟩ | ⟨q, cap, cur, rfl, e2, e3, _⟩
  · cases hk
  · obtain rfl : q = k := by simpa [Value.ownBlock] using hk
    refine ⟨e2, ?_⟩
    rcases Nat.lt_or_ge q w.heap.size with hlt | hge
    · exact hlt
    · rw [Array.getElem?_eq_none hge] at e3; cases e3
theorem run_append_keep {P : Program} (w : World) (t ty : TypeId) (base : Nat) (e : TypeId) (i : TypeInfo) (z : Value) (size bytes : Nat) (ht : P.underlying t = some (.slice e)) (hi : P.info? e = some i) (hz : i.zero = some z)
    (hsize : i.size = size) (hby : i.bytes = bytes) (hzs : z.cells.size = size) (hsz : 0 < size)
    (v : Value) (n : Nat) (xs : List Value) (hown : w.ownsRow base e size v n xs)
    (ad : Addr) (m c : Nat) (news : List Value) (hl : news.length = m * size) (hnews : ∀ j u, news[j]? = some u → w.cell? (ad.add j) = some u) (h1 : ∀ u ∈ news, u.oneCell' = true)
    (hm : 0 < m) (h63 : n + m ≤ maxLen) (hbytes : (n + m) * bytes ≤ 140737488355328) (hbase : base ≤ w.heap.size) :
    ∃ v' w', (Builtin.append_ #[t, t] ty #[v, .slice (some ad) m c]).run P w = .ok v' w' ∧ w'.ownsRow base e size v' (n + m) (xs ++ news) ∧ Chg (fun k => v.ownBlock = some k) w w' ∧
      (v'.ownBlock = v.ownBlock ∨ ∃ q, v'.ownBlock = some q ∧ w.heap.size ≤ q) ∧ w'.ownsRow base e size v n xs ∧ (∀ u, u.ownBlock = v.ownBlock → w.ownsRow base e size u (n + m) (xs ++ news) → w'.ownsRow base e size u (n + m) (xs ++ news)) := by
  have hlen : (xs ++ news).length = (n + m) * size := by rw [List.length_append, hown.1, hl, Nat.add_mul]
  rcases hown.2 with ⟨rfl, rfl⟩ | ⟨g, cap, cur, rfl, hbg, hg, hnc, hcm, hcs, htake⟩
  · obtain ⟨v', w', hr, h2, h3, _, h5⟩ := run_append_own_at (P := P) w base t ty e i z size bytes ht hi hz hsize hby hzs hsz (.slice none 0 0) 0 xs hown ad m c news hl hnews h1 h63 hbytes hbase
    have hle : le w w' := le_of_grown h3
    refine ⟨v', w', hr, h2, Chg.of_le hle, ?_, ownsRow_le hown hle, fun u _ hu => ownsRow_le hu hle⟩
    rcases h5 with h5 | h5
    · exact .inl h5
    · exact .inr ⟨_, h5, Nat.le_refl _⟩
  · by_cases hroom : n + m ≤ cap
    · subst hsize
      have hfit : n * i.size + news.length ≤ cur.size := by rw [hl, hcs, ← Nat.add_mul]; exact Nat.mul_le_mul_right _ hroom
      have hr := run_append_room (P := P) w t ty e i ht hi g n cap cur hg ad m c news hl hnews h1 hroom hfit
      have hnew : (w.setRow g (cur.toList.take (n * i.size) ++ news ++ cur.toList.drop (n * i.size + news.length)).toArray).ownsRow base e i.size (.slice (some ⟨g, 0, none⟩) (n + m) cap) (n + m) (xs ++ news) := by
        refine ⟨hlen, .inr ⟨g, cap, _, rfl, hbg, setRow_heap w g cur _ e _ hg, hroom, hcm, ?_, ?_⟩⟩
        · simp only [List.size_toArray, List.length_append, List.length_take, List.length_drop, Array.length_toList]
          omega
        · rw [htake, ← hlen]
          exact List.take_left
      refine ⟨_, _, hr, hnew, ⟨rfl, rfl, rfl, by simp, fun k _ hk => setRow_other w g k _ (fun e => hk (by simp [Value.ownBlock, e]))⟩, .inl rfl, ?_, fun u hu ho => ?_⟩
      · refine ⟨hown.1, .inr ⟨g, cap, _, rfl, hbg, setRow_heap w g cur _ e _ hg, hnc, hcm, ?_, ?_⟩⟩
        · simp only [List.size_toArray, List.length_append, List.length_take, List.length_drop, Array.length_toList]
          omega
        · rw [htake, List.append_assoc, ← hown.1]
          exact List.take_left
      · rcases ho.2 with ⟨rfl, h0⟩ | ⟨g0, cap0, cur0, rfl, _, hg0, _, _, hs0, _⟩
        · omega
        · obtain rfl : g0 = g := by simpa [Value.ownBlock] using hu
          rw [hg] at hg0
          simp only [Option.some.injEq, Obj.cells.injEq] at hg0
          obtain ⟨rfl, _⟩ := hg0
          obtain rfl : cap = cap0 := Nat.eq_of_mul_eq_mul_right hsz (hcs.symm.trans hs0)
          exact hnew
    · obtain ⟨v', w', hr, h2, h3⟩ := run_append_arg_grows (P := P) w t ty e i z size bytes ht hi hz hsize hby hzs hsz ⟨g, 0, none⟩ n cap xs hown.1 (hown.cells (g := g) rfl) ad m c news hl hnews (by omega) h63 hbytes
      have hle : le w w' := le_of_grown h3
      obtain ⟨q, c', rfl, hq, _⟩ := h2.form (by omega)
      exact ⟨_, w', hr, ownsRow_mono h2 hbase, Chg.of_le hle, .inr ⟨q, rfl, hq⟩, ownsRow_le hown hle, fun u _ hu => ownsRow_le hu hle⟩
/-- Only the row that one owns is written, by one append. -/
def appX (base : Nat) (e : TypeId) (z : Nat) (v : Value) (n : Nat) (xs : List Value) (m : Nat) (news : List Value) : Ext where
  R w w' := Chg (fun k => v.ownBlock = some k) w w' ∧ (w.ownsRow base e z v n xs → w'.ownsRow base e z v n xs) ∧ (∀ u, u.ownBlock = v.ownBlock → w.ownsRow base e z u (n + m) (xs ++ news) → w'.ownsRow base e z u (n + m) (xs ++ news))
  refl w := ⟨Chg.refl _ w, fun h => h, fun _ _ h => h⟩
  trans h k := ⟨h.1.trans k.1, fun x => k.2.1 (h.2.1 x), fun u hu x => k.2.2 u hu (h.2.2 u hu x)⟩
  of_le h := ⟨Chg.of_le h, fun x => ownsRow_le x h, fun _ _ x => ownsRow_le x h⟩
section
variable {P : Program} {ops : Array Oper} {W : World} {K : FuncId → Array Value → World → Value → Prop} {Q : Act → World → Prop} {F : Facts} {k : Nat} {o : Oper} {rest : List Oper} {a : Act}
variable {base : Nat} {e : TypeId} {z : Nat} {v : Value} {n : Nat} {xs : List Value} {m : Nat} {news : List Value}
theorem appX_row {w : World} (hown : W.ownsRow base e z v n xs) (hw : (appX base e z v n xs m news).R W w) {q : Nat} {t : TypeId} {cs : Array Value} (hr : Row W q t cs) (hq : v.ownBlock ≠ some q) : Row w q t cs := hw.1.row hr hq
theorem wpFreeD_madeX (hown : W.ownsRow base e z v n xs) (hg : o.guard = none) (f : Nat → Value) (t : TypeId) (cs : Array Value) (hr : ∀ w, (execOp a.eval o).run P w = .ok (.value (f w.heap.size)) (w.alloc (.cells cs t)))
    (h : ∀ b, wpFreeD (appX base e z v n xs m news) P ops .any W K Q rest (k + 1) (a.put o.dst (f b)) (F.with k (fun w => ∃ b', f b = f b' ∧ Row w b' t cs))) : wpFreeD (appX base e z v n xs m news) P ops .any W K Q (o :: rest) k a F := by
  refine ⟨fun w u => ∃ b', u = f b' ∧ W.heap.size ≤ b' ∧ Row w b' t cs, ⟨fun u w w' hw hu => ?_, .inl ⟨by simp [Region.wanted, hg], fun w hw _ => ?_⟩⟩, fun u hu => ?_⟩
  · obtain ⟨b', e1, h2, hrow⟩ := hu
    exact ⟨b', e1, h2, hw.1.row hrow (fun e2 => by have := (ownsRow_lt hown _ e2).2; omega)⟩
  · rw [hr w]
    exact ⟨(appX base e z v n xs m news).of_le (le_alloc w _), w.heap.size, rfl, hw.1.size, Row.new w t cs⟩
  · obtain ⟨w, _, _, b, rfl, _⟩ := hu
    exact wpFreeD_weaken _ _ _ _ _ (fun e w h => ⟨h.1, fun he => by obtain ⟨b', e1, _, h2⟩ := h.2 he; exact ⟨b', e1, h2⟩⟩) (h b)
/-- What an append gives. -/
def Gave (W : World) (base : Nat) (e : TypeId) (z : Nat) (v : Value) (n : Nat) (xs : List Value) (w : World) (u : Value) : Prop := w.ownsRow base e z u n xs ∧ (u.ownBlock = v.ownBlock ∨ ∃ q, u.ownBlock = some q ∧ W.heap.size ≤ q)
theorem wpFreeD_appK (hown : W.ownsRow base e z v n xs) (hg : o.guard = none) {s x : Operand} {t : TypeId} (hop : o.op = .call { callee := .builtin .append, args := #[s, x], argTypes := #[t, t] }) {i : TypeInfo} {zv : Value} {bytes : Nat}
    (ht : P.underlying t = some (.slice e)) (hi : P.info? e = some i) (hz : i.zero = some zv) (hsize : i.size = z) (hby : i.bytes = bytes) (hzs : zv.cells.size = z) (hsz : 0 < z)
    (hs : a.eval s = v) {ad : Addr} {c : Nat} (hx : a.eval x = .slice (some ad) m c) (hl : news.length = m * z) (hnews : ∀ w, (appX base e z v n xs m news).R W w → behind .any o F w → ∀ j u, news[j]? = some u → w.cell? (ad.add j) = some u) (h1 : ∀ u ∈ news, u.oneCell' = true)
    (hm : 0 < m) (h63 : n + m ≤ maxLen) (hbytes : (n + m) * bytes ≤ 140737488355328) (hbase : base ≤ W.heap.size)
    (h : ∀ u, (∃ w, (appX base e z v n xs m news).R W w ∧ Gave W base e z v (n + m) (xs ++ news) w u) → wpFreeD (appX base e z v n xs m news) P ops .any W K Q rest (k + 1) (a.put o.dst u) (F.with k (fun w => Gave W base e z v (n + m) (xs ++ news) w u))) : wpFreeD (appX base e z v n xs m news) P ops .any W K Q (o :: rest) k a F := by
  refine ⟨Gave W base e z v (n + m) (xs ++ news), ⟨fun u w w' hw hu => ?_, .inl ⟨by simp [Region.wanted, hg], fun w hw hbe => ?_⟩⟩, fun u hu => h u (by obtain ⟨w, h1, _, h2⟩ := hu; exact ⟨w, h1, h2⟩)⟩
  · obtain ⟨g1, g2⟩ := hu
    refine ⟨?_, g2⟩
    by_cases hq : u.ownBlock = v.ownBlock
    · exact hw.2.2 u hq g1
    · exact ownsRow_keep g1 hw.1 (fun q e1 e2 => hq (e1.trans e2.symm))
  · obtain ⟨v', w', hr, r1, r2, r3, r4, r5⟩ := run_append_keep (P := P) w t o.type base e i zv z bytes ht hi hz hsize hby hzs hsz v n xs (hw.2.1 hown) ad m c news hl (hnews w hw hbe) h1 hm h63 hbytes (Nat.le_trans hbase hw.1.size)
    simp [execOp, hop, resolve, invoke, builtin, hs, hx, hr, Result.andThen, insideT]
    refine ⟨⟨r2, fun _ => r4, r5⟩, r1, ?_⟩
    rcases r3 with r3 | ⟨q, r3, r6⟩
    · exact .inl r3
    · exact .inr ⟨q, r3, Nat.le_trans hw.1.size r6⟩
end
end Go.Fk

/- 'rings': the rings of a pipe in one list. -/
namespace Go.Fk
open Go Go.RowKit
/-- Four cells a section. -/
def fourC (u u' : Nat → Value) (x y : Nat → CD) (i : Nat) : Value := match i % 4 with | 0 => u (i / 4) | 1 => .int .i64 (rgK x (i / 4)) | 2 => u' (i / 4) | _ => .int .i64 (rgK y (i / 4))
def fourL (u u' : Nat → Value) (x y : Nat → CD) (j : Nat) : List Value := (List.range (4 * j)).map (fourC u u' x y)
theorem fourL_succ (u u' : Nat → Value) (x y : Nat → CD) (j : Nat) : fourL u u' x y j ++ [u j, .int .i64 (rgK x j), u' j, .int .i64 (rgK y j)] = fourL u u' x y (j + 1) := by
  have e0 : fourC u u' x y (4 * j) = u j := by unfold fourC; rw [show 4 * j % 4 = 0 by omega, show 4 * j / 4 = j by omega]; rfl
  have e1 : fourC u u' x y (4 * j + 1) = .int .i64 (rgK x j) := by unfold fourC; rw [show (4 * j + 1) % 4 = 1 by omega, show (4 * j + 1) / 4 = j by omega]; rfl
  have e2 : fourC u u' x y (4 * j + 2) = u' j := by unfold fourC; rw [show (4 * j + 2) % 4 = 2 by omega, show (4 * j + 2) / 4 = j by omega]; rfl
  have e3 : fourC u u' x y (4 * j + 3) = .int .i64 (rgK y j) := by unfold fourC; rw [show (4 * j + 3) % 4 = 3 by omega, show (4 * j + 3) / 4 = j by omega]; rfl
  unfold fourL
  rw [show 4 * (j + 1) = 4 * j + 1 + 1 + 1 + 1 by omega, List.range_succ, List.range_succ, List.range_succ, List.range_succ]
  simp only [List.map_append, List.map_cons, List.map_nil, List.append_assoc, List.cons_append, List.nil_append, e0, e1, e2, e3]
theorem fourL_length (u u' : Nat → Value) (x y : Nat → CD) (j : Nat) : (fourL u u' x y j).length = 4 * j := by simp [fourL]
/-- The rings of two lists by turns. -/
def zN (x y : Nat → CD) (k : Nat) : Nat := if k % 2 = 0 then rgN x (k / 2) else rgN y (k / 2)
def zX (x y : Nat → CD) (k : Nat) : Nat → Nat := if k % 2 = 0 then rgX x (k / 2) else rgX y (k / 2)
def zK (x y : Nat → CD) (k : Nat) : Int := if k % 2 = 0 then rgK x (k / 2) else rgK y (k / 2)
theorem fourL_even {u u' : Nat → Value} {x y : Nat → CD} {n k : Nat} (hk : k < 2 * n) : (fourL u u' x y n)[k * 2]? = some (if k % 2 = 0 then u (k / 2) else u' (k / 2)) := by
  unfold fourL
  rw [List.getElem?_map, List.getElem?_range (by omega)]
  simp only [Option.map_some, fourC]
  rcases Nat.mod_two_eq_zero_or_one k with h | h
  · rw [show k * 2 % 4 = 0 by omega, show k * 2 / 4 = k / 2 by omega, if_pos h]; rfl
  · rw [show k * 2 % 4 = 2 by omega, show k * 2 / 4 = k / 2 by omega, if_neg (by omega)]; rfl
theorem fourL_odd {u u' : Nat → Value} {x y : Nat → CD} {n k : Nat} (hk : k < 2 * n) : (fourL u u' x y n)[k * 2 + 1]? = some (.int .i64 (zK x y k)) := by
  unfold fourL
  rw [List.getElem?_map, List.getElem?_range (by omega)]
  simp only [Option.map_some, fourC, zK]
  rcases Nat.mod_two_eq_zero_or_one k with h | h
  · rw [show (k * 2 + 1) % 4 = 1 by omega, show (k * 2 + 1) / 4 = k / 2 by omega, if_pos h]; rfl
  · rw [show (k * 2 + 1) % 4 = 3 by omega, show (k * 2 + 1) / 4 = k / 2 by omega, if_neg (by omega)]; rfl
/-- A list of rings where it lies. -/
def Rings (w : World) (B m : Nat) (X : Nat → Nat → Nat) (N : Nat → Nat) (K : Nat → Int) (v : Value) : Prop := ∃ q cap, v = .slice (some ⟨q, 0, none⟩) m cap ∧ m ≤ cap ∧ cap ≤ maxLen ∧ ∀ k, k < m → ∃ u, w.cell? ⟨q, k * 2, none⟩ = some u ∧ w.cell? ⟨q, k * 2 + 1, none⟩ = some (.int .i64 (K k)) ∧ RdS w B u (X k) (N k)
theorem appX_cell {W w : World} {base : Nat} {e : TypeId} {z : Nat} {v : Value} {n : Nat} {xs : List Value} {m : Nat} {news : List Value} (hw : (appX base e z v n xs m news).R W w) {p : Addr} {x : Value} (hc : W.cell? p = some x) (hp : v.ownBlock ≠ some p.block) : w.cell? p = some x :=
  (cell_of_heap (hw.1.block _ (World.block_lt_of_cell? W _ hc) hp)).trans hc
end Go.Fk
namespace Go.Proofs.Ytjcbolllohmjjaa
open Go.RowKit Go.Fk
theorem fill_four (ti : TypeInfo) (p q r t : Value) (h : ti.size = 2) : Instr.fill (fun i => some (i * ti.size, ti.size)) ((Array.range (2 * ti.size)).map ((.agg #[.slice none 0 0, .int .i64 0] : Value).cells[· % (.agg #[.slice none 0 0, .int .i64 0] : Value).cells.size]!)) (#[(0, .agg #[p, q]), (1, .agg #[r, t])] : Array (Nat × Value)).toList = some #[p, q, r, t] := by
  rw [h]
  have hr : Array.range (2 * 2) = #[0, 1, 2, 3] := by decide
  rw [hr]
  simp [Instr.fill, Value.cells]
theorem ringInfo : (Try.prog.info? 82).map (fun i => (i.zero, i.size, i.bytes)) = some (some (.agg #[.slice none 0 0, .int .i64 0]), 2, 32) := by kernel_rfl
set_option maxRecDepth 100000 in
set_option maxHeartbeats 2000000 in
theorem i_rings (B b0 o0 k0 b1 o1 k1 n : Nat) (v2 : Value) (xR xL : Nat → CD) (k : Int) (a b c x y : Nat) (op : Bool) (l r s : Nat) (w : World) (n1 : 1 ≤ n) (n3 : n ≤ 3) (h0 : (CD.sl 2 n xR).RdN w B (.slice (some ⟨b0, o0, none⟩) n k0)) (h1 : (CD.sl 2 n xL).RdN w B (.slice (some ⟨b1, o1, none⟩) n k1)) (p0 : RgsOk xR n) (p1 : RgsOk xL n) :
    Calls Try.prog 64 #[.agg #[.slice (some ⟨b0, o0, none⟩) n k0, .slice (some ⟨b1, o1, none⟩) n k1, v2, .int .i64 k, .float .f32 a, .float .f32 b, .float .f32 c, .float .f32 x, .float .f32 y, .bool op, .float .f32 l, .float .f32 r, .float .f32 s]] w (fun e w' => ∃ v, e = .returned v ∧ Rings w' B (2 * n) (zX xR xL) (zN xR xL) (zK xR xL) v ∧ le w w') := by
  have CR := fun t (ht : t < n) => p0.at h0 ht
  have CL := fun t (ht : t < n) => p1.at h1 ht
  have CR' : ∀ t, ∃ u, t < n → w.cell? ⟨b0, o0 + t * 2, none⟩ = some u ∧ w.cell? ⟨b0, o0 + t * 2 + 1, none⟩ = some (.int .i64 (rgK xR t)) ∧ RdS w B u (rgX xR t) (rgN xR t) := fun t => by
    by_cases ht : t < n
    · obtain ⟨u, e1, e2, _, e3⟩ := CR t ht; exact ⟨u, fun _ => ⟨e1, e2, e3⟩⟩
    · exact ⟨default, fun h => absurd h ht⟩
  have CL' : ∀ t, ∃ u, t < n → w.cell? ⟨b1, o1 + t * 2, none⟩ = some u ∧ w.cell? ⟨b1, o1 + t * 2 + 1, none⟩ = some (.int .i64 (rgK xL t)) ∧ RdS w B u (rgX xL t) (rgN xL t) := fun t => by
    by_cases ht : t < n
    · obtain ⟨u, e1, e2, _, e3⟩ := CL t ht; exact ⟨u, fun _ => ⟨e1, e2, e3⟩⟩
    · exact ⟨default, fun h => absurd h ht⟩
  obtain ⟨uR, HR⟩ := Classical.axiomOfChoice CR'
  obtain ⟨uL, HL⟩ := Classical.axiomOfChoice CL'
  replace HR := hid HR; replace HL := hid HL
  obtain ⟨ti, hti, htz, hts, htb⟩ : ∃ i, Try.prog.info? 82 = some i ∧ i.zero = some (.agg #[.slice none 0 0, .int .i64 0]) ∧ i.size = 2 ∧ i.bytes = 32 := by
    have h := ringInfo
    cases hi : Try.prog.info? 82 with
    | none => rw [hi] at h; simp at h
    | some i => rw [hi] at h; simp at h; exact ⟨i, rfl, h.1, h.2.1, h.2.2⟩
  have HT := hid (And.intro hti (And.intro htz (And.intro hts htb)))
  clear CR CL CR' CL' h0 h1 p0 p1 hti htz hts htb
  have F := (Frg.nil w).box 49 #[.slice (some ⟨b0, o0, none⟩) n k0, .slice (some ⟨b1, o1, none⟩) n k1, v2, .int .i64 k, .float .f32 a, .float .f32 b, .float .f32 c, .float .f32 x, .float .f32 y, .bool op, .float .f32 l, .float .f32 r, .float .f32 s]
  have c0 := (F.row m0).cell? 0
  have c1 := hid ((F.row m0).cell? 1)
  have HW := hid F.below
  clear F
  go_enter Try.func64, Try.ntmps64
  go_wp2_with fail
  have hsz : (w.alloc (.cells #[.slice (some ⟨b0, o0, none⟩) n k0, .slice (some ⟨b1, o1, none⟩) n k1, v2, .int .i64 k, .float .f32 a, .float .f32 b, .float .f32 c, .float .f32 x, .float .f32 y, .bool op, .float .f32 l, .float .f32 r, .float .f32 s] 49)).heap.size = w.heap.size + 1 := by simp
  generalize hWB : w.alloc _ = wB at *
  replace hsz := hid hsz
  clear hWB
  go_loopw [3, 9] (fun v i wr => ∃ j : Nat, j ≤ n ∧ i = .int .i64 j ∧ Hid (wr.ownsRow wB.heap.size 82 2 v (2 * j) (fourL uR uL xR xL j)) ∧ Hid (le wB wr)) (fun _ i _ => n - (intOf i).toNat)
  case atStart => exact ⟨0, by omega, rfl, World.ownsRow_nil _ _ _ _, le_refl _⟩
  case round =>
    obtain ⟨j, hj, rfl, HO, HB⟩ := hrel
    rename_i v wr _
    by_cases hlt : j < n
    · obtain ⟨d0, d1, dr⟩ := HR.out j hlt
      obtain ⟨e0, e1, er⟩ := HL.out j hlt
      have hlb := le_trans HW.out HB.out
      have gx : Hid (∀ (i : Nat) (q : Value), [uR j, .int .i64 (rgK xR j)][i]? = some q → wr.cell? ((⟨b0, o0 + j * 2, none⟩ : Addr).add i) = some q) := fun i q hi => by
        rw [add_none]
        match i, hi with
        | 0, hi => simp at hi; subst hi; exact (Below.cell hlb (cell_lt' d0)).trans d0
        | 1, hi => simp at hi; subst hi; exact (Below.cell hlb (cell_lt' d1)).trans d1
      have ou := hid dr.one
      have ov := hid er.one
      have F := Frg.nil wr
      have D0 := hid d0; have E0 := hid e0; have E1 := hid e1
      clear c0 d0 d1 e0 e1 dr er hlb
      go_wp2_with (first | (with_reducible refine wpList_indexW0 rfl rfl rfl rfl Try.underlying46 uinfoRingI hlt ?_) | ((with_reducible refine at_loadU (ty := 82) rfl rfl ?_); (with_reducible refine wpList_loadW rfl rfl rfl [uR j, .int .i64 (rgK xR j)] gx.out Try.underlying82 rfl uinfoRingI rfl ?_)) | ((with_reducible refine at_store rfl ?_); (refine wpList_storeG F rfl rfl rfl rfl rfl uinfoRingI rfl (by first | exact one_head ou.out rfl) ?_; clear F; intro W F zW; clear zW)))
      have FD := F.drewN 1
      have R5 := FD.row m0
      have HO1 := ownsRow_le HO.out FD.below
      have hol := ownsRow_lt HO.out
      have hlb := le_trans HB.out FD.below
      have hlw := le_trans HW.out hlb
      have z1 := (Below.cell hlb (by show w.heap.size < wB.heap.size; have := hsz.out; omega)).trans c1.out
      have z2 := (Below.cell hlw (cell_lt' E0.out)).trans E0.out
      have z3 := (Below.cell hlw (cell_lt' E1.out)).trans E1.out
      have hb1 : b1 < w.heap.size := cell_lt' E0.out
      have hws := hsz.out
      have hwr := HB.out.size
      have far : ∀ q, q < wB.heap.size ∨ wr.heap.size ≤ q → u3.ownBlock ≠ some q := fun q hq hh => by have := hol q hh; omega
      refine region_freeD (E := appX wB.heap.size 82 2 u3 (2 * j) (fourL uR uL xR xL j) 2 [uR j, .int .i64 (rgK xR j), uL j, .int .i64 (rgK xL j)]) (fun _ _ _ _ => True) (by kernel_rfl) (by kernel_rfl) ?_
      refine wpFreeD_one rfl u3 (fun w1 _ => by kernel_rfl) ?_
      simp only [Act.put, List.setIfInBounds_toArray, List.set_cons_succ, List.set_cons_zero]
      refine wpFreeD_loadW rfl rfl rfl [uR j, .int .i64 (rgK xR j)] (fun w1 h1 i q hi => ?_) Try.underlying82 rfl uinfoRingI rfl ?_
      · rw [add_none]
        match i, hi with
        | 0, hi => simp at hi; subst hi; exact appX_cell h1 (R5.cell? 0) (far _ (.inr (Nat.le_refl _)))
        | 1, hi => simp at hi; subst hi; exact appX_cell h1 (R5.cell? 1) (far _ (.inr (Nat.le_refl _)))
      simp only [Act.put, List.setIfInBounds_toArray, List.set_cons_succ, List.set_cons_zero]
      refine wpFreeD_one rfl (.pointer (some ⟨w.heap.size, 1, none⟩)) (fun w1 _ => by kernel_rfl) ?_
      simp only [Act.put, List.setIfInBounds_toArray, List.set_cons_succ, List.set_cons_zero]
      refine wpFreeD_load1 rfl rfl rfl (p := ⟨w.heap.size, 1, none⟩) (fun w1 h1 => appX_cell h1 z1 (far _ (.inl (by show w.heap.size < _; omega)))) ukindRingSI ?_
      simp only [Act.put, List.setIfInBounds_toArray, List.set_cons_succ, List.set_cons_zero]
      refine wpFreeD_one rfl (.int .i64 j) (fun w1 _ => by kernel_rfl) ?_
      simp only [Act.put, List.setIfInBounds_toArray, List.set_cons_succ, List.set_cons_zero]
      refine wpFreeD_indexW0 rfl rfl rfl rfl Try.underlying46 uinfoRingI hlt ?_
      simp only [Act.put, List.setIfInBounds_toArray, List.set_cons_succ, List.set_cons_zero]
      refine wpFreeD_loadW rfl rfl rfl [uL j, .int .i64 (rgK xL j)] (fun w1 h1 i q hi => ?_) Try.underlying82 rfl uinfoRingI rfl ?_
      · rw [add_none]
        match i, hi with
        | 0, hi => simp at hi; subst hi; exact appX_cell h1 z2 (far _ (.inl (by show b1 < _; omega)))
        | 1, hi => simp at hi; subst hi; exact appX_cell h1 z3 (far _ (.inl (by show b1 < _; omega)))
      simp only [Act.put, List.setIfInBounds_toArray, List.set_cons_succ, List.set_cons_zero]
      refine wpFreeD_madeX HO1 rfl (fun q => .slice (some ⟨q, 0, none⟩) 2 2) 82 #[uR j, .int .i64 (rgK xR j), uL j, .int .i64 (rgK xL j)] (fun w1 => ?_) (fun q => ?_)
      · have hb := run_buildSlice (P := Try.prog) w1 46 82 2 #[(0, .agg #[uR j, .int .i64 (rgK xR j)]), (1, .agg #[uL j, .int .i64 (rgK xL j)])] #[uR j, .int .i64 (rgK xR j), uL j, .int .i64 (rgK xL j)] ti _ Try.underlying46 HT.out.1 HT.out.2.1 (by rw [HT.out.2.2.1]; decide) (by rw [HT.out.2.2.1]; decide) (fill_four _ _ _ _ _ HT.out.2.2.1)
        simp [execOp, Act.eval, Result.andThen, hb]
      simp only [Act.put, List.setIfInBounds_toArray, List.set_cons_succ, List.set_cons_zero]
      refine wpFreeD_appK HO1 rfl rfl Try.underlying46 HT.out.1 HT.out.2.1 HT.out.2.2.1 HT.out.2.2.2 rfl (by omega) rfl (ad := ⟨q, 0, none⟩) rfl rfl (fun w1 h1 hbe => ?_) ?_ (by omega) (by unfold maxLen; omega) (by omega) (Nat.le_trans hwr FD.below.size) (fun u hu => ?_)
      · obtain ⟨q', e1, hrow⟩ := (hbe ⟨7, Ground.data⟩ (by simp) (by kernel_rfl)).2 rfl
        obtain rfl : q = q' := by simpa using e1
        intro i x hi
        rw [add_none, hrow.cell?, Nat.zero_add, ← hi]
        simp
      · have := ou.out; have := ov.out
        intro x hx
        simp only [List.mem_cons, List.not_mem_nil, or_false] at hx
        rcases hx with rfl | rfl | rfl | rfl
        · exact ou.out
        · rfl
        · exact ov.out
        · rfl
      simp only [Act.put, List.setIfInBounds_toArray, List.set_cons_succ, List.set_cons_zero]
      refine wpFreeD_one rfl u (fun w1 _ => by kernel_rfl) ?_
      simp only [Act.put, List.setIfInBounds_toArray, List.set_cons_succ, List.set_cons_zero]
      refine wpFreeD_nil (fun wR hwR hF => ?_)
      have hG := ((hF 8).1.2 rfl).1
      rw [fourL_succ] at hG
      have HO2 := hid hG
      have HB2 := hid (Below.trans hlb (hwR.1.below (B := wB.heap.size) (fun q hq => (hol q hq).1) hlb.size))
      clear hF hwR hG hu hol far z1 z2 z3 R5 HO1 FD F hlb hlw
      go_wp2
      go_roundw
      case rel => exact ⟨j + 1, by omega, by go_num, HO2.out, HB2.out⟩
      case measure => simp [intOf]; omega
    · obtain rfl : j = n := by omega
      go_wp2
      go_ret
      obtain ⟨q, cap, hv, hq, _⟩ := HO.out.form (by omega)
      subst hv
      refine ⟨_, rfl, ⟨q, cap, rfl, ?_, ?_, fun k hk => ?_⟩, le_trans HW.out HB.out⟩
      · rcases HO.out.2 with ⟨h, _⟩ | ⟨g, cap', cur, h, _, _, h3, _⟩
        · cases h
        · cases h; exact h3
      · rcases HO.out.2 with ⟨h, _⟩ | ⟨g, cap', cur, h, _, _, _, h3, _⟩
        · cases h
        · cases h; exact h3
      · have hc := HO.out.cells (g := q) rfl
        have c1 := hc _ _ (fourL_even hk)
        have c2 := hc _ _ (fourL_odd hk)
        rw [add_none, Nat.zero_add] at c1 c2
        refine ⟨_, c1, c2, ?_⟩
        unfold zX zN
        have hlb := le_trans HW.out HB.out
        by_cases h2 : k % 2 = 0
        · rw [if_pos h2, if_pos h2, if_pos h2]; exact ((HR.out (k / 2) (by omega)).2.2).le hlb
        · rw [if_neg h2, if_neg h2, if_neg h2]; exact ((HL.out (k / 2) (by omega)).2.2).le hlb
end Go.Proofs.Ytjcbolllohmjjaa

/- 'LengthOfPipe' of both. -/
namespace Go.Fk
open Go Go.RowKit
theorem sum_z {x y : Nat → CD} {n : Nat} (h : ∀ t, t < n → rgN y t = rgN x t) : sumTo (zN x y) (2 * n) = 2 * sumTo (rgN x) n := by
  induction n with
  | zero => rfl
  | succ n ih =>
    have e := ih (fun t ht => h t (by omega))
    have e0 : zN x y (2 * n) = rgN x n := by unfold zN; rw [if_pos (by omega), show 2 * n / 2 = n by omega]
    have e1 : zN x y (2 * n + 1) = rgN x n := by unfold zN; rw [if_neg (by omega), show (2 * n + 1) / 2 = n by omega, h n (by omega)]
    rw [show 2 * (n + 1) = 2 * n + 1 + 1 by omega]
    simp only [sumTo, e, e0, e1]
    omega
end Go.Fk
namespace Go.Proofs.Ytjcbolllohmjjaa
open Go.RowKit Go.Fk
set_option maxRecDepth 100000 in
set_option maxHeartbeats 4000000 in
theorem s_LengthOfPipe (B : Nat) (v0 v1 v2 : Value) (nR nL nS : Nat) (xR xL : Nat → CD) (yS : Nat → Nat) (k : Int) (a b c x y : Nat) (op : Bool) (l r s : Nat) (w : World) (h0 : (CD.sl 2 nR xR).RdN w B v0) (h1 : (CD.sl 2 nL xL).RdN w B v1) (h2 : RdS w B v2 yS nS) (p0 : RgsOk xR nR) (p1 : RgsOk xL nL) (hf : fits .f32 a ∧ fits .f32 b ∧ fits .f32 c ∧ fits .f32 x ∧ fits .f32 y) (hg : fits .f32 l ∧ fits .f32 r ∧ fits .f32 s) (v : Int) (d : Int) (h : (okP nR nL nS xR xL yS k a b c x y l r s = false ∧ v = 0 ∧ d = 1) ∨ (okP nR nL nS xR xL yS k a b c x y l r s = true ∧ v = ((2 * sumTo (rgN xR) nR : Nat) : Int) ∧ d = 0)) :
    Calls Try.prog 26 #[.agg #[v0, v1, v2, .int .i64 k, .float .f32 a, .float .f32 b, .float .f32 c, .float .f32 x, .float .f32 y, .bool op, .float .f32 l, .float .f32 r, .float .f32 s]] w (Out_ii v d w) := by
  have HV := hid (fun (w' : World) (hl : le w w') (g : Nat) (R : Row w' g 49 #[v0, v1, v2, .int .i64 k, .float .f32 a, .float .f32 b, .float .f32 c, .float .f32 x, .float .f32 y, .bool op, .float .f32 l, .float .f32 r, .float .f32 s]) => s_l04Ok B v0 v1 v2 nR nL nS xR xL yS k a b c x y op l r s g w' R (h0.le hl) (h1.le hl) (h2.le hl) p0 p1 hf hg)
  have F := (Frg.nil w).box 49 #[v0, v1, v2, .int .i64 k, .float .f32 a, .float .f32 b, .float .f32 c, .float .f32 x, .float .f32 y, .bool op, .float .f32 l, .float .f32 r, .float .f32 s]
  rcases h with ⟨hv, rfl, rfl⟩ | ⟨hv, rfl, rfl⟩
  · rw [hv] at HV
    clear h0 h1 h2 p0 p1 hf hg hv
    go_enter Try.func26, Try.ntmps26
    go_wp2_with (first | (go_at_call 61; ((with_reducible refine (HV.out _ F.below _ (F.row m0)).mono ?_); rintro e w1 ⟨rfl, hl⟩; replace F := F.le hl; clear hl; have c0 := (F.row m0).cell? 0)))
    go_ret2
    exact ⟨rfl, F.below⟩
  · obtain ⟨n1, n2, n3, n4⟩ := okP_parts hv
    rw [hv] at HV
    subst n3
    obtain ⟨b0, o0, k0, rfl, hk0, hm0⟩ := h0.form.resolve_left (fun h => by have := h.2; omega)
    obtain ⟨b1, o1, k1, rfl, hk1, hm1⟩ := h1.form.resolve_left (fun h => by have := h.2; omega)
    unfold maxLen at hm0 hm1
    have HA := hid (fun t (ht : t < nL) => p0.at h0 ht)
    have HB := hid (fun t (ht : t < nL) => (n4 t ht).2.1)
    clear h0 h1 h2 p0 p1 hf hg hv n4
    go_enter Try.func26, Try.ntmps26
    go_wp2_with (first | (go_at_call 61; ((with_reducible refine (HV.out _ F.below _ (F.row m0)).mono ?_); rintro e w1 ⟨rfl, hl⟩; replace F := F.le hl; clear hl; have c0 := (F.row m0).cell? 0)))
    go_loop [4, 5] (fun s i => ∃ j A : Nat, j ≤ nL ∧ i = .int .i64 j ∧ s = .int .i64 A ∧ A ≤ 2048 * j ∧ Hid (A = 2 * sumTo (rgN xR) j)) (fun _ i => nL - (intOf i).toNat)
    case atStart => exact ⟨0, 0, by omega, rfl, rfl, by omega, rfl⟩
    case round =>
      obtain ⟨j, A, hj, rfl, rfl, hA, EA⟩ := hrel
      by_cases hlt : j < nL
      · obtain ⟨u, d0, _, _, hr⟩ := HA.out j hlt
        have hb := HB.out j hlt
        have z0 := (Below.cell F.below (cell_lt' d0)).trans d0
        have HN := hid hr
        clear d0 hr
        go_wp2_with (first | (with_reducible refine wpList_indexW0 rfl rfl rfl rfl Try.underlying46 uinfoRingI hlt ?_) | (with_reducible refine wpList_lenR rfl rfl rfl Try.underlying30 HN.out ?_))
        go_round
        case rel => exact ⟨j + 1, A + 2 * rgN xR j, by omega, by go_num, by go_num, by omega, by show A + 2 * rgN xR j = 2 * sumTo (rgN xR) (j + 1); rw [EA.out]; simp only [sumTo]; omega⟩
        case measure => simp [intOf]; omega
      · obtain rfl : j = nL := by omega
        go_wp2
        go_ret2
        exact ⟨by first | (rw [show (2 * (sumTo (rgN xR) j : Int)) = (A : Int) by rw [EA.out]; omega]; rfl) | (rw [← EA.out]; rfl), F.below⟩
set_option maxRecDepth 100000 in
set_option maxHeartbeats 4000000 in
theorem i_LengthOfPipe (B : Nat) (v0 v1 v2 : Value) (nR nL nS : Nat) (xR xL : Nat → CD) (yS : Nat → Nat) (k : Int) (a b c x y : Nat) (op : Bool) (l r s : Nat) (w : World) (h0 : (CD.sl 2 nR xR).RdN w B v0) (h1 : (CD.sl 2 nL xL).RdN w B v1) (h2 : RdS w B v2 yS nS) (p0 : RgsOk xR nR) (p1 : RgsOk xL nL) (hf : fits .f32 a ∧ fits .f32 b ∧ fits .f32 c ∧ fits .f32 x ∧ fits .f32 y) (hg : fits .f32 l ∧ fits .f32 r ∧ fits .f32 s) (v : Int) (d : Int) (h : (okP nR nL nS xR xL yS k a b c x y l r s = false ∧ v = 0 ∧ d = 1) ∨ (okP nR nL nS xR xL yS k a b c x y l r s = true ∧ v = ((2 * sumTo (rgN xR) nR : Nat) : Int) ∧ d = 0)) :
    Calls Try.prog 28 #[.agg #[v0, v1, v2, .int .i64 k, .float .f32 a, .float .f32 b, .float .f32 c, .float .f32 x, .float .f32 y, .bool op, .float .f32 l, .float .f32 r, .float .f32 s]] w (Out_ii v d w) := by
  have HV := hid (fun (w' : World) (hl : le w w') => i_ValidPipe B v0 v1 v2 nR nL nS xR xL yS k a b c x y op l r s w' (h0.le hl) (h1.le hl) (h2.le hl) p0 p1 hf hg)
  have F := (Frg.nil w).box 49 #[v0, v1, v2, .int .i64 k, .float .f32 a, .float .f32 b, .float .f32 c, .float .f32 x, .float .f32 y, .bool op, .float .f32 l, .float .f32 r, .float .f32 s]
  rcases h with ⟨hv, rfl, rfl⟩ | ⟨hv, rfl, rfl⟩
  · rw [hv] at HV
    clear h0 h1 h2 p0 p1 hf hg hv
    go_enter Try.func28, Try.ntmps28
    go_wp2_with (first | ((with_reducible refine at_loadU rfl rfl ?_); (with_reducible refine wpList_loadG F rfl rfl rfl m0 Try.underlying49 rfl uinfoPipeI rfl ?_)) | (go_at_call 31; ((with_reducible refine (HV.out _ F.below).mono ?_); rintro e w1 ⟨rfl, hl⟩; replace F := F.le hl; clear hl)))
    go_ret2
    exact ⟨rfl, F.below⟩
  · obtain ⟨n1, n2, n3, n4⟩ := okP_parts hv
    rw [hv] at HV
    subst n3
    obtain ⟨b0, o0, k0, rfl, hk0, hm0⟩ := h0.form.resolve_left (fun h => by have := h.2; omega)
    obtain ⟨b1, o1, k1, rfl, hk1, hm1⟩ := h1.form.resolve_left (fun h => by have := h.2; omega)
    unfold maxLen at hm0 hm1
    have HRG := hid (fun (w' : World) (hl : le w w') => i_rings B b0 o0 k0 b1 o1 k1 nL v2 xR xL k a b c x y op l r s w' n1 n2 (h0.le hl) (h1.le hl) p0 p1)
    have HB : Hid (∀ t, t < 2 * nL → zN xR xL t ≤ 1024) := fun t ht => by
      unfold zN
      split
      · exact (n4 _ (by omega)).2.1
      · rw [(n4 _ (by omega)).1]; exact (n4 _ (by omega)).2.1
    have EZ := hid (sum_z (fun t ht => (n4 t ht).1))
    clear h0 h1 h2 p0 p1 hf hg hv n4
    go_enter Try.func28, Try.ntmps28
    go_wp2_with (first | ((with_reducible refine at_loadU rfl rfl ?_); (with_reducible refine wpList_loadG F rfl rfl rfl m0 Try.underlying49 rfl uinfoPipeI rfl ?_)) | (go_at_call 31; ((with_reducible refine (HV.out _ F.below).mono ?_); rintro e w1 ⟨rfl, hl⟩; replace F := F.le hl; clear hl)) | (go_at_call 64; ((with_reducible refine (HRG.out _ F.below).mono ?_); rintro e w2 ⟨v, rfl, ⟨q, cap, rfl, hcq, hmq, HA⟩, hl⟩; replace F := F.le hl; clear hl; replace HA := hid HA; unfold maxLen at hmq)))
    have HL2 := hid F.below
    clear F HV HRG
    go_loopw [4, 13] (fun s i wr => ∃ j A : Nat, j ≤ 2 * nL ∧ i = .int .i64 j ∧ s = .int .i64 A ∧ A ≤ 1024 * j ∧ Hid (A = sumTo (zN xR xL) j) ∧ Hid (le w2 wr)) (fun _ i _ => 2 * nL - (intOf i).toNat)
    case atStart => exact ⟨0, 0, by omega, rfl, rfl, by omega, rfl, le_refl _⟩
    case round =>
      obtain ⟨j, A, hj, rfl, rfl, hA, EA, HL3⟩ := hrel
      rename_i wr _
      by_cases hlt : j < 2 * nL
      · obtain ⟨u, d0, d1, hr⟩ := HA.out j hlt
        have hb := HB.out j hlt
        have gx : Hid (∀ (i : Nat) (p : Value), [u, .int .i64 (zK xR xL j)][i]? = some p → wr.cell? ((⟨q, 0 + j * 2, none⟩ : Addr).add i) = some p) := fun i p hi => by
          rw [add_none, Nat.zero_add]
          match i, hi with
          | 0, hi => simp at hi; subst hi; exact (Below.cell HL3.out (cell_lt' d0)).trans d0
          | 1, hi => simp at hi; subst hi; exact (Below.cell HL3.out (cell_lt' d1)).trans d1
        have ou := hid hr.one
        have HN := hid hr
        have F := Frg.nil wr
        clear d0 d1 hr
        go_wp2_with (first | (with_reducible refine wpList_indexW0 rfl rfl rfl rfl Try.underlying46 uinfoRingI hlt ?_) | (with_reducible refine wpList_lenR rfl rfl rfl Try.underlying30 HN.out ?_) | ((with_reducible refine at_loadU (ty := 82) rfl rfl ?_); (with_reducible refine wpList_loadW rfl rfl rfl [u, .int .i64 (zK xR xL j)] gx.out Try.underlying82 rfl uinfoRingI rfl ?_)) | ((with_reducible refine at_store rfl ?_); (refine wpList_storeG F rfl rfl rfl rfl rfl uinfoRingI rfl (by first | exact one_head ou.out rfl) ?_; clear F; intro W F zW; clear zW; have cq := (F.row m0).cell? 0)))
        have HL4 := hid (le_trans HL3.out F.below)
        go_roundw
        case rel => exact ⟨j + 1, A + zN xR xL j, by omega, by go_num, by go_num, by omega, by show A + zN xR xL j = sumTo (zN xR xL) (j + 1); rw [EA.out]; rfl, HL4.out⟩
        case measure => simp [intOf]; omega
      · obtain rfl : j = 2 * nL := by omega
        go_wp2
        go_ret2
        exact ⟨by rw [← EZ.out, ← EA.out]; rfl, le_trans HL2.out HL3.out⟩
theorem both_LengthOfPipe (cs : List CD) (h : HasShL shPipe cs) : ∃ (ar0 ar1 : Int), (∀ (w : World) (B : Nat) (u : List Value), RdLN w B (cs.map CD.cp) u → Calls Try.prog 26 #[.agg u.toArray] w (Out_ii ar0 ar1 w)) ∧ (∀ (w : World) (B : Nat) (u : List Value), RdLN w B (cs.map CD.cp) u → Calls Try.prog 28 #[.agg u.toArray] w (Out_ii ar0 ar1 w)) := by
  obtain ⟨nR, nL, nS, xR, xL, xS, k, a, b, c, x, y, op, l, r, s, rfl, p0, p1, hS⟩ := pipe_data h
  have key : ∃ (v d : Int), (okP nR nL nS (fun i => (xR i).cn) (fun i => (xL i).cn) (fun i => (xS i).cn.fx) k a b c x y l r s = false ∧ v = 0 ∧ d = 1) ∨ (okP nR nL nS (fun i => (xR i).cn) (fun i => (xL i).cn) (fun i => (xS i).cn.fx) k a b c x y l r s = true ∧ v = ((2 * sumTo (rgN (fun i => (xR i).cn)) nR : Nat) : Int) ∧ d = 0) := by
    cases okP nR nL nS (fun i => (xR i).cn) (fun i => (xL i).cn) (fun i => (xS i).cn.fx) k a b c x y l r s
    · exact ⟨0, 1, .inl ⟨rfl, rfl, rfl⟩⟩
    · exact ⟨_, 0, .inr ⟨rfl, rfl, rfl⟩⟩
  obtain ⟨v, d, hk⟩ := key
  refine ⟨v, d, fun w B u hu => ?_, fun w B u hu => ?_⟩
  · obtain ⟨v0, v1, v2, rfl, h0, h1, h2, hf, hg⟩ := pipe_open hu hS
    exact s_LengthOfPipe B v0 v1 v2 nR nL nS _ _ _ k a b c x y op l r s w h0 h1 h2 p0 p1 hf hg v d hk
  · obtain ⟨v0, v1, v2, rfl, h0, h1, h2, hf, hg⟩ := pipe_open hu hS
    exact i_LengthOfPipe B v0 v1 v2 nR nL nS _ _ _ k a b c x y op l r s w h0 h1 h2 p0 p1 hf hg v d hk
end Go.Proofs.Ytjcbolllohmjjaa

/- The walk of 'FnExactLengthOfPipe'. -/
namespace Go.Proofs.Ytjcbolllohmjjaa.fnExactLengthOfPipe
open Go.RowKit Go.Fk
set_option maxRecDepth 100000 in
set_option maxHeartbeats 4000000 in
theorem core (cs0 : List CD) (vs0 : List Value) (ar0 : Int) (ar1 : Int) (w : World) (z0 : RdL w w.heap.size cs0 vs0) (k0 : ShOkL shPipe cs0) (hz : szL cs0 ≤ 1048576)
    (hS : ∀ (w : World) (B0 : Nat) (u0 : List Value), RdLN w B0 (cs0.map CD.cp) u0 → Calls Try.prog 26 #[.agg u0.toArray] w (Out_ii ar0 ar1 w))
    (hI : ∀ (w : World) (B0 : Nat) (u0 : List Value), RdLN w B0 (cs0.map CD.cp) u0 → Calls Try.prog 28 #[.agg u0.toArray] w (Out_ii ar0 ar1 w)) :
    Calls Try.prog 6 #[.agg vs0.toArray] w fun e w' => e = .returned (.bool true) ∧ Below w.heap.size w w' := by
  have Z0 := hid z0; have K0 := hid k0; have hl0 : Hid (vs0.length = 13) := z0.1.trans k0.1; clear z0 k0
  have hz0 : szL cs0 ≤ 1048576 := by omega
  have hm0 : ¬ (1048576 : Int) - (szL cs0 : Nat) < 0 := by omega
  have HS := hid hS; have HI := hid hI; clear hS hI
  have F := Frg.nil w
  replace F := F.box 42 vs0.toArray
  go_enter Try.func6, Try.ntmps6
  go_wp2_with (first | (((with_reducible refine listN F ?_); clear F; intro wN F)) | ((with_reducible refine at_loadU rfl rfl ?_); first | (with_reducible refine wpList_loadG F rfl rfl rfl (by first | exact m0 | exact m1 | exact m2 | exact m3 | exact m4 | exact m5 | exact m6 | exact m7 | exact m8) Try.underlying49 rfl uinfoPipeI (by simp only [List.size_toArray]; first | exact hl0.out | exact hl1.out | exact hu0.out | exact hu1.out) ?_) | (with_reducible refine wpList_loadG F rfl rfl rfl (by first | exact m0 | exact m1 | exact m2 | exact m3 | exact m4 | exact m5 | exact m6 | exact m7 | exact m8) Try.underlying42 rfl uinfoPipeL (by simp only [List.size_toArray]; first | exact hl0.out | exact hl1.out | exact hu0.out | exact hu1.out) ?_)) | (go_at_call 25; ((with_reducible refine (szU_Pipe _ cs0 vs0 (1048576 : Int) ((1048576 : Int) - (szL cs0 : Nat)) _ (Z0.out.le F.below) K0.out (by omega) (by omega) (lessBy_pos hm0)).mono ?_); rintro e w1 ⟨rfl, hb1⟩; replace F := F.le hb1)) | (go_at_call 27; ((with_reducible refine (toU_Pipe _ cs0 vs0 _ (Z0.out.le F.below) K0.out hz0).mono ?_); rintro e w1 ⟨usA0, rfl, ho, hl⟩; have hu0 : Hid (usA0.length = 13) := ho.1.trans ((List.length_map ..).trans K0.out.1); have ho0 := hid ho.all_one; replace F := F.lay1 hl ho; clear ho hl)))
  first | ((with_reducible refine callAt0 F ?_); clear F; intro wN F) | ((with_reducible refine callAtN F ?_); clear F; intro wN F)
  refine (HS.out _ _ _ (F.layN (by first | exact m0 | exact m1 | exact m2 | exact m3 | exact m4 | exact m5 | exact m6 | exact m7 | exact m8))).mono ?_
  rintro e wS ⟨rfl, hlS⟩
  replace F := F.le hlS
  go_wp2_with (first | (((with_reducible refine listN F ?_); clear F; intro wN F)) | ((with_reducible refine at_store rfl ?_); first | (refine wpList_storeG F rfl rfl rfl rfl rfl (by simp only [List.size_toArray]; first | (rw [hu0.out]; exact uinfoPipeI) | (rw [hu1.out]; exact uinfoPipeI)) (by simp only [List.size_toArray]; first | (rw [hu0.out]; rfl) | (rw [hu1.out]; rfl)) (by first | exact ho0.out | exact ho1.out) ?_; clear F; intro W F zW; clear zW)) | ((with_reducible refine at_loadU rfl rfl ?_); first | (with_reducible refine wpList_loadG F rfl rfl rfl (by first | exact m0 | exact m1 | exact m2 | exact m3 | exact m4 | exact m5 | exact m6 | exact m7 | exact m8) Try.underlying49 rfl uinfoPipeI (by simp only [List.size_toArray]; first | exact hl0.out | exact hl1.out | exact hu0.out | exact hu1.out) ?_) | (with_reducible refine wpList_loadG F rfl rfl rfl (by first | exact m0 | exact m1 | exact m2 | exact m3 | exact m4 | exact m5 | exact m6 | exact m7 | exact m8) Try.underlying42 rfl uinfoPipeL (by simp only [List.size_toArray]; first | exact hl0.out | exact hl1.out | exact hu0.out | exact hu1.out) ?_)) | (go_at_call 27; ((with_reducible refine (toU_Pipe _ cs0 vs0 _ (Z0.out.le F.below) K0.out hz0).mono ?_); rintro e w1 ⟨usB0, rfl, ho, hl⟩; have hu0 : Hid (usB0.length = 13) := ho.1.trans ((List.length_map ..).trans K0.out.1); have ho0 := hid ho.all_one; replace F := F.lay1 hl ho; clear ho hl)))
  first | ((with_reducible refine callAt0 F ?_); clear F; intro wN F) | ((with_reducible refine callAtN F ?_); clear F; intro wN F)
  refine (HI.out _ _ _ (F.layN (by first | exact m0 | exact m1 | exact m2 | exact m3 | exact m4 | exact m5 | exact m6 | exact m7 | exact m8))).mono ?_
  rintro e wI ⟨rfl, hlI⟩
  replace F := F.le hlI
  go_wp2_with (first | (((with_reducible refine listN F ?_); clear F; intro wN F)) | ((with_reducible refine at_store rfl ?_); first | (refine wpList_storeG F rfl rfl rfl rfl rfl (by simp only [List.size_toArray]; first | (rw [hu0.out]; exact uinfoPipeI) | (rw [hu1.out]; exact uinfoPipeI)) (by simp only [List.size_toArray]; first | (rw [hu0.out]; rfl) | (rw [hu1.out]; rfl)) (by first | exact ho0.out | exact ho1.out) ?_; clear F; intro W F zW; clear zW)) | ((with_reducible refine at_loadU rfl rfl ?_); first | (with_reducible refine wpList_loadG F rfl rfl rfl (by first | exact m0 | exact m1 | exact m2 | exact m3 | exact m4 | exact m5 | exact m6 | exact m7 | exact m8) Try.underlying49 rfl uinfoPipeI (by simp only [List.size_toArray]; first | exact hl0.out | exact hl1.out | exact hu0.out | exact hu1.out) ?_) | (with_reducible refine wpList_loadG F rfl rfl rfl (by first | exact m0 | exact m1 | exact m2 | exact m3 | exact m4 | exact m5 | exact m6 | exact m7 | exact m8) Try.underlying42 rfl uinfoPipeL (by simp only [List.size_toArray]; first | exact hl0.out | exact hl1.out | exact hu0.out | exact hu1.out) ?_)))
  first | (refine wpAt0 F ?_; clear F; intro wN F) | (refine wpAtN F ?_; clear F; intro wN F)
  refine region_freeD (E := leX) (fun f _ w v => if f = 27 then ∃ (us : List Value) (B : Nat), v = .agg us.toArray ∧ RdL w B (cs0.map CD.cp) us else v = .bool true) (by kernel_rfl) (by kernel_rfl) ?_
  refine wpFreeD_loadG F rfl rfl rfl rfl (by first | exact m0 | exact m1 | exact m2 | exact m3 | exact m4 | exact m5 | exact m6 | exact m7 | exact m8) Try.underlying49 rfl uinfoPipeI (by simp only [List.size_toArray]; exact hu0.out) ?_
  simp only [Act.put, List.setIfInBounds_toArray, List.set_cons_succ, List.set_cons_zero]
  refine wpFreeD_loadG F rfl rfl rfl rfl (by first | exact m0 | exact m1 | exact m2 | exact m3 | exact m4 | exact m5 | exact m6 | exact m7 | exact m8) Try.underlying42 rfl uinfoPipeL (by simp only [List.size_toArray]; exact hl0.out) ?_
  simp only [Act.put, List.setIfInBounds_toArray, List.set_cons_succ, List.set_cons_zero]
  refine wpFreeD_callB rfl rfl Try.func27 (by kernel_rfl) (by kernel_rfl) (args := #[.agg vs0.toArray]) (by simp [Act.eval]) (fun v w1 w2 hw hv => by simp only [if_true] at hv ⊢; obtain ⟨u, B, h1, h2⟩ := hv; exact ⟨u, B, h1, h2.le hw⟩) (fun w1 hw1 _ => (toU_Pipe _ cs0 vs0 w1 (Z0.out.le (le_trans (F.drewN _).below hw1)) K0.out hz0).mono ?_) ?_
  · rintro e w2 ⟨u, rfl, ho, hl⟩
    exact ⟨_, rfl, hl, by simp only [if_true]; exact ⟨u, _, rfl, ho.rd (fun _ hj => hj.2)⟩⟩
  rintro v ⟨_, _, _, hv⟩
  simp only [if_true] at hv
  obtain ⟨u0, Bu0, rfl, _⟩ := hv
  simp only [Act.put, List.setIfInBounds_toArray, List.set_cons_succ, List.set_cons_zero]
  refine wpFreeD_callB rfl rfl Try.func29 (by kernel_rfl) (by kernel_rfl) (args := #[.agg usB0.toArray, .agg u0.toArray]) (by simp [Act.eval]) (fun v w1 w2 hw hv => by simp only [show ¬ (29 = 27) by decide, if_false] at hv ⊢; exact hv) (fun w1 hw1 hbe => ?_) ?_
  · have hk := (hbe ⟨2, Ground.data⟩ (by simp) (by kernel_rfl)).2 rfl
    simp only [if_true] at hk
    obtain ⟨u', B', he, hr⟩ := hk
    obtain rfl : u0 = u' := by simpa using he
    refine (eqU_Pipe _ _ (cs0.map CD.cp) _ _ _ (((F.drewN 1).le hw1).layR (by first | exact m0 | exact m1 | exact m2 | exact m3 | exact m4 | exact m5 | exact m6 | exact m7 | exact m8)) hr K0.out.cp (by rw [szL_cp]; exact hz0)).mono ?_
    rintro e w2 ⟨rfl, hl⟩
    exact ⟨_, rfl, hl, by simp only [show ¬ (29 = 27) by decide, if_false]⟩
  rintro v ⟨_, _, _, hv⟩
  simp only [show ¬ (29 = 27) by decide, if_false] at hv
  subst hv
  simp only [Act.put, List.setIfInBounds_toArray, List.set_cons_succ, List.set_cons_zero]
  refine wpFreeD_one rfl (.bool false) (fun w1 _ => by kernel_rfl) ?_
  simp only [Act.put, List.setIfInBounds_toArray, List.set_cons_succ, List.set_cons_zero]
  refine wpFreeD_nil (fun wR hwR _ => ?_)
  replace F := (F.drewN 1).le hwR
  clear hwR
  go_wp2_with (first | (((with_reducible refine listN F ?_); clear F; intro wN F)) | ((with_reducible refine at_loadU rfl rfl ?_); first | (with_reducible refine wpList_loadG F rfl rfl rfl (by first | exact m0 | exact m1 | exact m2 | exact m3 | exact m4 | exact m5 | exact m6 | exact m7 | exact m8) Try.underlying49 rfl uinfoPipeI (by simp only [List.size_toArray]; first | exact hl0.out | exact hl1.out | exact hu0.out | exact hu1.out) ?_) | (with_reducible refine wpList_loadG F rfl rfl rfl (by first | exact m0 | exact m1 | exact m2 | exact m3 | exact m4 | exact m5 | exact m6 | exact m7 | exact m8) Try.underlying42 rfl uinfoPipeL (by simp only [List.size_toArray]; first | exact hl0.out | exact hl1.out | exact hu0.out | exact hu1.out) ?_)))
  go_ret
  first | exact ⟨rfl, F.below⟩ | exact ⟨rfl, below_drewN F.below _⟩
set_option maxRecDepth 100000 in
set_option maxHeartbeats 4000000 in
theorem large0 (cs0 : List CD) (vs0 : List Value) (w : World) (z0 : RdL w w.heap.size cs0 vs0) (k0 : ShOkL shPipe cs0)  (hg : ¬ szL cs0 ≤ 1048576) :
    Calls Try.prog 6 #[.agg vs0.toArray] w fun e w' => e = .returned (.bool true) ∧ Below w.heap.size w w' := by
  have Z0 := hid z0; have K0 := hid k0; have hl0 : Hid (vs0.length = 13) := z0.1.trans k0.1; clear z0 k0
  have hn0 : (1048576 : Int) - (szL cs0 : Nat) < 0 := by omega
  have F := Frg.nil w
  replace F := F.box 42 vs0.toArray
  go_enter Try.func6, Try.ntmps6
  go_wp2_with (first | (((with_reducible refine listN F ?_); clear F; intro wN F)) | ((with_reducible refine at_loadU rfl rfl ?_); first | (with_reducible refine wpList_loadG F rfl rfl rfl (by first | exact m0 | exact m1 | exact m2 | exact m3 | exact m4 | exact m5 | exact m6 | exact m7 | exact m8) Try.underlying49 rfl uinfoPipeI (by simp only [List.size_toArray]; first | exact hl0.out | exact hl1.out | exact hu0.out | exact hu1.out) ?_) | (with_reducible refine wpList_loadG F rfl rfl rfl (by first | exact m0 | exact m1 | exact m2 | exact m3 | exact m4 | exact m5 | exact m6 | exact m7 | exact m8) Try.underlying42 rfl uinfoPipeL (by simp only [List.size_toArray]; first | exact hl0.out | exact hl1.out | exact hu0.out | exact hu1.out) ?_)) | (go_at_call 25; ((with_reducible refine (szU_Pipe _ cs0 vs0 (1048576 : Int) (-1 : Int) _ (Z0.out.le F.below) K0.out (by omega) (by omega) (lessBy_neg hn0)).mono ?_); rintro e w1 ⟨rfl, hb1⟩; replace F := F.le hb1)))
  go_ret
  first | exact ⟨rfl, F.below⟩ | exact ⟨rfl, below_drewN F.below _⟩
theorem walk (cs0 : List CD) (vs0 : List Value) (w : World) (k0 : HasShL shPipe cs0) (z0 : RdL w w.heap.size cs0 vs0) :
    Calls Try.prog 6 #[.agg vs0.toArray] w fun e w' => e = .returned (.bool true) ∧ Below w.heap.size w w' := by
  by_cases g0 : szL cs0 ≤ 1048576
  · skip
    obtain ⟨ar0, ar1, hS, hI⟩ := both_LengthOfPipe cs0 k0
    exact core cs0 vs0 ar0 ar1 w z0 k0.ok g0 hS hI
  · exact large0 cs0 vs0 w z0 k0.ok  g0
end Go.Proofs.Ytjcbolllohmjjaa.fnExactLengthOfPipe
