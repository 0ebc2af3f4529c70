/- Texts of the walk, laid in one file. -/
import Derived.OwnWalk
import Derived.Deep.AppendLies
import Derived.Test.YtkcpdddmabkkgaaMc
set_option linter.unusedVariables false
set_option linter.unusedSimpArgs false
/- Steps of a region that draws its order: guarded operations, loads of one cell, addresses of elements, new rows, lengths. Nothing here names a program. -/
namespace Go.Fk
open Go Go.RowKit
section
variable {E : Ext} {P : Program} {ops : Array Oper} {W : World} {K : FuncId → Array Value → World → Value → Prop} {Q : Act → World → Prop} {F : Facts} {k : Nat} {o : Oper} {rest : List Oper} {a : Act}
theorem wpFreeD_oneW (hw : Region.wanted o (yielded ops a.tmps) = true) (v : Value) (hr : ∀ w, E.R W w → (execOp a.eval o).run P w = .ok (.value v) w)
    (h : wpFreeD E P ops .any W K Q rest (k + 1) (a.put o.dst v) (F.with k (fun _ => True))) : wpFreeD E P ops .any W K Q (o :: rest) k a F := by
  refine ⟨fun _ u => u = v, ⟨fun _ _ _ _ h => h, .inl ⟨hw, fun w hw _ => ?_⟩⟩, fun u hu => ?_⟩
  · rw [hr w hw]; exact ⟨E.refl w, rfl⟩
  · obtain ⟨w, _, _, rfl⟩ := hu
    exact wpFreeD_weaken _ _ _ _ _ (fun e w h => ⟨h.1, fun _ => trivial⟩) h
theorem wpFreeD_skip (hw : Region.wanted o (yielded ops a.tmps) = false)
    (h : wpFreeD E P ops .any W K Q rest (k + 1) (a.put o.dst undef) (F.with k (fun _ => True))) : wpFreeD E P ops .any W K Q (o :: rest) k a F := by
  refine ⟨fun _ u => u = undef, ⟨fun _ _ _ _ h => h, .inr ⟨hw, fun w _ _ => rfl⟩⟩, fun u hu => ?_⟩
  obtain ⟨w, _, _, rfl⟩ := hu
  exact wpFreeD_weaken _ _ _ _ _ (fun e w h => ⟨h.1, fun _ => trivial⟩) h
theorem wpFreeD_callW (hw : Region.wanted o (yielded ops a.tmps) = true) {f : FuncId} {xs : Array Operand} {ts : Array TypeId} (hop : o.op = Op.call { callee := Callee.value (Operand.func f), args := xs, argTypes := ts }) {fn : Func} (hf : P.funcs[f]? = some fn)
    (hb : fn.body.isNone = false) (hn : (fn.name == "runtime.NumGoroutine") = false) {args : Array Value} (ha : xs.map a.eval = args) (hm : MonoT E (K f args))
    (h1 : ∀ w, E.R W w → behind .any o F w → Calls P f args w (fun e w' => ∃ v, e = .returned v ∧ le w w' ∧ K f args w' v)) (h2 : ∀ v, (∃ w, E.R W w ∧ (∀ e, F e w) ∧ K f args w v) → wpFreeD E P ops .any W K Q rest (k + 1) (a.put o.dst v) (F.with k (fun w => K f args w v))) : wpFreeD E P ops .any W K Q (o :: rest) k a F := by
  refine ⟨K f args, ⟨hm, .inl ⟨hw, fun w hw hbe => ?_⟩⟩, fun v hv => h2 v hv⟩
  rw [run_enter hop hf hb hn ha]
  refine ⟨E.refl w, (h1 w hw hbe).mono ?_, fun _ _ h => h⟩
  rintro e w' ⟨v, rfl, hl, hk⟩
  exact ⟨v, rfl, E.of_le hl, hk⟩
theorem wpFreeD_madeW (hwt : Region.wanted o (yielded ops a.tmps) = true) (f : Nat → Value) (t : TypeId) (cs : Array Value) (hr : ∀ w, (execOp a.eval o).run P w = .ok (.value (f w.heap.size)) (w.alloc (.cells cs t)))
    (h : ∀ b, wpFreeD leX P ops .any W K Q rest (k + 1) (a.put o.dst (f b)) (F.with k (fun w => ∃ b', f b = f b' ∧ Row w b' t cs))) : wpFreeD leX P ops .any W K Q (o :: rest) k a F := by
  refine ⟨fun w v => ∃ b', v = f b' ∧ Row w b' t cs, ⟨fun v w w' hw hv => ?_, .inl ⟨hwt, fun w hw _ => ?_⟩⟩, fun v hv => ?_⟩
  · obtain ⟨b', e, hrow⟩ := hv
    exact ⟨b', e, hrow.le hw⟩
  · rw [hr w]
    exact ⟨le_alloc w _, w.heap.size, rfl, Row.new w t cs⟩
  · obtain ⟨w, _, _, b, rfl, _⟩ := hv
    exact h b
theorem wpFreeD_load1 (hg : o.guard = none) {ty : TypeId} {x : Operand} (hop : o.op = .load ty x) {p : Addr} (hx : a.eval x = .pointer (some p)) {v : Value} (hv : ∀ w, E.R W w → w.cell? p = some v) (hu : ∀ w, (isAgg ty).run P w = .ok false w)
    (h : wpFreeD E P ops .any W K Q rest (k + 1) (a.put o.dst v) (F.with k (fun _ => True))) : wpFreeD E P ops .any W K Q (o :: rest) k a F := by
  refine wpFreeD_one hg v (fun w hw => ?_) h
  have hl : (Instr.loadAt ty (.pointer (some p))).run P w = .ok v w := by
    simp [Instr.loadAt, Instr.sureAddr, loadVar, hu, hv w hw]
  simp [execOp, hop, hx, hl, Result.andThen]
theorem wpFreeD_load1W (hw : Region.wanted o (yielded ops a.tmps) = true) {ty : TypeId} {x : Operand} (hop : o.op = .load ty x) {p : Addr} (hx : a.eval x = .pointer (some p)) {v : Value} (hv : ∀ w, E.R W w → w.cell? p = some v) (hu : ∀ w, (isAgg ty).run P w = .ok false w)
    (h : wpFreeD E P ops .any W K Q rest (k + 1) (a.put o.dst v) (F.with k (fun _ => True))) : wpFreeD E P ops .any W K Q (o :: rest) k a F := by
  refine wpFreeD_oneW hw v (fun w hw => ?_) h
  have hl : (Instr.loadAt ty (.pointer (some p))).run P w = .ok v w := by
    simp [Instr.loadAt, Instr.sureAddr, loadVar, hu, hv w hw]
  simp [execOp, hop, hx, hl, Result.andThen]
theorem wpFreeD_indexW0 (hg : o.guard = none) {t : TypeId} {x y : Operand} (hop : o.op = .indexAddr t x y) {b off n cap sz i : Nat} {kk : IntKind} {e : TypeId} (hx : a.eval x = .slice (some ⟨b, off, none⟩) n cap) (hy : a.eval y = .int kk (i : Int)) (hu : P.underlying t = some (.slice e)) (hs : (P.info? e).map (·.size) = some sz) (hi : i < n)
    (h : wpFreeD E P ops .any W K Q rest (k + 1) (a.put o.dst (.pointer (some ⟨b, off + i * sz, none⟩))) (F.with k (fun _ => True))) : wpFreeD E P ops .any W K Q (o :: rest) k a F :=
  wpFreeD_indexW hg hop hx hy hu hs hi (by rw [add_none]; exact h)
theorem wpFreeD_lenR (hg : o.guard = none) {x : Operand} {t : TypeId} (hop : o.op = Op.call { callee := Callee.builtin Builtin.len, args := #[x], argTypes := #[t] }) {v : Value} (hx : a.eval x = v) {e : TypeId} (hu : P.underlying t = some (.slice e)) {w1 : World} {B : Nat} {y : Nat → Nat} {n : Nat} (hv : RdS w1 B v y n)
    (h : wpFreeD E P ops .any W K Q rest (k + 1) (a.put o.dst (.int .i64 n)) (F.with k (fun _ => True))) : wpFreeD E P ops .any W K Q (o :: rest) k a F := by
  refine wpFreeD_one hg (.int .i64 n) (fun w _ => ?_) h
  rcases hv.form with ⟨rfl, rfl⟩ | ⟨ad, cap, rfl, _, _⟩
  all_goals
    simp [execOp, hop, hx, Result.andThen, resolve, invoke, builtin, Builtin.len_, run_underlying hu]
    try rfl
end
end Go.Fk

/- What grows by append, beside facts of memory. Nothing here names a program. -/
namespace Go.Fk
open Go Go.RowKit
theorem ownsRow_chS {S : Nat → Prop} {w w' : World} {e : TypeId} {n B : Nat} {xs : List Value} {v : Value} (hw : Chg S w w') (h : w.ownsRow B e 1 v n xs) (hS : ∀ i, S i → i < B) : w'.ownsRow B e 1 v n xs := by
  obtain ⟨h1, h2⟩ := h
  refine ⟨h1, ?_⟩
  rcases h2 with h2 | ⟨q, cap, cur, e1, e2, e3, e4⟩
  · exact .inl h2
  · exact .inr ⟨q, cap, cur, e1, e2, by have := hw.row (g := q) (t := e) (cs := cur) e3 (fun hq => by have := hS q hq; omega); exact this, e4⟩
theorem ownBlock_ge {w : World} {B : Nat} {e : TypeId} {z : Nat} {v : Value} {n : Nat} {xs : List Value} (h : w.ownsRow B e z v n xs) : ∀ k, v.ownBlock = some k → B ≤ k := by
  rcases h.2 with ⟨rfl, _⟩ | ⟨q, cap, cur, rfl, hb, _⟩
  · intro k hk; cases hk
  · intro k hk; simp only [Value.ownBlock, Option.some.injEq] at hk; omega
theorem chg_grown {w w' : World} {row : Option Nat} {B : Nat} (h : w.grownBy w' row) (hr : ∀ k, row = some k → B ≤ k) : Chg (B ≤ ·) w w' :=
  ⟨h.os, h.tape, h.output, h.size, fun k hk hn => h.block k hk (fun e => hn (hr k e.symm))⟩
theorem Frg.up {w0 w w' : World} {L : List Fact} {B : Nat} (h : Frg w0 w L) (k : Chg (B ≤ ·) w w') (hB : ∀ e ∈ L, e.hi ≤ B) (h0 : w0.heap.size ≤ B) : Frg w0 w' L :=
  ⟨h.below.trans (k.below (fun i hi => Nat.le_trans h0 hi) h.size), fun e he => by
    obtain ⟨h1, h2, h3⟩ := h.facts e he
    exact ⟨h1, Nat.le_trans h2 k.size, e.ok w w' h3 (fun i _ hi => k.block i (by omega) (fun hb => by have := hB e he; omega))⟩, h.apart⟩
theorem flist_snoc (y : Nat → Nat) (n a : Nat) : flist y n ++ [.float .f32 a] = flist (fun j => if j = n then a else y j) (n + 1) := by
  have h := flist_app y (fun _ => a) n 1
  have h1 : flist (fun _ => a) 1 = [.float .f32 a] := by simp [flist]
  rw [h1] at h
  rw [h]
  apply List.ext_getElem?
  intro i
  by_cases hi : i < n + 1
  · rw [flist_get' _ hi, flist_get' _ hi]
    by_cases e : i = n
    · simp [e]
    · simp [e, show i < n by omega]
  · rw [List.getElem?_eq_none (by rw [flist_length]; omega), List.getElem?_eq_none (by rw [flist_length]; omega)]
theorem Frg.own2 {w0 w w' : World} {L : List Fact} {q n n' : Nat} {s s' : Value} {x x' : Nat → Nat} (h : Frg w0 w L) (k : Below w.heap.size w w') (h1 : w.heap.size ≤ q) (h2 : q ≤ w'.heap.size) (o1 : OwnS w' w.heap.size q s x n) (o2 : OwnS w' q w'.heap.size s' x' n') :
    Frg w0 w' (ownF q w'.heap.size s' x' n' :: ownF w.heap.size q s x n :: L) := by
  refine ⟨(h.le k).below, fun e he => ?_, .cons (fun e he => ?_) (.cons (fun e he => (h.facts e he).2.1) h.apart)⟩
  · rcases List.mem_cons.1 he with rfl | he
    · exact ⟨Nat.le_trans h.size h1, Nat.le_refl _, o2⟩
    · rcases List.mem_cons.1 he with rfl | he
      · exact ⟨h.size, h2, o1⟩
      · exact (h.le k).facts e he
  · rcases List.mem_cons.1 he with rfl | he
    · exact Nat.le_refl q
    · exact Nat.le_trans (h.facts e he).2.1 h1
theorem m12 {b0 b1 b2 b3 b4 b5 b6 b7 b8 b9 b10 b11 a : Fact} {l : List Fact} : a ∈ b0 :: b1 :: b2 :: b3 :: b4 :: b5 :: b6 :: b7 :: b8 :: b9 :: b10 :: b11 :: a :: l := List.mem_cons_of_mem _ (List.mem_cons_of_mem _ (List.mem_cons_of_mem _ (List.mem_cons_of_mem _ (List.mem_cons_of_mem _ (List.mem_cons_of_mem _ (List.mem_cons_of_mem _ (List.mem_cons_of_mem _ (List.mem_cons_of_mem _ (List.mem_cons_of_mem _ (List.mem_cons_of_mem _ (List.mem_cons_of_mem _ (List.mem_cons_self))))))))))))
theorem m13 {b0 b1 b2 b3 b4 b5 b6 b7 b8 b9 b10 b11 b12 a : Fact} {l : List Fact} : a ∈ b0 :: b1 :: b2 :: b3 :: b4 :: b5 :: b6 :: b7 :: b8 :: b9 :: b10 :: b11 :: b12 :: a :: l := List.mem_cons_of_mem _ (List.mem_cons_of_mem _ (List.mem_cons_of_mem _ (List.mem_cons_of_mem _ (List.mem_cons_of_mem _ (List.mem_cons_of_mem _ (List.mem_cons_of_mem _ (List.mem_cons_of_mem _ (List.mem_cons_of_mem _ (List.mem_cons_of_mem _ (List.mem_cons_of_mem _ (List.mem_cons_of_mem _ (List.mem_cons_of_mem _ (List.mem_cons_self)))))))))))))
theorem m14 {b0 b1 b2 b3 b4 b5 b6 b7 b8 b9 b10 b11 b12 b13 a : Fact} {l : List Fact} : a ∈ b0 :: b1 :: b2 :: b3 :: b4 :: b5 :: b6 :: b7 :: b8 :: b9 :: b10 :: b11 :: b12 :: b13 :: a :: l := List.mem_cons_of_mem _ (List.mem_cons_of_mem _ (List.mem_cons_of_mem _ (List.mem_cons_of_mem _ (List.mem_cons_of_mem _ (List.mem_cons_of_mem _ (List.mem_cons_of_mem _ (List.mem_cons_of_mem _ (List.mem_cons_of_mem _ (List.mem_cons_of_mem _ (List.mem_cons_of_mem _ (List.mem_cons_of_mem _ (List.mem_cons_of_mem _ (List.mem_cons_of_mem _ (List.mem_cons_self))))))))))))))
theorem m15 {b0 b1 b2 b3 b4 b5 b6 b7 b8 b9 b10 b11 b12 b13 b14 a : Fact} {l : List Fact} : a ∈ b0 :: b1 :: b2 :: b3 :: b4 :: b5 :: b6 :: b7 :: b8 :: b9 :: b10 :: b11 :: b12 :: b13 :: b14 :: a :: l := List.mem_cons_of_mem _ (List.mem_cons_of_mem _ (List.mem_cons_of_mem _ (List.mem_cons_of_mem _ (List.mem_cons_of_mem _ (List.mem_cons_of_mem _ (List.mem_cons_of_mem _ (List.mem_cons_of_mem _ (List.mem_cons_of_mem _ (List.mem_cons_of_mem _ (List.mem_cons_of_mem _ (List.mem_cons_of_mem _ (List.mem_cons_of_mem _ (List.mem_cons_of_mem _ (List.mem_cons_of_mem _ (List.mem_cons_self)))))))))))))))
theorem m16 {b0 b1 b2 b3 b4 b5 b6 b7 b8 b9 b10 b11 b12 b13 b14 b15 a : Fact} {l : List Fact} : a ∈ b0 :: b1 :: b2 :: b3 :: b4 :: b5 :: b6 :: b7 :: b8 :: b9 :: b10 :: b11 :: b12 :: b13 :: b14 :: b15 :: a :: l := List.mem_cons_of_mem _ (List.mem_cons_of_mem _ (List.mem_cons_of_mem _ (List.mem_cons_of_mem _ (List.mem_cons_of_mem _ (List.mem_cons_of_mem _ (List.mem_cons_of_mem _ (List.mem_cons_of_mem _ (List.mem_cons_of_mem _ (List.mem_cons_of_mem _ (List.mem_cons_of_mem _ (List.mem_cons_of_mem _ (List.mem_cons_of_mem _ (List.mem_cons_of_mem _ (List.mem_cons_of_mem _ (List.mem_cons_of_mem _ (List.mem_cons_self))))))))))))))))
theorem m17 {b0 b1 b2 b3 b4 b5 b6 b7 b8 b9 b10 b11 b12 b13 b14 b15 b16 a : Fact} {l : List Fact} : a ∈ b0 :: b1 :: b2 :: b3 :: b4 :: b5 :: b6 :: b7 :: b8 :: b9 :: b10 :: b11 :: b12 :: b13 :: b14 :: b15 :: b16 :: a :: l := List.mem_cons_of_mem _ (List.mem_cons_of_mem _ (List.mem_cons_of_mem _ (List.mem_cons_of_mem _ (List.mem_cons_of_mem _ (List.mem_cons_of_mem _ (List.mem_cons_of_mem _ (List.mem_cons_of_mem _ (List.mem_cons_of_mem _ (List.mem_cons_of_mem _ (List.mem_cons_of_mem _ (List.mem_cons_of_mem _ (List.mem_cons_of_mem _ (List.mem_cons_of_mem _ (List.mem_cons_of_mem _ (List.mem_cons_of_mem _ (List.mem_cons_of_mem _ (List.mem_cons_self)))))))))))))))))
theorem m18 {b0 b1 b2 b3 b4 b5 b6 b7 b8 b9 b10 b11 b12 b13 b14 b15 b16 b17 a : Fact} {l : List Fact} : a ∈ b0 :: b1 :: b2 :: b3 :: b4 :: b5 :: b6 :: b7 :: b8 :: b9 :: b10 :: b11 :: b12 :: b13 :: b14 :: b15 :: b16 :: b17 :: a :: l := List.mem_cons_of_mem _ (List.mem_cons_of_mem _ (List.mem_cons_of_mem _ (List.mem_cons_of_mem _ (List.mem_cons_of_mem _ (List.mem_cons_of_mem _ (List.mem_cons_of_mem _ (List.mem_cons_of_mem _ (List.mem_cons_of_mem _ (List.mem_cons_of_mem _ (List.mem_cons_of_mem _ (List.mem_cons_of_mem _ (List.mem_cons_of_mem _ (List.mem_cons_of_mem _ (List.mem_cons_of_mem _ (List.mem_cons_of_mem _ (List.mem_cons_of_mem _ (List.mem_cons_of_mem _ (List.mem_cons_self))))))))))))))))))
theorem m19 {b0 b1 b2 b3 b4 b5 b6 b7 b8 b9 b10 b11 b12 b13 b14 b15 b16 b17 b18 a : Fact} {l : List Fact} : a ∈ b0 :: b1 :: b2 :: b3 :: b4 :: b5 :: b6 :: b7 :: b8 :: b9 :: b10 :: b11 :: b12 :: b13 :: b14 :: b15 :: b16 :: b17 :: b18 :: a :: l := List.mem_cons_of_mem _ (List.mem_cons_of_mem _ (List.mem_cons_of_mem _ (List.mem_cons_of_mem _ (List.mem_cons_of_mem _ (List.mem_cons_of_mem _ (List.mem_cons_of_mem _ (List.mem_cons_of_mem _ (List.mem_cons_of_mem _ (List.mem_cons_of_mem _ (List.mem_cons_of_mem _ (List.mem_cons_of_mem _ (List.mem_cons_of_mem _ (List.mem_cons_of_mem _ (List.mem_cons_of_mem _ (List.mem_cons_of_mem _ (List.mem_cons_of_mem _ (List.mem_cons_of_mem _ (List.mem_cons_of_mem _ (List.mem_cons_self)))))))))))))))))))
theorem Frg.mark10 {w0 w w' : World} {lo hi n : Nat} {s : Value} {x x' : Nat → Nat} {l : List Fact} {b0 b1 b2 b3 b4 b5 b6 b7 b8 b9 : Fact} (h : Frg w0 w (b0 :: b1 :: b2 :: b3 :: b4 :: b5 :: b6 :: b7 :: b8 :: b9 :: ownF lo hi s x n :: l)) (hp : OwnS w' lo hi s x' n) (k : Chg (rng lo hi) w w') : Frg w0 w' (b0 :: b1 :: b2 :: b3 :: b4 :: b5 :: b6 :: b7 :: b8 :: b9 :: ownF lo hi s x' n :: l) :=
  Frg.chg [b0, b1, b2, b3, b4, b5, b6, b7, b8, b9] (e := ownF lo hi s x n) (e' := ownF lo hi s x' n) h k hp rfl rfl
theorem Frg.mark11 {w0 w w' : World} {lo hi n : Nat} {s : Value} {x x' : Nat → Nat} {l : List Fact} {b0 b1 b2 b3 b4 b5 b6 b7 b8 b9 b10 : Fact} (h : Frg w0 w (b0 :: b1 :: b2 :: b3 :: b4 :: b5 :: b6 :: b7 :: b8 :: b9 :: b10 :: ownF lo hi s x n :: l)) (hp : OwnS w' lo hi s x' n) (k : Chg (rng lo hi) w w') : Frg w0 w' (b0 :: b1 :: b2 :: b3 :: b4 :: b5 :: b6 :: b7 :: b8 :: b9 :: b10 :: ownF lo hi s x' n :: l) :=
  Frg.chg [b0, b1, b2, b3, b4, b5, b6, b7, b8, b9, b10] (e := ownF lo hi s x n) (e' := ownF lo hi s x' n) h k hp rfl rfl
theorem Frg.mark12 {w0 w w' : World} {lo hi n : Nat} {s : Value} {x x' : Nat → Nat} {l : List Fact} {b0 b1 b2 b3 b4 b5 b6 b7 b8 b9 b10 b11 : Fact} (h : Frg w0 w (b0 :: b1 :: b2 :: b3 :: b4 :: b5 :: b6 :: b7 :: b8 :: b9 :: b10 :: b11 :: ownF lo hi s x n :: l)) (hp : OwnS w' lo hi s x' n) (k : Chg (rng lo hi) w w') : Frg w0 w' (b0 :: b1 :: b2 :: b3 :: b4 :: b5 :: b6 :: b7 :: b8 :: b9 :: b10 :: b11 :: ownF lo hi s x' n :: l) :=
  Frg.chg [b0, b1, b2, b3, b4, b5, b6, b7, b8, b9, b10, b11] (e := ownF lo hi s x n) (e' := ownF lo hi s x' n) h k hp rfl rfl
theorem Frg.mark13 {w0 w w' : World} {lo hi n : Nat} {s : Value} {x x' : Nat → Nat} {l : List Fact} {b0 b1 b2 b3 b4 b5 b6 b7 b8 b9 b10 b11 b12 : Fact} (h : Frg w0 w (b0 :: b1 :: b2 :: b3 :: b4 :: b5 :: b6 :: b7 :: b8 :: b9 :: b10 :: b11 :: b12 :: ownF lo hi s x n :: l)) (hp : OwnS w' lo hi s x' n) (k : Chg (rng lo hi) w w') : Frg w0 w' (b0 :: b1 :: b2 :: b3 :: b4 :: b5 :: b6 :: b7 :: b8 :: b9 :: b10 :: b11 :: b12 :: ownF lo hi s x' n :: l) :=
  Frg.chg [b0, b1, b2, b3, b4, b5, b6, b7, b8, b9, b10, b11, b12] (e := ownF lo hi s x n) (e' := ownF lo hi s x' n) h k hp rfl rfl
theorem Frg.mark14 {w0 w w' : World} {lo hi n : Nat} {s : Value} {x x' : Nat → Nat} {l : List Fact} {b0 b1 b2 b3 b4 b5 b6 b7 b8 b9 b10 b11 b12 b13 : Fact} (h : Frg w0 w (b0 :: b1 :: b2 :: b3 :: b4 :: b5 :: b6 :: b7 :: b8 :: b9 :: b10 :: b11 :: b12 :: b13 :: ownF lo hi s x n :: l)) (hp : OwnS w' lo hi s x' n) (k : Chg (rng lo hi) w w') : Frg w0 w' (b0 :: b1 :: b2 :: b3 :: b4 :: b5 :: b6 :: b7 :: b8 :: b9 :: b10 :: b11 :: b12 :: b13 :: ownF lo hi s x' n :: l) :=
  Frg.chg [b0, b1, b2, b3, b4, b5, b6, b7, b8, b9, b10, b11, b12, b13] (e := ownF lo hi s x n) (e' := ownF lo hi s x' n) h k hp rfl rfl
theorem Frg.mark15 {w0 w w' : World} {lo hi n : Nat} {s : Value} {x x' : Nat → Nat} {l : List Fact} {b0 b1 b2 b3 b4 b5 b6 b7 b8 b9 b10 b11 b12 b13 b14 : Fact} (h : Frg w0 w (b0 :: b1 :: b2 :: b3 :: b4 :: b5 :: b6 :: b7 :: b8 :: b9 :: b10 :: b11 :: b12 :: b13 :: b14 :: ownF lo hi s x n :: l)) (hp : OwnS w' lo hi s x' n) (k : Chg (rng lo hi) w w') : Frg w0 w' (b0 :: b1 :: b2 :: b3 :: b4 :: b5 :: b6 :: b7 :: b8 :: b9 :: b10 :: b11 :: b12 :: b13 :: b14 :: ownF lo hi s x' n :: l) :=
  Frg.chg [b0, b1, b2, b3, b4, b5, b6, b7, b8, b9, b10, b11, b12, b13, b14] (e := ownF lo hi s x n) (e' := ownF lo hi s x' n) h k hp rfl rfl
theorem Frg.mark16 {w0 w w' : World} {lo hi n : Nat} {s : Value} {x x' : Nat → Nat} {l : List Fact} {b0 b1 b2 b3 b4 b5 b6 b7 b8 b9 b10 b11 b12 b13 b14 b15 : Fact} (h : Frg w0 w (b0 :: b1 :: b2 :: b3 :: b4 :: b5 :: b6 :: b7 :: b8 :: b9 :: b10 :: b11 :: b12 :: b13 :: b14 :: b15 :: ownF lo hi s x n :: l)) (hp : OwnS w' lo hi s x' n) (k : Chg (rng lo hi) w w') : Frg w0 w' (b0 :: b1 :: b2 :: b3 :: b4 :: b5 :: b6 :: b7 :: b8 :: b9 :: b10 :: b11 :: b12 :: b13 :: b14 :: b15 :: ownF lo hi s x' n :: l) :=
  Frg.chg [b0, b1, b2, b3, b4, b5, b6, b7, b8, b9, b10, b11, b12, b13, b14, b15] (e := ownF lo hi s x n) (e' := ownF lo hi s x' n) h k hp rfl rfl
end Go.Fk

/- An append to a row of one's own in a region that draws its order: elements of any width. Nothing here names a program. -/
namespace Go.Fk
open Go Go.RowKit
theorem ownsRow_keep {w w' : World} {B : Nat} {e : TypeId} {z : Nat} {v : Value} {n : Nat} {xs : List Value} {S : Nat → Prop} (h : w.ownsRow B e z v n xs) (hw : Chg S w w') (hS : ∀ k, v.ownBlock = some k → ¬ S k) : w'.ownsRow B e z v n xs := by
  obtain ⟨h1, h2⟩ := h
  refine ⟨h1, ?_⟩
  rcases h2 with h2 | ⟨q, cap, cur, e1, e2, e3, e4⟩
  · exact .inl h2
  · exact .inr ⟨q, cap, cur, e1, e2, by have := hw.row (g := q) (t := e) (cs := cur) e3 (hS q (by rw [e1]; rfl)); exact this, e4⟩
theorem ownsRow_mono {w : World} {B B' : Nat} {e : TypeId} {z : Nat} {v : Value} {n : Nat} {xs : List Value} (h : w.ownsRow B e z v n xs) (hb : B' ≤ B) : w.ownsRow B' e z v n xs := by
  obtain ⟨h1, h2⟩ := h
  refine ⟨h1, ?_⟩
  rcases h2 with h2 | ⟨q, cap, cur, e1, e2, e3⟩
  · exact .inl h2
  · exact .inr ⟨q, cap, cur, e1, Nat.le_trans hb e2, e3⟩
theorem ownsRow_lt {w : World} {B : Nat} {e : TypeId} {z : Nat} {v : Value} {n : Nat} {xs : List Value} (h : w.ownsRow B e z v n xs) : ∀ k, v.ownBlock = some k → B ≤ k ∧ k < w.heap.size := by
  intro k hk
  rcases h.2 with ⟨rfl, _⟩ | ⟨q, cap, cur, rfl, e2, e3, _⟩
  · cases hk
  · obtain rfl : q = k := by simpa [Value.ownBlock] using hk
    refine ⟨e2, ?_⟩
    rcases Nat.lt_or_ge q w.heap.size with hlt | hge
    · exact hlt
    · rw [Array.getElem?_eq_none hge] at e3; cases e3
theorem run_append_keep {P : Program} (w : World) (t ty : TypeId) (base : Nat) (e : TypeId) (i : TypeInfo) (z : Value) (size bytes : Nat) (ht : P.underlying t = some (.slice e)) (hi : P.info? e = some i) (hz : i.zero = some z)
    (hsize : i.size = size) (hby : i.bytes = bytes) (hzs : z.cells.size = size) (hsz : 0 < size)
    (v : Value) (n : Nat) (xs : List Value) (hown : w.ownsRow base e size v n xs)
    (ad : Addr) (m c : Nat) (news : List Value) (hl : news.length = m * size) (hnews : ∀ j u, news[j]? = some u → w.cell? (ad.add j) = some u) (h1 : ∀ u ∈ news, u.oneCell' = true)
    (hm : 0 < m) (h63 : n + m ≤ maxLen) (hbytes : (n + m) * bytes ≤ 140737488355328) (hbase : base ≤ w.heap.size) :
    ∃ v' w', (Builtin.append_ #[t, t] ty #[v, .slice (some ad) m c]).run P w = .ok v' w' ∧ w'.ownsRow base e size v' (n + m) (xs ++ news) ∧ Chg (fun k => v.ownBlock = some k) w w' ∧
      (v'.ownBlock = v.ownBlock ∨ ∃ q, v'.ownBlock = some q ∧ w.heap.size ≤ q) ∧ w'.ownsRow base e size v n xs ∧ (∀ u, u.ownBlock = v.ownBlock → w.ownsRow base e size u (n + m) (xs ++ news) → w'.ownsRow base e size u (n + m) (xs ++ news)) := by
  have hlen : (xs ++ news).length = (n + m) * size := by rw [List.length_append, hown.1, hl, Nat.add_mul]
  rcases hown.2 with ⟨rfl, rfl⟩ | ⟨g, cap, cur, rfl, hbg, hg, hnc, hcm, hcs, htake⟩
  · obtain ⟨v', w', hr, h2, h3, _, h5⟩ := run_append_own_at (P := P) w base t ty e i z size bytes ht hi hz hsize hby hzs hsz (.slice none 0 0) 0 xs hown ad m c news hl hnews h1 h63 hbytes hbase
    have hle : le w w' := le_of_grown h3
    refine ⟨v', w', hr, h2, Chg.of_le hle, ?_, ownsRow_le hown hle, fun u _ hu => ownsRow_le hu hle⟩
    rcases h5 with h5 | h5
    · exact .inl h5
    · exact .inr ⟨_, h5, Nat.le_refl _⟩
  · by_cases hroom : n + m ≤ cap
    · subst hsize
      have hfit : n * i.size + news.length ≤ cur.size := by rw [hl, hcs, ← Nat.add_mul]; exact Nat.mul_le_mul_right _ hroom
      have hr := run_append_room (P := P) w t ty e i ht hi g n cap cur hg ad m c news hl hnews h1 hroom hfit
      have hnew : (w.setRow g (cur.toList.take (n * i.size) ++ news ++ cur.toList.drop (n * i.size + news.length)).toArray).ownsRow base e i.size (.slice (some ⟨g, 0, none⟩) (n + m) cap) (n + m) (xs ++ news) := by
        refine ⟨hlen, .inr ⟨g, cap, _, rfl, hbg, setRow_heap w g cur _ e _ hg, hroom, hcm, ?_, ?_⟩⟩
        · simp only [List.size_toArray, List.length_append, List.length_take, List.length_drop, Array.length_toList]
          omega
        · rw [htake, ← hlen]
          exact List.take_left
      refine ⟨_, _, hr, hnew, ⟨rfl, rfl, rfl, by simp, fun k _ hk => setRow_other w g k _ (fun e => hk (by simp [Value.ownBlock, e]))⟩, .inl rfl, ?_, fun u hu ho => ?_⟩
      · refine ⟨hown.1, .inr ⟨g, cap, _, rfl, hbg, setRow_heap w g cur _ e _ hg, hnc, hcm, ?_, ?_⟩⟩
        · simp only [List.size_toArray, List.length_append, List.length_take, List.length_drop, Array.length_toList]
          omega
        · rw [htake, List.append_assoc, ← hown.1]
          exact List.take_left
      · rcases ho.2 with ⟨rfl, h0⟩ | ⟨g0, cap0, cur0, rfl, _, hg0, _, _, hs0, _⟩
        · omega
        · obtain rfl : g0 = g := by simpa [Value.ownBlock] using hu
          rw [hg] at hg0
          simp only [Option.some.injEq, Obj.cells.injEq] at hg0
          obtain ⟨rfl, _⟩ := hg0
          obtain rfl : cap = cap0 := Nat.eq_of_mul_eq_mul_right hsz (hcs.symm.trans hs0)
          exact hnew
    · obtain ⟨v', w', hr, h2, h3⟩ := run_append_arg_grows (P := P) w t ty e i z size bytes ht hi hz hsize hby hzs hsz ⟨g, 0, none⟩ n cap xs hown.1 (hown.cells (g := g) rfl) ad m c news hl hnews (by omega) h63 hbytes
      have hle : le w w' := le_of_grown h3
      obtain ⟨q, c', rfl, hq, _⟩ := h2.form (by omega)
      exact ⟨_, w', hr, ownsRow_mono h2 hbase, Chg.of_le hle, .inr ⟨q, rfl, hq⟩, ownsRow_le hown hle, fun u _ hu => ownsRow_le hu hle⟩
/-- Only the row that one owns is written, by one append. -/
def appX (base : Nat) (e : TypeId) (z : Nat) (v : Value) (n : Nat) (xs : List Value) (m : Nat) (news : List Value) : Ext where
  R w w' := Chg (fun k => v.ownBlock = some k) w w' ∧ (w.ownsRow base e z v n xs → w'.ownsRow base e z v n xs) ∧ (∀ u, u.ownBlock = v.ownBlock → w.ownsRow base e z u (n + m) (xs ++ news) → w'.ownsRow base e z u (n + m) (xs ++ news))
  refl w := ⟨Chg.refl _ w, fun h => h, fun _ _ h => h⟩
  trans h k := ⟨h.1.trans k.1, fun x => k.2.1 (h.2.1 x), fun u hu x => k.2.2 u hu (h.2.2 u hu x)⟩
  of_le h := ⟨Chg.of_le h, fun x => ownsRow_le x h, fun _ _ x => ownsRow_le x h⟩
section
variable {P : Program} {ops : Array Oper} {W : World} {K : FuncId → Array Value → World → Value → Prop} {Q : Act → World → Prop} {F : Facts} {k : Nat} {o : Oper} {rest : List Oper} {a : Act}
variable {base : Nat} {e : TypeId} {z : Nat} {v : Value} {n : Nat} {xs : List Value} {m : Nat} {news : List Value}
theorem appX_row {w : World} (hown : W.ownsRow base e z v n xs) (hw : (appX base e z v n xs m news).R W w) {q : Nat} {t : TypeId} {cs : Array Value} (hr : Row W q t cs) (hq : v.ownBlock ≠ some q) : Row w q t cs := hw.1.row hr hq
theorem wpFreeD_madeX (hown : W.ownsRow base e z v n xs) (hg : o.guard = none) (f : Nat → Value) (t : TypeId) (cs : Array Value) (hr : ∀ w, (execOp a.eval o).run P w = .ok (.value (f w.heap.size)) (w.alloc (.cells cs t)))
    (h : ∀ b, wpFreeD (appX base e z v n xs m news) P ops .any W K Q rest (k + 1) (a.put o.dst (f b)) (F.with k (fun w => ∃ b', f b = f b' ∧ Row w b' t cs))) : wpFreeD (appX base e z v n xs m news) P ops .any W K Q (o :: rest) k a F := by
  refine ⟨fun w u => ∃ b', u = f b' ∧ W.heap.size ≤ b' ∧ Row w b' t cs, ⟨fun u w w' hw hu => ?_, .inl ⟨by simp [Region.wanted, hg], fun w hw _ => ?_⟩⟩, fun u hu => ?_⟩
  · obtain ⟨b', e1, h2, hrow⟩ := hu
    exact ⟨b', e1, h2, hw.1.row hrow (fun e2 => by have := (ownsRow_lt hown _ e2).2; omega)⟩
  · rw [hr w]
    exact ⟨(appX base e z v n xs m news).of_le (le_alloc w _), w.heap.size, rfl, hw.1.size, Row.new w t cs⟩
  · obtain ⟨w, _, _, b, rfl, _⟩ := hu
    exact wpFreeD_weaken _ _ _ _ _ (fun e w h => ⟨h.1, fun he => by obtain ⟨b', e1, _, h2⟩ := h.2 he; exact ⟨b', e1, h2⟩⟩) (h b)
/-- What an append gives. -/
def Gave (W : World) (base : Nat) (e : TypeId) (z : Nat) (v : Value) (n : Nat) (xs : List Value) (w : World) (u : Value) : Prop := w.ownsRow base e z u n xs ∧ (u.ownBlock = v.ownBlock ∨ ∃ q, u.ownBlock = some q ∧ W.heap.size ≤ q)
theorem wpFreeD_appK (hown : W.ownsRow base e z v n xs) (hg : o.guard = none) {s x : Operand} {t : TypeId} (hop : o.op = .call { callee := .builtin .append, args := #[s, x], argTypes := #[t, t] }) {i : TypeInfo} {zv : Value} {bytes : Nat}
    (ht : P.underlying t = some (.slice e)) (hi : P.info? e = some i) (hz : i.zero = some zv) (hsize : i.size = z) (hby : i.bytes = bytes) (hzs : zv.cells.size = z) (hsz : 0 < z)
    (hs : a.eval s = v) {ad : Addr} {c : Nat} (hx : a.eval x = .slice (some ad) m c) (hl : news.length = m * z) (hnews : ∀ w, (appX base e z v n xs m news).R W w → behind .any o F w → ∀ j u, news[j]? = some u → w.cell? (ad.add j) = some u) (h1 : ∀ u ∈ news, u.oneCell' = true)
    (hm : 0 < m) (h63 : n + m ≤ maxLen) (hbytes : (n + m) * bytes ≤ 140737488355328) (hbase : base ≤ W.heap.size)
    (h : ∀ u, (∃ w, (appX base e z v n xs m news).R W w ∧ Gave W base e z v (n + m) (xs ++ news) w u) → wpFreeD (appX base e z v n xs m news) P ops .any W K Q rest (k + 1) (a.put o.dst u) (F.with k (fun w => Gave W base e z v (n + m) (xs ++ news) w u))) : wpFreeD (appX base e z v n xs m news) P ops .any W K Q (o :: rest) k a F := by
  refine ⟨Gave W base e z v (n + m) (xs ++ news), ⟨fun u w w' hw hu => ?_, .inl ⟨by simp [Region.wanted, hg], fun w hw hbe => ?_⟩⟩, fun u hu => h u (by obtain ⟨w, h1, _, h2⟩ := hu; exact ⟨w, h1, h2⟩)⟩
  · obtain ⟨g1, g2⟩ := hu
    refine ⟨?_, g2⟩
    by_cases hq : u.ownBlock = v.ownBlock
    · exact hw.2.2 u hq g1
    · exact ownsRow_keep g1 hw.1 (fun q e1 e2 => hq (e1.trans e2.symm))
  · obtain ⟨v', w', hr, r1, r2, r3, r4, r5⟩ := run_append_keep (P := P) w t o.type base e i zv z bytes ht hi hz hsize hby hzs hsz v n xs (hw.2.1 hown) ad m c news hl (hnews w hw hbe) h1 hm h63 hbytes (Nat.le_trans hbase hw.1.size)
    simp [execOp, hop, resolve, invoke, builtin, hs, hx, hr, Result.andThen, insideT]
    refine ⟨⟨r2, fun _ => r4, r5⟩, r1, ?_⟩
    rcases r3 with r3 | ⟨q, r3, r6⟩
    · exact .inl r3
    · exact .inr ⟨q, r3, Nat.le_trans hw.1.size r6⟩
end
end Go.Fk

/- Drawn regions with facts whose last operations are forced; float arithmetic within them. Nothing here names a program. -/
namespace Go.Fk
open Go Go.RowKit
section
variable {E : Ext} {P : Program} {ops : Array Oper} {W : World} {K : FuncId → Array Value → World → Value → Prop} {Q : Act → World → Prop} {F : Facts} {k : Nat} {o : Oper} {rest : List Oper} {a : Act}
theorem wpFreeD_some (hg : o.guard = none) (V : Value → Prop) (hr : ∀ w, E.R W w → ∃ v n, (execOp a.eval o).run P w = .ok (.value v) (w.drewN n) ∧ V v)
    (h : ∀ v, V v → wpFreeD E P ops .any W K Q rest (k + 1) (a.put o.dst v) (F.with k (fun _ => True))) : wpFreeD E P ops .any W K Q (o :: rest) k a F := by
  refine ⟨fun _ u => V u, ⟨fun _ _ _ _ h => h, .inl ⟨by simp [Region.wanted, hg], fun w hw _ => ?_⟩⟩, fun u hu => ?_⟩
  · obtain ⟨v, n, hrun, hv⟩ := hr w hw
    rw [hrun]; exact ⟨E.of_le (le_drewN w n), hv⟩
  · obtain ⟨w, _, _, hv⟩ := hu
    exact wpFreeD_weaken _ _ _ _ _ (fun e w h => ⟨h.1, fun _ => trivial⟩) (h u hv)
theorem wpFreeD_farith (hg : o.guard = none) {op : BinOp} {t t' : TypeId} {x y : Operand} (hop : o.op = Op.binOp op t x y t') (ho : arith op = true)
    {fk : FloatKind} {p q : Nat} (hx : a.eval x = .float fk p) (hy : a.eval y = .float fk q)
    (h : ∀ r, Hid (can fk r = fop op fk p q) → Hid (fits fk r) → wpFreeD E P ops .any W K Q rest (k + 1) (a.put o.dst (.float fk r)) (F.with k (fun _ => True))) : wpFreeD E P ops .any W K Q (o :: rest) k a F := by
  refine wpFreeD_some hg (fun v => ∃ r, v = .float fk r ∧ can fk r = fop op fk p q ∧ fits fk r) (fun w _ => ?_) ?_
  · obtain ⟨r, n, hrun, hr, hf⟩ := run_farith (P := P) w op ho t fk p q
    have he := eqGuard_float (P := P) w op t x y fk fk p q
    refine ⟨.float fk r, n, ?_, r, rfl, hr, hf⟩
    simp [execOp, hop, hx, hy, he, hrun, Result.andThen]
  · rintro v ⟨r, rfl, h1, h2⟩
    exact h r h1 h2
end
section
variable {E : Ext} {P : Program}
/-- A REGION WITH FORCED LAST OPERATIONS (from number n on). -/
theorem region_tailD (K : FuncId → Array Value → World → Value → Prop) {id : Nat} {Q : Exit → Act → World → Prop} {a : Act} {w : World} {l : List Oper} (n : Nat) (hm : P.follows .mixedOrders = true) (hB : Region.lexTailB .any l.toArray n = true)
    (h : wpFreeD E P l.toArray .any (w.drewN 1) K (fun a' w' => wpList P l.toArray Q (l.drop n) a' w') (l.take n) 0 a noFacts) : (Code.region id l.toArray true).wp P Q a w := by
  simp only [Region.lexTailB, Bool.and_eq_true, decide_eq_true_eq] at hB
  obtain ⟨⟨⟨⟨hsel, hn⟩, hs'⟩, hc⟩, hlex⟩ := hB
  have hn' : n < l.length := by simpa using hn
  have htl : (l.take n).length = n := by simp; omega
  have hdl : (l.drop n).length = l.toArray.size - n := by simp
  have hbound : ∀ listed i, HeadInv .any l.toArray n listed → i < n → listed.getD i true = false → ∀ j ∈ Region.ready .any l.toArray listed, j < n := by
    intro listed i inv hi hun j hj
    rcases Nat.lt_or_ge j n with h | h
    · exact h
    · exact absurd hj (tail_waits hs' hc hn inv _ i rfl hi hun j h)
  have H := anyFreeD_lex (md := .any) (g := l.toArray.size - n) hsel hbound (l.take n) 0 _ a noFacts (fun j hj => by
    have hj' : j < n := by rw [htl] at hj; exact hj
    simp [hj']) (by simpa using htl) (head_start _ n) (by rw [htl]; exact hlex) (fun _ _ _ h => h) ⟨w.drewN 1, E.refl _, fun _ => trivial, trivial⟩ h
  refine wp_region_any hm ?_
  have := anyFreeD_sound (Q' := Q) (W := w.drewN 1) (g := l.toArray.size - n) (fun listed a' F w' hw' hF hL => by
    have := wpAny_of_seq (md := .any) (Q' := Q) (l.drop n) n listed a' w' (fun j => by simp [List.getElem?_drop]) (by rw [hdl]; exact hL.1) (hL.2 w' hw' hF)
    rwa [hdl] at this) _ _ _ _ _ (fun _ _ _ h => h) (E.refl _) (fun _ => trivial) H
  rw [htl, show n + (l.toArray.size - n) = l.toArray.size by omega] at this
  exact this
end
end Go.Fk

/- The laws' helpers for Ring, over trees of data. -/
namespace Go.Proofs.Ytkcpdddmabkkgaa
open Go.RowKit Go.Fk
theorem inv_Ring {w : World} {S : Nat → Prop} {us : List Value} (n0 : Nat) (x0 : Nat → CD) (z1 : Int) (h : LayL w S (([(.sl 1 n0 x0), (.int .i64 z1)] : List CD).map CD.cp) us) : ∃ u0 : Value, u0.oneCell' = true ∧ us = [u0, .int .i64 z1] ∧ LayL w S (([(.sl 1 n0 x0), (.int .i64 z1)] : List CD).map CD.cp) [u0, .int .i64 z1] := by
  have h0 := h
  simp only [List.map_cons, List.map_nil] at h
  obtain ⟨u0, us0, _, _, rfl, l0, hh0, _, _, _⟩ := h.inv
  obtain ⟨u1, us1, _, _, rfl, l1, hh1, _, _, _⟩ := hh0.inv
  obtain ⟨rfl, _⟩ := l1
  obtain rfl := hh1.inv0
  exact ⟨u0, l0.one, rfl, h0⟩
end Go.Proofs.Ytkcpdddmabkkgaa

/- The laws' helpers for []Ring, over trees of data. -/
namespace Go.Proofs.Ytkcpdddmabkkgaa
open Go.RowKit Go.Fk
theorem sz_elRing (x : Nat → CD) (k : Nat) : sumTo (fun i => (x i).sz) ((k + 1) * 2) = sumTo (fun i => (x i).sz) (k * 2) + szL ((List.range 2).map (fun j => x (k * 2 + j))) := by
  rw [Nat.succ_mul, sumTo_add]; (simp [szL, sumTo, List.range_succ, List.sum_append]) <;> omega
theorem sz_atRing {n : Nat} (x : Nat → CD) (k : Nat) (hk : k < n) : sumTo (fun i => (x i).sz) (k * 2) + szL ((List.range 2).map (fun j => x (k * 2 + j))) ≤ sumTo (fun i => (x i).sz) (n * 2) := by
  rw [← sz_elRing]; exact sumTo_le _ (Nat.mul_le_mul_right _ hk)
end Go.Proofs.Ytkcpdddmabkkgaa

/- The laws' helpers for Pipe, over trees of data. -/
namespace Go.Proofs.Ytkcpdddmabkkgaa
open Go.RowKit Go.Fk
theorem invf_Pipe {w : World} {S : Nat → Prop} {us : List Value} (n0 : Nat) (x0 : Nat → CD) (n1 : Nat) (x1 : Nat → CD) (n2 : Nat) (x2 : Nat → CD) (z3 : Int) (c4 : CD) (c5 : CD) (c6 : CD) (c7 : CD) (c8 : CD) (b9 : Bool) (c10 : CD) (c11 : CD) (c12 : CD) (q4 : c4.flk = some .f32) (q5 : c5.flk = some .f32) (q6 : c6.flk = some .f32) (q7 : c7.flk = some .f32) (q8 : c8.flk = some .f32) (q10 : c10.flk = some .f32) (q11 : c11.flk = some .f32) (q12 : c12.flk = some .f32) (h : LayL w S (([(.sl 2 n0 x0), (.sl 2 n1 x1), (.sl 1 n2 x2), (.int .i64 z3), (c4), (c5), (c6), (c7), (c8), (.bool b9), (c10), (c11), (c12)] : List CD).map CD.cp) us) : ∃ (u0 : Value) (u1 : Value) (u2 : Value) (g4 : Nat) (g5 : Nat) (g6 : Nat) (g7 : Nat) (g8 : Nat) (g10 : Nat) (g11 : Nat) (g12 : Nat), u0.oneCell' = true ∧ u1.oneCell' = true ∧ u2.oneCell' = true ∧ us = [u0, u1, u2, .int .i64 z3, .float .f32 g4, .float .f32 g5, .float .f32 g6, .float .f32 g7, .float .f32 g8, .bool b9, .float .f32 g10, .float .f32 g11, .float .f32 g12] ∧ LayL w S (([(.sl 2 n0 x0), (.sl 2 n1 x1), (.sl 1 n2 x2), (.int .i64 z3), (c4), (c5), (c6), (c7), (c8), (.bool b9), (c10), (c11), (c12)] : List CD).map CD.cp) [u0, u1, u2, .int .i64 z3, .float .f32 g4, .float .f32 g5, .float .f32 g6, .float .f32 g7, .float .f32 g8, .bool b9, .float .f32 g10, .float .f32 g11, .float .f32 g12] := by
  have h0 := h
  simp only [List.map_cons, List.map_nil] at h
  obtain ⟨u0, us0, _, _, rfl, l0, hh0, _, _, _⟩ := h.inv
  obtain ⟨u1, us1, _, _, rfl, l1, hh1, _, _, _⟩ := hh0.inv
  obtain ⟨u2, us2, _, _, rfl, l2, hh2, _, _, _⟩ := hh1.inv
  obtain ⟨u3, us3, _, _, rfl, l3, hh3, _, _, _⟩ := hh2.inv
  obtain ⟨rfl, _⟩ := l3
  obtain ⟨u4, us4, _, _, rfl, l4, hh4, _, _, _⟩ := hh3.inv
  obtain ⟨g4, rfl⟩ := lay_fl q4 l4
  obtain ⟨u5, us5, _, _, rfl, l5, hh5, _, _, _⟩ := hh4.inv
  obtain ⟨g5, rfl⟩ := lay_fl q5 l5
  obtain ⟨u6, us6, _, _, rfl, l6, hh6, _, _, _⟩ := hh5.inv
  obtain ⟨g6, rfl⟩ := lay_fl q6 l6
  obtain ⟨u7, us7, _, _, rfl, l7, hh7, _, _, _⟩ := hh6.inv
  obtain ⟨g7, rfl⟩ := lay_fl q7 l7
  obtain ⟨u8, us8, _, _, rfl, l8, hh8, _, _, _⟩ := hh7.inv
  obtain ⟨g8, rfl⟩ := lay_fl q8 l8
  obtain ⟨u9, us9, _, _, rfl, l9, hh9, _, _, _⟩ := hh8.inv
  obtain rfl := l9
  obtain ⟨u10, us10, _, _, rfl, l10, hh10, _, _, _⟩ := hh9.inv
  obtain ⟨g10, rfl⟩ := lay_fl q10 l10
  obtain ⟨u11, us11, _, _, rfl, l11, hh11, _, _, _⟩ := hh10.inv
  obtain ⟨g11, rfl⟩ := lay_fl q11 l11
  obtain ⟨u12, us12, _, _, rfl, l12, hh12, _, _, _⟩ := hh11.inv
  obtain ⟨g12, rfl⟩ := lay_fl q12 l12
  obtain rfl := hh12.inv0
  exact ⟨u0, u1, u2, g4, g5, g6, g7, g8, g10, g11, g12, l0.one, l1.one, l2.one, rfl, h0⟩
end Go.Proofs.Ytkcpdddmabkkgaa

/- What pipes ask of their lists: 'l04All', 'l04Rings'; 'areScatters', 'isFiniteRing', 'areSections'. -/
namespace Go.Fk
open Go Go.RowKit
/-- Two lists of sections. -/
def secOk (x y : Nat → CD) (k : Nat) : Bool := rgOk x k && rgOk y k && (rgN x k == rgN y k)
theorem withinB_can {y x l g : Nat} (h : can .f32 y = x) : withinB y l g = withinB x l g := by
  unfold withinB; rw [← h, order_can_l, order_can_l]
def scB (x : Nat → Nat) (n : Nat) : Bool := allB (fun i => withinB (x i) 3212836864 1065353216) n
end Go.Fk
namespace Go.Proofs.Ytkcpdddmabkkgaa
open Go.RowKit Go.Fk
end Go.Proofs.Ytkcpdddmabkkgaa

/- Pieces for bows and jets: guarded loads of structs in drawn regions; pairs of rings and of numbers. Nothing here names a program. -/
namespace Go.Fk
open Go Go.RowKit
section
variable {P : Program} {ops : Array Oper} {W : World} {K : FuncId → Array Value → World → Value → Prop} {Q : Act → World → Prop} {F : Facts} {k : Nat} {o : Oper} {rest : List Oper} {a : Act}
theorem wpFreeD_loadGW {w0 w1 : World} {L : List Fact} {n : Nat} (hF : Frg w0 w1 L) (hW : W = w1.drewN n) (hw : Region.wanted o (yielded ops a.tmps) = true) {ty : TypeId} {x : Operand} (hop : o.op = .load ty x) {g : Nat} (hx : a.eval x = .pointer (some ⟨g, 0, none⟩)) {t : TypeId} {cs : Array Value} {d : TypeDesc}
    (hm : rowF g t cs ∈ L) (hu : P.underlying ty = some d) (hd : (match d with | .struct _ | .array _ _ => true | _ => false) = true) {m : Nat} (hi : (P.info? ty).map (·.size) = some m) (hs : cs.size = m)
    (h : wpFreeD leX P ops .any W K Q rest (k + 1) (a.put o.dst (.agg cs)) (F.with k (fun _ => True))) : wpFreeD leX P ops .any W K Q (o :: rest) k a F := by
  subst hW hs
  refine wpFreeD_oneW hw (.agg cs) (fun w hw => ?_) h
  have := run_loadVar_row (P := P) w g t ty cs (0, 0) _ (((hF.row hm).drewN n).le hw) hu hd hi
  simp [execOp, hop, hx, Instr.loadAt, Instr.sureAddr, this, Result.andThen]
theorem wpFreeD_indexWG {E : Ext} (hw : Region.wanted o (yielded ops a.tmps) = true) {t : TypeId} {x y : Operand} (hop : o.op = .indexAddr t x y) {b off n cap sz i : Nat} {kk : IntKind} {e : TypeId} (hx : a.eval x = .slice (some ⟨b, off, none⟩) n cap) (hy : a.eval y = .int kk (i : Int)) (hu : P.underlying t = some (.slice e)) (hs : (P.info? e).map (·.size) = some sz) (hi : i < n)
    (h : wpFreeD E P ops .any W K Q rest (k + 1) (a.put o.dst (.pointer (some ⟨b, off + i * sz, none⟩))) (F.with k (fun _ => True))) : wpFreeD E P ops .any W K Q (o :: rest) k a F := by
  refine wpFreeD_oneW hw (.pointer (some ⟨b, off + i * sz, none⟩)) (fun w _ => ?_) h
  cases hq : P.info? e with
  | none => simp [hq] at hs
  | some inf =>
    have hz : inf.size = sz := by simpa [hq] using hs
    have h2 : (i : Int) < (n : Int) := by omega
    simp [execOp, hop, hx, hy, Instr.indexAt, asIntOf, run_underlying hu, sizeOf, typeInfo, hq, hz, h2, hi, Result.andThen, add_none]
end
theorem Row.at_part {w : World} {g : Nat} {t : TypeId} {cs : Array Value} (R : Row w g t cs) {f : Nat} {ds : List Value} (hp : ∀ j, j < ds.length → cs[f + j]? = ds[j]?) : ∀ (j : Nat) (v : Value), ds[j]? = some v → w.cell? ((⟨g, f, none⟩ : Addr).add j) = some v := fun j v hv => by
  rw [add_none, R.cell?, hp j (List.getElem?_eq_some_iff.1 hv).1, hv]
theorem CD.RdN.mono {w : World} {B B' : Nat} (hB : B ≤ B') : ∀ {c : CD} {v : Value}, c.RdN w B v → c.RdN w B' v := by
  intro c
  induction c with
  | sl wd n x ih =>
    intro v h
    rcases h with h | ⟨b, o, cap, h1, h2, h3, h4⟩
    · exact .inl h
    · exact .inr ⟨b, o, cap, h1, h2, h3, fun i hi => by obtain ⟨h5, u, h6, h7⟩ := h4 i hi; exact ⟨by omega, u, h6, ih i h7⟩⟩
  | _ => intro v h; exact h
theorem bool_ft (b : Bool) : b = false ∨ b = true := by cases b <;> simp
/-- A slice of floats, as a tree. -/
def slT (x : Nat → Nat) (n : Nat) : CD := .sl 1 n (fun i => .fcn .f32 (x i))
theorem slT_rds {x : Nat → Nat} {n B : Nat} {w : World} {s : Value} (h : (slT x n).RdN w B s) : RdS w B s x n := h.rd.rds
theorem CD.RdN.congr {w : World} {B : Nat} : ∀ {c d : CD} {v : Value}, c.RdN w B v → c.Eqv d → d.RdN w B v := by
  intro c
  induction c with
  | sl wd n x ih =>
    intro d v h he
    obtain ⟨y, rfl, hy⟩ := he
    rcases h with h | ⟨b, o, cap, h1, h2, h3, h4⟩
    · exact .inl h
    · exact .inr ⟨b, o, cap, h1, h2, h3, fun i hi => by obtain ⟨h5, u, h6, h7⟩ := h4 i hi; exact ⟨h5, u, h6, ih i h7 (hy i hi)⟩⟩
  | _ => intro d v h he; cases he; exact h
/-- A copy of a slice of floats. -/
theorem slT_cp {n : Nat} {x : Nat → CD} (h : ∀ i, i < n → (x i).flk = some .f32) : (CD.sl 1 n x).cp.Eqv (slT (fun i => (x i).fx) n) :=
  ⟨_, rfl, fun i hi => by show (x i).cn.Eqv (.fcn .f32 (x i).fx); rw [CD.cn_fl (h i (by simpa using hi))]; exact CD.Eqv.refl _⟩
/-- Two rings. -/
def rg2 (x y : Nat → Nat) (nx ny : Nat) (j k : Int) : Nat → CD
  | 0 => slT x nx
  | 1 => .int .i64 j
  | 2 => slT y ny
  | _ => .int .i64 k
theorem rg2_ok (x y : Nat → Nat) (nx ny : Nat) (j k : Int) : RgsOk (rg2 x y nx ny j k) 2 := fun i hi => by
  match i, hi with
  | 0, _ => exact ⟨⟨_, rfl, fun _ _ => rfl, rfl⟩, rfl⟩
  | 1, _ => exact ⟨⟨_, rfl, fun _ _ => rfl, rfl⟩, rfl⟩
def rngB (x : Nat → Nat) (n : Nat) (j : Int) : Bool := okRing n j && finB x n
theorem rg2_all (x y : Nat → Nat) (nx ny : Nat) (j k : Int) : allB (rgOk (rg2 x y nx ny j k)) 2 = (rngB x nx j && rngB y ny k) := by
  simp [allB, List.range_succ]; rfl
theorem rg2_rd {x y : Nat → Nat} {nx ny B b : Nat} {j k : Int} {w : World} {s t : Value} {ty : TypeId} (hs : (slT x nx).RdN w B s) (ht : (slT y ny).RdN w B t) (wj : (Lit.int .i64 j).wf = true) (wk : (Lit.int .i64 k).wf = true) (R : Row w b ty #[s, .int .i64 j, t, .int .i64 k]) :
    (CD.sl 2 2 (rg2 x y nx ny j k)).RdN w (max B (b + 1)) (.slice (some ⟨b, 0, none⟩) 2 2) := by
  refine .inr ⟨b, 0, 2, rfl, Nat.le_refl _, by decide, fun i hi => ⟨by omega, ?_⟩⟩
  match i, hi with
  | 0, _ => exact ⟨s, R.cell? 0, hs.mono (by omega)⟩
  | 1, _ => exact ⟨_, R.cell? 1, rfl, wj⟩
  | 2, _ => exact ⟨t, R.cell? 2, ht.mono (by omega)⟩
  | 3, _ => exact ⟨_, R.cell? 3, rfl, wk⟩
/-- Two numbers. -/
def two (m o : Nat) : Nat → Nat := fun i => match i with | 0 => can .f32 m | _ => can .f32 o
theorem fin_two (m o : Nat) : finB (two m o) 2 = (fin m && fin o) := by
  have e : ∀ z, fin (can .f32 z) = fin z := fun z => fin_can (can_can _ _)
  simp [finB, two, List.range_succ, e]
theorem two_rd {m o b : Nat} {w : World} {ty : TypeId} (hm : fits .f32 m) (ho : fits .f32 o) (R : Row w b ty #[.float .f32 m, .float .f32 o]) : RdS w (b + 1) (.slice (some ⟨b, 0, none⟩) 2 2) (two m o) 2 :=
  .inr ⟨⟨b, 0, none⟩, 2, rfl, Nat.le_refl _, by decide, fun i hi => ⟨Nat.lt_succ_self _, by rw [add_none, Nat.zero_add]; match i, hi with
    | 0, _ => exact ⟨m, R.cell? 0, hm, rfl⟩
    | 1, _ => exact ⟨o, R.cell? 1, ho, rfl⟩⟩⟩
/-- A new row that is known. -/
def OutSl (t : TypeId) (n : Nat) (cs : Array Value) (w : World) (e : Ending) (w' : World) : Prop := ∃ g, e = .returned (.slice (some ⟨g, 0, none⟩) n n) ∧ w.heap.size ≤ g ∧ Row w' g t cs ∧ le w w'
theorem Frg.rowS {w0 w w' : World} {L : List Fact} (h : Frg w0 w L) (k : Below w.heap.size w w') {g : Nat} {t : TypeId} {cs : Array Value} (hg : w.heap.size ≤ g) (hr : Row w' g t cs) : Frg w0 w' (rowF g t cs :: L) :=
  h.push k hr hg hr.lt
end Go.Fk

/- The laws' helpers for Event, over trees of data. -/
namespace Go.Proofs.Ytkcpdddmabkkgaa
open Go.RowKit Go.Fk
set_option maxRecDepth 100000 in
set_option maxHeartbeats 4000000 in
theorem eqU_Event (B B' : Nat) (cs : List CD) (vs vs' : List Value) (w : World) (h : RdL w B cs vs) (h' : RdL w B' cs vs') (hsh : ShOkL shEvent cs) (hz : szL cs ≤ 1048576) :
    Calls Try.prog 48 #[.agg vs.toArray, .agg vs'.toArray] w (OutT w) := by
  obtain ⟨c0, cs, rfl, q0, hsh⟩ := hsh.inv
  obtain ⟨c1, cs, rfl, q1, hsh⟩ := hsh.inv
  obtain ⟨c2, cs, rfl, q2, hsh⟩ := hsh.inv
  obtain ⟨c3, cs, rfl, q3, hsh⟩ := hsh.inv
  obtain ⟨c4, cs, rfl, q4, hsh⟩ := hsh.inv
  obtain ⟨c5, cs, rfl, q5, hsh⟩ := hsh.inv
  obtain rfl := hsh.inv0
  obtain ⟨v0, vs, rfl, r0, h⟩ := h.inv
  obtain ⟨v1, vs, rfl, r1, h⟩ := h.inv
  obtain ⟨v2, vs, rfl, r2, h⟩ := h.inv
  obtain ⟨v3, vs, rfl, r3, h⟩ := h.inv
  obtain ⟨v4, vs, rfl, r4, h⟩ := h.inv
  obtain ⟨v5, vs, rfl, r5, h⟩ := h.inv
  obtain rfl := h.inv0
  obtain ⟨v0', vs', rfl, r0', h'⟩ := h'.inv
  obtain ⟨v1', vs', rfl, r1', h'⟩ := h'.inv
  obtain ⟨v2', vs', rfl, r2', h'⟩ := h'.inv
  obtain ⟨v3', vs', rfl, r3', h'⟩ := h'.inv
  obtain ⟨v4', vs', rfl, r4', h'⟩ := h'.inv
  obtain ⟨v5', vs', rfl, r5', h'⟩ := h'.inv
  obtain rfl := h'.inv0
  obtain ⟨z0, rfl⟩ := q0
  obtain ⟨rfl, wf0⟩ := r0
  obtain ⟨rfl, wf0'⟩ := r0'
  obtain ⟨z1, rfl⟩ := q1
  obtain ⟨rfl, wf1⟩ := r1
  obtain ⟨rfl, wf1'⟩ := r1'
  obtain ⟨z2, rfl⟩ := q2
  obtain ⟨rfl, wf2⟩ := r2
  obtain ⟨rfl, wf2'⟩ := r2'
  obtain ⟨z3, rfl⟩ := q3
  obtain ⟨rfl, wf3⟩ := r3
  obtain ⟨rfl, wf3'⟩ := r3'
  obtain ⟨z4, rfl⟩ := q4
  obtain ⟨rfl, wf4⟩ := r4
  obtain ⟨rfl, wf4'⟩ := r4'
  have q5 : c5.flk = some .f32 := q5
  obtain ⟨y5, rfl, f5, e5⟩ := r5.fl q5
  obtain ⟨y5', rfl, f5', e5'⟩ := r5'.fl q5
  have HZ := hid hz
  have E5 := hid (e5.trans e5'.symm)
  have F := ((Frg.nil w).box 79 #[.int .i64 z0, .int .i64 z1, .int .i64 z2, .int .i64 z3, .int .i64 z4, .float .f32 y5]).box 79 #[.int .i64 z0, .int .i64 z1, .int .i64 z2, .int .i64 z3, .int .i64 z4, .float .f32 y5']
  simp only [World.size_alloc] at F
  clear hz HZ
  go_enter Try.func48, Try.ntmps48
  go_wp2_with (first | ((with_reducible refine listN F ?_); clear F; intro wN F) | ((with_reducible refine at_load rfl ?_); first | (with_reducible refine wpList_load1 F rfl rfl rfl (by first | exact m0 | exact m1) (f := 0) (v := .int .i64 z0) rfl ukindInt64 ?_) | (with_reducible refine wpList_load1 F rfl rfl rfl (by first | exact m0 | exact m1) (f := 1) (v := .int .i64 z1) rfl ukindInt64 ?_) | (with_reducible refine wpList_load1 F rfl rfl rfl (by first | exact m0 | exact m1) (f := 2) (v := .int .i64 z2) rfl ukindInt64 ?_) | (with_reducible refine wpList_load1 F rfl rfl rfl (by first | exact m0 | exact m1) (f := 3) (v := .int .i64 z3) rfl ukindInt64 ?_) | (with_reducible refine wpList_load1 F rfl rfl rfl (by first | exact m0 | exact m1) (f := 4) (v := .int .i64 z4) rfl ukindInt64 ?_) | (with_reducible refine wpList_load1 F rfl rfl rfl (by first | exact m0 | exact m1) (f := 5) (v := .float .f32 y5) rfl ukindFloat32 ?_) | (with_reducible refine wpList_load1 F rfl rfl rfl (by first | exact m0 | exact m1) (f := 0) (v := .int .i64 z0) rfl ukindInt64 ?_) | (with_reducible refine wpList_load1 F rfl rfl rfl (by first | exact m0 | exact m1) (f := 1) (v := .int .i64 z1) rfl ukindInt64 ?_) | (with_reducible refine wpList_load1 F rfl rfl rfl (by first | exact m0 | exact m1) (f := 2) (v := .int .i64 z2) rfl ukindInt64 ?_) | (with_reducible refine wpList_load1 F rfl rfl rfl (by first | exact m0 | exact m1) (f := 3) (v := .int .i64 z3) rfl ukindInt64 ?_) | (with_reducible refine wpList_load1 F rfl rfl rfl (by first | exact m0 | exact m1) (f := 4) (v := .int .i64 z4) rfl ukindInt64 ?_) | (with_reducible refine wpList_load1 F rfl rfl rfl (by first | exact m0 | exact m1) (f := 5) (v := .float .f32 y5') rfl ukindFloat32 ?_)) | ((with_reducible refine at_convert rfl ?_); (with_reducible refine wpList_widen rfl rfl rfl Try.underlying22 Try.underlying64 ?_; intro s1 n1 h1 f1)) | (go_at_call 26; ((with_reducible refine (sameFloat_yes _ _ _ (by first | exact (Hid.out ‹Hid (can .f64 _ = can .f64 (widen y5))›).trans ((congrArg (can .f64) (widen_congr E5.out)).trans (Hid.out ‹Hid (can .f64 _ = can .f64 (widen y5'))›).symm))).mono ?_); rintro e w7 ⟨rfl, dq7, rfl⟩; skip)))
  go_ret
  first | exact ⟨rfl, F.below⟩ | exact ⟨rfl, below_drewN F.below _⟩
set_option maxRecDepth 100000 in
set_option maxHeartbeats 4000000 in
theorem toU_Event (B : Nat) (cs : List CD) (vs : List Value) (w : World) (h : RdL w B cs vs) (hsh : ShOkL shEvent cs) (hz : szL cs ≤ 1048576) :
    Calls Try.prog 37 #[.agg vs.toArray] w (OutA' (cs.map CD.cp) w) := by
  obtain ⟨c0, cs, rfl, q0, hsh⟩ := hsh.inv
  obtain ⟨c1, cs, rfl, q1, hsh⟩ := hsh.inv
  obtain ⟨c2, cs, rfl, q2, hsh⟩ := hsh.inv
  obtain ⟨c3, cs, rfl, q3, hsh⟩ := hsh.inv
  obtain ⟨c4, cs, rfl, q4, hsh⟩ := hsh.inv
  obtain ⟨c5, cs, rfl, q5, hsh⟩ := hsh.inv
  obtain rfl := hsh.inv0
  obtain ⟨v0, vs, rfl, r0, h⟩ := h.inv
  obtain ⟨v1, vs, rfl, r1, h⟩ := h.inv
  obtain ⟨v2, vs, rfl, r2, h⟩ := h.inv
  obtain ⟨v3, vs, rfl, r3, h⟩ := h.inv
  obtain ⟨v4, vs, rfl, r4, h⟩ := h.inv
  obtain ⟨v5, vs, rfl, r5, h⟩ := h.inv
  obtain rfl := h.inv0
  obtain ⟨z0, rfl⟩ := q0
  obtain ⟨rfl, wf0⟩ := r0
  obtain ⟨z1, rfl⟩ := q1
  obtain ⟨rfl, wf1⟩ := r1
  obtain ⟨z2, rfl⟩ := q2
  obtain ⟨rfl, wf2⟩ := r2
  obtain ⟨z3, rfl⟩ := q3
  obtain ⟨rfl, wf3⟩ := r3
  obtain ⟨z4, rfl⟩ := q4
  obtain ⟨rfl, wf4⟩ := r4
  have q5 : c5.flk = some .f32 := q5
  obtain ⟨y5, rfl, f5, e5⟩ := r5.fl q5
  have HZ := hid hz
  have F := (((Frg.nil w).box 81 #[.int .i64 z0, .int .i64 z1, .int .i64 z2, .int .i64 z3, .int .i64 z4, .float .f32 y5]).box 79 #[.int .i64 0, .int .i64 0, .int .i64 0, .int .i64 0, .int .i64 0, .float .f32 0]).box 79 #[.int .i64 0, .int .i64 0, .int .i64 0, .int .i64 0, .int .i64 0, .float .f32 0]
  simp only [World.size_alloc] at F
  clear hz HZ
  go_enter Try.func37, Try.ntmps37
  go_wp2_with (first | ((with_reducible refine listN F ?_); clear F; intro wN F) | ((with_reducible refine at_load rfl ?_); first | (with_reducible refine wpList_load1 F rfl rfl rfl (by first | exact m0 | exact m1 | exact m2 | exact m3) (f := 0) (v := .int .i64 z0) rfl ukindInt64 ?_) | (with_reducible refine wpList_load1 F rfl rfl rfl (by first | exact m0 | exact m1 | exact m2 | exact m3) (f := 1) (v := .int .i64 z1) rfl ukindInt64 ?_) | (with_reducible refine wpList_load1 F rfl rfl rfl (by first | exact m0 | exact m1 | exact m2 | exact m3) (f := 2) (v := .int .i64 z2) rfl ukindInt64 ?_) | (with_reducible refine wpList_load1 F rfl rfl rfl (by first | exact m0 | exact m1 | exact m2 | exact m3) (f := 3) (v := .int .i64 z3) rfl ukindInt64 ?_) | (with_reducible refine wpList_load1 F rfl rfl rfl (by first | exact m0 | exact m1 | exact m2 | exact m3) (f := 4) (v := .int .i64 z4) rfl ukindInt64 ?_) | (with_reducible refine wpList_load1 F rfl rfl rfl (by first | exact m0 | exact m1 | exact m2 | exact m3) (f := 5) (v := .float .f32 y5) rfl ukindFloat32 ?_)) | (with_reducible refine stop_store rfl ?_))
  show wpList _ _ _ _ _ _
  refine wpList_store1 rfl rfl (f := 0) rfl rfl (F.row m0) uinfo1Int64 (by simp) rfl #[.int .i64 z0, .int .i64 0, .int .i64 0, .int .i64 0, .int .i64 0, .float .f32 0] rfl (fun w2 K => ?_)
  replace F := F.wrI0 (cs' := #[.int .i64 z0, .int .i64 0, .int .i64 0, .int .i64 0, .int .i64 0, .float .f32 0]) K
  clear K
  go_wp2_with (first | ((with_reducible refine listN F ?_); clear F; intro wN F) | ((with_reducible refine at_load rfl ?_); first | (with_reducible refine wpList_load1 F rfl rfl rfl (by first | exact m0 | exact m1 | exact m2 | exact m3) (f := 0) (v := .int .i64 z0) rfl ukindInt64 ?_) | (with_reducible refine wpList_load1 F rfl rfl rfl (by first | exact m0 | exact m1 | exact m2 | exact m3) (f := 1) (v := .int .i64 z1) rfl ukindInt64 ?_) | (with_reducible refine wpList_load1 F rfl rfl rfl (by first | exact m0 | exact m1 | exact m2 | exact m3) (f := 2) (v := .int .i64 z2) rfl ukindInt64 ?_) | (with_reducible refine wpList_load1 F rfl rfl rfl (by first | exact m0 | exact m1 | exact m2 | exact m3) (f := 3) (v := .int .i64 z3) rfl ukindInt64 ?_) | (with_reducible refine wpList_load1 F rfl rfl rfl (by first | exact m0 | exact m1 | exact m2 | exact m3) (f := 4) (v := .int .i64 z4) rfl ukindInt64 ?_) | (with_reducible refine wpList_load1 F rfl rfl rfl (by first | exact m0 | exact m1 | exact m2 | exact m3) (f := 5) (v := .float .f32 y5) rfl ukindFloat32 ?_)) | (with_reducible refine stop_store rfl ?_))
  show wpList _ _ _ _ _ _
  refine wpList_store1 rfl rfl (f := 1) rfl rfl (F.row m0) uinfo1Int64 (by simp) rfl #[.int .i64 z0, .int .i64 z1, .int .i64 0, .int .i64 0, .int .i64 0, .float .f32 0] rfl (fun w2 K => ?_)
  replace F := F.wrI0 (cs' := #[.int .i64 z0, .int .i64 z1, .int .i64 0, .int .i64 0, .int .i64 0, .float .f32 0]) K
  clear K
  go_wp2_with (first | ((with_reducible refine listN F ?_); clear F; intro wN F) | ((with_reducible refine at_load rfl ?_); first | (with_reducible refine wpList_load1 F rfl rfl rfl (by first | exact m0 | exact m1 | exact m2 | exact m3) (f := 0) (v := .int .i64 z0) rfl ukindInt64 ?_) | (with_reducible refine wpList_load1 F rfl rfl rfl (by first | exact m0 | exact m1 | exact m2 | exact m3) (f := 1) (v := .int .i64 z1) rfl ukindInt64 ?_) | (with_reducible refine wpList_load1 F rfl rfl rfl (by first | exact m0 | exact m1 | exact m2 | exact m3) (f := 2) (v := .int .i64 z2) rfl ukindInt64 ?_) | (with_reducible refine wpList_load1 F rfl rfl rfl (by first | exact m0 | exact m1 | exact m2 | exact m3) (f := 3) (v := .int .i64 z3) rfl ukindInt64 ?_) | (with_reducible refine wpList_load1 F rfl rfl rfl (by first | exact m0 | exact m1 | exact m2 | exact m3) (f := 4) (v := .int .i64 z4) rfl ukindInt64 ?_) | (with_reducible refine wpList_load1 F rfl rfl rfl (by first | exact m0 | exact m1 | exact m2 | exact m3) (f := 5) (v := .float .f32 y5) rfl ukindFloat32 ?_)) | (with_reducible refine stop_store rfl ?_))
  show wpList _ _ _ _ _ _
  refine wpList_store1 rfl rfl (f := 2) rfl rfl (F.row m0) uinfo1Int64 (by simp) rfl #[.int .i64 z0, .int .i64 z1, .int .i64 z2, .int .i64 0, .int .i64 0, .float .f32 0] rfl (fun w2 K => ?_)
  replace F := F.wrI0 (cs' := #[.int .i64 z0, .int .i64 z1, .int .i64 z2, .int .i64 0, .int .i64 0, .float .f32 0]) K
  clear K
  go_wp2_with (first | ((with_reducible refine listN F ?_); clear F; intro wN F) | ((with_reducible refine at_load rfl ?_); first | (with_reducible refine wpList_load1 F rfl rfl rfl (by first | exact m0 | exact m1 | exact m2 | exact m3) (f := 0) (v := .int .i64 z0) rfl ukindInt64 ?_) | (with_reducible refine wpList_load1 F rfl rfl rfl (by first | exact m0 | exact m1 | exact m2 | exact m3) (f := 1) (v := .int .i64 z1) rfl ukindInt64 ?_) | (with_reducible refine wpList_load1 F rfl rfl rfl (by first | exact m0 | exact m1 | exact m2 | exact m3) (f := 2) (v := .int .i64 z2) rfl ukindInt64 ?_) | (with_reducible refine wpList_load1 F rfl rfl rfl (by first | exact m0 | exact m1 | exact m2 | exact m3) (f := 3) (v := .int .i64 z3) rfl ukindInt64 ?_) | (with_reducible refine wpList_load1 F rfl rfl rfl (by first | exact m0 | exact m1 | exact m2 | exact m3) (f := 4) (v := .int .i64 z4) rfl ukindInt64 ?_) | (with_reducible refine wpList_load1 F rfl rfl rfl (by first | exact m0 | exact m1 | exact m2 | exact m3) (f := 5) (v := .float .f32 y5) rfl ukindFloat32 ?_)) | (with_reducible refine stop_store rfl ?_))
  show wpList _ _ _ _ _ _
  refine wpList_store1 rfl rfl (f := 3) rfl rfl (F.row m0) uinfo1Int64 (by simp) rfl #[.int .i64 z0, .int .i64 z1, .int .i64 z2, .int .i64 z3, .int .i64 0, .float .f32 0] rfl (fun w2 K => ?_)
  replace F := F.wrI0 (cs' := #[.int .i64 z0, .int .i64 z1, .int .i64 z2, .int .i64 z3, .int .i64 0, .float .f32 0]) K
  clear K
  go_wp2_with (first | ((with_reducible refine listN F ?_); clear F; intro wN F) | ((with_reducible refine at_load rfl ?_); first | (with_reducible refine wpList_load1 F rfl rfl rfl (by first | exact m0 | exact m1 | exact m2 | exact m3) (f := 0) (v := .int .i64 z0) rfl ukindInt64 ?_) | (with_reducible refine wpList_load1 F rfl rfl rfl (by first | exact m0 | exact m1 | exact m2 | exact m3) (f := 1) (v := .int .i64 z1) rfl ukindInt64 ?_) | (with_reducible refine wpList_load1 F rfl rfl rfl (by first | exact m0 | exact m1 | exact m2 | exact m3) (f := 2) (v := .int .i64 z2) rfl ukindInt64 ?_) | (with_reducible refine wpList_load1 F rfl rfl rfl (by first | exact m0 | exact m1 | exact m2 | exact m3) (f := 3) (v := .int .i64 z3) rfl ukindInt64 ?_) | (with_reducible refine wpList_load1 F rfl rfl rfl (by first | exact m0 | exact m1 | exact m2 | exact m3) (f := 4) (v := .int .i64 z4) rfl ukindInt64 ?_) | (with_reducible refine wpList_load1 F rfl rfl rfl (by first | exact m0 | exact m1 | exact m2 | exact m3) (f := 5) (v := .float .f32 y5) rfl ukindFloat32 ?_)) | (with_reducible refine stop_store rfl ?_))
  show wpList _ _ _ _ _ _
  refine wpList_store1 rfl rfl (f := 4) rfl rfl (F.row m0) uinfo1Int64 (by simp) rfl #[.int .i64 z0, .int .i64 z1, .int .i64 z2, .int .i64 z3, .int .i64 z4, .float .f32 0] rfl (fun w2 K => ?_)
  replace F := F.wrI0 (cs' := #[.int .i64 z0, .int .i64 z1, .int .i64 z2, .int .i64 z3, .int .i64 z4, .float .f32 0]) K
  clear K
  go_wp2_with (first | ((with_reducible refine listN F ?_); clear F; intro wN F) | ((with_reducible refine at_load rfl ?_); first | (with_reducible refine wpList_load1 F rfl rfl rfl (by first | exact m0 | exact m1 | exact m2 | exact m3) (f := 0) (v := .int .i64 z0) rfl ukindInt64 ?_) | (with_reducible refine wpList_load1 F rfl rfl rfl (by first | exact m0 | exact m1 | exact m2 | exact m3) (f := 1) (v := .int .i64 z1) rfl ukindInt64 ?_) | (with_reducible refine wpList_load1 F rfl rfl rfl (by first | exact m0 | exact m1 | exact m2 | exact m3) (f := 2) (v := .int .i64 z2) rfl ukindInt64 ?_) | (with_reducible refine wpList_load1 F rfl rfl rfl (by first | exact m0 | exact m1 | exact m2 | exact m3) (f := 3) (v := .int .i64 z3) rfl ukindInt64 ?_) | (with_reducible refine wpList_load1 F rfl rfl rfl (by first | exact m0 | exact m1 | exact m2 | exact m3) (f := 4) (v := .int .i64 z4) rfl ukindInt64 ?_) | (with_reducible refine wpList_load1 F rfl rfl rfl (by first | exact m0 | exact m1 | exact m2 | exact m3) (f := 5) (v := .float .f32 y5) rfl ukindFloat32 ?_)) | (with_reducible refine stop_store rfl ?_))
  show wpList _ _ _ _ _ _
  refine wpList_store1 rfl rfl (f := 5) rfl rfl (F.row m0) uinfo1Float32 (by simp) rfl #[.int .i64 z0, .int .i64 z1, .int .i64 z2, .int .i64 z3, .int .i64 z4, .float .f32 y5] rfl (fun w2 K => ?_)
  replace F := F.wrI0 (cs' := #[.int .i64 z0, .int .i64 z1, .int .i64 z2, .int .i64 z3, .int .i64 z4, .float .f32 y5]) K
  clear K
  go_wp2_with (first | ((with_reducible refine listN F ?_); clear F; intro wN F) | ((with_reducible refine at_load rfl ?_); (with_reducible refine wpList_loadG F rfl rfl rfl (by first | exact m0) Try.underlying79 rfl uinfoEventI rfl ?_)) | (with_reducible refine stop_store rfl ?_))
  show wpList _ _ _ _ _ _
  refine wpList_storeD rfl rfl rfl (cells := #[.int .i64 z0, .int .i64 z1, .int .i64 z2, .int .i64 z3, .int .i64 z4, .float .f32 y5]) rfl (F.row m1) uinfoEventI rfl (by (simp only [List.all_toArray', List.all_cons, List.all_nil, Bool.and_true, Bool.true_and]) <;> rfl) (fun w6 K => ?_)
  have R := hid K.row
  replace F := F.wrI1 K
  have E0 := Eaten.start F
  replace E0 := Eaten.leaf (c := CD.cp c5) (v := .float .f32 y5) E0 (r5.leafLay (flk_ne q5))
  replace E0 := Eaten.leaf (c := .int .i64 z4) (v := .int .i64 z4) E0 (show CD.Lay _ _ _ _ from ⟨rfl, wf4⟩)
  replace E0 := Eaten.leaf (c := .int .i64 z3) (v := .int .i64 z3) E0 (show CD.Lay _ _ _ _ from ⟨rfl, wf3⟩)
  replace E0 := Eaten.leaf (c := .int .i64 z2) (v := .int .i64 z2) E0 (show CD.Lay _ _ _ _ from ⟨rfl, wf2⟩)
  replace E0 := Eaten.leaf (c := .int .i64 z1) (v := .int .i64 z1) E0 (show CD.Lay _ _ _ _ from ⟨rfl, wf1⟩)
  replace E0 := Eaten.leaf (c := .int .i64 z0) (v := .int .i64 z0) E0 (show CD.Lay _ _ _ _ from ⟨rfl, wf0⟩)
  have L := hid (show LayL _ _ _ _ ∧ le w _ from ⟨E0.fin, F.below⟩)
  clear K F E0
  go_wp2
  exact bodyPost_ret (results_row1 rfl _ _ _ _ _ rfl R.out Try.underlying79 rfl uinfoEventI) rfl ⟨[.int .i64 z0, .int .i64 z1, .int .i64 z2, .int .i64 z3, .int .i64 z4, .float .f32 y5], rfl, L.out.1, L.out.2⟩
end Go.Proofs.Ytkcpdddmabkkgaa

/- The laws' helpers for []Event, over trees of data. -/
namespace Go.Proofs.Ytkcpdddmabkkgaa
open Go.RowKit Go.Fk
theorem sz_elEvent (x : Nat → CD) (k : Nat) : sumTo (fun i => (x i).sz) ((k + 1) * 6) = sumTo (fun i => (x i).sz) (k * 6) + szL ((List.range 6).map (fun j => x (k * 6 + j))) := by
  rw [Nat.succ_mul, sumTo_add]; (simp [szL, sumTo, List.range_succ, List.sum_append]) <;> omega
theorem sz_atEvent {n : Nat} (x : Nat → CD) (k : Nat) (hk : k < n) : sumTo (fun i => (x i).sz) (k * 6) + szL ((List.range 6).map (fun j => x (k * 6 + j))) ≤ sumTo (fun i => (x i).sz) (n * 6) := by
  rw [← sz_elEvent]; exact sumTo_le _ (Nat.mul_le_mul_right _ hk)
theorem sz_zEvent {n : Nat} {x : Nat → CD} (hsh : ∀ i, i < n → ∀ j, j < 6 → ShOk (shEvent.getD j .bool) (x (i * 6 + j))) : CD.sz (CD.sl 6 n x) = n := by
  have h0 : ∀ i, i < n * 6 → (x i).sz = 0 := fun i hi => by
    have hq : i / 6 < n := Nat.div_lt_of_lt_mul (by rwa [Nat.mul_comm] at hi)
    have hr : i % 6 < 6 := Nat.mod_lt _ (by decide)
    have h := hsh _ hq _ hr
    rw [show i / 6 * 6 + i % 6 = i by rw [Nat.mul_comm]; exact Nat.div_add_mod i 6] at h
    generalize i % 6 = j at h hr
    match j, hr, h with
    | 0, _, h => obtain ⟨z, e⟩ := h; rw [e]; rfl
    | 1, _, h => obtain ⟨z, e⟩ := h; rw [e]; rfl
    | 2, _, h => obtain ⟨z, e⟩ := h; rw [e]; rfl
    | 3, _, h => obtain ⟨z, e⟩ := h; rw [e]; rfl
    | 4, _, h => obtain ⟨z, e⟩ := h; rw [e]; rfl
    | 5, _, h => exact CD.sz_fl (show (x i).flk = some .f32 from h)
  simp only [CD.sz]
  rw [sumTo_zero h0, Nat.add_zero]
set_option maxRecDepth 100000 in
set_option maxHeartbeats 4000000 in
theorem szU_EventS (B n : Nat) (x : Nat → CD) (s : Value) (m r : Int) (w : World) (h : (CD.sl 6 n x).Rd w B s) (hsh : ∀ i, i < n → ∀ j, j < 6 → ShOk (shEvent.getD j .bool) (x (i * 6 + j))) (h0 : 0 ≤ m) (h1 : m ≤ 1048576) (hr : lessBy m (CD.sz (CD.sl 6 n x)) = r) :
    Calls Try.prog 16 #[s, .int .i64 m] w (OutI r w) := by
  rw [sz_zEvent hsh] at hr
  have hsm := h.small
  have hrd := hid h
  have hr := hid hr
  clear h hsh
  by_cases g : m - (n : Int) < 0
  · have er : r = -1 := by rw [← hr.out]; exact lessBy_neg g
    subst er
    clear hr
    go_enter Try.func16, Try.ntmps16
    go_wp2_with ((with_reducible refine wpList_lenC rfl rfl rfl Try.underlying27 hrd.out ?_))
    go_ret
    exact ⟨rfl, le_refl _⟩
  · have er : r = m - (n : Int) := by rw [← hr.out]; exact lessBy_pos g
    subst er
    clear hr
    go_enter Try.func16, Try.ntmps16
    go_wp2_with ((with_reducible refine wpList_lenC rfl rfl rfl Try.underlying27 hrd.out ?_))
    go_ret
    exact ⟨rfl, le_refl _⟩
set_option maxRecDepth 100000 in
set_option maxHeartbeats 4000000 in
theorem toU_EventS (B n : Nat) (x : Nat → CD) (s : Value) (w : World) (h : (CD.sl 6 n x).Rd w B s) (hsh : ∀ i, i < n → ∀ j, j < 6 → ShOk (shEvent.getD j .bool) (x (i * 6 + j))) (hz : CD.sz (CD.sl 6 n x) ≤ 1048576) :
    Calls Try.prog 21 #[s] w (OutC (CD.sl 6 n x).cp w) := by
  simp only [CD.sz] at hz
  have hn : n ≤ 1048576 := by omega
  obtain ⟨cs0, hcs, HM⟩ := makeW_Event n hn
  have HP0 : Hid (Part (w.alloc (.cells cs0 79)) w.heap.size 79 6 n 0 (fun i => (x i).cn)) := Part.zero (Row.new w _ _) hcs
  have HL0 := hid (le_alloc w (.cells cs0 79))
  rcases h.form with ⟨rfl, rfl⟩ | ⟨a, cap, rfl, hc, hm⟩
  · simp only [Int.natCast_zero] at HM
    clear h hsh hz hcs
    go_enter Try.func21, Try.ntmps21
    go_wp2
    go_loopw [4] (fun i wr => i = .int .i64 0 ∧ wr = w.alloc (.cells cs0 79)) (fun i _ => 0)
    case atStart => exact ⟨rfl, rfl⟩
    case round =>
      obtain ⟨rfl, rfl⟩ := hrel
      go_wp2
      go_ret
      exact ⟨_, rfl, HP0.out.full (by decide) (fun j h1 h2 => ⟨h1, h2⟩), HL0.out⟩
  · have HE := hid (fun k (hk : k < n) => h.elem hk)
    have HQ := hid hsh
    have HZ := hid hz
    unfold maxLen at hm
    clear h hsh hz hcs
    go_enter Try.func21, Try.ntmps21
    go_wp2
    go_loopw [4] (fun i wr => ∃ k : Nat, k ≤ n ∧ i = .int .i64 k ∧ Hid (Part wr w.heap.size 79 6 n k (fun i => (x i).cn)) ∧ Hid (le w wr)) (fun i _ => n - (intOf i).toNat)
    case atStart => exact ⟨0, by omega, rfl, HP0.out, HL0.out⟩
    case round =>
      obtain ⟨k, hk, rfl, HP, HL⟩ := hrel
      rename_i wr _
      by_cases hlt : k < n
      · obtain ⟨vs, hvl, hvc, hvr⟩ := HE.out k hlt
        have hat := sz_atEvent x k hlt
        have hvc' := hid (fun j v (hv : vs[j]? = some v) => (Below.cell HL.out (cell_lt' (hvc j v hv))).trans (hvc j v hv))
        have HT := hid (fun (w' : World) (hl : le wr w') => toU_Event B _ vs w' (hvr.le (le_trans HL.out hl)) (ShOk.elem (l := shEvent) HQ.out hlt) (by have := HZ.out; omega))
        have hvl := hid hvl
        clear hvc hvr hat
        go_wp2_with (first | (with_reducible refine wpList_indexW0 rfl rfl rfl rfl Try.underlying36 uinfoEventI hlt ?_) | (with_reducible refine wpList_indexW rfl rfl rfl rfl Try.underlying27 uinfoEventL hlt ?_) | ((with_reducible refine at_load rfl ?_); (with_reducible refine wpList_loadW rfl rfl rfl vs hvc'.out Try.underlying81 rfl uinfoEventL hvl.out ?_)) | (go_at_call 37; ((with_reducible refine (HT.out _ (le_refl _)).mono ?_); rintro e w1 ⟨us, rfl, ho, hl⟩; have HO := hid ho; have HL1 := hid hl; clear ho hl)) | (with_reducible refine stop_store rfl ?_))
        show wpList _ _ _ _ _ _
        obtain ⟨cs1, hr1, hs1⟩ := HP.out.row
        have hul : us.length = 6 := by have := HO.out.1; simpa using this
        have hend : k * 6 + 6 ≤ n * 6 := by rw [← Nat.succ_mul]; exact Nat.mul_le_mul_right _ hlt
        refine wpList_storeP rfl rfl rfl (f := k * 6) (cells := us) rfl (hr1.le HL1.out) (by rw [hul]; exact uinfoEventI) (by omega) HO.out.all_one (fun w2 K => ?_)
        have HP2 := hid (HP.out.step hlt HL1.out (by have := HO.out.cn; simpa [List.map_map, Function.comp_def] using this) (hr1.le HL1.out) K)
        have HL2 := hid (K.below _ _ (le_trans HL.out HL1.out) (Nat.le_refl _))
        clear K hr1 hs1 hul hend
        go_wp2
        go_roundw
        case rel => exact ⟨k + 1, by omega, by go_num, HP2.out, HL2.out⟩
        case measure => simp [intOf]; omega
      · obtain rfl : k = n := by omega
        go_wp2
        go_ret
        exact ⟨_, rfl, HP.out.full (by unfold maxLen; omega) (fun j h1 h2 => ⟨h1, h2⟩), HL.out⟩
set_option maxRecDepth 100000 in
set_option maxHeartbeats 4000000 in
theorem eqU_EventS (B B' n : Nat) (x : Nat → CD) (s s' : Value) (w : World) (h : (CD.sl 6 n x).Rd w B s) (h' : (CD.sl 6 n x).Rd w B' s') (hsh : ∀ i, i < n → ∀ j, j < 6 → ShOk (shEvent.getD j .bool) (x (i * 6 + j))) (hz : CD.sz (CD.sl 6 n x) ≤ 1048576) :
    Calls Try.prog 29 #[s, s'] w (OutT w) := by
  have hzz := hid hz
  simp only [CD.sz] at hz
  by_cases h0 : n = 0
  · have hrd := hid h; have hrd' := hid h'
    subst h0
    clear h h' hz hzz hsh
    go_enter Try.func29, Try.ntmps29
    go_wp2_with (first | (with_reducible refine wpList_lenC rfl rfl rfl Try.underlying36 hrd.out ?_) | (with_reducible refine wpList_lenC rfl rfl rfl Try.underlying36 hrd'.out ?_))
    go_loop [5] (fun i => i = .int .i64 0) (fun _ => 0)
    case atStart => rfl
    case round =>
      obtain rfl := hrel
      go_wp2_with (first | (with_reducible refine wpList_lenC rfl rfl rfl Try.underlying36 hrd.out ?_) | (with_reducible refine wpList_lenC rfl rfl rfl Try.underlying36 hrd'.out ?_))
      go_ret
      exact ⟨rfl, le_refl _⟩
  have HE := hid (fun k (hk : k < n) a cap (e : s = .slice (some a) n cap) => (CD.Rd.elem (w := w) (B := B) (wd := 6) (x := x) (cap := cap) (a := a) (e ▸ h) hk))
  have HE' := hid (fun k (hk : k < n) a cap (e : s' = .slice (some a) n cap) => (CD.Rd.elem (w := w) (B := B') (wd := 6) (x := x) (cap := cap) (a := a) (e ▸ h') hk))
  rcases h.form with ⟨_, e0⟩ | ⟨a, cap, rfl, hc, hm⟩
  · exact absurd e0 h0
  rcases h'.form with ⟨_, e0⟩ | ⟨a', cap', rfl, hc', hm'⟩
  · exact absurd e0 h0
  have HQ := hid hsh
  unfold maxLen at hm hm'
  clear h h' hsh h0
  go_enter Try.func29, Try.ntmps29
  go_wp2
  go_loopw [5] (fun i wr => ∃ k : Nat, k ≤ n ∧ i = .int .i64 k ∧ Hid (le w wr)) (fun i _ => n - (intOf i).toNat)
  case atStart => exact ⟨0, by omega, rfl, le_refl _⟩
  case round =>
    obtain ⟨k, hk, rfl, HL⟩ := hrel
    rename_i wr _
    by_cases hlt : k < n
    · obtain ⟨vs, hvl, hvc, hvr⟩ := HE.out k hlt a cap rfl
      obtain ⟨vs', hvl', hvc', hvr'⟩ := HE'.out k hlt a' cap' rfl
      have hat := sz_atEvent x k hlt
      have HQE := hid (fun (w' : World) (hl : le wr w') => eqU_Event B B' _ vs vs' w' (hvr.le (le_trans HL.out hl)) (hvr'.le (le_trans HL.out hl)) (ShOk.elem (l := shEvent) HQ.out hlt) (by omega))
      have gvc := hid (fun (w' : World) (hl : le wr w') j v (hv : vs[j]? = some v) => (Below.cell (le_trans HL.out hl) (cell_lt' (hvc j v hv))).trans (hvc j v hv))
      have gvc' := hid (fun (w' : World) (hl : le wr w') j v (hv : vs'[j]? = some v) => (Below.cell (le_trans HL.out hl) (cell_lt' (hvc' j v hv))).trans (hvc' j v hv))
      have hvl := hid hvl; have hvl' := hid hvl'
      clear hvc hvr hvc' hvr' hat
      go_wp2_with fail
      refine region_freeD (E := leX) (fun f args w v => v = .bool true) (by kernel_rfl) (by kernel_rfl) ?_
      refine wpFreeD_one rfl (.slice (some a) n cap) (fun w1 _ => by kernel_rfl) ?_
      simp only [Act.put, List.setIfInBounds_toArray, List.set_cons_succ, List.set_cons_zero]
      refine wpFreeD_one rfl (.int .i64 k) (fun w1 _ => by kernel_rfl) ?_
      simp only [Act.put, List.setIfInBounds_toArray, List.set_cons_succ, List.set_cons_zero]
      refine wpFreeD_indexW rfl rfl rfl rfl Try.underlying36 uinfoEventI hlt ?_
      simp only [Act.put, List.setIfInBounds_toArray, List.set_cons_succ, List.set_cons_zero]
      refine wpFreeD_loadW rfl rfl rfl vs (fun w1 h1 j v hv => gvc.out w1 (le_trans (le_drewN _ _) h1) j v hv) Try.underlying79 rfl uinfoEventI hvl.out ?_
      simp only [Act.put, List.setIfInBounds_toArray, List.set_cons_succ, List.set_cons_zero]
      refine wpFreeD_one rfl (.slice (some a') n cap') (fun w1 _ => by kernel_rfl) ?_
      simp only [Act.put, List.setIfInBounds_toArray, List.set_cons_succ, List.set_cons_zero]
      refine wpFreeD_one rfl (.int .i64 k) (fun w1 _ => by kernel_rfl) ?_
      simp only [Act.put, List.setIfInBounds_toArray, List.set_cons_succ, List.set_cons_zero]
      refine wpFreeD_indexW rfl rfl rfl rfl Try.underlying36 uinfoEventI hlt ?_
      simp only [Act.put, List.setIfInBounds_toArray, List.set_cons_succ, List.set_cons_zero]
      refine wpFreeD_loadW rfl rfl rfl vs' (fun w1 h1 j v hv => gvc'.out w1 (le_trans (le_drewN _ _) h1) j v hv) Try.underlying79 rfl uinfoEventI hvl'.out ?_
      simp only [Act.put, List.setIfInBounds_toArray, List.set_cons_succ, List.set_cons_zero]
      refine wpFreeD_callB rfl rfl Try.func48 (by kernel_rfl) (by kernel_rfl) (args := #[.agg vs.toArray, .agg vs'.toArray]) (by simp [Act.eval]) (fun v w1 w2 hw hv => hv) (fun w1 hw1 _ => (HQE.out w1 (le_trans (le_drewN _ _) hw1)).mono ?_) ?_
      · rintro e w2 ⟨rfl, hl⟩
        exact ⟨_, rfl, hl, rfl⟩
      rintro v ⟨_, _, _, rfl⟩
      simp only [Act.put, List.setIfInBounds_toArray, List.set_cons_succ, List.set_cons_zero]
      refine wpFreeD_one rfl (.bool false) (fun w1 _ => by kernel_rfl) ?_
      simp only [Act.put, List.setIfInBounds_toArray, List.set_cons_succ, List.set_cons_zero]
      refine wpFreeD_nil (fun wR hwR _ => ?_)
      have HL1 := hid (le_trans HL.out (le_trans (le_drewN _ _) hwR))
      clear hwR
      go_wp2
      go_roundw
      case rel => exact ⟨k + 1, by omega, by go_num, HL1.out⟩
      case measure => simp [intOf]; omega
    · obtain rfl : k = n := by omega
      go_wp2
      go_ret
      exact ⟨rfl, HL.out⟩
end Go.Proofs.Ytkcpdddmabkkgaa

/- Events: the closure that compares two, and slices.IsSortedFunc with it. -/
namespace Go.Fk
open Go Go.RowKit
theorem keyE_form (a k n s : Int) : ∃ p q r t : Int, keyE a k n s = [p, q, r, t] := by
  unfold keyE; split
  · exact ⟨_, _, _, _, rfl⟩
  · split <;> exact ⟨_, _, _, _, rfl⟩
section
variable {P : Program} {ops : Array Oper} {W : World} {K : FuncId → Array Value → Nat → World → Value → Prop} {Q : Act → World → Prop} {F : FactsZ} {k : Nat} {o : Oper} {rest : List Oper} {a : Act}
/-- The address of an element of an array behind a pointer. -/
theorem run_indexArr {t : TypeId} {x y : Operand} (hop : o.op = .indexAddr t x y) {g n i : Nat} {kk : IntKind} {e : TypeId} (hx : a.eval x = .pointer (some ⟨g, 0, none⟩)) (hy : a.eval y = .int kk (i : Int)) (hu : P.underlying t = some (.array n e)) (hs : (P.info? e).map (·.size) = some 1) (hi : i < n) (w : World) : (execOp a.eval o).run P w = .ok (.value (.pointer (some ⟨g, i, none⟩))) w := by
  cases hq : P.info? e with
  | none => simp [hq] at hs
  | some inf =>
    have hz : inf.size = 1 := by simpa [hq] using hs
    have h2 : (i : Int) < (n : Int) := by omega
    simp [execOp, hop, hx, hy, Instr.indexAt, asIntOf, run_underlying hu, sizeOf, typeInfo, hq, hz, h2, hi, Result.andThen, add_none, Instr.sureAddr]
/-- A block is made. -/
theorem wpFreeZ_alloc (hg : o.guard = none) {ty : TypeId} (hop : o.op = .alloc ty) (cs : Array Value) (hr : ∀ w, (Instr.alloc ty true (.tuple #[])).run P w = .ok (.pointer (some ⟨w.heap.size, 0, none⟩)) (w.alloc (.cells cs ty)))
    (h : ∀ b, wpFreeZ leX P ops .any W K Q rest (k + 1) (a.put o.dst (.pointer (some ⟨b, 0, none⟩))) (F.with k (fun z w => b = z ∧ W.heap.size ≤ z ∧ Row w z ty cs))) : wpFreeZ leX P ops .any W K Q (o :: rest) k a F := by
  refine ⟨fun z w u => u = .pointer (some ⟨z, 0, none⟩) ∧ W.heap.size ≤ z ∧ Row w z ty cs, ⟨fun z v w w' hw hv => ⟨hv.1, hv.2.1, hv.2.2.le hw⟩, .inl ⟨by simp [Region.wanted, hg], fun w hw _ => ?_⟩⟩, fun u hu => ?_⟩
  · have : (execOp a.eval o).run P w = .ok (.value (.pointer (some ⟨w.heap.size, 0, none⟩))) (w.alloc (.cells cs ty)) := by
      simp [execOp, hop, hr, Result.andThen, inside]
    rw [this]
    exact ⟨le_alloc w _, rfl, hw.size, Row.new w ty cs⟩
  · obtain ⟨z, w, _, rfl, _⟩ := hu.has
    exact wpFreeZ_weaken _ _ _ _ _ (fun e z' w h => ⟨h.1, fun he => ⟨by have := (h.2 he).1; simpa using this, (h.2 he).2⟩⟩) (h z)
end
/-- What 'order' makes of its arguments. -/
def keyA (args : Array Value) : Value := match args.toList with
  | [.agg cs, .int _ s] => (match cs.toList with | [.int _ a, .int _ k, .int _ n, _, _, _] => .agg (intsV (keyE a k n s)).toArray | _ => .bool false)
  | _ => .bool false
end Go.Fk
namespace Go.Proofs.Ytkcpdddmabkkgaa
open Go.RowKit Go.Fk
set_option maxRecDepth 100000 in
set_option maxHeartbeats 4000000 in
theorem i_comparer (a k i y a' k' i' y' : Int) (n n' f f' bx : Nat) (s s' : Int) (cs : Array Value) (w : World) (R : Row w bx 86 cs) (hn : n < 64) (hn' : n' < 64) (hs : cs[n]? = some (.int .i64 s)) (hs' : cs[n']? = some (.int .i64 s')) :
    Calls Try.prog 64 #[.agg (evL a k n i y f).toArray, .agg (evL a' k' n' i' y' f').toArray, .pointer (some ⟨bx, 0, none⟩)] w fun e w' => e = .returned (.int .i64 (cmL (keyE a k n s) (keyE a' k' n' s'))) ∧ le w w' := by
  obtain ⟨p0, p1, p2, p3, hp⟩ := keyE_form a k n s
  obtain ⟨q0, q1, q2, q3, hq⟩ := keyE_form a' k' n' s'
  have HO := hid (fun (w' : World) => show Calls Try.prog 65 #[.agg #[.int .i64 a, .int .i64 k, .int .i64 (n : Int), .int .i64 i, .int .i64 y, .float .f32 f], .int .i64 s] w' _ from i_order a k n i y s f w')
  have HO' := hid (fun (w' : World) => show Calls Try.prog 65 #[.agg #[.int .i64 a', .int .i64 k', .int .i64 (n' : Int), .int .i64 i', .int .i64 y', .float .f32 f'], .int .i64 s'] w' _ from i_order a' k' n' i' y' s' f' w')
  have KP := hid (show keyA #[.agg #[.int .i64 a, .int .i64 k, .int .i64 (n : Int), .int .i64 i, .int .i64 y, .float .f32 f], .int .i64 s] = .agg #[.int .i64 p0, .int .i64 p1, .int .i64 p2, .int .i64 p3] from (congrArg (fun l => Value.agg (intsV l).toArray) hp).trans rfl)
  have KQ := hid (show keyA #[.agg #[.int .i64 a', .int .i64 k', .int .i64 (n' : Int), .int .i64 i', .int .i64 y', .float .f32 f'], .int .i64 s'] = .agg #[.int .i64 q0, .int .i64 q1, .int .i64 q2, .int .i64 q3] from (congrArg (fun l => Value.agg (intsV l).toArray) hq).trans rfl)
  rw [hp, hq]
  have hP := hid hp
  have hQ := hid hq
  have CX := hid (fun (w' : World) (hl : le w w') => show w'.cell? ⟨bx, n, none⟩ = some (.int .i64 s) by rw [(R.le hl).cell?, hs])
  have CX' := hid (fun (w' : World) (hl : le w w') => show w'.cell? ⟨bx, n', none⟩ = some (.int .i64 s') by rw [(R.le hl).cell?, hs'])
  clear R hs hs' hp hq
  unfold evL
  have hi : (n : Int) < 64 := by omega
  have hi' : (n' : Int) < 64 := by omega
  have F := ((Frg.nil w).box 79 #[.int .i64 a, .int .i64 k, .int .i64 (n : Int), .int .i64 i, .int .i64 y, .float .f32 f]).box 79 #[.int .i64 a', .int .i64 k', .int .i64 (n' : Int), .int .i64 i', .int .i64 y', .float .f32 f']
  simp only [World.size_alloc] at F
  go_enter Try.func64, Try.ntmps64
  go_wp2_with fail
  have G := F.drewN 1
  refine region_tailZ (E := leX) (fun _ args _ _ v => v = keyA args) 14 (by kernel_rfl) (by kernel_rfl) ?_
  simp only [List.take_succ_cons, List.take_zero, List.drop_succ_cons, List.drop_zero]
  refine wpFreeZ_loadW rfl rfl rfl [.int .i64 a, .int .i64 k, .int .i64 (n : Int), .int .i64 i, .int .i64 y, .float .f32 f] (fun w1 h1 => Row.at_part (f := 0) ((G.row m1).le h1) (fun j hj => by rw [Nat.zero_add]; simp)) Try.underlying79 rfl uinfoEventI rfl ?_
  simp only [Act.put, List.setIfInBounds_toArray, List.set_cons_succ, List.set_cons_zero]
  refine wpFreeZ_one rfl (.pointer (some ⟨w.heap.size, 2, none⟩)) (fun w1 _ => by kernel_rfl) ?_
  simp only [Act.put, List.setIfInBounds_toArray, List.set_cons_succ, List.set_cons_zero]
  refine wpFreeZ_load1 rfl rfl rfl (p := ⟨w.heap.size, 2, none⟩) (v := .int .i64 (n : Int)) (fun w1 h1 => ((G.row m1).le h1).cell? 2) ukindInt64 ?_
  simp only [Act.put, List.setIfInBounds_toArray, List.set_cons_succ, List.set_cons_zero]
  refine wpFreeZ_one rfl (.pointer (some ⟨bx, n, none⟩)) (fun w1 _ => run_indexArr rfl rfl rfl Try.underlying86 uinfo1Int64 (by assumption) w1) ?_
  simp only [Act.put, List.setIfInBounds_toArray, List.set_cons_succ, List.set_cons_zero]
  refine wpFreeZ_load1 rfl rfl rfl (p := ⟨bx, n, none⟩) (fun w1 h1 => CX.out w1 (le_trans G.below h1)) ukindInt64 ?_
  simp only [Act.put, List.setIfInBounds_toArray, List.set_cons_succ, List.set_cons_zero]
  refine wpFreeZ_callW (by kernel_rfl) rfl Try.func65 (by kernel_rfl) (by kernel_rfl) (args := #[.agg #[.int .i64 a, .int .i64 k, .int .i64 (n : Int), .int .i64 i, .int .i64 y, .float .f32 f], .int .i64 s]) (by simp [Act.eval]) (fun z v w1 w2 hw hv => hv) (fun wc hw1 hbe => ?_) ?_
  · refine (HO.out wc).mono ?_
    rintro e w2 ⟨rfl, hl⟩
    exact ⟨_, rfl, hl, rfl⟩
  rintro v1 ⟨z, wv, _, hv⟩
  replace hv : v1 = keyA #[.agg #[.int .i64 a, .int .i64 k, .int .i64 (n : Int), .int .i64 i, .int .i64 y, .float .f32 f], .int .i64 s] := hv
  rw [KP.out] at hv
  subst hv
  simp only [Act.put, List.setIfInBounds_toArray, List.set_cons_succ, List.set_cons_zero]
  refine wpFreeZ_loadW rfl rfl rfl [.int .i64 a', .int .i64 k', .int .i64 (n' : Int), .int .i64 i', .int .i64 y', .float .f32 f'] (fun w1 h1 => Row.at_part (f := 0) ((G.row m0).le h1) (fun j hj => by rw [Nat.zero_add]; simp)) Try.underlying79 rfl uinfoEventI rfl ?_
  simp only [Act.put, List.setIfInBounds_toArray, List.set_cons_succ, List.set_cons_zero]
  refine wpFreeZ_one rfl (.pointer (some ⟨w.heap.size + 1, 2, none⟩)) (fun w1 _ => by kernel_rfl) ?_
  simp only [Act.put, List.setIfInBounds_toArray, List.set_cons_succ, List.set_cons_zero]
  refine wpFreeZ_load1 rfl rfl rfl (p := ⟨w.heap.size + 1, 2, none⟩) (v := .int .i64 (n' : Int)) (fun w1 h1 => ((G.row m0).le h1).cell? 2) ukindInt64 ?_
  simp only [Act.put, List.setIfInBounds_toArray, List.set_cons_succ, List.set_cons_zero]
  refine wpFreeZ_one rfl (.pointer (some ⟨bx, n', none⟩)) (fun w1 _ => run_indexArr rfl rfl rfl Try.underlying86 uinfo1Int64 (by assumption) w1) ?_
  simp only [Act.put, List.setIfInBounds_toArray, List.set_cons_succ, List.set_cons_zero]
  refine wpFreeZ_load1 rfl rfl rfl (p := ⟨bx, n', none⟩) (fun w1 h1 => CX'.out w1 (le_trans G.below h1)) ukindInt64 ?_
  simp only [Act.put, List.setIfInBounds_toArray, List.set_cons_succ, List.set_cons_zero]
  refine wpFreeZ_callW (by kernel_rfl) rfl Try.func65 (by kernel_rfl) (by kernel_rfl) (args := #[.agg #[.int .i64 a', .int .i64 k', .int .i64 (n' : Int), .int .i64 i', .int .i64 y', .float .f32 f'], .int .i64 s']) (by simp [Act.eval]) (fun z v w1 w2 hw hv => hv) (fun wc hw1 hbe => ?_) ?_
  · refine (HO'.out wc).mono ?_
    rintro e w2 ⟨rfl, hl⟩
    exact ⟨_, rfl, hl, rfl⟩
  rintro v2 ⟨z, wv, _, hv⟩
  replace hv : v2 = keyA #[.agg #[.int .i64 a', .int .i64 k', .int .i64 (n' : Int), .int .i64 i', .int .i64 y', .float .f32 f'], .int .i64 s'] := hv
  rw [KQ.out] at hv
  subst hv
  simp only [Act.put, List.setIfInBounds_toArray, List.set_cons_succ, List.set_cons_zero]
  refine wpFreeZ_alloc rfl rfl #[.int .i64 0, .int .i64 0, .int .i64 0, .int .i64 0] (fun w => by go_simp) (fun b6 => ?_)
  simp only [Act.put, List.setIfInBounds_toArray, List.set_cons_succ, List.set_cons_zero]
  refine wpFreeZ_alloc rfl rfl #[.int .i64 0, .int .i64 0, .int .i64 0, .int .i64 0] (fun w => by go_simp) (fun b7 => ?_)
  simp only [Act.put, List.setIfInBounds_toArray, List.set_cons_succ, List.set_cons_zero]
  refine wpFreeZ_nil (fun w3 zs hw3 hF hc => ?_)
  obtain ⟨e6, l6, r6⟩ := (hF 12).1.2 rfl
  obtain ⟨e7, l7, r7⟩ := (hF 13).2 rfl
  have hne : b6 ≠ b7 := by
    rcases hc 12 13 (by decide) with ⟨wx, _, _, hz, hf⟩ | ⟨wx, _, _, hz, hf⟩
    · have h6 := (hf.1.2 rfl).2.2.lt
      omega
    · have h7 := (hf.2 rfl).2.2.lt
      omega
  rw [← e6] at l6 r6
  rw [← e7] at l7 r7
  have hb : w.heap.size ≤ (F.below.size |> fun _ => w.heap.size) := Nat.le_refl _
  have L3 : le w w3 := le_trans G.below hw3
  have g6 : w.heap.size ≤ b6 := Nat.le_trans G.below.size l6
  have g7 : w.heap.size ≤ b7 := Nat.le_trans G.below.size l7
  clear hF hc e6 e7 hw3 l6 l7 F G hb
  show wpList _ _ _ _ _ _
  refine wpList_storeD rfl rfl rfl (cells := #[.int .i64 p0, .int .i64 p1, .int .i64 p2, .int .i64 p3]) rfl r6 infoA4 rfl (by simp [Value.oneCell']) (fun w4 K6 => ?_)
  simp only [Act.put, List.setIfInBounds_toArray, List.set_cons_succ, List.set_cons_zero]
  refine wpList_storeD rfl rfl rfl (cells := #[.int .i64 q0, .int .i64 q1, .int .i64 q2, .int .i64 q3]) rfl (K6.other _ _ _ (fun h => hne h.symm) r7) infoA4 rfl (by simp [Value.oneCell']) (fun w5 K7 => ?_)
  have R6 := hid (K7.other _ _ _ hne K6.row)
  have R7 := hid K7.row
  have L5 := hid (K7.below _ _ (K6.below _ _ L3 g6) g7)
  clear K6 K7 r6 r7 L3 g6 g7 hne
  go_wp2_with fail
  refine region_freeD (E := leX) (fun _ _ _ v => v = .int .i64 (cmL [p0, p1, p2, p3] [q0, q1, q2, q3])) (by kernel_rfl) (by kernel_rfl) ?_
  refine wpFreeD_one rfl (.slice (some ⟨b6, 0, none⟩) 4 4) (fun w1 _ => by kernel_rfl) ?_
  simp only [Act.put, List.setIfInBounds_toArray, List.set_cons_succ, List.set_cons_zero]
  refine wpFreeD_one rfl (.slice (some ⟨b7, 0, none⟩) 4 4) (fun w1 _ => by kernel_rfl) ?_
  simp only [Act.put, List.setIfInBounds_toArray, List.set_cons_succ, List.set_cons_zero]
  refine wpFreeD_callB rfl rfl Try.func66 (by kernel_rfl) (by kernel_rfl) (args := #[.slice (some ⟨b6, 0, none⟩) 4 4, .slice (some ⟨b7, 0, none⟩) 4 4]) (by simp [Act.eval]) (fun v w1 w2 hw hv => hv) (fun w1 hw1 _ => (i_CompareI p0 p1 p2 p3 q0 q1 q2 q3 b6 b7 w1 (R6.out.le (le_trans (le_drewN _ _) hw1)) (R7.out.le (le_trans (le_drewN _ _) hw1))).mono ?_) ?_
  · rintro e w2 ⟨rfl, rfl⟩
    exact ⟨_, rfl, le_refl _, rfl⟩
  rintro v ⟨_, _, _, rfl⟩
  simp only [Act.put, List.setIfInBounds_toArray, List.set_cons_succ, List.set_cons_zero]
  refine wpFreeD_one rfl (.int .i64 (cmL [p0, p1, p2, p3] [q0, q1, q2, q3])) (fun w1 _ => by kernel_rfl) ?_
  simp only [Act.put, List.setIfInBounds_toArray, List.set_cons_succ, List.set_cons_zero]
  refine wpFreeD_nil (fun wR hwR _ => ?_)
  have L6 := hid (le_trans L5.out (le_trans (le_drewN _ _) hwR))
  clear hwR
  go_wp2
  go_ret
  exact ⟨rfl, L6.out⟩
end Go.Proofs.Ytkcpdddmabkkgaa

/- Events: 'comparerOf', and slices.IsSortedFunc with its closure. -/
namespace Go.Fk
open Go Go.RowKit
section
variable {P : Program} {w : World} {ops : Array Oper} {rest : List Oper} {o : Oper} {a : Act} {Q : Exit → Act → World → Prop}
theorem wpList_indexAP (hg : o.guard = none) {t : TypeId} {x y : Operand} (hop : o.op = .indexAddr t x y) {g n i : Nat} {kk : IntKind} {e : TypeId} (hx : a.eval x = .pointer (some ⟨g, 0, none⟩)) (hy : a.eval y = .int kk (i : Int)) (hu : P.underlying t = some (.array n e)) (hs : (P.info? e).map (·.size) = some 1) (hi : i < n)
    (h : wpList P ops Q rest (a.put o.dst (.pointer (some ⟨g, i, none⟩))) w) : wpList P ops Q (o :: rest) a w := by
  refine wpList_plain hg fun K hK' => ?_
  unfold Oper.wp
  rw [run_indexArr hop hx hy hu hs hi]
  exact hK' _ _ h
end
section
variable {E : Ext} {P : Program} {ops : Array Oper} {W : World} {K : FuncId → Array Value → World → Value → Prop} {Q : Act → World → Prop} {F : Facts} {k : Nat} {o : Oper} {rest : List Oper} {a : Act}
theorem run_enterV {x : Operand} {f : FuncId} {caps : Array Value} (hx : a.eval x = .func (.func f) #[] caps) {xs : Array Operand} {ts : Array TypeId} (hop : o.op = Op.call { callee := Callee.value x, args := xs, argTypes := ts }) {fn : Func} (hf : P.funcs[f]? = some fn)
    (hb : fn.body.isNone = false) (hn : (fn.name == "runtime.NumGoroutine") = false) {args : Array Value} (ha : xs.map a.eval ++ caps = args) (w : World) : (execOp a.eval o).run P w = .ok (.enter f args) w := by
  have hn' : fn.name ≠ "runtime.NumGoroutine" := by simpa using hn
  have hbn : ¬ fn.body = none := by intro e; rw [e] at hb; simp at hb
  simp [execOp, hop, hx, resolve, invoke, Deferred.ofValue, callFunc, hf, hn', hbn, ha, Result.andThen]
/-- A closure is called. -/
theorem wpFreeD_callV (hg : o.guard = none) {x : Operand} {f : FuncId} {caps : Array Value} (hx : a.eval x = .func (.func f) #[] caps) {xs : Array Operand} {ts : Array TypeId} (hop : o.op = Op.call { callee := Callee.value x, args := xs, argTypes := ts }) {fn : Func} (hf : P.funcs[f]? = some fn)
    (hb : fn.body.isNone = false) (hn : (fn.name == "runtime.NumGoroutine") = false) {args : Array Value} (ha : xs.map a.eval ++ caps = args) (hm : MonoT E (K f args))
    (h1 : ∀ w, E.R W w → behind .any o F w → Calls P f args w (fun e w' => ∃ v, e = .returned v ∧ le w w' ∧ K f args w' v)) (h2 : ∀ v, (∃ w, E.R W w ∧ (∀ e, F e w) ∧ K f args w v) → wpFreeD E P ops .any W K Q rest (k + 1) (a.put o.dst v) (F.with k (fun w => K f args w v))) : wpFreeD E P ops .any W K Q (o :: rest) k a F := by
  refine ⟨K f args, ⟨hm, .inl ⟨by simp [Region.wanted, hg], fun w hw hbe => ?_⟩⟩, fun v hv => h2 v hv⟩
  rw [run_enterV hx hop hf hb hn ha]
  refine ⟨E.refl w, (h1 w hw hbe).mono ?_, fun _ _ h => h⟩
  rintro e w' ⟨v, rfl, hl, hk⟩
  exact ⟨v, rfl, E.of_le hl, hk⟩
end
theorem saE_step {x : Nat → CD} {j v : Nat} (hk : evK x j = 2) (hv : evN x j = (v : Int)) : (fun q : Nat => if q = v then evA x j else saE x j (q : Int)) = fun q : Nat => saE x (j + 1) (q : Int) := by
  funext q
  simp only [saE, hk, hv, true_and]
  by_cases h : q = v
  · subst h; simp
  · rw [if_neg h, if_neg (by omega)]
theorem saE_skip {x : Nat → CD} {j : Nat} (hk : evK x j ≠ 2) : (fun q : Nat => saE x j (q : Int)) = fun q : Nat => saE x (j + 1) (q : Int) := by
  funext q
  simp only [saE]
  rw [if_neg (by simp [hk])]
end Go.Fk
namespace Go.Proofs.Ytkcpdddmabkkgaa
open Go.RowKit Go.Fk
def z64 : Array Value := #[Value.int .i64 0, .int .i64 0, .int .i64 0, .int .i64 0, .int .i64 0, .int .i64 0, .int .i64 0, .int .i64 0, .int .i64 0, .int .i64 0, .int .i64 0, .int .i64 0, .int .i64 0, .int .i64 0, .int .i64 0, .int .i64 0, .int .i64 0, .int .i64 0, .int .i64 0, .int .i64 0, .int .i64 0, .int .i64 0, .int .i64 0, .int .i64 0, .int .i64 0, .int .i64 0, .int .i64 0, .int .i64 0, .int .i64 0, .int .i64 0, .int .i64 0, .int .i64 0, .int .i64 0, .int .i64 0, .int .i64 0, .int .i64 0, .int .i64 0, .int .i64 0, .int .i64 0, .int .i64 0, .int .i64 0, .int .i64 0, .int .i64 0, .int .i64 0, .int .i64 0, .int .i64 0, .int .i64 0, .int .i64 0, .int .i64 0, .int .i64 0, .int .i64 0, .int .i64 0, .int .i64 0, .int .i64 0, .int .i64 0, .int .i64 0, .int .i64 0, .int .i64 0, .int .i64 0, .int .i64 0, .int .i64 0, .int .i64 0, .int .i64 0, .int .i64 0]
theorem zero64 : z64 = itab .i64 (fun _ => 0) 64 := by kernel_rfl
set_option maxRecDepth 100000 in
set_option maxHeartbeats 4000000 in
theorem i_comparerOf (B : Nat) (s : Value) (x : Nat → CD) (n : Nat) (w : World) (hs : (CD.sl 6 n x).RdN w B s) (hx : EvsOk x n) (hN : ∀ j, j < n → 0 ≤ evN x j ∧ evN x j < 64) :
    Calls Try.prog 45 #[s] w fun e w' => ∃ bx, e = .returned (.func (.func 64) #[] #[.pointer (some ⟨bx, 0, none⟩)]) ∧ Row w' bx 86 (itab .i64 (fun q : Nat => saE x n (q : Int)) 64) ∧ le w w' := by
  have R0 : Row (w.alloc (.cells z64 86)) w.heap.size 86 (itab .i64 (fun q : Nat => saE x 0 (q : Int)) 64) := by
    have h := Row.new w 86 z64
    have e := zero64
    rw [show z64 = itab .i64 (fun q : Nat => saE x 0 (q : Int)) 64 from zero64] at h ⊢
    exact h
  unfold z64 at R0
  replace R0 := hid R0
  by_cases h0 : n = 0
  · subst h0
    rcases hs.form with ⟨rfl, _⟩ | ⟨b, o, cap, rfl, hc, hm⟩
    all_goals
      clear hs
      go_enter Try.func45, Try.ntmps45
      go_wp2
      go_loop [8] (fun i => i = .int .i64 0) (fun _ => 0)
      case atStart => rfl
      case round =>
        obtain rfl := hrel
        go_wp2
        go_ret
        exact ⟨_, rfl, R0.out, le_alloc _ _⟩
  rcases hs.form with ⟨_, e0⟩ | ⟨b, o, cap, rfl, hc, hm⟩
  · exact absurd e0 h0
  have HA := hid (fun k (hk : k < n) => hx.vals hs hk)
  have HN := hid hN
  unfold maxLen at hm
  clear hx hs h0 hN
  go_enter Try.func45, Try.ntmps45
  go_wp2
  go_loopw [8] (fun i wr => ∃ j : Nat, j ≤ n ∧ i = .int .i64 j ∧ Hid (Row wr w.heap.size 86 (itab .i64 (fun q : Nat => saE x j (q : Int)) 64)) ∧ Hid (le w wr)) (fun i _ => n - (intOf i).toNat)
  case atStart => exact ⟨0, by omega, rfl, R0.out, le_alloc _ _⟩
  case round =>
    clear R0
    obtain ⟨j, hj, rfl, HR, HL⟩ := hrel
    rename_i wr _
    by_cases hlt : j < n
    · obtain ⟨y, _, _, _, cu⟩ := HA.out j hlt
      obtain ⟨n1, n2⟩ := HN.out j hlt
      have CU := hid (fun (w' : World) (hl : le wr w') (q : Nat) (v : Value) (hv : [Value.int .i64 (evA x j), .int .i64 (evK x j), .int .i64 (evN x j), .int .i64 (evI x j), .int .i64 (evY x j), .float .f32 y][q]? = some v) => (Below.cell (le_trans HL.out hl) (cell_lt' (cu q v hv))).trans (cu q v hv))
      clear cu HA HN
      have ST := hid (show ∀ v : Nat, evK x j = 2 → evN x j = (v : Int) → (fun q : Nat => if q = v then evA x j else saE x j (q : Int)) = fun q : Nat => saE x (j + 1) (q : Int) from fun v => saE_step); have SK := hid (@saE_skip x j)
      obtain ⟨v, hv⟩ : ∃ v : Nat, evN x j = (v : Int) := ⟨(evN x j).toNat, by omega⟩
      generalize evN x j = N at *
      subst hv
      have hv64 : v < 64 := by omega
      clear n1 n2
      have F := Frg.nil wr
      by_cases hk : evK x j = 2
      · have SE := hid (ST.out v hk rfl)
        clear ST SK
        generalize evK x j = K0 at *
        subst hk
        go_wp2_with (first | ((with_reducible refine listN F ?_); clear F; intro wN F) | (with_reducible refine wpList_indexW0 rfl rfl rfl rfl Try.underlying36 uinfoEventI hlt ?_) | (with_reducible refine wpList_indexAP rfl rfl rfl rfl Try.underlying86 uinfo1Int64 hv64 ?_) | ((with_reducible refine at_load rfl ?_); first | (with_reducible refine wpList_loadW rfl rfl rfl [.int .i64 (evA x j), .int .i64 2, .int .i64 (v : Int), .int .i64 (evI x j), .int .i64 (evY x j), .float .f32 y] (CU.out _ F.below) Try.underlying79 rfl uinfoEventI rfl ?_) | (with_reducible refine wpList_load1C rfl (f := 0) rfl (v := .int .i64 _) (by kernel_rfl) (F.row m0) rfl ukindInt64 ?_) | (with_reducible refine wpList_load1C rfl (f := 1) rfl (v := .int .i64 _) (by kernel_rfl) (F.row m0) rfl ukindInt64 ?_) | (with_reducible refine wpList_load1C rfl (f := 2) rfl (v := .int .i64 _) (by kernel_rfl) (F.row m0) rfl ukindInt64 ?_)) | ((with_reducible refine at_store rfl ?_); first | (refine wpList_storeG F rfl rfl rfl rfl rfl uinfoEventI rfl (by (simp only [List.all_toArray', List.all_cons, List.all_nil, Bool.and_true, Bool.true_and]) <;> rfl) ?_; clear F; intro W F zW; clear zW) | (refine wpList_store1 rfl rfl (f := v) rfl rfl (HR.out.le F.below) uinfo1Int64 (by rw [size_itab]; exact hv64) rfl _ (set_itab _ _ _ _ _) ?_; intro w6 K6)))
        go_roundw
        case rel =>
          refine ⟨j + 1, by omega, by go_num, ?_, K6.below _ _ (le_trans HL.out F.below) (Nat.le_refl _)⟩
          have h := K6.row
          rwa [SE.out] at h
        case measure => simp [intOf]; omega
      · have SE := hid (SK.out hk)
        clear ST SK
        go_wp2_with (first | ((with_reducible refine listN F ?_); clear F; intro wN F) | (with_reducible refine wpList_indexW0 rfl rfl rfl rfl Try.underlying36 uinfoEventI hlt ?_) | ((with_reducible refine at_load rfl ?_); first | (with_reducible refine wpList_loadW rfl rfl rfl [.int .i64 (evA x j), .int .i64 (evK x j), .int .i64 (v : Int), .int .i64 (evI x j), .int .i64 (evY x j), .float .f32 y] (CU.out _ F.below) Try.underlying79 rfl uinfoEventI rfl ?_) | (with_reducible refine wpList_load1C rfl (f := 1) rfl (v := .int .i64 _) (by kernel_rfl) (F.row m0) rfl ukindInt64 ?_)) | ((with_reducible refine at_store rfl ?_); (refine wpList_storeG F rfl rfl rfl rfl rfl uinfoEventI rfl (by (simp only [List.all_toArray', List.all_cons, List.all_nil, Bool.and_true, Bool.true_and]) <;> rfl) ?_; clear F; intro W F zW; clear zW)))
        go_roundw
        case rel => exact ⟨j + 1, by omega, by go_num, SE.out ▸ HR.out.le F.below, le_trans HL.out F.below⟩
        case measure => simp [intOf]; omega
    · obtain rfl : j = n := by omega
      go_wp2
      go_ret
      exact ⟨_, rfl, HR.out, HL.out⟩
end Go.Proofs.Ytkcpdddmabkkgaa

/- Events: slices.IsSortedFunc with the closure. -/
namespace Go.Fk
open Go Go.RowKit
def srtE (x : Nat → CD) (n q : Nat) : Bool := !ltL (keyJ x n (q + 1)) (keyJ x n q)
theorem srt_neg {x : Nat → CD} {n q : Nat} : decide (cmL (keyJ x n (q + 1)) (keyJ x n q) < 0) = !srtE x n q := by
  unfold srtE
  rw [Bool.not_not]
  have h := cmL_lt (s := keyJ x n (q + 1)) (t := keyJ x n q) ((keyE_len ..).trans (keyE_len ..).symm)
  rw [Bool.eq_iff_iff]
  simpa using h
end Go.Fk
namespace Go.Proofs.Ytkcpdddmabkkgaa
open Go.RowKit Go.Fk
set_option maxRecDepth 100000 in
set_option maxHeartbeats 4000000 in
theorem i_IsSortedEv (B : Nat) (s : Value) (x : Nat → CD) (n bx : Nat) (w : World) (hs : (CD.sl 6 n x).RdN w B s) (hx : EvsOk x n) (hN : ∀ j, j < n → 0 ≤ evN x j ∧ evN x j < 64) (R : Row w bx 86 (itab .i64 (fun q : Nat => saE x n (q : Int)) 64)) :
    Calls Try.prog 44 #[s, .func (.func 64) #[] #[.pointer (some ⟨bx, 0, none⟩)]] w (Out_b (allB (srtE x n) (n - 1)) w) := by
  by_cases h0 : n = 0
  · subst h0
    rcases hs.form with ⟨rfl, _⟩ | ⟨b, o, cap, rfl, hc, hm⟩
    all_goals
      clear hs R
      go_enter Try.func44, Try.ntmps44
      go_wp2
      go_loop [5] (fun i => i = .int .i64 (-1)) (fun _ => 0)
      case atStart => rfl
      case round =>
        obtain rfl := hrel
        go_wp2
        go_ret
        exact ⟨rfl, le_refl _⟩
  rcases hs.form with ⟨_, e0⟩ | ⟨b, o, cap, rfl, hc, hm⟩
  · exact absurd e0 h0
  have HA := hid (fun k (hk : k < n) => hx.vals hs hk)
  have HN := hid hN
  have HR := hid R
  unfold maxLen at hm
  clear hx hs hN R
  go_enter Try.func44, Try.ntmps44
  go_wp2
  go_loopw [5] (fun i wr => ∃ j : Nat, j + 1 ≤ n ∧ i = .int .i64 j ∧ Hid (∀ q, j ≤ q → q < n - 1 → srtE x n q = true) ∧ Hid (le w wr)) (fun i _ => (intOf i).toNat)
  case atStart => exact ⟨n - 1, by omega, by rw [show ((n - 1 : Nat) : Int) = (n : Int) - 1 by omega], fun q h1 h2 => absurd h1 (by omega), le_refl _⟩
  case round =>
    obtain ⟨j, hj, rfl, HJ, HL⟩ := hrel
    rename_i wr _
    match j, hj with
    | 0, _ =>
      have HG := hid (show allB (srtE x n) (n - 1) = true from allB_yes (fun i hi => HJ.out i (Nat.zero_le _) hi))
      go_wp2
      go_ret
      exact ⟨ret_b HG.out.symm, HL.out⟩
    | j + 1, hj =>
      have hlt : j + 1 < n := by omega
      have hlt' : j < n := by omega
      obtain ⟨y, _, _, _, cu⟩ := HA.out (j + 1) hlt
      obtain ⟨y', _, _, _, cu'⟩ := HA.out j hlt'
      obtain ⟨n1, n2⟩ := HN.out (j + 1) hlt
      obtain ⟨n3, n4⟩ := HN.out j hlt'
      have CU := hid (fun (w' : World) (hl : le wr w') (q : Nat) (v : Value) (hv : [Value.int .i64 (evA x (j + 1)), .int .i64 (evK x (j + 1)), .int .i64 (evN x (j + 1)), .int .i64 (evI x (j + 1)), .int .i64 (evY x (j + 1)), .float .f32 y][q]? = some v) => (Below.cell (le_trans HL.out hl) (cell_lt' (cu q v hv))).trans (cu q v hv))
      have CU' := hid (fun (w' : World) (hl : le wr w') (q : Nat) (v : Value) (hv : [Value.int .i64 (evA x j), .int .i64 (evK x j), .int .i64 (evN x j), .int .i64 (evI x j), .int .i64 (evY x j), .float .f32 y'][q]? = some v) => (Below.cell (le_trans HL.out hl) (cell_lt' (cu' q v hv))).trans (cu' q v hv))
      have HC : Hid (∀ w', le wr w' → Calls Try.prog 64 #[.agg #[.int .i64 (evA x (j + 1)), .int .i64 (evK x (j + 1)), .int .i64 (evN x (j + 1)), .int .i64 (evI x (j + 1)), .int .i64 (evY x (j + 1)), .float .f32 y], .agg #[.int .i64 (evA x j), .int .i64 (evK x j), .int .i64 (evN x j), .int .i64 (evI x j), .int .i64 (evY x j), .float .f32 y'], .pointer (some ⟨bx, 0, none⟩)] w' fun e w'' => e = .returned (.int .i64 (cmL (keyJ x n (j + 1)) (keyJ x n j))) ∧ le w' w'') := fun w' hl => by
        obtain ⟨v, hv⟩ : ∃ v : Nat, evN x (j + 1) = (v : Int) := ⟨(evN x (j + 1)).toNat, by omega⟩
        obtain ⟨v', hv'⟩ : ∃ v : Nat, evN x j = (v : Int) := ⟨(evN x j).toNat, by omega⟩
        unfold keyJ
        rw [hv, hv']
        exact i_comparer _ _ _ _ _ _ _ _ v v' y y' bx _ _ _ w' (HR.out.le (le_trans HL.out hl)) (by omega) (by omega) (get_itab _ _ _ _ (by omega)) (get_itab _ _ _ _ (by omega))
      have SN := hid (@srt_neg x n j)
      clear cu cu' HA HN n1 n2 n3 n4 HR
      generalize hZ : cmL (keyJ x n (j + 1)) (keyJ x n j) = Z at *
      clear hZ
      go_wp2_with fail
      refine region_freeD (E := leX) (fun _ _ _ v => v = .int .i64 Z) (by kernel_rfl) (by kernel_rfl) ?_
      refine wpFreeD_one rfl (.func (.func 64) #[] #[.pointer (some ⟨bx, 0, none⟩)]) (fun w1 _ => by kernel_rfl) ?_
      simp only [Act.put, List.setIfInBounds_toArray, List.set_cons_succ, List.set_cons_zero]
      refine wpFreeD_one rfl (.slice (some ⟨b, o, none⟩) n cap) (fun w1 _ => by kernel_rfl) ?_
      simp only [Act.put, List.setIfInBounds_toArray, List.set_cons_succ, List.set_cons_zero]
      refine wpFreeD_one rfl (.int .i64 ((j + 1 : Nat) : Int)) (fun w1 _ => by kernel_rfl) ?_
      simp only [Act.put, List.setIfInBounds_toArray, List.set_cons_succ, List.set_cons_zero]
      refine wpFreeD_indexW0 rfl rfl rfl rfl Try.underlying36 uinfoEventI hlt ?_
      simp only [Act.put, List.setIfInBounds_toArray, List.set_cons_succ, List.set_cons_zero]
      refine wpFreeD_loadW rfl rfl rfl [.int .i64 (evA x (j + 1)), .int .i64 (evK x (j + 1)), .int .i64 (evN x (j + 1)), .int .i64 (evI x (j + 1)), .int .i64 (evY x (j + 1)), .float .f32 y] (fun w1 h1 => CU.out w1 (le_trans (le_drewN _ _) h1)) Try.underlying79 rfl uinfoEventI rfl ?_
      simp only [Act.put, List.setIfInBounds_toArray, List.set_cons_succ, List.set_cons_zero]
      refine wpFreeD_one rfl (.slice (some ⟨b, o, none⟩) n cap) (fun w1 _ => by kernel_rfl) ?_
      simp only [Act.put, List.setIfInBounds_toArray, List.set_cons_succ, List.set_cons_zero]
      refine wpFreeD_one rfl (.int .i64 ((j + 1 : Nat) : Int)) (fun w1 _ => by kernel_rfl) ?_
      simp only [Act.put, List.setIfInBounds_toArray, List.set_cons_succ, List.set_cons_zero]
      refine wpFreeD_quiet rfl ?_; go_big_quiet_step (fail); refine wpQuiet_nil ?_
      refine wpFreeD_indexW0 rfl rfl rfl rfl Try.underlying36 uinfoEventI hlt' ?_
      simp only [Act.put, List.setIfInBounds_toArray, List.set_cons_succ, List.set_cons_zero]
      refine wpFreeD_loadW rfl rfl rfl [.int .i64 (evA x j), .int .i64 (evK x j), .int .i64 (evN x j), .int .i64 (evI x j), .int .i64 (evY x j), .float .f32 y'] (fun w1 h1 => CU'.out w1 (le_trans (le_drewN _ _) h1)) Try.underlying79 rfl uinfoEventI rfl ?_
      simp only [Act.put, List.setIfInBounds_toArray, List.set_cons_succ, List.set_cons_zero]
      refine wpFreeD_callV rfl rfl rfl Try.func64 (by kernel_rfl) (by kernel_rfl) (args := #[.agg #[.int .i64 (evA x (j + 1)), .int .i64 (evK x (j + 1)), .int .i64 (evN x (j + 1)), .int .i64 (evI x (j + 1)), .int .i64 (evY x (j + 1)), .float .f32 y], .agg #[.int .i64 (evA x j), .int .i64 (evK x j), .int .i64 (evN x j), .int .i64 (evI x j), .int .i64 (evY x j), .float .f32 y'], .pointer (some ⟨bx, 0, none⟩)]) (by simp [Act.eval]) (fun v w1 w2 hw hv => hv) (fun w1 hw1 _ => (HC.out w1 (le_trans (le_drewN _ _) hw1)).mono ?_) ?_
      · rintro e w2 ⟨rfl, hl⟩
        exact ⟨_, rfl, hl, rfl⟩
      rintro v ⟨_, _, _, rfl⟩
      simp only [Act.put, List.setIfInBounds_toArray, List.set_cons_succ, List.set_cons_zero]
      refine wpFreeD_one rfl (.bool (decide (Z < 0))) (fun w1 _ => by kernel_rfl) ?_
      rw [SN.out]
      simp only [Act.put, List.setIfInBounds_toArray, List.set_cons_succ, List.set_cons_zero]
      refine wpFreeD_nil (fun wR hwR _ => ?_)
      have L1 := hid (le_trans HL.out (le_trans (le_drewN _ _) hwR))
      clear hwR HC CU CU' SN
      rcases bool_ft (srtE x n j) with h | h
      · have hb := hid h
        rw [h]
        clear h
        go_wp2
        go_ret
        exact ⟨ret_b (allB_no (by omega) hb.out).symm, L1.out⟩
      · have hb := hid h
        rw [h]
        clear h
        go_wp2
        go_roundw
        case rel => exact ⟨j, by omega, by go_num, fun q h1 h2 => by rcases Nat.lt_or_ge j q with h | h; exact HJ.out q h h2; rw [show q = j by omega]; exact hb.out, L1.out⟩
        case measure => simp [intOf]
end Go.Proofs.Ytkcpdddmabkkgaa

/- The laws' helpers for Instrument, over trees of data. -/
namespace Go.Proofs.Ytkcpdddmabkkgaa
open Go.RowKit Go.Fk
set_option maxRecDepth 100000 in
set_option maxHeartbeats 4000000 in
theorem szU_Instrument (B : Nat) (cs : List CD) (vs : List Value) (m r : Int) (w : World) (h : RdL w B cs vs) (hsh : ShOkL shInstrument cs) (h0 : 0 ≤ m) (h1 : m ≤ 1048576) (hr : lessBy m (szL cs) = r) :
    Calls Try.prog 31 #[.agg vs.toArray, .int .i64 m] w (OutI r w) := by
  obtain ⟨c0, cs, rfl, q0, hsh⟩ := hsh.inv
  obtain ⟨c1, cs, rfl, q1, hsh⟩ := hsh.inv
  obtain ⟨c2, cs, rfl, q2, hsh⟩ := hsh.inv
  obtain ⟨c3, cs, rfl, q3, hsh⟩ := hsh.inv
  obtain ⟨c4, cs, rfl, q4, hsh⟩ := hsh.inv
  obtain rfl := hsh.inv0
  obtain ⟨v0, vs, rfl, r0, h⟩ := h.inv
  obtain ⟨v1, vs, rfl, r1, h⟩ := h.inv
  obtain ⟨v2, vs, rfl, r2, h⟩ := h.inv
  obtain ⟨v3, vs, rfl, r3, h⟩ := h.inv
  obtain ⟨v4, vs, rfl, r4, h⟩ := h.inv
  obtain rfl := h.inv0
  obtain ⟨t0, rfl⟩ := q0
  obtain ⟨rfl, wf0⟩ := r0
  obtain ⟨z1, rfl⟩ := q1
  obtain ⟨rfl, wf1⟩ := r1
  have q2 : c2.flk = some .f32 := q2
  obtain ⟨y2, rfl, f2, e2⟩ := r2.fl q2
  have q3 : c3.flk = some .f32 := q3
  obtain ⟨y3, rfl, f3, e3⟩ := r3.fl q3
  have q4 : c4.flk = some .f32 := q4
  obtain ⟨y4, rfl, f4, e4⟩ := r4.fl q4
  simp only [szL, List.map_cons, List.map_nil, List.sum_cons, List.sum_nil, CD.sz, CD.sz_fl q2, CD.sz_fl q3, CD.sz_fl q4] at hr
  have hsm := wf0
  unfold maxLen at hsm
  simp only [Nat.add_zero, Nat.zero_add] at hr
  have F := (Frg.nil w).box 71 #[.string t0, .int .i64 z1, .float .f32 y2, .float .f32 y3, .float .f32 y4]
  by_cases g : m - (t0.size : Int) < 0
  · have er : r = -1 := by rw [← hr]; exact lessBy_neg g
    subst er
    clear hr
    go_enter Try.func31, Try.ntmps31
    go_wp2_with (first | ((with_reducible refine listN F ?_); clear F; intro wN F) | ((with_reducible refine at_load rfl ?_); first | (with_reducible refine wpList_load1 F rfl rfl rfl (by first | exact m0) (f := 0) (v := .string t0) rfl ukindString ?_) | (with_reducible refine wpList_load1 F rfl rfl rfl (by first | exact m0) (f := 1) (v := .int .i64 z1) rfl ukindInt64 ?_) | (with_reducible refine wpList_load1 F rfl rfl rfl (by first | exact m0) (f := 2) (v := .float .f32 y2) rfl ukindFloat32 ?_) | (with_reducible refine wpList_load1 F rfl rfl rfl (by first | exact m0) (f := 3) (v := .float .f32 y3) rfl ukindFloat32 ?_) | (with_reducible refine wpList_load1 F rfl rfl rfl (by first | exact m0) (f := 4) (v := .float .f32 y4) rfl ukindFloat32 ?_)))
    go_ret
    exact ⟨rfl, F.below⟩
  · have er : r = m - (t0.size : Int) := by rw [← hr]; exact lessBy_pos g
    subst er
    clear hr
    go_enter Try.func31, Try.ntmps31
    go_wp2_with (first | ((with_reducible refine listN F ?_); clear F; intro wN F) | ((with_reducible refine at_load rfl ?_); first | (with_reducible refine wpList_load1 F rfl rfl rfl (by first | exact m0) (f := 0) (v := .string t0) rfl ukindString ?_) | (with_reducible refine wpList_load1 F rfl rfl rfl (by first | exact m0) (f := 1) (v := .int .i64 z1) rfl ukindInt64 ?_) | (with_reducible refine wpList_load1 F rfl rfl rfl (by first | exact m0) (f := 2) (v := .float .f32 y2) rfl ukindFloat32 ?_) | (with_reducible refine wpList_load1 F rfl rfl rfl (by first | exact m0) (f := 3) (v := .float .f32 y3) rfl ukindFloat32 ?_) | (with_reducible refine wpList_load1 F rfl rfl rfl (by first | exact m0) (f := 4) (v := .float .f32 y4) rfl ukindFloat32 ?_)))
    go_ret
    exact ⟨rfl, F.below⟩
set_option maxRecDepth 100000 in
set_option maxHeartbeats 4000000 in
theorem eqU_Instrument (B B' : Nat) (cs : List CD) (vs vs' : List Value) (w : World) (h : RdL w B cs vs) (h' : RdL w B' cs vs') (hsh : ShOkL shInstrument cs) (hz : szL cs ≤ 1048576) :
    Calls Try.prog 47 #[.agg vs.toArray, .agg vs'.toArray] w (OutT w) := by
  obtain ⟨c0, cs, rfl, q0, hsh⟩ := hsh.inv
  obtain ⟨c1, cs, rfl, q1, hsh⟩ := hsh.inv
  obtain ⟨c2, cs, rfl, q2, hsh⟩ := hsh.inv
  obtain ⟨c3, cs, rfl, q3, hsh⟩ := hsh.inv
  obtain ⟨c4, cs, rfl, q4, hsh⟩ := hsh.inv
  obtain rfl := hsh.inv0
  obtain ⟨v0, vs, rfl, r0, h⟩ := h.inv
  obtain ⟨v1, vs, rfl, r1, h⟩ := h.inv
  obtain ⟨v2, vs, rfl, r2, h⟩ := h.inv
  obtain ⟨v3, vs, rfl, r3, h⟩ := h.inv
  obtain ⟨v4, vs, rfl, r4, h⟩ := h.inv
  obtain rfl := h.inv0
  obtain ⟨v0', vs', rfl, r0', h'⟩ := h'.inv
  obtain ⟨v1', vs', rfl, r1', h'⟩ := h'.inv
  obtain ⟨v2', vs', rfl, r2', h'⟩ := h'.inv
  obtain ⟨v3', vs', rfl, r3', h'⟩ := h'.inv
  obtain ⟨v4', vs', rfl, r4', h'⟩ := h'.inv
  obtain rfl := h'.inv0
  obtain ⟨t0, rfl⟩ := q0
  obtain ⟨rfl, wf0⟩ := r0
  obtain ⟨rfl, wf0'⟩ := r0'
  obtain ⟨z1, rfl⟩ := q1
  obtain ⟨rfl, wf1⟩ := r1
  obtain ⟨rfl, wf1'⟩ := r1'
  have q2 : c2.flk = some .f32 := q2
  obtain ⟨y2, rfl, f2, e2⟩ := r2.fl q2
  obtain ⟨y2', rfl, f2', e2'⟩ := r2'.fl q2
  have q3 : c3.flk = some .f32 := q3
  obtain ⟨y3, rfl, f3, e3⟩ := r3.fl q3
  obtain ⟨y3', rfl, f3', e3'⟩ := r3'.fl q3
  have q4 : c4.flk = some .f32 := q4
  obtain ⟨y4, rfl, f4, e4⟩ := r4.fl q4
  obtain ⟨y4', rfl, f4', e4'⟩ := r4'.fl q4
  have HZ := hid hz
  have E2 := hid (e2.trans e2'.symm)
  have E3 := hid (e3.trans e3'.symm)
  have E4 := hid (e4.trans e4'.symm)
  have F := ((Frg.nil w).box 74 #[.string t0, .int .i64 z1, .float .f32 y2, .float .f32 y3, .float .f32 y4]).box 74 #[.string t0, .int .i64 z1, .float .f32 y2', .float .f32 y3', .float .f32 y4']
  simp only [World.size_alloc] at F
  clear hz HZ
  go_enter Try.func47, Try.ntmps47
  go_wp2_with (first | ((with_reducible refine listN F ?_); clear F; intro wN F) | ((with_reducible refine at_load rfl ?_); first | (with_reducible refine wpList_load1 F rfl rfl rfl (by first | exact m0 | exact m1) (f := 0) (v := .string t0) rfl ukindString ?_) | (with_reducible refine wpList_load1 F rfl rfl rfl (by first | exact m0 | exact m1) (f := 1) (v := .int .i64 z1) rfl ukindInt64 ?_) | (with_reducible refine wpList_load1 F rfl rfl rfl (by first | exact m0 | exact m1) (f := 2) (v := .float .f32 y2) rfl ukindFloat32 ?_) | (with_reducible refine wpList_load1 F rfl rfl rfl (by first | exact m0 | exact m1) (f := 3) (v := .float .f32 y3) rfl ukindFloat32 ?_) | (with_reducible refine wpList_load1 F rfl rfl rfl (by first | exact m0 | exact m1) (f := 4) (v := .float .f32 y4) rfl ukindFloat32 ?_) | (with_reducible refine wpList_load1 F rfl rfl rfl (by first | exact m0 | exact m1) (f := 0) (v := .string t0) rfl ukindString ?_) | (with_reducible refine wpList_load1 F rfl rfl rfl (by first | exact m0 | exact m1) (f := 1) (v := .int .i64 z1) rfl ukindInt64 ?_) | (with_reducible refine wpList_load1 F rfl rfl rfl (by first | exact m0 | exact m1) (f := 2) (v := .float .f32 y2') rfl ukindFloat32 ?_) | (with_reducible refine wpList_load1 F rfl rfl rfl (by first | exact m0 | exact m1) (f := 3) (v := .float .f32 y3') rfl ukindFloat32 ?_) | (with_reducible refine wpList_load1 F rfl rfl rfl (by first | exact m0 | exact m1) (f := 4) (v := .float .f32 y4') rfl ukindFloat32 ?_)) | ((with_reducible refine at_convert rfl ?_); (with_reducible refine wpList_widen rfl rfl rfl Try.underlying22 Try.underlying64 ?_; intro s1 n1 h1 f1)) | (go_at_call 26; ((with_reducible refine (sameFloat_yes _ _ _ (by first | exact (Hid.out ‹Hid (can .f64 _ = can .f64 (widen y2))›).trans ((congrArg (can .f64) (widen_congr E2.out)).trans (Hid.out ‹Hid (can .f64 _ = can .f64 (widen y2'))›).symm) | exact (Hid.out ‹Hid (can .f64 _ = can .f64 (widen y3))›).trans ((congrArg (can .f64) (widen_congr E3.out)).trans (Hid.out ‹Hid (can .f64 _ = can .f64 (widen y3'))›).symm) | exact (Hid.out ‹Hid (can .f64 _ = can .f64 (widen y4))›).trans ((congrArg (can .f64) (widen_congr E4.out)).trans (Hid.out ‹Hid (can .f64 _ = can .f64 (widen y4'))›).symm))).mono ?_); rintro e w7 ⟨rfl, dq7, rfl⟩; skip)))
  go_ret
  first | exact ⟨rfl, F.below⟩ | exact ⟨rfl, below_drewN F.below _⟩
set_option maxRecDepth 100000 in
set_option maxHeartbeats 4000000 in
theorem toU_Instrument (B : Nat) (cs : List CD) (vs : List Value) (w : World) (h : RdL w B cs vs) (hsh : ShOkL shInstrument cs) (hz : szL cs ≤ 1048576) :
    Calls Try.prog 36 #[.agg vs.toArray] w (OutA' (cs.map CD.cp) w) := by
  obtain ⟨c0, cs, rfl, q0, hsh⟩ := hsh.inv
  obtain ⟨c1, cs, rfl, q1, hsh⟩ := hsh.inv
  obtain ⟨c2, cs, rfl, q2, hsh⟩ := hsh.inv
  obtain ⟨c3, cs, rfl, q3, hsh⟩ := hsh.inv
  obtain ⟨c4, cs, rfl, q4, hsh⟩ := hsh.inv
  obtain rfl := hsh.inv0
  obtain ⟨v0, vs, rfl, r0, h⟩ := h.inv
  obtain ⟨v1, vs, rfl, r1, h⟩ := h.inv
  obtain ⟨v2, vs, rfl, r2, h⟩ := h.inv
  obtain ⟨v3, vs, rfl, r3, h⟩ := h.inv
  obtain ⟨v4, vs, rfl, r4, h⟩ := h.inv
  obtain rfl := h.inv0
  obtain ⟨t0, rfl⟩ := q0
  obtain ⟨rfl, wf0⟩ := r0
  obtain ⟨z1, rfl⟩ := q1
  obtain ⟨rfl, wf1⟩ := r1
  have q2 : c2.flk = some .f32 := q2
  obtain ⟨y2, rfl, f2, e2⟩ := r2.fl q2
  have q3 : c3.flk = some .f32 := q3
  obtain ⟨y3, rfl, f3, e3⟩ := r3.fl q3
  have q4 : c4.flk = some .f32 := q4
  obtain ⟨y4, rfl, f4, e4⟩ := r4.fl q4
  have HZ := hid hz
  have F := (((Frg.nil w).box 71 #[.string t0, .int .i64 z1, .float .f32 y2, .float .f32 y3, .float .f32 y4]).box 74 #[.string ByteArray.empty, .int .i64 0, .float .f32 0, .float .f32 0, .float .f32 0]).box 74 #[.string ByteArray.empty, .int .i64 0, .float .f32 0, .float .f32 0, .float .f32 0]
  simp only [World.size_alloc] at F
  clear hz HZ
  go_enter Try.func36, Try.ntmps36
  go_wp2_with (first | ((with_reducible refine listN F ?_); clear F; intro wN F) | ((with_reducible refine at_load rfl ?_); first | (with_reducible refine wpList_load1 F rfl rfl rfl (by first | exact m0 | exact m1 | exact m2 | exact m3) (f := 0) (v := .string t0) rfl ukindString ?_) | (with_reducible refine wpList_load1 F rfl rfl rfl (by first | exact m0 | exact m1 | exact m2 | exact m3) (f := 1) (v := .int .i64 z1) rfl ukindInt64 ?_) | (with_reducible refine wpList_load1 F rfl rfl rfl (by first | exact m0 | exact m1 | exact m2 | exact m3) (f := 2) (v := .float .f32 y2) rfl ukindFloat32 ?_) | (with_reducible refine wpList_load1 F rfl rfl rfl (by first | exact m0 | exact m1 | exact m2 | exact m3) (f := 3) (v := .float .f32 y3) rfl ukindFloat32 ?_) | (with_reducible refine wpList_load1 F rfl rfl rfl (by first | exact m0 | exact m1 | exact m2 | exact m3) (f := 4) (v := .float .f32 y4) rfl ukindFloat32 ?_)) | (with_reducible refine stop_store rfl ?_))
  show wpList _ _ _ _ _ _
  refine wpList_store1 rfl rfl (f := 0) rfl rfl (F.row m0) uinfo1String (by simp) rfl #[.string t0, .int .i64 0, .float .f32 0, .float .f32 0, .float .f32 0] rfl (fun w2 K => ?_)
  replace F := F.wrI0 (cs' := #[.string t0, .int .i64 0, .float .f32 0, .float .f32 0, .float .f32 0]) K
  clear K
  go_wp2_with (first | ((with_reducible refine listN F ?_); clear F; intro wN F) | ((with_reducible refine at_load rfl ?_); first | (with_reducible refine wpList_load1 F rfl rfl rfl (by first | exact m0 | exact m1 | exact m2 | exact m3) (f := 0) (v := .string t0) rfl ukindString ?_) | (with_reducible refine wpList_load1 F rfl rfl rfl (by first | exact m0 | exact m1 | exact m2 | exact m3) (f := 1) (v := .int .i64 z1) rfl ukindInt64 ?_) | (with_reducible refine wpList_load1 F rfl rfl rfl (by first | exact m0 | exact m1 | exact m2 | exact m3) (f := 2) (v := .float .f32 y2) rfl ukindFloat32 ?_) | (with_reducible refine wpList_load1 F rfl rfl rfl (by first | exact m0 | exact m1 | exact m2 | exact m3) (f := 3) (v := .float .f32 y3) rfl ukindFloat32 ?_) | (with_reducible refine wpList_load1 F rfl rfl rfl (by first | exact m0 | exact m1 | exact m2 | exact m3) (f := 4) (v := .float .f32 y4) rfl ukindFloat32 ?_)) | (with_reducible refine stop_store rfl ?_))
  show wpList _ _ _ _ _ _
  refine wpList_store1 rfl rfl (f := 1) rfl rfl (F.row m0) uinfo1Int64 (by simp) rfl #[.string t0, .int .i64 z1, .float .f32 0, .float .f32 0, .float .f32 0] rfl (fun w2 K => ?_)
  replace F := F.wrI0 (cs' := #[.string t0, .int .i64 z1, .float .f32 0, .float .f32 0, .float .f32 0]) K
  clear K
  go_wp2_with (first | ((with_reducible refine listN F ?_); clear F; intro wN F) | ((with_reducible refine at_load rfl ?_); first | (with_reducible refine wpList_load1 F rfl rfl rfl (by first | exact m0 | exact m1 | exact m2 | exact m3) (f := 0) (v := .string t0) rfl ukindString ?_) | (with_reducible refine wpList_load1 F rfl rfl rfl (by first | exact m0 | exact m1 | exact m2 | exact m3) (f := 1) (v := .int .i64 z1) rfl ukindInt64 ?_) | (with_reducible refine wpList_load1 F rfl rfl rfl (by first | exact m0 | exact m1 | exact m2 | exact m3) (f := 2) (v := .float .f32 y2) rfl ukindFloat32 ?_) | (with_reducible refine wpList_load1 F rfl rfl rfl (by first | exact m0 | exact m1 | exact m2 | exact m3) (f := 3) (v := .float .f32 y3) rfl ukindFloat32 ?_) | (with_reducible refine wpList_load1 F rfl rfl rfl (by first | exact m0 | exact m1 | exact m2 | exact m3) (f := 4) (v := .float .f32 y4) rfl ukindFloat32 ?_)) | (with_reducible refine stop_store rfl ?_))
  show wpList _ _ _ _ _ _
  refine wpList_store1 rfl rfl (f := 2) rfl rfl (F.row m0) uinfo1Float32 (by simp) rfl #[.string t0, .int .i64 z1, .float .f32 y2, .float .f32 0, .float .f32 0] rfl (fun w2 K => ?_)
  replace F := F.wrI0 (cs' := #[.string t0, .int .i64 z1, .float .f32 y2, .float .f32 0, .float .f32 0]) K
  clear K
  go_wp2_with (first | ((with_reducible refine listN F ?_); clear F; intro wN F) | ((with_reducible refine at_load rfl ?_); first | (with_reducible refine wpList_load1 F rfl rfl rfl (by first | exact m0 | exact m1 | exact m2 | exact m3) (f := 0) (v := .string t0) rfl ukindString ?_) | (with_reducible refine wpList_load1 F rfl rfl rfl (by first | exact m0 | exact m1 | exact m2 | exact m3) (f := 1) (v := .int .i64 z1) rfl ukindInt64 ?_) | (with_reducible refine wpList_load1 F rfl rfl rfl (by first | exact m0 | exact m1 | exact m2 | exact m3) (f := 2) (v := .float .f32 y2) rfl ukindFloat32 ?_) | (with_reducible refine wpList_load1 F rfl rfl rfl (by first | exact m0 | exact m1 | exact m2 | exact m3) (f := 3) (v := .float .f32 y3) rfl ukindFloat32 ?_) | (with_reducible refine wpList_load1 F rfl rfl rfl (by first | exact m0 | exact m1 | exact m2 | exact m3) (f := 4) (v := .float .f32 y4) rfl ukindFloat32 ?_)) | (with_reducible refine stop_store rfl ?_))
  show wpList _ _ _ _ _ _
  refine wpList_store1 rfl rfl (f := 3) rfl rfl (F.row m0) uinfo1Float32 (by simp) rfl #[.string t0, .int .i64 z1, .float .f32 y2, .float .f32 y3, .float .f32 0] rfl (fun w2 K => ?_)
  replace F := F.wrI0 (cs' := #[.string t0, .int .i64 z1, .float .f32 y2, .float .f32 y3, .float .f32 0]) K
  clear K
  go_wp2_with (first | ((with_reducible refine listN F ?_); clear F; intro wN F) | ((with_reducible refine at_load rfl ?_); first | (with_reducible refine wpList_load1 F rfl rfl rfl (by first | exact m0 | exact m1 | exact m2 | exact m3) (f := 0) (v := .string t0) rfl ukindString ?_) | (with_reducible refine wpList_load1 F rfl rfl rfl (by first | exact m0 | exact m1 | exact m2 | exact m3) (f := 1) (v := .int .i64 z1) rfl ukindInt64 ?_) | (with_reducible refine wpList_load1 F rfl rfl rfl (by first | exact m0 | exact m1 | exact m2 | exact m3) (f := 2) (v := .float .f32 y2) rfl ukindFloat32 ?_) | (with_reducible refine wpList_load1 F rfl rfl rfl (by first | exact m0 | exact m1 | exact m2 | exact m3) (f := 3) (v := .float .f32 y3) rfl ukindFloat32 ?_) | (with_reducible refine wpList_load1 F rfl rfl rfl (by first | exact m0 | exact m1 | exact m2 | exact m3) (f := 4) (v := .float .f32 y4) rfl ukindFloat32 ?_)) | (with_reducible refine stop_store rfl ?_))
  show wpList _ _ _ _ _ _
  refine wpList_store1 rfl rfl (f := 4) rfl rfl (F.row m0) uinfo1Float32 (by simp) rfl #[.string t0, .int .i64 z1, .float .f32 y2, .float .f32 y3, .float .f32 y4] rfl (fun w2 K => ?_)
  replace F := F.wrI0 (cs' := #[.string t0, .int .i64 z1, .float .f32 y2, .float .f32 y3, .float .f32 y4]) K
  clear K
  go_wp2_with (first | ((with_reducible refine listN F ?_); clear F; intro wN F) | ((with_reducible refine at_load rfl ?_); (with_reducible refine wpList_loadG F rfl rfl rfl (by first | exact m0) Try.underlying74 rfl uinfoInstrumentI rfl ?_)) | (with_reducible refine stop_store rfl ?_))
  show wpList _ _ _ _ _ _
  refine wpList_storeD rfl rfl rfl (cells := #[.string t0, .int .i64 z1, .float .f32 y2, .float .f32 y3, .float .f32 y4]) rfl (F.row m1) uinfoInstrumentI rfl (by (simp only [List.all_toArray', List.all_cons, List.all_nil, Bool.and_true, Bool.true_and]) <;> rfl) (fun w6 K => ?_)
  have R := hid K.row
  replace F := F.wrI1 K
  have E0 := Eaten.start F
  replace E0 := Eaten.leaf (c := CD.cp c4) (v := .float .f32 y4) E0 (r4.leafLay (flk_ne q4))
  replace E0 := Eaten.leaf (c := CD.cp c3) (v := .float .f32 y3) E0 (r3.leafLay (flk_ne q3))
  replace E0 := Eaten.leaf (c := CD.cp c2) (v := .float .f32 y2) E0 (r2.leafLay (flk_ne q2))
  replace E0 := Eaten.leaf (c := .int .i64 z1) (v := .int .i64 z1) E0 (show CD.Lay _ _ _ _ from ⟨rfl, wf1⟩)
  replace E0 := Eaten.leaf (c := .str t0) (v := .string t0) E0 (show CD.Lay _ _ _ _ from ⟨rfl, wf0⟩)
  have L := hid (show LayL _ _ _ _ ∧ le w _ from ⟨E0.fin, F.below⟩)
  clear K F E0
  go_wp2
  exact bodyPost_ret (results_row1 rfl _ _ _ _ _ rfl R.out Try.underlying74 rfl uinfoInstrumentI) rfl ⟨[.string t0, .int .i64 z1, .float .f32 y2, .float .f32 y3, .float .f32 y4], rfl, L.out.1, L.out.2⟩
end Go.Proofs.Ytkcpdddmabkkgaa

/- Two instruments or events that are the same: data, and the program's functions. -/
namespace Go.Fk
open Go Go.RowKit
def eqT (t t' : ByteArray) : Bool := t.toList == t'.toList
def strC : CD → ByteArray | .str t => t | _ => ⟨#[]⟩
def inT (x : Nat → CD) (k : Nat) : ByteArray := strC (x (k * 5))
def inK (x : Nat → CD) (k : Nat) : Int := intC (x (k * 5 + 1))
def inA (x : Nat → CD) (k : Nat) : Nat := (x (k * 5 + 2)).fx
def inB (x : Nat → CD) (k : Nat) : Nat := (x (k * 5 + 3)).fx
def inC (x : Nat → CD) (k : Nat) : Nat := (x (k * 5 + 4)).fx
def sameV (a a' : Int) (k k' : Int) (n n' : Int) (i i' : Int) (y y' : Int) (f f' : Nat) : Bool := (a == a') && (k == k') && (n == n') && (i == i') && (y == y') && sameB f f'
def sameEv (x x' : Nat → CD) (j : Nat) : Bool := sameV (evA x j) (evA x' j) (evK x j) (evK x' j) (evN x j) (evN x' j) (evI x j) (evI x' j) (evY x j) (evY x' j) (evF x j) (evF x' j)
def sameEvs (x x' : Nat → CD) (n n' : Nat) : Bool := (n == n') && allB (sameEv x x') n
theorem sameEvs_ne {x x' : Nat → CD} {n n' : Nat} (h : n ≠ n') : sameEvs x x' n n' = false := by simp [sameEvs, h]
theorem sameEvs_eq {x x' : Nat → CD} {n : Nat} : sameEvs x x' n n = allB (sameEv x x') n := by simp [sameEvs]
def sameI (t t' : ByteArray) (k k' : Int) (a a' : Nat) (b b' : Nat) (c c' : Nat) : Bool := eqT t t' && (k == k') && sameB a a' && sameB b b' && sameB c c'
def sameIn (x x' : Nat → CD) (j : Nat) : Bool := sameI (inT x j) (inT x' j) (inK x j) (inK x' j) (inA x j) (inA x' j) (inB x j) (inB x' j) (inC x j) (inC x' j)
def sameIns (x x' : Nat → CD) (n n' : Nat) : Bool := (n == n') && allB (sameIn x x') n
theorem sameIns_ne {x x' : Nat → CD} {n n' : Nat} (h : n ≠ n') : sameIns x x' n n' = false := by simp [sameIns, h]
theorem sameIns_eq {x x' : Nat → CD} {n : Nat} : sameIns x x' n n = allB (sameIn x x') n := by simp [sameIns]
def InsOk (x : Nat → CD) (n : Nat) : Prop := ∀ k, k < n → x (k * 5) = .str (inT x k) ∧ x (k * 5 + 1) = .int .i64 (inK x k) ∧ (x (k * 5 + 2)).flk = some .f32 ∧ (x (k * 5 + 3)).flk = some .f32 ∧ (x (k * 5 + 4)).flk = some .f32
/-- The cells of an instrument in a list. -/
theorem InsOk.vals {x : Nat → CD} {n k B b o cap : Nat} {w : World} (h : InsOk x n) (hr : (CD.sl 5 n x).RdN w B (.slice (some ⟨b, o, none⟩) n cap)) (hk : k < n) : ∃ a1 b1 c1, (fits .f32 a1 ∧ fits .f32 b1 ∧ fits .f32 c1) ∧ (can .f32 a1 = inA x k ∧ can .f32 b1 = inB x k ∧ can .f32 c1 = inC x k) ∧ (inT x k).size ≤ maxLen ∧
    (∀ j v, [Value.string (inT x k), .int .i64 (inK x k), .float .f32 a1, .float .f32 b1, .float .f32 c1][j]? = some v → w.cell? ((⟨b, o + k * 5, none⟩ : Addr).add j) = some v) := by
  obtain ⟨e0, e1, e2, e3, e4⟩ := h k hk
  obtain ⟨u0, c0, r0⟩ := hr.cell (i := k * 5) (by omega)
  obtain ⟨u1, c1, r1⟩ := hr.cell (i := k * 5 + 1) (by omega)
  obtain ⟨u2, c2, r2⟩ := hr.cell (i := k * 5 + 2) (by omega)
  obtain ⟨u3, c3, r3⟩ := hr.cell (i := k * 5 + 3) (by omega)
  obtain ⟨u4, c4, r4⟩ := hr.cell (i := k * 5 + 4) (by omega)
  rw [e0] at r0; rw [e1] at r1
  obtain ⟨rfl, w0⟩ := r0; obtain ⟨rfl, w1⟩ := r1
  obtain ⟨y2, rfl, f2, g2⟩ := r2.rd.fl e2
  obtain ⟨y3, rfl, f3, g3⟩ := r3.rd.fl e3
  obtain ⟨y4, rfl, f4, g4⟩ := r4.rd.fl e4
  refine ⟨y2, y3, y4, ⟨f2, f3, f4⟩, ⟨g2, g3, g4⟩, w0, fun j v hv => ?_⟩
  rw [add_none]
  match j, hv with
  | 0, hv => simp at hv; subst hv; exact c0
  | 1, hv => simp at hv; subst hv; rw [Nat.add_assoc]; exact c1
  | 2, hv => simp at hv; subst hv; rw [Nat.add_assoc]; exact c2
  | 3, hv => simp at hv; subst hv; rw [Nat.add_assoc]; exact c3
  | 4, hv => simp at hv; subst hv; rw [Nat.add_assoc]; exact c4
theorem ins_ok {x : Nat → CD} {n : Nat} {e : Nat → Sh} (h : ∀ i, i < n → ∀ j, j < 5 → ShOk (e j) (x (i * 5 + j))) (h0 : e 0 = .str) (h1 : e 1 = .int .i64) (h2 : e 2 = .flt .f32) (h3 : e 3 = .flt .f32) (h4 : e 4 = .flt .f32) : InsOk x n := fun k hk => by
  have a0 := h k hk 0 (by omega); have a1 := h k hk 1 (by omega); have a2 := h k hk 2 (by omega); have a3 := h k hk 3 (by omega); have a4 := h k hk 4 (by omega)
  rw [h0] at a0; rw [h1] at a1; rw [h2] at a2; rw [h3] at a3; rw [h4] at a4
  obtain ⟨z0, e0⟩ := a0; obtain ⟨z1, e1⟩ := a1
  rw [Nat.add_zero] at e0
  refine ⟨?_, ?_, a2, a3, a4⟩
  · unfold inT; rw [e0]; rfl
  · unfold inK; rw [e1]; rfl
end Go.Fk
namespace Go.Proofs.Ytkcpdddmabkkgaa
open Go.RowKit Go.Fk
end Go.Proofs.Ytkcpdddmabkkgaa

/- The laws' helpers for Tuning, over trees of data. -/
namespace Go.Proofs.Ytkcpdddmabkkgaa
open Go.RowKit Go.Fk
set_option maxRecDepth 100000 in
set_option maxHeartbeats 4000000 in
theorem szU_Tuning (B : Nat) (cs : List CD) (vs : List Value) (m r : Int) (w : World) (h : RdL w B cs vs) (hsh : ShOkL shTuning cs) (h0 : 0 ≤ m) (h1 : m ≤ 1048576) (hr : lessBy m (szL cs) = r) :
    Calls Try.prog 14 #[.agg vs.toArray, .int .i64 m] w (OutI r w) := by
  obtain ⟨c0, cs, rfl, q0, hsh⟩ := hsh.inv
  obtain ⟨c1, cs, rfl, q1, hsh⟩ := hsh.inv
  obtain ⟨c2, cs, rfl, q2, hsh⟩ := hsh.inv
  obtain rfl := hsh.inv0
  obtain ⟨v0, vs, rfl, r0, h⟩ := h.inv
  obtain ⟨v1, vs, rfl, r1, h⟩ := h.inv
  obtain ⟨v2, vs, rfl, r2, h⟩ := h.inv
  obtain rfl := h.inv0
  have q0 : c0.flk = some .f32 := q0
  obtain ⟨y0, rfl, f0, e0⟩ := r0.fl q0
  have q1 : c1.flk = some .f32 := q1
  obtain ⟨y1, rfl, f1, e1⟩ := r1.fl q1
  obtain ⟨n2, x2, rfl, q2⟩ := q2
  obtain ⟨a0, ha0⟩ : ∃ a : Nat, a = CD.sz (.sl 1 n2 x2) := ⟨_, rfl⟩
  have H0 := hid (fun (m r : Int) (w' : World) (hl : le w w') (h0 : 0 ≤ m) (h1 : m ≤ 1048576) (hr : lessBy m a0 = r) => szU_Float32S B _ _ v2 m r w' (r2.le hl) q2 h0 h1 (ha0 ▸ hr))
  replace hr : Hid (lessBy m (a0) = r) := by rw [← hr]; congr 1; try (first | (simp only [szL, List.map_cons, List.map_nil, List.sum_cons, List.sum_nil, CD.sz, ha0, CD.sz_fl q0, CD.sz_fl q1]; done) | (simp only [szL, List.map_cons, List.map_nil, List.sum_cons, List.sum_nil, CD.sz, ha0, CD.sz_fl q0, CD.sz_fl q1]; omega))
  clear ha0
  have F := (Frg.nil w).box 25 #[.float .f32 y0, .float .f32 y1, v2]
  by_cases g0 : m - (a0 : Int) < 0
  · have er : r = -1 := by have := hr.out; rw [lessBy_neg (by omega)] at this; omega
    subst er
    clear hr
    go_enter Try.func14, Try.ntmps14
    go_wp2_with (first | ((with_reducible refine at_load rfl ?_); first | (with_reducible refine wpList_load1 F rfl rfl rfl (by first | exact m0) (f := 0) (v := .float .f32 y0) rfl ukindFloat32 ?_) | (with_reducible refine wpList_load1 F rfl rfl rfl (by first | exact m0) (f := 1) (v := .float .f32 y1) rfl ukindFloat32 ?_) | (with_reducible refine wpList_load1 F rfl rfl rfl (by first | exact m0) (f := 2) (v := v2) rfl ukindFloat32S ?_)) | (go_at_call 30; ((with_reducible refine (H0.out m (-1 : Int) _ F.below (by omega) (by omega) (by exact lessBy_neg (by omega))).mono ?_); rintro e w1 ⟨rfl, hl⟩; replace F := F.le hl; clear hl)))
    go_ret
    exact ⟨rfl, F.below⟩
  · skip
    have er : r = (m - (a0 : Int)) := by have := hr.out; rw [lessBy_pos (by omega)] at this; omega
    subst er
    clear hr
    go_enter Try.func14, Try.ntmps14
    go_wp2_with (first | ((with_reducible refine at_load rfl ?_); first | (with_reducible refine wpList_load1 F rfl rfl rfl (by first | exact m0) (f := 0) (v := .float .f32 y0) rfl ukindFloat32 ?_) | (with_reducible refine wpList_load1 F rfl rfl rfl (by first | exact m0) (f := 1) (v := .float .f32 y1) rfl ukindFloat32 ?_) | (with_reducible refine wpList_load1 F rfl rfl rfl (by first | exact m0) (f := 2) (v := v2) rfl ukindFloat32S ?_)) | (go_at_call 30; ((with_reducible refine (H0.out m (m - (a0 : Int)) _ F.below (by omega) (by omega) (by exact lessBy_pos (by omega))).mono ?_); rintro e w1 ⟨rfl, hl⟩; replace F := F.le hl; clear hl)))
    go_ret
    exact ⟨rfl, F.below⟩
set_option maxRecDepth 100000 in
set_option maxHeartbeats 4000000 in
theorem eqU_Tuning (B B' : Nat) (cs : List CD) (vs vs' : List Value) (w : World) (h : RdL w B cs vs) (h' : RdL w B' cs vs') (hsh : ShOkL shTuning cs) (hz : szL cs ≤ 1048576) :
    Calls Try.prog 27 #[.agg vs.toArray, .agg vs'.toArray] w (OutT w) := by
  obtain ⟨c0, cs, rfl, q0, hsh⟩ := hsh.inv
  obtain ⟨c1, cs, rfl, q1, hsh⟩ := hsh.inv
  obtain ⟨c2, cs, rfl, q2, hsh⟩ := hsh.inv
  obtain rfl := hsh.inv0
  obtain ⟨v0, vs, rfl, r0, h⟩ := h.inv
  obtain ⟨v1, vs, rfl, r1, h⟩ := h.inv
  obtain ⟨v2, vs, rfl, r2, h⟩ := h.inv
  obtain rfl := h.inv0
  obtain ⟨v0', vs', rfl, r0', h'⟩ := h'.inv
  obtain ⟨v1', vs', rfl, r1', h'⟩ := h'.inv
  obtain ⟨v2', vs', rfl, r2', h'⟩ := h'.inv
  obtain rfl := h'.inv0
  have q0 : c0.flk = some .f32 := q0
  obtain ⟨y0, rfl, f0, e0⟩ := r0.fl q0
  obtain ⟨y0', rfl, f0', e0'⟩ := r0'.fl q0
  have q1 : c1.flk = some .f32 := q1
  obtain ⟨y1, rfl, f1, e1⟩ := r1.fl q1
  obtain ⟨y1', rfl, f1', e1'⟩ := r1'.fl q1
  have HZ := hid hz
  have E0 := hid (e0.trans e0'.symm)
  have E1 := hid (e1.trans e1'.symm)
  obtain ⟨n2, x2, rfl, q2⟩ := q2
  have H2 := hid (fun (w' : World) (hl : le w w') => eqU_Float32S B B' _ _ v2 v2' w' (r2.le hl) (r2'.le hl) q2 (szC_le HZ.out 2 rfl))
  have F := ((Frg.nil w).box 34 #[.float .f32 y0, .float .f32 y1, v2]).box 34 #[.float .f32 y0', .float .f32 y1', v2']
  simp only [World.size_alloc] at F
  clear hz HZ
  go_enter Try.func27, Try.ntmps27
  go_wp2_with (first | ((with_reducible refine listN F ?_); clear F; intro wN F) | ((with_reducible refine at_load rfl ?_); first | (with_reducible refine wpList_load1 F rfl rfl rfl (by first | exact m0 | exact m1) (f := 0) (v := .float .f32 y0) rfl ukindFloat32 ?_) | (with_reducible refine wpList_load1 F rfl rfl rfl (by first | exact m0 | exact m1) (f := 1) (v := .float .f32 y1) rfl ukindFloat32 ?_) | (with_reducible refine wpList_load1 F rfl rfl rfl (by first | exact m0 | exact m1) (f := 2) (v := v2) rfl ukindFloat32S ?_) | (with_reducible refine wpList_load1 F rfl rfl rfl (by first | exact m0 | exact m1) (f := 0) (v := .float .f32 y0') rfl ukindFloat32 ?_) | (with_reducible refine wpList_load1 F rfl rfl rfl (by first | exact m0 | exact m1) (f := 1) (v := .float .f32 y1') rfl ukindFloat32 ?_) | (with_reducible refine wpList_load1 F rfl rfl rfl (by first | exact m0 | exact m1) (f := 2) (v := v2') rfl ukindFloat32S ?_)) | (go_at_call 46; ((with_reducible refine (H2.out _ F.below).mono ?_); rintro e w1 ⟨rfl, hl⟩; replace F := F.le hl; clear hl)) | ((with_reducible refine at_convert rfl ?_); (with_reducible refine wpList_widen rfl rfl rfl Try.underlying22 Try.underlying64 ?_; intro s1 n1 h1 f1)) | (go_at_call 26; ((with_reducible refine (sameFloat_yes _ _ _ (by first | exact (Hid.out ‹Hid (can .f64 _ = can .f64 (widen y0))›).trans ((congrArg (can .f64) (widen_congr E0.out)).trans (Hid.out ‹Hid (can .f64 _ = can .f64 (widen y0'))›).symm) | exact (Hid.out ‹Hid (can .f64 _ = can .f64 (widen y1))›).trans ((congrArg (can .f64) (widen_congr E1.out)).trans (Hid.out ‹Hid (can .f64 _ = can .f64 (widen y1'))›).symm))).mono ?_); rintro e w7 ⟨rfl, dq7, rfl⟩; skip)))
  go_ret
  first | exact ⟨rfl, F.below⟩ | exact ⟨rfl, below_drewN F.below _⟩
theorem invf_Tuning {w : World} {S : Nat → Prop} {us : List Value} (c0 : CD) (c1 : CD) (n2 : Nat) (x2 : Nat → CD) (q0 : c0.flk = some .f32) (q1 : c1.flk = some .f32) (h : LayL w S (([(c0), (c1), (.sl 1 n2 x2)] : List CD).map CD.cp) us) : ∃ (g0 : Nat) (g1 : Nat) (u2 : Value), u2.oneCell' = true ∧ us = [.float .f32 g0, .float .f32 g1, u2] ∧ LayL w S (([(c0), (c1), (.sl 1 n2 x2)] : List CD).map CD.cp) [.float .f32 g0, .float .f32 g1, u2] := by
  have h0 := h
  simp only [List.map_cons, List.map_nil] at h
  obtain ⟨u0, us0, _, _, rfl, l0, hh0, _, _, _⟩ := h.inv
  obtain ⟨g0, rfl⟩ := lay_fl q0 l0
  obtain ⟨u1, us1, _, _, rfl, l1, hh1, _, _, _⟩ := hh0.inv
  obtain ⟨g1, rfl⟩ := lay_fl q1 l1
  obtain ⟨u2, us2, _, _, rfl, l2, hh2, _, _, _⟩ := hh1.inv
  obtain rfl := hh2.inv0
  exact ⟨g0, g1, u2, l2.one, rfl, h0⟩
set_option maxRecDepth 100000 in
set_option maxHeartbeats 4000000 in
theorem toU_Tuning (B : Nat) (cs : List CD) (vs : List Value) (w : World) (h : RdL w B cs vs) (hsh : ShOkL shTuning cs) (hz : szL cs ≤ 1048576) :
    Calls Try.prog 19 #[.agg vs.toArray] w (OutA' (cs.map CD.cp) w) := by
  obtain ⟨c0, cs, rfl, q0, hsh⟩ := hsh.inv
  obtain ⟨c1, cs, rfl, q1, hsh⟩ := hsh.inv
  obtain ⟨c2, cs, rfl, q2, hsh⟩ := hsh.inv
  obtain rfl := hsh.inv0
  obtain ⟨v0, vs, rfl, r0, h⟩ := h.inv
  obtain ⟨v1, vs, rfl, r1, h⟩ := h.inv
  obtain ⟨v2, vs, rfl, r2, h⟩ := h.inv
  obtain rfl := h.inv0
  have q0 : c0.flk = some .f32 := q0
  obtain ⟨y0, rfl, f0, e0⟩ := r0.fl q0
  have q1 : c1.flk = some .f32 := q1
  obtain ⟨y1, rfl, f1, e1⟩ := r1.fl q1
  have HZ := hid hz
  obtain ⟨n2, x2, rfl, q2⟩ := q2
  have H2 := hid (fun (w' : World) (hl : le w w') => toU_Float32S B _ _ v2 w' (r2.le hl) q2 (szC_le HZ.out 2 rfl))
  have F := (((Frg.nil w).box 25 #[.float .f32 y0, .float .f32 y1, v2]).box 34 #[.float .f32 0, .float .f32 0, .slice none 0 0]).box 34 #[.float .f32 0, .float .f32 0, .slice none 0 0]
  simp only [World.size_alloc] at F
  clear hz HZ
  go_enter Try.func19, Try.ntmps19
  go_wp2_with (first | ((with_reducible refine listN F ?_); clear F; intro wN F) | ((with_reducible refine at_load rfl ?_); first | (with_reducible refine wpList_load1 F rfl rfl rfl (by first | exact m0 | exact m1 | exact m2 | exact m3) (f := 0) (v := .float .f32 y0) rfl ukindFloat32 ?_) | (with_reducible refine wpList_load1 F rfl rfl rfl (by first | exact m0 | exact m1 | exact m2 | exact m3) (f := 1) (v := .float .f32 y1) rfl ukindFloat32 ?_) | (with_reducible refine wpList_load1 F rfl rfl rfl (by first | exact m0 | exact m1 | exact m2 | exact m3) (f := 2) (v := v2) rfl ukindFloat32S ?_)) | (with_reducible refine stop_store rfl ?_))
  show wpList _ _ _ _ _ _
  refine wpList_store1 rfl rfl (f := 0) rfl rfl (F.row m0) uinfo1Float32 (by simp) rfl #[.float .f32 y0, .float .f32 0, .slice none 0 0] rfl (fun w2 K => ?_)
  replace F := F.wrI0 (cs' := #[.float .f32 y0, .float .f32 0, .slice none 0 0]) K
  clear K
  go_wp2_with (first | ((with_reducible refine listN F ?_); clear F; intro wN F) | ((with_reducible refine at_load rfl ?_); first | (with_reducible refine wpList_load1 F rfl rfl rfl (by first | exact m0 | exact m1 | exact m2 | exact m3) (f := 0) (v := .float .f32 y0) rfl ukindFloat32 ?_) | (with_reducible refine wpList_load1 F rfl rfl rfl (by first | exact m0 | exact m1 | exact m2 | exact m3) (f := 1) (v := .float .f32 y1) rfl ukindFloat32 ?_) | (with_reducible refine wpList_load1 F rfl rfl rfl (by first | exact m0 | exact m1 | exact m2 | exact m3) (f := 2) (v := v2) rfl ukindFloat32S ?_)) | (with_reducible refine stop_store rfl ?_))
  show wpList _ _ _ _ _ _
  refine wpList_store1 rfl rfl (f := 1) rfl rfl (F.row m0) uinfo1Float32 (by simp) rfl #[.float .f32 y0, .float .f32 y1, .slice none 0 0] rfl (fun w2 K => ?_)
  replace F := F.wrI0 (cs' := #[.float .f32 y0, .float .f32 y1, .slice none 0 0]) K
  clear K
  go_wp2_with (first | ((with_reducible refine listN F ?_); clear F; intro wN F) | ((with_reducible refine at_load rfl ?_); first | (with_reducible refine wpList_load1 F rfl rfl rfl (by first | exact m0 | exact m1 | exact m2 | exact m3) (f := 0) (v := .float .f32 y0) rfl ukindFloat32 ?_) | (with_reducible refine wpList_load1 F rfl rfl rfl (by first | exact m0 | exact m1 | exact m2 | exact m3) (f := 1) (v := .float .f32 y1) rfl ukindFloat32 ?_) | (with_reducible refine wpList_load1 F rfl rfl rfl (by first | exact m0 | exact m1 | exact m2 | exact m3) (f := 2) (v := v2) rfl ukindFloat32S ?_)) | (go_at_call 35; ((with_reducible refine (H2.out _ F.below).mono ?_); rintro e w1 ⟨u2, rfl, ho, hl⟩; have O2 := hid ho.one; replace F := F.lay1 hl (LayL.cons ho (LayL.nil _ (fun _ => False)) (fun _ h => h) (fun _ h => h.elim) (fun _ _ h => h)); clear ho hl)) | (with_reducible refine stop_store rfl ?_))
  show wpList _ _ _ _ _ _
  refine wpList_store1 rfl rfl (f := 2) rfl rfl (F.row m1) uinfo1Float32S (by simp) O2.out #[.float .f32 y0, .float .f32 y1, u2] rfl (fun w2 K => ?_)
  replace F := F.wrI1 (cs' := #[.float .f32 y0, .float .f32 y1, u2]) K
  clear K
  go_wp2_with (first | ((with_reducible refine listN F ?_); clear F; intro wN F) | ((with_reducible refine at_load rfl ?_); (with_reducible refine wpList_loadG F rfl rfl rfl (by first | exact m0 | exact m1) Try.underlying34 rfl uinfoTuningI rfl ?_)) | (with_reducible refine stop_store rfl ?_))
  show wpList _ _ _ _ _ _
  refine wpList_storeD rfl rfl rfl (cells := #[.float .f32 y0, .float .f32 y1, u2]) rfl (F.row m2) uinfoTuningI rfl (by (simp only [List.all_toArray', List.all_cons, List.all_nil, Bool.and_true, Bool.true_and, O2.out]) <;> rfl) (fun w6 K => ?_)
  have R := hid K.row
  replace F := F.wrI2 K
  have E0 := Eaten.start F
  replace E0 := Eaten.eat F E0
  replace F := F.tl
  replace E0 := Eaten.leaf (c := CD.cp c1) (v := .float .f32 y1) E0 (r1.leafLay (flk_ne q1))
  replace E0 := Eaten.leaf (c := CD.cp c0) (v := .float .f32 y0) E0 (r0.leafLay (flk_ne q0))
  have L := hid (show LayL _ _ _ _ ∧ le w _ from ⟨E0.fin, F.below⟩)
  clear K F E0
  go_wp2
  exact bodyPost_ret (results_row1 rfl _ _ _ _ _ rfl R.out Try.underlying34 rfl uinfoTuningI) rfl ⟨[.float .f32 y0, .float .f32 y1, u2], rfl, L.out.1, L.out.2⟩
end Go.Proofs.Ytkcpdddmabkkgaa

/- The laws' helpers for []Instrument, over trees of data. -/
namespace Go.Proofs.Ytkcpdddmabkkgaa
open Go.RowKit Go.Fk
theorem sz_elInstrument (x : Nat → CD) (k : Nat) : sumTo (fun i => (x i).sz) ((k + 1) * 5) = sumTo (fun i => (x i).sz) (k * 5) + szL ((List.range 5).map (fun j => x (k * 5 + j))) := by
  rw [Nat.succ_mul, sumTo_add]; (simp [szL, sumTo, List.range_succ, List.sum_append]) <;> omega
theorem sz_atInstrument {n : Nat} (x : Nat → CD) (k : Nat) (hk : k < n) : sumTo (fun i => (x i).sz) (k * 5) + szL ((List.range 5).map (fun j => x (k * 5 + j))) ≤ sumTo (fun i => (x i).sz) (n * 5) := by
  rw [← sz_elInstrument]; exact sumTo_le _ (Nat.mul_le_mul_right _ hk)
set_option maxRecDepth 100000 in
set_option maxHeartbeats 4000000 in
theorem szU_InstrumentS (B n : Nat) (x : Nat → CD) (s : Value) (m r : Int) (w : World) (h : (CD.sl 5 n x).Rd w B s) (hsh : ∀ i, i < n → ∀ j, j < 5 → ShOk (shInstrument.getD j .bool) (x (i * 5 + j))) (h0 : 0 ≤ m) (h1 : m ≤ 1048576) (hr : lessBy m (CD.sz (CD.sl 5 n x)) = r) :
    Calls Try.prog 15 #[s, .int .i64 m] w (OutI r w) := by
  have hsm := h.small
  have hrd := hid h
  simp only [CD.sz] at hr
  have hr := hid hr
  by_cases g0 : m - (n : Int) < 0
  · have er : r = -1 := by have := hr.out; rw [lessBy_neg (by omega)] at this; omega
    subst er
    clear hr h
    go_enter Try.func15, Try.ntmps15
    go_wp2_with ((with_reducible refine wpList_lenC rfl rfl rfl Try.underlying26 hrd.out ?_))
    go_ret
    exact ⟨rfl, le_refl _⟩
  have hn : n ≤ 1048576 := by omega
  rcases h.form with ⟨rfl, rfl⟩ | ⟨a, cap, rfl, hc, hm⟩
  · have er : r = m := by have := hr.out; simp [sumTo, lessBy] at this; omega
    subst er
    clear hr h hrd
    go_enter Try.func15, Try.ntmps15
    go_wp2
    go_loop [1, 5] (fun q i => q = .int .i64 r ∧ i = .int .i64 0) (fun _ _ => 0)
    case atStart => exact ⟨by simp, rfl⟩
    case round =>
      obtain ⟨rfl, rfl⟩ := hrel
      go_wp2
      go_ret
      exact ⟨rfl, le_refl _⟩
  · have HE := hid (fun k (hk : k < n) => h.elem hk)
    have HQ := hid hsh
    unfold maxLen at hm
    clear h hrd hsh
    go_enter Try.func15, Try.ntmps15
    go_wp2
    go_loopw [1, 5] (fun q i wr => ∃ k S : Nat, k ≤ n ∧ i = .int .i64 k ∧ q = .int .i64 (m - n - (S : Int)) ∧ Hid (S = sumTo (fun i => (x i).sz) (k * 5)) ∧ Hid (0 ≤ m - n - (S : Int)) ∧ Hid (le w wr)) (fun _ i _ => n - (intOf i).toNat)
    case atStart => exact ⟨0, 0, by omega, rfl, by simp, by simp [sumTo, Hid], by show (0 : Int) ≤ m - n - ((0 : Nat) : Int); omega, le_refl _⟩
    case round =>
      obtain ⟨k, S, hk, rfl, rfl, HS, HP, HL⟩ := hrel
      rename_i wr _
      have hp := HP.out
      by_cases hlt : k < n
      · obtain ⟨vs, hvl, hvc, hvr⟩ := HE.out k hlt
        have hvc' := hid (fun j v (hv : vs[j]? = some v) => (Below.cell HL.out (cell_lt' (hvc j v hv))).trans (hvc j v hv))
        obtain ⟨E, hE⟩ : ∃ E : Nat, E = szL ((List.range 5).map (fun j => x (k * 5 + j))) := ⟨_, rfl⟩
        have hel := sz_elInstrument x k
        have hat := sz_atInstrument x k hlt
        rw [← HS.out, ← hE] at hel hat
        have HZ := hid (fun (q r : Int) (w' : World) (hl : le wr w') (h0 : 0 ≤ q) (h1 : q ≤ 1048576) (hr : lessBy q E = r) => szU_Instrument B ((List.range 5).map (fun j => x (k * 5 + j))) vs q r w' (hvr.le (le_trans HL.out hl)) (ShOk.elem (l := shInstrument) HQ.out hlt) h0 h1 (hE ▸ hr))
        have hvl := hid hvl
        have Hel := hid hel
        clear hvc hvr hel hE
        by_cases g1 : m - n - (S : Int) - (E : Int) < 0
        · have er : r = -1 := by have := hr.out; rw [lessBy_neg (by omega)] at this; omega
          subst er
          clear hr hat
          go_wp2_with (first | (with_reducible refine wpList_indexW rfl rfl rfl rfl Try.underlying26 uinfoInstrumentL hlt ?_) | ((with_reducible refine at_load rfl ?_); (with_reducible refine wpList_loadW rfl rfl rfl vs hvc'.out Try.underlying71 rfl uinfoInstrumentL hvl.out ?_)) | (go_at_call 31; ((with_reducible refine (HZ.out (m - n - (S : Int)) (-1) _ (le_refl _) (by omega) (by omega) (lessBy_neg (by omega))).mono ?_); rintro e w1 ⟨rfl, hl⟩; have HL1 := hid (le_trans HL.out hl); clear hl)))
          go_ret
          exact ⟨rfl, HL1.out⟩
        · clear hr hat
          go_wp2_with (first | (with_reducible refine wpList_indexW rfl rfl rfl rfl Try.underlying26 uinfoInstrumentL hlt ?_) | ((with_reducible refine at_load rfl ?_); (with_reducible refine wpList_loadW rfl rfl rfl vs hvc'.out Try.underlying71 rfl uinfoInstrumentL hvl.out ?_)) | (go_at_call 31; ((with_reducible refine (HZ.out (m - n - (S : Int)) (m - n - (S : Int) - (E : Int)) _ (le_refl _) (by omega) (by omega) (lessBy_pos g1)).mono ?_); rintro e w1 ⟨rfl, hl⟩; have HL1 := hid (le_trans HL.out hl); clear hl)))
          go_roundw
          case rel => exact ⟨k + 1, S + E, by omega, by go_num, by go_num, Hel.out.symm, by show (0 : Int) ≤ m - n - ((S + E : Nat) : Int); omega, HL1.out⟩
          case measure => simp [intOf]; omega
      · obtain rfl : k = n := by omega
        have er : r = m - k - (S : Int) := by have := hr.out; have h2 := HS.out; rw [← h2, lessBy_pos (by omega)] at this; omega
        subst er
        clear hr
        go_wp2
        go_ret
        exact ⟨rfl, HL.out⟩
set_option maxRecDepth 100000 in
set_option maxHeartbeats 4000000 in
theorem toU_InstrumentS (B n : Nat) (x : Nat → CD) (s : Value) (w : World) (h : (CD.sl 5 n x).Rd w B s) (hsh : ∀ i, i < n → ∀ j, j < 5 → ShOk (shInstrument.getD j .bool) (x (i * 5 + j))) (hz : CD.sz (CD.sl 5 n x) ≤ 1048576) :
    Calls Try.prog 20 #[s] w (OutC (CD.sl 5 n x).cp w) := by
  simp only [CD.sz] at hz
  have hn : n ≤ 1048576 := by omega
  obtain ⟨cs0, hcs, HM⟩ := makeW_Instrument n hn
  have HP0 : Hid (Part (w.alloc (.cells cs0 74)) w.heap.size 74 5 n 0 (fun i => (x i).cn)) := Part.zero (Row.new w _ _) hcs
  have HL0 := hid (le_alloc w (.cells cs0 74))
  rcases h.form with ⟨rfl, rfl⟩ | ⟨a, cap, rfl, hc, hm⟩
  · simp only [Int.natCast_zero] at HM
    clear h hsh hz hcs
    go_enter Try.func20, Try.ntmps20
    go_wp2
    go_loopw [4] (fun i wr => i = .int .i64 0 ∧ wr = w.alloc (.cells cs0 74)) (fun i _ => 0)
    case atStart => exact ⟨rfl, rfl⟩
    case round =>
      obtain ⟨rfl, rfl⟩ := hrel
      go_wp2
      go_ret
      exact ⟨_, rfl, HP0.out.full (by decide) (fun j h1 h2 => ⟨h1, h2⟩), HL0.out⟩
  · have HE := hid (fun k (hk : k < n) => h.elem hk)
    have HQ := hid hsh
    have HZ := hid hz
    unfold maxLen at hm
    clear h hsh hz hcs
    go_enter Try.func20, Try.ntmps20
    go_wp2
    go_loopw [4] (fun i wr => ∃ k : Nat, k ≤ n ∧ i = .int .i64 k ∧ Hid (Part wr w.heap.size 74 5 n k (fun i => (x i).cn)) ∧ Hid (le w wr)) (fun i _ => n - (intOf i).toNat)
    case atStart => exact ⟨0, by omega, rfl, HP0.out, HL0.out⟩
    case round =>
      obtain ⟨k, hk, rfl, HP, HL⟩ := hrel
      rename_i wr _
      by_cases hlt : k < n
      · obtain ⟨vs, hvl, hvc, hvr⟩ := HE.out k hlt
        have hat := sz_atInstrument x k hlt
        have hvc' := hid (fun j v (hv : vs[j]? = some v) => (Below.cell HL.out (cell_lt' (hvc j v hv))).trans (hvc j v hv))
        have HT := hid (fun (w' : World) (hl : le wr w') => toU_Instrument B _ vs w' (hvr.le (le_trans HL.out hl)) (ShOk.elem (l := shInstrument) HQ.out hlt) (by have := HZ.out; omega))
        have hvl := hid hvl
        clear hvc hvr hat
        go_wp2_with (first | (with_reducible refine wpList_indexW0 rfl rfl rfl rfl Try.underlying35 uinfoInstrumentI hlt ?_) | (with_reducible refine wpList_indexW rfl rfl rfl rfl Try.underlying26 uinfoInstrumentL hlt ?_) | ((with_reducible refine at_load rfl ?_); (with_reducible refine wpList_loadW rfl rfl rfl vs hvc'.out Try.underlying71 rfl uinfoInstrumentL hvl.out ?_)) | (go_at_call 36; ((with_reducible refine (HT.out _ (le_refl _)).mono ?_); rintro e w1 ⟨us, rfl, ho, hl⟩; have HO := hid ho; have HL1 := hid hl; clear ho hl)) | (with_reducible refine stop_store rfl ?_))
        show wpList _ _ _ _ _ _
        obtain ⟨cs1, hr1, hs1⟩ := HP.out.row
        have hul : us.length = 5 := by have := HO.out.1; simpa using this
        have hend : k * 5 + 5 ≤ n * 5 := by rw [← Nat.succ_mul]; exact Nat.mul_le_mul_right _ hlt
        refine wpList_storeP rfl rfl rfl (f := k * 5) (cells := us) rfl (hr1.le HL1.out) (by rw [hul]; exact uinfoInstrumentI) (by omega) HO.out.all_one (fun w2 K => ?_)
        have HP2 := hid (HP.out.step hlt HL1.out (by have := HO.out.cn; simpa [List.map_map, Function.comp_def] using this) (hr1.le HL1.out) K)
        have HL2 := hid (K.below _ _ (le_trans HL.out HL1.out) (Nat.le_refl _))
        clear K hr1 hs1 hul hend
        go_wp2
        go_roundw
        case rel => exact ⟨k + 1, by omega, by go_num, HP2.out, HL2.out⟩
        case measure => simp [intOf]; omega
      · obtain rfl : k = n := by omega
        go_wp2
        go_ret
        exact ⟨_, rfl, HP.out.full (by unfold maxLen; omega) (fun j h1 h2 => ⟨h1, h2⟩), HL.out⟩
set_option maxRecDepth 100000 in
set_option maxHeartbeats 4000000 in
theorem eqU_InstrumentS (B B' n : Nat) (x : Nat → CD) (s s' : Value) (w : World) (h : (CD.sl 5 n x).Rd w B s) (h' : (CD.sl 5 n x).Rd w B' s') (hsh : ∀ i, i < n → ∀ j, j < 5 → ShOk (shInstrument.getD j .bool) (x (i * 5 + j))) (hz : CD.sz (CD.sl 5 n x) ≤ 1048576) :
    Calls Try.prog 28 #[s, s'] w (OutT w) := by
  have hzz := hid hz
  simp only [CD.sz] at hz
  by_cases h0 : n = 0
  · have hrd := hid h; have hrd' := hid h'
    subst h0
    clear h h' hz hzz hsh
    go_enter Try.func28, Try.ntmps28
    go_wp2_with (first | (with_reducible refine wpList_lenC rfl rfl rfl Try.underlying35 hrd.out ?_) | (with_reducible refine wpList_lenC rfl rfl rfl Try.underlying35 hrd'.out ?_))
    go_loop [5] (fun i => i = .int .i64 0) (fun _ => 0)
    case atStart => rfl
    case round =>
      obtain rfl := hrel
      go_wp2_with (first | (with_reducible refine wpList_lenC rfl rfl rfl Try.underlying35 hrd.out ?_) | (with_reducible refine wpList_lenC rfl rfl rfl Try.underlying35 hrd'.out ?_))
      go_ret
      exact ⟨rfl, le_refl _⟩
  have HE := hid (fun k (hk : k < n) a cap (e : s = .slice (some a) n cap) => (CD.Rd.elem (w := w) (B := B) (wd := 5) (x := x) (cap := cap) (a := a) (e ▸ h) hk))
  have HE' := hid (fun k (hk : k < n) a cap (e : s' = .slice (some a) n cap) => (CD.Rd.elem (w := w) (B := B') (wd := 5) (x := x) (cap := cap) (a := a) (e ▸ h') hk))
  rcases h.form with ⟨_, e0⟩ | ⟨a, cap, rfl, hc, hm⟩
  · exact absurd e0 h0
  rcases h'.form with ⟨_, e0⟩ | ⟨a', cap', rfl, hc', hm'⟩
  · exact absurd e0 h0
  have HQ := hid hsh
  unfold maxLen at hm hm'
  clear h h' hsh h0
  go_enter Try.func28, Try.ntmps28
  go_wp2
  go_loopw [5] (fun i wr => ∃ k : Nat, k ≤ n ∧ i = .int .i64 k ∧ Hid (le w wr)) (fun i _ => n - (intOf i).toNat)
  case atStart => exact ⟨0, by omega, rfl, le_refl _⟩
  case round =>
    obtain ⟨k, hk, rfl, HL⟩ := hrel
    rename_i wr _
    by_cases hlt : k < n
    · obtain ⟨vs, hvl, hvc, hvr⟩ := HE.out k hlt a cap rfl
      obtain ⟨vs', hvl', hvc', hvr'⟩ := HE'.out k hlt a' cap' rfl
      have hat := sz_atInstrument x k hlt
      have HQE := hid (fun (w' : World) (hl : le wr w') => eqU_Instrument B B' _ vs vs' w' (hvr.le (le_trans HL.out hl)) (hvr'.le (le_trans HL.out hl)) (ShOk.elem (l := shInstrument) HQ.out hlt) (by omega))
      have gvc := hid (fun (w' : World) (hl : le wr w') j v (hv : vs[j]? = some v) => (Below.cell (le_trans HL.out hl) (cell_lt' (hvc j v hv))).trans (hvc j v hv))
      have gvc' := hid (fun (w' : World) (hl : le wr w') j v (hv : vs'[j]? = some v) => (Below.cell (le_trans HL.out hl) (cell_lt' (hvc' j v hv))).trans (hvc' j v hv))
      have hvl := hid hvl; have hvl' := hid hvl'
      clear hvc hvr hvc' hvr' hat
      go_wp2_with fail
      refine region_freeD (E := leX) (fun f args w v => v = .bool true) (by kernel_rfl) (by kernel_rfl) ?_
      refine wpFreeD_one rfl (.slice (some a) n cap) (fun w1 _ => by kernel_rfl) ?_
      simp only [Act.put, List.setIfInBounds_toArray, List.set_cons_succ, List.set_cons_zero]
      refine wpFreeD_one rfl (.int .i64 k) (fun w1 _ => by kernel_rfl) ?_
      simp only [Act.put, List.setIfInBounds_toArray, List.set_cons_succ, List.set_cons_zero]
      refine wpFreeD_indexW rfl rfl rfl rfl Try.underlying35 uinfoInstrumentI hlt ?_
      simp only [Act.put, List.setIfInBounds_toArray, List.set_cons_succ, List.set_cons_zero]
      refine wpFreeD_loadW rfl rfl rfl vs (fun w1 h1 j v hv => gvc.out w1 (le_trans (le_drewN _ _) h1) j v hv) Try.underlying74 rfl uinfoInstrumentI hvl.out ?_
      simp only [Act.put, List.setIfInBounds_toArray, List.set_cons_succ, List.set_cons_zero]
      refine wpFreeD_one rfl (.slice (some a') n cap') (fun w1 _ => by kernel_rfl) ?_
      simp only [Act.put, List.setIfInBounds_toArray, List.set_cons_succ, List.set_cons_zero]
      refine wpFreeD_one rfl (.int .i64 k) (fun w1 _ => by kernel_rfl) ?_
      simp only [Act.put, List.setIfInBounds_toArray, List.set_cons_succ, List.set_cons_zero]
      refine wpFreeD_indexW rfl rfl rfl rfl Try.underlying35 uinfoInstrumentI hlt ?_
      simp only [Act.put, List.setIfInBounds_toArray, List.set_cons_succ, List.set_cons_zero]
      refine wpFreeD_loadW rfl rfl rfl vs' (fun w1 h1 j v hv => gvc'.out w1 (le_trans (le_drewN _ _) h1) j v hv) Try.underlying74 rfl uinfoInstrumentI hvl'.out ?_
      simp only [Act.put, List.setIfInBounds_toArray, List.set_cons_succ, List.set_cons_zero]
      refine wpFreeD_callB rfl rfl Try.func47 (by kernel_rfl) (by kernel_rfl) (args := #[.agg vs.toArray, .agg vs'.toArray]) (by simp [Act.eval]) (fun v w1 w2 hw hv => hv) (fun w1 hw1 _ => (HQE.out w1 (le_trans (le_drewN _ _) hw1)).mono ?_) ?_
      · rintro e w2 ⟨rfl, hl⟩
        exact ⟨_, rfl, hl, rfl⟩
      rintro v ⟨_, _, _, rfl⟩
      simp only [Act.put, List.setIfInBounds_toArray, List.set_cons_succ, List.set_cons_zero]
      refine wpFreeD_one rfl (.bool false) (fun w1 _ => by kernel_rfl) ?_
      simp only [Act.put, List.setIfInBounds_toArray, List.set_cons_succ, List.set_cons_zero]
      refine wpFreeD_nil (fun wR hwR _ => ?_)
      have HL1 := hid (le_trans HL.out (le_trans (le_drewN _ _) hwR))
      clear hwR
      go_wp2
      go_roundw
      case rel => exact ⟨k + 1, by omega, by go_num, HL1.out⟩
      case measure => simp [intOf]; omega
    · obtain rfl : k = n := by omega
      go_wp2
      go_ret
      exact ⟨rfl, HL.out⟩
end Go.Proofs.Ytkcpdddmabkkgaa

/- The laws' helpers for Score, over trees of data. -/
namespace Go.Proofs.Ytkcpdddmabkkgaa
open Go.RowKit Go.Fk
set_option maxRecDepth 100000 in
set_option maxHeartbeats 4000000 in
theorem szU_Score (B : Nat) (cs : List CD) (vs : List Value) (m r : Int) (w : World) (h : RdL w B cs vs) (hsh : ShOkL shScore cs) (h0 : 0 ≤ m) (h1 : m ≤ 1048576) (hr : lessBy m (szL cs) = r) :
    Calls Try.prog 9 #[.agg vs.toArray, .int .i64 m] w (OutI r w) := by
  obtain ⟨c0, cs, rfl, q0, hsh⟩ := hsh.inv
  obtain ⟨c1, cs, rfl, q1, hsh⟩ := hsh.inv
  obtain ⟨c2, cs, rfl, q2, hsh⟩ := hsh.inv
  obtain ⟨c3, cs, rfl, q3, hsh⟩ := hsh.inv
  obtain ⟨c4, cs, rfl, q4, hsh⟩ := hsh.inv
  obtain ⟨c5, cs, rfl, q5, hsh⟩ := hsh.inv
  obtain rfl := hsh.inv0
  obtain ⟨v0, vs, rfl, r0, h⟩ := h.inv
  obtain ⟨v1, vs, rfl, r1, h⟩ := h.inv
  obtain ⟨v2, vs, rfl, r2, h⟩ := h.inv
  obtain ⟨v3, vs, rfl, r3, h⟩ := h.inv
  obtain ⟨v4, vs, rfl, r4, h⟩ := h.inv
  obtain ⟨v5, vs, rfl, r5, h⟩ := h.inv
  obtain rfl := h.inv0
  have q0 : c0.flk = some .f32 := q0
  obtain ⟨y0, rfl, f0, e0⟩ := r0.fl q0
  have q1 : c1.flk = some .f32 := q1
  obtain ⟨y1, rfl, f1, e1⟩ := r1.fl q1
  have q2 : c2.flk = some .f32 := q2
  obtain ⟨y2, rfl, f2, e2⟩ := r2.fl q2
  obtain ⟨a0, ha0⟩ : ∃ a : Nat, a = szL [c1, c2, c3] := ⟨_, rfl⟩
  have H0 := hid (fun (m r : Int) (w' : World) (hl : le w w') (h0 : 0 ≤ m) (h1 : m ≤ 1048576) (hr : lessBy m a0 = r) => szU_Tuning B _ [.float .f32 y1, .float .f32 y2, v3] m r w' (RdL.cons (c := c1) (r1.le hl) (RdL.cons (c := c2) (r2.le hl) (RdL.cons (c := c3) (r3.le hl) (RdL.nil _ _)))) (ShOkL.cons q1 (ShOkL.cons q2 (ShOkL.cons q3 (ShOkL.nil)))) h0 h1 (ha0 ▸ hr))
  obtain ⟨n4, x4, rfl, q4⟩ := q4
  obtain ⟨a1, ha1⟩ : ∃ a : Nat, a = CD.sz (.sl 5 n4 x4) := ⟨_, rfl⟩
  have H1 := hid (fun (m r : Int) (w' : World) (hl : le w w') (h0 : 0 ≤ m) (h1 : m ≤ 1048576) (hr : lessBy m a1 = r) => szU_InstrumentS B _ _ v4 m r w' (r4.le hl) q4 h0 h1 (ha1 ▸ hr))
  obtain ⟨n5, x5, rfl, q5⟩ := q5
  obtain ⟨a2, ha2⟩ : ∃ a : Nat, a = CD.sz (.sl 6 n5 x5) := ⟨_, rfl⟩
  have H2 := hid (fun (m r : Int) (w' : World) (hl : le w w') (h0 : 0 ≤ m) (h1 : m ≤ 1048576) (hr : lessBy m a2 = r) => szU_EventS B _ _ v5 m r w' (r5.le hl) q5 h0 h1 (ha2 ▸ hr))
  replace hr : Hid (lessBy m (a0 + a1 + a2) = r) := by rw [← hr]; congr 1; try (first | (simp only [szL, List.map_cons, List.map_nil, List.sum_cons, List.sum_nil, CD.sz, ha0, ha1, ha2, CD.sz_fl q0, CD.sz_fl q1, CD.sz_fl q2]; done) | (simp only [szL, List.map_cons, List.map_nil, List.sum_cons, List.sum_nil, CD.sz, ha0, ha1, ha2, CD.sz_fl q0, CD.sz_fl q1, CD.sz_fl q2]; omega))
  clear ha0 ha1 ha2
  have F := (Frg.nil w).box 29 #[.float .f32 y0, .float .f32 y1, .float .f32 y2, v3, v4, v5]
  by_cases g0 : m - (a0 : Int) < 0
  · have er : r = -1 := by have := hr.out; rw [lessBy_neg (by omega)] at this; omega
    subst er
    clear hr
    go_enter Try.func9, Try.ntmps9
    go_wp2_with (first | ((with_reducible refine at_load rfl ?_); first | (with_reducible refine wpList_load1 F rfl rfl rfl (by first | exact m0) (f := 0) (v := .float .f32 y0) rfl ukindFloat32 ?_) | (with_reducible refine wpList_loadGP F rfl rfl rfl (by first | exact m0) Try.underlying25 rfl [.float .f32 y1, .float .f32 y2, v3] (partScore_Tuning (.float .f32 y0) (.float .f32 y1) (.float .f32 y2) (v3) (v4) (v5)) uinfoTuningL rfl ?_) | (with_reducible refine wpList_load1 F rfl rfl rfl (by first | exact m0) (f := 4) (v := v4) rfl ukindInstrumentSL ?_) | (with_reducible refine wpList_load1 F rfl rfl rfl (by first | exact m0) (f := 5) (v := v5) rfl ukindEventSL ?_)) | (go_at_call 14; ((with_reducible refine (H0.out m (-1 : Int) _ F.below (by omega) (by omega) (by exact lessBy_neg (by omega))).mono ?_); rintro e w1 ⟨rfl, hl⟩; replace F := F.le hl; clear hl)))
    go_ret
    exact ⟨rfl, F.below⟩
  · skip
    by_cases g1 : (m - (a0 : Int)) - (a1 : Int) < 0
    · have er : r = -1 := by have := hr.out; rw [lessBy_neg (by omega)] at this; omega
      subst er
      clear hr
      go_enter Try.func9, Try.ntmps9
      go_wp2_with (first | ((with_reducible refine at_load rfl ?_); first | (with_reducible refine wpList_load1 F rfl rfl rfl (by first | exact m0) (f := 0) (v := .float .f32 y0) rfl ukindFloat32 ?_) | (with_reducible refine wpList_loadGP F rfl rfl rfl (by first | exact m0) Try.underlying25 rfl [.float .f32 y1, .float .f32 y2, v3] (partScore_Tuning (.float .f32 y0) (.float .f32 y1) (.float .f32 y2) (v3) (v4) (v5)) uinfoTuningL rfl ?_) | (with_reducible refine wpList_load1 F rfl rfl rfl (by first | exact m0) (f := 4) (v := v4) rfl ukindInstrumentSL ?_) | (with_reducible refine wpList_load1 F rfl rfl rfl (by first | exact m0) (f := 5) (v := v5) rfl ukindEventSL ?_)) | (go_at_call 14; ((with_reducible refine (H0.out m (m - (a0 : Int)) _ F.below (by omega) (by omega) (by exact lessBy_pos (by omega))).mono ?_); rintro e w1 ⟨rfl, hl⟩; replace F := F.le hl; clear hl)) | (go_at_call 15; ((with_reducible refine (H1.out (m - (a0 : Int)) (-1 : Int) _ F.below (by omega) (by omega) (by exact lessBy_neg (by omega))).mono ?_); rintro e w1 ⟨rfl, hl⟩; replace F := F.le hl; clear hl)))
      go_ret
      exact ⟨rfl, F.below⟩
    · skip
      by_cases g2 : ((m - (a0 : Int)) - (a1 : Int)) - (a2 : Int) < 0
      · have er : r = -1 := by have := hr.out; rw [lessBy_neg (by omega)] at this; omega
        subst er
        clear hr
        go_enter Try.func9, Try.ntmps9
        go_wp2_with (first | ((with_reducible refine at_load rfl ?_); first | (with_reducible refine wpList_load1 F rfl rfl rfl (by first | exact m0) (f := 0) (v := .float .f32 y0) rfl ukindFloat32 ?_) | (with_reducible refine wpList_loadGP F rfl rfl rfl (by first | exact m0) Try.underlying25 rfl [.float .f32 y1, .float .f32 y2, v3] (partScore_Tuning (.float .f32 y0) (.float .f32 y1) (.float .f32 y2) (v3) (v4) (v5)) uinfoTuningL rfl ?_) | (with_reducible refine wpList_load1 F rfl rfl rfl (by first | exact m0) (f := 4) (v := v4) rfl ukindInstrumentSL ?_) | (with_reducible refine wpList_load1 F rfl rfl rfl (by first | exact m0) (f := 5) (v := v5) rfl ukindEventSL ?_)) | (go_at_call 14; ((with_reducible refine (H0.out m (m - (a0 : Int)) _ F.below (by omega) (by omega) (by exact lessBy_pos (by omega))).mono ?_); rintro e w1 ⟨rfl, hl⟩; replace F := F.le hl; clear hl)) | (go_at_call 15; ((with_reducible refine (H1.out (m - (a0 : Int)) ((m - (a0 : Int)) - (a1 : Int)) _ F.below (by omega) (by omega) (by exact lessBy_pos (by omega))).mono ?_); rintro e w1 ⟨rfl, hl⟩; replace F := F.le hl; clear hl)) | (go_at_call 16; ((with_reducible refine (H2.out ((m - (a0 : Int)) - (a1 : Int)) (-1 : Int) _ F.below (by omega) (by omega) (by exact lessBy_neg (by omega))).mono ?_); rintro e w1 ⟨rfl, hl⟩; replace F := F.le hl; clear hl)))
        go_ret
        exact ⟨rfl, F.below⟩
      · skip
        have er : r = (((m - (a0 : Int)) - (a1 : Int)) - (a2 : Int)) := by have := hr.out; rw [lessBy_pos (by omega)] at this; omega
        subst er
        clear hr
        go_enter Try.func9, Try.ntmps9
        go_wp2_with (first | ((with_reducible refine at_load rfl ?_); first | (with_reducible refine wpList_load1 F rfl rfl rfl (by first | exact m0) (f := 0) (v := .float .f32 y0) rfl ukindFloat32 ?_) | (with_reducible refine wpList_loadGP F rfl rfl rfl (by first | exact m0) Try.underlying25 rfl [.float .f32 y1, .float .f32 y2, v3] (partScore_Tuning (.float .f32 y0) (.float .f32 y1) (.float .f32 y2) (v3) (v4) (v5)) uinfoTuningL rfl ?_) | (with_reducible refine wpList_load1 F rfl rfl rfl (by first | exact m0) (f := 4) (v := v4) rfl ukindInstrumentSL ?_) | (with_reducible refine wpList_load1 F rfl rfl rfl (by first | exact m0) (f := 5) (v := v5) rfl ukindEventSL ?_)) | (go_at_call 14; ((with_reducible refine (H0.out m (m - (a0 : Int)) _ F.below (by omega) (by omega) (by exact lessBy_pos (by omega))).mono ?_); rintro e w1 ⟨rfl, hl⟩; replace F := F.le hl; clear hl)) | (go_at_call 15; ((with_reducible refine (H1.out (m - (a0 : Int)) ((m - (a0 : Int)) - (a1 : Int)) _ F.below (by omega) (by omega) (by exact lessBy_pos (by omega))).mono ?_); rintro e w1 ⟨rfl, hl⟩; replace F := F.le hl; clear hl)) | (go_at_call 16; ((with_reducible refine (H2.out ((m - (a0 : Int)) - (a1 : Int)) (((m - (a0 : Int)) - (a1 : Int)) - (a2 : Int)) _ F.below (by omega) (by omega) (by exact lessBy_pos (by omega))).mono ?_); rintro e w1 ⟨rfl, hl⟩; replace F := F.le hl; clear hl)))
        go_ret
        exact ⟨rfl, F.below⟩
set_option maxRecDepth 100000 in
set_option maxHeartbeats 4000000 in
theorem eqU_Score (B B' : Nat) (cs : List CD) (vs vs' : List Value) (w : World) (h : RdL w B cs vs) (h' : RdL w B' cs vs') (hsh : ShOkL shScore cs) (hz : szL cs ≤ 1048576) :
    Calls Try.prog 13 #[.agg vs.toArray, .agg vs'.toArray] w (OutT w) := by
  obtain ⟨c0, cs, rfl, q0, hsh⟩ := hsh.inv
  obtain ⟨c1, cs, rfl, q1, hsh⟩ := hsh.inv
  obtain ⟨c2, cs, rfl, q2, hsh⟩ := hsh.inv
  obtain ⟨c3, cs, rfl, q3, hsh⟩ := hsh.inv
  obtain ⟨c4, cs, rfl, q4, hsh⟩ := hsh.inv
  obtain ⟨c5, cs, rfl, q5, hsh⟩ := hsh.inv
  obtain rfl := hsh.inv0
  obtain ⟨v0, vs, rfl, r0, h⟩ := h.inv
  obtain ⟨v1, vs, rfl, r1, h⟩ := h.inv
  obtain ⟨v2, vs, rfl, r2, h⟩ := h.inv
  obtain ⟨v3, vs, rfl, r3, h⟩ := h.inv
  obtain ⟨v4, vs, rfl, r4, h⟩ := h.inv
  obtain ⟨v5, vs, rfl, r5, h⟩ := h.inv
  obtain rfl := h.inv0
  obtain ⟨v0', vs', rfl, r0', h'⟩ := h'.inv
  obtain ⟨v1', vs', rfl, r1', h'⟩ := h'.inv
  obtain ⟨v2', vs', rfl, r2', h'⟩ := h'.inv
  obtain ⟨v3', vs', rfl, r3', h'⟩ := h'.inv
  obtain ⟨v4', vs', rfl, r4', h'⟩ := h'.inv
  obtain ⟨v5', vs', rfl, r5', h'⟩ := h'.inv
  obtain rfl := h'.inv0
  have q0 : c0.flk = some .f32 := q0
  obtain ⟨y0, rfl, f0, e0⟩ := r0.fl q0
  obtain ⟨y0', rfl, f0', e0'⟩ := r0'.fl q0
  have q1 : c1.flk = some .f32 := q1
  obtain ⟨y1, rfl, f1, e1⟩ := r1.fl q1
  obtain ⟨y1', rfl, f1', e1'⟩ := r1'.fl q1
  have q2 : c2.flk = some .f32 := q2
  obtain ⟨y2, rfl, f2, e2⟩ := r2.fl q2
  obtain ⟨y2', rfl, f2', e2'⟩ := r2'.fl q2
  have HZ := hid hz
  have E0 := hid (e0.trans e0'.symm)
  have H1 := hid (fun (w' : World) (hl : le w w') => eqU_Tuning B B' [c1, c2, c3] [.float .f32 y1, .float .f32 y2, v3] [.float .f32 y1', .float .f32 y2', v3'] w' (RdL.cons (c := c1) (r1.le hl) (RdL.cons (c := c2) (r2.le hl) (RdL.cons (c := c3) (r3.le hl) (RdL.nil _ _)))) (RdL.cons (c := c1) (r1'.le hl) (RdL.cons (c := c2) (r2'.le hl) (RdL.cons (c := c3) (r3'.le hl) (RdL.nil _ _)))) (ShOkL.cons q1 (ShOkL.cons q2 (ShOkL.cons q3 (ShOkL.nil)))) (szL_le HZ.out 1 3 rfl))
  obtain ⟨n4, x4, rfl, q4⟩ := q4
  have H2 := hid (fun (w' : World) (hl : le w w') => eqU_InstrumentS B B' _ _ v4 v4' w' (r4.le hl) (r4'.le hl) q4 (szC_le HZ.out 4 rfl))
  obtain ⟨n5, x5, rfl, q5⟩ := q5
  have H3 := hid (fun (w' : World) (hl : le w w') => eqU_EventS B B' _ _ v5 v5' w' (r5.le hl) (r5'.le hl) q5 (szC_le HZ.out 5 rfl))
  have F := ((Frg.nil w).box 38 #[.float .f32 y0, .float .f32 y1, .float .f32 y2, v3, v4, v5]).box 38 #[.float .f32 y0', .float .f32 y1', .float .f32 y2', v3', v4', v5']
  simp only [World.size_alloc] at F
  clear hz HZ
  go_enter Try.func13, Try.ntmps13
  go_wp2_with (first | ((with_reducible refine listN F ?_); clear F; intro wN F) | ((with_reducible refine at_load rfl ?_); first | (with_reducible refine wpList_load1 F rfl rfl rfl (by first | exact m0 | exact m1) (f := 0) (v := .float .f32 y0) rfl ukindFloat32 ?_) | (with_reducible refine wpList_loadGP F rfl rfl rfl (by first | exact m0 | exact m1) Try.underlying34 rfl [.float .f32 y1, .float .f32 y2, v3] (partScore_Tuning (.float .f32 y0) (.float .f32 y1) (.float .f32 y2) (v3) (v4) (v5)) uinfoTuningI rfl ?_) | (with_reducible refine wpList_load1 F rfl rfl rfl (by first | exact m0 | exact m1) (f := 4) (v := v4) rfl ukindInstrumentSI ?_) | (with_reducible refine wpList_load1 F rfl rfl rfl (by first | exact m0 | exact m1) (f := 5) (v := v5) rfl ukindEventSI ?_) | (with_reducible refine wpList_load1 F rfl rfl rfl (by first | exact m0 | exact m1) (f := 0) (v := .float .f32 y0') rfl ukindFloat32 ?_) | (with_reducible refine wpList_loadGP F rfl rfl rfl (by first | exact m0 | exact m1) Try.underlying34 rfl [.float .f32 y1', .float .f32 y2', v3'] (partScore_Tuning (.float .f32 y0') (.float .f32 y1') (.float .f32 y2') (v3') (v4') (v5')) uinfoTuningI rfl ?_) | (with_reducible refine wpList_load1 F rfl rfl rfl (by first | exact m0 | exact m1) (f := 4) (v := v4') rfl ukindInstrumentSI ?_) | (with_reducible refine wpList_load1 F rfl rfl rfl (by first | exact m0 | exact m1) (f := 5) (v := v5') rfl ukindEventSI ?_)) | (go_at_call 27; ((with_reducible refine (H1.out _ F.below).mono ?_); rintro e w1 ⟨rfl, hl⟩; replace F := F.le hl; clear hl)) | (go_at_call 28; ((with_reducible refine (H2.out _ F.below).mono ?_); rintro e w1 ⟨rfl, hl⟩; replace F := F.le hl; clear hl)) | (go_at_call 29; ((with_reducible refine (H3.out _ F.below).mono ?_); rintro e w1 ⟨rfl, hl⟩; replace F := F.le hl; clear hl)) | ((with_reducible refine at_convert rfl ?_); (with_reducible refine wpList_widen rfl rfl rfl Try.underlying22 Try.underlying64 ?_; intro s1 n1 h1 f1)) | (go_at_call 26; ((with_reducible refine (sameFloat_yes _ _ _ (by first | exact (Hid.out ‹Hid (can .f64 _ = can .f64 (widen y0))›).trans ((congrArg (can .f64) (widen_congr E0.out)).trans (Hid.out ‹Hid (can .f64 _ = can .f64 (widen y0'))›).symm))).mono ?_); rintro e w7 ⟨rfl, dq7, rfl⟩; skip)))
  go_ret
  first | exact ⟨rfl, F.below⟩ | exact ⟨rfl, below_drewN F.below _⟩
theorem invf_Score {w : World} {S : Nat → Prop} {us : List Value} (c0 : CD) (c1 : CD) (c2 : CD) (n3 : Nat) (x3 : Nat → CD) (n4 : Nat) (x4 : Nat → CD) (n5 : Nat) (x5 : Nat → CD) (q0 : c0.flk = some .f32) (q1 : c1.flk = some .f32) (q2 : c2.flk = some .f32) (h : LayL w S (([(c0), (c1), (c2), (.sl 1 n3 x3), (.sl 5 n4 x4), (.sl 6 n5 x5)] : List CD).map CD.cp) us) : ∃ (g0 : Nat) (g1 : Nat) (g2 : Nat) (u3 : Value) (u4 : Value) (u5 : Value), u3.oneCell' = true ∧ u4.oneCell' = true ∧ u5.oneCell' = true ∧ us = [.float .f32 g0, .float .f32 g1, .float .f32 g2, u3, u4, u5] ∧ LayL w S (([(c0), (c1), (c2), (.sl 1 n3 x3), (.sl 5 n4 x4), (.sl 6 n5 x5)] : List CD).map CD.cp) [.float .f32 g0, .float .f32 g1, .float .f32 g2, u3, u4, u5] := by
  have h0 := h
  simp only [List.map_cons, List.map_nil] at h
  obtain ⟨u0, us0, _, _, rfl, l0, hh0, _, _, _⟩ := h.inv
  obtain ⟨g0, rfl⟩ := lay_fl q0 l0
  obtain ⟨u1, us1, _, _, rfl, l1, hh1, _, _, _⟩ := hh0.inv
  obtain ⟨g1, rfl⟩ := lay_fl q1 l1
  obtain ⟨u2, us2, _, _, rfl, l2, hh2, _, _, _⟩ := hh1.inv
  obtain ⟨g2, rfl⟩ := lay_fl q2 l2
  obtain ⟨u3, us3, _, _, rfl, l3, hh3, _, _, _⟩ := hh2.inv
  obtain ⟨u4, us4, _, _, rfl, l4, hh4, _, _, _⟩ := hh3.inv
  obtain ⟨u5, us5, _, _, rfl, l5, hh5, _, _, _⟩ := hh4.inv
  obtain rfl := hh5.inv0
  exact ⟨g0, g1, g2, u3, u4, u5, l3.one, l4.one, l5.one, rfl, h0⟩
set_option maxRecDepth 100000 in
set_option maxHeartbeats 4000000 in
theorem toU_Score (B : Nat) (cs : List CD) (vs : List Value) (w : World) (h : RdL w B cs vs) (hsh : ShOkL shScore cs) (hz : szL cs ≤ 1048576) :
    Calls Try.prog 11 #[.agg vs.toArray] w (OutA' (cs.map CD.cp) w) := by
  obtain ⟨c0, cs, rfl, q0, hsh⟩ := hsh.inv
  obtain ⟨c1, cs, rfl, q1, hsh⟩ := hsh.inv
  obtain ⟨c2, cs, rfl, q2, hsh⟩ := hsh.inv
  obtain ⟨c3, cs, rfl, q3, hsh⟩ := hsh.inv
  obtain ⟨c4, cs, rfl, q4, hsh⟩ := hsh.inv
  obtain ⟨c5, cs, rfl, q5, hsh⟩ := hsh.inv
  obtain rfl := hsh.inv0
  obtain ⟨v0, vs, rfl, r0, h⟩ := h.inv
  obtain ⟨v1, vs, rfl, r1, h⟩ := h.inv
  obtain ⟨v2, vs, rfl, r2, h⟩ := h.inv
  obtain ⟨v3, vs, rfl, r3, h⟩ := h.inv
  obtain ⟨v4, vs, rfl, r4, h⟩ := h.inv
  obtain ⟨v5, vs, rfl, r5, h⟩ := h.inv
  obtain rfl := h.inv0
  have q0 : c0.flk = some .f32 := q0
  obtain ⟨y0, rfl, f0, e0⟩ := r0.fl q0
  have q1 : c1.flk = some .f32 := q1
  obtain ⟨y1, rfl, f1, e1⟩ := r1.fl q1
  have q2 : c2.flk = some .f32 := q2
  obtain ⟨y2, rfl, f2, e2⟩ := r2.fl q2
  have HZ := hid hz
  have H1 := hid (fun (w' : World) (hl : le w w') => toU_Tuning B [c1, c2, c3] [.float .f32 y1, .float .f32 y2, v3] w' (RdL.cons (c := c1) (r1.le hl) (RdL.cons (c := c2) (r2.le hl) (RdL.cons (c := c3) (r3.le hl) (RdL.nil _ _)))) (ShOkL.cons q1 (ShOkL.cons q2 (ShOkL.cons q3 (ShOkL.nil)))) (szL_le HZ.out 1 3 rfl))
  obtain ⟨n4, x4, rfl, q4⟩ := q4
  have H2 := hid (fun (w' : World) (hl : le w w') => toU_InstrumentS B _ _ v4 w' (r4.le hl) q4 (szC_le HZ.out 4 rfl))
  obtain ⟨n5, x5, rfl, q5⟩ := q5
  have H3 := hid (fun (w' : World) (hl : le w w') => toU_EventS B _ _ v5 w' (r5.le hl) q5 (szC_le HZ.out 5 rfl))
  obtain ⟨n3, x3, rfl, -⟩ := q3
  have F := (((Frg.nil w).box 29 #[.float .f32 y0, .float .f32 y1, .float .f32 y2, v3, v4, v5]).box 38 #[.float .f32 0, .float .f32 0, .float .f32 0, .slice none 0 0, .slice none 0 0, .slice none 0 0]).box 38 #[.float .f32 0, .float .f32 0, .float .f32 0, .slice none 0 0, .slice none 0 0, .slice none 0 0]
  simp only [World.size_alloc] at F
  clear hz HZ
  go_enter Try.func11, Try.ntmps11
  go_wp2_with (first | ((with_reducible refine listN F ?_); clear F; intro wN F) | ((with_reducible refine at_load rfl ?_); first | (with_reducible refine wpList_load1 F rfl rfl rfl (by first | exact m0 | exact m1 | exact m2 | exact m3) (f := 0) (v := .float .f32 y0) rfl ukindFloat32 ?_) | (with_reducible refine wpList_loadGP F rfl rfl rfl (by first | exact m0 | exact m1 | exact m2 | exact m3) Try.underlying25 rfl [.float .f32 y1, .float .f32 y2, v3] (partScore_Tuning (.float .f32 y0) (.float .f32 y1) (.float .f32 y2) (v3) (v4) (v5)) uinfoTuningL rfl ?_) | (with_reducible refine wpList_load1 F rfl rfl rfl (by first | exact m0 | exact m1 | exact m2 | exact m3) (f := 4) (v := v4) rfl ukindInstrumentSL ?_) | (with_reducible refine wpList_load1 F rfl rfl rfl (by first | exact m0 | exact m1 | exact m2 | exact m3) (f := 5) (v := v5) rfl ukindEventSL ?_)) | (with_reducible refine stop_store rfl ?_))
  show wpList _ _ _ _ _ _
  refine wpList_store1 rfl rfl (f := 0) rfl rfl (F.row m0) uinfo1Float32 (by simp) rfl #[.float .f32 y0, .float .f32 0, .float .f32 0, .slice none 0 0, .slice none 0 0, .slice none 0 0] rfl (fun w2 K => ?_)
  replace F := F.wrI0 (cs' := #[.float .f32 y0, .float .f32 0, .float .f32 0, .slice none 0 0, .slice none 0 0, .slice none 0 0]) K
  clear K
  go_wp2_with (first | ((with_reducible refine listN F ?_); clear F; intro wN F) | ((with_reducible refine at_load rfl ?_); first | (with_reducible refine wpList_load1 F rfl rfl rfl (by first | exact m0 | exact m1 | exact m2 | exact m3) (f := 0) (v := .float .f32 y0) rfl ukindFloat32 ?_) | (with_reducible refine wpList_loadGP F rfl rfl rfl (by first | exact m0 | exact m1 | exact m2 | exact m3) Try.underlying25 rfl [.float .f32 y1, .float .f32 y2, v3] (partScore_Tuning (.float .f32 y0) (.float .f32 y1) (.float .f32 y2) (v3) (v4) (v5)) uinfoTuningL rfl ?_) | (with_reducible refine wpList_load1 F rfl rfl rfl (by first | exact m0 | exact m1 | exact m2 | exact m3) (f := 4) (v := v4) rfl ukindInstrumentSL ?_) | (with_reducible refine wpList_load1 F rfl rfl rfl (by first | exact m0 | exact m1 | exact m2 | exact m3) (f := 5) (v := v5) rfl ukindEventSL ?_)) | (go_at_call 19; ((with_reducible refine (H1.out _ F.below).mono ?_); rintro e w1 ⟨us, rfl, ho, hl⟩; obtain ⟨g1, g2, u3, O3, rfl, ho⟩ := invf_Tuning _ _ _ _ q1 q2 ho; have O3 := hid O3; replace F := F.lay1 hl ho; clear ho hl)) | (with_reducible refine stop_store rfl ?_))
  show wpList _ _ _ _ _ _
  refine wpList_storeP rfl rfl rfl (f := 1) (cells := [.float .f32 g1, .float .f32 g2, u3]) rfl (F.row m1) uinfoTuningI (by simp) (by (simp only [List.all_toArray', List.all_cons, List.all_nil, Bool.and_true, Bool.true_and, O3.out]) <;> rfl) (fun w2 K => ?_)
  replace F := F.wrI1 (cs' := #[.float .f32 y0, .float .f32 g1, .float .f32 g2, u3, .slice none 0 0, .slice none 0 0]) K
  clear K
  go_wp2_with (first | ((with_reducible refine listN F ?_); clear F; intro wN F) | ((with_reducible refine at_load rfl ?_); first | (with_reducible refine wpList_load1 F rfl rfl rfl (by first | exact m0 | exact m1 | exact m2 | exact m3 | exact m4) (f := 0) (v := .float .f32 y0) rfl ukindFloat32 ?_) | (with_reducible refine wpList_loadGP F rfl rfl rfl (by first | exact m0 | exact m1 | exact m2 | exact m3 | exact m4) Try.underlying25 rfl [.float .f32 y1, .float .f32 y2, v3] (partScore_Tuning (.float .f32 y0) (.float .f32 y1) (.float .f32 y2) (v3) (v4) (v5)) uinfoTuningL rfl ?_) | (with_reducible refine wpList_load1 F rfl rfl rfl (by first | exact m0 | exact m1 | exact m2 | exact m3 | exact m4) (f := 4) (v := v4) rfl ukindInstrumentSL ?_) | (with_reducible refine wpList_load1 F rfl rfl rfl (by first | exact m0 | exact m1 | exact m2 | exact m3 | exact m4) (f := 5) (v := v5) rfl ukindEventSL ?_)) | (go_at_call 20; ((with_reducible refine (H2.out _ F.below).mono ?_); rintro e w1 ⟨u4, rfl, ho, hl⟩; have O4 := hid ho.one; replace F := F.lay1 hl (LayL.cons ho (LayL.nil _ (fun _ => False)) (fun _ h => h) (fun _ h => h.elim) (fun _ _ h => h)); clear ho hl)) | (with_reducible refine stop_store rfl ?_))
  show wpList _ _ _ _ _ _
  refine wpList_store1 rfl rfl (f := 4) rfl rfl (F.row m2) uinfo1InstrumentSI (by simp) O4.out #[.float .f32 y0, .float .f32 g1, .float .f32 g2, u3, u4, .slice none 0 0] rfl (fun w2 K => ?_)
  replace F := F.wrI2 (cs' := #[.float .f32 y0, .float .f32 g1, .float .f32 g2, u3, u4, .slice none 0 0]) K
  clear K
  go_wp2_with (first | ((with_reducible refine listN F ?_); clear F; intro wN F) | ((with_reducible refine at_load rfl ?_); first | (with_reducible refine wpList_load1 F rfl rfl rfl (by first | exact m0 | exact m1 | exact m2 | exact m3 | exact m4 | exact m5) (f := 0) (v := .float .f32 y0) rfl ukindFloat32 ?_) | (with_reducible refine wpList_loadGP F rfl rfl rfl (by first | exact m0 | exact m1 | exact m2 | exact m3 | exact m4 | exact m5) Try.underlying25 rfl [.float .f32 y1, .float .f32 y2, v3] (partScore_Tuning (.float .f32 y0) (.float .f32 y1) (.float .f32 y2) (v3) (v4) (v5)) uinfoTuningL rfl ?_) | (with_reducible refine wpList_load1 F rfl rfl rfl (by first | exact m0 | exact m1 | exact m2 | exact m3 | exact m4 | exact m5) (f := 4) (v := v4) rfl ukindInstrumentSL ?_) | (with_reducible refine wpList_load1 F rfl rfl rfl (by first | exact m0 | exact m1 | exact m2 | exact m3 | exact m4 | exact m5) (f := 5) (v := v5) rfl ukindEventSL ?_)) | (go_at_call 21; ((with_reducible refine (H3.out _ F.below).mono ?_); rintro e w1 ⟨u5, rfl, ho, hl⟩; have O5 := hid ho.one; replace F := F.lay1 hl (LayL.cons ho (LayL.nil _ (fun _ => False)) (fun _ h => h) (fun _ h => h.elim) (fun _ _ h => h)); clear ho hl)) | (with_reducible refine stop_store rfl ?_))
  show wpList _ _ _ _ _ _
  refine wpList_store1 rfl rfl (f := 5) rfl rfl (F.row m3) uinfo1EventSI (by simp) O5.out #[.float .f32 y0, .float .f32 g1, .float .f32 g2, u3, u4, u5] rfl (fun w2 K => ?_)
  replace F := F.wrI3 (cs' := #[.float .f32 y0, .float .f32 g1, .float .f32 g2, u3, u4, u5]) K
  clear K
  go_wp2_with (first | ((with_reducible refine listN F ?_); clear F; intro wN F) | ((with_reducible refine at_load rfl ?_); (with_reducible refine wpList_loadG F rfl rfl rfl (by first | exact m0 | exact m1 | exact m2 | exact m3) Try.underlying38 rfl uinfoScoreI rfl ?_)) | (with_reducible refine stop_store rfl ?_))
  show wpList _ _ _ _ _ _
  refine wpList_storeD rfl rfl rfl (cells := #[.float .f32 y0, .float .f32 g1, .float .f32 g2, u3, u4, u5]) rfl (F.row m4) uinfoScoreI rfl (by (simp only [List.all_toArray', List.all_cons, List.all_nil, Bool.and_true, Bool.true_and, O3.out, O4.out, O5.out]) <;> rfl) (fun w6 K => ?_)
  have R := hid K.row
  replace F := F.wrI4 K
  have E0 := Eaten.start F
  replace E0 := Eaten.eat F E0
  replace F := F.tl
  replace E0 := Eaten.eat F E0
  replace F := F.tl
  replace E0 := Eaten.eat F E0
  replace F := F.tl
  replace E0 := Eaten.leaf (c := CD.cp c0) (v := .float .f32 y0) E0 (r0.leafLay (flk_ne q0))
  have L := hid (show LayL _ _ _ _ ∧ le w _ from ⟨E0.fin, F.below⟩)
  clear K F E0
  go_wp2
  exact bodyPost_ret (results_row1 rfl _ _ _ _ _ rfl R.out Try.underlying38 rfl uinfoScoreI) rfl ⟨[.float .f32 y0, .float .f32 g1, .float .f32 g2, u3, u4, u5], rfl, L.out.1, L.out.2⟩
end Go.Proofs.Ytkcpdddmabkkgaa
