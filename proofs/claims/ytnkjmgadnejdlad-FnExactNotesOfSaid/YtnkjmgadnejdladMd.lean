/- Texts of the walk, laid in one file. -/
import Derived.ArgAppend
import Derived.OwnWalk
import Derived.Great.BuildSlice
import Derived.LoopN
import Derived.Test.YtnkjmgadnejdladRows
import Derived.Handy
import Derived.BigQuiet
import Derived.Deep.AppendLies
import Derived.Test.YtnkjmgadnejdladMc
set_option linter.unusedVariables false
set_option linter.unusedSimpArgs false
/- What append leaves, as a fact of memory. Nothing here names a program. -/
namespace Go.Fk
open Go Go.RowKit
def flist (y : Nat → Nat) (n : Nat) : List Value := (List.range n).map (fun j => .float .f32 (y j))
theorem flist_length (y : Nat → Nat) (n : Nat) : (flist y n).length = n := by simp [flist]
theorem flist_get {y : Nat → Nat} {n j : Nat} {u : Value} (h : (flist y n)[j]? = some u) : j < n ∧ u = .float .f32 (y j) := by
  obtain ⟨hj, e⟩ := List.getElem?_eq_some_iff.1 h
  rw [flist_length] at hj
  refine ⟨hj, ?_⟩
  rw [← e]; simp [flist]
theorem flist_get' (y : Nat → Nat) {n j : Nat} (h : j < n) : (flist y n)[j]? = some (.float .f32 (y j)) := by simp [flist, h]
theorem flist_one (y : Nat → Nat) (n : Nat) : ∀ u ∈ flist y n, u.oneCell' = true := by
  intro u hu
  simp only [flist, List.mem_map] at hu
  obtain ⟨j, _, rfl⟩ := hu; rfl
theorem flist_app (y z : Nat → Nat) (n m : Nat) : flist y n ++ flist z m = flist (fun j => if j < n then y j else z (j - n)) (n + m) := by
  apply List.ext_getElem?
  intro j
  by_cases h : j < n
  · rw [List.getElem?_append_left (by rw [flist_length]; exact h), flist_get' _ h, flist_get' _ (by omega), if_pos h]
  · rw [List.getElem?_append_right (by rw [flist_length]; omega), flist_length]
    by_cases h2 : j < n + m
    · rw [flist_get' _ (by omega), flist_get' _ h2, if_neg h]
    · rw [List.getElem?_eq_none (by rw [flist_length]; omega), List.getElem?_eq_none (by rw [flist_length]; omega)]
theorem own_of_row {w : World} {base : Nat} {v : Value} {n : Nat} {y x : Nat → Nat} (h : w.ownsRow base 22 1 v n (flist y n)) (hf : ∀ j, j < n → fits .f32 (y j) ∧ can .f32 (y j) = x j) : OwnS w base w.heap.size v x n := by
  obtain ⟨_, h⟩ := h
  rcases h with h | ⟨g, cap, cur, rfl, hb, hg, h1, h2, h3, h4⟩
  · exact .inl h
  · refine .inr ⟨g, 0, cap, cur, rfl, h1, h2, hb, (Array.getElem?_eq_some_iff.1 hg).1, hg, fun i hi => ⟨y i, ?_, hf i hi⟩⟩
    have h5 : (cur.toList.take (n * 1))[i]? = some (.float .f32 (y i)) := by rw [h4]; exact flist_get' y hi
    rw [Nat.mul_one, List.getElem?_take_of_lt hi] at h5
    rw [Nat.zero_add]; simpa using h5
theorem OwnS.get {w : World} {lo hi q0 n cap : Nat} {x : Nat → Nat} (h : OwnS w lo hi (.slice (some ⟨q0, 0, none⟩) n cap) x n) {i : Nat} (hi' : i < n) : ∃ y, w.cell? ⟨q0, i, none⟩ = some (.float .f32 y) ∧ fits .f32 y ∧ can .f32 y = x i := by
  rcases h with ⟨h, _⟩ | ⟨b, o, cap', cs, h1, h2, h3, h4, h5, h6, h7⟩
  · cases h
  · simp only [Value.slice.injEq, Option.some.injEq, Addr.mk.injEq, and_true] at h1
    obtain ⟨⟨rfl, rfl⟩, _⟩ := h1
    obtain ⟨y, e1, e2⟩ := h7 i hi'
    exact ⟨y, by rw [Nat.zero_add] at e1; exact (h6.cell? i).trans e1, e2⟩
/-- What append has left, in one block of its own. -/
theorem own_tight {w : World} {base : Nat} {v : Value} {n : Nat} {y x : Nat → Nat} (h : w.ownsRow base 22 1 v n (flist y n)) (h1n : 1 ≤ n) (hf : ∀ j, j < n → fits .f32 (y j) ∧ can .f32 (y j) = x j) :
    ∃ q cap cs, v = .slice (some ⟨q, 0, none⟩) n cap ∧ base ≤ q ∧ Row w q 22 cs ∧ OwnS w q (q + 1) v x n := by
  obtain ⟨_, h⟩ := h
  rcases h with ⟨_, h0⟩ | ⟨g, cap, cur, rfl, hb, hg, h1, h2, h3, h4⟩
  · omega
  · refine ⟨g, cap, cur, rfl, hb, hg, .inr ⟨g, 0, cap, cur, rfl, h1, h2, Nat.le_refl _, Nat.lt_succ_self _, hg, fun i hi => ⟨y i, ?_, hf i hi⟩⟩⟩
    have h5 : (cur.toList.take (n * 1))[i]? = some (.float .f32 (y i)) := by rw [h4]; exact flist_get' y hi
    rw [Nat.mul_one, List.getElem?_take_of_lt hi] at h5
    rw [Nat.zero_add]; simpa using h5
theorem le_of_grown {w w' : World} (h : w.grownBy w' none) : le w w' := ⟨h.os, h.tape, h.output, h.size, fun k hk => h.block k hk (by simp)⟩
/-- The raw words of a slice that can be read. -/
theorem RdS.raw {w : World} {B : Nat} {v : Value} {x : Nat → Nat} {n : Nat} (h : RdS w B v x n) (hn : 1 ≤ n) : ∃ (a : Addr) (cap : Nat) (y : Nat → Nat), v = .slice (some a) n cap ∧ n ≤ cap ∧ cap ≤ maxLen ∧ ∀ i, i < n → w.cell? (a.add i) = some (.float .f32 (y i)) ∧ fits .f32 (y i) ∧ can .f32 (y i) = x i := by
  rcases h with ⟨_, rfl⟩ | ⟨a, cap, rfl, h2, h3, h4⟩
  · omega
  · have : ∀ i, ∃ y, i < n → w.cell? (a.add i) = some (.float .f32 y) ∧ fits .f32 y ∧ can .f32 y = x i := fun i => by
      by_cases hi : i < n
      · obtain ⟨_, y, e⟩ := h4 i hi; exact ⟨y, fun _ => e⟩
      · exact ⟨0, fun h => absurd h hi⟩
    obtain ⟨y, hy⟩ := Classical.skolem.1 this
    exact ⟨a, cap, y, rfl, h2, h3, hy⟩
/-- The result's block g, of n cells, is written once; new blocks are made. -/
def outX (g : Nat) (t : TypeId) (n : Nat) (Fin : World → Array Value → Prop) (hm : ∀ w w' cs, le w w' → Fin w cs → Fin w' cs) : Ext where
  R w w' := Chg (· = g) w w' ∧ ((∃ cs, Row w g t cs ∧ cs.size = n) → ∃ cs, Row w' g t cs ∧ cs.size = n) ∧ ((∃ cs, Row w g t cs ∧ Fin w cs) → ∃ cs, Row w' g t cs ∧ Fin w' cs)
  refl w := ⟨Chg.refl _ _, id, id⟩
  trans := fun ⟨h1, h2, h3⟩ ⟨k1, k2, k3⟩ => ⟨h1.trans k1, fun h => k2 (h2 h), fun h => k3 (h3 h)⟩
  of_le := fun h => ⟨Chg.of_le h, fun ⟨cs, hr, hs⟩ => ⟨cs, hr.le h, hs⟩, fun ⟨cs, hr, hf⟩ => ⟨cs, hr.le h, hm _ _ _ h hf⟩⟩
theorem OwnS.chgS {w w' : World} {lo hi : Nat} {s : Value} {x : Nat → Nat} {n : Nat} {S : Nat → Prop} (h : OwnS w lo hi s x n) (k : Chg S w w') (hS : ∀ i, lo ≤ i → i < hi → ¬ S i) : OwnS w' lo hi s x n := by
  rcases h with h | ⟨b, o, cap, cs, h1, h2, h3, h4, h5, h6, h7⟩
  · exact .inl h
  · exact .inr ⟨b, o, cap, cs, h1, h2, h3, h4, h5, k.row h6 (hS b h4 h5), h7⟩
section
variable {P : Program} {ops : Array Oper} {W : World} {K : FuncId → Array Value → World → Value → Prop} {Q : Act → World → Prop} {F : Facts} {k : Nat} {o : Oper} {rest : List Oper} {a : Act}
variable {g : Nat} {t : TypeId} {m : Nat} {Fin : World → Array Value → Prop} {hm : ∀ w w' cs, le w w' → Fin w cs → Fin w' cs}
/-- A value of one cell is loaded, of a block that is not the result's. -/
theorem wpFreeD_cell (hg : o.guard = none) {ty : TypeId} {x : Operand} (hop : o.op = .load ty x) {ad : Addr} (hx : a.eval x = .pointer (some ad)) {v : Value} (hv : W.cell? ad = some v) (hne : ad.block ≠ g) (hu : ∀ w, (isAgg ty).run P w = .ok false w)
    (h : wpFreeD (outX g t m Fin hm) P ops .any W K Q rest (k + 1) (a.put o.dst v) (F.with k (fun _ => True))) : wpFreeD (outX g t m Fin hm) P ops .any W K Q (o :: rest) k a F := by
  refine wpFreeD_one hg v (fun w hw => ?_) h
  have hlt : ad.block < W.heap.size := World.block_lt_of_cell? W _ hv
  have hc : w.cell? ad = some v := (cell_of_heap (hw.1.block _ hlt hne)).trans hv
  have hl : (Instr.loadAt ty (.pointer (some ad))).run P w = .ok v w := by
    simp [Instr.loadAt, Instr.sureAddr, loadVar, hu, hc]
  simp [execOp, hop, hx, hl, Result.andThen]
/-- Append to a slice of no capacity: new memory is taken. -/
theorem wpFreeD_append {s x : Operand} (hg : o.guard = none) {t' : TypeId} (hop : o.op = Op.call { callee := Callee.builtin Builtin.append, args := #[s, x], argTypes := #[t', t'] }) {e : TypeId} (h1 : P.underlying t' = some (.slice e)) {i : TypeInfo} (h2 : P.info? e = some i) (h3 : i.zero = some (.float .f32 0)) (h4 : i.size = 1) (h5 : i.bytes = 4)
    {ao : Option Addr} (hs : a.eval s = .slice ao 0 0) {ad : Addr} {n c : Nat} {y : Nat → Nat} (hx : a.eval x = .slice (some ad) n c) (hn : 1 ≤ n) (hn2 : n ≤ 1048576) (hc : ∀ j, j < n → W.cell? (ad.add j) = some (.float .f32 (y j))) (hne : ad.block ≠ g)
    (h : ∀ q c', wpFreeD (outX g t m Fin hm) P ops .any W K Q rest (k + 1) (a.put o.dst (.slice (some ⟨q, 0, none⟩) n c')) (F.with k (fun w => ∃ B, W.heap.size ≤ B ∧ w.ownsRow B e 1 (.slice (some ⟨q, 0, none⟩) n c') n (flist y n) ∧ g < B))) (hgW : g < W.heap.size) : wpFreeD (outX g t m Fin hm) P ops .any W K Q (o :: rest) k a F := by
  refine ⟨fun w v => ∃ B, W.heap.size ≤ B ∧ w.ownsRow B e 1 v n (flist y n) ∧ g < B, ⟨fun v w w' hw hv => ?_, .inl ⟨by simp [Region.wanted, hg], fun w hw _ => ?_⟩⟩, fun v hv => ?_⟩
  rotate_left 2
  · obtain ⟨w, _, _, B, _, ho, _⟩ := hv
    rcases ho.2 with ⟨_, h0⟩ | ⟨q, c', cur, rfl, _⟩
    · omega
    · exact h q c'
  · obtain ⟨B, hB, ⟨ho1, ho⟩, hgB⟩ := hv
    refine ⟨B, hB, ⟨ho1, ?_⟩, hgB⟩
    rcases ho with ho | ⟨q, cap, cur, e1, e2, e3, e4⟩
    · exact .inl ho
    · exact .inr ⟨q, cap, cur, e1, e2, by have := hw.1.row (g := q) (t := e) (cs := cur) e3 (by omega); exact this, e4⟩
  · have hcw : ∀ j u, (flist y n)[j]? = some u → w.cell? (ad.add j) = some u := by
      intro j u hu
      obtain ⟨hj, rfl⟩ := flist_get hu
      have := hc j hj
      have hlt : (ad.add j).block < W.heap.size := World.block_lt_of_cell? W _ this
      exact (cell_of_heap (hw.1.block _ hlt (by rw [add_block]; exact hne))).trans this
    have hsz := hw.1.size
    cases ao with
    | none =>
      obtain ⟨v', w', hrun, hown, hgr, _⟩ := run_append_own (P := P) (w := w) w.heap.size t' o.type e i (.float .f32 0) 1 4 h1 h2 h3 h4 h5 rfl (by omega) (.slice none 0 0) 0 [] (World.ownsRow_nil w _ e 1) ad n c (flist y n) (by rw [flist_length]; omega) hcw (flist_one y n) (by unfold maxLen; omega) (by omega) (Nat.le_refl _)
      simp only [Nat.zero_add, List.nil_append] at hown
      simp [execOp, hop, resolve, invoke, builtin, hs, hx, hrun, Result.andThen, insideT]
      exact ⟨(outX g t m Fin hm).of_le (le_of_grown hgr), w.heap.size, hsz, hown, by omega⟩
    | some b =>
      obtain ⟨v', w', hrun, hown, hgr⟩ := run_append_arg_grows (P := P) w t' o.type e i (.float .f32 0) 1 4 h1 h2 h3 h4 h5 rfl (by omega) b 0 0 [] rfl (fun j u hu => by simp at hu) ad n c (flist y n) (by rw [flist_length]; omega) hcw (by omega) (by unfold maxLen; omega) (by omega)
      simp only [Nat.zero_add, List.nil_append] at hown
      simp [execOp, hop, resolve, invoke, builtin, hs, hx, hrun, Result.andThen, insideT]
      exact ⟨(outX g t m Fin hm).of_le (le_of_grown hgr), w.heap.size, hsz, hown, by omega⟩
/-- The result is stored. -/
theorem wpFreeD_out (hg : o.guard = none) {ty : TypeId} {x y : Operand} (hop : o.op = .store ty x y) (hx : a.eval x = .pointer (some ⟨g, 0, none⟩)) {cells : Array Value} (hy : a.eval y = .agg cells) (hty : ty = t) {old : Array Value} (hW : Row W g t old) (ho : old.size = m)
    (hF : ∀ w w', (outX g t m Fin hm).R W w → behind .any o F w → Chg (· = g) w w' → Fin w' cells) (hi : (P.info? ty).map (·.size) = some m) (hs : cells.size = m) (h1 : cells.all (·.oneCell') = true)
    (h : wpFreeD (outX g t m Fin hm) P ops .any W K Q rest (k + 1) (a.put o.dst undef) (F.with k (fun w => ∃ cs, Row w g t cs ∧ Fin w cs))) : wpFreeD (outX g t m Fin hm) P ops .any W K Q (o :: rest) k a F := by
  subst hty
  refine ⟨fun w v => v = undef ∧ ∃ cs, Row w g ty cs ∧ Fin w cs, ⟨fun v w w' hw hv => ⟨hv.1, hw.2.2 hv.2⟩, .inl ⟨by simp [Region.wanted, hg], fun w hw hbe => ?_⟩⟩, fun v hv => ?_⟩
  · obtain ⟨cs, hc, hcs⟩ := hw.2.1 ⟨old, hW, ho⟩
    have hrun := run_storeVar_row (P := P) w g ty ty cs cells hc (hs ▸ hi) (hcs.trans hs.symm) h1
    have : (execOp a.eval o).run P w = .ok .skip (w.setRow g cells) := by
      unfold execOp
      simp only [hop, hx, hy, Instr.storeAt, Instr.sureAddr, Sem.run_bind, Sem.run_pure, Result.andThen_ok, hrun]
    rw [this]
    have hrow : Row (w.setRow g cells) g ty cells := hc.setRow _
    have hch : Chg (· = g) w (w.setRow g cells) := (Chg.refl _ w).wrote (wrote_setRow hc) rfl
    have hfin := hF w _ hw hbe hch
    exact ⟨⟨hch, fun _ => ⟨cells, hrow, hs⟩, fun _ => ⟨cells, hrow, hfin⟩⟩, rfl, cells, hrow, hfin⟩
  · obtain ⟨w, _, _, rfl, _⟩ := hv
    exact wpFreeD_weaken _ _ _ _ _ (fun e w h => ⟨h.1, fun he => (h.2 he).2⟩) h
end
section
variable {E : Ext} {P : Program} {ops : Array Oper} {W : World} {K : FuncId → Array Value → World → Value → Prop} {Q : Act → World → Prop} {F : Facts} {k : Nat} {o : Oper} {rest : List Oper} {a : Act}
/-- A quiet operation: one value, in the very world. -/
theorem wpFreeD_quiet (hnc : simple o.op = true) (h : wpQuiet P ops (fun _ => True) (fun a' => wpFreeD E P ops .any W K Q rest (k + 1) a' (F.with k (fun _ => True))) [o] a) : wpFreeD E P ops .any W K Q (o :: rest) k a F := by
  simp only [wpQuiet] at h
  by_cases hw : Region.wanted o (yielded ops a.tmps) = true
  · rw [if_pos hw] at h
    obtain ⟨v, h1, h2⟩ := h
    refine ⟨fun _ u => u = v, ⟨fun _ _ _ _ h => h, .inl ⟨hw, fun w hw' _ => ?_⟩⟩, fun u hu => ?_⟩
    · have h3 := h1 w trivial
      unfold Oper.quietAt at h3
      generalize hrun : (execOp a.eval o).run P w = r at h3
      cases r with
      | ok n w' =>
        cases n <;> simp only [Oper.quietUpon] at h3 <;> simp only [insideT]
        case value u => exact ⟨by rw [h3.1]; exact E.refl w, h3.2⟩
        case skip => exact ⟨by rw [h3.1]; exact E.refl w, h3.2.symm⟩
        case enter f args => exact (noEnter hnc hrun).elim
      | halt x w' => simp only [Oper.quietUpon] at h3
    · obtain ⟨w, _, _, rfl⟩ := hu
      exact wpFreeD_weaken _ _ _ _ _ (fun e w h => ⟨h.1, fun _ => trivial⟩) h2
  · rw [if_neg hw] at h
    refine ⟨fun _ u => u = undef, ⟨fun _ _ _ _ h => h, .inr ⟨by simpa using hw, fun _ _ _ => rfl⟩⟩, fun u hu => ?_⟩
    obtain ⟨w, _, _, rfl⟩ := hu
    exact wpFreeD_weaken _ _ _ _ _ (fun e w h => ⟨h.1, fun _ => trivial⟩) h
/-- An operation of one value; what is known of those that it comes behind is carried on. -/
theorem wpFreeD_carry (hg : o.guard = none) (v : Value) (hr : ∀ w, E.R W w → (execOp a.eval o).run P w = .ok (.value v) w) (V : World → Prop) (hm : ∀ w w', E.R w w' → V w → V w') (hb : ∀ w, E.R W w → behind .any o F w → V w)
    (h : wpFreeD E P ops .any W K Q rest (k + 1) (a.put o.dst v) (F.with k V)) : wpFreeD E P ops .any W K Q (o :: rest) k a F := by
  refine ⟨fun w u => u = v ∧ V w, ⟨fun _ w w' hw h => ⟨h.1, hm w w' hw h.2⟩, .inl ⟨by simp [Region.wanted, hg], fun w hw hbe => ?_⟩⟩, fun u hu => ?_⟩
  · rw [hr w hw]; exact ⟨E.refl w, rfl, hb w hw hbe⟩
  · obtain ⟨w, _, _, rfl, _⟩ := hu
    exact wpFreeD_weaken _ _ _ _ _ (fun e w h => ⟨h.1, fun he => (h.2 he).2⟩) h
/-- An operation that makes one new block. -/
theorem wpFreeD_new (hg : o.guard = none) (f : Nat → Value) (ob : Obj) (hr : ∀ w, (execOp a.eval o).run P w = .ok (.value (f w.heap.size)) (w.alloc ob))
    (h : ∀ b, wpFreeD E P ops .any W K Q rest (k + 1) (a.put o.dst (f b)) (F.with k (fun _ => True))) : wpFreeD E P ops .any W K Q (o :: rest) k a F := by
  refine ⟨fun _ u => ∃ b, u = f b, ⟨fun _ _ _ _ h => h, .inl ⟨by simp [Region.wanted, hg], fun w hw _ => ?_⟩⟩, fun u hu => ?_⟩
  · rw [hr w]; exact ⟨E.of_le (le_alloc w ob), _, rfl⟩
  · obtain ⟨w, _, _, b, rfl⟩ := hu
    exact wpFreeD_weaken _ _ _ _ _ (fun e w h => ⟨h.1, fun _ => trivial⟩) (h b)
end
theorem run_empty {P : Program} (w : World) (t e : TypeId) (ie : TypeInfo) (hu : P.underlying t = some (.slice e)) (hie : P.info? e = some ie) : (Instr.buildSlice t 0 #[]).run P w = .ok (.slice (some ⟨w.heap.size, 0, none⟩) 0 0) (w.alloc (.cells #[] e)) := by
  have h : Instr.fill (fun i => some (i * ie.size, ie.size)) (Array.map (fun _ => (default : Value)) (Array.range 0)) [] = some #[] := by simp [Instr.fill]
  simp [Instr.buildSlice, run_underlying hu, sizeOf, typeInfo, hie, newRow, h]
theorem ownsRow_le {w w' : World} {B : Nat} {e : TypeId} {z : Nat} {v : Value} {n : Nat} {xs : List Value} (h : w.ownsRow B e z v n xs) (hl : le w w') : w'.ownsRow B e z v n xs := by
  obtain ⟨h1, h2⟩ := h
  refine ⟨h1, ?_⟩
  rcases h2 with h2 | ⟨q, cap, cur, e1, e2, e3, e4⟩
  · exact .inl h2
  · exact .inr ⟨q, cap, cur, e1, e2, by have := Row.le (g := q) (t := e) (cs := cur) e3 hl; exact this, e4⟩
/-- What a copy's result is. -/
def FinR (B : Nat) (e : TypeId) (n : Nat) (y : Nat → Nat) (k : Int) (w : World) (cs : Array Value) : Prop := ∃ s, cs = #[s, .int .i64 k] ∧ ∃ B', B ≤ B' ∧ w.ownsRow B' e 1 s n (flist y n)
theorem FinR_le (B : Nat) (e : TypeId) (n : Nat) (y : Nat → Nat) (k : Int) : ∀ w w' cs, le w w' → FinR B e n y k w cs → FinR B e n y k w' cs := fun _ _ _ hl ⟨s, h, B', hB, h2⟩ => ⟨s, h, B', hB, ownsRow_le h2 hl⟩
theorem ownsRow_out {g : Nat} {t : TypeId} {m : Nat} {Fin : World → Array Value → Prop} {hm : ∀ w w' cs, le w w' → Fin w cs → Fin w' cs} {w w' : World} {e : TypeId} {n B : Nat} {xs : List Value} {v : Value} (hw : (outX g t m Fin hm).R w w') (h : w.ownsRow B e 1 v n xs) (hg : g < B) : w'.ownsRow B e 1 v n xs := by
  obtain ⟨h1, h2⟩ := h
  refine ⟨h1, ?_⟩
  rcases h2 with h2 | ⟨q, cap, cur, e1, e2, e3, e4⟩
  · exact .inl h2
  · exact .inr ⟨q, cap, cur, e1, e2, by have := hw.1.row (g := q) (t := e) (cs := cur) e3 (by omega); exact this, e4⟩
theorem ownsRow_ch {g : Nat} {w w' : World} {e : TypeId} {n B : Nat} {xs : List Value} {v : Value} (hw : Chg (· = g) w w') (h : w.ownsRow B e 1 v n xs) (hg : g < B) : w'.ownsRow B e 1 v n xs := by
  obtain ⟨h1, h2⟩ := h
  refine ⟨h1, ?_⟩
  rcases h2 with h2 | ⟨q, cap, cur, e1, e2, e3, e4⟩
  · exact .inl h2
  · exact .inr ⟨q, cap, cur, e1, e2, by have := hw.row (g := q) (t := e) (cs := cur) e3 (by omega); exact this, e4⟩
theorem ownsRow_one {w : World} {B : Nat} {e : TypeId} {z : Nat} {v : Value} {n : Nat} {xs : List Value} (h : w.ownsRow B e z v n xs) : v.oneCell' = true := by
  rcases h.2 with ⟨rfl, _⟩ | ⟨q, cap, cur, rfl, _⟩ <;> rfl
namespace Frg
variable {w0 w w' : World}
/-- The two newest facts' blocks are written. -/
theorem chg2 {e1 e2 e1' e2' : Fact} {l : List Fact} (h : Frg w0 w (e1 :: e2 :: l)) (k : Chg (fun i => rng e1.lo e1.hi i ∨ rng e2.lo e2.hi i) w w') (p1 : e1'.p w') (p2 : e2'.p w') (l1 : e1'.lo = e1.lo) (h1 : e1'.hi = e1.hi) (l2 : e2'.lo = e2.lo) (h2 : e2'.hi = e2.hi) : Frg w0 w' (e1' :: e2' :: l) := by
  have f1 := h.facts e1 (by simp)
  have f2 := h.facts e2 (by simp)
  have a1 := List.pairwise_cons.1 h.apart
  have a2 := List.pairwise_cons.1 a1.2
  have b12 := a1.1 e2 (by simp)
  refine ⟨h.below.trans (k.below (fun i hi => by rcases hi with hi | hi; exact Nat.le_trans f1.1 hi.1; exact Nat.le_trans f2.1 hi.1) h.size), fun x hx => ?_, ?_⟩
  · rcases List.mem_cons.1 hx with rfl | hx
    · exact ⟨by omega, by have := k.size; omega, p1⟩
    rcases List.mem_cons.1 hx with rfl | hx
    · exact ⟨by omega, by have := k.size; omega, p2⟩
    · have hx' := h.facts x (by simp [hx])
      have ha := a2.1 x hx
      have ha1 := a1.1 x (by simp [hx])
      exact ⟨hx'.1, Nat.le_trans hx'.2.1 k.size, x.ok w w' hx'.2.2 (fun i a b => k.block i (by omega) (fun c => by rcases c with c | c <;> (have := c.1; omega)))⟩
  · refine List.pairwise_cons.2 ⟨fun x hx => ?_, List.pairwise_cons.2 ⟨fun x hx => by have := a2.1 x hx; omega, a2.2⟩⟩
    rcases List.mem_cons.1 hx with rfl | hx
    · omega
    · have := a1.1 x (by simp [hx]); omega
/-- A ring's struct and its samples, behind a push. -/
theorem pushed {g lo hi n : Nat} {t : TypeId} {cs cs' : Array Value} {s : Value} {x x' : Nat → Nat} {l : List Fact} (h : Frg w0 w (rowF g t cs :: ownF lo hi s x n :: l)) (hr : Row w' g t cs') (ho : OwnS w' lo hi s x' n) (k : Chg (fun i => i = g ∨ lo ≤ i ∧ i < hi) w w') : Frg w0 w' (rowF g t cs' :: ownF lo hi s x' n :: l) := by
  refine h.chg2 (k.mono (fun i hi' => ?_)) hr ho rfl rfl rfl rfl
  rcases hi' with rfl | hi'
  · exact .inl ⟨Nat.le_refl _, Nat.lt_succ_self _⟩
  · exact .inr hi'
theorem not_in {g lo hi n : Nat} {t : TypeId} {cs : Array Value} {s : Value} {x : Nat → Nat} {l : List Fact} (h : Frg w0 w (rowF g t cs :: ownF lo hi s x n :: l)) : ¬ (lo ≤ g ∧ g < hi) := by
  have a1 : hi ≤ g := (List.pairwise_cons.1 h.apart).1 (ownF lo hi s x n) (by simp)
  omega
/-- The result is stored: what it has is the call's own. -/
theorem fin1 {g lo hi n : Nat} {t : TypeId} {cs cs' : Array Value} {s : Value} {x : Nat → Nat} {e : Fact} {l : List Fact} (h : Frg w0 w (e :: ownF lo hi s x n :: rowF g t cs :: l)) (k : Wrote w w' g t cs') : OwnS w' w0.heap.size w'.heap.size s x n ∧ Fk.le w0 w' := by
  have a1 := (List.pairwise_cons.1 h.apart).2
  have a2 : g + 1 ≤ lo := (List.pairwise_cons.1 a1).1 (rowF g t cs) (by simp)
  have f1 := h.facts (ownF lo hi s x n) (by simp)
  have f2 := h.facts (rowF g t cs) (by simp)
  have hc : Chg (· = g) w w' := (Chg.refl _ w).wrote k rfl
  refine ⟨((OwnS.chgS f1.2.2 hc (fun i h1 h2 h3 => by have h1' : lo ≤ i := h1; have h3' : i = g := h3; omega)).mono f1.1 (Nat.le_trans f1.2.1 hc.size)), h.below.trans (hc.below (fun i hi => by have hi' : i = g := hi; subst hi'; exact f2.1) h.size)⟩
theorem fin0 {g lo hi n : Nat} {t : TypeId} {cs cs' : Array Value} {s : Value} {x : Nat → Nat} {l : List Fact} (h : Frg w0 w (ownF lo hi s x n :: rowF g t cs :: l)) (k : Wrote w w' g t cs') : OwnS w' w0.heap.size w'.heap.size s x n ∧ Fk.le w0 w' := by
  have a2 : g + 1 ≤ lo := (List.pairwise_cons.1 h.apart).1 (rowF g t cs) (by simp)
  have f1 := h.facts (ownF lo hi s x n) (by simp)
  have f2 := h.facts (rowF g t cs) (by simp)
  have hc : Chg (· = g) w w' := (Chg.refl _ w).wrote k rfl
  refine ⟨((OwnS.chgS f1.2.2 hc (fun i h1 h2 h3 => by have h1' : lo ≤ i := h1; have h3' : i = g := h3; omega)).mono f1.1 (Nat.le_trans f1.2.1 hc.size)), h.below.trans (hc.below (fun i hi => by have hi' : i = g := hi; subst hi'; exact f2.1) h.size)⟩
theorem fin2 {g lo hi n : Nat} {t : TypeId} {cs cs' : Array Value} {s : Value} {x : Nat → Nat} {e : Fact} {l : List Fact} (h : Frg w0 w (ownF lo hi s x n :: e :: rowF g t cs :: l)) (k : Wrote w w' g t cs') : OwnS w' w0.heap.size w'.heap.size s x n ∧ Fk.le w0 w' := by
  have a2 : g + 1 ≤ lo := (List.pairwise_cons.1 h.apart).1 (rowF g t cs) (by simp)
  have f1 := h.facts (ownF lo hi s x n) (by simp)
  have f2 := h.facts (rowF g t cs) (by simp)
  have hc : Chg (· = g) w w' := (Chg.refl _ w).wrote k rfl
  refine ⟨((OwnS.chgS f1.2.2 hc (fun i h1 h2 h3 => by have h1' : lo ≤ i := h1; have h3' : i = g := h3; omega)).mono f1.1 (Nat.le_trans f1.2.1 hc.size)), h.below.trans (hc.below (fun i hi => by have hi' : i = g := hi; subst hi'; exact f2.1) h.size)⟩
end Frg
end Go.Fk

/- The laws of drawn regions in which several operations make memory: one operation at a time. Nothing here names a program. -/
namespace Go.Fk
open Go Go.RowKit
theorem wpFreeZ_weaken {E : Ext} {P : Program} {ops : Array Oper} {md : Region.Mode} {W : World} {K : FuncId → Array Value → Nat → World → Value → Prop} {Q : Act → World → Prop} : ∀ (l : List Oper) (k : Nat) (a : Act) (F F' : FactsZ), (∀ e z w, F' e z w → F e z w) → wpFreeZ E P ops md W K Q l k a F → wpFreeZ E P ops md W K Q l k a F' := by
  intro l
  induction l with
  | nil => intro k a F F' h hh w zs hw hF hc; exact hh w zs hw (fun e => h e _ w (hF e)) (hc.weaken h)
  | cons o l ih =>
    intro k a F F' h hh
    obtain ⟨V, hg, hn⟩ := hh
    exact ⟨V, hg.stronger h, fun v hv => ih _ _ _ _ (fun e z w hw => ⟨h e z w hw.1, hw.2⟩) (hn v (hv.weaken (fun e z w hw => ⟨h e z w hw.1, hw.2⟩)))⟩
section
variable {E : Ext} {P : Program} {ops : Array Oper} {W : World} {K : FuncId → Array Value → Nat → World → Value → Prop} {Q : Act → World → Prop} {F : FactsZ} {k : Nat} {o : Oper} {rest : List Oper} {a : Act}
theorem wpFreeZ_nil (h : ∀ w zs, E.R W w → (∀ e, F e (zs e) w) → crossZ E W zs F w → Q a w) : wpFreeZ E P ops .any W K Q [] k a F := h
/-- What has been met has been met with some operation's fact: what that fact says of the value alone may be used. -/
theorem metZ.has {V : Nat → World → Prop} (h : metZ E W (F.with k V)) : ∃ z w, E.R W w ∧ V z w := by
  obtain ⟨w, zs, hw, hF, _⟩ := h
  exact ⟨zs k, w, hw, (hF k).2 rfl⟩
theorem wpFreeZ_oneW (hw : Region.wanted o (yielded ops a.tmps) = true) (v : Value) (hr : ∀ w, E.R W w → (execOp a.eval o).run P w = .ok (.value v) w)
    (h : wpFreeZ E P ops .any W K Q rest (k + 1) (a.put o.dst v) (F.with k (fun _ _ => True))) : wpFreeZ E P ops .any W K Q (o :: rest) k a F := by
  refine ⟨fun _ _ u => u = v, ⟨fun _ _ _ _ _ h => h, .inl ⟨hw, fun w hw _ => ?_⟩⟩, fun u hu => ?_⟩
  · rw [hr w hw]; exact ⟨E.refl w, rfl⟩
  · obtain ⟨_, _, _, rfl⟩ := hu.has
    exact wpFreeZ_weaken _ _ _ _ _ (fun e _ w h => ⟨h.1, fun _ => trivial⟩) h
theorem wpFreeZ_one (hg : o.guard = none) (v : Value) (hr : ∀ w, E.R W w → (execOp a.eval o).run P w = .ok (.value v) w)
    (h : wpFreeZ E P ops .any W K Q rest (k + 1) (a.put o.dst v) (F.with k (fun _ _ => True))) : wpFreeZ E P ops .any W K Q (o :: rest) k a F := wpFreeZ_oneW (by simp [Region.wanted, hg]) v hr h
theorem wpFreeZ_skip (hw : Region.wanted o (yielded ops a.tmps) = false)
    (h : wpFreeZ E P ops .any W K Q rest (k + 1) (a.put o.dst undef) (F.with k (fun _ _ => True))) : wpFreeZ E P ops .any W K Q (o :: rest) k a F := by
  refine ⟨fun _ _ u => u = undef, ⟨fun _ _ _ _ _ h => h, .inr ⟨hw, fun w _ _ => rfl⟩⟩, fun u hu => ?_⟩
  obtain ⟨_, _, _, rfl⟩ := hu.has
  exact wpFreeZ_weaken _ _ _ _ _ (fun e _ w h => ⟨h.1, fun _ => trivial⟩) h
theorem wpFreeZ_load1 (hg : o.guard = none) {ty : TypeId} {x : Operand} (hop : o.op = .load ty x) {p : Addr} (hx : a.eval x = .pointer (some p)) {v : Value} (hv : ∀ w, E.R W w → w.cell? p = some v) (hu : ∀ w, (isAgg ty).run P w = .ok false w)
    (h : wpFreeZ E P ops .any W K Q rest (k + 1) (a.put o.dst v) (F.with k (fun _ _ => True))) : wpFreeZ E P ops .any W K Q (o :: rest) k a F := by
  refine wpFreeZ_one hg v (fun w hw => ?_) h
  have hl : (Instr.loadAt ty (.pointer (some p))).run P w = .ok v w := by
    simp [Instr.loadAt, Instr.sureAddr, loadVar, hu, hv w hw]
  simp [execOp, hop, hx, hl, Result.andThen]
theorem wpFreeZ_loadW (hg : o.guard = none) {ty : TypeId} {x : Operand} (hop : o.op = .load ty x) {p : Addr} (hx : a.eval x = .pointer (some p)) (vs : List Value) (hc : ∀ w, E.R W w → ∀ j v, vs[j]? = some v → w.cell? (p.add j) = some v) {d : TypeDesc} (hu : P.underlying ty = some d) (hd : d.isRow = true) {sz : Nat} (hs : (P.info? ty).map (·.size) = some sz) (hl : vs.length = sz)
    (h : wpFreeZ E P ops .any W K Q rest (k + 1) (a.put o.dst (.agg vs.toArray)) (F.with k (fun _ _ => True))) : wpFreeZ E P ops .any W K Q (o :: rest) k a F := by
  refine wpFreeZ_one hg (.agg vs.toArray) (fun w hw => ?_) h
  have hl' : (loadCells p vs.length).run P w = .ok vs.toArray w := run_loadCells_list (P := P) w p vs (hc w hw)
  cases hq : P.info? ty with
  | none => simp [hq] at hs
  | some inf =>
    have hz : inf.size = vs.length := by simp [hq] at hs; omega
    have hagg : (isAgg ty).run P w = .ok true w := by
      unfold isAgg
      rw [Sem.run_bind, run_underlying hu w]
      cases d <;> simp_all
    simp [execOp, hop, hx, Instr.loadAt, Instr.sureAddr, loadVar, Sem.run_bind, hagg, sizeOf, typeInfo, hq, hz, hl', Result.andThen]
/-- A call: what it gives may speak of the number of blocks where it started. -/
theorem wpFreeZ_callW (hw : Region.wanted o (yielded ops a.tmps) = true) {f : FuncId} {xs : Array Operand} {ts : Array TypeId} (hop : o.op = Op.call { callee := Callee.value (Operand.func f), args := xs, argTypes := ts }) {fn : Func} (hf : P.funcs[f]? = some fn)
    (hb : fn.body.isNone = false) (hn : (fn.name == "runtime.NumGoroutine") = false) {args : Array Value} (ha : xs.map a.eval = args) (hm : MonoZ E (K f args))
    (h1 : ∀ w, E.R W w → behindZ E .any W o F w → Calls P f args w (fun e w' => ∃ v, e = .returned v ∧ le w w' ∧ K f args w.heap.size w' v)) (h2 : ∀ v, (∃ z w, E.R W w ∧ K f args z w v) → wpFreeZ E P ops .any W K Q rest (k + 1) (a.put o.dst v) (F.with k (fun z w => K f args z w v))) : wpFreeZ E P ops .any W K Q (o :: rest) k a F := by
  refine ⟨K f args, ⟨hm, .inl ⟨hw, fun w hw hbe => ?_⟩⟩, fun v hv => h2 v hv.has⟩
  rw [run_enter hop hf hb hn ha]
  refine ⟨E.refl w, (h1 w hw hbe).mono ?_, fun _ _ h => h⟩
  rintro e w' ⟨v, rfl, hl, hk⟩
  exact ⟨v, rfl, E.of_le hl, hk⟩
/-- An operation of one value; what is known of those that it comes behind is carried on. -/
theorem wpFreeZ_carry (hg : o.guard = none) (v : Value) (hr : ∀ w, E.R W w → (execOp a.eval o).run P w = .ok (.value v) w) (V : World → Prop) (hm : ∀ w w', E.R w w' → V w → V w') (hb : ∀ w, E.R W w → behindZ E .any W o F w → V w)
    (h : wpFreeZ E P ops .any W K Q rest (k + 1) (a.put o.dst v) (F.with k (fun _ => V))) : wpFreeZ E P ops .any W K Q (o :: rest) k a F := by
  refine ⟨fun _ w u => u = v ∧ V w, ⟨fun _ _ w w' hw h => ⟨h.1, hm w w' hw h.2⟩, .inl ⟨by simp [Region.wanted, hg], fun w hw hbe => ?_⟩⟩, fun u hu => ?_⟩
  · rw [hr w hw]; exact ⟨E.refl w, rfl, hb w hw hbe⟩
  · obtain ⟨_, _, _, rfl, _⟩ := hu.has
    exact wpFreeZ_weaken _ _ _ _ _ (fun e _ w h => ⟨h.1, fun he => (h.2 he).2⟩) h
/-- An operation that makes one new block. -/
theorem wpFreeZ_new (hg : o.guard = none) (f : Nat → Value) (ob : Obj) (hr : ∀ w, (execOp a.eval o).run P w = .ok (.value (f w.heap.size)) (w.alloc ob))
    (h : ∀ b, wpFreeZ E P ops .any W K Q rest (k + 1) (a.put o.dst (f b)) (F.with k (fun _ _ => True))) : wpFreeZ E P ops .any W K Q (o :: rest) k a F := by
  refine ⟨fun _ _ u => ∃ b, u = f b, ⟨fun _ _ _ _ _ h => h, .inl ⟨by simp [Region.wanted, hg], fun w hw _ => ?_⟩⟩, fun u hu => ?_⟩
  · rw [hr w]; exact ⟨E.of_le (le_alloc w ob), _, rfl⟩
  · obtain ⟨_, _, _, b, rfl⟩ := hu.has
    exact wpFreeZ_weaken _ _ _ _ _ (fun e _ w h => ⟨h.1, fun _ => trivial⟩) (h b)
end
section
variable {P : Program} {ops : Array Oper} {W : World} {K : FuncId → Array Value → Nat → World → Value → Prop} {Q : Act → World → Prop} {F : FactsZ} {k : Nat} {o : Oper} {rest : List Oper} {a : Act}
variable {g : Nat} {t : TypeId} {m : Nat} {Fin : World → Array Value → Prop} {hm : ∀ w w' cs, le w w' → Fin w cs → Fin w' cs}
/-- The result is stored. -/
theorem wpFreeZ_out (hg : o.guard = none) {ty : TypeId} {x y : Operand} (hop : o.op = .store ty x y) (hx : a.eval x = .pointer (some ⟨g, 0, none⟩)) {cells : Array Value} (hy : a.eval y = .agg cells) (hty : ty = t) {old : Array Value} (hW : Row W g t old) (ho : old.size = m)
    (hF : ∀ w w', (outX g t m Fin hm).R W w → behindZ (outX g t m Fin hm) .any W o F w → Chg (· = g) w w' → Fin w' cells) (hi : (P.info? ty).map (·.size) = some m) (hs : cells.size = m) (h1 : cells.all (·.oneCell') = true)
    (h : wpFreeZ (outX g t m Fin hm) P ops .any W K Q rest (k + 1) (a.put o.dst undef) (F.with k (fun _ w => ∃ cs, Row w g t cs ∧ Fin w cs))) : wpFreeZ (outX g t m Fin hm) P ops .any W K Q (o :: rest) k a F := by
  subst hty
  refine ⟨fun _ w v => v = undef ∧ ∃ cs, Row w g ty cs ∧ Fin w cs, ⟨fun _ v w w' hw hv => ⟨hv.1, hw.2.2 hv.2⟩, .inl ⟨by simp [Region.wanted, hg], fun w hw hbe => ?_⟩⟩, fun v hv => ?_⟩
  · obtain ⟨cs, hc, hcs⟩ := hw.2.1 ⟨old, hW, ho⟩
    have hrun := run_storeVar_row (P := P) w g ty ty cs cells hc (hs ▸ hi) (hcs.trans hs.symm) h1
    have : (execOp a.eval o).run P w = .ok .skip (w.setRow g cells) := by
      unfold execOp
      simp only [hop, hx, hy, Instr.storeAt, Instr.sureAddr, Sem.run_bind, Sem.run_pure, Result.andThen_ok, hrun]
    rw [this]
    have hrow : Row (w.setRow g cells) g ty cells := hc.setRow _
    have hch : Chg (· = g) w (w.setRow g cells) := (Chg.refl _ w).wrote (wrote_setRow hc) rfl
    have hfin := hF w _ hw hbe hch
    exact ⟨⟨hch, fun _ => ⟨cells, hrow, hs⟩, fun _ => ⟨cells, hrow, hfin⟩⟩, rfl, cells, hrow, hfin⟩
  · obtain ⟨_, _, _, rfl, _⟩ := hv.has
    exact wpFreeZ_weaken _ _ _ _ _ (fun e _ w h => ⟨h.1, fun he => (h.2 he).2⟩) h
/-- A slice in a block of its own, made behind the region's start: the writes of the result's block leave it. -/
theorem own_outX {w w' : World} {lo hi : Nat} {s : Value} {x : Nat → Nat} {n : Nat} (h : OwnS w lo hi s x n) (hw : (outX g t m Fin hm).R w w') (hl : g < lo ∨ hi ≤ g) : OwnS w' lo hi s x n := h.chgS hw.1 (fun i h1 h2 e => by omega)
end
/-- A slice that is not empty lies in one block. -/
theorem OwnS.tight {w : World} {lo hi : Nat} {s : Value} {x : Nat → Nat} {n : Nat} (h : OwnS w lo hi s x n) (hn : 1 ≤ n) : ∃ b, lo ≤ b ∧ b < hi ∧ OwnS w b (b + 1) s x n := by
  rcases h with ⟨_, h⟩ | ⟨b, o, cap, cs, h1, h2, h3, h4, h5, h6, h7⟩
  · omega
  · exact ⟨b, h4, h5, .inr ⟨b, o, cap, cs, h1, h2, h3, Nat.le_refl _, Nat.lt_succ_self _, h6, h7⟩⟩
end Go.Fk

/- Laws for operations that are guarded and wanted. Nothing here names a program. -/
namespace Go.Fk
open Go Go.RowKit
section
variable {P : Program} {w : World} {ops : Array Oper} {rest : List Oper} {o : Oper} {a : Act} {Q : Exit → Act → World → Prop}
theorem wpList_wanted (hw : Region.wanted o (yielded ops a.tmps) = true) (h : ∀ K : Act → World → Prop, (∀ a w, wpList P ops Q rest a w → K a w) → o.wp P a w K Q) : wpList P ops Q (o :: rest) a w :=
  wpList_step fun K hK => by simp only [hw, if_true]; exact h K hK
theorem wpList_widenG {src dst : TypeId} {x : Operand} (hop : o.op = Op.convert src dst x) {b : Nat} (hx : a.eval x = .float .f32 b)
    (hs : P.underlying src = some (.float .f32)) (hd : P.underlying dst = some (.float .f64)) (hw : Region.wanted o (yielded ops a.tmps) = true)
    (hK : ∀ r n, Hid (can .f64 r = can .f64 (widen b)) → Hid (fits .f64 r) → wpList P ops Q rest (a.put o.dst (.float .f64 r)) (w.drewN n)) : wpList P ops Q (o :: rest) a w := by
  refine wpList_wanted hw fun K hK' => ?_
  obtain ⟨r, n, hrun, hr, hf⟩ := run_widen (P := P) w src dst b hs hd
  unfold Oper.wp
  simp [execOp, hop, hx, hrun, Result.andThen]
  exact hK' _ _ (hK r n hr hf)
end
end Go.Fk

/- Loads that may be guarded (and wanted), the cells being told as facts. Nothing here names a program. -/
namespace Go.Fk
open Go Go.RowKit
section
variable {P : Program} {w : World} {ops : Array Oper} {rest : List Oper} {o : Oper} {a : Act} {Q : Exit → Act → World → Prop}
theorem wpList_load1C {ty : TypeId} {x : Operand} (hop : o.op = .load ty x) {g f : Nat} (hx : a.eval x = .pointer (some ⟨g, f, none⟩)) {v : Value} (hw : Region.wanted o (yielded ops a.tmps) = true) {t : TypeId} {cs : Array Value} (hr : Row w g t cs) (hv : cs[f]? = some v) (hu : ∀ w, (isAgg ty).run P w = .ok false w)
    (h : wpList P ops Q rest (a.put o.dst v) w) : wpList P ops Q (o :: rest) a w := by
  refine wpList_wanted hw fun K hK' => ?_
  unfold Oper.wp execOp
  have hc : w.cell? ⟨g, f, none⟩ = some v := by rw [hr.cell?, hv]
  have hl : (Instr.loadAt ty (.pointer (some ⟨g, f, none⟩))).run P w = .ok v w := by
    simp [Instr.loadAt, Instr.sureAddr, loadVar, hu, hc]
  simp [hop, hx, hl, Result.andThen]
  exact hK' _ _ h
/-- A value of one cell is loaded, guarded or not. -/
theorem wpList_load1G {ty : TypeId} {x : Operand} (hop : o.op = .load ty x) {p : Addr} (hx : a.eval x = .pointer (some p)) {v : Value} (hw : Region.wanted o (yielded ops a.tmps) = true) (hc : w.cell? p = some v) (hu : ∀ w, (isAgg ty).run P w = .ok false w)
    (h : wpList P ops Q rest (a.put o.dst v) w) : wpList P ops Q (o :: rest) a w := by
  refine wpList_wanted hw fun K hK' => ?_
  unfold Oper.wp execOp
  have hl : (Instr.loadAt ty (.pointer (some p))).run P w = .ok v w := by
    simp [Instr.loadAt, Instr.sureAddr, loadVar, hu, hc]
  simp [hop, hx, hl, Result.andThen]
  exact hK' _ _ h
theorem wpList_load1X {ty : TypeId} {x : Operand} (hop : o.op = .load ty x) {g f : Nat} (hx : a.eval x = .pointer (some ⟨g, f, none⟩)) {v : Value} (hw : Region.wanted o (yielded ops a.tmps) = true) (hc : w.cell? ((⟨g, 0, none⟩ : Addr).add f) = some v) (hu : ∀ w, (isAgg ty).run P w = .ok false w)
    (h : wpList P ops Q rest (a.put o.dst v) w) : wpList P ops Q (o :: rest) a w := by
  refine wpList_wanted hw fun K hK' => ?_
  unfold Oper.wp execOp
  rw [add_none, Nat.zero_add] at hc
  have hl : (Instr.loadAt ty (.pointer (some ⟨g, f, none⟩))).run P w = .ok v w := by
    simp [Instr.loadAt, Instr.sureAddr, loadVar, hu, hc]
  simp [hop, hx, hl, Result.andThen]
  exact hK' _ _ h
theorem wpList_loadWC {ty : TypeId} {x : Operand} (hop : o.op = .load ty x) {p : Addr} (hx : a.eval x = .pointer (some p)) (vs : List Value) (hw : Region.wanted o (yielded ops a.tmps) = true) (hc : ∀ j v, vs[j]? = some v → w.cell? (p.add j) = some v) {d : TypeDesc} (hu : P.underlying ty = some d) (hd : d.isRow = true) {sz : Nat} (hs : (P.info? ty).map (·.size) = some sz) (hl : vs.length = sz)
    (h : wpList P ops Q rest (a.put o.dst (.agg vs.toArray)) w) : wpList P ops Q (o :: rest) a w := by
  refine wpList_wanted hw fun K hK' => ?_
  unfold Oper.wp execOp
  have hl' : (loadCells p vs.length).run P w = .ok vs.toArray w := run_loadCells_list (P := P) w p vs hc
  cases hq : P.info? ty with
  | none => simp [hq] at hs
  | some inf =>
    have hz : inf.size = vs.length := by simp [hq] at hs; omega
    have hagg : (isAgg ty).run P w = .ok true w := by
      unfold isAgg
      rw [Sem.run_bind, run_underlying hu w]
      cases d <;> simp_all
    have hL : (Instr.loadAt ty (.pointer (some p))).run P w = .ok (.agg vs.toArray) w := by
      simp [Instr.loadAt, Instr.sureAddr, loadVar, hagg, sizeOf, typeInfo, hq, hz, Sem.run_bind, hl']
    simp [hop, hx, hL, Result.andThen]
    exact hK' _ _ h
end
end Go.Fk
namespace Go.Fk
open Go Go.RowKit
/-- One call has one end: two contracts tell the same bool. -/
theorem agree_b {P : Program} {f : FuncId} {args : Array Value} {w : World} {c d : Bool} {R R' : World → Prop} (h : Calls P f args w fun e w' => e = .returned (.bool c) ∧ R w') (h' : Calls P f args w fun e w' => e = .returned (.bool d) ∧ R' w') (hi : P.inits.idxOf? f = none) : c = d := by
  have g := (h.mono (R' := fun e w' => match e, w' with | .returned v, _ => v = .bool c | _, _ => False) (fun e w' ⟨h1, _⟩ => by subst h1; rfl)).done (R := fun v _ => v = .bool c) hi
  have g' := (h'.mono (R' := fun e w' => match e, w' with | .returned v, _ => v = .bool d | _, _ => False) (fun e w' ⟨h1, _⟩ => by subst h1; rfl)).done (R := fun v _ => v = .bool d) hi
  obtain ⟨n, v, w1, e1, rfl⟩ := g
  obtain ⟨m, v', w2, e2, rfl⟩ := g'
  have a := runN_ended e1 m
  have b := runN_ended e2 n
  rw [Nat.add_comm, a] at b
  injection b with ho hw
  injection ho with hv
  injection hv
end Go.Fk

/- Rings in the laws' helpers, over facts of memory. -/
namespace Go.Fk
open Go Go.RowKit
theorem RdS.uniq {w : World} {B B' : Nat} {s : Value} {x x' : Nat → Nat} {n n' : Nat} (h : RdS w B s x n) (h' : RdS w B' s x' n') : n = n' ∧ ∀ i, i < n → x i = x' i := by
  rcases h with ⟨rfl, rfl⟩ | ⟨a, cap, rfl, _, _, h3⟩ <;> rcases h' with ⟨e, rfl⟩ | ⟨a', cap', e, _, _, h3'⟩
  · exact ⟨rfl, fun i hi => absurd hi (by omega)⟩
  · cases e
  · cases e
  · simp only [Value.slice.injEq, Option.some.injEq] at e
    obtain ⟨rfl, e2, rfl⟩ := e
    have e3 : n = n' := by omega
    subst e3
    refine ⟨rfl, fun i hi => ?_⟩
    obtain ⟨_, y, e1, _, e2⟩ := h3 i hi
    obtain ⟨_, y', e1', _, e2'⟩ := h3' i hi
    rw [e1] at e1'
    simp only [Option.some.injEq, Value.float.injEq, true_and] at e1'
    rw [← e2, ← e2', e1']
/-- What a copy of a ring is, whatever is known of it. -/
def KRing (w0 : World) (args : Array Value) (w : World) (v : Value) : Prop := ∀ s k B x n, args = #[.agg #[s, .int .i64 k]] → RdS w0 B s x n → ∃ s' B', v = .agg #[s', .int .i64 k] ∧ RdS w B' s' x n
theorem KRing.le {w0 w w' : World} {args : Array Value} {v : Value} (h : KRing w0 args w v) (hl : Fk.le w w') : KRing w0 args w' v := fun s k B x n e hr => by
  obtain ⟨s', B', e1, e2⟩ := h s k B x n e hr
  exact ⟨s', B', e1, e2.le hl⟩
end Go.Fk
namespace Go.Proofs.Ytnkjmgadnejdlad
open Go.RowKit Go.Fk
end Go.Proofs.Ytnkjmgadnejdlad

/- Which filters are valid: the plain function, the model's contract and the program's. -/
namespace Go.Fk
open Go Go.RowKit
/-- How many numbers and states a kind uses. -/
def cU (k : Int) : Nat := if k = 1 ∨ k = 2 then 2 else if k = 3 ∨ k = 5 then 1 else 3
def sU (k : Int) : Nat := if k = 1 ∨ k = 2 then 1 else 2
/-- Is a filter valid? -/
def okF (k : Int) (a b c x y : Nat) : Bool := (decide (1 ≤ k) && decide (k ≤ 5)) && (usedB (tri a b c) 3 (cU k) && usedB (duo x y) 2 (sU k))
theorem okF_kind {k : Int} {a b c x y : Nat} (h : okF k a b c x y = true) : 1 ≤ k ∧ k ≤ 5 := by
  simp only [okF, Bool.and_eq_true, decide_eq_true_eq] at h; exact h.1
theorem okF_out {k : Int} {a b c x y : Nat} (h : ¬ (1 ≤ k ∧ k ≤ 5)) : okF k a b c x y = false := by
  cases e : okF k a b c x y
  · rfl
  · exact absurd (okF_kind e) h
theorem cU_le (k : Int) : cU k ≤ 3 := by unfold cU; split; omega; split <;> omega
theorem sU_le (k : Int) : sU k ≤ 2 := by unfold sU; split <;> omega
theorem Row.six {w : World} {g : Nat} {t : TypeId} {v0 v1 v2 v3 v4 v5 : Value} (h : Row w g t #[v0, v1, v2, v3, v4, v5]) :
    w.cell? ⟨g, 0, none⟩ = some v0 ∧ w.cell? ⟨g, 1, none⟩ = some v1 ∧ w.cell? ⟨g, 2, none⟩ = some v2 ∧ w.cell? ⟨g, 3, none⟩ = some v3 ∧ w.cell? ⟨g, 4, none⟩ = some v4 ∧ w.cell? ⟨g, 5, none⟩ = some v5 :=
  ⟨h.cell? 0, h.cell? 1, h.cell? 2, h.cell? 3, h.cell? 4, h.cell? 5⟩
theorem Row.tri {w : World} {g : Nat} {t : TypeId} {k : Int} {a b c x y : Nat} (h : Row w g t (#[.int .i64 k, .float .f32 a, .float .f32 b, .float .f32 c, .float .f32 x, .float .f32 y] : Array Value)) (i : Nat) (hi : i < 3) : w.cell? ⟨g, 1 + i, none⟩ = some (.float .f32 (tri a b c i)) := by
  match i, hi with
  | 0, _ => exact h.cell? 1
  | 1, _ => exact h.cell? 2
  | 2, _ => exact h.cell? 3
theorem Row.duo {w : World} {g : Nat} {t : TypeId} {k : Int} {a b c x y : Nat} (h : Row w g t (#[.int .i64 k, .float .f32 a, .float .f32 b, .float .f32 c, .float .f32 x, .float .f32 y] : Array Value)) (i : Nat) (hi : i < 2) : w.cell? ⟨g, 4 + i, none⟩ = some (.float .f32 (duo x y i)) := by
  match i, hi with
  | 0, _ => exact h.cell? 4
  | 1, _ => exact h.cell? 5
/-- A filter within a block. -/
structure FilAt (w : World) (g f : Nat) (k : Int) (a b c x y : Nat) : Prop where
  k0 : w.cell? ⟨g, f, none⟩ = some (.int .i64 k)
  tri : ∀ i, i < 3 → w.cell? ⟨g, f + 1 + i, none⟩ = some (.float .f32 (tri a b c i))
  duo : ∀ i, i < 2 → w.cell? ⟨g, f + 4 + i, none⟩ = some (.float .f32 (duo x y i))
theorem Row.filAt {w : World} {g : Nat} {t : TypeId} {k : Int} {a b c x y : Nat} (h : Row w g t (#[.int .i64 k, .float .f32 a, .float .f32 b, .float .f32 c, .float .f32 x, .float .f32 y] : Array Value)) : FilAt w g 0 k a b c x y :=
  ⟨h.six.1, fun i hi => by rw [Nat.zero_add]; exact h.tri i hi, fun i hi => by rw [Nat.zero_add]; exact h.duo i hi⟩
/-- A filter within a row. -/
structure FilIn (cs : Array Value) (f : Nat) (k : Int) (a b c x y : Nat) : Prop where
  k0 : cs[f]? = some (.int .i64 k)
  c1 : cs[f + 1]? = some (.float .f32 a)
  c2 : cs[f + 2]? = some (.float .f32 b)
  c3 : cs[f + 3]? = some (.float .f32 c)
  c4 : cs[f + 4]? = some (.float .f32 x)
  c5 : cs[f + 5]? = some (.float .f32 y)
theorem FilIn.at {cs : Array Value} {f : Nat} {k : Int} {a b c x y : Nat} (h : FilIn cs f k a b c x y) {w : World} {g : Nat} {t : TypeId} (hr : Row w g t cs) : FilAt w g f k a b c x y :=
  ⟨(hr.cell? f).trans h.k0, fun i hi => by
    match i, hi with
    | 0, _ => exact (hr.cell? (f + 1)).trans h.c1
    | 1, _ => exact (hr.cell? (f + 2)).trans h.c2
    | 2, _ => exact (hr.cell? (f + 3)).trans h.c3, fun i hi => by
    match i, hi with
    | 0, _ => exact (hr.cell? (f + 4)).trans h.c4
    | 1, _ => exact (hr.cell? (f + 5)).trans h.c5⟩
theorem fits_tri {a b c : Nat} (ha : fits .f32 a) (hb : fits .f32 b) (hc : fits .f32 c) : ∀ i, i < 3 → fits .f32 (tri a b c i) := by
  intro i hi
  match i, hi with
  | 0, _ => exact ha
  | 1, _ => exact hb
  | 2, _ => exact hc
theorem fits_duo {a b : Nat} (ha : fits .f32 a) (hb : fits .f32 b) : ∀ i, i < 2 → fits .f32 (duo a b i) := by
  intro i hi
  match i, hi with
  | 0, _ => exact ha
  | 1, _ => exact hb
end Go.Fk
namespace Go.Proofs.Ytnkjmgadnejdlad
open Go.RowKit Go.Fk
end Go.Proofs.Ytnkjmgadnejdlad

/- 'SameFilter' of both. -/
namespace Go.Fk
open Go Go.RowKit
/-- Are two rows the same? -/
def eqRow (f f' : Nat → Nat) (n : Nat) : Bool := (List.range n).all (fun j => sameB (f j) (f' j))
theorem eqRow_no {f f' : Nat → Nat} {n j : Nat} (hj : j < n) (h : sameB (f j) (f' j) = false) : eqRow f f' n = false := by
  rw [Bool.eq_false_iff]
  intro hh
  have := List.all_eq_true.1 hh j (List.mem_range.2 hj)
  rw [h] at this; cases this
theorem eqRow_yes {f f' : Nat → Nat} {n : Nat} (h : ∀ j, j < n → sameB (f j) (f' j) = true) : eqRow f f' n = true := List.all_eq_true.2 (fun j hj => h j (List.mem_range.1 hj))
theorem all_step {p : Nat → Prop} {k : Nat} (h : ∀ j, j < k → p j) (hk : p k) : ∀ j, j < k + 1 → p j := fun j hj => by
  by_cases e : j = k
  · rw [e]; exact hk
  · exact h j (by omega)
section
variable {P : Program} {ops : Array Oper} {w : World} {K : FuncId → Array Value → Value → Prop} {Q : Act → Prop} {o : Oper} {rest : List Oper} {a : Act} {C : World → Prop}
theorem wpLoose_anyW (hw : Region.wanted o (yielded ops a.tmps) = true) (V : Value → Prop) (h1 : ∀ n, within P (fun w' => ∃ m, w' = w.drewN m) K V ((execOp a.eval o).run P (w.drewN n)))
    (h2 : ∀ v, V v → wpLoose P ops (fun w' => ∃ m, w' = w.drewN m) K Q rest (a.put o.dst v)) : wpLoose P ops (fun w' => ∃ m, w' = w.drewN m) K Q (o :: rest) a :=
  ⟨V, .inl ⟨hw, fun w' hw' => by obtain ⟨n, rfl⟩ := hw'; exact h1 n⟩, h2⟩
theorem wpLoose_skip (hw : Region.wanted o (yielded ops a.tmps) = false) (h : wpLoose P ops C K Q rest (a.put o.dst undef)) : wpLoose P ops C K Q (o :: rest) a :=
  ⟨(· = undef), .inr ⟨hw, rfl⟩, fun v hv => by rw [hv]; exact h⟩
theorem wpLoose_nilW (hw : Region.wanted o (yielded ops a.tmps) = true) {x : Operand} (hop : o.op = Op.nilCheck x) {ad : Addr} (hx : a.eval x = .pointer (some ad))
    (hK : wpLoose P ops (fun w' => ∃ m, w' = w.drewN m) K Q rest (a.put o.dst (.pointer (some ad)))) : wpLoose P ops (fun w' => ∃ m, w' = w.drewN m) K Q (o :: rest) a := by
  refine wpLoose_anyW hw (· = .pointer (some ad)) (fun n => ?_) (by rintro v rfl; exact hK)
  simp [execOp, hop, hx, within, Result.andThen]
  exact ⟨_, rfl⟩
end
end Go.Fk
namespace Go.Proofs.Ytnkjmgadnejdlad
open Go.RowKit Go.Fk
end Go.Proofs.Ytnkjmgadnejdlad

/- Rings over facts of memory: 'ValidRing', 'SameRing' of both. -/
namespace Go.Fk
open Go Go.RowKit
theorem RdS.form {w : World} {B : Nat} {s : Value} {x : Nat → Nat} {n : Nat} (h : RdS w B s x n) : (s = .slice none 0 0 ∧ n = 0) ∨ ∃ (a : Addr) (cap : Nat), s = .slice (some a) n cap ∧ n ≤ cap ∧ cap ≤ maxLen := by
  rcases h with h | ⟨a, cap, h1, h2, h3, _⟩
  · exact .inl h
  · exact .inr ⟨a, cap, h1, h2, h3⟩
section
variable {P : Program} {w : World} {ops : Array Oper} {rest : List Oper} {o : Oper} {a : Act} {Q : Exit → Act → World → Prop}
/-- The length of a slice that can be read. -/
theorem wpList_lenR (hg : o.guard = none) {x : Operand} {t : TypeId} (hop : o.op = Op.call { callee := Callee.builtin Builtin.len, args := #[x], argTypes := #[t] }) {v : Value} (hx : a.eval x = v) {e : TypeId} (hu : P.underlying t = some (.slice e)) {w1 : World} {B : Nat} {y : Nat → Nat} {n : Nat} (hv : RdS w1 B v y n)
    (h : wpList P ops Q rest (a.put o.dst (.int .i64 n)) w) : wpList P ops Q (o :: rest) a w := by
  refine wpList_plain hg fun K hK' => ?_
  unfold Oper.wp
  rcases hv.form with ⟨rfl, rfl⟩ | ⟨ad, cap, rfl, _, _⟩
  all_goals
    simp [execOp, hop, hx, Result.andThen, resolve, invoke, builtin, Builtin.len_, run_underlying hu]
    exact hK' _ _ h
end
theorem sameB_can (x y : Nat) : sameB (can .f32 x) (can .f32 y) = sameB x y := by unfold sameB; rw [can_can, can_can]
theorem okRing_iff {n : Nat} {k : Int} : okRing n k = true ↔ 1 ≤ n ∧ n ≤ 1024 ∧ 0 ≤ k ∧ k < n := by
  unfold okRing; simp only [Bool.and_eq_true, decide_eq_true_eq]; omega
theorem okRing_j {n : Nat} {k : Int} (h : okRing n k = true) : 1 ≤ n ∧ n ≤ 1024 ∧ ∃ j : Nat, k = j ∧ j < n := by
  obtain ⟨h1, h2, h3, h4⟩ := okRing_iff.1 h
  exact ⟨h1, h2, k.toNat, by omega, by omega⟩
/-- Two slices of floats, compared. -/
def sameS (x x' : Nat → Nat) (n n' : Nat) : Bool := (n == n') && eqRow x x' n
theorem sameS_ne {x x' : Nat → Nat} {n n' : Nat} (h : n ≠ n') : sameS x x' n n' = false := by simp [sameS, h]
theorem sameS_eq {x x' : Nat → Nat} {n : Nat} : sameS x x' n n = eqRow x x' n := by simp [sameS]
end Go.Fk
namespace Go.Proofs.Ytnkjmgadnejdlad
open Go.RowKit Go.Fk
end Go.Proofs.Ytnkjmgadnejdlad

/- Copies of rings; 'PushSample' of both. -/
namespace Go.Fk
open Go Go.RowKit
section
variable {P : Program} {ops : Array Oper} {w : World} {K : FuncId → Array Value → Value → Prop} {Q : Act → Prop} {o : Oper} {rest : List Oper} {a : Act}
theorem wpLoose_nilP (hg : o.guard = none) {x : Operand} (hop : o.op = Op.nilCheck x) {ad : Addr} (hx : a.eval x = .pointer (some ad))
    (hK : wpLoose P ops (fun w' => ∃ m, w' = w.drewN m) K Q rest (a.put o.dst (.pointer (some ad)))) : wpLoose P ops (fun w' => ∃ m, w' = w.drewN m) K Q (o :: rest) a := by
  refine wpLoose_any hg (· = .pointer (some ad)) (fun n => ?_) (by rintro v rfl; exact hK)
  simp [execOp, hop, hx, within, Result.andThen]
  exact ⟨_, rfl⟩
theorem wpLoose_len (hg : o.guard = none) {x : Operand} {t : TypeId} (hop : o.op = Op.call { callee := Callee.builtin Builtin.len, args := #[x], argTypes := #[t] }) {e : TypeId} (hu : P.underlying t = some (.slice e)) {ao : Option Addr} {n c : Nat} (hx : a.eval x = .slice ao n c)
    (hK : wpLoose P ops (fun w' => ∃ m, w' = w.drewN m) K Q rest (a.put o.dst (.int .i64 n))) : wpLoose P ops (fun w' => ∃ m, w' = w.drewN m) K Q (o :: rest) a := by
  refine wpLoose_any hg (· = .int .i64 n) (fun m => ?_) (by rintro v rfl; exact hK)
  simp [execOp, hop, hx, within, Result.andThen, resolve, invoke, builtin, Builtin.len_, run_underlying hu]
  exact ⟨⟨_, rfl⟩, rfl⟩
end
/-- A ring's samples behind a push. -/
def pushX (x : Nat → Nat) (j a : Nat) : Nat → Nat := fun i => if i = j then can .f32 a else x i
def OutPu (lo hi : Nat) (s : Value) (x : Nat → Nat) (n j a g f : Nat) (t : TypeId) (cs : Array Value) (w : World) (e : Ending) (w' : World) : Prop :=
  ∃ o, e = .returned (.float .f32 o) ∧ can .f32 o = x j ∧ fits .f32 o ∧ Row w' g t (cs.setIfInBounds (f + 1) (.int .i64 (((j + 1) % n : Nat) : Int))) ∧ OwnS w' lo hi s (pushX x j a) n ∧ Chg (fun i => i = g ∨ lo ≤ i ∧ i < hi) w w'
theorem own_set {w : World} {lo hi b o cap n : Nat} {ds : Array Value} {x : Nat → Nat} (j a : Nat) (hr : Row w b 22 (ds.setIfInBounds (o + j) (.float .f32 a))) (hc : n ≤ cap) (hm : cap ≤ maxLen) (hb : lo ≤ b) (hb' : b < hi) (hj : o + j < ds.size) (ha : fits .f32 a)
    (hx : ∀ i, i < n → ∃ y, ds[o + i]? = some (.float .f32 y) ∧ fits .f32 y ∧ can .f32 y = x i) : OwnS w lo hi (.slice (some ⟨b, o, none⟩) n cap) (pushX x j a) n := by
  refine .inr ⟨b, o, cap, _, rfl, hc, hm, hb, hb', hr, fun i hi' => ?_⟩
  by_cases e : i = j
  · subst e
    exact ⟨a, by rw [Array.getElem?_setIfInBounds_self_of_lt hj], ha, by simp [pushX]⟩
  · obtain ⟨y, e1, e2, e3⟩ := hx i hi'
    exact ⟨y, by rw [Array.getElem?_setIfInBounds_ne (by omega)]; exact e1, e2, by simp [pushX, e, e3]⟩
end Go.Fk
namespace Go.Proofs.Ytnkjmgadnejdlad
open Go.RowKit Go.Fk
theorem kindF : ∀ w : World, (isAgg 23).run Try.prog w = .ok false w := fun w => by kernel_rfl
theorem kindI : ∀ w : World, (isAgg 2).run Try.prog w = .ok false w := fun w => by kernel_rfl
theorem okRing_nat {n : Nat} {k : Int} (h : okRing n k = true) : 1 ≤ n ∧ n ≤ 1024 ∧ ∃ j : Nat, k = j ∧ j < n := by
  have := okRing_iff.1 h
  exact ⟨this.1, this.2.1, k.toNat, by omega, by omega⟩
end Go.Proofs.Ytnkjmgadnejdlad

/- Cells of slices that one may write. Nothing here names a program. -/
namespace Go.Fk
open Go Go.RowKit
theorem OwnS.form {w : World} {lo hi n : Nat} {s : Value} {x : Nat → Nat} (h : OwnS w lo hi s x n) (hn : 1 ≤ n) : ∃ b o cap, s = .slice (some ⟨b, o, none⟩) n cap ∧ n ≤ cap ∧ cap ≤ maxLen ∧ lo ≤ b ∧ b < hi := by
  rcases h with ⟨_, rfl⟩ | ⟨b, o, cap, cs, h1, h2, h3, h4, h5, _⟩
  · omega
  · exact ⟨b, o, cap, h1, h2, h3, h4, h5⟩
theorem OwnS.at {w : World} {lo hi b o n cap : Nat} {x : Nat → Nat} (h : OwnS w lo hi (.slice (some ⟨b, o, none⟩) n cap) x n) {i : Nat} (hi' : i < n) : ∃ y, w.cell? ⟨b, o + i, none⟩ = some (.float .f32 y) ∧ w.frozen? ⟨b, o + i, none⟩ = false ∧ fits .f32 y ∧ can .f32 y = x i := by
  rcases h with ⟨h0, _⟩ | ⟨b', o', cap', cs, h1, h2, h3, h4, h5, h6, h7⟩
  · cases h0
  · simp only [Value.slice.injEq, Option.some.injEq, Addr.mk.injEq, and_true, true_and] at h1
    obtain ⟨⟨rfl, rfl⟩, rfl⟩ := h1
    obtain ⟨y, e1, e2, e3⟩ := h7 i hi'
    exact ⟨y, (h6.cell? (o + i)).trans e1, h6.frozen (o + i), e2, e3⟩
theorem OwnS.set {w : World} {lo hi b o n cap : Nat} {x : Nat → Nat} (h : OwnS w lo hi (.slice (some ⟨b, o, none⟩) n cap) x n) {i a : Nat} (hi' : i < n) (ha : fits .f32 a) :
    OwnS (w.setCell ⟨b, o + i, none⟩ (.float .f32 a)) lo hi (.slice (some ⟨b, o, none⟩) n cap) (pushX x i a) n ∧ Chg (rng lo hi) w (w.setCell ⟨b, o + i, none⟩ (.float .f32 a)) := by
  rcases h with ⟨h0, _⟩ | ⟨b', o', cap', cs, h1, h2, h3, h4, h5, h6, h7⟩
  · cases h0
  · simp only [Value.slice.injEq, Option.some.injEq, Addr.mk.injEq, and_true, true_and] at h1
    obtain ⟨⟨rfl, rfl⟩, rfl⟩ := h1
    refine ⟨.inr ⟨b, o, cap, cs.setIfInBounds (o + i) (.float .f32 a), rfl, h2, h3, h4, h5, h6.set _ _, fun j hj => ?_⟩, (Chg.refl _ _).setCell (a := ⟨b, o + i, none⟩) ⟨h4, h5⟩ _⟩
    obtain ⟨y0, e0, _⟩ := h7 i hi'
    have hlt : o + i < cs.size := (Array.getElem?_eq_some_iff.1 e0).1
    by_cases e : j = i
    · subst e
      exact ⟨a, by simp [hlt], ha, by simp [pushX]⟩
    · obtain ⟨y, e1, e2, e3⟩ := h7 j hj
      exact ⟨y, by rw [Array.getElem?_setIfInBounds_ne (by omega)]; exact e1, e2, by simp [pushX, e, e3]⟩
namespace Frg
variable {w0 w w' : World}
theorem chg0 {e e' : Fact} {post : List Fact} (h : Frg w0 w (e :: post)) (k : Chg (rng e.lo e.hi) w w') (hp : e'.p w') (h1 : e'.lo = e.lo) (h2 : e'.hi = e.hi) : Frg w0 w' (e' :: post) := chg [] h k hp h1 h2
theorem chg1 {b0 e e' : Fact} {post : List Fact} (h : Frg w0 w (b0 :: e :: post)) (k : Chg (rng e.lo e.hi) w w') (hp : e'.p w') (h1 : e'.lo = e.lo) (h2 : e'.hi = e.hi) : Frg w0 w' (b0 :: e' :: post) := chg [b0] h k hp h1 h2
end Frg
/-- The first k samples are 0. -/
def zeroTo (k : Nat) (x : Nat → Nat) : Nat → Nat := fun i => if i < k then 0 else x i
theorem zeroTo_0 (x : Nat → Nat) : zeroTo 0 x = x := by funext i; simp [zeroTo]
theorem zeroTo_s (k : Nat) (x : Nat → Nat) : pushX (zeroTo k x) k 0 = zeroTo (k + 1) x := by
  funext i
  unfold pushX zeroTo
  by_cases e : i = k
  · subst e; simp; decide
  · by_cases l : i < k
    · simp [e, l, show i < k + 1 by omega]
    · simp [e, l, show ¬ i < k + 1 by omega]
end Go.Fk

/- Regions that draw: a new row, the length of a slice. Nothing here names a program. -/
namespace Go.Fk
open Go Go.RowKit
section
variable {P : Program} {ops : Array Oper} {W : World} {K : FuncId → Array Value → World → Value → Prop} {Q : Act → World → Prop} {F : World → Prop} {o : Oper} {rest : List Oper} {a : Act}
/-- A new row is made. -/
theorem wpFree_made (hg : o.guard = none) (f : Nat → Value) (t : TypeId) (cs : Array Value)
    (hr : ∀ w, (execOp a.eval o).run P w = .ok (.value (f w.heap.size)) (w.alloc (.cells cs t)))
    (h : ∀ b, W.heap.size ≤ b → wpFree P ops W K Q rest (a.put o.dst (f b)) (fun w => F w ∧ ∃ b', f b = f b' ∧ W.heap.size ≤ b' ∧ Row w b' t cs)) : wpFree P ops W K Q (o :: rest) a F := by
  refine ⟨fun w v => ∃ b, v = f b ∧ W.heap.size ≤ b ∧ Row w b t cs, ⟨fun v w w' hl h => ?_, .inl ⟨by simp [Region.wanted, hg], fun w hw => ?_⟩⟩, fun v hv => ?_⟩
  · obtain ⟨b, e, h1, h2⟩ := h; exact ⟨b, e, h1, h2.le hl⟩
  · rw [hr]
    exact ⟨le_alloc w _, w.heap.size, rfl, Below.size hw, Row.new w t cs⟩
  · obtain ⟨w, _, b, rfl, hb, _⟩ := hv
    exact h b hb
theorem wpFree_len (hg : o.guard = none) {x : Operand} {t : TypeId} (hop : o.op = Op.call { callee := Callee.builtin Builtin.len, args := #[x], argTypes := #[t] }) {e : TypeId} (hu : P.underlying t = some (.slice e)) {ao : Option Addr} {n c : Nat} (hx : a.eval x = .slice ao n c)
    (h : wpFree P ops W K Q rest (a.put o.dst (.int .i64 n)) F) : wpFree P ops W K Q (o :: rest) a F := by
  refine wpFree_one hg (.int .i64 n) (fun w _ => ?_) h
  simp [execOp, hop, hx, Result.andThen, resolve, invoke, builtin, Builtin.len_, run_underlying hu]
  rfl
end
end Go.Fk

/- Muted rings: '(Ring).muted' of the program, 'l05Muted' of the model. -/
namespace Go.Proofs.Ytnkjmgadnejdlad
open Go.RowKit Go.Fk
theorem own_zero {w : World} {b n lo hi : Nat} (h : Row w b 22 (ftab .f32 (fun _ => 0) n)) (hn : n ≤ 1024) (hlo : lo ≤ b) (hhi : b < hi) : OwnS w lo hi (.slice (some ⟨b, 0, none⟩) n n) (fun _ => 0) n :=
  .inr ⟨b, 0, n, _, rfl, Nat.le_refl _, by unfold maxLen; omega, hlo, hhi, h, fun i hi => ⟨0, by rw [Nat.zero_add]; exact get_ftab .f32 (fun _ => 0) n i hi, by simp [fits, Lit.wf], show can .f32 0 = 0 by decide⟩⟩
end Go.Proofs.Ytnkjmgadnejdlad

/- 'isWithin'. -/
namespace Go.Fk
open Go Go.RowKit
/-- Is a number from one to another? Not NaN. -/
def withinB (a l g : Nat) : Bool := (FloatKind.f32.format.order a l == some .gt || FloatKind.f32.format.order a l == some .eq) && (FloatKind.f32.format.order a g == some .lt || FloatKind.f32.format.order a g == some .eq)
end Go.Fk
namespace Go.Proofs.Ytnkjmgadnejdlad
open Go.RowKit Go.Fk
theorem i_isWithin (a l g : Nat) (w : World) : Calls Try.prog 25 #[.float .f32 a, .float .f32 l, .float .f32 g] w fun e w' => e = .returned (.bool (withinB a l g)) ∧ w = w' := by
  rcases h0 : FloatKind.f32.format.order a l with _ | (_ | _ | _) <;> rcases h1 : FloatKind.f32.format.order a g with _ | (_ | _ | _)
  all_goals
    go_enter Try.func25, Try.ntmps25
    go_wp2
    go_ret
    exact ⟨ret_b (by unfold withinB; rw [h0, h1]; rfl), rfl⟩
end Go.Proofs.Ytnkjmgadnejdlad

/- 'OnePole', 'OneZero', 'BlockDc', 'AllpassFor'. -/
namespace Go.Fk
open Go Go.RowKit
/-- A filter is given, each of its numbers up to the bits of NaN. -/
def OutL (k : Int) (A B C X Y : Nat) (B0 : Nat) (w0 : World) (e : Ending) (w' : World) : Prop := ∃ a b c x y, e = .returned (.agg #[.int .i64 k, .float .f32 a, .float .f32 b, .float .f32 c, .float .f32 x, .float .f32 y]) ∧ (can .f32 a = A ∧ can .f32 b = B ∧ can .f32 c = C ∧ can .f32 x = X ∧ can .f32 y = Y) ∧ Below B0 w0 w'
def quoA (q : Nat) : Nat := fop .quo .f32 (fop .sub .f32 1065353216 q) (fop .add .f32 1065353216 q)
theorem Row.store6 {W : World} {g : Nat} {t : TypeId} {o0 o1 o2 o3 o4 o5 v0 v1 v2 v3 v4 v5 : Value} (h : Row W g t #[o0, o1, o2, o3, o4, o5]) :
    Row ((((((W.setCell ⟨g, 0, none⟩ v0).setCell ⟨g, 1, none⟩ v1).setCell ⟨g, 2, none⟩ v2).setCell ⟨g, 3, none⟩ v3).setCell ⟨g, 4, none⟩ v4).setCell ⟨g, 5, none⟩ v5) g t #[v0, v1, v2, v3, v4, v5] := by
  have := (((((h.set 0 v0).set 1 v1).set 2 v2).set 3 v3).set 4 v4).set 5 v5
  simpa using this
theorem can_zero : can .f32 0 = 0 := by decide
/-- Is it from 0 to 2? -/
def to2 (q : Nat) : Bool := (FloatKind.f32.format.order q 0 == some .gt || FloatKind.f32.format.order q 0 == some .eq) && (FloatKind.f32.format.order q 1073741824 == some .lt || FloatKind.f32.format.order q 1073741824 == some .eq)
/-- 'AllpassFor': a filter and OK, or none and ErrRange. -/
def OutA (q : Nat) (B0 : Nat) (w0 : World) (e : Ending) (w' : World) : Prop :=
  (to2 q = true → ∃ a, e = .returned (.tuple #[(.agg #[.int .i64 3, .float .f32 a, .float .f32 0, .float .f32 0, .float .f32 0, .float .f32 0]), .int .i64 0]) ∧ can .f32 a = quoA q) ∧ (to2 q = false → e = .returned (.tuple #[(.agg #[.int .i64 0, .float .f32 0, .float .f32 0, .float .f32 0, .float .f32 0, .float .f32 0]), .int .i64 2])) ∧ Below B0 w0 w'
end Go.Fk
namespace Go.Proofs.Ytnkjmgadnejdlad
open Go.RowKit Go.Fk
end Go.Proofs.Ytnkjmgadnejdlad

/- Fresh filters and rings: what constructors share. -/
namespace Go.Fk
open Go Go.RowKit
def partB (a : Nat) : Bool := (FloatKind.f32.format.order a 0 == some .gt || FloatKind.f32.format.order a 0 == some .eq) && (FloatKind.f32.format.order a 1065353216 == some .lt)
/-- A fresh filter. -/
def FilV (k : Int) (A B : Nat) (v : Value) : Prop := ∃ a b c x y, v = .agg #[.int .i64 k, .float .f32 a, .float .f32 b, .float .f32 c, .float .f32 x, .float .f32 y] ∧ (can .f32 a = A ∧ can .f32 b = B ∧ can .f32 c = 0 ∧ can .f32 x = 0 ∧ can .f32 y = 0) ∧ (fits .f32 a ∧ fits .f32 b ∧ fits .f32 c ∧ fits .f32 x ∧ fits .f32 y)
theorem zero_f : fits .f32 0 := by simp [fits, Lit.wf]
section
variable {P : Program} {ops : Array Oper} {W : World} {K : FuncId → Array Value → Nat → World → Value → Prop} {Q : Act → World → Prop} {F : FactsZ} {k : Nat} {o : Oper} {rest : List Oper} {a : Act}
/-- A slice is made. -/
theorem wpFreeZ_made (hg : o.guard = none) {ty : TypeId} {x y : Operand} (hop : o.op = .makeSlice ty x y) {u v : Value} (hx : a.eval x = u) (hy : a.eval y = v) {n : Nat} {t : TypeId} {cs : Array Value} (hr : ∀ w, (Instr.makeSlice ty u v).run P w = .ok (.slice (some ⟨w.heap.size, 0, none⟩) n n) (w.alloc (.cells cs t)))
    (h : ∀ b, wpFreeZ leX P ops .any W K Q rest (k + 1) (a.put o.dst (.slice (some ⟨b, 0, none⟩) n n)) (F.with k (fun z w => b = z ∧ W.heap.size ≤ z ∧ Row w z t cs))) : wpFreeZ leX P ops .any W K Q (o :: rest) k a F := by
  refine ⟨fun z w u => u = .slice (some ⟨z, 0, none⟩) n n ∧ W.heap.size ≤ z ∧ Row w z t cs, ⟨fun z v w w' hw hv => ⟨hv.1, hv.2.1, hv.2.2.le hw⟩, .inl ⟨by simp [Region.wanted, hg], fun w hw _ => ?_⟩⟩, fun u hu => ?_⟩
  · have : (execOp a.eval o).run P w = .ok (.value (.slice (some ⟨w.heap.size, 0, none⟩) n n)) (w.alloc (.cells cs t)) := by
      simp [execOp, hop, hx, hy, hr, Result.andThen]
    rw [this]
    exact ⟨le_alloc w _, rfl, hw.size, Row.new w t cs⟩
  · obtain ⟨z, w, _, rfl, _⟩ := hu.has
    exact wpFreeZ_weaken _ _ _ _ _ (fun e z' w h => ⟨h.1, fun he => ⟨by have := (h.2 he).1; simpa using this, (h.2 he).2⟩⟩) (h z)
end
end Go.Fk
namespace Go.Proofs.Ytnkjmgadnejdlad
open Go.RowKit Go.Fk
theorem i_isPart (a : Nat) (w : World) : Calls Try.prog 65 #[.float .f32 a] w fun e w' => e = .returned (.bool (partB a)) ∧ w = w' := by
  rcases h0 : FloatKind.f32.format.order a 0 with _ | (_ | _ | _) <;> rcases h1 : FloatKind.f32.format.order a 1065353216 with _ | (_ | _ | _)
  all_goals
    go_enter Try.func65, Try.ntmps65
    go_wp2
    go_ret
    exact ⟨ret_b (by unfold partB; rw [h0, h1]; rfl), rfl⟩
end Go.Proofs.Ytnkjmgadnejdlad

/- Events: the program's small functions, its comparer. -/
namespace Go.Fk
open Go Go.RowKit
/-- What a comparison of two lists of one length gives. -/
def cmL : List Int → List Int → Int
  | a :: s, b :: t => if a < b then -1 else if b < a then 1 else cmL s t
  | _, _ => 0
theorem cmL_lt : ∀ {s t : List Int}, s.length = t.length → (cmL s t < 0 ↔ ltL s t = true) := by
  intro s
  induction s with
  | nil => intro t h; cases t <;> simp [cmL, ltL]
  | cons a s ih =>
    intro t h
    cases t with
    | nil => simp at h
    | cons b t =>
      have e1 : cmL (a :: s) (b :: t) = if a < b then -1 else if b < a then 1 else cmL s t := rfl
      have e2 : ltL (a :: s) (b :: t) = if a = b then ltL s t else decide (a < b) := rfl
      rw [e1, e2]
      rcases Int.lt_trichotomy a b with h1 | h1 | h1
      · rw [if_pos h1, if_neg (by omega)]; simp [h1]
      · subst h1
        rw [if_neg (by omega), if_neg (by omega), if_pos rfl]
        exact ih (by simpa using h)
      · rw [if_neg (by omega), if_pos h1, if_neg (by omega)]; simp; omega
def evL (a k n i y : Int) (f : Nat) : List Value := [.int .i64 a, .int .i64 k, .int .i64 n, .int .i64 i, .int .i64 y, .float .f32 f]
def intsV (l : List Int) : List Value := l.map (Value.int .i64)
end Go.Fk
namespace Go.Proofs.Ytnkjmgadnejdlad
open Go.RowKit Go.Fk
theorem i_kindBefore (k : Int) (w : World) : Calls Try.prog 48 #[.int .i64 k] w fun e w' => e = .returned (.int .i64 (befK k)) ∧ w = w' := by
  by_cases h : k = 1
  · subst h
    go_enter Try.func48, Try.ntmps48
    go_wp2
    go_ret
    exact ⟨rfl, rfl⟩
  · have E := hid (show befK k = 0 by unfold befK; rw [if_neg h])
    go_enter Try.func48, Try.ntmps48
    go_wp2
    go_ret
    exact ⟨by rw [E.out]; rfl, rfl⟩
theorem i_isKey (k : Int) (w : World) : Calls Try.prog 69 #[.int .i64 k] w fun e w' => e = .returned (.bool (decide (-100 ≤ k) && decide (k ≤ 100))) ∧ w = w' := by
  by_cases h1 : -100 ≤ k
  · by_cases h2 : k ≤ 100
    · have E := hid (show (decide (-100 ≤ k) && decide (k ≤ 100)) = true by simp [h1, h2])
      go_enter Try.func69, Try.ntmps69
      go_wp2
      go_ret
      exact ⟨ret_b E.out.symm, rfl⟩
    · have E := hid (show (decide (-100 ≤ k) && decide (k ≤ 100)) = false by simp [h2])
      have D := hid (decide_eq_false h2)
      go_enter Try.func69, Try.ntmps69
      go_wp2
      go_ret
      exact ⟨ret_b D.out.symm, rfl⟩
  · have E := hid (show (decide (-100 ≤ k) && decide (k ≤ 100)) = false by simp [h1])
    go_enter Try.func69, Try.ntmps69
    go_wp2
    go_ret
    exact ⟨ret_b E.out.symm, rfl⟩
theorem i_cmpI (a b : Int) (w : World) : Calls Try.prog 77 #[.int .i64 a, .int .i64 b] w fun e w' => e = .returned (.int .i64 (if a < b then -1 else if b < a then 1 else 0)) ∧ w = w' := by
  have HN : ∀ (k : Int) (w : World), Calls Try.prog 79 #[.int .i64 k] w fun e w' => e = .returned (.bool false) ∧ w = w' := by
    intro k w
    go_enter Try.func79, Try.ntmps79
    go_wp2
    go_ret
    exact ⟨ret_b (by simp), rfl⟩
  replace HN := hid HN
  rcases Int.lt_trichotomy a b with h | h | h
  · have E := hid (show (if a < b then -1 else if b < a then 1 else 0) = (-1 : Int) by rw [if_pos h])
    rw [E.out]
    go_enter Try.func77, Try.ntmps77
    go_wp2_with (go_at_call 79; ((with_reducible refine (HN.out _ _).mono ?_); rintro e w1 ⟨rfl, rfl⟩))
    go_ret
    exact ⟨rfl, rfl⟩
  · subst h
    have E := hid (show (if a < a then -1 else if a < a then 1 else 0) = (0 : Int) by simp)
    rw [E.out]
    go_enter Try.func77, Try.ntmps77
    go_wp2_with (go_at_call 79; ((with_reducible refine (HN.out _ _).mono ?_); rintro e w1 ⟨rfl, rfl⟩))
    go_ret
    exact ⟨rfl, rfl⟩
  · have h2 : ¬ a < b := by omega
    have E := hid (show (if a < b then -1 else if b < a then 1 else 0) = (1 : Int) by rw [if_neg h2, if_pos h])
    rw [E.out]
    go_enter Try.func77, Try.ntmps77
    go_wp2_with (go_at_call 79; ((with_reducible refine (HN.out _ _).mono ?_); rintro e w1 ⟨rfl, rfl⟩))
    go_ret
    exact ⟨rfl, rfl⟩
set_option maxRecDepth 100000 in
set_option maxHeartbeats 2000000 in
theorem i_CompareI {tR tQ : TypeId} (a0 a1 a2 a3 b0 b1 b2 b3 : Int) (g h : Nat) (w : World) (R : Row w g tR #[.int .i64 a0, .int .i64 a1, .int .i64 a2, .int .i64 a3]) (Q : Row w h tQ #[.int .i64 b0, .int .i64 b1, .int .i64 b2, .int .i64 b3]) :
    Calls Try.prog 72 #[.slice (some ⟨g, 0, none⟩) 4 4, .slice (some ⟨h, 0, none⟩) 4 4] w fun e w' => e = .returned (.int .i64 (cmL [a0, a1, a2, a3] [b0, b1, b2, b3])) ∧ w = w' := by
  have p0 := R.cell? 0; have p1 := R.cell? 1; have p2 := R.cell? 2; have p3 := R.cell? 3
  have q0 := Q.cell? 0; have q1 := Q.cell? 1; have q2 := Q.cell? 2; have q3 := Q.cell? 3
  simp only [List.getElem?_toArray, List.getElem?_cons_zero, List.getElem?_cons_succ] at p0 p1 p2 p3 q0 q1 q2 q3
  have HC := hid (fun a b w' => i_cmpI a b w')
  clear R Q
  obtain ⟨Z, hZ⟩ : ∃ Z, Z = cmL [a0, a1, a2, a3] [b0, b1, b2, b3] := ⟨_, rfl⟩
  rw [← hZ]
  go_enter Try.func72, Try.ntmps72
  go_wp2
  go_loop [11] (fun i => ∃ j : Nat, j ≤ 4 ∧ i = .int .i64 j ∧ Hid (cmL ([a0, a1, a2, a3].drop j) ([b0, b1, b2, b3].drop j) = Z)) (fun i => 4 - (intOf i).toNat)
  case atStart => exact ⟨0, by omega, rfl, hZ.symm⟩
  case round =>
    clear hZ
    obtain ⟨j, hj, rfl, HZ⟩ := hrel
    match j, hj with
    | 0, _ =>
      have e : (if a0 < b0 then (-1 : Int) else if b0 < a0 then 1 else cmL [a1, a2, a3] [b1, b2, b3]) = Z := HZ.out
      have HK := hid (fun w' => i_cmpI a0 b0 w')
      clear HC HZ
      rcases Int.lt_trichotomy a0 b0 with h | h | h
      · rw [if_pos h] at e HK
        subst e
        go_wp2_with (go_at_call 77; ((with_reducible refine (HK.out _).mono ?_); rintro e w1 ⟨rfl, rfl⟩))
        go_ret
        exact ⟨rfl, rfl⟩
      · have h1 : ¬ a0 < b0 := by omega
        have h2 : ¬ b0 < a0 := by omega
        rw [if_neg h1, if_neg h2] at e HK
        have HE := hid e
        clear e h1 h2 h
        go_wp2_with (go_at_call 77; ((with_reducible refine (HK.out _).mono ?_); rintro e w1 ⟨rfl, rfl⟩))
        go_round
        case rel => exact ⟨1, by omega, by go_num, HE.out⟩
        case measure => simp [intOf]
      · have h1 : ¬ a0 < b0 := by omega
        rw [if_neg h1, if_pos h] at e HK
        subst e
        go_wp2_with (go_at_call 77; ((with_reducible refine (HK.out _).mono ?_); rintro e w1 ⟨rfl, rfl⟩))
        go_ret
        exact ⟨rfl, rfl⟩
    | 1, _ =>
      have e : (if a1 < b1 then (-1 : Int) else if b1 < a1 then 1 else cmL [a2, a3] [b2, b3]) = Z := HZ.out
      have HK := hid (fun w' => i_cmpI a1 b1 w')
      clear HC HZ
      rcases Int.lt_trichotomy a1 b1 with h | h | h
      · rw [if_pos h] at e HK
        subst e
        go_wp2_with (go_at_call 77; ((with_reducible refine (HK.out _).mono ?_); rintro e w1 ⟨rfl, rfl⟩))
        go_ret
        exact ⟨rfl, rfl⟩
      · have h1 : ¬ a1 < b1 := by omega
        have h2 : ¬ b1 < a1 := by omega
        rw [if_neg h1, if_neg h2] at e HK
        have HE := hid e
        clear e h1 h2 h
        go_wp2_with (go_at_call 77; ((with_reducible refine (HK.out _).mono ?_); rintro e w1 ⟨rfl, rfl⟩))
        go_round
        case rel => exact ⟨2, by omega, by go_num, HE.out⟩
        case measure => simp [intOf]
      · have h1 : ¬ a1 < b1 := by omega
        rw [if_neg h1, if_pos h] at e HK
        subst e
        go_wp2_with (go_at_call 77; ((with_reducible refine (HK.out _).mono ?_); rintro e w1 ⟨rfl, rfl⟩))
        go_ret
        exact ⟨rfl, rfl⟩
    | 2, _ =>
      have e : (if a2 < b2 then (-1 : Int) else if b2 < a2 then 1 else cmL [a3] [b3]) = Z := HZ.out
      have HK := hid (fun w' => i_cmpI a2 b2 w')
      clear HC HZ
      rcases Int.lt_trichotomy a2 b2 with h | h | h
      · rw [if_pos h] at e HK
        subst e
        go_wp2_with (go_at_call 77; ((with_reducible refine (HK.out _).mono ?_); rintro e w1 ⟨rfl, rfl⟩))
        go_ret
        exact ⟨rfl, rfl⟩
      · have h1 : ¬ a2 < b2 := by omega
        have h2 : ¬ b2 < a2 := by omega
        rw [if_neg h1, if_neg h2] at e HK
        have HE := hid e
        clear e h1 h2 h
        go_wp2_with (go_at_call 77; ((with_reducible refine (HK.out _).mono ?_); rintro e w1 ⟨rfl, rfl⟩))
        go_round
        case rel => exact ⟨3, by omega, by go_num, HE.out⟩
        case measure => simp [intOf]
      · have h1 : ¬ a2 < b2 := by omega
        rw [if_neg h1, if_pos h] at e HK
        subst e
        go_wp2_with (go_at_call 77; ((with_reducible refine (HK.out _).mono ?_); rintro e w1 ⟨rfl, rfl⟩))
        go_ret
        exact ⟨rfl, rfl⟩
    | 3, _ =>
      have e : (if a3 < b3 then (-1 : Int) else if b3 < a3 then 1 else cmL [] []) = Z := HZ.out
      have HK := hid (fun w' => i_cmpI a3 b3 w')
      clear HC HZ
      rcases Int.lt_trichotomy a3 b3 with h | h | h
      · rw [if_pos h] at e HK
        subst e
        go_wp2_with (go_at_call 77; ((with_reducible refine (HK.out _).mono ?_); rintro e w1 ⟨rfl, rfl⟩))
        go_ret
        exact ⟨rfl, rfl⟩
      · have h1 : ¬ a3 < b3 := by omega
        have h2 : ¬ b3 < a3 := by omega
        rw [if_neg h1, if_neg h2] at e HK
        have HE := hid e
        clear e h1 h2 h
        go_wp2_with (go_at_call 77; ((with_reducible refine (HK.out _).mono ?_); rintro e w1 ⟨rfl, rfl⟩))
        go_round
        case rel => exact ⟨4, by omega, by go_num, HE.out⟩
        case measure => simp [intOf]
      · have h1 : ¬ a3 < b3 := by omega
        rw [if_neg h1, if_pos h] at e HK
        subst e
        go_wp2_with (go_at_call 77; ((with_reducible refine (HK.out _).mono ?_); rintro e w1 ⟨rfl, rfl⟩))
        go_ret
        exact ⟨rfl, rfl⟩
    | 4, _ =>
      have e : (0 : Int) = Z := HZ.out
      subst e
      clear HZ
      go_wp2
      go_ret
      exact ⟨rfl, rfl⟩
theorem infoA4 : (Try.prog.info? 96).map (·.size) = some 4 := by kernel_rfl
set_option maxRecDepth 100000 in
set_option maxHeartbeats 2000000 in
theorem i_order (a k n i y s : Int) (f : Nat) (w : World) : Calls Try.prog 71 #[.agg (evL a k n i y f).toArray, .int .i64 s] w fun e w' => e = .returned (.agg (intsV (keyE a k n s)).toArray) ∧ le w w' := by
  have RN := hid (show ∀ cs, Row ((w.alloc (.cells (evL a k n i y f).toArray 61)).alloc (.cells cs 96)) (w.heap.size + 1) 96 cs from fun cs => by have h := Row.new (w.alloc (.cells (evL a k n i y f).toArray 61)) 96 cs; rwa [World.size_alloc] at h)
  by_cases hk : k = 2
  · subst hk
    have E := hid (show keyE a 2 n s = [a, 1, n, 0] from rfl)
    rw [E.out]
    unfold evL at *
    go_enter Try.func71, Try.ntmps71
    go_wp2
    exact bodyPost_ret (results_row1 rfl _ _ _ _ _ rfl (RN.out _) Try.underlying96 rfl infoA4) rfl ⟨rfl, le_trans (le_alloc _ _) (le_alloc _ _)⟩
  · by_cases hs : s < a
    · have E := hid (show keyE a k n s = [a, 0, n, 1] by unfold keyE; rw [if_neg hk, if_pos hs])
      rw [E.out]
      unfold evL at *
      go_enter Try.func71, Try.ntmps71
      go_wp2
      exact bodyPost_ret (results_row1 rfl _ _ _ _ _ rfl (RN.out _) Try.underlying96 rfl infoA4) rfl ⟨rfl, le_trans (le_alloc _ _) (le_alloc _ _)⟩
    · have E := hid (show keyE a k n s = [a, 1, n, 1] by unfold keyE; rw [if_neg hk, if_neg hs])
      rw [E.out]
      unfold evL at *
      go_enter Try.func71, Try.ntmps71
      go_wp2
      exact bodyPost_ret (results_row1 rfl _ _ _ _ _ rfl (RN.out _) Try.underlying96 rfl infoA4) rfl ⟨rfl, le_trans (le_alloc _ _) (le_alloc _ _)⟩
end Go.Proofs.Ytnkjmgadnejdlad

/- As FreeD, where one operation (with the index c) may write what all others leave as it is: it comes up but once. Nothing here names a program. -/
namespace Go.Fk
open Go Go.RowKit
section
variable (E0 E1 : Ext) (c : Nat) (Vc : World → Value → Prop) (P : Program) (ops : Array Oper) (md : Region.Mode) (W : World) (K : FuncId → Array Value → World → Value → Prop)
def preE (i : Nat) : Ext := if i = c then E0 else E1
def stepE (i : Nat) : Ext := if i = c then E1 else E0
def YieldsP (i : Nat) (o : Oper) (a : Act) (F : Facts) (V : World → Value → Prop) : Prop :=
  MonoT E1 V ∧ (i = c → V = Vc) ∧ ((Region.wanted o (yielded ops a.tmps) = true ∧ ∀ w, (preE E0 E1 c i).R W w → behind md o F w → insideT (stepE E0 E1 c i) P K w V ((execOp a.eval o).run P w)) ∨ (i ≠ c ∧ Region.wanted o (yielded ops a.tmps) = false ∧ ∀ w, E1.R W w → behind md o F w → V w undef))
def wpFreeP (Q : Act → World → Prop) : List Oper → Nat → Act → Facts → Prop
  | [], _, a, F => ∀ w, E1.R W w → (∀ e, F e w) → Q a w
  | o :: rest, k, a, F => ∃ V, YieldsP E0 E1 c Vc P ops md W K k o a F V ∧ ∀ v, met E1 W F (fun w => V w v) → wpFreeP Q rest (k + 1) (a.put o.dst v) (F.with k (fun w => V w v))
def anyFreeP (n : Nat) (L : Array Bool → Act → Facts → Prop) : Nat → Array Bool → Act → Facts → Prop
  | 0, listed, a, F => L listed a F
  | f + 1, listed, a, F => Region.ready md ops listed ≠ [] ∧
      ∀ i ∈ Region.ready md ops listed, i < n ∧ ∀ o, ops[i]? = some o → ∃ V, YieldsP E0 E1 c Vc P ops md W K i o a F V ∧ ∀ v, met E1 W F (fun w => V w v) → anyFreeP n L f (listed.setIfInBounds i true) (a.put o.dst v) (F.with i (fun w => V w v))
end
section
variable {E0 E1 : Ext} {c : Nat} {Vc : World → Value → Prop} {P : Program} {ops : Array Oper} {md : Region.Mode} {W : World} {K : FuncId → Array Value → World → Value → Prop}
theorem stepE_sub (hs : ∀ w w', E0.R w w' → E1.R w w') {i : Nat} {w w' : World} (h : (stepE E0 E1 c i).R w w') : E1.R w w' := by
  unfold stepE at h
  split at h
  · exact h
  · exact hs _ _ h
theorem YieldsP.some (hs : ∀ w w', E0.R w w' → E1.R w w') (hVc : ∀ w, E1.R W w → ∃ v w', E1.R w w' ∧ Vc w' v) {i : Nat} {o : Oper} {a : Act} {F : Facts} {V : World → Value → Prop} (hm : FMono E1 F) (hx : met E1 W F (fun _ => True)) (h : YieldsP E0 E1 c Vc P ops md W K i o a F V) : ∃ v, met E1 W F (fun w => V w v) := by
  obtain ⟨w, hw, hF, _⟩ := hx
  by_cases e : i = c
  · obtain ⟨v, w', hl, hv⟩ := hVc w hw
    exact ⟨v, w', E1.trans hw hl, hm w w' hl hF, by rw [h.2.1 e]; exact hv⟩
  · rcases h.2.2 with ⟨_, h⟩ | ⟨_, _, h⟩
    · obtain ⟨v, w', hl, hv⟩ := insideT_some (h w (by unfold preE; rw [if_neg e]; exact hw) (fun e _ _ => hF e.on))
      have hl' := stepE_sub hs hl
      exact ⟨v, w', E1.trans hw hl', hm w w' hl' hF, hv⟩
    · exact ⟨undef, w, hw, hF, h w hw (fun e _ _ => hF e.on)⟩
theorem YieldsP.same {i : Nat} {o : Oper} {a a' : Act} {F : Facts} {V : World → Value → Prop} (he : execOp a'.eval o = execOp a.eval o) (hw : Region.wanted o (yielded ops a'.tmps) = Region.wanted o (yielded ops a.tmps))
    (h : YieldsP E0 E1 c Vc P ops md W K i o a F V) : YieldsP E0 E1 c Vc P ops md W K i o a' F V := by
  unfold YieldsP at *; rw [he, hw]; exact h
theorem YieldsP.less {j : Nat} {o : Oper} {a : Act} {F : Facts} {i : Nat} {X : World → Prop} {V : World → Value → Prop} (hn : ∀ e ∈ o.after, Region.binds md e = true → e.on ≠ i) (h : YieldsP E0 E1 c Vc P ops md W K j o a (F.with i X) V) : YieldsP E0 E1 c Vc P ops md W K j o a F V := by
  have key : ∀ w, behind md o F w → behind md o (F.with i X) w := fun w hw e he hb => ⟨hw e he hb, fun h => absurd h (hn e he hb)⟩
  refine ⟨h.1, h.2.1, ?_⟩
  rcases h.2.2 with ⟨h1, h2⟩ | ⟨h0, h1, h2⟩
  · exact .inl ⟨h1, fun w hw hb => h2 w hw (key w hb)⟩
  · exact .inr ⟨h0, h1, fun w hw hb => h2 w hw (key w hb)⟩
theorem YieldsP.stronger {j : Nat} {o : Oper} {a : Act} {F F' : Facts} {V : World → Value → Prop} (hF : ∀ e w, F' e w → F e w) (h : YieldsP E0 E1 c Vc P ops md W K j o a F V) : YieldsP E0 E1 c Vc P ops md W K j o a F' V := by
  have key : ∀ w, behind md o F' w → behind md o F w := fun w hw e he hb => hF _ _ (hw e he hb)
  refine ⟨h.1, h.2.1, ?_⟩
  rcases h.2.2 with ⟨h1, h2⟩ | ⟨h0, h1, h2⟩
  · exact .inl ⟨h1, fun w hw hb => h2 w hw (key w hb)⟩
  · exact .inr ⟨h0, h1, fun w hw hb => h2 w hw (key w hb)⟩
theorem YieldsP.more {j : Nat} {o : Oper} {a : Act} {F : Facts} {i : Nat} {X : World → Prop} {V : World → Value → Prop} (h : YieldsP E0 E1 c Vc P ops md W K j o a F V) : YieldsP E0 E1 c Vc P ops md W K j o a (F.with i X) V := h.stronger (fun _ _ h => h.1)
theorem insideT_mono {E E' : Ext} (hE : ∀ w w', E.R w w' → E'.R w w') {V : World → Value → Prop} {w : World} {r : Result Next} (h : insideT E P K w V r) : insideT E' P K w V r := by
  cases r with
  | ok n w' =>
    cases n <;> simp only [insideT] at h ⊢
    case value u => exact ⟨hE _ _ h.1, h.2⟩
    case skip => exact ⟨hE _ _ h.1, h.2⟩
    case enter f args => exact ⟨hE _ _ h.1, h.2.1.mono (fun e w'' ⟨v, e1, e2, e3⟩ => ⟨v, e1, hE _ _ e2, e3⟩), h.2.2⟩
  | halt x w' => simp only [insideT] at h
theorem wpOp_yieldsP {i : Nat} {o : Oper} {a : Act} {w : World} {F : Facts} {V : World → Value → Prop} {next : Act → World → Prop} {Q' : Exit → Act → World → Prop} (ho : ops[i]? = some o) (hw1 : E1.R W w) (hw : (preE E0 E1 c i).R W w) (hF : ∀ e, F e w) (hg : YieldsP E0 E1 c Vc P ops md W K i o a F V)
    (hn : ∀ v w', (stepE E0 E1 c i).R w w' → V w' v → next (a.put o.dst v) w') : wpOp P ops Q' i next a w := by
  unfold wpOp
  simp only [ho]
  rcases hg.2.2 with ⟨hwant, hv⟩ | ⟨_, hwant, hv⟩
  · rw [if_pos hwant]
    left
    have h3 := hv w hw (fun e _ _ => hF e.on)
    unfold Oper.wp
    generalize (execOp a.eval o).run P w = r at h3
    cases r with
    | ok x w' =>
      cases x <;> simp only [insideT] at h3 <;> simp only [Oper.upon]
      case value u => exact hn u _ h3.1 h3.2
      case skip => exact hn undef _ h3.1 h3.2
      case enter f args =>
        refine h3.2.1.mono fun e w'' he => ?_
        obtain ⟨v, rfl, hl, hk⟩ := he
        exact hn v _ ((stepE E0 E1 c i).trans h3.1 hl) (h3.2.2 w'' v hk)
    | halt x w' => simp only [insideT] at h3
  · rw [if_neg (by simp [hwant])]
    exact hn undef _ ((stepE E0 E1 c i).refl w) (hv w hw1 (fun e _ _ => hF e.on))
theorem anyFreeP_sound (hs : ∀ w w', E0.R w w' → E1.R w w') {n g : Nat} {L : Array Bool → Act → Facts → Prop} {Q' : Exit → Act → World → Prop} (hL : ∀ listed a F w, E1.R W w → (∀ e, F e w) → L listed a F → wpAny P md ops Q' g listed a w) :
    ∀ (f : Nat) (listed : Array Bool) (a : Act) (F : Facts) (w : World), FMono E1 F → E1.R W w → (listed.getD c true = false → E0.R W w) → (∀ e, F e w) → anyFreeP E0 E1 c Vc P ops md W K n L f listed a F → wpAny P md ops Q' (f + g) listed a w := by
  intro f
  induction f with
  | zero => intro listed a F w _ hw _ hF h; rw [Nat.zero_add]; exact hL _ _ _ _ hw hF h
  | succ f ih =>
    intro listed a F w hm hw hph hF h
    rw [show f + 1 + g = (f + g) + 1 by omega]
    refine ⟨fun h0 => absurd h0 h.1, fun i hi => ?_⟩
    obtain ⟨hun, o, ho, _⟩ := mem_ready.1 hi
    obtain ⟨V, hg, hn⟩ := (h.2 i hi).2 o ho
    have hpre : (preE E0 E1 c i).R W w := by
      unfold preE
      split
      · next e => subst e; exact hph hun
      · exact hw
    refine wpOp_yieldsP ho hw hpre hF hg (fun v w' hl hv => ih _ _ _ _ (hm.with hg.1 i v) (E1.trans hw (stepE_sub hs hl)) (fun hc => ?_) (Facts.with_mk (hm w w' (stepE_sub hs hl) hF) hv) (hn v ⟨w', E1.trans hw (stepE_sub hs hl), hm w w' (stepE_sub hs hl) hF, hv⟩))
    by_cases e : i = c
    · subst e
      have hlt : i < listed.size := by
        apply Nat.lt_of_not_le
        intro hle
        simp [Array.getD, Nat.not_lt.2 hle] at hun
      simp [Array.getD, hlt] at hc
    · rw [getD_set_ne true e] at hc
      unfold stepE at hl
      rw [if_neg e] at hl
      exact E0.trans (hph hc) hl
theorem anyFreeP_weaken {n : Nat} {L : Array Bool → Act → Facts → Prop} (hLm : ∀ listed a F F', (∀ e w, F' e w → F e w) → L listed a F → L listed a F') :
    ∀ (f : Nat) (listed : Array Bool) (a : Act) (F F' : Facts), (∀ e w, F' e w → F e w) → anyFreeP E0 E1 c Vc P ops md W K n L f listed a F → anyFreeP E0 E1 c Vc P ops md W K n L f listed a F' := by
  intro f
  induction f with
  | zero => intro listed a F F' h hh; exact hLm _ _ _ _ h hh
  | succ f ih =>
    intro listed a F F' h hh
    refine ⟨hh.1, fun i hi => ⟨(hh.2 i hi).1, fun o ho => ?_⟩⟩
    obtain ⟨V, hg, hn⟩ := (hh.2 i hi).2 o ho
    exact ⟨V, hg.stronger h, fun v hv => ih _ _ _ _ (fun e w hw => ⟨h e w hw.1, hw.2⟩) (hn v (hv.weaken (fun w hw e => h e w (hw e))))⟩
theorem anyFreeP_first (hs : ∀ w w', E0.R w w' → E1.R w w') (hVc : ∀ w, E1.R W w → ∃ v w', E1.R w w' ∧ Vc w' v) {n i : Nat} {oi : Oper} {V : World → Value → Prop} {L : Array Bool → Act → Facts → Prop} (hi : ops[i]? = some oi) (hsel : ∀ (j : Nat) (o : Oper) cs b, ops[j]? = some o → o.op ≠ .select cs b)
    (hbound : ∀ listed i, HeadInv md ops n listed → i < n → listed.getD i true = false → ∀ j ∈ Region.ready md ops listed, j < n) (hin : i < n)
    (hdone : ∀ listed a F, L listed a F → ∀ j ∈ Region.ready md ops listed, n ≤ j) (hLm : ∀ listed a F F', (∀ e w, F' e w → F e w) → L listed a F → L listed a F') :
    ∀ (f : Nat) (listed : Array Bool) (a : Act) (F : Facts), HeadInv md ops n listed →
      (∀ j oj, ops[j]? = some oj → j ≠ i → listed.getD j true = false → (∀ e ∈ oj.after, Region.binds md e = true → e.on ≠ i) → oi.apart ops oj = true) →
      i ∈ Region.ready md ops listed → FMono E1 F → met E1 W F (fun _ => True) → YieldsP E0 E1 c Vc P ops md W K i oi a F V →
      (∀ v, met E1 W F (fun w => V w v) → anyFreeP E0 E1 c Vc P ops md W K n L f (listed.setIfInBounds i true) (a.put oi.dst v) (F.with i (fun w => V w v))) → anyFreeP E0 E1 c Vc P ops md W K n L (f + 1) listed a F := by
  intro f
  induction f with
  | zero =>
    intro listed a F inv _ hr hm hx hg H
    have hun := (mem_ready.1 hr).1
    refine ⟨fun h => (by rw [h] at hr; cases hr), fun j hj => ?_⟩
    have hjn := hbound listed i inv hin hun j hj
    refine ⟨hjn, fun o ho => ?_⟩
    by_cases hji : j = i
    · subst hji
      rw [hi] at ho; cases ho
      exact ⟨V, hg, H⟩
    · obtain ⟨v, hv⟩ := hg.some hs hVc hm hx
      have := hdone _ _ _ (H v hv) j (ready_mono hj hji)
      omega
  | succ f ih =>
    intro listed a F inv hfree hr hm hx hg H
    have hun := (mem_ready.1 hr).1
    refine ⟨fun h => (by rw [h] at hr; cases hr), fun j hj => ?_⟩
    have hjn := hbound listed i inv hin hun j hj
    refine ⟨hjn, fun o ho => ?_⟩
    by_cases hji : j = i
    · subst hji
      rw [hi] at ho; cases ho
      exact ⟨V, hg, H⟩
    · obtain ⟨hjun, oj, hoj, hall⟩ := mem_ready.1 hj
      rw [ho] at hoj; cases hoj
      have hnot : ∀ e ∈ o.after, Region.binds md e = true → e.on ≠ i := fun e he hb heq => by
        have h1 := hall e he hb
        rw [heq, getD_both hun] at h1
        cases h1
      have hap := hfree j o ho hji hjun hnot
      obtain ⟨a1, a2, a3⟩ := Oper.apart_spec hap
      have hsi := fun cs b => hsel i oi cs b hi
      have hsj := fun cs b => hsel j o cs b ho
      have hU : ∀ v : {v // met E1 W F (fun w => V w v)}, ∃ U, YieldsP E0 E1 c Vc P ops md W K j o (a.put oi.dst v.1) (F.with i (fun w => V w v.1)) U ∧ ∀ u, met E1 W (F.with i (fun w => V w v.1)) (fun w => U w u) →
          anyFreeP E0 E1 c Vc P ops md W K n L f ((listed.setIfInBounds i true).setIfInBounds j true) ((a.put oi.dst v.1).put o.dst u) ((F.with i (fun w => V w v.1)).with j (fun w => U w u)) :=
        fun v => ((H v.1 v.2).2 j (ready_mono hj hji)).2 o ho
      obtain ⟨U, hU⟩ := Classical.skolem.1 hU
      obtain ⟨v0, hv0⟩ := hg.some hs hVc hm hx
      have hone : ∀ v, YieldsP E0 E1 c Vc P ops md W K j o a F (U v) := fun v => ((hU v).1.same (execOp_put o hsj a oi.dst v.1 a1).symm (wanted_put o a oi.dst v.1 a1).symm).less hnot
      have hgood : YieldsP E0 E1 c Vc P ops md W K j o a F (fun w u => ∀ v, U v w u) := by
        refine ⟨fun u w w' hl h v => (hone v).1 u w w' hl (h v), fun e => ?_, ?_⟩
        · funext w u
          exact propext ⟨fun h => by have := h ⟨v0, hv0⟩; rw [(hone ⟨v0, hv0⟩).2.1 e] at this; exact this, fun h v => by rw [(hone v).2.1 e]; exact h⟩
        by_cases hw : Region.wanted o (yielded ops a.tmps) = true
        · refine .inl ⟨hw, fun w hw' hb => inside_allT ⟨⟨v0, hv0⟩, trivial⟩ (fun v => ?_)⟩
          rcases (hone v).2.2 with ⟨_, h3⟩ | ⟨_, h3, _⟩
          · exact h3 w hw' hb
          · rw [hw] at h3; cases h3
        · have hne : j ≠ c := by
            rcases (hone ⟨v0, hv0⟩).2.2 with ⟨h3, _⟩ | ⟨h3, _, _⟩
            · exact absurd h3 hw
            · exact h3
          refine .inr ⟨hne, by simpa using hw, fun w hw' hb v => ?_⟩
          rcases (hone v).2.2 with ⟨h3, _⟩ | ⟨_, _, h3⟩
          · exact absurd h3 hw
          · exact h3 w hw' hb
      refine ⟨_, hgood, ?_⟩
      intro u hu
      have hfree' : ∀ k ok, ops[k]? = some ok → k ≠ i → (listed.setIfInBounds j true).getD k true = false →
          (∀ e ∈ ok.after, Region.binds md e = true → e.on ≠ i) → oi.apart ops ok = true := fun k ok hk hki hun hno => by
        refine hfree k ok hk hki ?_ hno
        by_cases hjk : j = k
        · subst hjk; exact hjun
        · rw [getD_set_ne true hjk] at hun; exact hun
      have hx' : met E1 W (F.with j (fun w => ∀ v, U v w u)) (fun _ => True) := by
        obtain ⟨w, hw, hF, hv⟩ := hu
        exact ⟨w, hw, Facts.with_mk hF hv, trivial⟩
      refine ih (listed.setIfInBounds j true) (a.put o.dst u) (F.with j (fun w => ∀ v, U v w u)) (inv.set hj hjn) hfree' (ready_mono hr (Ne.symm hji)) (hm.with hgood.1 j u) hx' ((hg.same (execOp_put oi hsi a o.dst u a3) (wanted_put oi a o.dst u a3)).more) (fun v hv => ?_)
      rw [Array.setIfInBounds_comm _ _ hji, ← Act.put_comm a v u a2]
      obtain ⟨w, hw, hF, hVv⟩ := hv
      have hF' := Facts.with_of hF
      have mv : met E1 W F (fun w => V w v) := ⟨w, hw, hF'.1, hVv⟩
      exact anyFreeP_weaken hLm _ _ _ _ _ (fun e w' h' => ⟨⟨h'.1.1, h'.2⟩, fun he => h'.1.2 he ⟨v, mv⟩⟩) ((hU ⟨v, mv⟩).2 u ⟨w, hw, Facts.with_mk hF'.1 hVv, hF'.2 ⟨v, mv⟩⟩)

theorem anyFreeP_lex (hs : ∀ w w', E0.R w w' → E1.R w w') (hVc : ∀ w, E1.R W w → ∃ v w', E1.R w w' ∧ Vc w' v) {n g : Nat} {R : Act → World → Prop} (hsel : Region.noSelect ops = true)
    (hbound : ∀ listed i, HeadInv md ops n listed → i < n → listed.getD i true = false → ∀ j ∈ Region.ready md ops listed, j < n) :
    ∀ (l : List Oper) (k : Nat) (listed : Array Bool) (a : Act) (F : Facts), (∀ j, j < l.length → l[j]? = ops[k + j]?) → k + l.length = n → HeadInv md ops n listed →
    Region.lexHead md ops g l.length k listed = true → FMono E1 F → met E1 W F (fun _ => True) → wpFreeP E0 E1 c Vc P ops md W K R l k a F →
    anyFreeP E0 E1 c Vc P ops md W K n (fun listed' a' F' => Region.seqB md ops g n listed' = true ∧ ∀ w, E1.R W w → (∀ e, F' e w) → R a' w) l.length listed a F := by
  intro l
  induction l with
  | nil =>
    intro k listed a F _ hk _ hB _ _ h
    have : k = n := by simpa using hk
    subst this
    exact ⟨by simpa [Region.lexHead] using hB, h⟩
  | cons o l ih =>
    intro k listed a F hl hk inv hB hm hx h
    have h0 : ops[k]? = some o := by simpa using (hl 0 (by simp)).symm
    simp only [List.length_cons, Region.lexHead, Bool.and_eq_true] at hB
    obtain ⟨⟨hr, hf⟩, hB'⟩ := hB
    have hkn : k < n := by simp only [List.length_cons] at hk; omega
    have hr' : k ∈ Region.ready md ops listed := by simpa using hr
    obtain ⟨V, hg, hnext⟩ := h
    exact anyFreeP_first hs hVc h0 (Region.noSelect_spec hsel) hbound hkn (fun listed' a' F' hL => seqB_ready hL.1) (fun _ _ _ _ hF hL => ⟨hL.1, fun w hw h' => hL.2 w hw (fun e => hF e w (h' e))⟩) l.length listed a F inv (Region.free_spec h0 hf) hr' hm hx hg
      (fun v hv => ih (k + 1) _ _ _ (fun j hj => by have := hl (j + 1) (by simp; omega); simpa [Nat.add_assoc, Nat.add_comm 1 j] using this) (by simp only [List.length_cons] at hk; omega) (inv.set hr' hkn) hB' (hm.with hg.1 k v)
        (by obtain ⟨w, hw, hF, hv'⟩ := hv; exact ⟨w, hw, Facts.with_mk hF hv', trivial⟩) (hnext v hv))

/-- A REGION THAT DRAWS ITS ORDER, one of whose operations writes. -/
theorem region_freeP (hs : ∀ w w', E0.R w w' → E1.R w w') (K : FuncId → Array Value → World → Value → Prop) {id : Nat} {Q : Exit → Act → World → Prop} {a : Act} {w : World} {l : List Oper} (hVc : ∀ w', E1.R (w.drewN 1) w' → ∃ v w'', E1.R w' w'' ∧ Vc w'' v) (hm : P.follows .mixedOrders = true)
    (hB : (Region.noSelect l.toArray && Region.lexHead .any l.toArray 0 l.length 0 (Array.replicate l.toArray.size false)) = true)
    (h : wpFreeP E0 E1 c Vc P l.toArray .any (w.drewN 1) K (fun a' w' => Q .normal a' w') l 0 a noFacts) : (Code.region id l.toArray true).wp P Q a w := by
  simp only [Bool.and_eq_true] at hB
  obtain ⟨hsel, hlex⟩ := hB
  have hbound : ∀ listed i, HeadInv .any l.toArray l.length listed → i < l.length → listed.getD i true = false → ∀ j ∈ Region.ready .any l.toArray listed, j < l.length := by
    intro listed i _ _ _ j hj
    obtain ⟨_, oj, hoj, _⟩ := mem_ready.1 hj
    simpa using (Array.getElem?_eq_some_iff.1 hoj).1
  have H := anyFreeP_lex (md := .any) (g := 0) hs hVc hsel hbound l 0 _ a noFacts (fun j hj => by simp) (by simp) (head_start _ l.length) hlex (fun _ _ _ h => h) ⟨w.drewN 1, E1.refl _, fun _ => trivial, trivial⟩ h
  refine wp_region_any hm ?_
  have := anyFreeP_sound (Q' := Q) (W := w.drewN 1) (g := 0) hs (fun listed a' F w' hw' hF hL => ⟨by simpa [Region.seqB] using hL.1, hL.2 w' hw' hF⟩) _ _ _ _ _ (fun _ _ _ h => h) (E1.refl _) (fun _ => E0.refl _) (fun _ => trivial) H
  rw [Nat.add_zero] at this
  exact this
end
end Go.Fk

/- Regions with a call that writes: laws of single operations. Nothing here names a program. -/
namespace Go.Fk
open Go Go.RowKit
section
variable {E0 E1 : Ext} {c : Nat} {Vc : World → Value → Prop} {P : Program} {ops : Array Oper} {W : World} {K : FuncId → Array Value → World → Value → Prop} {Q : Act → World → Prop} {F : Facts} {k : Nat} {o : Oper} {rest : List Oper} {a : Act}
theorem wpFreeP_weaken : ∀ (l : List Oper) (k : Nat) (a : Act) (F F' : Facts), (∀ e w, F' e w → F e w) → wpFreeP E0 E1 c Vc P ops .any W K Q l k a F → wpFreeP E0 E1 c Vc P ops .any W K Q l k a F' := by
  intro l
  induction l with
  | nil => intro k a F F' h hh w hw hF; exact hh w hw (fun e => h e w (hF e))
  | cons o l ih =>
    intro k a F F' h hh
    obtain ⟨V, hg, hn⟩ := hh
    exact ⟨V, hg.stronger h, fun v hv => ih _ _ _ _ (fun e w hw => ⟨h e w hw.1, hw.2⟩) (hn v (hv.weaken (fun w hw e => h e w (hw e))))⟩
theorem wpFreeP_nil (h : ∀ w, E1.R W w → (∀ e, F e w) → Q a w) : wpFreeP E0 E1 c Vc P ops .any W K Q [] k a F := h
theorem wpFreeP_some (hk : k ≠ c) (hg : o.guard = none) (V : Value → Prop) (hr : ∀ w, E1.R W w → ∃ v n, (execOp a.eval o).run P w = .ok (.value v) (w.drewN n) ∧ V v)
    (h : ∀ v, V v → wpFreeP E0 E1 c Vc P ops .any W K Q rest (k + 1) (a.put o.dst v) (F.with k (fun _ => True))) : wpFreeP E0 E1 c Vc P ops .any W K Q (o :: rest) k a F := by
  refine ⟨fun _ u => V u, ⟨fun _ _ _ _ h => h, fun e => absurd e hk, .inl ⟨by simp [Region.wanted, hg], fun w hw _ => ?_⟩⟩, fun u hu => ?_⟩
  · obtain ⟨v, n, hrun, hv⟩ := hr w (by unfold preE at hw; rw [if_neg hk] at hw; exact hw)
    rw [hrun]; exact ⟨(stepE E0 E1 c k).of_le (le_drewN w n), hv⟩
  · obtain ⟨w, _, _, hv⟩ := hu
    exact wpFreeP_weaken _ _ _ _ _ (fun e w h => ⟨h.1, fun _ => trivial⟩) (h u hv)
theorem wpFreeP_one (hk : k ≠ c) (hg : o.guard = none) (v : Value) (hr : ∀ w, E1.R W w → (execOp a.eval o).run P w = .ok (.value v) w)
    (h : wpFreeP E0 E1 c Vc P ops .any W K Q rest (k + 1) (a.put o.dst v) (F.with k (fun _ => True))) : wpFreeP E0 E1 c Vc P ops .any W K Q (o :: rest) k a F :=
  wpFreeP_some hk hg (· = v) (fun w hw => ⟨v, 0, by rw [hr w hw]; rfl, rfl⟩) (by rintro u rfl; exact h)
theorem wpFreeP_quiet (hk : k ≠ c) (hnc : simple o.op = true) (h : wpQuiet P ops (fun _ => True) (fun a' => wpFreeP E0 E1 c Vc P ops .any W K Q rest (k + 1) a' (F.with k (fun _ => True))) [o] a) : wpFreeP E0 E1 c Vc P ops .any W K Q (o :: rest) k a F := by
  simp only [wpQuiet] at h
  by_cases hw : Region.wanted o (yielded ops a.tmps) = true
  · rw [if_pos hw] at h
    obtain ⟨v, h1, h2⟩ := h
    refine ⟨fun _ u => u = v, ⟨fun _ _ _ _ h => h, fun e => absurd e hk, .inl ⟨hw, fun w hw' _ => ?_⟩⟩, fun u hu => ?_⟩
    · have h3 := h1 w trivial
      unfold Oper.quietAt at h3
      generalize hrun : (execOp a.eval o).run P w = r at h3
      cases r with
      | ok n w' =>
        cases n <;> simp only [Oper.quietUpon] at h3 <;> simp only [insideT]
        case value u => exact ⟨by rw [h3.1]; exact (stepE E0 E1 c k).refl w, h3.2⟩
        case skip => exact ⟨by rw [h3.1]; exact (stepE E0 E1 c k).refl w, h3.2.symm⟩
        case enter f args => exact (noEnter hnc hrun).elim
      | halt x w' => simp only [Oper.quietUpon] at h3
    · obtain ⟨w, _, _, rfl⟩ := hu
      exact wpFreeP_weaken _ _ _ _ _ (fun e w h => ⟨h.1, fun _ => trivial⟩) h2
  · rw [if_neg hw] at h
    refine ⟨fun _ u => u = undef, ⟨fun _ _ _ _ h => h, fun e => absurd e hk, .inr ⟨hk, by simpa using hw, fun _ _ _ => rfl⟩⟩, fun u hu => ?_⟩
    obtain ⟨w, _, _, rfl⟩ := hu
    exact wpFreeP_weaken _ _ _ _ _ (fun e w h => ⟨h.1, fun _ => trivial⟩) h
theorem wpFreeP_farith (hk : k ≠ c) (hg : o.guard = none) {op : BinOp} {t t' : TypeId} {x y : Operand} (hop : o.op = Op.binOp op t x y t') (ho : arith op = true)
    {fk : FloatKind} {p q : Nat} (hx : a.eval x = .float fk p) (hy : a.eval y = .float fk q)
    (h : ∀ r, Hid (can fk r = fop op fk p q) → Hid (fits fk r) → wpFreeP E0 E1 c Vc P ops .any W K Q rest (k + 1) (a.put o.dst (.float fk r)) (F.with k (fun _ => True))) : wpFreeP E0 E1 c Vc P ops .any W K Q (o :: rest) k a F := by
  refine wpFreeP_some hk hg (fun v => ∃ r, v = .float fk r ∧ can fk r = fop op fk p q ∧ fits fk r) (fun w _ => ?_) ?_
  · obtain ⟨r, n, hrun, hr, hf⟩ := run_farith (P := P) w op ho t fk p q
    have he := eqGuard_float (P := P) w op t x y fk fk p q
    refine ⟨.float fk r, n, ?_, r, rfl, hr, hf⟩
    simp [execOp, hop, hx, hy, he, hrun, Result.andThen]
  · rintro v ⟨r, rfl, h1, h2⟩
    exact h r h1 h2
theorem wpFreeP_call (hk : k = c) (hg : o.guard = none) (hm : MonoT E1 Vc) (h1 : ∀ w, E0.R W w → insideT E1 P K w Vc ((execOp a.eval o).run P w))
    (h2 : ∀ v, (∃ w, E1.R W w ∧ Vc w v) → wpFreeP E0 E1 c Vc P ops .any W K Q rest (k + 1) (a.put o.dst v) (F.with k (fun w => Vc w v))) : wpFreeP E0 E1 c Vc P ops .any W K Q (o :: rest) k a F := by
  refine ⟨Vc, ⟨hm, fun _ => rfl, .inl ⟨by simp [Region.wanted, hg], fun w hw _ => ?_⟩⟩, fun v hv => h2 v (by obtain ⟨w, hw, _, h⟩ := hv; exact ⟨w, hw, h⟩)⟩
  unfold preE at hw
  rw [if_pos hk] at hw
  unfold stepE
  rw [if_pos hk]
  exact h1 w hw
/-- A REGION WITH FORCED LAST OPERATIONS (from number n on), one of whose first ones writes. -/
theorem region_tailP (hs : ∀ w w', E0.R w w' → E1.R w w') (K : FuncId → Array Value → World → Value → Prop) {id : Nat} {Q : Exit → Act → World → Prop} {a : Act} {w : World} {l : List Oper} (n : Nat) (hVc : ∀ w', E1.R (w.drewN 1) w' → ∃ v w'', E1.R w' w'' ∧ Vc w'' v) (hm : P.follows .mixedOrders = true) (hB : Region.lexTailB .any l.toArray n = true)
    (h : wpFreeP E0 E1 c Vc P l.toArray .any (w.drewN 1) K (fun a' w' => wpList P l.toArray Q (l.drop n) a' w') (l.take n) 0 a noFacts) : (Code.region id l.toArray true).wp P Q a w := by
  simp only [Region.lexTailB, Bool.and_eq_true, decide_eq_true_eq] at hB
  obtain ⟨⟨⟨⟨hsel, hn⟩, hs'⟩, hc⟩, hlex⟩ := hB
  have hn' : n < l.length := by simpa using hn
  have htl : (l.take n).length = n := by simp; omega
  have hdl : (l.drop n).length = l.toArray.size - n := by simp
  have hbound : ∀ listed i, HeadInv .any l.toArray n listed → i < n → listed.getD i true = false → ∀ j ∈ Region.ready .any l.toArray listed, j < n := by
    intro listed i inv hi hun j hj
    rcases Nat.lt_or_ge j n with h | h
    · exact h
    · exact absurd hj (tail_waits hs' hc hn inv _ i rfl hi hun j h)
  have H := anyFreeP_lex (md := .any) (g := l.toArray.size - n) hs hVc hsel hbound (l.take n) 0 _ a noFacts (fun j hj => by
    have hj' : j < n := by rw [htl] at hj; exact hj
    simp [hj']) (by simpa using htl) (head_start _ n) (by rw [htl]; exact hlex) (fun _ _ _ h => h) ⟨w.drewN 1, E1.refl _, fun _ => trivial, trivial⟩ h
  refine wp_region_any hm ?_
  have := anyFreeP_sound (Q' := Q) (W := w.drewN 1) (g := l.toArray.size - n) hs (fun listed a' F w' hw' hF hL => by
    have := wpAny_of_seq (md := .any) (Q' := Q) (l.drop n) n listed a' w' (fun j => by simp [List.getElem?_drop]) (by rw [hdl]; exact hL.1) (hL.2 w' hw' hF)
    rwa [hdl] at this) _ _ _ _ _ (fun _ _ _ h => h) (E1.refl _) (fun _ => E0.refl _) (fun _ => trivial) H
  rw [htl, show n + (l.toArray.size - n) = l.toArray.size by omega] at this
  exact this
end
/-- What may turn: before a call has run, all is as Pre says; behind it, as Post says. -/
def altE (S : Nat → Prop) (Pre Post : World → Prop) (h1 : ∀ w w', le w w' → Pre w → Pre w') (h2 : ∀ w w', le w w' → Post w → Post w') : Ext where
  R w w' := Chg S w w' ∧ (Post w → Post w') ∧ (Pre w ∨ Post w → Pre w' ∨ Post w')
  refl w := ⟨Chg.refl _ w, id, id⟩
  trans := by
    rintro a b c ⟨p1, p2, p3⟩ ⟨q1, q2, q3⟩
    exact ⟨p1.trans q1, fun h => q2 (p2 h), fun h => q3 (p3 h)⟩
  of_le := by
    intro a b h
    exact ⟨Chg.of_le h, h2 a b h, fun e => e.elim (fun x => .inl (h1 a b h x)) (fun x => .inr (h2 a b h x))⟩
section
variable {E0 E1 : Ext} {c : Nat} {Vc : World → Value → Prop} {P : Program} {ops : Array Oper} {W : World} {K : FuncId → Array Value → World → Value → Prop} {Q : Act → World → Prop} {F : Facts} {k : Nat} {o : Oper} {rest : List Oper} {a : Act}
/-- A cell that holds the same before and behind. -/
theorem wpFreeP_cellA (hk : k ≠ c) (hg : o.guard = none) {ty : TypeId} {x : Operand} (hop : o.op = .load ty x) {ad : Addr} (hx : a.eval x = .pointer (some ad)) {v : Value} (hv : ∀ w, E1.R W w → w.cell? ad = some v) (hu : ∀ w, (isAgg ty).run P w = .ok false w)
    (h : wpFreeP E0 E1 c Vc P ops .any W K Q rest (k + 1) (a.put o.dst v) (F.with k (fun _ => True))) : wpFreeP E0 E1 c Vc P ops .any W K Q (o :: rest) k a F := by
  refine wpFreeP_one hk hg v (fun w hw => ?_) h
  have hl : (Instr.loadAt ty (.pointer (some ad))).run P w = .ok v w := by
    simp [Instr.loadAt, Instr.sureAddr, loadVar, hu, hv w hw]
  simp [execOp, hop, hx, hl, Result.andThen]
/-- A call that only reads. -/
theorem wpFreeP_callQ (hk : k ≠ c) (hg : o.guard = none) {f : FuncId} {xs : Array Operand} {ts : Array TypeId} (hop : o.op = Op.call { callee := Callee.value (Operand.func f), args := xs, argTypes := ts }) {fn : Func} (hf : P.funcs[f]? = some fn)
    (hb : fn.body.isNone = false) (hn : (fn.name == "runtime.NumGoroutine") = false) {args : Array Value} (ha : xs.map a.eval = args) (V : Value → Prop)
    (h1 : ∀ w, E1.R W w → Calls P f args w (fun e w' => ∃ v, e = .returned v ∧ le w w' ∧ K f args w' v ∧ V v)) (hK : ∀ w v, K f args w v → V v)
    (h : ∀ v, V v → wpFreeP E0 E1 c Vc P ops .any W K Q rest (k + 1) (a.put o.dst v) (F.with k (fun _ => True))) : wpFreeP E0 E1 c Vc P ops .any W K Q (o :: rest) k a F := by
  refine ⟨fun _ u => V u, ⟨fun _ _ _ _ h => h, fun e => absurd e hk, .inl ⟨by simp [Region.wanted, hg], fun w hw _ => ?_⟩⟩, fun u hu => ?_⟩
  · rw [run_enter hop hf hb hn ha]
    unfold preE at hw
    rw [if_neg hk] at hw
    refine ⟨(stepE E0 E1 c k).refl w, (h1 w hw).mono ?_, fun w'' v hk => hK w'' v hk⟩
    rintro e w' ⟨v, rfl, hl, hk', _⟩
    exact ⟨v, rfl, (stepE E0 E1 c k).of_le hl, hk'⟩
  · obtain ⟨w, _, _, hv⟩ := hu
    exact wpFreeP_weaken _ _ _ _ _ (fun e w h => ⟨h.1, fun _ => trivial⟩) (h u hv)
/-- The call that writes. -/
theorem wpFreeP_callC (hk : k = c) (hg : o.guard = none) {f : FuncId} {xs : Array Operand} {ts : Array TypeId} (hop : o.op = Op.call { callee := Callee.value (Operand.func f), args := xs, argTypes := ts }) {fn : Func} (hf : P.funcs[f]? = some fn)
    (hb : fn.body.isNone = false) (hn : (fn.name == "runtime.NumGoroutine") = false) {args : Array Value} (ha : xs.map a.eval = args) (hm : MonoT E1 Vc)
    (h1 : ∀ w, E0.R W w → Calls P f args w (fun e w' => ∃ v, e = .returned v ∧ E1.R w w' ∧ K f args w' v)) (hK : ∀ w v, K f args w v → Vc w v)
    (h2 : ∀ v, (∃ w, E1.R W w ∧ Vc w v) → wpFreeP E0 E1 c Vc P ops .any W K Q rest (k + 1) (a.put o.dst v) (F.with k (fun w => Vc w v))) : wpFreeP E0 E1 c Vc P ops .any W K Q (o :: rest) k a F := by
  refine wpFreeP_call hk hg hm (fun w hw => ?_) h2
  rw [run_enter hop hf hb hn ha]
  exact ⟨E1.refl w, h1 w hw, fun w'' v hk => hK w'' v hk⟩
end
end Go.Fk

/- Steps of a region that draws its order: guarded operations, loads of one cell, addresses of elements, new rows, lengths. Nothing here names a program. -/
namespace Go.Fk
open Go Go.RowKit
section
variable {E : Ext} {P : Program} {ops : Array Oper} {W : World} {K : FuncId → Array Value → World → Value → Prop} {Q : Act → World → Prop} {F : Facts} {k : Nat} {o : Oper} {rest : List Oper} {a : Act}
theorem wpFreeD_oneW (hw : Region.wanted o (yielded ops a.tmps) = true) (v : Value) (hr : ∀ w, E.R W w → (execOp a.eval o).run P w = .ok (.value v) w)
    (h : wpFreeD E P ops .any W K Q rest (k + 1) (a.put o.dst v) (F.with k (fun _ => True))) : wpFreeD E P ops .any W K Q (o :: rest) k a F := by
  refine ⟨fun _ u => u = v, ⟨fun _ _ _ _ h => h, .inl ⟨hw, fun w hw _ => ?_⟩⟩, fun u hu => ?_⟩
  · rw [hr w hw]; exact ⟨E.refl w, rfl⟩
  · obtain ⟨w, _, _, rfl⟩ := hu
    exact wpFreeD_weaken _ _ _ _ _ (fun e w h => ⟨h.1, fun _ => trivial⟩) h
theorem wpFreeD_skip (hw : Region.wanted o (yielded ops a.tmps) = false)
    (h : wpFreeD E P ops .any W K Q rest (k + 1) (a.put o.dst undef) (F.with k (fun _ => True))) : wpFreeD E P ops .any W K Q (o :: rest) k a F := by
  refine ⟨fun _ u => u = undef, ⟨fun _ _ _ _ h => h, .inr ⟨hw, fun w _ _ => rfl⟩⟩, fun u hu => ?_⟩
  obtain ⟨w, _, _, rfl⟩ := hu
  exact wpFreeD_weaken _ _ _ _ _ (fun e w h => ⟨h.1, fun _ => trivial⟩) h
theorem wpFreeD_callW (hw : Region.wanted o (yielded ops a.tmps) = true) {f : FuncId} {xs : Array Operand} {ts : Array TypeId} (hop : o.op = Op.call { callee := Callee.value (Operand.func f), args := xs, argTypes := ts }) {fn : Func} (hf : P.funcs[f]? = some fn)
    (hb : fn.body.isNone = false) (hn : (fn.name == "runtime.NumGoroutine") = false) {args : Array Value} (ha : xs.map a.eval = args) (hm : MonoT E (K f args))
    (h1 : ∀ w, E.R W w → behind .any o F w → Calls P f args w (fun e w' => ∃ v, e = .returned v ∧ le w w' ∧ K f args w' v)) (h2 : ∀ v, (∃ w, E.R W w ∧ (∀ e, F e w) ∧ K f args w v) → wpFreeD E P ops .any W K Q rest (k + 1) (a.put o.dst v) (F.with k (fun w => K f args w v))) : wpFreeD E P ops .any W K Q (o :: rest) k a F := by
  refine ⟨K f args, ⟨hm, .inl ⟨hw, fun w hw hbe => ?_⟩⟩, fun v hv => h2 v hv⟩
  rw [run_enter hop hf hb hn ha]
  refine ⟨E.refl w, (h1 w hw hbe).mono ?_, fun _ _ h => h⟩
  rintro e w' ⟨v, rfl, hl, hk⟩
  exact ⟨v, rfl, E.of_le hl, hk⟩
theorem wpFreeD_madeW (hwt : Region.wanted o (yielded ops a.tmps) = true) (f : Nat → Value) (t : TypeId) (cs : Array Value) (hr : ∀ w, (execOp a.eval o).run P w = .ok (.value (f w.heap.size)) (w.alloc (.cells cs t)))
    (h : ∀ b, wpFreeD leX P ops .any W K Q rest (k + 1) (a.put o.dst (f b)) (F.with k (fun w => ∃ b', f b = f b' ∧ Row w b' t cs))) : wpFreeD leX P ops .any W K Q (o :: rest) k a F := by
  refine ⟨fun w v => ∃ b', v = f b' ∧ Row w b' t cs, ⟨fun v w w' hw hv => ?_, .inl ⟨hwt, fun w hw _ => ?_⟩⟩, fun v hv => ?_⟩
  · obtain ⟨b', e, hrow⟩ := hv
    exact ⟨b', e, hrow.le hw⟩
  · rw [hr w]
    exact ⟨le_alloc w _, w.heap.size, rfl, Row.new w t cs⟩
  · obtain ⟨w, _, _, b, rfl, _⟩ := hv
    exact h b
theorem wpFreeD_load1 (hg : o.guard = none) {ty : TypeId} {x : Operand} (hop : o.op = .load ty x) {p : Addr} (hx : a.eval x = .pointer (some p)) {v : Value} (hv : ∀ w, E.R W w → w.cell? p = some v) (hu : ∀ w, (isAgg ty).run P w = .ok false w)
    (h : wpFreeD E P ops .any W K Q rest (k + 1) (a.put o.dst v) (F.with k (fun _ => True))) : wpFreeD E P ops .any W K Q (o :: rest) k a F := by
  refine wpFreeD_one hg v (fun w hw => ?_) h
  have hl : (Instr.loadAt ty (.pointer (some p))).run P w = .ok v w := by
    simp [Instr.loadAt, Instr.sureAddr, loadVar, hu, hv w hw]
  simp [execOp, hop, hx, hl, Result.andThen]
theorem wpFreeD_load1W (hw : Region.wanted o (yielded ops a.tmps) = true) {ty : TypeId} {x : Operand} (hop : o.op = .load ty x) {p : Addr} (hx : a.eval x = .pointer (some p)) {v : Value} (hv : ∀ w, E.R W w → w.cell? p = some v) (hu : ∀ w, (isAgg ty).run P w = .ok false w)
    (h : wpFreeD E P ops .any W K Q rest (k + 1) (a.put o.dst v) (F.with k (fun _ => True))) : wpFreeD E P ops .any W K Q (o :: rest) k a F := by
  refine wpFreeD_oneW hw v (fun w hw => ?_) h
  have hl : (Instr.loadAt ty (.pointer (some p))).run P w = .ok v w := by
    simp [Instr.loadAt, Instr.sureAddr, loadVar, hu, hv w hw]
  simp [execOp, hop, hx, hl, Result.andThen]
theorem wpFreeD_indexW0 (hg : o.guard = none) {t : TypeId} {x y : Operand} (hop : o.op = .indexAddr t x y) {b off n cap sz i : Nat} {kk : IntKind} {e : TypeId} (hx : a.eval x = .slice (some ⟨b, off, none⟩) n cap) (hy : a.eval y = .int kk (i : Int)) (hu : P.underlying t = some (.slice e)) (hs : (P.info? e).map (·.size) = some sz) (hi : i < n)
    (h : wpFreeD E P ops .any W K Q rest (k + 1) (a.put o.dst (.pointer (some ⟨b, off + i * sz, none⟩))) (F.with k (fun _ => True))) : wpFreeD E P ops .any W K Q (o :: rest) k a F :=
  wpFreeD_indexW hg hop hx hy hu hs hi (by rw [add_none]; exact h)
theorem wpFreeD_lenR (hg : o.guard = none) {x : Operand} {t : TypeId} (hop : o.op = Op.call { callee := Callee.builtin Builtin.len, args := #[x], argTypes := #[t] }) {v : Value} (hx : a.eval x = v) {e : TypeId} (hu : P.underlying t = some (.slice e)) {w1 : World} {B : Nat} {y : Nat → Nat} {n : Nat} (hv : RdS w1 B v y n)
    (h : wpFreeD E P ops .any W K Q rest (k + 1) (a.put o.dst (.int .i64 n)) (F.with k (fun _ => True))) : wpFreeD E P ops .any W K Q (o :: rest) k a F := by
  refine wpFreeD_one hg (.int .i64 n) (fun w _ => ?_) h
  rcases hv.form with ⟨rfl, rfl⟩ | ⟨ad, cap, rfl, _, _⟩
  all_goals
    simp [execOp, hop, hx, Result.andThen, resolve, invoke, builtin, Builtin.len_, run_underlying hu]
    try rfl
end
end Go.Fk

/- What grows by append, beside facts of memory. Nothing here names a program. -/
namespace Go.Fk
open Go Go.RowKit
theorem ownsRow_chS {S : Nat → Prop} {w w' : World} {e : TypeId} {n B : Nat} {xs : List Value} {v : Value} (hw : Chg S w w') (h : w.ownsRow B e 1 v n xs) (hS : ∀ i, S i → i < B) : w'.ownsRow B e 1 v n xs := by
  obtain ⟨h1, h2⟩ := h
  refine ⟨h1, ?_⟩
  rcases h2 with h2 | ⟨q, cap, cur, e1, e2, e3, e4⟩
  · exact .inl h2
  · exact .inr ⟨q, cap, cur, e1, e2, by have := hw.row (g := q) (t := e) (cs := cur) e3 (fun hq => by have := hS q hq; omega); exact this, e4⟩
theorem ownBlock_ge {w : World} {B : Nat} {e : TypeId} {z : Nat} {v : Value} {n : Nat} {xs : List Value} (h : w.ownsRow B e z v n xs) : ∀ k, v.ownBlock = some k → B ≤ k := by
  rcases h.2 with ⟨rfl, _⟩ | ⟨q, cap, cur, rfl, hb, _⟩
  · intro k hk; cases hk
  · intro k hk; simp only [Value.ownBlock, Option.some.injEq] at hk; omega
theorem chg_grown {w w' : World} {row : Option Nat} {B : Nat} (h : w.grownBy w' row) (hr : ∀ k, row = some k → B ≤ k) : Chg (B ≤ ·) w w' :=
  ⟨h.os, h.tape, h.output, h.size, fun k hk hn => h.block k hk (fun e => hn (hr k e.symm))⟩
theorem Frg.up {w0 w w' : World} {L : List Fact} {B : Nat} (h : Frg w0 w L) (k : Chg (B ≤ ·) w w') (hB : ∀ e ∈ L, e.hi ≤ B) (h0 : w0.heap.size ≤ B) : Frg w0 w' L :=
  ⟨h.below.trans (k.below (fun i hi => Nat.le_trans h0 hi) h.size), fun e he => by
    obtain ⟨h1, h2, h3⟩ := h.facts e he
    exact ⟨h1, Nat.le_trans h2 k.size, e.ok w w' h3 (fun i _ hi => k.block i (by omega) (fun hb => by have := hB e he; omega))⟩, h.apart⟩
theorem flist_snoc (y : Nat → Nat) (n a : Nat) : flist y n ++ [.float .f32 a] = flist (fun j => if j = n then a else y j) (n + 1) := by
  have h := flist_app y (fun _ => a) n 1
  have h1 : flist (fun _ => a) 1 = [.float .f32 a] := by simp [flist]
  rw [h1] at h
  rw [h]
  apply List.ext_getElem?
  intro i
  by_cases hi : i < n + 1
  · rw [flist_get' _ hi, flist_get' _ hi]
    by_cases e : i = n
    · simp [e]
    · simp [e, show i < n by omega]
  · rw [List.getElem?_eq_none (by rw [flist_length]; omega), List.getElem?_eq_none (by rw [flist_length]; omega)]
theorem Frg.own2 {w0 w w' : World} {L : List Fact} {q n n' : Nat} {s s' : Value} {x x' : Nat → Nat} (h : Frg w0 w L) (k : Below w.heap.size w w') (h1 : w.heap.size ≤ q) (h2 : q ≤ w'.heap.size) (o1 : OwnS w' w.heap.size q s x n) (o2 : OwnS w' q w'.heap.size s' x' n') :
    Frg w0 w' (ownF q w'.heap.size s' x' n' :: ownF w.heap.size q s x n :: L) := by
  refine ⟨(h.le k).below, fun e he => ?_, .cons (fun e he => ?_) (.cons (fun e he => (h.facts e he).2.1) h.apart)⟩
  · rcases List.mem_cons.1 he with rfl | he
    · exact ⟨Nat.le_trans h.size h1, Nat.le_refl _, o2⟩
    · rcases List.mem_cons.1 he with rfl | he
      · exact ⟨h.size, h2, o1⟩
      · exact (h.le k).facts e he
  · rcases List.mem_cons.1 he with rfl | he
    · exact Nat.le_refl q
    · exact Nat.le_trans (h.facts e he).2.1 h1
theorem m12 {b0 b1 b2 b3 b4 b5 b6 b7 b8 b9 b10 b11 a : Fact} {l : List Fact} : a ∈ b0 :: b1 :: b2 :: b3 :: b4 :: b5 :: b6 :: b7 :: b8 :: b9 :: b10 :: b11 :: a :: l := List.mem_cons_of_mem _ (List.mem_cons_of_mem _ (List.mem_cons_of_mem _ (List.mem_cons_of_mem _ (List.mem_cons_of_mem _ (List.mem_cons_of_mem _ (List.mem_cons_of_mem _ (List.mem_cons_of_mem _ (List.mem_cons_of_mem _ (List.mem_cons_of_mem _ (List.mem_cons_of_mem _ (List.mem_cons_of_mem _ (List.mem_cons_self))))))))))))
theorem m13 {b0 b1 b2 b3 b4 b5 b6 b7 b8 b9 b10 b11 b12 a : Fact} {l : List Fact} : a ∈ b0 :: b1 :: b2 :: b3 :: b4 :: b5 :: b6 :: b7 :: b8 :: b9 :: b10 :: b11 :: b12 :: a :: l := List.mem_cons_of_mem _ (List.mem_cons_of_mem _ (List.mem_cons_of_mem _ (List.mem_cons_of_mem _ (List.mem_cons_of_mem _ (List.mem_cons_of_mem _ (List.mem_cons_of_mem _ (List.mem_cons_of_mem _ (List.mem_cons_of_mem _ (List.mem_cons_of_mem _ (List.mem_cons_of_mem _ (List.mem_cons_of_mem _ (List.mem_cons_of_mem _ (List.mem_cons_self)))))))))))))
theorem m14 {b0 b1 b2 b3 b4 b5 b6 b7 b8 b9 b10 b11 b12 b13 a : Fact} {l : List Fact} : a ∈ b0 :: b1 :: b2 :: b3 :: b4 :: b5 :: b6 :: b7 :: b8 :: b9 :: b10 :: b11 :: b12 :: b13 :: a :: l := List.mem_cons_of_mem _ (List.mem_cons_of_mem _ (List.mem_cons_of_mem _ (List.mem_cons_of_mem _ (List.mem_cons_of_mem _ (List.mem_cons_of_mem _ (List.mem_cons_of_mem _ (List.mem_cons_of_mem _ (List.mem_cons_of_mem _ (List.mem_cons_of_mem _ (List.mem_cons_of_mem _ (List.mem_cons_of_mem _ (List.mem_cons_of_mem _ (List.mem_cons_of_mem _ (List.mem_cons_self))))))))))))))
theorem m15 {b0 b1 b2 b3 b4 b5 b6 b7 b8 b9 b10 b11 b12 b13 b14 a : Fact} {l : List Fact} : a ∈ b0 :: b1 :: b2 :: b3 :: b4 :: b5 :: b6 :: b7 :: b8 :: b9 :: b10 :: b11 :: b12 :: b13 :: b14 :: a :: l := List.mem_cons_of_mem _ (List.mem_cons_of_mem _ (List.mem_cons_of_mem _ (List.mem_cons_of_mem _ (List.mem_cons_of_mem _ (List.mem_cons_of_mem _ (List.mem_cons_of_mem _ (List.mem_cons_of_mem _ (List.mem_cons_of_mem _ (List.mem_cons_of_mem _ (List.mem_cons_of_mem _ (List.mem_cons_of_mem _ (List.mem_cons_of_mem _ (List.mem_cons_of_mem _ (List.mem_cons_of_mem _ (List.mem_cons_self)))))))))))))))
theorem m16 {b0 b1 b2 b3 b4 b5 b6 b7 b8 b9 b10 b11 b12 b13 b14 b15 a : Fact} {l : List Fact} : a ∈ b0 :: b1 :: b2 :: b3 :: b4 :: b5 :: b6 :: b7 :: b8 :: b9 :: b10 :: b11 :: b12 :: b13 :: b14 :: b15 :: a :: l := List.mem_cons_of_mem _ (List.mem_cons_of_mem _ (List.mem_cons_of_mem _ (List.mem_cons_of_mem _ (List.mem_cons_of_mem _ (List.mem_cons_of_mem _ (List.mem_cons_of_mem _ (List.mem_cons_of_mem _ (List.mem_cons_of_mem _ (List.mem_cons_of_mem _ (List.mem_cons_of_mem _ (List.mem_cons_of_mem _ (List.mem_cons_of_mem _ (List.mem_cons_of_mem _ (List.mem_cons_of_mem _ (List.mem_cons_of_mem _ (List.mem_cons_self))))))))))))))))
theorem m17 {b0 b1 b2 b3 b4 b5 b6 b7 b8 b9 b10 b11 b12 b13 b14 b15 b16 a : Fact} {l : List Fact} : a ∈ b0 :: b1 :: b2 :: b3 :: b4 :: b5 :: b6 :: b7 :: b8 :: b9 :: b10 :: b11 :: b12 :: b13 :: b14 :: b15 :: b16 :: a :: l := List.mem_cons_of_mem _ (List.mem_cons_of_mem _ (List.mem_cons_of_mem _ (List.mem_cons_of_mem _ (List.mem_cons_of_mem _ (List.mem_cons_of_mem _ (List.mem_cons_of_mem _ (List.mem_cons_of_mem _ (List.mem_cons_of_mem _ (List.mem_cons_of_mem _ (List.mem_cons_of_mem _ (List.mem_cons_of_mem _ (List.mem_cons_of_mem _ (List.mem_cons_of_mem _ (List.mem_cons_of_mem _ (List.mem_cons_of_mem _ (List.mem_cons_of_mem _ (List.mem_cons_self)))))))))))))))))
theorem m18 {b0 b1 b2 b3 b4 b5 b6 b7 b8 b9 b10 b11 b12 b13 b14 b15 b16 b17 a : Fact} {l : List Fact} : a ∈ b0 :: b1 :: b2 :: b3 :: b4 :: b5 :: b6 :: b7 :: b8 :: b9 :: b10 :: b11 :: b12 :: b13 :: b14 :: b15 :: b16 :: b17 :: a :: l := List.mem_cons_of_mem _ (List.mem_cons_of_mem _ (List.mem_cons_of_mem _ (List.mem_cons_of_mem _ (List.mem_cons_of_mem _ (List.mem_cons_of_mem _ (List.mem_cons_of_mem _ (List.mem_cons_of_mem _ (List.mem_cons_of_mem _ (List.mem_cons_of_mem _ (List.mem_cons_of_mem _ (List.mem_cons_of_mem _ (List.mem_cons_of_mem _ (List.mem_cons_of_mem _ (List.mem_cons_of_mem _ (List.mem_cons_of_mem _ (List.mem_cons_of_mem _ (List.mem_cons_of_mem _ (List.mem_cons_self))))))))))))))))))
theorem m19 {b0 b1 b2 b3 b4 b5 b6 b7 b8 b9 b10 b11 b12 b13 b14 b15 b16 b17 b18 a : Fact} {l : List Fact} : a ∈ b0 :: b1 :: b2 :: b3 :: b4 :: b5 :: b6 :: b7 :: b8 :: b9 :: b10 :: b11 :: b12 :: b13 :: b14 :: b15 :: b16 :: b17 :: b18 :: a :: l := List.mem_cons_of_mem _ (List.mem_cons_of_mem _ (List.mem_cons_of_mem _ (List.mem_cons_of_mem _ (List.mem_cons_of_mem _ (List.mem_cons_of_mem _ (List.mem_cons_of_mem _ (List.mem_cons_of_mem _ (List.mem_cons_of_mem _ (List.mem_cons_of_mem _ (List.mem_cons_of_mem _ (List.mem_cons_of_mem _ (List.mem_cons_of_mem _ (List.mem_cons_of_mem _ (List.mem_cons_of_mem _ (List.mem_cons_of_mem _ (List.mem_cons_of_mem _ (List.mem_cons_of_mem _ (List.mem_cons_of_mem _ (List.mem_cons_self)))))))))))))))))))
theorem Frg.mark10 {w0 w w' : World} {lo hi n : Nat} {s : Value} {x x' : Nat → Nat} {l : List Fact} {b0 b1 b2 b3 b4 b5 b6 b7 b8 b9 : Fact} (h : Frg w0 w (b0 :: b1 :: b2 :: b3 :: b4 :: b5 :: b6 :: b7 :: b8 :: b9 :: ownF lo hi s x n :: l)) (hp : OwnS w' lo hi s x' n) (k : Chg (rng lo hi) w w') : Frg w0 w' (b0 :: b1 :: b2 :: b3 :: b4 :: b5 :: b6 :: b7 :: b8 :: b9 :: ownF lo hi s x' n :: l) :=
  Frg.chg [b0, b1, b2, b3, b4, b5, b6, b7, b8, b9] (e := ownF lo hi s x n) (e' := ownF lo hi s x' n) h k hp rfl rfl
theorem Frg.mark11 {w0 w w' : World} {lo hi n : Nat} {s : Value} {x x' : Nat → Nat} {l : List Fact} {b0 b1 b2 b3 b4 b5 b6 b7 b8 b9 b10 : Fact} (h : Frg w0 w (b0 :: b1 :: b2 :: b3 :: b4 :: b5 :: b6 :: b7 :: b8 :: b9 :: b10 :: ownF lo hi s x n :: l)) (hp : OwnS w' lo hi s x' n) (k : Chg (rng lo hi) w w') : Frg w0 w' (b0 :: b1 :: b2 :: b3 :: b4 :: b5 :: b6 :: b7 :: b8 :: b9 :: b10 :: ownF lo hi s x' n :: l) :=
  Frg.chg [b0, b1, b2, b3, b4, b5, b6, b7, b8, b9, b10] (e := ownF lo hi s x n) (e' := ownF lo hi s x' n) h k hp rfl rfl
theorem Frg.mark12 {w0 w w' : World} {lo hi n : Nat} {s : Value} {x x' : Nat → Nat} {l : List Fact} {b0 b1 b2 b3 b4 b5 b6 b7 b8 b9 b10 b11 : Fact} (h : Frg w0 w (b0 :: b1 :: b2 :: b3 :: b4 :: b5 :: b6 :: b7 :: b8 :: b9 :: b10 :: b11 :: ownF lo hi s x n :: l)) (hp : OwnS w' lo hi s x' n) (k : Chg (rng lo hi) w w') : Frg w0 w' (b0 :: b1 :: b2 :: b3 :: b4 :: b5 :: b6 :: b7 :: b8 :: b9 :: b10 :: b11 :: ownF lo hi s x' n :: l) :=
  Frg.chg [b0, b1, b2, b3, b4, b5, b6, b7, b8, b9, b10, b11] (e := ownF lo hi s x n) (e' := ownF lo hi s x' n) h k hp rfl rfl
theorem Frg.mark13 {w0 w w' : World} {lo hi n : Nat} {s : Value} {x x' : Nat → Nat} {l : List Fact} {b0 b1 b2 b3 b4 b5 b6 b7 b8 b9 b10 b11 b12 : Fact} (h : Frg w0 w (b0 :: b1 :: b2 :: b3 :: b4 :: b5 :: b6 :: b7 :: b8 :: b9 :: b10 :: b11 :: b12 :: ownF lo hi s x n :: l)) (hp : OwnS w' lo hi s x' n) (k : Chg (rng lo hi) w w') : Frg w0 w' (b0 :: b1 :: b2 :: b3 :: b4 :: b5 :: b6 :: b7 :: b8 :: b9 :: b10 :: b11 :: b12 :: ownF lo hi s x' n :: l) :=
  Frg.chg [b0, b1, b2, b3, b4, b5, b6, b7, b8, b9, b10, b11, b12] (e := ownF lo hi s x n) (e' := ownF lo hi s x' n) h k hp rfl rfl
theorem Frg.mark14 {w0 w w' : World} {lo hi n : Nat} {s : Value} {x x' : Nat → Nat} {l : List Fact} {b0 b1 b2 b3 b4 b5 b6 b7 b8 b9 b10 b11 b12 b13 : Fact} (h : Frg w0 w (b0 :: b1 :: b2 :: b3 :: b4 :: b5 :: b6 :: b7 :: b8 :: b9 :: b10 :: b11 :: b12 :: b13 :: ownF lo hi s x n :: l)) (hp : OwnS w' lo hi s x' n) (k : Chg (rng lo hi) w w') : Frg w0 w' (b0 :: b1 :: b2 :: b3 :: b4 :: b5 :: b6 :: b7 :: b8 :: b9 :: b10 :: b11 :: b12 :: b13 :: ownF lo hi s x' n :: l) :=
  Frg.chg [b0, b1, b2, b3, b4, b5, b6, b7, b8, b9, b10, b11, b12, b13] (e := ownF lo hi s x n) (e' := ownF lo hi s x' n) h k hp rfl rfl
theorem Frg.mark15 {w0 w w' : World} {lo hi n : Nat} {s : Value} {x x' : Nat → Nat} {l : List Fact} {b0 b1 b2 b3 b4 b5 b6 b7 b8 b9 b10 b11 b12 b13 b14 : Fact} (h : Frg w0 w (b0 :: b1 :: b2 :: b3 :: b4 :: b5 :: b6 :: b7 :: b8 :: b9 :: b10 :: b11 :: b12 :: b13 :: b14 :: ownF lo hi s x n :: l)) (hp : OwnS w' lo hi s x' n) (k : Chg (rng lo hi) w w') : Frg w0 w' (b0 :: b1 :: b2 :: b3 :: b4 :: b5 :: b6 :: b7 :: b8 :: b9 :: b10 :: b11 :: b12 :: b13 :: b14 :: ownF lo hi s x' n :: l) :=
  Frg.chg [b0, b1, b2, b3, b4, b5, b6, b7, b8, b9, b10, b11, b12, b13, b14] (e := ownF lo hi s x n) (e' := ownF lo hi s x' n) h k hp rfl rfl
theorem Frg.mark16 {w0 w w' : World} {lo hi n : Nat} {s : Value} {x x' : Nat → Nat} {l : List Fact} {b0 b1 b2 b3 b4 b5 b6 b7 b8 b9 b10 b11 b12 b13 b14 b15 : Fact} (h : Frg w0 w (b0 :: b1 :: b2 :: b3 :: b4 :: b5 :: b6 :: b7 :: b8 :: b9 :: b10 :: b11 :: b12 :: b13 :: b14 :: b15 :: ownF lo hi s x n :: l)) (hp : OwnS w' lo hi s x' n) (k : Chg (rng lo hi) w w') : Frg w0 w' (b0 :: b1 :: b2 :: b3 :: b4 :: b5 :: b6 :: b7 :: b8 :: b9 :: b10 :: b11 :: b12 :: b13 :: b14 :: b15 :: ownF lo hi s x' n :: l) :=
  Frg.chg [b0, b1, b2, b3, b4, b5, b6, b7, b8, b9, b10, b11, b12, b13, b14, b15] (e := ownF lo hi s x n) (e' := ownF lo hi s x' n) h k hp rfl rfl
end Go.Fk

/- An append to a row of one's own in a region that draws its order: elements of any width. Nothing here names a program. -/
namespace Go.Fk
open Go Go.RowKit
theorem ownsRow_keep {w w' : World} {B : Nat} {e : TypeId} {z : Nat} {v : Value} {n : Nat} {xs : List Value} {S : Nat → Prop} (h : w.ownsRow B e z v n xs) (hw : Chg S w w') (hS : ∀ k, v.ownBlock = some k → ¬ S k) : w'.ownsRow B e z v n xs := by
  obtain ⟨h1, h2⟩ := h
  refine ⟨h1, ?_⟩
  rcases h2 with h2 | ⟨q, cap, cur, e1, e2, e3, e4⟩
  · exact .inl h2
  · exact .inr ⟨q, cap, cur, e1, e2, by have := hw.row (g := q) (t := e) (cs := cur) e3 (hS q (by rw [e1]; rfl)); exact this, e4⟩
theorem ownsRow_mono {w : World} {B B' : Nat} {e : TypeId} {z : Nat} {v : Value} {n : Nat} {xs : List Value} (h : w.ownsRow B e z v n xs) (hb : B' ≤ B) : w.ownsRow B' e z v n xs := by
  obtain ⟨h1, h2⟩ := h
  refine ⟨h1, ?_⟩
  rcases h2 with h2 | ⟨q, cap, cur, e1, e2, e3⟩
  · exact .inl h2
  · exact .inr ⟨q, cap, cur, e1, Nat.le_trans hb e2, e3⟩
theorem ownsRow_lt {w : World} {B : Nat} {e : TypeId} {z : Nat} {v : Value} {n : Nat} {xs : List Value} (h : w.ownsRow B e z v n xs) : ∀ k, v.ownBlock = some k → B ≤ k ∧ k < w.heap.size := by
  intro k hk
  rcases h.2 with ⟨rfl, _⟩ | ⟨q, cap, cur, rfl, e2, e3, _⟩
  · cases hk
  · obtain rfl : q = k := by simpa [Value.ownBlock] using hk
    refine ⟨e2, ?_⟩
    rcases Nat.lt_or_ge q w.heap.size with hlt | hge
    · exact hlt
    · rw [Array.getElem?_eq_none hge] at e3; cases e3
theorem run_append_keep {P : Program} (w : World) (t ty : TypeId) (base : Nat) (e : TypeId) (i : TypeInfo) (z : Value) (size bytes : Nat) (ht : P.underlying t = some (.slice e)) (hi : P.info? e = some i) (hz : i.zero = some z)
    (hsize : i.size = size) (hby : i.bytes = bytes) (hzs : z.cells.size = size) (hsz : 0 < size)
    (v : Value) (n : Nat) (xs : List Value) (hown : w.ownsRow base e size v n xs)
    (ad : Addr) (m c : Nat) (news : List Value) (hl : news.length = m * size) (hnews : ∀ j u, news[j]? = some u → w.cell? (ad.add j) = some u) (h1 : ∀ u ∈ news, u.oneCell' = true)
    (hm : 0 < m) (h63 : n + m ≤ maxLen) (hbytes : (n + m) * bytes ≤ 140737488355328) (hbase : base ≤ w.heap.size) :
    ∃ v' w', (Builtin.append_ #[t, t] ty #[v, .slice (some ad) m c]).run P w = .ok v' w' ∧ w'.ownsRow base e size v' (n + m) (xs ++ news) ∧ Chg (fun k => v.ownBlock = some k) w w' ∧
      (v'.ownBlock = v.ownBlock ∨ ∃ q, v'.ownBlock = some q ∧ w.heap.size ≤ q) ∧ w'.ownsRow base e size v n xs ∧ (∀ u, u.ownBlock = v.ownBlock → w.ownsRow base e size u (n + m) (xs ++ news) → w'.ownsRow base e size u (n + m) (xs ++ news)) := by
  have hlen : (xs ++ news).length = (n + m) * size := by rw [List.length_append, hown.1, hl, Nat.add_mul]
  rcases hown.2 with ⟨rfl, rfl⟩ | ⟨g, cap, cur, rfl, hbg, hg, hnc, hcm, hcs, htake⟩
  · obtain ⟨v', w', hr, h2, h3, _, h5⟩ := run_append_own_at (P := P) w base t ty e i z size bytes ht hi hz hsize hby hzs hsz (.slice none 0 0) 0 xs hown ad m c news hl hnews h1 h63 hbytes hbase
    have hle : le w w' := le_of_grown h3
    refine ⟨v', w', hr, h2, Chg.of_le hle, ?_, ownsRow_le hown hle, fun u _ hu => ownsRow_le hu hle⟩
    rcases h5 with h5 | h5
    · exact .inl h5
    · exact .inr ⟨_, h5, Nat.le_refl _⟩
  · by_cases hroom : n + m ≤ cap
    · subst hsize
      have hfit : n * i.size + news.length ≤ cur.size := by rw [hl, hcs, ← Nat.add_mul]; exact Nat.mul_le_mul_right _ hroom
      have hr := run_append_room (P := P) w t ty e i ht hi g n cap cur hg ad m c news hl hnews h1 hroom hfit
      have hnew : (w.setRow g (cur.toList.take (n * i.size) ++ news ++ cur.toList.drop (n * i.size + news.length)).toArray).ownsRow base e i.size (.slice (some ⟨g, 0, none⟩) (n + m) cap) (n + m) (xs ++ news) := by
        refine ⟨hlen, .inr ⟨g, cap, _, rfl, hbg, setRow_heap w g cur _ e _ hg, hroom, hcm, ?_, ?_⟩⟩
        · simp only [List.size_toArray, List.length_append, List.length_take, List.length_drop, Array.length_toList]
          omega
        · rw [htake, ← hlen]
          exact List.take_left
      refine ⟨_, _, hr, hnew, ⟨rfl, rfl, rfl, by simp, fun k _ hk => setRow_other w g k _ (fun e => hk (by simp [Value.ownBlock, e]))⟩, .inl rfl, ?_, fun u hu ho => ?_⟩
      · refine ⟨hown.1, .inr ⟨g, cap, _, rfl, hbg, setRow_heap w g cur _ e _ hg, hnc, hcm, ?_, ?_⟩⟩
        · simp only [List.size_toArray, List.length_append, List.length_take, List.length_drop, Array.length_toList]
          omega
        · rw [htake, List.append_assoc, ← hown.1]
          exact List.take_left
      · rcases ho.2 with ⟨rfl, h0⟩ | ⟨g0, cap0, cur0, rfl, _, hg0, _, _, hs0, _⟩
        · omega
        · obtain rfl : g0 = g := by simpa [Value.ownBlock] using hu
          rw [hg] at hg0
          simp only [Option.some.injEq, Obj.cells.injEq] at hg0
          obtain ⟨rfl, _⟩ := hg0
          obtain rfl : cap = cap0 := Nat.eq_of_mul_eq_mul_right hsz (hcs.symm.trans hs0)
          exact hnew
    · obtain ⟨v', w', hr, h2, h3⟩ := run_append_arg_grows (P := P) w t ty e i z size bytes ht hi hz hsize hby hzs hsz ⟨g, 0, none⟩ n cap xs hown.1 (hown.cells (g := g) rfl) ad m c news hl hnews (by omega) h63 hbytes
      have hle : le w w' := le_of_grown h3
      obtain ⟨q, c', rfl, hq, _⟩ := h2.form (by omega)
      exact ⟨_, w', hr, ownsRow_mono h2 hbase, Chg.of_le hle, .inr ⟨q, rfl, hq⟩, ownsRow_le hown hle, fun u _ hu => ownsRow_le hu hle⟩
/-- Only the row that one owns is written, by one append. -/
def appX (base : Nat) (e : TypeId) (z : Nat) (v : Value) (n : Nat) (xs : List Value) (m : Nat) (news : List Value) : Ext where
  R w w' := Chg (fun k => v.ownBlock = some k) w w' ∧ (w.ownsRow base e z v n xs → w'.ownsRow base e z v n xs) ∧ (∀ u, u.ownBlock = v.ownBlock → w.ownsRow base e z u (n + m) (xs ++ news) → w'.ownsRow base e z u (n + m) (xs ++ news))
  refl w := ⟨Chg.refl _ w, fun h => h, fun _ _ h => h⟩
  trans h k := ⟨h.1.trans k.1, fun x => k.2.1 (h.2.1 x), fun u hu x => k.2.2 u hu (h.2.2 u hu x)⟩
  of_le h := ⟨Chg.of_le h, fun x => ownsRow_le x h, fun _ _ x => ownsRow_le x h⟩
section
variable {P : Program} {ops : Array Oper} {W : World} {K : FuncId → Array Value → World → Value → Prop} {Q : Act → World → Prop} {F : Facts} {k : Nat} {o : Oper} {rest : List Oper} {a : Act}
variable {base : Nat} {e : TypeId} {z : Nat} {v : Value} {n : Nat} {xs : List Value} {m : Nat} {news : List Value}
theorem appX_row {w : World} (hown : W.ownsRow base e z v n xs) (hw : (appX base e z v n xs m news).R W w) {q : Nat} {t : TypeId} {cs : Array Value} (hr : Row W q t cs) (hq : v.ownBlock ≠ some q) : Row w q t cs := hw.1.row hr hq
theorem wpFreeD_madeX (hown : W.ownsRow base e z v n xs) (hg : o.guard = none) (f : Nat → Value) (t : TypeId) (cs : Array Value) (hr : ∀ w, (execOp a.eval o).run P w = .ok (.value (f w.heap.size)) (w.alloc (.cells cs t)))
    (h : ∀ b, wpFreeD (appX base e z v n xs m news) P ops .any W K Q rest (k + 1) (a.put o.dst (f b)) (F.with k (fun w => ∃ b', f b = f b' ∧ Row w b' t cs))) : wpFreeD (appX base e z v n xs m news) P ops .any W K Q (o :: rest) k a F := by
  refine ⟨fun w u => ∃ b', u = f b' ∧ W.heap.size ≤ b' ∧ Row w b' t cs, ⟨fun u w w' hw hu => ?_, .inl ⟨by simp [Region.wanted, hg], fun w hw _ => ?_⟩⟩, fun u hu => ?_⟩
  · obtain ⟨b', e1, h2, hrow⟩ := hu
    exact ⟨b', e1, h2, hw.1.row hrow (fun e2 => by have := (ownsRow_lt hown _ e2).2; omega)⟩
  · rw [hr w]
    exact ⟨(appX base e z v n xs m news).of_le (le_alloc w _), w.heap.size, rfl, hw.1.size, Row.new w t cs⟩
  · obtain ⟨w, _, _, b, rfl, _⟩ := hu
    exact wpFreeD_weaken _ _ _ _ _ (fun e w h => ⟨h.1, fun he => by obtain ⟨b', e1, _, h2⟩ := h.2 he; exact ⟨b', e1, h2⟩⟩) (h b)
/-- What an append gives. -/
def Gave (W : World) (base : Nat) (e : TypeId) (z : Nat) (v : Value) (n : Nat) (xs : List Value) (w : World) (u : Value) : Prop := w.ownsRow base e z u n xs ∧ (u.ownBlock = v.ownBlock ∨ ∃ q, u.ownBlock = some q ∧ W.heap.size ≤ q)
theorem wpFreeD_appK (hown : W.ownsRow base e z v n xs) (hg : o.guard = none) {s x : Operand} {t : TypeId} (hop : o.op = .call { callee := .builtin .append, args := #[s, x], argTypes := #[t, t] }) {i : TypeInfo} {zv : Value} {bytes : Nat}
    (ht : P.underlying t = some (.slice e)) (hi : P.info? e = some i) (hz : i.zero = some zv) (hsize : i.size = z) (hby : i.bytes = bytes) (hzs : zv.cells.size = z) (hsz : 0 < z)
    (hs : a.eval s = v) {ad : Addr} {c : Nat} (hx : a.eval x = .slice (some ad) m c) (hl : news.length = m * z) (hnews : ∀ w, (appX base e z v n xs m news).R W w → behind .any o F w → ∀ j u, news[j]? = some u → w.cell? (ad.add j) = some u) (h1 : ∀ u ∈ news, u.oneCell' = true)
    (hm : 0 < m) (h63 : n + m ≤ maxLen) (hbytes : (n + m) * bytes ≤ 140737488355328) (hbase : base ≤ W.heap.size)
    (h : ∀ u, (∃ w, (appX base e z v n xs m news).R W w ∧ Gave W base e z v (n + m) (xs ++ news) w u) → wpFreeD (appX base e z v n xs m news) P ops .any W K Q rest (k + 1) (a.put o.dst u) (F.with k (fun w => Gave W base e z v (n + m) (xs ++ news) w u))) : wpFreeD (appX base e z v n xs m news) P ops .any W K Q (o :: rest) k a F := by
  refine ⟨Gave W base e z v (n + m) (xs ++ news), ⟨fun u w w' hw hu => ?_, .inl ⟨by simp [Region.wanted, hg], fun w hw hbe => ?_⟩⟩, fun u hu => h u (by obtain ⟨w, h1, _, h2⟩ := hu; exact ⟨w, h1, h2⟩)⟩
  · obtain ⟨g1, g2⟩ := hu
    refine ⟨?_, g2⟩
    by_cases hq : u.ownBlock = v.ownBlock
    · exact hw.2.2 u hq g1
    · exact ownsRow_keep g1 hw.1 (fun q e1 e2 => hq (e1.trans e2.symm))
  · obtain ⟨v', w', hr, r1, r2, r3, r4, r5⟩ := run_append_keep (P := P) w t o.type base e i zv z bytes ht hi hz hsize hby hzs hsz v n xs (hw.2.1 hown) ad m c news hl (hnews w hw hbe) h1 hm h63 hbytes (Nat.le_trans hbase hw.1.size)
    simp [execOp, hop, resolve, invoke, builtin, hs, hx, hr, Result.andThen, insideT]
    refine ⟨⟨r2, fun _ => r4, r5⟩, r1, ?_⟩
    rcases r3 with r3 | ⟨q, r3, r6⟩
    · exact .inl r3
    · exact .inr ⟨q, r3, Nat.le_trans hw.1.size r6⟩
end
end Go.Fk

/- Drawn regions with facts whose last operations are forced; float arithmetic within them. Nothing here names a program. -/
namespace Go.Fk
open Go Go.RowKit
section
variable {E : Ext} {P : Program} {ops : Array Oper} {W : World} {K : FuncId → Array Value → World → Value → Prop} {Q : Act → World → Prop} {F : Facts} {k : Nat} {o : Oper} {rest : List Oper} {a : Act}
theorem wpFreeD_some (hg : o.guard = none) (V : Value → Prop) (hr : ∀ w, E.R W w → ∃ v n, (execOp a.eval o).run P w = .ok (.value v) (w.drewN n) ∧ V v)
    (h : ∀ v, V v → wpFreeD E P ops .any W K Q rest (k + 1) (a.put o.dst v) (F.with k (fun _ => True))) : wpFreeD E P ops .any W K Q (o :: rest) k a F := by
  refine ⟨fun _ u => V u, ⟨fun _ _ _ _ h => h, .inl ⟨by simp [Region.wanted, hg], fun w hw _ => ?_⟩⟩, fun u hu => ?_⟩
  · obtain ⟨v, n, hrun, hv⟩ := hr w hw
    rw [hrun]; exact ⟨E.of_le (le_drewN w n), hv⟩
  · obtain ⟨w, _, _, hv⟩ := hu
    exact wpFreeD_weaken _ _ _ _ _ (fun e w h => ⟨h.1, fun _ => trivial⟩) (h u hv)
theorem wpFreeD_farith (hg : o.guard = none) {op : BinOp} {t t' : TypeId} {x y : Operand} (hop : o.op = Op.binOp op t x y t') (ho : arith op = true)
    {fk : FloatKind} {p q : Nat} (hx : a.eval x = .float fk p) (hy : a.eval y = .float fk q)
    (h : ∀ r, Hid (can fk r = fop op fk p q) → Hid (fits fk r) → wpFreeD E P ops .any W K Q rest (k + 1) (a.put o.dst (.float fk r)) (F.with k (fun _ => True))) : wpFreeD E P ops .any W K Q (o :: rest) k a F := by
  refine wpFreeD_some hg (fun v => ∃ r, v = .float fk r ∧ can fk r = fop op fk p q ∧ fits fk r) (fun w _ => ?_) ?_
  · obtain ⟨r, n, hrun, hr, hf⟩ := run_farith (P := P) w op ho t fk p q
    have he := eqGuard_float (P := P) w op t x y fk fk p q
    refine ⟨.float fk r, n, ?_, r, rfl, hr, hf⟩
    simp [execOp, hop, hx, hy, he, hrun, Result.andThen]
  · rintro v ⟨r, rfl, h1, h2⟩
    exact h r h1 h2
end
section
variable {E : Ext} {P : Program}
/-- A REGION WITH FORCED LAST OPERATIONS (from number n on). -/
theorem region_tailD (K : FuncId → Array Value → World → Value → Prop) {id : Nat} {Q : Exit → Act → World → Prop} {a : Act} {w : World} {l : List Oper} (n : Nat) (hm : P.follows .mixedOrders = true) (hB : Region.lexTailB .any l.toArray n = true)
    (h : wpFreeD E P l.toArray .any (w.drewN 1) K (fun a' w' => wpList P l.toArray Q (l.drop n) a' w') (l.take n) 0 a noFacts) : (Code.region id l.toArray true).wp P Q a w := by
  simp only [Region.lexTailB, Bool.and_eq_true, decide_eq_true_eq] at hB
  obtain ⟨⟨⟨⟨hsel, hn⟩, hs'⟩, hc⟩, hlex⟩ := hB
  have hn' : n < l.length := by simpa using hn
  have htl : (l.take n).length = n := by simp; omega
  have hdl : (l.drop n).length = l.toArray.size - n := by simp
  have hbound : ∀ listed i, HeadInv .any l.toArray n listed → i < n → listed.getD i true = false → ∀ j ∈ Region.ready .any l.toArray listed, j < n := by
    intro listed i inv hi hun j hj
    rcases Nat.lt_or_ge j n with h | h
    · exact h
    · exact absurd hj (tail_waits hs' hc hn inv _ i rfl hi hun j h)
  have H := anyFreeD_lex (md := .any) (g := l.toArray.size - n) hsel hbound (l.take n) 0 _ a noFacts (fun j hj => by
    have hj' : j < n := by rw [htl] at hj; exact hj
    simp [hj']) (by simpa using htl) (head_start _ n) (by rw [htl]; exact hlex) (fun _ _ _ h => h) ⟨w.drewN 1, E.refl _, fun _ => trivial, trivial⟩ h
  refine wp_region_any hm ?_
  have := anyFreeD_sound (Q' := Q) (W := w.drewN 1) (g := l.toArray.size - n) (fun listed a' F w' hw' hF hL => by
    have := wpAny_of_seq (md := .any) (Q' := Q) (l.drop n) n listed a' w' (fun j => by simp [List.getElem?_drop]) (by rw [hdl]; exact hL.1) (hL.2 w' hw' hF)
    rwa [hdl] at this) _ _ _ _ _ (fun _ _ _ h => h) (E.refl _) (fun _ => trivial) H
  rw [htl, show n + (l.toArray.size - n) = l.toArray.size by omega] at this
  exact this
end
end Go.Fk

/- The laws' helpers for Ring, over trees of data. -/
namespace Go.Proofs.Ytnkjmgadnejdlad
open Go.RowKit Go.Fk
theorem inv_Ring {w : World} {S : Nat → Prop} {us : List Value} (n0 : Nat) (x0 : Nat → CD) (z1 : Int) (h : LayL w S (([(.sl 1 n0 x0), (.int .i64 z1)] : List CD).map CD.cp) us) : ∃ u0 : Value, u0.oneCell' = true ∧ us = [u0, .int .i64 z1] ∧ LayL w S (([(.sl 1 n0 x0), (.int .i64 z1)] : List CD).map CD.cp) [u0, .int .i64 z1] := by
  have h0 := h
  simp only [List.map_cons, List.map_nil] at h
  obtain ⟨u0, us0, _, _, rfl, l0, hh0, _, _, _⟩ := h.inv
  obtain ⟨u1, us1, _, _, rfl, l1, hh1, _, _, _⟩ := hh0.inv
  obtain ⟨rfl, _⟩ := l1
  obtain rfl := hh1.inv0
  exact ⟨u0, l0.one, rfl, h0⟩
end Go.Proofs.Ytnkjmgadnejdlad

/- The laws' helpers for []Ring, over trees of data. -/
namespace Go.Proofs.Ytnkjmgadnejdlad
open Go.RowKit Go.Fk
theorem sz_elRing (x : Nat → CD) (k : Nat) : sumTo (fun i => (x i).sz) ((k + 1) * 2) = sumTo (fun i => (x i).sz) (k * 2) + szL ((List.range 2).map (fun j => x (k * 2 + j))) := by
  rw [Nat.succ_mul, sumTo_add]; (simp [szL, sumTo, List.range_succ, List.sum_append]) <;> omega
theorem sz_atRing {n : Nat} (x : Nat → CD) (k : Nat) (hk : k < n) : sumTo (fun i => (x i).sz) (k * 2) + szL ((List.range 2).map (fun j => x (k * 2 + j))) ≤ sumTo (fun i => (x i).sz) (n * 2) := by
  rw [← sz_elRing]; exact sumTo_le _ (Nat.mul_le_mul_right _ hk)
end Go.Proofs.Ytnkjmgadnejdlad

/- The laws' helpers for Pipe, over trees of data. -/
namespace Go.Proofs.Ytnkjmgadnejdlad
open Go.RowKit Go.Fk
end Go.Proofs.Ytnkjmgadnejdlad

/- What pipes ask of their lists: 'l04All', 'l04Rings'; 'areScatters', 'isFiniteRing', 'areSections'. -/
namespace Go.Fk
open Go Go.RowKit
/-- Two lists of sections. -/
def secOk (x y : Nat → CD) (k : Nat) : Bool := rgOk x k && rgOk y k && (rgN x k == rgN y k)
theorem withinB_can {y x l g : Nat} (h : can .f32 y = x) : withinB y l g = withinB x l g := by
  unfold withinB; rw [← h, order_can_l, order_can_l]
def scB (x : Nat → Nat) (n : Nat) : Bool := allB (fun i => withinB (x i) 3212836864 1065353216) n
end Go.Fk
namespace Go.Proofs.Ytnkjmgadnejdlad
open Go.RowKit Go.Fk
end Go.Proofs.Ytnkjmgadnejdlad

/- Pieces for bows and jets: guarded loads of structs in drawn regions; pairs of rings and of numbers. Nothing here names a program. -/
namespace Go.Fk
open Go Go.RowKit
section
variable {P : Program} {ops : Array Oper} {W : World} {K : FuncId → Array Value → World → Value → Prop} {Q : Act → World → Prop} {F : Facts} {k : Nat} {o : Oper} {rest : List Oper} {a : Act}
theorem wpFreeD_loadGW {w0 w1 : World} {L : List Fact} {n : Nat} (hF : Frg w0 w1 L) (hW : W = w1.drewN n) (hw : Region.wanted o (yielded ops a.tmps) = true) {ty : TypeId} {x : Operand} (hop : o.op = .load ty x) {g : Nat} (hx : a.eval x = .pointer (some ⟨g, 0, none⟩)) {t : TypeId} {cs : Array Value} {d : TypeDesc}
    (hm : rowF g t cs ∈ L) (hu : P.underlying ty = some d) (hd : (match d with | .struct _ | .array _ _ => true | _ => false) = true) {m : Nat} (hi : (P.info? ty).map (·.size) = some m) (hs : cs.size = m)
    (h : wpFreeD leX P ops .any W K Q rest (k + 1) (a.put o.dst (.agg cs)) (F.with k (fun _ => True))) : wpFreeD leX P ops .any W K Q (o :: rest) k a F := by
  subst hW hs
  refine wpFreeD_oneW hw (.agg cs) (fun w hw => ?_) h
  have := run_loadVar_row (P := P) w g t ty cs (0, 0) _ (((hF.row hm).drewN n).le hw) hu hd hi
  simp [execOp, hop, hx, Instr.loadAt, Instr.sureAddr, this, Result.andThen]
theorem wpFreeD_indexWG {E : Ext} (hw : Region.wanted o (yielded ops a.tmps) = true) {t : TypeId} {x y : Operand} (hop : o.op = .indexAddr t x y) {b off n cap sz i : Nat} {kk : IntKind} {e : TypeId} (hx : a.eval x = .slice (some ⟨b, off, none⟩) n cap) (hy : a.eval y = .int kk (i : Int)) (hu : P.underlying t = some (.slice e)) (hs : (P.info? e).map (·.size) = some sz) (hi : i < n)
    (h : wpFreeD E P ops .any W K Q rest (k + 1) (a.put o.dst (.pointer (some ⟨b, off + i * sz, none⟩))) (F.with k (fun _ => True))) : wpFreeD E P ops .any W K Q (o :: rest) k a F := by
  refine wpFreeD_oneW hw (.pointer (some ⟨b, off + i * sz, none⟩)) (fun w _ => ?_) h
  cases hq : P.info? e with
  | none => simp [hq] at hs
  | some inf =>
    have hz : inf.size = sz := by simpa [hq] using hs
    have h2 : (i : Int) < (n : Int) := by omega
    simp [execOp, hop, hx, hy, Instr.indexAt, asIntOf, run_underlying hu, sizeOf, typeInfo, hq, hz, h2, hi, Result.andThen, add_none]
end
theorem Row.at_part {w : World} {g : Nat} {t : TypeId} {cs : Array Value} (R : Row w g t cs) {f : Nat} {ds : List Value} (hp : ∀ j, j < ds.length → cs[f + j]? = ds[j]?) : ∀ (j : Nat) (v : Value), ds[j]? = some v → w.cell? ((⟨g, f, none⟩ : Addr).add j) = some v := fun j v hv => by
  rw [add_none, R.cell?, hp j (List.getElem?_eq_some_iff.1 hv).1, hv]
theorem CD.RdN.mono {w : World} {B B' : Nat} (hB : B ≤ B') : ∀ {c : CD} {v : Value}, c.RdN w B v → c.RdN w B' v := by
  intro c
  induction c with
  | sl wd n x ih =>
    intro v h
    rcases h with h | ⟨b, o, cap, h1, h2, h3, h4⟩
    · exact .inl h
    · exact .inr ⟨b, o, cap, h1, h2, h3, fun i hi => by obtain ⟨h5, u, h6, h7⟩ := h4 i hi; exact ⟨by omega, u, h6, ih i h7⟩⟩
  | _ => intro v h; exact h
theorem bool_ft (b : Bool) : b = false ∨ b = true := by cases b <;> simp
/-- A slice of floats, as a tree. -/
def slT (x : Nat → Nat) (n : Nat) : CD := .sl 1 n (fun i => .fcn .f32 (x i))
theorem slT_rds {x : Nat → Nat} {n B : Nat} {w : World} {s : Value} (h : (slT x n).RdN w B s) : RdS w B s x n := h.rd.rds
theorem CD.RdN.congr {w : World} {B : Nat} : ∀ {c d : CD} {v : Value}, c.RdN w B v → c.Eqv d → d.RdN w B v := by
  intro c
  induction c with
  | sl wd n x ih =>
    intro d v h he
    obtain ⟨y, rfl, hy⟩ := he
    rcases h with h | ⟨b, o, cap, h1, h2, h3, h4⟩
    · exact .inl h
    · exact .inr ⟨b, o, cap, h1, h2, h3, fun i hi => by obtain ⟨h5, u, h6, h7⟩ := h4 i hi; exact ⟨h5, u, h6, ih i h7 (hy i hi)⟩⟩
  | _ => intro d v h he; cases he; exact h
/-- A copy of a slice of floats. -/
theorem slT_cp {n : Nat} {x : Nat → CD} (h : ∀ i, i < n → (x i).flk = some .f32) : (CD.sl 1 n x).cp.Eqv (slT (fun i => (x i).fx) n) :=
  ⟨_, rfl, fun i hi => by show (x i).cn.Eqv (.fcn .f32 (x i).fx); rw [CD.cn_fl (h i (by simpa using hi))]; exact CD.Eqv.refl _⟩
/-- Two rings. -/
def rg2 (x y : Nat → Nat) (nx ny : Nat) (j k : Int) : Nat → CD
  | 0 => slT x nx
  | 1 => .int .i64 j
  | 2 => slT y ny
  | _ => .int .i64 k
theorem rg2_ok (x y : Nat → Nat) (nx ny : Nat) (j k : Int) : RgsOk (rg2 x y nx ny j k) 2 := fun i hi => by
  match i, hi with
  | 0, _ => exact ⟨⟨_, rfl, fun _ _ => rfl, rfl⟩, rfl⟩
  | 1, _ => exact ⟨⟨_, rfl, fun _ _ => rfl, rfl⟩, rfl⟩
def rngB (x : Nat → Nat) (n : Nat) (j : Int) : Bool := okRing n j && finB x n
theorem rg2_all (x y : Nat → Nat) (nx ny : Nat) (j k : Int) : allB (rgOk (rg2 x y nx ny j k)) 2 = (rngB x nx j && rngB y ny k) := by
  simp [allB, List.range_succ]; rfl
theorem rg2_rd {x y : Nat → Nat} {nx ny B b : Nat} {j k : Int} {w : World} {s t : Value} {ty : TypeId} (hs : (slT x nx).RdN w B s) (ht : (slT y ny).RdN w B t) (wj : (Lit.int .i64 j).wf = true) (wk : (Lit.int .i64 k).wf = true) (R : Row w b ty #[s, .int .i64 j, t, .int .i64 k]) :
    (CD.sl 2 2 (rg2 x y nx ny j k)).RdN w (max B (b + 1)) (.slice (some ⟨b, 0, none⟩) 2 2) := by
  refine .inr ⟨b, 0, 2, rfl, Nat.le_refl _, by decide, fun i hi => ⟨by omega, ?_⟩⟩
  match i, hi with
  | 0, _ => exact ⟨s, R.cell? 0, hs.mono (by omega)⟩
  | 1, _ => exact ⟨_, R.cell? 1, rfl, wj⟩
  | 2, _ => exact ⟨t, R.cell? 2, ht.mono (by omega)⟩
  | 3, _ => exact ⟨_, R.cell? 3, rfl, wk⟩
/-- Two numbers. -/
def two (m o : Nat) : Nat → Nat := fun i => match i with | 0 => can .f32 m | _ => can .f32 o
theorem fin_two (m o : Nat) : finB (two m o) 2 = (fin m && fin o) := by
  have e : ∀ z, fin (can .f32 z) = fin z := fun z => fin_can (can_can _ _)
  simp [finB, two, List.range_succ, e]
theorem two_rd {m o b : Nat} {w : World} {ty : TypeId} (hm : fits .f32 m) (ho : fits .f32 o) (R : Row w b ty #[.float .f32 m, .float .f32 o]) : RdS w (b + 1) (.slice (some ⟨b, 0, none⟩) 2 2) (two m o) 2 :=
  .inr ⟨⟨b, 0, none⟩, 2, rfl, Nat.le_refl _, by decide, fun i hi => ⟨Nat.lt_succ_self _, by rw [add_none, Nat.zero_add]; match i, hi with
    | 0, _ => exact ⟨m, R.cell? 0, hm, rfl⟩
    | 1, _ => exact ⟨o, R.cell? 1, ho, rfl⟩⟩⟩
/-- A new row that is known. -/
def OutSl (t : TypeId) (n : Nat) (cs : Array Value) (w : World) (e : Ending) (w' : World) : Prop := ∃ g, e = .returned (.slice (some ⟨g, 0, none⟩) n n) ∧ w.heap.size ≤ g ∧ Row w' g t cs ∧ le w w'
theorem Frg.rowS {w0 w w' : World} {L : List Fact} (h : Frg w0 w L) (k : Below w.heap.size w w') {g : Nat} {t : TypeId} {cs : Array Value} (hg : w.heap.size ≤ g) (hr : Row w' g t cs) : Frg w0 w' (rowF g t cs :: L) :=
  h.push k hr hg hr.lt
end Go.Fk

/- Events: the closure that compares two, and slices.IsSortedFunc with it. -/
namespace Go.Fk
open Go Go.RowKit
theorem keyE_form (a k n s : Int) : ∃ p q r t : Int, keyE a k n s = [p, q, r, t] := by
  unfold keyE; split
  · exact ⟨_, _, _, _, rfl⟩
  · split <;> exact ⟨_, _, _, _, rfl⟩
section
variable {P : Program} {ops : Array Oper} {W : World} {K : FuncId → Array Value → Nat → World → Value → Prop} {Q : Act → World → Prop} {F : FactsZ} {k : Nat} {o : Oper} {rest : List Oper} {a : Act}
/-- The address of an element of an array behind a pointer. -/
theorem run_indexArr {t : TypeId} {x y : Operand} (hop : o.op = .indexAddr t x y) {g n i : Nat} {kk : IntKind} {e : TypeId} (hx : a.eval x = .pointer (some ⟨g, 0, none⟩)) (hy : a.eval y = .int kk (i : Int)) (hu : P.underlying t = some (.array n e)) (hs : (P.info? e).map (·.size) = some 1) (hi : i < n) (w : World) : (execOp a.eval o).run P w = .ok (.value (.pointer (some ⟨g, i, none⟩))) w := by
  cases hq : P.info? e with
  | none => simp [hq] at hs
  | some inf =>
    have hz : inf.size = 1 := by simpa [hq] using hs
    have h2 : (i : Int) < (n : Int) := by omega
    simp [execOp, hop, hx, hy, Instr.indexAt, asIntOf, run_underlying hu, sizeOf, typeInfo, hq, hz, h2, hi, Result.andThen, add_none, Instr.sureAddr]
/-- A block is made. -/
theorem wpFreeZ_alloc (hg : o.guard = none) {ty : TypeId} (hop : o.op = .alloc ty) (cs : Array Value) (hr : ∀ w, (Instr.alloc ty true (.tuple #[])).run P w = .ok (.pointer (some ⟨w.heap.size, 0, none⟩)) (w.alloc (.cells cs ty)))
    (h : ∀ b, wpFreeZ leX P ops .any W K Q rest (k + 1) (a.put o.dst (.pointer (some ⟨b, 0, none⟩))) (F.with k (fun z w => b = z ∧ W.heap.size ≤ z ∧ Row w z ty cs))) : wpFreeZ leX P ops .any W K Q (o :: rest) k a F := by
  refine ⟨fun z w u => u = .pointer (some ⟨z, 0, none⟩) ∧ W.heap.size ≤ z ∧ Row w z ty cs, ⟨fun z v w w' hw hv => ⟨hv.1, hv.2.1, hv.2.2.le hw⟩, .inl ⟨by simp [Region.wanted, hg], fun w hw _ => ?_⟩⟩, fun u hu => ?_⟩
  · have : (execOp a.eval o).run P w = .ok (.value (.pointer (some ⟨w.heap.size, 0, none⟩))) (w.alloc (.cells cs ty)) := by
      simp [execOp, hop, hr, Result.andThen, inside]
    rw [this]
    exact ⟨le_alloc w _, rfl, hw.size, Row.new w ty cs⟩
  · obtain ⟨z, w, _, rfl, _⟩ := hu.has
    exact wpFreeZ_weaken _ _ _ _ _ (fun e z' w h => ⟨h.1, fun he => ⟨by have := (h.2 he).1; simpa using this, (h.2 he).2⟩⟩) (h z)
end
/-- What 'order' makes of its arguments. -/
def keyA (args : Array Value) : Value := match args.toList with
  | [.agg cs, .int _ s] => (match cs.toList with | [.int _ a, .int _ k, .int _ n, _, _, _] => .agg (intsV (keyE a k n s)).toArray | _ => .bool false)
  | _ => .bool false
end Go.Fk
namespace Go.Proofs.Ytnkjmgadnejdlad
open Go.RowKit Go.Fk
set_option maxRecDepth 100000 in
set_option maxHeartbeats 4000000 in
theorem i_comparer (a k i y a' k' i' y' : Int) (n n' f f' bx : Nat) (s s' : Int) (cs : Array Value) (w : World) (R : Row w bx 78 cs) (hn : n < 64) (hn' : n' < 64) (hs : cs[n]? = some (.int .i64 s)) (hs' : cs[n']? = some (.int .i64 s')) :
    Calls Try.prog 70 #[.agg (evL a k n i y f).toArray, .agg (evL a' k' n' i' y' f').toArray, .pointer (some ⟨bx, 0, none⟩)] w fun e w' => e = .returned (.int .i64 (cmL (keyE a k n s) (keyE a' k' n' s'))) ∧ le w w' := by
  obtain ⟨p0, p1, p2, p3, hp⟩ := keyE_form a k n s
  obtain ⟨q0, q1, q2, q3, hq⟩ := keyE_form a' k' n' s'
  have HO := hid (fun (w' : World) => show Calls Try.prog 71 #[.agg #[.int .i64 a, .int .i64 k, .int .i64 (n : Int), .int .i64 i, .int .i64 y, .float .f32 f], .int .i64 s] w' _ from i_order a k n i y s f w')
  have HO' := hid (fun (w' : World) => show Calls Try.prog 71 #[.agg #[.int .i64 a', .int .i64 k', .int .i64 (n' : Int), .int .i64 i', .int .i64 y', .float .f32 f'], .int .i64 s'] w' _ from i_order a' k' n' i' y' s' f' w')
  have KP := hid (show keyA #[.agg #[.int .i64 a, .int .i64 k, .int .i64 (n : Int), .int .i64 i, .int .i64 y, .float .f32 f], .int .i64 s] = .agg #[.int .i64 p0, .int .i64 p1, .int .i64 p2, .int .i64 p3] from (congrArg (fun l => Value.agg (intsV l).toArray) hp).trans rfl)
  have KQ := hid (show keyA #[.agg #[.int .i64 a', .int .i64 k', .int .i64 (n' : Int), .int .i64 i', .int .i64 y', .float .f32 f'], .int .i64 s'] = .agg #[.int .i64 q0, .int .i64 q1, .int .i64 q2, .int .i64 q3] from (congrArg (fun l => Value.agg (intsV l).toArray) hq).trans rfl)
  rw [hp, hq]
  have hP := hid hp
  have hQ := hid hq
  have CX := hid (fun (w' : World) (hl : le w w') => show w'.cell? ⟨bx, n, none⟩ = some (.int .i64 s) by rw [(R.le hl).cell?, hs])
  have CX' := hid (fun (w' : World) (hl : le w w') => show w'.cell? ⟨bx, n', none⟩ = some (.int .i64 s') by rw [(R.le hl).cell?, hs'])
  clear R hs hs' hp hq
  unfold evL
  have hi : (n : Int) < 64 := by omega
  have hi' : (n' : Int) < 64 := by omega
  have F := ((Frg.nil w).box 61 #[.int .i64 a, .int .i64 k, .int .i64 (n : Int), .int .i64 i, .int .i64 y, .float .f32 f]).box 61 #[.int .i64 a', .int .i64 k', .int .i64 (n' : Int), .int .i64 i', .int .i64 y', .float .f32 f']
  simp only [World.size_alloc] at F
  go_enter Try.func70, Try.ntmps70
  go_wp2_with fail
  have G := F.drewN 1
  refine region_tailZ (E := leX) (fun _ args _ _ v => v = keyA args) 14 (by kernel_rfl) (by kernel_rfl) ?_
  simp only [List.take_succ_cons, List.take_zero, List.drop_succ_cons, List.drop_zero]
  refine wpFreeZ_loadW rfl rfl rfl [.int .i64 a, .int .i64 k, .int .i64 (n : Int), .int .i64 i, .int .i64 y, .float .f32 f] (fun w1 h1 => Row.at_part (f := 0) ((G.row m1).le h1) (fun j hj => by rw [Nat.zero_add]; simp)) Try.underlying61 rfl uinfoEventI rfl ?_
  simp only [Act.put, List.setIfInBounds_toArray, List.set_cons_succ, List.set_cons_zero]
  refine wpFreeZ_one rfl (.pointer (some ⟨w.heap.size, 2, none⟩)) (fun w1 _ => by kernel_rfl) ?_
  simp only [Act.put, List.setIfInBounds_toArray, List.set_cons_succ, List.set_cons_zero]
  refine wpFreeZ_load1 rfl rfl rfl (p := ⟨w.heap.size, 2, none⟩) (v := .int .i64 (n : Int)) (fun w1 h1 => ((G.row m1).le h1).cell? 2) ukindInt64 ?_
  simp only [Act.put, List.setIfInBounds_toArray, List.set_cons_succ, List.set_cons_zero]
  refine wpFreeZ_one rfl (.pointer (some ⟨bx, n, none⟩)) (fun w1 _ => run_indexArr rfl rfl rfl Try.underlying78 uinfo1Int64 (by assumption) w1) ?_
  simp only [Act.put, List.setIfInBounds_toArray, List.set_cons_succ, List.set_cons_zero]
  refine wpFreeZ_load1 rfl rfl rfl (p := ⟨bx, n, none⟩) (fun w1 h1 => CX.out w1 (le_trans G.below h1)) ukindInt64 ?_
  simp only [Act.put, List.setIfInBounds_toArray, List.set_cons_succ, List.set_cons_zero]
  refine wpFreeZ_callW (by kernel_rfl) rfl Try.func71 (by kernel_rfl) (by kernel_rfl) (args := #[.agg #[.int .i64 a, .int .i64 k, .int .i64 (n : Int), .int .i64 i, .int .i64 y, .float .f32 f], .int .i64 s]) (by simp [Act.eval]) (fun z v w1 w2 hw hv => hv) (fun wc hw1 hbe => ?_) ?_
  · refine (HO.out wc).mono ?_
    rintro e w2 ⟨rfl, hl⟩
    exact ⟨_, rfl, hl, rfl⟩
  rintro v1 ⟨z, wv, _, hv⟩
  replace hv : v1 = keyA #[.agg #[.int .i64 a, .int .i64 k, .int .i64 (n : Int), .int .i64 i, .int .i64 y, .float .f32 f], .int .i64 s] := hv
  rw [KP.out] at hv
  subst hv
  simp only [Act.put, List.setIfInBounds_toArray, List.set_cons_succ, List.set_cons_zero]
  refine wpFreeZ_loadW rfl rfl rfl [.int .i64 a', .int .i64 k', .int .i64 (n' : Int), .int .i64 i', .int .i64 y', .float .f32 f'] (fun w1 h1 => Row.at_part (f := 0) ((G.row m0).le h1) (fun j hj => by rw [Nat.zero_add]; simp)) Try.underlying61 rfl uinfoEventI rfl ?_
  simp only [Act.put, List.setIfInBounds_toArray, List.set_cons_succ, List.set_cons_zero]
  refine wpFreeZ_one rfl (.pointer (some ⟨w.heap.size + 1, 2, none⟩)) (fun w1 _ => by kernel_rfl) ?_
  simp only [Act.put, List.setIfInBounds_toArray, List.set_cons_succ, List.set_cons_zero]
  refine wpFreeZ_load1 rfl rfl rfl (p := ⟨w.heap.size + 1, 2, none⟩) (v := .int .i64 (n' : Int)) (fun w1 h1 => ((G.row m0).le h1).cell? 2) ukindInt64 ?_
  simp only [Act.put, List.setIfInBounds_toArray, List.set_cons_succ, List.set_cons_zero]
  refine wpFreeZ_one rfl (.pointer (some ⟨bx, n', none⟩)) (fun w1 _ => run_indexArr rfl rfl rfl Try.underlying78 uinfo1Int64 (by assumption) w1) ?_
  simp only [Act.put, List.setIfInBounds_toArray, List.set_cons_succ, List.set_cons_zero]
  refine wpFreeZ_load1 rfl rfl rfl (p := ⟨bx, n', none⟩) (fun w1 h1 => CX'.out w1 (le_trans G.below h1)) ukindInt64 ?_
  simp only [Act.put, List.setIfInBounds_toArray, List.set_cons_succ, List.set_cons_zero]
  refine wpFreeZ_callW (by kernel_rfl) rfl Try.func71 (by kernel_rfl) (by kernel_rfl) (args := #[.agg #[.int .i64 a', .int .i64 k', .int .i64 (n' : Int), .int .i64 i', .int .i64 y', .float .f32 f'], .int .i64 s']) (by simp [Act.eval]) (fun z v w1 w2 hw hv => hv) (fun wc hw1 hbe => ?_) ?_
  · refine (HO'.out wc).mono ?_
    rintro e w2 ⟨rfl, hl⟩
    exact ⟨_, rfl, hl, rfl⟩
  rintro v2 ⟨z, wv, _, hv⟩
  replace hv : v2 = keyA #[.agg #[.int .i64 a', .int .i64 k', .int .i64 (n' : Int), .int .i64 i', .int .i64 y', .float .f32 f'], .int .i64 s'] := hv
  rw [KQ.out] at hv
  subst hv
  simp only [Act.put, List.setIfInBounds_toArray, List.set_cons_succ, List.set_cons_zero]
  refine wpFreeZ_alloc rfl rfl #[.int .i64 0, .int .i64 0, .int .i64 0, .int .i64 0] (fun w => by go_simp) (fun b6 => ?_)
  simp only [Act.put, List.setIfInBounds_toArray, List.set_cons_succ, List.set_cons_zero]
  refine wpFreeZ_alloc rfl rfl #[.int .i64 0, .int .i64 0, .int .i64 0, .int .i64 0] (fun w => by go_simp) (fun b7 => ?_)
  simp only [Act.put, List.setIfInBounds_toArray, List.set_cons_succ, List.set_cons_zero]
  refine wpFreeZ_nil (fun w3 zs hw3 hF hc => ?_)
  obtain ⟨e6, l6, r6⟩ := (hF 12).1.2 rfl
  obtain ⟨e7, l7, r7⟩ := (hF 13).2 rfl
  have hne : b6 ≠ b7 := by
    rcases hc 12 13 (by decide) with ⟨wx, _, _, hz, hf⟩ | ⟨wx, _, _, hz, hf⟩
    · have h6 := (hf.1.2 rfl).2.2.lt
      omega
    · have h7 := (hf.2 rfl).2.2.lt
      omega
  rw [← e6] at l6 r6
  rw [← e7] at l7 r7
  have hb : w.heap.size ≤ (F.below.size |> fun _ => w.heap.size) := Nat.le_refl _
  have L3 : le w w3 := le_trans G.below hw3
  have g6 : w.heap.size ≤ b6 := Nat.le_trans G.below.size l6
  have g7 : w.heap.size ≤ b7 := Nat.le_trans G.below.size l7
  clear hF hc e6 e7 hw3 l6 l7 F G hb
  show wpList _ _ _ _ _ _
  refine wpList_storeD rfl rfl rfl (cells := #[.int .i64 p0, .int .i64 p1, .int .i64 p2, .int .i64 p3]) rfl r6 infoA4 rfl (by simp [Value.oneCell']) (fun w4 K6 => ?_)
  simp only [Act.put, List.setIfInBounds_toArray, List.set_cons_succ, List.set_cons_zero]
  refine wpList_storeD rfl rfl rfl (cells := #[.int .i64 q0, .int .i64 q1, .int .i64 q2, .int .i64 q3]) rfl (K6.other _ _ _ (fun h => hne h.symm) r7) infoA4 rfl (by simp [Value.oneCell']) (fun w5 K7 => ?_)
  have R6 := hid (K7.other _ _ _ hne K6.row)
  have R7 := hid K7.row
  have L5 := hid (K7.below _ _ (K6.below _ _ L3 g6) g7)
  clear K6 K7 r6 r7 L3 g6 g7 hne
  go_wp2_with fail
  refine region_freeD (E := leX) (fun _ _ _ v => v = .int .i64 (cmL [p0, p1, p2, p3] [q0, q1, q2, q3])) (by kernel_rfl) (by kernel_rfl) ?_
  refine wpFreeD_one rfl (.slice (some ⟨b6, 0, none⟩) 4 4) (fun w1 _ => by kernel_rfl) ?_
  simp only [Act.put, List.setIfInBounds_toArray, List.set_cons_succ, List.set_cons_zero]
  refine wpFreeD_one rfl (.slice (some ⟨b7, 0, none⟩) 4 4) (fun w1 _ => by kernel_rfl) ?_
  simp only [Act.put, List.setIfInBounds_toArray, List.set_cons_succ, List.set_cons_zero]
  refine wpFreeD_callB rfl rfl Try.func72 (by kernel_rfl) (by kernel_rfl) (args := #[.slice (some ⟨b6, 0, none⟩) 4 4, .slice (some ⟨b7, 0, none⟩) 4 4]) (by simp [Act.eval]) (fun v w1 w2 hw hv => hv) (fun w1 hw1 _ => (i_CompareI p0 p1 p2 p3 q0 q1 q2 q3 b6 b7 w1 (R6.out.le (le_trans (le_drewN _ _) hw1)) (R7.out.le (le_trans (le_drewN _ _) hw1))).mono ?_) ?_
  · rintro e w2 ⟨rfl, rfl⟩
    exact ⟨_, rfl, le_refl _, rfl⟩
  rintro v ⟨_, _, _, rfl⟩
  simp only [Act.put, List.setIfInBounds_toArray, List.set_cons_succ, List.set_cons_zero]
  refine wpFreeD_one rfl (.int .i64 (cmL [p0, p1, p2, p3] [q0, q1, q2, q3])) (fun w1 _ => by kernel_rfl) ?_
  simp only [Act.put, List.setIfInBounds_toArray, List.set_cons_succ, List.set_cons_zero]
  refine wpFreeD_nil (fun wR hwR _ => ?_)
  have L6 := hid (le_trans L5.out (le_trans (le_drewN _ _) hwR))
  clear hwR
  go_wp2
  go_ret
  exact ⟨rfl, L6.out⟩
end Go.Proofs.Ytnkjmgadnejdlad

/- Events: 'comparerOf', and slices.IsSortedFunc with its closure. -/
namespace Go.Fk
open Go Go.RowKit
section
variable {P : Program} {w : World} {ops : Array Oper} {rest : List Oper} {o : Oper} {a : Act} {Q : Exit → Act → World → Prop}
theorem wpList_indexAP (hg : o.guard = none) {t : TypeId} {x y : Operand} (hop : o.op = .indexAddr t x y) {g n i : Nat} {kk : IntKind} {e : TypeId} (hx : a.eval x = .pointer (some ⟨g, 0, none⟩)) (hy : a.eval y = .int kk (i : Int)) (hu : P.underlying t = some (.array n e)) (hs : (P.info? e).map (·.size) = some 1) (hi : i < n)
    (h : wpList P ops Q rest (a.put o.dst (.pointer (some ⟨g, i, none⟩))) w) : wpList P ops Q (o :: rest) a w := by
  refine wpList_plain hg fun K hK' => ?_
  unfold Oper.wp
  rw [run_indexArr hop hx hy hu hs hi]
  exact hK' _ _ h
end
section
variable {E : Ext} {P : Program} {ops : Array Oper} {W : World} {K : FuncId → Array Value → World → Value → Prop} {Q : Act → World → Prop} {F : Facts} {k : Nat} {o : Oper} {rest : List Oper} {a : Act}
theorem run_enterV {x : Operand} {f : FuncId} {caps : Array Value} (hx : a.eval x = .func (.func f) #[] caps) {xs : Array Operand} {ts : Array TypeId} (hop : o.op = Op.call { callee := Callee.value x, args := xs, argTypes := ts }) {fn : Func} (hf : P.funcs[f]? = some fn)
    (hb : fn.body.isNone = false) (hn : (fn.name == "runtime.NumGoroutine") = false) {args : Array Value} (ha : xs.map a.eval ++ caps = args) (w : World) : (execOp a.eval o).run P w = .ok (.enter f args) w := by
  have hn' : fn.name ≠ "runtime.NumGoroutine" := by simpa using hn
  have hbn : ¬ fn.body = none := by intro e; rw [e] at hb; simp at hb
  simp [execOp, hop, hx, resolve, invoke, Deferred.ofValue, callFunc, hf, hn', hbn, ha, Result.andThen]
/-- A closure is called. -/
theorem wpFreeD_callV (hg : o.guard = none) {x : Operand} {f : FuncId} {caps : Array Value} (hx : a.eval x = .func (.func f) #[] caps) {xs : Array Operand} {ts : Array TypeId} (hop : o.op = Op.call { callee := Callee.value x, args := xs, argTypes := ts }) {fn : Func} (hf : P.funcs[f]? = some fn)
    (hb : fn.body.isNone = false) (hn : (fn.name == "runtime.NumGoroutine") = false) {args : Array Value} (ha : xs.map a.eval ++ caps = args) (hm : MonoT E (K f args))
    (h1 : ∀ w, E.R W w → behind .any o F w → Calls P f args w (fun e w' => ∃ v, e = .returned v ∧ le w w' ∧ K f args w' v)) (h2 : ∀ v, (∃ w, E.R W w ∧ (∀ e, F e w) ∧ K f args w v) → wpFreeD E P ops .any W K Q rest (k + 1) (a.put o.dst v) (F.with k (fun w => K f args w v))) : wpFreeD E P ops .any W K Q (o :: rest) k a F := by
  refine ⟨K f args, ⟨hm, .inl ⟨by simp [Region.wanted, hg], fun w hw hbe => ?_⟩⟩, fun v hv => h2 v hv⟩
  rw [run_enterV hx hop hf hb hn ha]
  refine ⟨E.refl w, (h1 w hw hbe).mono ?_, fun _ _ h => h⟩
  rintro e w' ⟨v, rfl, hl, hk⟩
  exact ⟨v, rfl, E.of_le hl, hk⟩
end
theorem saE_step {x : Nat → CD} {j v : Nat} (hk : evK x j = 2) (hv : evN x j = (v : Int)) : (fun q : Nat => if q = v then evA x j else saE x j (q : Int)) = fun q : Nat => saE x (j + 1) (q : Int) := by
  funext q
  simp only [saE, hk, hv, true_and]
  by_cases h : q = v
  · subst h; simp
  · rw [if_neg h, if_neg (by omega)]
theorem saE_skip {x : Nat → CD} {j : Nat} (hk : evK x j ≠ 2) : (fun q : Nat => saE x j (q : Int)) = fun q : Nat => saE x (j + 1) (q : Int) := by
  funext q
  simp only [saE]
  rw [if_neg (by simp [hk])]
end Go.Fk
namespace Go.Proofs.Ytnkjmgadnejdlad
open Go.RowKit Go.Fk
def z64 : Array Value := #[Value.int .i64 0, .int .i64 0, .int .i64 0, .int .i64 0, .int .i64 0, .int .i64 0, .int .i64 0, .int .i64 0, .int .i64 0, .int .i64 0, .int .i64 0, .int .i64 0, .int .i64 0, .int .i64 0, .int .i64 0, .int .i64 0, .int .i64 0, .int .i64 0, .int .i64 0, .int .i64 0, .int .i64 0, .int .i64 0, .int .i64 0, .int .i64 0, .int .i64 0, .int .i64 0, .int .i64 0, .int .i64 0, .int .i64 0, .int .i64 0, .int .i64 0, .int .i64 0, .int .i64 0, .int .i64 0, .int .i64 0, .int .i64 0, .int .i64 0, .int .i64 0, .int .i64 0, .int .i64 0, .int .i64 0, .int .i64 0, .int .i64 0, .int .i64 0, .int .i64 0, .int .i64 0, .int .i64 0, .int .i64 0, .int .i64 0, .int .i64 0, .int .i64 0, .int .i64 0, .int .i64 0, .int .i64 0, .int .i64 0, .int .i64 0, .int .i64 0, .int .i64 0, .int .i64 0, .int .i64 0, .int .i64 0, .int .i64 0, .int .i64 0, .int .i64 0]
theorem zero64 : z64 = itab .i64 (fun _ => 0) 64 := by kernel_rfl
set_option maxRecDepth 100000 in
set_option maxHeartbeats 4000000 in
theorem i_comparerOf (B : Nat) (s : Value) (x : Nat → CD) (n : Nat) (w : World) (hs : (CD.sl 6 n x).RdN w B s) (hx : EvsOk x n) (hN : ∀ j, j < n → 0 ≤ evN x j ∧ evN x j < 64) :
    Calls Try.prog 50 #[s] w fun e w' => ∃ bx, e = .returned (.func (.func 70) #[] #[.pointer (some ⟨bx, 0, none⟩)]) ∧ Row w' bx 78 (itab .i64 (fun q : Nat => saE x n (q : Int)) 64) ∧ le w w' := by
  have R0 : Row (w.alloc (.cells z64 78)) w.heap.size 78 (itab .i64 (fun q : Nat => saE x 0 (q : Int)) 64) := by
    have h := Row.new w 78 z64
    have e := zero64
    rw [show z64 = itab .i64 (fun q : Nat => saE x 0 (q : Int)) 64 from zero64] at h ⊢
    exact h
  unfold z64 at R0
  replace R0 := hid R0
  by_cases h0 : n = 0
  · subst h0
    rcases hs.form with ⟨rfl, _⟩ | ⟨b, o, cap, rfl, hc, hm⟩
    all_goals
      clear hs
      go_enter Try.func50, Try.ntmps50
      go_wp2
      go_loop [8] (fun i => i = .int .i64 0) (fun _ => 0)
      case atStart => rfl
      case round =>
        obtain rfl := hrel
        go_wp2
        go_ret
        exact ⟨_, rfl, R0.out, le_alloc _ _⟩
  rcases hs.form with ⟨_, e0⟩ | ⟨b, o, cap, rfl, hc, hm⟩
  · exact absurd e0 h0
  have HA := hid (fun k (hk : k < n) => hx.vals hs hk)
  have HN := hid hN
  unfold maxLen at hm
  clear hx hs h0 hN
  go_enter Try.func50, Try.ntmps50
  go_wp2
  go_loopw [8] (fun i wr => ∃ j : Nat, j ≤ n ∧ i = .int .i64 j ∧ Hid (Row wr w.heap.size 78 (itab .i64 (fun q : Nat => saE x j (q : Int)) 64)) ∧ Hid (le w wr)) (fun i _ => n - (intOf i).toNat)
  case atStart => exact ⟨0, by omega, rfl, R0.out, le_alloc _ _⟩
  case round =>
    clear R0
    obtain ⟨j, hj, rfl, HR, HL⟩ := hrel
    rename_i wr _
    by_cases hlt : j < n
    · obtain ⟨y, _, _, _, cu⟩ := HA.out j hlt
      obtain ⟨n1, n2⟩ := HN.out j hlt
      have CU := hid (fun (w' : World) (hl : le wr w') (q : Nat) (v : Value) (hv : [Value.int .i64 (evA x j), .int .i64 (evK x j), .int .i64 (evN x j), .int .i64 (evI x j), .int .i64 (evY x j), .float .f32 y][q]? = some v) => (Below.cell (le_trans HL.out hl) (cell_lt' (cu q v hv))).trans (cu q v hv))
      clear cu HA HN
      have ST := hid (show ∀ v : Nat, evK x j = 2 → evN x j = (v : Int) → (fun q : Nat => if q = v then evA x j else saE x j (q : Int)) = fun q : Nat => saE x (j + 1) (q : Int) from fun v => saE_step); have SK := hid (@saE_skip x j)
      obtain ⟨v, hv⟩ : ∃ v : Nat, evN x j = (v : Int) := ⟨(evN x j).toNat, by omega⟩
      generalize evN x j = N at *
      subst hv
      have hv64 : v < 64 := by omega
      clear n1 n2
      have F := Frg.nil wr
      by_cases hk : evK x j = 2
      · have SE := hid (ST.out v hk rfl)
        clear ST SK
        generalize evK x j = K0 at *
        subst hk
        go_wp2_with (first | ((with_reducible refine listN F ?_); clear F; intro wN F) | (with_reducible refine wpList_indexW0 rfl rfl rfl rfl Try.underlying34 uinfoEventI hlt ?_) | (with_reducible refine wpList_indexAP rfl rfl rfl rfl Try.underlying78 uinfo1Int64 hv64 ?_) | ((with_reducible refine at_load rfl ?_); first | (with_reducible refine wpList_loadW rfl rfl rfl [.int .i64 (evA x j), .int .i64 2, .int .i64 (v : Int), .int .i64 (evI x j), .int .i64 (evY x j), .float .f32 y] (CU.out _ F.below) Try.underlying61 rfl uinfoEventI rfl ?_) | (with_reducible refine wpList_load1C rfl (f := 0) rfl (v := .int .i64 _) (by kernel_rfl) (F.row m0) rfl ukindInt64 ?_) | (with_reducible refine wpList_load1C rfl (f := 1) rfl (v := .int .i64 _) (by kernel_rfl) (F.row m0) rfl ukindInt64 ?_) | (with_reducible refine wpList_load1C rfl (f := 2) rfl (v := .int .i64 _) (by kernel_rfl) (F.row m0) rfl ukindInt64 ?_)) | ((with_reducible refine at_store rfl ?_); first | (refine wpList_storeG F rfl rfl rfl rfl rfl uinfoEventI rfl (by (simp only [List.all_toArray', List.all_cons, List.all_nil, Bool.and_true, Bool.true_and]) <;> rfl) ?_; clear F; intro W F zW; clear zW) | (refine wpList_store1 rfl rfl (f := v) rfl rfl (HR.out.le F.below) uinfo1Int64 (by rw [size_itab]; exact hv64) rfl _ (set_itab _ _ _ _ _) ?_; intro w6 K6)))
        go_roundw
        case rel =>
          refine ⟨j + 1, by omega, by go_num, ?_, K6.below _ _ (le_trans HL.out F.below) (Nat.le_refl _)⟩
          have h := K6.row
          rwa [SE.out] at h
        case measure => simp [intOf]; omega
      · have SE := hid (SK.out hk)
        clear ST SK
        go_wp2_with (first | ((with_reducible refine listN F ?_); clear F; intro wN F) | (with_reducible refine wpList_indexW0 rfl rfl rfl rfl Try.underlying34 uinfoEventI hlt ?_) | ((with_reducible refine at_load rfl ?_); first | (with_reducible refine wpList_loadW rfl rfl rfl [.int .i64 (evA x j), .int .i64 (evK x j), .int .i64 (v : Int), .int .i64 (evI x j), .int .i64 (evY x j), .float .f32 y] (CU.out _ F.below) Try.underlying61 rfl uinfoEventI rfl ?_) | (with_reducible refine wpList_load1C rfl (f := 1) rfl (v := .int .i64 _) (by kernel_rfl) (F.row m0) rfl ukindInt64 ?_)) | ((with_reducible refine at_store rfl ?_); (refine wpList_storeG F rfl rfl rfl rfl rfl uinfoEventI rfl (by (simp only [List.all_toArray', List.all_cons, List.all_nil, Bool.and_true, Bool.true_and]) <;> rfl) ?_; clear F; intro W F zW; clear zW)))
        go_roundw
        case rel => exact ⟨j + 1, by omega, by go_num, SE.out ▸ HR.out.le F.below, le_trans HL.out F.below⟩
        case measure => simp [intOf]; omega
    · obtain rfl : j = n := by omega
      go_wp2
      go_ret
      exact ⟨_, rfl, HR.out, HL.out⟩
end Go.Proofs.Ytnkjmgadnejdlad

/- Events: slices.IsSortedFunc with the closure. -/
namespace Go.Fk
open Go Go.RowKit
def srtE (x : Nat → CD) (n q : Nat) : Bool := !ltL (keyJ x n (q + 1)) (keyJ x n q)
theorem srt_neg {x : Nat → CD} {n q : Nat} : decide (cmL (keyJ x n (q + 1)) (keyJ x n q) < 0) = !srtE x n q := by
  unfold srtE
  rw [Bool.not_not]
  have h := cmL_lt (s := keyJ x n (q + 1)) (t := keyJ x n q) ((keyE_len ..).trans (keyE_len ..).symm)
  rw [Bool.eq_iff_iff]
  simpa using h
end Go.Fk
namespace Go.Proofs.Ytnkjmgadnejdlad
open Go.RowKit Go.Fk
set_option maxRecDepth 100000 in
set_option maxHeartbeats 4000000 in
theorem i_IsSortedEv (B : Nat) (s : Value) (x : Nat → CD) (n bx : Nat) (w : World) (hs : (CD.sl 6 n x).RdN w B s) (hx : EvsOk x n) (hN : ∀ j, j < n → 0 ≤ evN x j ∧ evN x j < 64) (R : Row w bx 78 (itab .i64 (fun q : Nat => saE x n (q : Int)) 64)) :
    Calls Try.prog 49 #[s, .func (.func 70) #[] #[.pointer (some ⟨bx, 0, none⟩)]] w (Out_b (allB (srtE x n) (n - 1)) w) := by
  by_cases h0 : n = 0
  · subst h0
    rcases hs.form with ⟨rfl, _⟩ | ⟨b, o, cap, rfl, hc, hm⟩
    all_goals
      clear hs R
      go_enter Try.func49, Try.ntmps49
      go_wp2
      go_loop [5] (fun i => i = .int .i64 (-1)) (fun _ => 0)
      case atStart => rfl
      case round =>
        obtain rfl := hrel
        go_wp2
        go_ret
        exact ⟨rfl, le_refl _⟩
  rcases hs.form with ⟨_, e0⟩ | ⟨b, o, cap, rfl, hc, hm⟩
  · exact absurd e0 h0
  have HA := hid (fun k (hk : k < n) => hx.vals hs hk)
  have HN := hid hN
  have HR := hid R
  unfold maxLen at hm
  clear hx hs hN R
  go_enter Try.func49, Try.ntmps49
  go_wp2
  go_loopw [5] (fun i wr => ∃ j : Nat, j + 1 ≤ n ∧ i = .int .i64 j ∧ Hid (∀ q, j ≤ q → q < n - 1 → srtE x n q = true) ∧ Hid (le w wr)) (fun i _ => (intOf i).toNat)
  case atStart => exact ⟨n - 1, by omega, by rw [show ((n - 1 : Nat) : Int) = (n : Int) - 1 by omega], fun q h1 h2 => absurd h1 (by omega), le_refl _⟩
  case round =>
    obtain ⟨j, hj, rfl, HJ, HL⟩ := hrel
    rename_i wr _
    match j, hj with
    | 0, _ =>
      have HG := hid (show allB (srtE x n) (n - 1) = true from allB_yes (fun i hi => HJ.out i (Nat.zero_le _) hi))
      go_wp2
      go_ret
      exact ⟨ret_b HG.out.symm, HL.out⟩
    | j + 1, hj =>
      have hlt : j + 1 < n := by omega
      have hlt' : j < n := by omega
      obtain ⟨y, _, _, _, cu⟩ := HA.out (j + 1) hlt
      obtain ⟨y', _, _, _, cu'⟩ := HA.out j hlt'
      obtain ⟨n1, n2⟩ := HN.out (j + 1) hlt
      obtain ⟨n3, n4⟩ := HN.out j hlt'
      have CU := hid (fun (w' : World) (hl : le wr w') (q : Nat) (v : Value) (hv : [Value.int .i64 (evA x (j + 1)), .int .i64 (evK x (j + 1)), .int .i64 (evN x (j + 1)), .int .i64 (evI x (j + 1)), .int .i64 (evY x (j + 1)), .float .f32 y][q]? = some v) => (Below.cell (le_trans HL.out hl) (cell_lt' (cu q v hv))).trans (cu q v hv))
      have CU' := hid (fun (w' : World) (hl : le wr w') (q : Nat) (v : Value) (hv : [Value.int .i64 (evA x j), .int .i64 (evK x j), .int .i64 (evN x j), .int .i64 (evI x j), .int .i64 (evY x j), .float .f32 y'][q]? = some v) => (Below.cell (le_trans HL.out hl) (cell_lt' (cu' q v hv))).trans (cu' q v hv))
      have HC : Hid (∀ w', le wr w' → Calls Try.prog 70 #[.agg #[.int .i64 (evA x (j + 1)), .int .i64 (evK x (j + 1)), .int .i64 (evN x (j + 1)), .int .i64 (evI x (j + 1)), .int .i64 (evY x (j + 1)), .float .f32 y], .agg #[.int .i64 (evA x j), .int .i64 (evK x j), .int .i64 (evN x j), .int .i64 (evI x j), .int .i64 (evY x j), .float .f32 y'], .pointer (some ⟨bx, 0, none⟩)] w' fun e w'' => e = .returned (.int .i64 (cmL (keyJ x n (j + 1)) (keyJ x n j))) ∧ le w' w'') := fun w' hl => by
        obtain ⟨v, hv⟩ : ∃ v : Nat, evN x (j + 1) = (v : Int) := ⟨(evN x (j + 1)).toNat, by omega⟩
        obtain ⟨v', hv'⟩ : ∃ v : Nat, evN x j = (v : Int) := ⟨(evN x j).toNat, by omega⟩
        unfold keyJ
        rw [hv, hv']
        exact i_comparer _ _ _ _ _ _ _ _ v v' y y' bx _ _ _ w' (HR.out.le (le_trans HL.out hl)) (by omega) (by omega) (get_itab _ _ _ _ (by omega)) (get_itab _ _ _ _ (by omega))
      have SN := hid (@srt_neg x n j)
      clear cu cu' HA HN n1 n2 n3 n4 HR
      generalize hZ : cmL (keyJ x n (j + 1)) (keyJ x n j) = Z at *
      clear hZ
      go_wp2_with fail
      refine region_freeD (E := leX) (fun _ _ _ v => v = .int .i64 Z) (by kernel_rfl) (by kernel_rfl) ?_
      refine wpFreeD_one rfl (.func (.func 70) #[] #[.pointer (some ⟨bx, 0, none⟩)]) (fun w1 _ => by kernel_rfl) ?_
      simp only [Act.put, List.setIfInBounds_toArray, List.set_cons_succ, List.set_cons_zero]
      refine wpFreeD_one rfl (.slice (some ⟨b, o, none⟩) n cap) (fun w1 _ => by kernel_rfl) ?_
      simp only [Act.put, List.setIfInBounds_toArray, List.set_cons_succ, List.set_cons_zero]
      refine wpFreeD_one rfl (.int .i64 ((j + 1 : Nat) : Int)) (fun w1 _ => by kernel_rfl) ?_
      simp only [Act.put, List.setIfInBounds_toArray, List.set_cons_succ, List.set_cons_zero]
      refine wpFreeD_indexW0 rfl rfl rfl rfl Try.underlying34 uinfoEventI hlt ?_
      simp only [Act.put, List.setIfInBounds_toArray, List.set_cons_succ, List.set_cons_zero]
      refine wpFreeD_loadW rfl rfl rfl [.int .i64 (evA x (j + 1)), .int .i64 (evK x (j + 1)), .int .i64 (evN x (j + 1)), .int .i64 (evI x (j + 1)), .int .i64 (evY x (j + 1)), .float .f32 y] (fun w1 h1 => CU.out w1 (le_trans (le_drewN _ _) h1)) Try.underlying61 rfl uinfoEventI rfl ?_
      simp only [Act.put, List.setIfInBounds_toArray, List.set_cons_succ, List.set_cons_zero]
      refine wpFreeD_one rfl (.slice (some ⟨b, o, none⟩) n cap) (fun w1 _ => by kernel_rfl) ?_
      simp only [Act.put, List.setIfInBounds_toArray, List.set_cons_succ, List.set_cons_zero]
      refine wpFreeD_one rfl (.int .i64 ((j + 1 : Nat) : Int)) (fun w1 _ => by kernel_rfl) ?_
      simp only [Act.put, List.setIfInBounds_toArray, List.set_cons_succ, List.set_cons_zero]
      refine wpFreeD_quiet rfl ?_; go_big_quiet_step (fail); refine wpQuiet_nil ?_
      refine wpFreeD_indexW0 rfl rfl rfl rfl Try.underlying34 uinfoEventI hlt' ?_
      simp only [Act.put, List.setIfInBounds_toArray, List.set_cons_succ, List.set_cons_zero]
      refine wpFreeD_loadW rfl rfl rfl [.int .i64 (evA x j), .int .i64 (evK x j), .int .i64 (evN x j), .int .i64 (evI x j), .int .i64 (evY x j), .float .f32 y'] (fun w1 h1 => CU'.out w1 (le_trans (le_drewN _ _) h1)) Try.underlying61 rfl uinfoEventI rfl ?_
      simp only [Act.put, List.setIfInBounds_toArray, List.set_cons_succ, List.set_cons_zero]
      refine wpFreeD_callV rfl rfl rfl Try.func70 (by kernel_rfl) (by kernel_rfl) (args := #[.agg #[.int .i64 (evA x (j + 1)), .int .i64 (evK x (j + 1)), .int .i64 (evN x (j + 1)), .int .i64 (evI x (j + 1)), .int .i64 (evY x (j + 1)), .float .f32 y], .agg #[.int .i64 (evA x j), .int .i64 (evK x j), .int .i64 (evN x j), .int .i64 (evI x j), .int .i64 (evY x j), .float .f32 y'], .pointer (some ⟨bx, 0, none⟩)]) (by simp [Act.eval]) (fun v w1 w2 hw hv => hv) (fun w1 hw1 _ => (HC.out w1 (le_trans (le_drewN _ _) hw1)).mono ?_) ?_
      · rintro e w2 ⟨rfl, hl⟩
        exact ⟨_, rfl, hl, rfl⟩
      rintro v ⟨_, _, _, rfl⟩
      simp only [Act.put, List.setIfInBounds_toArray, List.set_cons_succ, List.set_cons_zero]
      refine wpFreeD_one rfl (.bool (decide (Z < 0))) (fun w1 _ => by kernel_rfl) ?_
      rw [SN.out]
      simp only [Act.put, List.setIfInBounds_toArray, List.set_cons_succ, List.set_cons_zero]
      refine wpFreeD_nil (fun wR hwR _ => ?_)
      have L1 := hid (le_trans HL.out (le_trans (le_drewN _ _) hwR))
      clear hwR HC CU CU' SN
      rcases bool_ft (srtE x n j) with h | h
      · have hb := hid h
        rw [h]
        clear h
        go_wp2
        go_ret
        exact ⟨ret_b (allB_no (by omega) hb.out).symm, L1.out⟩
      · have hb := hid h
        rw [h]
        clear h
        go_wp2
        go_roundw
        case rel => exact ⟨j, by omega, by go_num, fun q h1 h2 => by rcases Nat.lt_or_ge j q with h | h; exact HJ.out q h h2; rw [show q = j by omega]; exact hb.out, L1.out⟩
        case measure => simp [intOf]
end Go.Proofs.Ytnkjmgadnejdlad
