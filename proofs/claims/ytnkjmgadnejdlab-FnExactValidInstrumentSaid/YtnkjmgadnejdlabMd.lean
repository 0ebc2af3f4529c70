/- Texts of the walk, laid in one file. -/
import Derived.ArgAppend
import Derived.OwnWalk
import Derived.Great.BuildSlice
import Derived.LoopN
import Derived.Test.YtnkjmgadnejdlabMc
set_option linter.unusedVariables false
set_option linter.unusedSimpArgs false
/- What append leaves, as a fact of memory. Nothing here names a program. -/
namespace Go.Fk
open Go Go.RowKit
def flist (y : Nat → Nat) (n : Nat) : List Value := (List.range n).map (fun j => .float .f32 (y j))
theorem flist_length (y : Nat → Nat) (n : Nat) : (flist y n).length = n := by simp [flist]
theorem flist_get {y : Nat → Nat} {n j : Nat} {u : Value} (h : (flist y n)[j]? = some u) : j < n ∧ u = .float .f32 (y j) := by
  obtain ⟨hj, e⟩ := List.getElem?_eq_some_iff.1 h
  rw [flist_length] at hj
  refine ⟨hj, ?_⟩
  rw [← e]; simp [flist]
theorem flist_get' (y : Nat → Nat) {n j : Nat} (h : j < n) : (flist y n)[j]? = some (.float .f32 (y j)) := by simp [flist, h]
theorem flist_one (y : Nat → Nat) (n : Nat) : ∀ u ∈ flist y n, u.oneCell' = true := by
  intro u hu
  simp only [flist, List.mem_map] at hu
  obtain ⟨j, _, rfl⟩ := hu; rfl
theorem flist_app (y z : Nat → Nat) (n m : Nat) : flist y n ++ flist z m = flist (fun j => if j < n then y j else z (j - n)) (n + m) := by
  apply List.ext_getElem?
  intro j
  by_cases h : j < n
  · rw [List.getElem?_append_left (by rw [flist_length]; exact h), flist_get' _ h, flist_get' _ (by omega), if_pos h]
  · rw [List.getElem?_append_right (by rw [flist_length]; omega), flist_length]
    by_cases h2 : j < n + m
    · rw [flist_get' _ (by omega), flist_get' _ h2, if_neg h]
    · rw [List.getElem?_eq_none (by rw [flist_length]; omega), List.getElem?_eq_none (by rw [flist_length]; omega)]
theorem own_of_row {w : World} {base : Nat} {v : Value} {n : Nat} {y x : Nat → Nat} (h : w.ownsRow base 22 1 v n (flist y n)) (hf : ∀ j, j < n → fits .f32 (y j) ∧ can .f32 (y j) = x j) : OwnS w base w.heap.size v x n := by
  obtain ⟨_, h⟩ := h
  rcases h with h | ⟨g, cap, cur, rfl, hb, hg, h1, h2, h3, h4⟩
  · exact .inl h
  · refine .inr ⟨g, 0, cap, cur, rfl, h1, h2, hb, (Array.getElem?_eq_some_iff.1 hg).1, hg, fun i hi => ⟨y i, ?_, hf i hi⟩⟩
    have h5 : (cur.toList.take (n * 1))[i]? = some (.float .f32 (y i)) := by rw [h4]; exact flist_get' y hi
    rw [Nat.mul_one, List.getElem?_take_of_lt hi] at h5
    rw [Nat.zero_add]; simpa using h5
theorem OwnS.get {w : World} {lo hi q0 n cap : Nat} {x : Nat → Nat} (h : OwnS w lo hi (.slice (some ⟨q0, 0, none⟩) n cap) x n) {i : Nat} (hi' : i < n) : ∃ y, w.cell? ⟨q0, i, none⟩ = some (.float .f32 y) ∧ fits .f32 y ∧ can .f32 y = x i := by
  rcases h with ⟨h, _⟩ | ⟨b, o, cap', cs, h1, h2, h3, h4, h5, h6, h7⟩
  · cases h
  · simp only [Value.slice.injEq, Option.some.injEq, Addr.mk.injEq, and_true] at h1
    obtain ⟨⟨rfl, rfl⟩, _⟩ := h1
    obtain ⟨y, e1, e2⟩ := h7 i hi'
    exact ⟨y, by rw [Nat.zero_add] at e1; exact (h6.cell? i).trans e1, e2⟩
/-- What append has left, in one block of its own. -/
theorem own_tight {w : World} {base : Nat} {v : Value} {n : Nat} {y x : Nat → Nat} (h : w.ownsRow base 22 1 v n (flist y n)) (h1n : 1 ≤ n) (hf : ∀ j, j < n → fits .f32 (y j) ∧ can .f32 (y j) = x j) :
    ∃ q cap cs, v = .slice (some ⟨q, 0, none⟩) n cap ∧ base ≤ q ∧ Row w q 22 cs ∧ OwnS w q (q + 1) v x n := by
  obtain ⟨_, h⟩ := h
  rcases h with ⟨_, h0⟩ | ⟨g, cap, cur, rfl, hb, hg, h1, h2, h3, h4⟩
  · omega
  · refine ⟨g, cap, cur, rfl, hb, hg, .inr ⟨g, 0, cap, cur, rfl, h1, h2, Nat.le_refl _, Nat.lt_succ_self _, hg, fun i hi => ⟨y i, ?_, hf i hi⟩⟩⟩
    have h5 : (cur.toList.take (n * 1))[i]? = some (.float .f32 (y i)) := by rw [h4]; exact flist_get' y hi
    rw [Nat.mul_one, List.getElem?_take_of_lt hi] at h5
    rw [Nat.zero_add]; simpa using h5
theorem le_of_grown {w w' : World} (h : w.grownBy w' none) : le w w' := ⟨h.os, h.tape, h.output, h.size, fun k hk => h.block k hk (by simp)⟩
/-- The raw words of a slice that can be read. -/
theorem RdS.raw {w : World} {B : Nat} {v : Value} {x : Nat → Nat} {n : Nat} (h : RdS w B v x n) (hn : 1 ≤ n) : ∃ (a : Addr) (cap : Nat) (y : Nat → Nat), v = .slice (some a) n cap ∧ n ≤ cap ∧ cap ≤ maxLen ∧ ∀ i, i < n → w.cell? (a.add i) = some (.float .f32 (y i)) ∧ fits .f32 (y i) ∧ can .f32 (y i) = x i := by
  rcases h with ⟨_, rfl⟩ | ⟨a, cap, rfl, h2, h3, h4⟩
  · omega
  · have : ∀ i, ∃ y, i < n → w.cell? (a.add i) = some (.float .f32 y) ∧ fits .f32 y ∧ can .f32 y = x i := fun i => by
      by_cases hi : i < n
      · obtain ⟨_, y, e⟩ := h4 i hi; exact ⟨y, fun _ => e⟩
      · exact ⟨0, fun h => absurd h hi⟩
    obtain ⟨y, hy⟩ := Classical.skolem.1 this
    exact ⟨a, cap, y, rfl, h2, h3, hy⟩
/-- The result's block g, of n cells, is written once; new blocks are made. -/
def outX (g : Nat) (t : TypeId) (n : Nat) (Fin : World → Array Value → Prop) (hm : ∀ w w' cs, le w w' → Fin w cs → Fin w' cs) : Ext where
  R w w' := Chg (· = g) w w' ∧ ((∃ cs, Row w g t cs ∧ cs.size = n) → ∃ cs, Row w' g t cs ∧ cs.size = n) ∧ ((∃ cs, Row w g t cs ∧ Fin w cs) → ∃ cs, Row w' g t cs ∧ Fin w' cs)
  refl w := ⟨Chg.refl _ _, id, id⟩
  trans := fun ⟨h1, h2, h3⟩ ⟨k1, k2, k3⟩ => ⟨h1.trans k1, fun h => k2 (h2 h), fun h => k3 (h3 h)⟩
  of_le := fun h => ⟨Chg.of_le h, fun ⟨cs, hr, hs⟩ => ⟨cs, hr.le h, hs⟩, fun ⟨cs, hr, hf⟩ => ⟨cs, hr.le h, hm _ _ _ h hf⟩⟩
theorem OwnS.chgS {w w' : World} {lo hi : Nat} {s : Value} {x : Nat → Nat} {n : Nat} {S : Nat → Prop} (h : OwnS w lo hi s x n) (k : Chg S w w') (hS : ∀ i, lo ≤ i → i < hi → ¬ S i) : OwnS w' lo hi s x n := by
  rcases h with h | ⟨b, o, cap, cs, h1, h2, h3, h4, h5, h6, h7⟩
  · exact .inl h
  · exact .inr ⟨b, o, cap, cs, h1, h2, h3, h4, h5, k.row h6 (hS b h4 h5), h7⟩
section
variable {P : Program} {ops : Array Oper} {W : World} {K : FuncId → Array Value → World → Value → Prop} {Q : Act → World → Prop} {F : Facts} {k : Nat} {o : Oper} {rest : List Oper} {a : Act}
variable {g : Nat} {t : TypeId} {m : Nat} {Fin : World → Array Value → Prop} {hm : ∀ w w' cs, le w w' → Fin w cs → Fin w' cs}
/-- A value of one cell is loaded, of a block that is not the result's. -/
theorem wpFreeD_cell (hg : o.guard = none) {ty : TypeId} {x : Operand} (hop : o.op = .load ty x) {ad : Addr} (hx : a.eval x = .pointer (some ad)) {v : Value} (hv : W.cell? ad = some v) (hne : ad.block ≠ g) (hu : ∀ w, (isAgg ty).run P w = .ok false w)
    (h : wpFreeD (outX g t m Fin hm) P ops .any W K Q rest (k + 1) (a.put o.dst v) (F.with k (fun _ => True))) : wpFreeD (outX g t m Fin hm) P ops .any W K Q (o :: rest) k a F := by
  refine wpFreeD_one hg v (fun w hw => ?_) h
  have hlt : ad.block < W.heap.size := World.block_lt_of_cell? W _ hv
  have hc : w.cell? ad = some v := (cell_of_heap (hw.1.block _ hlt hne)).trans hv
  have hl : (Instr.loadAt ty (.pointer (some ad))).run P w = .ok v w := by
    simp [Instr.loadAt, Instr.sureAddr, loadVar, hu, hc]
  simp [execOp, hop, hx, hl, Result.andThen]
/-- Append to a slice of no capacity: new memory is taken. -/
theorem wpFreeD_append {s x : Operand} (hg : o.guard = none) {t' : TypeId} (hop : o.op = Op.call { callee := Callee.builtin Builtin.append, args := #[s, x], argTypes := #[t', t'] }) {e : TypeId} (h1 : P.underlying t' = some (.slice e)) {i : TypeInfo} (h2 : P.info? e = some i) (h3 : i.zero = some (.float .f32 0)) (h4 : i.size = 1) (h5 : i.bytes = 4)
    {ao : Option Addr} (hs : a.eval s = .slice ao 0 0) {ad : Addr} {n c : Nat} {y : Nat → Nat} (hx : a.eval x = .slice (some ad) n c) (hn : 1 ≤ n) (hn2 : n ≤ 1048576) (hc : ∀ j, j < n → W.cell? (ad.add j) = some (.float .f32 (y j))) (hne : ad.block ≠ g)
    (h : ∀ q c', wpFreeD (outX g t m Fin hm) P ops .any W K Q rest (k + 1) (a.put o.dst (.slice (some ⟨q, 0, none⟩) n c')) (F.with k (fun w => ∃ B, W.heap.size ≤ B ∧ w.ownsRow B e 1 (.slice (some ⟨q, 0, none⟩) n c') n (flist y n) ∧ g < B))) (hgW : g < W.heap.size) : wpFreeD (outX g t m Fin hm) P ops .any W K Q (o :: rest) k a F := by
  refine ⟨fun w v => ∃ B, W.heap.size ≤ B ∧ w.ownsRow B e 1 v n (flist y n) ∧ g < B, ⟨fun v w w' hw hv => ?_, .inl ⟨by simp [Region.wanted, hg], fun w hw _ => ?_⟩⟩, fun v hv => ?_⟩
  rotate_left 2
  · obtain ⟨w, _, _, B, _, ho, _⟩ := hv
    rcases ho.2 with ⟨_, h0⟩ | ⟨q, c', cur, rfl, _⟩
    · omega
    · exact h q c'
  · obtain ⟨B, hB, ⟨ho1, ho⟩, hgB⟩ := hv
    refine ⟨B, hB, ⟨ho1, ?_⟩, hgB⟩
    rcases ho with ho | ⟨q, cap, cur, e1, e2, e3, e4⟩
    · exact .inl ho
    · exact .inr ⟨q, cap, cur, e1, e2, by have := hw.1.row (g := q) (t := e) (cs := cur) e3 (by omega); exact this, e4⟩
  · have hcw : ∀ j u, (flist y n)[j]? = some u → w.cell? (ad.add j) = some u := by
      intro j u hu
      obtain ⟨hj, rfl⟩ := flist_get hu
      have := hc j hj
      have hlt : (ad.add j).block < W.heap.size := World.block_lt_of_cell? W _ this
      exact (cell_of_heap (hw.1.block _ hlt (by rw [add_block]; exact hne))).trans this
    have hsz := hw.1.size
    cases ao with
    | none =>
      obtain ⟨v', w', hrun, hown, hgr, _⟩ := run_append_own (P := P) (w := w) w.heap.size t' o.type e i (.float .f32 0) 1 4 h1 h2 h3 h4 h5 rfl (by omega) (.slice none 0 0) 0 [] (World.ownsRow_nil w _ e 1) ad n c (flist y n) (by rw [flist_length]; omega) hcw (flist_one y n) (by unfold maxLen; omega) (by omega) (Nat.le_refl _)
      simp only [Nat.zero_add, List.nil_append] at hown
      simp [execOp, hop, resolve, invoke, builtin, hs, hx, hrun, Result.andThen, insideT]
      exact ⟨(outX g t m Fin hm).of_le (le_of_grown hgr), w.heap.size, hsz, hown, by omega⟩
    | some b =>
      obtain ⟨v', w', hrun, hown, hgr⟩ := run_append_arg_grows (P := P) w t' o.type e i (.float .f32 0) 1 4 h1 h2 h3 h4 h5 rfl (by omega) b 0 0 [] rfl (fun j u hu => by simp at hu) ad n c (flist y n) (by rw [flist_length]; omega) hcw (by omega) (by unfold maxLen; omega) (by omega)
      simp only [Nat.zero_add, List.nil_append] at hown
      simp [execOp, hop, resolve, invoke, builtin, hs, hx, hrun, Result.andThen, insideT]
      exact ⟨(outX g t m Fin hm).of_le (le_of_grown hgr), w.heap.size, hsz, hown, by omega⟩
/-- The result is stored. -/
theorem wpFreeD_out (hg : o.guard = none) {ty : TypeId} {x y : Operand} (hop : o.op = .store ty x y) (hx : a.eval x = .pointer (some ⟨g, 0, none⟩)) {cells : Array Value} (hy : a.eval y = .agg cells) (hty : ty = t) {old : Array Value} (hW : Row W g t old) (ho : old.size = m)
    (hF : ∀ w w', (outX g t m Fin hm).R W w → behind .any o F w → Chg (· = g) w w' → Fin w' cells) (hi : (P.info? ty).map (·.size) = some m) (hs : cells.size = m) (h1 : cells.all (·.oneCell') = true)
    (h : wpFreeD (outX g t m Fin hm) P ops .any W K Q rest (k + 1) (a.put o.dst undef) (F.with k (fun w => ∃ cs, Row w g t cs ∧ Fin w cs))) : wpFreeD (outX g t m Fin hm) P ops .any W K Q (o :: rest) k a F := by
  subst hty
  refine ⟨fun w v => v = undef ∧ ∃ cs, Row w g ty cs ∧ Fin w cs, ⟨fun v w w' hw hv => ⟨hv.1, hw.2.2 hv.2⟩, .inl ⟨by simp [Region.wanted, hg], fun w hw hbe => ?_⟩⟩, fun v hv => ?_⟩
  · obtain ⟨cs, hc, hcs⟩ := hw.2.1 ⟨old, hW, ho⟩
    have hrun := run_storeVar_row (P := P) w g ty ty cs cells hc (hs ▸ hi) (hcs.trans hs.symm) h1
    have : (execOp a.eval o).run P w = .ok .skip (w.setRow g cells) := by
      unfold execOp
      simp only [hop, hx, hy, Instr.storeAt, Instr.sureAddr, Sem.run_bind, Sem.run_pure, Result.andThen_ok, hrun]
    rw [this]
    have hrow : Row (w.setRow g cells) g ty cells := hc.setRow _
    have hch : Chg (· = g) w (w.setRow g cells) := (Chg.refl _ w).wrote (wrote_setRow hc) rfl
    have hfin := hF w _ hw hbe hch
    exact ⟨⟨hch, fun _ => ⟨cells, hrow, hs⟩, fun _ => ⟨cells, hrow, hfin⟩⟩, rfl, cells, hrow, hfin⟩
  · obtain ⟨w, _, _, rfl, _⟩ := hv
    exact wpFreeD_weaken _ _ _ _ _ (fun e w h => ⟨h.1, fun he => (h.2 he).2⟩) h
end
section
variable {E : Ext} {P : Program} {ops : Array Oper} {W : World} {K : FuncId → Array Value → World → Value → Prop} {Q : Act → World → Prop} {F : Facts} {k : Nat} {o : Oper} {rest : List Oper} {a : Act}
/-- A quiet operation: one value, in the very world. -/
theorem wpFreeD_quiet (hnc : simple o.op = true) (h : wpQuiet P ops (fun _ => True) (fun a' => wpFreeD E P ops .any W K Q rest (k + 1) a' (F.with k (fun _ => True))) [o] a) : wpFreeD E P ops .any W K Q (o :: rest) k a F := by
  simp only [wpQuiet] at h
  by_cases hw : Region.wanted o (yielded ops a.tmps) = true
  · rw [if_pos hw] at h
    obtain ⟨v, h1, h2⟩ := h
    refine ⟨fun _ u => u = v, ⟨fun _ _ _ _ h => h, .inl ⟨hw, fun w hw' _ => ?_⟩⟩, fun u hu => ?_⟩
    · have h3 := h1 w trivial
      unfold Oper.quietAt at h3
      generalize hrun : (execOp a.eval o).run P w = r at h3
      cases r with
      | ok n w' =>
        cases n <;> simp only [Oper.quietUpon] at h3 <;> simp only [insideT]
        case value u => exact ⟨by rw [h3.1]; exact E.refl w, h3.2⟩
        case skip => exact ⟨by rw [h3.1]; exact E.refl w, h3.2.symm⟩
        case enter f args => exact (noEnter hnc hrun).elim
      | halt x w' => simp only [Oper.quietUpon] at h3
    · obtain ⟨w, _, _, rfl⟩ := hu
      exact wpFreeD_weaken _ _ _ _ _ (fun e w h => ⟨h.1, fun _ => trivial⟩) h2
  · rw [if_neg hw] at h
    refine ⟨fun _ u => u = undef, ⟨fun _ _ _ _ h => h, .inr ⟨by simpa using hw, fun _ _ _ => rfl⟩⟩, fun u hu => ?_⟩
    obtain ⟨w, _, _, rfl⟩ := hu
    exact wpFreeD_weaken _ _ _ _ _ (fun e w h => ⟨h.1, fun _ => trivial⟩) h
/-- An operation of one value; what is known of those that it comes behind is carried on. -/
theorem wpFreeD_carry (hg : o.guard = none) (v : Value) (hr : ∀ w, E.R W w → (execOp a.eval o).run P w = .ok (.value v) w) (V : World → Prop) (hm : ∀ w w', E.R w w' → V w → V w') (hb : ∀ w, E.R W w → behind .any o F w → V w)
    (h : wpFreeD E P ops .any W K Q rest (k + 1) (a.put o.dst v) (F.with k V)) : wpFreeD E P ops .any W K Q (o :: rest) k a F := by
  refine ⟨fun w u => u = v ∧ V w, ⟨fun _ w w' hw h => ⟨h.1, hm w w' hw h.2⟩, .inl ⟨by simp [Region.wanted, hg], fun w hw hbe => ?_⟩⟩, fun u hu => ?_⟩
  · rw [hr w hw]; exact ⟨E.refl w, rfl, hb w hw hbe⟩
  · obtain ⟨w, _, _, rfl, _⟩ := hu
    exact wpFreeD_weaken _ _ _ _ _ (fun e w h => ⟨h.1, fun he => (h.2 he).2⟩) h
/-- An operation that makes one new block. -/
theorem wpFreeD_new (hg : o.guard = none) (f : Nat → Value) (ob : Obj) (hr : ∀ w, (execOp a.eval o).run P w = .ok (.value (f w.heap.size)) (w.alloc ob))
    (h : ∀ b, wpFreeD E P ops .any W K Q rest (k + 1) (a.put o.dst (f b)) (F.with k (fun _ => True))) : wpFreeD E P ops .any W K Q (o :: rest) k a F := by
  refine ⟨fun _ u => ∃ b, u = f b, ⟨fun _ _ _ _ h => h, .inl ⟨by simp [Region.wanted, hg], fun w hw _ => ?_⟩⟩, fun u hu => ?_⟩
  · rw [hr w]; exact ⟨E.of_le (le_alloc w ob), _, rfl⟩
  · obtain ⟨w, _, _, b, rfl⟩ := hu
    exact wpFreeD_weaken _ _ _ _ _ (fun e w h => ⟨h.1, fun _ => trivial⟩) (h b)
end
theorem run_empty {P : Program} (w : World) (t e : TypeId) (ie : TypeInfo) (hu : P.underlying t = some (.slice e)) (hie : P.info? e = some ie) : (Instr.buildSlice t 0 #[]).run P w = .ok (.slice (some ⟨w.heap.size, 0, none⟩) 0 0) (w.alloc (.cells #[] e)) := by
  have h : Instr.fill (fun i => some (i * ie.size, ie.size)) (Array.map (fun _ => (default : Value)) (Array.range 0)) [] = some #[] := by simp [Instr.fill]
  simp [Instr.buildSlice, run_underlying hu, sizeOf, typeInfo, hie, newRow, h]
theorem ownsRow_le {w w' : World} {B : Nat} {e : TypeId} {z : Nat} {v : Value} {n : Nat} {xs : List Value} (h : w.ownsRow B e z v n xs) (hl : le w w') : w'.ownsRow B e z v n xs := by
  obtain ⟨h1, h2⟩ := h
  refine ⟨h1, ?_⟩
  rcases h2 with h2 | ⟨q, cap, cur, e1, e2, e3, e4⟩
  · exact .inl h2
  · exact .inr ⟨q, cap, cur, e1, e2, by have := Row.le (g := q) (t := e) (cs := cur) e3 hl; exact this, e4⟩
/-- What a copy's result is. -/
def FinR (B : Nat) (e : TypeId) (n : Nat) (y : Nat → Nat) (k : Int) (w : World) (cs : Array Value) : Prop := ∃ s, cs = #[s, .int .i64 k] ∧ ∃ B', B ≤ B' ∧ w.ownsRow B' e 1 s n (flist y n)
theorem FinR_le (B : Nat) (e : TypeId) (n : Nat) (y : Nat → Nat) (k : Int) : ∀ w w' cs, le w w' → FinR B e n y k w cs → FinR B e n y k w' cs := fun _ _ _ hl ⟨s, h, B', hB, h2⟩ => ⟨s, h, B', hB, ownsRow_le h2 hl⟩
theorem ownsRow_out {g : Nat} {t : TypeId} {m : Nat} {Fin : World → Array Value → Prop} {hm : ∀ w w' cs, le w w' → Fin w cs → Fin w' cs} {w w' : World} {e : TypeId} {n B : Nat} {xs : List Value} {v : Value} (hw : (outX g t m Fin hm).R w w') (h : w.ownsRow B e 1 v n xs) (hg : g < B) : w'.ownsRow B e 1 v n xs := by
  obtain ⟨h1, h2⟩ := h
  refine ⟨h1, ?_⟩
  rcases h2 with h2 | ⟨q, cap, cur, e1, e2, e3, e4⟩
  · exact .inl h2
  · exact .inr ⟨q, cap, cur, e1, e2, by have := hw.1.row (g := q) (t := e) (cs := cur) e3 (by omega); exact this, e4⟩
theorem ownsRow_ch {g : Nat} {w w' : World} {e : TypeId} {n B : Nat} {xs : List Value} {v : Value} (hw : Chg (· = g) w w') (h : w.ownsRow B e 1 v n xs) (hg : g < B) : w'.ownsRow B e 1 v n xs := by
  obtain ⟨h1, h2⟩ := h
  refine ⟨h1, ?_⟩
  rcases h2 with h2 | ⟨q, cap, cur, e1, e2, e3, e4⟩
  · exact .inl h2
  · exact .inr ⟨q, cap, cur, e1, e2, by have := hw.row (g := q) (t := e) (cs := cur) e3 (by omega); exact this, e4⟩
theorem ownsRow_one {w : World} {B : Nat} {e : TypeId} {z : Nat} {v : Value} {n : Nat} {xs : List Value} (h : w.ownsRow B e z v n xs) : v.oneCell' = true := by
  rcases h.2 with ⟨rfl, _⟩ | ⟨q, cap, cur, rfl, _⟩ <;> rfl
namespace Frg
variable {w0 w w' : World}
/-- The two newest facts' blocks are written. -/
theorem chg2 {e1 e2 e1' e2' : Fact} {l : List Fact} (h : Frg w0 w (e1 :: e2 :: l)) (k : Chg (fun i => rng e1.lo e1.hi i ∨ rng e2.lo e2.hi i) w w') (p1 : e1'.p w') (p2 : e2'.p w') (l1 : e1'.lo = e1.lo) (h1 : e1'.hi = e1.hi) (l2 : e2'.lo = e2.lo) (h2 : e2'.hi = e2.hi) : Frg w0 w' (e1' :: e2' :: l) := by
  have f1 := h.facts e1 (by simp)
  have f2 := h.facts e2 (by simp)
  have a1 := List.pairwise_cons.1 h.apart
  have a2 := List.pairwise_cons.1 a1.2
  have b12 := a1.1 e2 (by simp)
  refine ⟨h.below.trans (k.below (fun i hi => by rcases hi with hi | hi; exact Nat.le_trans f1.1 hi.1; exact Nat.le_trans f2.1 hi.1) h.size), fun x hx => ?_, ?_⟩
  · rcases List.mem_cons.1 hx with rfl | hx
    · exact ⟨by omega, by have := k.size; omega, p1⟩
    rcases List.mem_cons.1 hx with rfl | hx
    · exact ⟨by omega, by have := k.size; omega, p2⟩
    · have hx' := h.facts x (by simp [hx])
      have ha := a2.1 x hx
      have ha1 := a1.1 x (by simp [hx])
      exact ⟨hx'.1, Nat.le_trans hx'.2.1 k.size, x.ok w w' hx'.2.2 (fun i a b => k.block i (by omega) (fun c => by rcases c with c | c <;> (have := c.1; omega)))⟩
  · refine List.pairwise_cons.2 ⟨fun x hx => ?_, List.pairwise_cons.2 ⟨fun x hx => by have := a2.1 x hx; omega, a2.2⟩⟩
    rcases List.mem_cons.1 hx with rfl | hx
    · omega
    · have := a1.1 x (by simp [hx]); omega
/-- A ring's struct and its samples, behind a push. -/
theorem pushed {g lo hi n : Nat} {t : TypeId} {cs cs' : Array Value} {s : Value} {x x' : Nat → Nat} {l : List Fact} (h : Frg w0 w (rowF g t cs :: ownF lo hi s x n :: l)) (hr : Row w' g t cs') (ho : OwnS w' lo hi s x' n) (k : Chg (fun i => i = g ∨ lo ≤ i ∧ i < hi) w w') : Frg w0 w' (rowF g t cs' :: ownF lo hi s x' n :: l) := by
  refine h.chg2 (k.mono (fun i hi' => ?_)) hr ho rfl rfl rfl rfl
  rcases hi' with rfl | hi'
  · exact .inl ⟨Nat.le_refl _, Nat.lt_succ_self _⟩
  · exact .inr hi'
theorem not_in {g lo hi n : Nat} {t : TypeId} {cs : Array Value} {s : Value} {x : Nat → Nat} {l : List Fact} (h : Frg w0 w (rowF g t cs :: ownF lo hi s x n :: l)) : ¬ (lo ≤ g ∧ g < hi) := by
  have a1 : hi ≤ g := (List.pairwise_cons.1 h.apart).1 (ownF lo hi s x n) (by simp)
  omega
/-- The result is stored: what it has is the call's own. -/
theorem fin1 {g lo hi n : Nat} {t : TypeId} {cs cs' : Array Value} {s : Value} {x : Nat → Nat} {e : Fact} {l : List Fact} (h : Frg w0 w (e :: ownF lo hi s x n :: rowF g t cs :: l)) (k : Wrote w w' g t cs') : OwnS w' w0.heap.size w'.heap.size s x n ∧ Fk.le w0 w' := by
  have a1 := (List.pairwise_cons.1 h.apart).2
  have a2 : g + 1 ≤ lo := (List.pairwise_cons.1 a1).1 (rowF g t cs) (by simp)
  have f1 := h.facts (ownF lo hi s x n) (by simp)
  have f2 := h.facts (rowF g t cs) (by simp)
  have hc : Chg (· = g) w w' := (Chg.refl _ w).wrote k rfl
  refine ⟨((OwnS.chgS f1.2.2 hc (fun i h1 h2 h3 => by have h1' : lo ≤ i := h1; have h3' : i = g := h3; omega)).mono f1.1 (Nat.le_trans f1.2.1 hc.size)), h.below.trans (hc.below (fun i hi => by have hi' : i = g := hi; subst hi'; exact f2.1) h.size)⟩
theorem fin0 {g lo hi n : Nat} {t : TypeId} {cs cs' : Array Value} {s : Value} {x : Nat → Nat} {l : List Fact} (h : Frg w0 w (ownF lo hi s x n :: rowF g t cs :: l)) (k : Wrote w w' g t cs') : OwnS w' w0.heap.size w'.heap.size s x n ∧ Fk.le w0 w' := by
  have a2 : g + 1 ≤ lo := (List.pairwise_cons.1 h.apart).1 (rowF g t cs) (by simp)
  have f1 := h.facts (ownF lo hi s x n) (by simp)
  have f2 := h.facts (rowF g t cs) (by simp)
  have hc : Chg (· = g) w w' := (Chg.refl _ w).wrote k rfl
  refine ⟨((OwnS.chgS f1.2.2 hc (fun i h1 h2 h3 => by have h1' : lo ≤ i := h1; have h3' : i = g := h3; omega)).mono f1.1 (Nat.le_trans f1.2.1 hc.size)), h.below.trans (hc.below (fun i hi => by have hi' : i = g := hi; subst hi'; exact f2.1) h.size)⟩
theorem fin2 {g lo hi n : Nat} {t : TypeId} {cs cs' : Array Value} {s : Value} {x : Nat → Nat} {e : Fact} {l : List Fact} (h : Frg w0 w (ownF lo hi s x n :: e :: rowF g t cs :: l)) (k : Wrote w w' g t cs') : OwnS w' w0.heap.size w'.heap.size s x n ∧ Fk.le w0 w' := by
  have a2 : g + 1 ≤ lo := (List.pairwise_cons.1 h.apart).1 (rowF g t cs) (by simp)
  have f1 := h.facts (ownF lo hi s x n) (by simp)
  have f2 := h.facts (rowF g t cs) (by simp)
  have hc : Chg (· = g) w w' := (Chg.refl _ w).wrote k rfl
  refine ⟨((OwnS.chgS f1.2.2 hc (fun i h1 h2 h3 => by have h1' : lo ≤ i := h1; have h3' : i = g := h3; omega)).mono f1.1 (Nat.le_trans f1.2.1 hc.size)), h.below.trans (hc.below (fun i hi => by have hi' : i = g := hi; subst hi'; exact f2.1) h.size)⟩
end Frg
end Go.Fk

/- Which filters are valid: the plain function, the model's contract and the program's. -/
namespace Go.Fk
open Go Go.RowKit
/-- How many numbers and states a kind uses. -/
def cU (k : Int) : Nat := if k = 1 ∨ k = 2 then 2 else if k = 3 ∨ k = 5 then 1 else 3
def sU (k : Int) : Nat := if k = 1 ∨ k = 2 then 1 else 2
/-- Is a filter valid? -/
def okF (k : Int) (a b c x y : Nat) : Bool := (decide (1 ≤ k) && decide (k ≤ 5)) && (usedB (tri a b c) 3 (cU k) && usedB (duo x y) 2 (sU k))
theorem okF_kind {k : Int} {a b c x y : Nat} (h : okF k a b c x y = true) : 1 ≤ k ∧ k ≤ 5 := by
  simp only [okF, Bool.and_eq_true, decide_eq_true_eq] at h; exact h.1
theorem okF_out {k : Int} {a b c x y : Nat} (h : ¬ (1 ≤ k ∧ k ≤ 5)) : okF k a b c x y = false := by
  cases e : okF k a b c x y
  · rfl
  · exact absurd (okF_kind e) h
theorem cU_le (k : Int) : cU k ≤ 3 := by unfold cU; split; omega; split <;> omega
theorem sU_le (k : Int) : sU k ≤ 2 := by unfold sU; split <;> omega
theorem Row.six {w : World} {g : Nat} {t : TypeId} {v0 v1 v2 v3 v4 v5 : Value} (h : Row w g t #[v0, v1, v2, v3, v4, v5]) :
    w.cell? ⟨g, 0, none⟩ = some v0 ∧ w.cell? ⟨g, 1, none⟩ = some v1 ∧ w.cell? ⟨g, 2, none⟩ = some v2 ∧ w.cell? ⟨g, 3, none⟩ = some v3 ∧ w.cell? ⟨g, 4, none⟩ = some v4 ∧ w.cell? ⟨g, 5, none⟩ = some v5 :=
  ⟨h.cell? 0, h.cell? 1, h.cell? 2, h.cell? 3, h.cell? 4, h.cell? 5⟩
theorem Row.tri {w : World} {g : Nat} {t : TypeId} {k : Int} {a b c x y : Nat} (h : Row w g t (#[.int .i64 k, .float .f32 a, .float .f32 b, .float .f32 c, .float .f32 x, .float .f32 y] : Array Value)) (i : Nat) (hi : i < 3) : w.cell? ⟨g, 1 + i, none⟩ = some (.float .f32 (tri a b c i)) := by
  match i, hi with
  | 0, _ => exact h.cell? 1
  | 1, _ => exact h.cell? 2
  | 2, _ => exact h.cell? 3
theorem Row.duo {w : World} {g : Nat} {t : TypeId} {k : Int} {a b c x y : Nat} (h : Row w g t (#[.int .i64 k, .float .f32 a, .float .f32 b, .float .f32 c, .float .f32 x, .float .f32 y] : Array Value)) (i : Nat) (hi : i < 2) : w.cell? ⟨g, 4 + i, none⟩ = some (.float .f32 (duo x y i)) := by
  match i, hi with
  | 0, _ => exact h.cell? 4
  | 1, _ => exact h.cell? 5
/-- A filter within a block. -/
structure FilAt (w : World) (g f : Nat) (k : Int) (a b c x y : Nat) : Prop where
  k0 : w.cell? ⟨g, f, none⟩ = some (.int .i64 k)
  tri : ∀ i, i < 3 → w.cell? ⟨g, f + 1 + i, none⟩ = some (.float .f32 (tri a b c i))
  duo : ∀ i, i < 2 → w.cell? ⟨g, f + 4 + i, none⟩ = some (.float .f32 (duo x y i))
theorem Row.filAt {w : World} {g : Nat} {t : TypeId} {k : Int} {a b c x y : Nat} (h : Row w g t (#[.int .i64 k, .float .f32 a, .float .f32 b, .float .f32 c, .float .f32 x, .float .f32 y] : Array Value)) : FilAt w g 0 k a b c x y :=
  ⟨h.six.1, fun i hi => by rw [Nat.zero_add]; exact h.tri i hi, fun i hi => by rw [Nat.zero_add]; exact h.duo i hi⟩
/-- A filter within a row. -/
structure FilIn (cs : Array Value) (f : Nat) (k : Int) (a b c x y : Nat) : Prop where
  k0 : cs[f]? = some (.int .i64 k)
  c1 : cs[f + 1]? = some (.float .f32 a)
  c2 : cs[f + 2]? = some (.float .f32 b)
  c3 : cs[f + 3]? = some (.float .f32 c)
  c4 : cs[f + 4]? = some (.float .f32 x)
  c5 : cs[f + 5]? = some (.float .f32 y)
theorem FilIn.at {cs : Array Value} {f : Nat} {k : Int} {a b c x y : Nat} (h : FilIn cs f k a b c x y) {w : World} {g : Nat} {t : TypeId} (hr : Row w g t cs) : FilAt w g f k a b c x y :=
  ⟨(hr.cell? f).trans h.k0, fun i hi => by
    match i, hi with
    | 0, _ => exact (hr.cell? (f + 1)).trans h.c1
    | 1, _ => exact (hr.cell? (f + 2)).trans h.c2
    | 2, _ => exact (hr.cell? (f + 3)).trans h.c3, fun i hi => by
    match i, hi with
    | 0, _ => exact (hr.cell? (f + 4)).trans h.c4
    | 1, _ => exact (hr.cell? (f + 5)).trans h.c5⟩
theorem fits_tri {a b c : Nat} (ha : fits .f32 a) (hb : fits .f32 b) (hc : fits .f32 c) : ∀ i, i < 3 → fits .f32 (tri a b c i) := by
  intro i hi
  match i, hi with
  | 0, _ => exact ha
  | 1, _ => exact hb
  | 2, _ => exact hc
theorem fits_duo {a b : Nat} (ha : fits .f32 a) (hb : fits .f32 b) : ∀ i, i < 2 → fits .f32 (duo a b i) := by
  intro i hi
  match i, hi with
  | 0, _ => exact ha
  | 1, _ => exact hb
end Go.Fk
namespace Go.Proofs.Ytnkjmgadnejdlab
open Go.RowKit Go.Fk
theorem s_Uses (k : Int) (w : World) : Calls Try.prog 118 #[.int .i64 k] w fun e w' => e = .returned (.tuple #[.int .i64 (cU k), .int .i64 (sU k)]) ∧ w = w' := by
  by_cases h1 : k = 1
  · subst h1
    go_enter Try.func118, Try.ntmps118
    go_wp2
    go_ret2
    exact ⟨rfl, rfl⟩
  by_cases h2 : k = 2
  · subst h2
    go_enter Try.func118, Try.ntmps118
    go_wp2
    go_ret2
    exact ⟨rfl, rfl⟩
  by_cases h3 : k = 3
  · subst h3
    go_enter Try.func118, Try.ntmps118
    go_wp2
    go_ret2
    exact ⟨rfl, rfl⟩
  by_cases h5 : k = 5
  · subst h5
    go_enter Try.func118, Try.ntmps118
    go_wp2
    go_ret2
    exact ⟨rfl, rfl⟩
  have e1 : cU k = 3 := by simp [cU, h1, h2, h3, h5]
  have e2 : sU k = 2 := by simp [sU, h1, h2]
  rw [e1, e2]
  go_enter Try.func118, Try.ntmps118
  go_wp2
  go_ret2
  exact ⟨rfl, rfl⟩
set_option maxHeartbeats 2000000 in
theorem s_OkAt (k : Int) (a b c x y : Nat) (g f : Nat) (w : World) (hr : FilAt w g f k a b c x y) : Calls Try.prog 94 #[.pointer (some ⟨g, f, none⟩)] w fun e w' => e = .returned (.bool (okF k a b c x y)) ∧ ∃ n, w' = w.drewN n := by
  have c0 := hr.k0
  have HR := hid hr
  clear hr
  by_cases hk : 1 ≤ k ∧ k ≤ 5
  · obtain ⟨k1, k5⟩ := hk
    obtain ⟨p, hp⟩ : ∃ p, p = cU k := ⟨_, rfl⟩
    obtain ⟨q, hq⟩ : ∃ q, q = sU k := ⟨_, rfl⟩
    have hp3 : p ≤ 3 := by rw [hp]; exact cU_le k
    have hq2 : q ≤ 2 := by rw [hq]; exact sU_le k
    have E : okF k a b c x y = (usedB (tri a b c) 3 p && usedB (duo x y) 2 q) := by rw [hp, hq]; simp [okF, k1, k5]
    rw [E]; clear E
    have hu := s_Uses k
    rw [← hp, ← hq] at hu
    have HU := hid hu
    clear hu hp hq
    go_enter Try.func94, Try.ntmps94
    go_wp2_with (first | (go_at_call 96; refine (s_In _ _ _ _).mono ?_; rintro e w' ⟨rfl, rfl⟩) | (go_at_call 118; refine (HU.out _).mono ?_; rintro e w' ⟨rfl, rfl⟩))
    go_loopw [5] (fun i wr => ∃ j : Nat, j ≤ 3 ∧ i = .int .i64 j ∧ Hid (∀ i, i < j → fin (tri a b c i) = true ∧ (p ≤ i → sameB (tri a b c i) 0 = true)) ∧ ∃ n, wr = w.drewN n) (fun i _ => 3 - (intOf i).toNat)
    case atStart => exact ⟨0, by omega, rfl, fun i hi => absurd hi (by omega), 0, rfl⟩
    case round =>
      obtain ⟨j, hj, rfl, HJ, n, rfl⟩ := hrel
      by_cases hlt : j < 3
      · have cj := HR.out.tri j hlt
        cases h1 : fin (tri a b c j)
        · go_wp2_with (go_at_call 54; refine (s_l01Finite _ _).mono ?_; rintro e w' ⟨rfl, m, rfl⟩)
          go_ret
          refine ⟨ret_b ?_, _, rfl⟩
          by_cases hjp : j < p
          · rw [usedB_fin hjp hp3 h1]; rfl
          · have : sameB (tri a b c j) 0 = false := by
              cases e : sameB (tri a b c j) 0
              · rfl
              · rw [same0_fin e] at h1; cases h1
            rw [usedB_zero (show p ≤ j by omega) hlt this]; rfl
        · by_cases hjp : j < p
          · have hjp' : (j : Int) < p := by omega
            go_wp2_with (go_at_call 54; refine (s_l01Finite _ _).mono ?_; rintro e w' ⟨rfl, m, rfl⟩)
            go_roundw
            case rel => first | exact ⟨j + 1, by omega, by go_num, fun i hi => by rcases Nat.lt_or_ge i j with h | h; exact HJ.out i h; rw [show i = j by omega]; exact ⟨h1, fun h => absurd h (by omega)⟩, _, rfl⟩ | ((repeat apply Exists.intro); exact ⟨⟨j + 1, by omega, by go_num, fun i hi => by rcases Nat.lt_or_ge i j with h | h; exact HJ.out i h; rw [show i = j by omega]; exact ⟨h1, fun h => absurd h (by omega)⟩, _, rfl⟩, rfl⟩)
            case measure => simp [intOf]; omega
          · have hjp' : (p : Int) ≤ j := by omega
            cases h2 : sameB (tri a b c j) 0
            · go_wp2_with (first | (go_at_call 54; refine (s_l01Finite _ _).mono ?_; rintro e w' ⟨rfl, m, rfl⟩) | (go_at_call 119; refine (s_l01Same _ _ _).mono ?_; rintro e w' ⟨rfl, rfl⟩))
              go_ret
              exact ⟨ret_b (by rw [usedB_zero (show p ≤ j by omega) hlt h2]; rfl), _, rfl⟩
            · go_wp2_with (first | (go_at_call 54; refine (s_l01Finite _ _).mono ?_; rintro e w' ⟨rfl, m, rfl⟩) | (go_at_call 119; refine (s_l01Same _ _ _).mono ?_; rintro e w' ⟨rfl, rfl⟩))
              go_roundw
              case rel => first | exact ⟨j + 1, by omega, by go_num, fun i hi => by rcases Nat.lt_or_ge i j with h | h; exact HJ.out i h; rw [show i = j by omega]; exact ⟨h1, fun _ => h2⟩, _, rfl⟩ | ((repeat apply Exists.intro); exact ⟨⟨j + 1, by omega, by go_num, fun i hi => by rcases Nat.lt_or_ge i j with h | h; exact HJ.out i h; rw [show i = j by omega]; exact ⟨h1, fun _ => h2⟩, _, rfl⟩, rfl⟩)
              case measure => simp [intOf]; omega
      · obtain rfl : j = 3 := by omega
        have U1 := hid (usedB_yes (f := tri a b c) (n := 3) (u := p) (fun i hi => (HJ.out i (by omega)).1) (fun i h1 h2 => (HJ.out i h2).2 h1))
        clear HJ
        go_wp2
        go_loopw [6] (fun i wr => ∃ j : Nat, j ≤ 2 ∧ i = .int .i64 j ∧ Hid (∀ i, i < j → fin (duo x y i) = true ∧ (q ≤ i → sameB (duo x y i) 0 = true)) ∧ ∃ n, wr = w.drewN n) (fun i _ => 2 - (intOf i).toNat)
        case atStart => exact ⟨0, by omega, rfl, fun i hi => absurd hi (by omega), _, rfl⟩
        case round =>
          obtain ⟨j, hj, rfl, HJ, n, rfl⟩ := hrel
          by_cases hlt : j < 2
          · have cj := HR.out.duo j hlt
            cases h1 : fin (duo x y j)
            · go_wp2_with (go_at_call 54; refine (s_l01Finite _ _).mono ?_; rintro e w' ⟨rfl, m, rfl⟩)
              go_ret
              refine ⟨ret_b ?_, _, rfl⟩
              by_cases hjp : j < q
              · rw [usedB_fin hjp hq2 h1, Bool.and_false]
              · have : sameB (duo x y j) 0 = false := by
                  cases e : sameB (duo x y j) 0
                  · rfl
                  · rw [same0_fin e] at h1; cases h1
                rw [usedB_zero (show q ≤ j by omega) hlt this, Bool.and_false]
            · by_cases hjp : j < q
              · have hjp' : (j : Int) < q := by omega
                go_wp2_with (go_at_call 54; refine (s_l01Finite _ _).mono ?_; rintro e w' ⟨rfl, m, rfl⟩)
                go_roundw
                case rel => first | exact ⟨j + 1, by omega, by go_num, fun i hi => by rcases Nat.lt_or_ge i j with h | h; exact HJ.out i h; rw [show i = j by omega]; exact ⟨h1, fun h => absurd h (by omega)⟩, _, rfl⟩ | ((repeat apply Exists.intro); exact ⟨⟨j + 1, by omega, by go_num, fun i hi => by rcases Nat.lt_or_ge i j with h | h; exact HJ.out i h; rw [show i = j by omega]; exact ⟨h1, fun h => absurd h (by omega)⟩, _, rfl⟩, rfl⟩)
                case measure => simp [intOf]; omega
              · have hjp' : (q : Int) ≤ j := by omega
                cases h2 : sameB (duo x y j) 0
                · go_wp2_with (first | (go_at_call 54; refine (s_l01Finite _ _).mono ?_; rintro e w' ⟨rfl, m, rfl⟩) | (go_at_call 119; refine (s_l01Same _ _ _).mono ?_; rintro e w' ⟨rfl, rfl⟩))
                  go_ret
                  exact ⟨ret_b (by rw [usedB_zero (show q ≤ j by omega) hlt h2, Bool.and_false]), _, rfl⟩
                · go_wp2_with (first | (go_at_call 54; refine (s_l01Finite _ _).mono ?_; rintro e w' ⟨rfl, m, rfl⟩) | (go_at_call 119; refine (s_l01Same _ _ _).mono ?_; rintro e w' ⟨rfl, rfl⟩))
                  go_roundw
                  case rel => first | exact ⟨j + 1, by omega, by go_num, fun i hi => by rcases Nat.lt_or_ge i j with h | h; exact HJ.out i h; rw [show i = j by omega]; exact ⟨h1, fun _ => h2⟩, _, rfl⟩ | ((repeat apply Exists.intro); exact ⟨⟨j + 1, by omega, by go_num, fun i hi => by rcases Nat.lt_or_ge i j with h | h; exact HJ.out i h; rw [show i = j by omega]; exact ⟨h1, fun _ => h2⟩, _, rfl⟩, rfl⟩)
                  case measure => simp [intOf]; omega
          · obtain rfl : j = 2 := by omega
            have U2 := hid (usedB_yes (f := duo x y) (n := 2) (u := q) (fun i hi => (HJ.out i (by omega)).1) (fun i h1 h2 => (HJ.out i h2).2 h1))
            clear HJ
            go_wp2
            go_ret
            exact ⟨ret_b (by rw [U1.out, U2.out]; rfl), _, rfl⟩
  · rw [okF_out hk]
    have hIn : Hid (∀ w, Calls Try.prog 96 #[.int .i64 k, .int .i64 1, .int .i64 5] w fun e w' => e = .returned (.bool false) ∧ w = w') := fun w => by
      have h := s_In k 1 5 w
      rwa [show (decide ((1 : Int) ≤ k) && decide (k ≤ 5)) = false by simp only [Bool.and_eq_false_iff, decide_eq_false_iff_not]; omega] at h
    clear hk
    go_enter Try.func94, Try.ntmps94
    go_wp2_with (first | (go_at_call 96; refine (hIn.out _).mono ?_; rintro e w' ⟨rfl, rfl⟩))
    go_ret
    exact ⟨rfl, 0, rfl⟩
theorem s_Ok (k : Int) (a b c x y : Nat) (g : Nat) (w : World) (hr : Row w g 59 (#[.int .i64 k, .float .f32 a, .float .f32 b, .float .f32 c, .float .f32 x, .float .f32 y] : Array Value)) : Calls Try.prog 94 #[.pointer (some ⟨g, 0, none⟩)] w fun e w' => e = .returned (.bool (okF k a b c x y)) ∧ ∃ n, w' = w.drewN n := s_OkAt k a b c x y g 0 w hr.filAt
end Go.Proofs.Ytnkjmgadnejdlab

/- 'SameFilter' of both. -/
namespace Go.Fk
open Go Go.RowKit
/-- Are two rows the same? -/
def eqRow (f f' : Nat → Nat) (n : Nat) : Bool := (List.range n).all (fun j => sameB (f j) (f' j))
theorem eqRow_no {f f' : Nat → Nat} {n j : Nat} (hj : j < n) (h : sameB (f j) (f' j) = false) : eqRow f f' n = false := by
  rw [Bool.eq_false_iff]
  intro hh
  have := List.all_eq_true.1 hh j (List.mem_range.2 hj)
  rw [h] at this; cases this
theorem eqRow_yes {f f' : Nat → Nat} {n : Nat} (h : ∀ j, j < n → sameB (f j) (f' j) = true) : eqRow f f' n = true := List.all_eq_true.2 (fun j hj => h j (List.mem_range.1 hj))
theorem all_step {p : Nat → Prop} {k : Nat} (h : ∀ j, j < k → p j) (hk : p k) : ∀ j, j < k + 1 → p j := fun j hj => by
  by_cases e : j = k
  · rw [e]; exact hk
  · exact h j (by omega)
section
variable {P : Program} {ops : Array Oper} {w : World} {K : FuncId → Array Value → Value → Prop} {Q : Act → Prop} {o : Oper} {rest : List Oper} {a : Act} {C : World → Prop}
theorem wpLoose_anyW (hw : Region.wanted o (yielded ops a.tmps) = true) (V : Value → Prop) (h1 : ∀ n, within P (fun w' => ∃ m, w' = w.drewN m) K V ((execOp a.eval o).run P (w.drewN n)))
    (h2 : ∀ v, V v → wpLoose P ops (fun w' => ∃ m, w' = w.drewN m) K Q rest (a.put o.dst v)) : wpLoose P ops (fun w' => ∃ m, w' = w.drewN m) K Q (o :: rest) a :=
  ⟨V, .inl ⟨hw, fun w' hw' => by obtain ⟨n, rfl⟩ := hw'; exact h1 n⟩, h2⟩
theorem wpLoose_skip (hw : Region.wanted o (yielded ops a.tmps) = false) (h : wpLoose P ops C K Q rest (a.put o.dst undef)) : wpLoose P ops C K Q (o :: rest) a :=
  ⟨(· = undef), .inr ⟨hw, rfl⟩, fun v hv => by rw [hv]; exact h⟩
theorem wpLoose_nilW (hw : Region.wanted o (yielded ops a.tmps) = true) {x : Operand} (hop : o.op = Op.nilCheck x) {ad : Addr} (hx : a.eval x = .pointer (some ad))
    (hK : wpLoose P ops (fun w' => ∃ m, w' = w.drewN m) K Q rest (a.put o.dst (.pointer (some ad)))) : wpLoose P ops (fun w' => ∃ m, w' = w.drewN m) K Q (o :: rest) a := by
  refine wpLoose_anyW hw (· = .pointer (some ad)) (fun n => ?_) (by rintro v rfl; exact hK)
  simp [execOp, hop, hx, within, Result.andThen]
  exact ⟨_, rfl⟩
end
end Go.Fk
namespace Go.Proofs.Ytnkjmgadnejdlab
open Go.RowKit Go.Fk
end Go.Proofs.Ytnkjmgadnejdlab

/- Rings over facts of memory: 'ValidRing', 'SameRing' of both. -/
namespace Go.Fk
open Go Go.RowKit
theorem RdS.form {w : World} {B : Nat} {s : Value} {x : Nat → Nat} {n : Nat} (h : RdS w B s x n) : (s = .slice none 0 0 ∧ n = 0) ∨ ∃ (a : Addr) (cap : Nat), s = .slice (some a) n cap ∧ n ≤ cap ∧ cap ≤ maxLen := by
  rcases h with h | ⟨a, cap, h1, h2, h3, _⟩
  · exact .inl h
  · exact .inr ⟨a, cap, h1, h2, h3⟩
section
variable {P : Program} {w : World} {ops : Array Oper} {rest : List Oper} {o : Oper} {a : Act} {Q : Exit → Act → World → Prop}
/-- The length of a slice that can be read. -/
theorem wpList_lenR (hg : o.guard = none) {x : Operand} {t : TypeId} (hop : o.op = Op.call { callee := Callee.builtin Builtin.len, args := #[x], argTypes := #[t] }) {v : Value} (hx : a.eval x = v) {e : TypeId} (hu : P.underlying t = some (.slice e)) {w1 : World} {B : Nat} {y : Nat → Nat} {n : Nat} (hv : RdS w1 B v y n)
    (h : wpList P ops Q rest (a.put o.dst (.int .i64 n)) w) : wpList P ops Q (o :: rest) a w := by
  refine wpList_plain hg fun K hK' => ?_
  unfold Oper.wp
  rcases hv.form with ⟨rfl, rfl⟩ | ⟨ad, cap, rfl, _, _⟩
  all_goals
    simp [execOp, hop, hx, Result.andThen, resolve, invoke, builtin, Builtin.len_, run_underlying hu]
    exact hK' _ _ h
end
theorem sameB_can (x y : Nat) : sameB (can .f32 x) (can .f32 y) = sameB x y := by unfold sameB; rw [can_can, can_can]
theorem okRing_iff {n : Nat} {k : Int} : okRing n k = true ↔ 1 ≤ n ∧ n ≤ 1024 ∧ 0 ≤ k ∧ k < n := by
  unfold okRing; simp only [Bool.and_eq_true, decide_eq_true_eq]; omega
theorem okRing_j {n : Nat} {k : Int} (h : okRing n k = true) : 1 ≤ n ∧ n ≤ 1024 ∧ ∃ j : Nat, k = j ∧ j < n := by
  obtain ⟨h1, h2, h3, h4⟩ := okRing_iff.1 h
  exact ⟨h1, h2, k.toNat, by omega, by omega⟩
/-- Two slices of floats, compared. -/
def sameS (x x' : Nat → Nat) (n n' : Nat) : Bool := (n == n') && eqRow x x' n
theorem sameS_ne {x x' : Nat → Nat} {n n' : Nat} (h : n ≠ n') : sameS x x' n n' = false := by simp [sameS, h]
theorem sameS_eq {x x' : Nat → Nat} {n : Nat} : sameS x x' n n = eqRow x x' n := by simp [sameS]
end Go.Fk
namespace Go.Proofs.Ytnkjmgadnejdlab
open Go.RowKit Go.Fk
set_option maxHeartbeats 2000000 in
theorem i_ValidRingR (B : Nat) (s : Value) (x : Nat → Nat) (n : Nat) (k : Int) (w : World) (hs : RdS w B s x n) : Calls Try.prog 84 #[.agg #[s, .int .i64 k]] w fun e w' => e = .returned (.bool (okRing n k)) ∧ le w w' := by
  have HL := hid (le_alloc w (.cells #[s, .int .i64 k] 40))
  rcases hs.form with ⟨rfl, rfl⟩ | ⟨a, cap, rfl, hc, hm⟩
  · have HZ : Hid (okRing 0 k = false) := by unfold Hid okRing; simp
    clear hs
    go_enter Try.func84, Try.ntmps84
    go_wp2
    go_ret
    exact ⟨ret_b HZ.out.symm, HL.out⟩
  clear hs
  unfold maxLen at hm
  obtain ⟨z, hz⟩ : ∃ z, z = okRing n k := ⟨_, rfl⟩
  rw [← hz]
  unfold okRing at hz
  by_cases h1 : 1 ≤ (n : Int) <;> by_cases h2 : (n : Int) ≤ 1024 <;> by_cases h3 : 0 ≤ k <;> by_cases h4 : k < (n : Int)
  all_goals first | (exfalso; omega) | skip
  all_goals
    simp only [h1, h2, h3, h4, decide_true, decide_false, Bool.and_true, Bool.and_false, Bool.true_and, Bool.false_and] at hz
    have HZ := hid hz
    clear hz
    go_enter Try.func84, Try.ntmps84
    go_wp2
    go_ret
    exact ⟨ret_b HZ.out.symm, HL.out⟩
theorem s_l02RingR (B : Nat) (s : Value) (x : Nat → Nat) (n : Nat) (k : Int) (g f : Nat) (w : World) (hs : RdS w B s x n) (c0 : w.cell? ⟨g, f, none⟩ = some s) (c1 : w.cell? ⟨g, f + 1, none⟩ = some (.int .i64 k)) (hk : (Lit.int .i64 k).wf = true) :
    Calls Try.prog 116 #[.pointer (some ⟨g, f, none⟩)] w fun e w' => e = .returned (.bool (okRing n k)) ∧ w = w' := by
  rcases hs.form with ⟨rfl, rfl⟩ | ⟨a, cap, rfl, hc, hm⟩
  · have HZ : Hid (okRing 0 k = false) := by unfold Hid okRing; simp
    clear hs
    have HI : Hid (∀ w, Calls Try.prog 96 #[.int .i64 0, .int .i64 1, .int .i64 1024] w fun e w' => e = .returned (.bool false) ∧ w = w') := fun w => s_In 0 1 1024 w
    go_enter Try.func116, Try.ntmps116
    go_wp2_with (go_at_call 96; refine (HI.out _).mono ?_; rintro e w' ⟨rfl, rfl⟩)
    go_ret
    exact ⟨ret_b HZ.out.symm, rfl⟩
  clear hs hk
  unfold maxLen at hm
  obtain ⟨z, hz⟩ : ∃ z, z = okRing n k := ⟨_, rfl⟩
  rw [← hz]
  unfold okRing at hz
  by_cases h1 : 1 ≤ (n : Int) <;> by_cases h2 : (n : Int) ≤ 1024
  all_goals first | (exfalso; omega) | skip
  all_goals
    simp only [h1, h2, decide_true, decide_false, Bool.and_true, Bool.and_false, Bool.true_and, Bool.false_and] at hz
    have HZ := hid hz
    clear hz
    go_enter Try.func116, Try.ntmps116
    go_wp2_with (go_at_call 96; refine (s_In _ _ _ _).mono ?_; rintro e w' ⟨rfl, rfl⟩)
    go_ret
    refine ⟨ret_b ?_, rfl⟩
    first | (rw [HZ.out]; done) | (rw [HZ.out]; congr 1; exact decide_eq_decide.2 (by omega))
theorem infoRingL : (Try.prog.info? 138).map (·.size) = some 2 := by kernel_rfl
end Go.Proofs.Ytnkjmgadnejdlab

/- What pipes ask of their lists: 'l04All', 'l04Rings'; 'areScatters', 'isFiniteRing', 'areSections'. -/
namespace Go.Fk
open Go Go.RowKit
/-- Two lists of sections. -/
def secOk (x y : Nat → CD) (k : Nat) : Bool := rgOk x k && rgOk y k && (rgN x k == rgN y k)
theorem withinB_can {y x l g : Nat} (h : can .f32 y = x) : withinB y l g = withinB x l g := by
  unfold withinB; rw [← h, order_can_l, order_can_l]
def scB (x : Nat → Nat) (n : Nat) : Bool := allB (fun i => withinB (x i) 3212836864 1065353216) n
end Go.Fk
namespace Go.Proofs.Ytnkjmgadnejdlab
open Go.RowKit Go.Fk
set_option maxRecDepth 100000 in
set_option maxHeartbeats 1000000 in
theorem s_l04All (B : Nat) (s : Value) (x : Nat → Nat) (n : Nat) (w : World) (hs : RdS w B s x n) : Calls Try.prog 95 #[s] w fun e w' => e = .returned (.bool (finB x n)) ∧ ∃ m, w' = w.drewN m := by
  have hrd := hid hs
  rcases hs with ⟨rfl, rfl⟩ | ⟨a, cap, rfl, hc, hm, hx⟩
  · clear hrd
    go_enter Try.func95, Try.ntmps95
    go_wp2
    go_loop [3] (fun i => i = .int .i64 0) (fun _ => 0)
    case atStart => rfl
    case round =>
      obtain rfl := hrel
      go_wp2
      go_ret
      exact ⟨rfl, 0, rfl⟩
  · have HX := hid hx
    unfold maxLen at hm
    clear hx
    go_enter Try.func95, Try.ntmps95
    go_wp2
    go_loopw [3] (fun i wr => ∃ j : Nat, j ≤ n ∧ i = .int .i64 j ∧ Hid (∀ i, i < j → fin (x i) = true) ∧ ∃ m, wr = w.drewN m) (fun i _ => n - (intOf i).toNat)
    case atStart => exact ⟨0, by omega, rfl, fun i hi => absurd hi (by omega), 0, rfl⟩
    case round =>
      obtain ⟨j, hj, rfl, HJ, m, rfl⟩ := hrel
      by_cases hlt : j < n
      · obtain ⟨_, y, c1, f1, e1⟩ := HX.out j hlt
        have hfy : fin y = fin (x j) := fin_can ((e1).trans (by rw [← e1, can_can]))
        cases hb : fin (x j)
        · have HF := hid (fun w => (hfy.trans hb) ▸ s_l01Finite y w)
          clear hfy e1
          go_wp2_with (go_at_call 54; ((with_reducible refine (HF.out _).mono ?_); rintro e w' ⟨rfl, q, rfl⟩))
          go_ret
          exact ⟨ret_b (finB_no hlt hb).symm, _, rfl⟩
        · have HF := hid (fun w => (hfy.trans hb) ▸ s_l01Finite y w)
          clear hfy e1
          go_wp2_with (go_at_call 54; ((with_reducible refine (HF.out _).mono ?_); rintro e w' ⟨rfl, q, rfl⟩))
          go_roundw
          case rel => exact ⟨j + 1, by omega, by go_num, fun i hi => by rcases Nat.lt_or_ge i j with h | h; exact HJ.out i h; rw [show i = j by omega]; exact hb, _, rfl⟩
          case measure => simp [intOf]; omega
      · obtain rfl : j = n := by omega
        go_wp2
        go_ret
        exact ⟨ret_b (finB_yes HJ.out).symm, _, rfl⟩
set_option maxRecDepth 100000 in
set_option maxHeartbeats 1000000 in
theorem s_l04Rings (B : Nat) (s : Value) (x : Nat → CD) (n : Nat) (w : World) (hs : (CD.sl 2 n x).RdN w B s) (hx : RgsOk x n) : Calls Try.prog 89 #[s] w fun e w' => e = .returned (.bool (allB (rgOk x) n)) ∧ ∃ m, w' = w.drewN m := by
  rcases hs.form with ⟨rfl, rfl⟩ | ⟨b, o, cap, rfl, hc, hm⟩
  · clear hs hx
    go_enter Try.func89, Try.ntmps89
    go_wp2
    go_loop [3] (fun i => i = .int .i64 0) (fun _ => 0)
    case atStart => rfl
    case round =>
      obtain rfl := hrel
      go_wp2
      go_ret
      exact ⟨rfl, 0, rfl⟩
  · have HA := hid (fun k (hk : k < n) => hx.at hs hk)
    unfold maxLen at hm
    clear hx hs
    go_enter Try.func89, Try.ntmps89
    go_wp2
    go_loopw [3] (fun i wr => ∃ j : Nat, j ≤ n ∧ i = .int .i64 j ∧ Hid (∀ i, i < j → rgOk x i = true) ∧ ∃ m, wr = w.drewN m) (fun i _ => n - (intOf i).toNat)
    case atStart => exact ⟨0, by omega, rfl, fun i hi => absurd hi (by omega), 0, rfl⟩
    case round =>
      obtain ⟨j, hj, rfl, HJ, m, rfl⟩ := hrel
      by_cases hlt : j < n
      · obtain ⟨u, c0, c1, hw, hr⟩ := HA.out j hlt
        have HR := hid (fun (m : Nat) => s_l02RingR B u (rgX x j) (rgN x j) (rgK x j) b (o + j * 2) (w.drewN m) (hr.le (le_drewN w m)) c0 c1 hw)
        have HL := hid (fun (m : Nat) => s_l04All B u (rgX x j) (rgN x j) (w.drewN m) (hr.le (le_drewN w m)))
        cases h1 : okRing (rgN x j) (rgK x j)
        · rw [h1] at HR
          have hb : rgOk x j = false := by unfold rgOk; rw [h1]; rfl
          clear h1 c1 hw hr
          go_wp2_with (first | (with_reducible refine wpList_indexW0 rfl rfl rfl rfl Try.underlying58 uinfoRingI hlt ?_) | (go_at_call 116; ((with_reducible refine (HR.out _).mono ?_); rintro e w' ⟨rfl, rfl⟩)))
          go_ret
          exact ⟨ret_b (allB_no hlt hb).symm, _, rfl⟩
        cases h2 : finB (rgX x j) (rgN x j)
        · rw [h1] at HR; rw [h2] at HL
          have hb : rgOk x j = false := by unfold rgOk; rw [h2, Bool.and_false]
          clear h1 h2 c1 hw hr
          go_wp2_with (first | (with_reducible refine wpList_indexW0 rfl rfl rfl rfl Try.underlying58 uinfoRingI hlt ?_) | (with_reducible refine wpList_indexW0G rfl rfl rfl Try.underlying58 uinfoRingI hlt (by kernel_rfl) ?_) | (go_at_call 116; ((with_reducible refine (HR.out _).mono ?_); rintro e w' ⟨rfl, rfl⟩)) | (go_at_call 95; ((with_reducible refine (HL.out _).mono ?_); rintro e w' ⟨rfl, q, rfl⟩)))
          go_ret
          exact ⟨ret_b (allB_no hlt hb).symm, _, rfl⟩
        · rw [h1] at HR; rw [h2] at HL
          have hb : rgOk x j = true := by unfold rgOk; rw [h1, h2]; rfl
          clear h1 h2 c1 hw hr
          go_wp2_with (first | (with_reducible refine wpList_indexW0 rfl rfl rfl rfl Try.underlying58 uinfoRingI hlt ?_) | (with_reducible refine wpList_indexW0G rfl rfl rfl Try.underlying58 uinfoRingI hlt (by kernel_rfl) ?_) | (go_at_call 116; ((with_reducible refine (HR.out _).mono ?_); rintro e w' ⟨rfl, rfl⟩)) | (go_at_call 95; ((with_reducible refine (HL.out _).mono ?_); rintro e w' ⟨rfl, q, rfl⟩)))
          go_roundw
          case rel => exact ⟨j + 1, by omega, by go_num, fun i hi => by rcases Nat.lt_or_ge i j with h | h; exact HJ.out i h; rw [show i = j by omega]; exact hb, _, rfl⟩
          case measure => simp [intOf]; omega
      · obtain rfl : j = n := by omega
        go_wp2
        go_ret
        exact ⟨ret_b (allB_yes HJ.out).symm, _, rfl⟩
set_option maxRecDepth 100000 in
set_option maxHeartbeats 1000000 in
theorem i_areScatters (B : Nat) (s : Value) (x : Nat → Nat) (n : Nat) (w : World) (hs : RdS w B s x n) : Calls Try.prog 103 #[s] w fun e w' => e = .returned (.bool (scB x n)) ∧ w = w' := by
  rcases hs with ⟨rfl, rfl⟩ | ⟨a, cap, rfl, hc, hm, hx⟩
  · go_enter Try.func103, Try.ntmps103
    go_wp2
    go_loop [7] (fun i => i = .int .i64 0) (fun _ => 0)
    case atStart => rfl
    case round =>
      obtain rfl := hrel
      go_wp2
      go_ret
      exact ⟨rfl, rfl⟩
  · have HX := hid hx
    unfold maxLen at hm
    clear hx
    go_enter Try.func103, Try.ntmps103
    go_wp2
    go_loop [7] (fun i => ∃ j : Nat, j ≤ n ∧ i = .int .i64 j ∧ Hid (∀ i, i < j → withinB (x i) 3212836864 1065353216 = true)) (fun i => n - (intOf i).toNat)
    case atStart => exact ⟨0, by omega, rfl, fun i hi => absurd hi (by omega)⟩
    case round =>
      obtain ⟨j, hj, rfl, HJ⟩ := hrel
      by_cases hlt : j < n
      · obtain ⟨_, y, c1, f1, e1⟩ := HX.out j hlt
        have hfy := withinB_can (l := 3212836864) (g := 1065353216) e1
        cases hb : withinB (x j) 3212836864 1065353216
        · have HF := hid (fun w => (hfy.trans hb) ▸ i_isWithin y 3212836864 1065353216 w)
          clear hfy e1
          go_wp2_with (go_at_call 35; ((with_reducible refine (HF.out _).mono ?_); rintro e w' ⟨rfl, rfl⟩))
          go_ret
          exact ⟨ret_b (allB_no (p := fun i => withinB (x i) 3212836864 1065353216) hlt hb).symm, rfl⟩
        · have HF := hid (fun w => (hfy.trans hb) ▸ i_isWithin y 3212836864 1065353216 w)
          clear hfy e1
          go_wp2_with (go_at_call 35; ((with_reducible refine (HF.out _).mono ?_); rintro e w' ⟨rfl, rfl⟩))
          go_round
          case rel => exact ⟨j + 1, by omega, by go_num, fun i hi => by rcases Nat.lt_or_ge i j with h | h; exact HJ.out i h; rw [show i = j by omega]; exact hb⟩
          case measure => simp [intOf]; omega
      · obtain rfl : j = n := by omega
        go_wp2
        go_ret
        exact ⟨ret_b (allB_yes HJ.out).symm, rfl⟩
theorem i_areFiniteQ (B : Nat) (s : Value) (x : Nat → Nat) (n : Nat) (w : World) (hs : RdS w B s x n) : Calls Try.prog 85 #[s] w fun e w' => e = .returned (.bool (finB x n)) ∧ w = w' := by
  rcases hs with ⟨rfl, rfl⟩ | ⟨a, cap, rfl, h2, h3, h4⟩
  · exact i_areFinite_nil x w
  · obtain ⟨y, hy⟩ : ∃ y : Nat → Nat, ∀ i, i < n → w.cell? (a.add i) = some (.float .f32 (y i)) ∧ fits .f32 (y i) ∧ can .f32 (y i) = x i := by
      have : ∀ i, ∃ y, i < n → w.cell? (a.add i) = some (.float .f32 y) ∧ fits .f32 y ∧ can .f32 y = x i := fun i => by
        by_cases hi : i < n
        · obtain ⟨_, y, e⟩ := h4 i hi; exact ⟨y, fun _ => e⟩
        · exact ⟨0, fun h => absurd h hi⟩
      exact Classical.skolem.1 this
    have he : finB x n = finB y n := by
      have key : ∀ i, i < n → fin (x i) = fin (y i) := fun i hi => by
        rw [← (hy i hi).2.2]; exact fin_can (can_can _ _)
      cases hb : finB y n
      · obtain ⟨i, hi, hf⟩ := finB_ex hb
        exact finB_no hi ((key i hi).trans hf)
      · exact finB_yes (fun i hi => (key i hi).trans (finB_all hb i hi))
    rw [he]
    exact i_areFinite y a n cap w (by unfold maxLen at h3; omega) (fun i hi => (hy i hi).2.1) (fun i hi => (hy i hi).1)
set_option maxRecDepth 100000 in
set_option maxHeartbeats 1000000 in
theorem i_isFiniteRing (B : Nat) (s : Value) (x : Nat → Nat) (n : Nat) (k : Int) (w : World) (hs : RdS w B s x n) : Calls Try.prog 42 #[.agg #[s, .int .i64 k]] w fun e w' => e = .returned (.bool (okRing n k && finB x n)) ∧ le w w' := by
  have HV := hid (fun (w' : World) (hl : le w w') => i_ValidRingR B s x n k w' (hs.le hl))
  have HF := hid (fun (w' : World) (hl : le w w') => i_areFiniteQ B s x n w' (hs.le hl))
  have F := (Frg.nil w).box 40 #[s, .int .i64 k]
  clear hs
  cases h1 : okRing n k <;> cases h2 : finB x n
  all_goals
    rw [h1] at HV; rw [h2] at HF
    clear h1 h2
    go_enter Try.func42, Try.ntmps42
    go_wp2_with (first | ((with_reducible refine at_loadU (ty := 40) rfl rfl ?_); (with_reducible refine wpList_loadG F rfl rfl rfl m0 Try.underlying40 rfl uinfoRingI rfl ?_)) | (go_at_call 84; ((with_reducible refine (HV.out _ F.below).mono ?_); rintro e w1 ⟨rfl, hl⟩; replace F := F.le hl; clear hl; have c0 := (F.row m0).cell? 0)) | (go_at_call 85; ((with_reducible refine (HF.out _ F.below).mono ?_); rintro e w1 ⟨rfl, rfl⟩)))
    go_ret
    exact ⟨rfl, F.below⟩
set_option maxRecDepth 100000 in
set_option maxHeartbeats 4000000 in
theorem i_areSections (B B' : Nat) (s s' : Value) (x y : Nat → CD) (n : Nat) (w : World) (hs : (CD.sl 2 n x).RdN w B s) (hs' : (CD.sl 2 n y).RdN w B' s') (hx : RgsOk x n) (hy : RgsOk y n) : Calls Try.prog 104 #[s, s'] w fun e w' => e = .returned (.bool (allB (secOk x y) n)) ∧ le w w' := by
  by_cases h0 : n = 0
  · subst h0
    rcases hs.form with ⟨rfl, _⟩ | ⟨b, o, cap, rfl, hc, hm⟩
    all_goals
      clear hs hs' hx hy
      go_enter Try.func104, Try.ntmps104
      go_wp2
      go_loop [10] (fun i => i = .int .i64 0) (fun _ => 0)
      case atStart => rfl
      case round =>
        obtain rfl := hrel
        go_wp2
        go_ret
        exact ⟨rfl, le_refl _⟩
  rcases hs.form with ⟨_, h⟩ | ⟨b, o, cap, rfl, hc, hm⟩
  · exact absurd h h0
  rcases hs'.form with ⟨_, h⟩ | ⟨b', o', cap', rfl, hc', hm'⟩
  · exact absurd h h0
  have HA := hid (fun k (hk : k < n) => hx.at hs hk)
  have HB := hid (fun k (hk : k < n) => hy.at hs' hk)
  unfold maxLen at hm hm'
  clear hx hy hs hs' h0
  go_enter Try.func104, Try.ntmps104
  go_wp2
  go_loopw [10] (fun i wr => ∃ k : Nat, k ≤ n ∧ i = .int .i64 k ∧ Hid (∀ i, i < k → secOk x y i = true) ∧ Hid (le w wr)) (fun i _ => n - (intOf i).toNat)
  case atStart => exact ⟨0, by omega, rfl, fun i hi => absurd hi (by omega), le_refl _⟩
  case round =>
    obtain ⟨k, hk, rfl, HJ, HL⟩ := hrel
    rename_i wr _
    by_cases hlt : k < n
    · obtain ⟨u, c0, c1, hwu, hr⟩ := HA.out k hlt
      obtain ⟨v, e0, e1, hwv, hq⟩ := HB.out k hlt
      have gx : Hid (∀ (j : Nat) (q : Value), [u, .int .i64 (rgK x k)][j]? = some q → wr.cell? ((⟨b, o + k * 2, none⟩ : Addr).add j) = some q) := fun j q hj => by
        rw [add_none]
        match j, hj with
        | 0, hj => simp at hj; subst hj; exact (Below.cell HL.out (cell_lt' c0)).trans c0
        | 1, hj => simp at hj; subst hj; exact (Below.cell HL.out (cell_lt' c1)).trans c1
      have gy0 : Hid (∀ (w2 : World) (_ : le wr w2) (j : Nat) (q : Value), [v, .int .i64 (rgK y k)][j]? = some q → w2.cell? ((⟨b', o' + k * 2, none⟩ : Addr).add j) = some q) := fun w2 h2 j q hj => by
        rw [add_none]
        match j, hj with
        | 0, hj => simp at hj; subst hj; exact (Below.cell (le_trans HL.out h2) (cell_lt' e0)).trans e0
        | 1, hj => simp at hj; subst hj; exact (Below.cell (le_trans HL.out h2) (cell_lt' e1)).trans e1
      have ou := hid hr.one
      have ov := hid hq.one
      have HR := hid (fun (w' : World) (hl : le wr w') => i_isFiniteRing B u (rgX x k) (rgN x k) (rgK x k) w' (hr.le (le_trans HL.out hl)))
      have HS := hid (fun (w' : World) (hl : le wr w') => i_isFiniteRing B' v (rgX y k) (rgN y k) (rgK y k) w' (hq.le (le_trans HL.out hl)))
      have F := Frg.nil wr
      clear c0 c1 e0 e1 hwu hwv
      cases h1 : rgOk x k
      · have hb : secOk x y k = false := by unfold secOk; rw [h1]; rfl
        rw [show (okRing (rgN x k) (rgK x k) && finB (rgX x k) (rgN x k)) = false from h1] at HR
        clear h1 hr hq
        go_wp2_with (first | (with_reducible refine wpList_indexW0 rfl rfl rfl rfl Try.underlying58 uinfoRingI hlt ?_) | ((with_reducible refine at_loadU (ty := 40) rfl rfl ?_); first | (with_reducible refine wpList_loadW rfl rfl rfl [u, .int .i64 (rgK x k)] gx.out Try.underlying40 rfl uinfoRingI rfl ?_) | (with_reducible refine wpList_loadW rfl rfl rfl [v, .int .i64 (rgK y k)] (gy0.out _ F.below) Try.underlying40 rfl uinfoRingI rfl ?_) | (with_reducible refine wpList_loadG F rfl rfl rfl (by first | exact m0 | exact m1) Try.underlying40 rfl uinfoRingI rfl ?_)) | ((with_reducible refine at_store rfl ?_); (refine wpList_storeG F rfl rfl rfl rfl rfl uinfoRingI rfl (by first | exact one_head ou.out rfl | exact one_head ov.out rfl) ?_; clear F; intro W F zW; clear zW)) | (go_at_call 42; ((with_reducible refine (HR.out _ F.below).mono ?_); rintro e w1 ⟨rfl, hl⟩; replace F := F.le hl; clear hl)))
        go_ret
        exact ⟨ret_b (allB_no (p := secOk x y) hlt hb).symm, le_trans HL.out F.below⟩
      cases h2 : rgOk y k
      · have hb : secOk x y k = false := by unfold secOk; rw [h1, h2]; rfl
        rw [show (okRing (rgN x k) (rgK x k) && finB (rgX x k) (rgN x k)) = true from h1] at HR
        rw [show (okRing (rgN y k) (rgK y k) && finB (rgX y k) (rgN y k)) = false from h2] at HS
        clear h1 h2 hr hq
        go_wp2_with (first | (with_reducible refine wpList_indexW0 rfl rfl rfl rfl Try.underlying58 uinfoRingI hlt ?_) | ((with_reducible refine at_loadU (ty := 40) rfl rfl ?_); first | (with_reducible refine wpList_loadW rfl rfl rfl [u, .int .i64 (rgK x k)] gx.out Try.underlying40 rfl uinfoRingI rfl ?_) | (with_reducible refine wpList_loadW rfl rfl rfl [v, .int .i64 (rgK y k)] (gy0.out _ F.below) Try.underlying40 rfl uinfoRingI rfl ?_) | (with_reducible refine wpList_loadG F rfl rfl rfl (by first | exact m0 | exact m1) Try.underlying40 rfl uinfoRingI rfl ?_)) | ((with_reducible refine at_loadV (ty := 40) rfl rfl ?_); (with_reducible refine wpList_loadGG F rfl rfl (by first | exact m0 | exact m1) Try.underlying40 rfl uinfoRingI rfl (by kernel_rfl) ?_)) | ((with_reducible refine at_store rfl ?_); (refine wpList_storeG F rfl rfl rfl rfl rfl uinfoRingI rfl (by first | exact one_head ou.out rfl | exact one_head ov.out rfl) ?_; clear F; intro W F zW; clear zW)) | (go_at_call 42; first | ((with_reducible refine (HR.out _ F.below).mono ?_); rintro e w1 ⟨rfl, hl⟩; replace F := F.le hl; clear hl) | ((with_reducible refine (HS.out _ F.below).mono ?_); rintro e w1 ⟨rfl, hl⟩; replace F := F.le hl; clear hl; have d0 := (F.row m1).cell? 0; have d1 := (F.row m0).cell? 0)))
        go_ret
        exact ⟨ret_b (allB_no (p := secOk x y) hlt hb).symm, le_trans HL.out F.below⟩
      have n1 : 1 ≤ rgN x k := by have := h1; unfold rgOk at this; simp only [Bool.and_eq_true] at this; exact (okRing_iff.1 this.1).1
      have n2 : 1 ≤ rgN y k := by have := h2; unfold rgOk at this; simp only [Bool.and_eq_true] at this; exact (okRing_iff.1 this.1).1
      rw [show (okRing (rgN x k) (rgK x k) && finB (rgX x k) (rgN x k)) = true from h1] at HR
      rw [show (okRing (rgN y k) (rgK y k) && finB (rgX y k) (rgN y k)) = true from h2] at HS
      obtain ⟨au, cu, _, rfl, hcu, hmu, _⟩ := hr.raw n1
      obtain ⟨av, cv, _, rfl, hcv, hmv, _⟩ := hq.raw n2
      unfold maxLen at hmu hmv
      by_cases h3 : rgN x k = rgN y k
      · have hb : secOk x y k = true := by unfold secOk; rw [h1, h2, h3]; simp
        clear h1 h2 hr hq n1 n2
        have h4 : (((rgN x k : Nat) : Int) != ((rgN y k : Nat) : Int)) = false := by simp [h3]
        replace h3 := hid h3
        go_wp2_with (first | (with_reducible refine wpList_indexW0 rfl rfl rfl rfl Try.underlying58 uinfoRingI hlt ?_) | ((with_reducible refine at_loadU (ty := 40) rfl rfl ?_); first | (with_reducible refine wpList_loadW rfl rfl rfl [(.slice (some au) (rgN x k) cu), .int .i64 (rgK x k)] gx.out Try.underlying40 rfl uinfoRingI rfl ?_) | (with_reducible refine wpList_loadW rfl rfl rfl [(.slice (some av) (rgN y k) cv), .int .i64 (rgK y k)] (gy0.out _ F.below) Try.underlying40 rfl uinfoRingI rfl ?_) | (with_reducible refine wpList_loadG F rfl rfl rfl (by first | exact m0 | exact m1) Try.underlying40 rfl uinfoRingI rfl ?_)) | ((with_reducible refine at_loadV (ty := 40) rfl rfl ?_); (with_reducible refine wpList_loadGG F rfl rfl (by first | exact m0 | exact m1) Try.underlying40 rfl uinfoRingI rfl (by kernel_rfl) ?_)) | ((with_reducible refine at_store rfl ?_); (refine wpList_storeG F rfl rfl rfl rfl rfl uinfoRingI rfl (by first | exact one_head ou.out rfl | exact one_head ov.out rfl) ?_; clear F; intro W F zW; clear zW)) | (go_at_call 42; first | ((with_reducible refine (HR.out _ F.below).mono ?_); rintro e w1 ⟨rfl, hl⟩; replace F := F.le hl; clear hl) | ((with_reducible refine (HS.out _ F.below).mono ?_); rintro e w1 ⟨rfl, hl⟩; replace F := F.le hl; clear hl; have d0 := (F.row m1).cell? 0; have d1 := (F.row m0).cell? 0)))
        have HL1 := hid (le_trans HL.out F.below)
        go_roundw
        case rel => exact ⟨k + 1, by omega, by go_num, fun i hi => by rcases Nat.lt_or_ge i k with h | h; exact HJ.out i h; rw [show i = k by omega]; exact hb, HL1.out⟩
        case measure => simp [intOf]; omega
      · have hb : secOk x y k = false := by unfold secOk; rw [h1, h2]; simp [h3]
        clear h1 h2 hr hq n1 n2
        have h4 : (((rgN x k : Nat) : Int) != ((rgN y k : Nat) : Int)) = true := by simp; omega
        replace h3 := hid h3
        go_wp2_with (first | (with_reducible refine wpList_indexW0 rfl rfl rfl rfl Try.underlying58 uinfoRingI hlt ?_) | ((with_reducible refine at_loadU (ty := 40) rfl rfl ?_); first | (with_reducible refine wpList_loadW rfl rfl rfl [(.slice (some au) (rgN x k) cu), .int .i64 (rgK x k)] gx.out Try.underlying40 rfl uinfoRingI rfl ?_) | (with_reducible refine wpList_loadW rfl rfl rfl [(.slice (some av) (rgN y k) cv), .int .i64 (rgK y k)] (gy0.out _ F.below) Try.underlying40 rfl uinfoRingI rfl ?_) | (with_reducible refine wpList_loadG F rfl rfl rfl (by first | exact m0 | exact m1) Try.underlying40 rfl uinfoRingI rfl ?_)) | ((with_reducible refine at_loadV (ty := 40) rfl rfl ?_); (with_reducible refine wpList_loadGG F rfl rfl (by first | exact m0 | exact m1) Try.underlying40 rfl uinfoRingI rfl (by kernel_rfl) ?_)) | ((with_reducible refine at_store rfl ?_); (refine wpList_storeG F rfl rfl rfl rfl rfl uinfoRingI rfl (by first | exact one_head ou.out rfl | exact one_head ov.out rfl) ?_; clear F; intro W F zW; clear zW)) | (go_at_call 42; first | ((with_reducible refine (HR.out _ F.below).mono ?_); rintro e w1 ⟨rfl, hl⟩; replace F := F.le hl; clear hl) | ((with_reducible refine (HS.out _ F.below).mono ?_); rintro e w1 ⟨rfl, hl⟩; replace F := F.le hl; clear hl; have d0 := (F.row m1).cell? 0; have d1 := (F.row m0).cell? 0)))
        go_ret
        exact ⟨ret_b (allB_no (p := secOk x y) hlt hb).symm, le_trans HL.out F.below⟩
    · obtain rfl : k = n := by omega
      go_wp2
      go_ret
      exact ⟨ret_b (allB_yes HJ.out).symm, HL.out⟩
end Go.Proofs.Ytnkjmgadnejdlab

/- Steps of a region that draws its order: guarded operations, loads of one cell, addresses of elements, new rows, lengths. Nothing here names a program. -/
namespace Go.Fk
open Go Go.RowKit
section
variable {E : Ext} {P : Program} {ops : Array Oper} {W : World} {K : FuncId → Array Value → World → Value → Prop} {Q : Act → World → Prop} {F : Facts} {k : Nat} {o : Oper} {rest : List Oper} {a : Act}
theorem wpFreeD_oneW (hw : Region.wanted o (yielded ops a.tmps) = true) (v : Value) (hr : ∀ w, E.R W w → (execOp a.eval o).run P w = .ok (.value v) w)
    (h : wpFreeD E P ops .any W K Q rest (k + 1) (a.put o.dst v) (F.with k (fun _ => True))) : wpFreeD E P ops .any W K Q (o :: rest) k a F := by
  refine ⟨fun _ u => u = v, ⟨fun _ _ _ _ h => h, .inl ⟨hw, fun w hw _ => ?_⟩⟩, fun u hu => ?_⟩
  · rw [hr w hw]; exact ⟨E.refl w, rfl⟩
  · obtain ⟨w, _, _, rfl⟩ := hu
    exact wpFreeD_weaken _ _ _ _ _ (fun e w h => ⟨h.1, fun _ => trivial⟩) h
theorem wpFreeD_skip (hw : Region.wanted o (yielded ops a.tmps) = false)
    (h : wpFreeD E P ops .any W K Q rest (k + 1) (a.put o.dst undef) (F.with k (fun _ => True))) : wpFreeD E P ops .any W K Q (o :: rest) k a F := by
  refine ⟨fun _ u => u = undef, ⟨fun _ _ _ _ h => h, .inr ⟨hw, fun w _ _ => rfl⟩⟩, fun u hu => ?_⟩
  obtain ⟨w, _, _, rfl⟩ := hu
  exact wpFreeD_weaken _ _ _ _ _ (fun e w h => ⟨h.1, fun _ => trivial⟩) h
theorem wpFreeD_callW (hw : Region.wanted o (yielded ops a.tmps) = true) {f : FuncId} {xs : Array Operand} {ts : Array TypeId} (hop : o.op = Op.call { callee := Callee.value (Operand.func f), args := xs, argTypes := ts }) {fn : Func} (hf : P.funcs[f]? = some fn)
    (hb : fn.body.isNone = false) (hn : (fn.name == "runtime.NumGoroutine") = false) {args : Array Value} (ha : xs.map a.eval = args) (hm : MonoT E (K f args))
    (h1 : ∀ w, E.R W w → behind .any o F w → Calls P f args w (fun e w' => ∃ v, e = .returned v ∧ le w w' ∧ K f args w' v)) (h2 : ∀ v, (∃ w, E.R W w ∧ (∀ e, F e w) ∧ K f args w v) → wpFreeD E P ops .any W K Q rest (k + 1) (a.put o.dst v) (F.with k (fun w => K f args w v))) : wpFreeD E P ops .any W K Q (o :: rest) k a F := by
  refine ⟨K f args, ⟨hm, .inl ⟨hw, fun w hw hbe => ?_⟩⟩, fun v hv => h2 v hv⟩
  rw [run_enter hop hf hb hn ha]
  refine ⟨E.refl w, (h1 w hw hbe).mono ?_, fun _ _ h => h⟩
  rintro e w' ⟨v, rfl, hl, hk⟩
  exact ⟨v, rfl, E.of_le hl, hk⟩
theorem wpFreeD_madeW (hwt : Region.wanted o (yielded ops a.tmps) = true) (f : Nat → Value) (t : TypeId) (cs : Array Value) (hr : ∀ w, (execOp a.eval o).run P w = .ok (.value (f w.heap.size)) (w.alloc (.cells cs t)))
    (h : ∀ b, wpFreeD leX P ops .any W K Q rest (k + 1) (a.put o.dst (f b)) (F.with k (fun w => ∃ b', f b = f b' ∧ Row w b' t cs))) : wpFreeD leX P ops .any W K Q (o :: rest) k a F := by
  refine ⟨fun w v => ∃ b', v = f b' ∧ Row w b' t cs, ⟨fun v w w' hw hv => ?_, .inl ⟨hwt, fun w hw _ => ?_⟩⟩, fun v hv => ?_⟩
  · obtain ⟨b', e, hrow⟩ := hv
    exact ⟨b', e, hrow.le hw⟩
  · rw [hr w]
    exact ⟨le_alloc w _, w.heap.size, rfl, Row.new w t cs⟩
  · obtain ⟨w, _, _, b, rfl, _⟩ := hv
    exact h b
theorem wpFreeD_load1 (hg : o.guard = none) {ty : TypeId} {x : Operand} (hop : o.op = .load ty x) {p : Addr} (hx : a.eval x = .pointer (some p)) {v : Value} (hv : ∀ w, E.R W w → w.cell? p = some v) (hu : ∀ w, (isAgg ty).run P w = .ok false w)
    (h : wpFreeD E P ops .any W K Q rest (k + 1) (a.put o.dst v) (F.with k (fun _ => True))) : wpFreeD E P ops .any W K Q (o :: rest) k a F := by
  refine wpFreeD_one hg v (fun w hw => ?_) h
  have hl : (Instr.loadAt ty (.pointer (some p))).run P w = .ok v w := by
    simp [Instr.loadAt, Instr.sureAddr, loadVar, hu, hv w hw]
  simp [execOp, hop, hx, hl, Result.andThen]
theorem wpFreeD_load1W (hw : Region.wanted o (yielded ops a.tmps) = true) {ty : TypeId} {x : Operand} (hop : o.op = .load ty x) {p : Addr} (hx : a.eval x = .pointer (some p)) {v : Value} (hv : ∀ w, E.R W w → w.cell? p = some v) (hu : ∀ w, (isAgg ty).run P w = .ok false w)
    (h : wpFreeD E P ops .any W K Q rest (k + 1) (a.put o.dst v) (F.with k (fun _ => True))) : wpFreeD E P ops .any W K Q (o :: rest) k a F := by
  refine wpFreeD_oneW hw v (fun w hw => ?_) h
  have hl : (Instr.loadAt ty (.pointer (some p))).run P w = .ok v w := by
    simp [Instr.loadAt, Instr.sureAddr, loadVar, hu, hv w hw]
  simp [execOp, hop, hx, hl, Result.andThen]
theorem wpFreeD_indexW0 (hg : o.guard = none) {t : TypeId} {x y : Operand} (hop : o.op = .indexAddr t x y) {b off n cap sz i : Nat} {kk : IntKind} {e : TypeId} (hx : a.eval x = .slice (some ⟨b, off, none⟩) n cap) (hy : a.eval y = .int kk (i : Int)) (hu : P.underlying t = some (.slice e)) (hs : (P.info? e).map (·.size) = some sz) (hi : i < n)
    (h : wpFreeD E P ops .any W K Q rest (k + 1) (a.put o.dst (.pointer (some ⟨b, off + i * sz, none⟩))) (F.with k (fun _ => True))) : wpFreeD E P ops .any W K Q (o :: rest) k a F :=
  wpFreeD_indexW hg hop hx hy hu hs hi (by rw [add_none]; exact h)
theorem wpFreeD_lenR (hg : o.guard = none) {x : Operand} {t : TypeId} (hop : o.op = Op.call { callee := Callee.builtin Builtin.len, args := #[x], argTypes := #[t] }) {v : Value} (hx : a.eval x = v) {e : TypeId} (hu : P.underlying t = some (.slice e)) {w1 : World} {B : Nat} {y : Nat → Nat} {n : Nat} (hv : RdS w1 B v y n)
    (h : wpFreeD E P ops .any W K Q rest (k + 1) (a.put o.dst (.int .i64 n)) (F.with k (fun _ => True))) : wpFreeD E P ops .any W K Q (o :: rest) k a F := by
  refine wpFreeD_one hg (.int .i64 n) (fun w _ => ?_) h
  rcases hv.form with ⟨rfl, rfl⟩ | ⟨ad, cap, rfl, _, _⟩
  all_goals
    simp [execOp, hop, hx, Result.andThen, resolve, invoke, builtin, Builtin.len_, run_underlying hu]
    try rfl
end
end Go.Fk

/- Pieces for bows and jets: guarded loads of structs in drawn regions; pairs of rings and of numbers. Nothing here names a program. -/
namespace Go.Fk
open Go Go.RowKit
section
variable {P : Program} {ops : Array Oper} {W : World} {K : FuncId → Array Value → World → Value → Prop} {Q : Act → World → Prop} {F : Facts} {k : Nat} {o : Oper} {rest : List Oper} {a : Act}
theorem wpFreeD_loadGW {w0 w1 : World} {L : List Fact} {n : Nat} (hF : Frg w0 w1 L) (hW : W = w1.drewN n) (hw : Region.wanted o (yielded ops a.tmps) = true) {ty : TypeId} {x : Operand} (hop : o.op = .load ty x) {g : Nat} (hx : a.eval x = .pointer (some ⟨g, 0, none⟩)) {t : TypeId} {cs : Array Value} {d : TypeDesc}
    (hm : rowF g t cs ∈ L) (hu : P.underlying ty = some d) (hd : (match d with | .struct _ | .array _ _ => true | _ => false) = true) {m : Nat} (hi : (P.info? ty).map (·.size) = some m) (hs : cs.size = m)
    (h : wpFreeD leX P ops .any W K Q rest (k + 1) (a.put o.dst (.agg cs)) (F.with k (fun _ => True))) : wpFreeD leX P ops .any W K Q (o :: rest) k a F := by
  subst hW hs
  refine wpFreeD_oneW hw (.agg cs) (fun w hw => ?_) h
  have := run_loadVar_row (P := P) w g t ty cs (0, 0) _ (((hF.row hm).drewN n).le hw) hu hd hi
  simp [execOp, hop, hx, Instr.loadAt, Instr.sureAddr, this, Result.andThen]
theorem wpFreeD_indexWG {E : Ext} (hw : Region.wanted o (yielded ops a.tmps) = true) {t : TypeId} {x y : Operand} (hop : o.op = .indexAddr t x y) {b off n cap sz i : Nat} {kk : IntKind} {e : TypeId} (hx : a.eval x = .slice (some ⟨b, off, none⟩) n cap) (hy : a.eval y = .int kk (i : Int)) (hu : P.underlying t = some (.slice e)) (hs : (P.info? e).map (·.size) = some sz) (hi : i < n)
    (h : wpFreeD E P ops .any W K Q rest (k + 1) (a.put o.dst (.pointer (some ⟨b, off + i * sz, none⟩))) (F.with k (fun _ => True))) : wpFreeD E P ops .any W K Q (o :: rest) k a F := by
  refine wpFreeD_oneW hw (.pointer (some ⟨b, off + i * sz, none⟩)) (fun w _ => ?_) h
  cases hq : P.info? e with
  | none => simp [hq] at hs
  | some inf =>
    have hz : inf.size = sz := by simpa [hq] using hs
    have h2 : (i : Int) < (n : Int) := by omega
    simp [execOp, hop, hx, hy, Instr.indexAt, asIntOf, run_underlying hu, sizeOf, typeInfo, hq, hz, h2, hi, Result.andThen, add_none]
end
theorem Row.at_part {w : World} {g : Nat} {t : TypeId} {cs : Array Value} (R : Row w g t cs) {f : Nat} {ds : List Value} (hp : ∀ j, j < ds.length → cs[f + j]? = ds[j]?) : ∀ (j : Nat) (v : Value), ds[j]? = some v → w.cell? ((⟨g, f, none⟩ : Addr).add j) = some v := fun j v hv => by
  rw [add_none, R.cell?, hp j (List.getElem?_eq_some_iff.1 hv).1, hv]
theorem CD.RdN.mono {w : World} {B B' : Nat} (hB : B ≤ B') : ∀ {c : CD} {v : Value}, c.RdN w B v → c.RdN w B' v := by
  intro c
  induction c with
  | sl wd n x ih =>
    intro v h
    rcases h with h | ⟨b, o, cap, h1, h2, h3, h4⟩
    · exact .inl h
    · exact .inr ⟨b, o, cap, h1, h2, h3, fun i hi => by obtain ⟨h5, u, h6, h7⟩ := h4 i hi; exact ⟨by omega, u, h6, ih i h7⟩⟩
  | _ => intro v h; exact h
theorem bool_ft (b : Bool) : b = false ∨ b = true := by cases b <;> simp
/-- A slice of floats, as a tree. -/
def slT (x : Nat → Nat) (n : Nat) : CD := .sl 1 n (fun i => .fcn .f32 (x i))
theorem slT_rds {x : Nat → Nat} {n B : Nat} {w : World} {s : Value} (h : (slT x n).RdN w B s) : RdS w B s x n := h.rd.rds
theorem CD.RdN.congr {w : World} {B : Nat} : ∀ {c d : CD} {v : Value}, c.RdN w B v → c.Eqv d → d.RdN w B v := by
  intro c
  induction c with
  | sl wd n x ih =>
    intro d v h he
    obtain ⟨y, rfl, hy⟩ := he
    rcases h with h | ⟨b, o, cap, h1, h2, h3, h4⟩
    · exact .inl h
    · exact .inr ⟨b, o, cap, h1, h2, h3, fun i hi => by obtain ⟨h5, u, h6, h7⟩ := h4 i hi; exact ⟨h5, u, h6, ih i h7 (hy i hi)⟩⟩
  | _ => intro d v h he; cases he; exact h
/-- A copy of a slice of floats. -/
theorem slT_cp {n : Nat} {x : Nat → CD} (h : ∀ i, i < n → (x i).flk = some .f32) : (CD.sl 1 n x).cp.Eqv (slT (fun i => (x i).fx) n) :=
  ⟨_, rfl, fun i hi => by show (x i).cn.Eqv (.fcn .f32 (x i).fx); rw [CD.cn_fl (h i (by simpa using hi))]; exact CD.Eqv.refl _⟩
/-- Two rings. -/
def rg2 (x y : Nat → Nat) (nx ny : Nat) (j k : Int) : Nat → CD
  | 0 => slT x nx
  | 1 => .int .i64 j
  | 2 => slT y ny
  | _ => .int .i64 k
theorem rg2_ok (x y : Nat → Nat) (nx ny : Nat) (j k : Int) : RgsOk (rg2 x y nx ny j k) 2 := fun i hi => by
  match i, hi with
  | 0, _ => exact ⟨⟨_, rfl, fun _ _ => rfl, rfl⟩, rfl⟩
  | 1, _ => exact ⟨⟨_, rfl, fun _ _ => rfl, rfl⟩, rfl⟩
def rngB (x : Nat → Nat) (n : Nat) (j : Int) : Bool := okRing n j && finB x n
theorem rg2_all (x y : Nat → Nat) (nx ny : Nat) (j k : Int) : allB (rgOk (rg2 x y nx ny j k)) 2 = (rngB x nx j && rngB y ny k) := by
  simp [allB, List.range_succ]; rfl
theorem rg2_rd {x y : Nat → Nat} {nx ny B b : Nat} {j k : Int} {w : World} {s t : Value} {ty : TypeId} (hs : (slT x nx).RdN w B s) (ht : (slT y ny).RdN w B t) (wj : (Lit.int .i64 j).wf = true) (wk : (Lit.int .i64 k).wf = true) (R : Row w b ty #[s, .int .i64 j, t, .int .i64 k]) :
    (CD.sl 2 2 (rg2 x y nx ny j k)).RdN w (max B (b + 1)) (.slice (some ⟨b, 0, none⟩) 2 2) := by
  refine .inr ⟨b, 0, 2, rfl, Nat.le_refl _, by decide, fun i hi => ⟨by omega, ?_⟩⟩
  match i, hi with
  | 0, _ => exact ⟨s, R.cell? 0, hs.mono (by omega)⟩
  | 1, _ => exact ⟨_, R.cell? 1, rfl, wj⟩
  | 2, _ => exact ⟨t, R.cell? 2, ht.mono (by omega)⟩
  | 3, _ => exact ⟨_, R.cell? 3, rfl, wk⟩
/-- Two numbers. -/
def two (m o : Nat) : Nat → Nat := fun i => match i with | 0 => can .f32 m | _ => can .f32 o
theorem fin_two (m o : Nat) : finB (two m o) 2 = (fin m && fin o) := by
  have e : ∀ z, fin (can .f32 z) = fin z := fun z => fin_can (can_can _ _)
  simp [finB, two, List.range_succ, e]
theorem two_rd {m o b : Nat} {w : World} {ty : TypeId} (hm : fits .f32 m) (ho : fits .f32 o) (R : Row w b ty #[.float .f32 m, .float .f32 o]) : RdS w (b + 1) (.slice (some ⟨b, 0, none⟩) 2 2) (two m o) 2 :=
  .inr ⟨⟨b, 0, none⟩, 2, rfl, Nat.le_refl _, by decide, fun i hi => ⟨Nat.lt_succ_self _, by rw [add_none, Nat.zero_add]; match i, hi with
    | 0, _ => exact ⟨m, R.cell? 0, hm, rfl⟩
    | 1, _ => exact ⟨o, R.cell? 1, ho, rfl⟩⟩⟩
/-- A new row that is known. -/
def OutSl (t : TypeId) (n : Nat) (cs : Array Value) (w : World) (e : Ending) (w' : World) : Prop := ∃ g, e = .returned (.slice (some ⟨g, 0, none⟩) n n) ∧ w.heap.size ≤ g ∧ Row w' g t cs ∧ le w w'
theorem Frg.rowS {w0 w w' : World} {L : List Fact} (h : Frg w0 w L) (k : Below w.heap.size w w') {g : Nat} {t : TypeId} {cs : Array Value} (hg : w.heap.size ≤ g) (hr : Row w' g t cs) : Frg w0 w' (rowF g t cs :: L) :=
  h.push k hr hg hr.lt
end Go.Fk

/- 'ValidInstrument' of both. -/
namespace Go.Fk
open Go Go.RowKit
def partQ (a : Nat) : Bool := (FloatKind.f32.format.order a 0 == some .gt || FloatKind.f32.format.order a 0 == some .eq) && (FloatKind.f32.format.order a 1065353216 == some .lt)
def isQ (c q : Nat) : Bool := FloatKind.f32.format.order c q == some .eq
/-- Is an instrument valid? -/
def okI (t : ByteArray) (k : Int) (a b c : Nat) : Bool := nameB t && withinB b 0 1065353216 &&
  (if k = 1 then withinB a 0 1056964608 && partQ c else if k = 2 then partQ a && (isQ c 0 || isQ c 1065353216) else if k = 3 then partQ a && fin c else false)
end Go.Fk
namespace Go.Proofs.Ytnkjmgadnejdlab
open Go.RowKit Go.Fk
theorem i_isPartQ (a : Nat) (w : World) : Calls Try.prog 36 #[.float .f32 a] w fun e w' => e = .returned (.bool (partQ a)) ∧ w = w' := by
  rcases h0 : FloatKind.f32.format.order a 0 with _ | (_ | _ | _) <;> rcases h1 : FloatKind.f32.format.order a 1065353216 with _ | (_ | _ | _)
  all_goals
    go_enter Try.func36, Try.ntmps36
    go_wp2
    go_ret
    exact ⟨ret_b (by unfold partQ; rw [h0, h1]; rfl), rfl⟩
theorem s_Between0 (a g : Nat) (w : World) : Calls Try.prog 81 #[.float .f32 a, .float .f32 g, .bool false] w fun e w' => e = .returned (.bool (withinB a 0 g)) ∧ w = w' := by
  rcases h0 : FloatKind.f32.format.order a 0 with _ | (_ | _ | _) <;> rcases h1 : FloatKind.f32.format.order a g with _ | (_ | _ | _)
  all_goals
    go_enter Try.func81, Try.ntmps81
    go_wp2
    go_ret
    exact ⟨ret_b (by unfold withinB; rw [h0, h1]; rfl), rfl⟩
theorem s_Between1 (a : Nat) (w : World) : Calls Try.prog 81 #[.float .f32 a, .float .f32 1065353216, .bool true] w fun e w' => e = .returned (.bool (partQ a)) ∧ w = w' := by
  rcases h0 : FloatKind.f32.format.order a 0 with _ | (_ | _ | _) <;> rcases h1 : FloatKind.f32.format.order a 1065353216 with _ | (_ | _ | _)
  all_goals
    go_enter Try.func81, Try.ntmps81
    go_wp2
    go_ret
    exact ⟨ret_b (by unfold partQ; rw [h0, h1]; rfl), rfl⟩
set_option maxRecDepth 100000 in
set_option maxHeartbeats 4000000 in
theorem i_ValidInstrument (t : ByteArray) (k : Int) (a b c : Nat) (w : World) (ht : t.size ≤ maxLen) (hf : fits .f32 a ∧ fits .f32 b ∧ fits .f32 c) : Calls Try.prog 13 #[.agg #[.string t, .int .i64 k, .float .f32 a, .float .f32 b, .float .f32 c]] w (Out_b (okI t k a b c) w) := by
  have F := (Frg.nil w).box 32 #[.string t, .int .i64 k, .float .f32 a, .float .f32 b, .float .f32 c]
  have Hnm := hid (fun (w' : World) => i_isName t w' ht)
  have Hwb := hid (fun (w' : World) => i_isWithin b 0 1065353216 w')
  have Hwa := hid (fun (w' : World) => i_isWithin a 0 1056964608 w')
  have Hpa := hid (fun (w' : World) => i_isPartQ a w')
  have Hpc := hid (fun (w' : World) => i_isPartQ c w')
  have Hfc := hid (fun (w' : World) => i_isFinite c w' hf.2.2)
  clear hf ht
  rcases bool_ft (nameB t) with hnm | hnm
  · have E := hid (show okI t k a b c = false by unfold okI; simp [hnm])
    rw [hnm] at Hnm
    clear hnm
    go_enter Try.func13, Try.ntmps13
    go_wp2_with (first | ((with_reducible refine at_load rfl ?_); first | (with_reducible refine wpList_load1C rfl (g := w.heap.size) (f := 0) rfl (v := .string t) (by kernel_rfl) (F.row m0) rfl ukindString ?_) | (with_reducible refine wpList_load1C rfl (g := w.heap.size) (f := 1) rfl (v := .int .i64 _) (by kernel_rfl) (F.row m0) rfl ukindInt64 ?_) | (with_reducible refine wpList_load1C rfl (g := w.heap.size) (f := 2) rfl (v := .float .f32 a) (by kernel_rfl) (F.row m0) rfl ukindFloat32 ?_) | (with_reducible refine wpList_load1C rfl (g := w.heap.size) (f := 3) rfl (v := .float .f32 b) (by kernel_rfl) (F.row m0) rfl ukindFloat32 ?_) | (with_reducible refine wpList_load1C rfl (g := w.heap.size) (f := 4) rfl (v := .float .f32 c) (by kernel_rfl) (F.row m0) rfl ukindFloat32 ?_)) | (go_at_call 34; first | ((with_reducible refine (Hnm.out _).mono ?_); rintro e w1 ⟨rfl, hl⟩; replace F := F.le hl; clear hl)) | (go_at_call 35; first | ((with_reducible refine (Hwb.out _).mono ?_); rintro e w1 ⟨rfl, rfl⟩; skip) | ((with_reducible refine (Hwa.out _).mono ?_); rintro e w1 ⟨rfl, rfl⟩; skip)) | (go_at_call 36; first | ((with_reducible refine (Hpa.out _).mono ?_); rintro e w1 ⟨rfl, rfl⟩; skip) | ((with_reducible refine (Hpc.out _).mono ?_); rintro e w1 ⟨rfl, rfl⟩; skip)) | (go_at_call 37; first | ((with_reducible refine (Hfc.out _).mono ?_); rintro e w1 ⟨rfl, rfl⟩; skip)) | ((with_reducible refine listN F ?_); clear F; intro wN F))
    go_ret
    exact ⟨ret_b E.out.symm, F.below⟩
  have tnm := hid hnm
  rw [hnm] at Hnm
  clear hnm
  rcases bool_ft (withinB b 0 1065353216) with hwb | hwb
  · have E := hid (show okI t k a b c = false by unfold okI; simp [tnm.out, hwb])
    rw [hwb] at Hwb
    clear hwb
    go_enter Try.func13, Try.ntmps13
    go_wp2_with (first | ((with_reducible refine at_load rfl ?_); first | (with_reducible refine wpList_load1C rfl (g := w.heap.size) (f := 0) rfl (v := .string t) (by kernel_rfl) (F.row m0) rfl ukindString ?_) | (with_reducible refine wpList_load1C rfl (g := w.heap.size) (f := 1) rfl (v := .int .i64 _) (by kernel_rfl) (F.row m0) rfl ukindInt64 ?_) | (with_reducible refine wpList_load1C rfl (g := w.heap.size) (f := 2) rfl (v := .float .f32 a) (by kernel_rfl) (F.row m0) rfl ukindFloat32 ?_) | (with_reducible refine wpList_load1C rfl (g := w.heap.size) (f := 3) rfl (v := .float .f32 b) (by kernel_rfl) (F.row m0) rfl ukindFloat32 ?_) | (with_reducible refine wpList_load1C rfl (g := w.heap.size) (f := 4) rfl (v := .float .f32 c) (by kernel_rfl) (F.row m0) rfl ukindFloat32 ?_)) | (go_at_call 34; first | ((with_reducible refine (Hnm.out _).mono ?_); rintro e w1 ⟨rfl, hl⟩; replace F := F.le hl; clear hl)) | (go_at_call 35; first | ((with_reducible refine (Hwb.out _).mono ?_); rintro e w1 ⟨rfl, rfl⟩; skip) | ((with_reducible refine (Hwa.out _).mono ?_); rintro e w1 ⟨rfl, rfl⟩; skip)) | (go_at_call 36; first | ((with_reducible refine (Hpa.out _).mono ?_); rintro e w1 ⟨rfl, rfl⟩; skip) | ((with_reducible refine (Hpc.out _).mono ?_); rintro e w1 ⟨rfl, rfl⟩; skip)) | (go_at_call 37; first | ((with_reducible refine (Hfc.out _).mono ?_); rintro e w1 ⟨rfl, rfl⟩; skip)) | ((with_reducible refine listN F ?_); clear F; intro wN F))
    go_ret
    exact ⟨ret_b E.out.symm, F.below⟩
  have twb := hid hwb
  rw [hwb] at Hwb
  clear hwb
  by_cases k1 : k = 1
  · subst k1
    rcases bool_ft (withinB a 0 1056964608) with hwa | hwa
    · have E := hid (show okI t 1 a b c = false by unfold okI; simp [tnm.out, twb.out, hwa])
      rw [hwa] at Hwa
      clear hwa
      go_enter Try.func13, Try.ntmps13
      go_wp2_with (first | ((with_reducible refine at_load rfl ?_); first | (with_reducible refine wpList_load1C rfl (g := w.heap.size) (f := 0) rfl (v := .string t) (by kernel_rfl) (F.row m0) rfl ukindString ?_) | (with_reducible refine wpList_load1C rfl (g := w.heap.size) (f := 1) rfl (v := .int .i64 _) (by kernel_rfl) (F.row m0) rfl ukindInt64 ?_) | (with_reducible refine wpList_load1C rfl (g := w.heap.size) (f := 2) rfl (v := .float .f32 a) (by kernel_rfl) (F.row m0) rfl ukindFloat32 ?_) | (with_reducible refine wpList_load1C rfl (g := w.heap.size) (f := 3) rfl (v := .float .f32 b) (by kernel_rfl) (F.row m0) rfl ukindFloat32 ?_) | (with_reducible refine wpList_load1C rfl (g := w.heap.size) (f := 4) rfl (v := .float .f32 c) (by kernel_rfl) (F.row m0) rfl ukindFloat32 ?_)) | (go_at_call 34; first | ((with_reducible refine (Hnm.out _).mono ?_); rintro e w1 ⟨rfl, hl⟩; replace F := F.le hl; clear hl)) | (go_at_call 35; first | ((with_reducible refine (Hwb.out _).mono ?_); rintro e w1 ⟨rfl, rfl⟩; skip) | ((with_reducible refine (Hwa.out _).mono ?_); rintro e w1 ⟨rfl, rfl⟩; skip)) | (go_at_call 36; first | ((with_reducible refine (Hpa.out _).mono ?_); rintro e w1 ⟨rfl, rfl⟩; skip) | ((with_reducible refine (Hpc.out _).mono ?_); rintro e w1 ⟨rfl, rfl⟩; skip)) | (go_at_call 37; first | ((with_reducible refine (Hfc.out _).mono ?_); rintro e w1 ⟨rfl, rfl⟩; skip)) | ((with_reducible refine listN F ?_); clear F; intro wN F))
      go_ret
      exact ⟨ret_b E.out.symm, F.below⟩
    have twa := hid hwa
    rw [hwa] at Hwa
    clear hwa
    have E := hid (show okI t 1 a b c = partQ c by unfold okI; simp [tnm.out, twb.out, twa.out])
    go_enter Try.func13, Try.ntmps13
    go_wp2_with (first | ((with_reducible refine at_load rfl ?_); first | (with_reducible refine wpList_load1C rfl (g := w.heap.size) (f := 0) rfl (v := .string t) (by kernel_rfl) (F.row m0) rfl ukindString ?_) | (with_reducible refine wpList_load1C rfl (g := w.heap.size) (f := 1) rfl (v := .int .i64 _) (by kernel_rfl) (F.row m0) rfl ukindInt64 ?_) | (with_reducible refine wpList_load1C rfl (g := w.heap.size) (f := 2) rfl (v := .float .f32 a) (by kernel_rfl) (F.row m0) rfl ukindFloat32 ?_) | (with_reducible refine wpList_load1C rfl (g := w.heap.size) (f := 3) rfl (v := .float .f32 b) (by kernel_rfl) (F.row m0) rfl ukindFloat32 ?_) | (with_reducible refine wpList_load1C rfl (g := w.heap.size) (f := 4) rfl (v := .float .f32 c) (by kernel_rfl) (F.row m0) rfl ukindFloat32 ?_)) | (go_at_call 34; first | ((with_reducible refine (Hnm.out _).mono ?_); rintro e w1 ⟨rfl, hl⟩; replace F := F.le hl; clear hl)) | (go_at_call 35; first | ((with_reducible refine (Hwb.out _).mono ?_); rintro e w1 ⟨rfl, rfl⟩; skip) | ((with_reducible refine (Hwa.out _).mono ?_); rintro e w1 ⟨rfl, rfl⟩; skip)) | (go_at_call 36; first | ((with_reducible refine (Hpa.out _).mono ?_); rintro e w1 ⟨rfl, rfl⟩; skip) | ((with_reducible refine (Hpc.out _).mono ?_); rintro e w1 ⟨rfl, rfl⟩; skip)) | (go_at_call 37; first | ((with_reducible refine (Hfc.out _).mono ?_); rintro e w1 ⟨rfl, rfl⟩; skip)) | ((with_reducible refine listN F ?_); clear F; intro wN F))
    go_ret
    exact ⟨ret_b E.out.symm, F.below⟩
  have n1 : (k == 1) = false := by simpa using k1
  by_cases k2 : k = 2
  · subst k2
    rcases bool_ft (partQ a) with hpa | hpa
    · have E := hid (show okI t 2 a b c = false by unfold okI; simp [tnm.out, twb.out, hpa])
      rw [hpa] at Hpa
      clear hpa
      go_enter Try.func13, Try.ntmps13
      go_wp2_with (first | ((with_reducible refine at_load rfl ?_); first | (with_reducible refine wpList_load1C rfl (g := w.heap.size) (f := 0) rfl (v := .string t) (by kernel_rfl) (F.row m0) rfl ukindString ?_) | (with_reducible refine wpList_load1C rfl (g := w.heap.size) (f := 1) rfl (v := .int .i64 _) (by kernel_rfl) (F.row m0) rfl ukindInt64 ?_) | (with_reducible refine wpList_load1C rfl (g := w.heap.size) (f := 2) rfl (v := .float .f32 a) (by kernel_rfl) (F.row m0) rfl ukindFloat32 ?_) | (with_reducible refine wpList_load1C rfl (g := w.heap.size) (f := 3) rfl (v := .float .f32 b) (by kernel_rfl) (F.row m0) rfl ukindFloat32 ?_) | (with_reducible refine wpList_load1C rfl (g := w.heap.size) (f := 4) rfl (v := .float .f32 c) (by kernel_rfl) (F.row m0) rfl ukindFloat32 ?_)) | (go_at_call 34; first | ((with_reducible refine (Hnm.out _).mono ?_); rintro e w1 ⟨rfl, hl⟩; replace F := F.le hl; clear hl)) | (go_at_call 35; first | ((with_reducible refine (Hwb.out _).mono ?_); rintro e w1 ⟨rfl, rfl⟩; skip) | ((with_reducible refine (Hwa.out _).mono ?_); rintro e w1 ⟨rfl, rfl⟩; skip)) | (go_at_call 36; first | ((with_reducible refine (Hpa.out _).mono ?_); rintro e w1 ⟨rfl, rfl⟩; skip) | ((with_reducible refine (Hpc.out _).mono ?_); rintro e w1 ⟨rfl, rfl⟩; skip)) | (go_at_call 37; first | ((with_reducible refine (Hfc.out _).mono ?_); rintro e w1 ⟨rfl, rfl⟩; skip)) | ((with_reducible refine listN F ?_); clear F; intro wN F))
      go_ret
      exact ⟨ret_b E.out.symm, F.below⟩
    have tpa := hid hpa
    rw [hpa] at Hpa
    clear hpa
    rcases ho : FloatKind.f32.format.order c 0 with _ | (_ | _ | _) <;> rcases hp : FloatKind.f32.format.order c 1065353216 with _ | (_ | _ | _)
    all_goals
      first
      | (have E := hid (show okI t 2 a b c = true by unfold okI isQ; rw [ho, hp]; simp [tnm.out, twb.out, tpa.out])
         go_enter Try.func13, Try.ntmps13
         go_wp2_with (first | ((with_reducible refine at_load rfl ?_); first | (with_reducible refine wpList_load1C rfl (g := w.heap.size) (f := 0) rfl (v := .string t) (by kernel_rfl) (F.row m0) rfl ukindString ?_) | (with_reducible refine wpList_load1C rfl (g := w.heap.size) (f := 1) rfl (v := .int .i64 _) (by kernel_rfl) (F.row m0) rfl ukindInt64 ?_) | (with_reducible refine wpList_load1C rfl (g := w.heap.size) (f := 2) rfl (v := .float .f32 a) (by kernel_rfl) (F.row m0) rfl ukindFloat32 ?_) | (with_reducible refine wpList_load1C rfl (g := w.heap.size) (f := 3) rfl (v := .float .f32 b) (by kernel_rfl) (F.row m0) rfl ukindFloat32 ?_) | (with_reducible refine wpList_load1C rfl (g := w.heap.size) (f := 4) rfl (v := .float .f32 c) (by kernel_rfl) (F.row m0) rfl ukindFloat32 ?_)) | (go_at_call 34; first | ((with_reducible refine (Hnm.out _).mono ?_); rintro e w1 ⟨rfl, hl⟩; replace F := F.le hl; clear hl)) | (go_at_call 35; first | ((with_reducible refine (Hwb.out _).mono ?_); rintro e w1 ⟨rfl, rfl⟩; skip) | ((with_reducible refine (Hwa.out _).mono ?_); rintro e w1 ⟨rfl, rfl⟩; skip)) | (go_at_call 36; first | ((with_reducible refine (Hpa.out _).mono ?_); rintro e w1 ⟨rfl, rfl⟩; skip) | ((with_reducible refine (Hpc.out _).mono ?_); rintro e w1 ⟨rfl, rfl⟩; skip)) | (go_at_call 37; first | ((with_reducible refine (Hfc.out _).mono ?_); rintro e w1 ⟨rfl, rfl⟩; skip)) | ((with_reducible refine listN F ?_); clear F; intro wN F))
         go_ret
         exact ⟨ret_b E.out.symm, F.below⟩
         done)
      | (have E := hid (show okI t 2 a b c = false by unfold okI isQ; rw [ho, hp]; simp [tnm.out, twb.out, tpa.out])
         go_enter Try.func13, Try.ntmps13
         go_wp2_with (first | ((with_reducible refine at_load rfl ?_); first | (with_reducible refine wpList_load1C rfl (g := w.heap.size) (f := 0) rfl (v := .string t) (by kernel_rfl) (F.row m0) rfl ukindString ?_) | (with_reducible refine wpList_load1C rfl (g := w.heap.size) (f := 1) rfl (v := .int .i64 _) (by kernel_rfl) (F.row m0) rfl ukindInt64 ?_) | (with_reducible refine wpList_load1C rfl (g := w.heap.size) (f := 2) rfl (v := .float .f32 a) (by kernel_rfl) (F.row m0) rfl ukindFloat32 ?_) | (with_reducible refine wpList_load1C rfl (g := w.heap.size) (f := 3) rfl (v := .float .f32 b) (by kernel_rfl) (F.row m0) rfl ukindFloat32 ?_) | (with_reducible refine wpList_load1C rfl (g := w.heap.size) (f := 4) rfl (v := .float .f32 c) (by kernel_rfl) (F.row m0) rfl ukindFloat32 ?_)) | (go_at_call 34; first | ((with_reducible refine (Hnm.out _).mono ?_); rintro e w1 ⟨rfl, hl⟩; replace F := F.le hl; clear hl)) | (go_at_call 35; first | ((with_reducible refine (Hwb.out _).mono ?_); rintro e w1 ⟨rfl, rfl⟩; skip) | ((with_reducible refine (Hwa.out _).mono ?_); rintro e w1 ⟨rfl, rfl⟩; skip)) | (go_at_call 36; first | ((with_reducible refine (Hpa.out _).mono ?_); rintro e w1 ⟨rfl, rfl⟩; skip) | ((with_reducible refine (Hpc.out _).mono ?_); rintro e w1 ⟨rfl, rfl⟩; skip)) | (go_at_call 37; first | ((with_reducible refine (Hfc.out _).mono ?_); rintro e w1 ⟨rfl, rfl⟩; skip)) | ((with_reducible refine listN F ?_); clear F; intro wN F))
         go_ret
         exact ⟨ret_b E.out.symm, F.below⟩
         done)
  have n2 : (k == 2) = false := by simpa using k2
  by_cases k3 : k = 3
  · subst k3
    rcases bool_ft (partQ a) with hpa | hpa
    · have E := hid (show okI t 3 a b c = false by unfold okI; simp [tnm.out, twb.out, hpa])
      rw [hpa] at Hpa
      clear hpa
      go_enter Try.func13, Try.ntmps13
      go_wp2_with (first | ((with_reducible refine at_load rfl ?_); first | (with_reducible refine wpList_load1C rfl (g := w.heap.size) (f := 0) rfl (v := .string t) (by kernel_rfl) (F.row m0) rfl ukindString ?_) | (with_reducible refine wpList_load1C rfl (g := w.heap.size) (f := 1) rfl (v := .int .i64 _) (by kernel_rfl) (F.row m0) rfl ukindInt64 ?_) | (with_reducible refine wpList_load1C rfl (g := w.heap.size) (f := 2) rfl (v := .float .f32 a) (by kernel_rfl) (F.row m0) rfl ukindFloat32 ?_) | (with_reducible refine wpList_load1C rfl (g := w.heap.size) (f := 3) rfl (v := .float .f32 b) (by kernel_rfl) (F.row m0) rfl ukindFloat32 ?_) | (with_reducible refine wpList_load1C rfl (g := w.heap.size) (f := 4) rfl (v := .float .f32 c) (by kernel_rfl) (F.row m0) rfl ukindFloat32 ?_)) | (go_at_call 34; first | ((with_reducible refine (Hnm.out _).mono ?_); rintro e w1 ⟨rfl, hl⟩; replace F := F.le hl; clear hl)) | (go_at_call 35; first | ((with_reducible refine (Hwb.out _).mono ?_); rintro e w1 ⟨rfl, rfl⟩; skip) | ((with_reducible refine (Hwa.out _).mono ?_); rintro e w1 ⟨rfl, rfl⟩; skip)) | (go_at_call 36; first | ((with_reducible refine (Hpa.out _).mono ?_); rintro e w1 ⟨rfl, rfl⟩; skip) | ((with_reducible refine (Hpc.out _).mono ?_); rintro e w1 ⟨rfl, rfl⟩; skip)) | (go_at_call 37; first | ((with_reducible refine (Hfc.out _).mono ?_); rintro e w1 ⟨rfl, rfl⟩; skip)) | ((with_reducible refine listN F ?_); clear F; intro wN F))
      go_ret
      exact ⟨ret_b E.out.symm, F.below⟩
    have tpa := hid hpa
    rw [hpa] at Hpa
    clear hpa
    have E := hid (show okI t 3 a b c = fin c by unfold okI; simp [tnm.out, twb.out, tpa.out])
    go_enter Try.func13, Try.ntmps13
    go_wp2_with (first | ((with_reducible refine at_load rfl ?_); first | (with_reducible refine wpList_load1C rfl (g := w.heap.size) (f := 0) rfl (v := .string t) (by kernel_rfl) (F.row m0) rfl ukindString ?_) | (with_reducible refine wpList_load1C rfl (g := w.heap.size) (f := 1) rfl (v := .int .i64 _) (by kernel_rfl) (F.row m0) rfl ukindInt64 ?_) | (with_reducible refine wpList_load1C rfl (g := w.heap.size) (f := 2) rfl (v := .float .f32 a) (by kernel_rfl) (F.row m0) rfl ukindFloat32 ?_) | (with_reducible refine wpList_load1C rfl (g := w.heap.size) (f := 3) rfl (v := .float .f32 b) (by kernel_rfl) (F.row m0) rfl ukindFloat32 ?_) | (with_reducible refine wpList_load1C rfl (g := w.heap.size) (f := 4) rfl (v := .float .f32 c) (by kernel_rfl) (F.row m0) rfl ukindFloat32 ?_)) | (go_at_call 34; first | ((with_reducible refine (Hnm.out _).mono ?_); rintro e w1 ⟨rfl, hl⟩; replace F := F.le hl; clear hl)) | (go_at_call 35; first | ((with_reducible refine (Hwb.out _).mono ?_); rintro e w1 ⟨rfl, rfl⟩; skip) | ((with_reducible refine (Hwa.out _).mono ?_); rintro e w1 ⟨rfl, rfl⟩; skip)) | (go_at_call 36; first | ((with_reducible refine (Hpa.out _).mono ?_); rintro e w1 ⟨rfl, rfl⟩; skip) | ((with_reducible refine (Hpc.out _).mono ?_); rintro e w1 ⟨rfl, rfl⟩; skip)) | (go_at_call 37; first | ((with_reducible refine (Hfc.out _).mono ?_); rintro e w1 ⟨rfl, rfl⟩; skip)) | ((with_reducible refine listN F ?_); clear F; intro wN F))
    go_ret
    exact ⟨ret_b E.out.symm, F.below⟩
  have n3 : (k == 3) = false := by simpa using k3
  have E := hid (show okI t k a b c = false by unfold okI; simp [k1, k2, k3])
  go_enter Try.func13, Try.ntmps13
  go_wp2_with (first | ((with_reducible refine at_load rfl ?_); first | (with_reducible refine wpList_load1C rfl (g := w.heap.size) (f := 0) rfl (v := .string t) (by kernel_rfl) (F.row m0) rfl ukindString ?_) | (with_reducible refine wpList_load1C rfl (g := w.heap.size) (f := 1) rfl (v := .int .i64 _) (by kernel_rfl) (F.row m0) rfl ukindInt64 ?_) | (with_reducible refine wpList_load1C rfl (g := w.heap.size) (f := 2) rfl (v := .float .f32 a) (by kernel_rfl) (F.row m0) rfl ukindFloat32 ?_) | (with_reducible refine wpList_load1C rfl (g := w.heap.size) (f := 3) rfl (v := .float .f32 b) (by kernel_rfl) (F.row m0) rfl ukindFloat32 ?_) | (with_reducible refine wpList_load1C rfl (g := w.heap.size) (f := 4) rfl (v := .float .f32 c) (by kernel_rfl) (F.row m0) rfl ukindFloat32 ?_)) | (go_at_call 34; first | ((with_reducible refine (Hnm.out _).mono ?_); rintro e w1 ⟨rfl, hl⟩; replace F := F.le hl; clear hl)) | (go_at_call 35; first | ((with_reducible refine (Hwb.out _).mono ?_); rintro e w1 ⟨rfl, rfl⟩; skip) | ((with_reducible refine (Hwa.out _).mono ?_); rintro e w1 ⟨rfl, rfl⟩; skip)) | (go_at_call 36; first | ((with_reducible refine (Hpa.out _).mono ?_); rintro e w1 ⟨rfl, rfl⟩; skip) | ((with_reducible refine (Hpc.out _).mono ?_); rintro e w1 ⟨rfl, rfl⟩; skip)) | (go_at_call 37; first | ((with_reducible refine (Hfc.out _).mono ?_); rintro e w1 ⟨rfl, rfl⟩; skip)) | ((with_reducible refine listN F ?_); clear F; intro wN F))
  go_ret
  exact ⟨ret_b E.out.symm, F.below⟩
set_option maxRecDepth 100000 in
set_option maxHeartbeats 4000000 in
theorem s_l08Instrument (t : ByteArray) (k : Int) (a b c g f : Nat) (w : World) (cs : Array Value) (R : Row w g 32 cs) (hc : ∀ j, j < 5 → cs[f + j]? = [.string t, .int .i64 k, .float .f32 a, .float .f32 b, .float .f32 c][j]?) (ht : t.size ≤ maxLen) (hf : fits .f32 a ∧ fits .f32 b ∧ fits .f32 c) : Calls Try.prog 33 #[.pointer (some ⟨g, f, none⟩)] w (Out_b (okI t k a b c) w) := by
  have F := Frg.nil w
  have RW := hid (fun (w' : World) (hl : le w w') => R.le hl)
  have e0 : cs[f + 0]? = some (.string t) := hc 0 (by decide)
  have e1 : cs[f + 1]? = some (.int .i64 k) := hc 1 (by decide)
  have e2 : cs[f + 2]? = some (.float .f32 a) := hc 2 (by decide)
  have e3 : cs[f + 3]? = some (.float .f32 b) := hc 3 (by decide)
  have e4 : cs[f + 4]? = some (.float .f32 c) := hc 4 (by decide)
  have e0 : cs[f]? = some (.string t) := e0
  clear R hc
  replace e0 := hid e0
  replace e1 := hid e1
  replace e2 := hid e2
  replace e3 := hid e3
  replace e4 := hid e4
  have Hnm := hid (fun (w' : World) => s_l08Name t w' ht)
  have Hwb := hid (fun (w' : World) => s_Between0 b 1065353216 w')
  have Hwa := hid (fun (w' : World) => s_Between0 a 1056964608 w')
  have Hpa := hid (fun (w' : World) => s_Between1 a w')
  have Hpc := hid (fun (w' : World) => s_Between1 c w')
  have Hfc := hid (fun (w' : World) => s_l01Finite c w')
  clear hf ht
  rcases bool_ft (nameB t) with hnm | hnm
  · have E := hid (show okI t k a b c = false by unfold okI; simp [hnm])
    rw [hnm] at Hnm
    clear hnm
    go_enter Try.func33, Try.ntmps33
    go_wp2_with (first | ((with_reducible refine at_load rfl ?_); first | (with_reducible refine wpList_load1C rfl (g := g) (f := f) rfl (v := .string t) (by kernel_rfl) (RW.out _ F.below) e0.out ukindString ?_) | (with_reducible refine wpList_load1C rfl (g := g) (f := f + 1) rfl (v := .int .i64 _) (by kernel_rfl) (RW.out _ F.below) e1.out ukindInt64 ?_) | (with_reducible refine wpList_load1C rfl (g := g) (f := f + 2) rfl (v := .float .f32 a) (by kernel_rfl) (RW.out _ F.below) e2.out ukindFloat32 ?_) | (with_reducible refine wpList_load1C rfl (g := g) (f := f + 3) rfl (v := .float .f32 b) (by kernel_rfl) (RW.out _ F.below) e3.out ukindFloat32 ?_) | (with_reducible refine wpList_load1C rfl (g := g) (f := f + 4) rfl (v := .float .f32 c) (by kernel_rfl) (RW.out _ F.below) e4.out ukindFloat32 ?_)) | (go_at_call 80; first | ((with_reducible refine (Hnm.out _).mono ?_); rintro e w1 ⟨rfl, hl⟩; replace F := F.le hl; clear hl)) | (go_at_call 81; first | ((with_reducible refine (Hwb.out _).mono ?_); rintro e w1 ⟨rfl, rfl⟩; skip) | ((with_reducible refine (Hwa.out _).mono ?_); rintro e w1 ⟨rfl, rfl⟩; skip) | ((with_reducible refine (Hpa.out _).mono ?_); rintro e w1 ⟨rfl, rfl⟩; skip) | ((with_reducible refine (Hpc.out _).mono ?_); rintro e w1 ⟨rfl, rfl⟩; skip)) | (go_at_call 54; first | ((with_reducible refine (Hfc.out _).mono ?_); rintro e w1 ⟨rfl, q, rfl⟩; replace F := F.drewN q)) | ((with_reducible refine listN F ?_); clear F; intro wN F))
    go_ret
    exact ⟨ret_b E.out.symm, F.below⟩
  have tnm := hid hnm
  rw [hnm] at Hnm
  clear hnm
  rcases bool_ft (withinB b 0 1065353216) with hwb | hwb
  · have E := hid (show okI t k a b c = false by unfold okI; simp [tnm.out, hwb])
    rw [hwb] at Hwb
    clear hwb
    go_enter Try.func33, Try.ntmps33
    go_wp2_with (first | ((with_reducible refine at_load rfl ?_); first | (with_reducible refine wpList_load1C rfl (g := g) (f := f) rfl (v := .string t) (by kernel_rfl) (RW.out _ F.below) e0.out ukindString ?_) | (with_reducible refine wpList_load1C rfl (g := g) (f := f + 1) rfl (v := .int .i64 _) (by kernel_rfl) (RW.out _ F.below) e1.out ukindInt64 ?_) | (with_reducible refine wpList_load1C rfl (g := g) (f := f + 2) rfl (v := .float .f32 a) (by kernel_rfl) (RW.out _ F.below) e2.out ukindFloat32 ?_) | (with_reducible refine wpList_load1C rfl (g := g) (f := f + 3) rfl (v := .float .f32 b) (by kernel_rfl) (RW.out _ F.below) e3.out ukindFloat32 ?_) | (with_reducible refine wpList_load1C rfl (g := g) (f := f + 4) rfl (v := .float .f32 c) (by kernel_rfl) (RW.out _ F.below) e4.out ukindFloat32 ?_)) | (go_at_call 80; first | ((with_reducible refine (Hnm.out _).mono ?_); rintro e w1 ⟨rfl, hl⟩; replace F := F.le hl; clear hl)) | (go_at_call 81; first | ((with_reducible refine (Hwb.out _).mono ?_); rintro e w1 ⟨rfl, rfl⟩; skip) | ((with_reducible refine (Hwa.out _).mono ?_); rintro e w1 ⟨rfl, rfl⟩; skip) | ((with_reducible refine (Hpa.out _).mono ?_); rintro e w1 ⟨rfl, rfl⟩; skip) | ((with_reducible refine (Hpc.out _).mono ?_); rintro e w1 ⟨rfl, rfl⟩; skip)) | (go_at_call 54; first | ((with_reducible refine (Hfc.out _).mono ?_); rintro e w1 ⟨rfl, q, rfl⟩; replace F := F.drewN q)) | ((with_reducible refine listN F ?_); clear F; intro wN F))
    go_ret
    exact ⟨ret_b E.out.symm, F.below⟩
  have twb := hid hwb
  rw [hwb] at Hwb
  clear hwb
  by_cases k1 : k = 1
  · subst k1
    rcases bool_ft (withinB a 0 1056964608) with hwa | hwa
    · have E := hid (show okI t 1 a b c = false by unfold okI; simp [tnm.out, twb.out, hwa])
      rw [hwa] at Hwa
      clear hwa
      go_enter Try.func33, Try.ntmps33
      go_wp2_with (first | ((with_reducible refine at_load rfl ?_); first | (with_reducible refine wpList_load1C rfl (g := g) (f := f) rfl (v := .string t) (by kernel_rfl) (RW.out _ F.below) e0.out ukindString ?_) | (with_reducible refine wpList_load1C rfl (g := g) (f := f + 1) rfl (v := .int .i64 _) (by kernel_rfl) (RW.out _ F.below) e1.out ukindInt64 ?_) | (with_reducible refine wpList_load1C rfl (g := g) (f := f + 2) rfl (v := .float .f32 a) (by kernel_rfl) (RW.out _ F.below) e2.out ukindFloat32 ?_) | (with_reducible refine wpList_load1C rfl (g := g) (f := f + 3) rfl (v := .float .f32 b) (by kernel_rfl) (RW.out _ F.below) e3.out ukindFloat32 ?_) | (with_reducible refine wpList_load1C rfl (g := g) (f := f + 4) rfl (v := .float .f32 c) (by kernel_rfl) (RW.out _ F.below) e4.out ukindFloat32 ?_)) | (go_at_call 80; first | ((with_reducible refine (Hnm.out _).mono ?_); rintro e w1 ⟨rfl, hl⟩; replace F := F.le hl; clear hl)) | (go_at_call 81; first | ((with_reducible refine (Hwb.out _).mono ?_); rintro e w1 ⟨rfl, rfl⟩; skip) | ((with_reducible refine (Hwa.out _).mono ?_); rintro e w1 ⟨rfl, rfl⟩; skip) | ((with_reducible refine (Hpa.out _).mono ?_); rintro e w1 ⟨rfl, rfl⟩; skip) | ((with_reducible refine (Hpc.out _).mono ?_); rintro e w1 ⟨rfl, rfl⟩; skip)) | (go_at_call 54; first | ((with_reducible refine (Hfc.out _).mono ?_); rintro e w1 ⟨rfl, q, rfl⟩; replace F := F.drewN q)) | ((with_reducible refine listN F ?_); clear F; intro wN F))
      go_ret
      exact ⟨ret_b E.out.symm, F.below⟩
    have twa := hid hwa
    rw [hwa] at Hwa
    clear hwa
    have E := hid (show okI t 1 a b c = partQ c by unfold okI; simp [tnm.out, twb.out, twa.out])
    go_enter Try.func33, Try.ntmps33
    go_wp2_with (first | ((with_reducible refine at_load rfl ?_); first | (with_reducible refine wpList_load1C rfl (g := g) (f := f) rfl (v := .string t) (by kernel_rfl) (RW.out _ F.below) e0.out ukindString ?_) | (with_reducible refine wpList_load1C rfl (g := g) (f := f + 1) rfl (v := .int .i64 _) (by kernel_rfl) (RW.out _ F.below) e1.out ukindInt64 ?_) | (with_reducible refine wpList_load1C rfl (g := g) (f := f + 2) rfl (v := .float .f32 a) (by kernel_rfl) (RW.out _ F.below) e2.out ukindFloat32 ?_) | (with_reducible refine wpList_load1C rfl (g := g) (f := f + 3) rfl (v := .float .f32 b) (by kernel_rfl) (RW.out _ F.below) e3.out ukindFloat32 ?_) | (with_reducible refine wpList_load1C rfl (g := g) (f := f + 4) rfl (v := .float .f32 c) (by kernel_rfl) (RW.out _ F.below) e4.out ukindFloat32 ?_)) | (go_at_call 80; first | ((with_reducible refine (Hnm.out _).mono ?_); rintro e w1 ⟨rfl, hl⟩; replace F := F.le hl; clear hl)) | (go_at_call 81; first | ((with_reducible refine (Hwb.out _).mono ?_); rintro e w1 ⟨rfl, rfl⟩; skip) | ((with_reducible refine (Hwa.out _).mono ?_); rintro e w1 ⟨rfl, rfl⟩; skip) | ((with_reducible refine (Hpa.out _).mono ?_); rintro e w1 ⟨rfl, rfl⟩; skip) | ((with_reducible refine (Hpc.out _).mono ?_); rintro e w1 ⟨rfl, rfl⟩; skip)) | (go_at_call 54; first | ((with_reducible refine (Hfc.out _).mono ?_); rintro e w1 ⟨rfl, q, rfl⟩; replace F := F.drewN q)) | ((with_reducible refine listN F ?_); clear F; intro wN F))
    go_ret
    exact ⟨ret_b E.out.symm, F.below⟩
  have n1 : (k == 1) = false := by simpa using k1
  by_cases k2 : k = 2
  · subst k2
    rcases bool_ft (partQ a) with hpa | hpa
    · have E := hid (show okI t 2 a b c = false by unfold okI; simp [tnm.out, twb.out, hpa])
      rw [hpa] at Hpa
      clear hpa
      go_enter Try.func33, Try.ntmps33
      go_wp2_with (first | ((with_reducible refine at_load rfl ?_); first | (with_reducible refine wpList_load1C rfl (g := g) (f := f) rfl (v := .string t) (by kernel_rfl) (RW.out _ F.below) e0.out ukindString ?_) | (with_reducible refine wpList_load1C rfl (g := g) (f := f + 1) rfl (v := .int .i64 _) (by kernel_rfl) (RW.out _ F.below) e1.out ukindInt64 ?_) | (with_reducible refine wpList_load1C rfl (g := g) (f := f + 2) rfl (v := .float .f32 a) (by kernel_rfl) (RW.out _ F.below) e2.out ukindFloat32 ?_) | (with_reducible refine wpList_load1C rfl (g := g) (f := f + 3) rfl (v := .float .f32 b) (by kernel_rfl) (RW.out _ F.below) e3.out ukindFloat32 ?_) | (with_reducible refine wpList_load1C rfl (g := g) (f := f + 4) rfl (v := .float .f32 c) (by kernel_rfl) (RW.out _ F.below) e4.out ukindFloat32 ?_)) | (go_at_call 80; first | ((with_reducible refine (Hnm.out _).mono ?_); rintro e w1 ⟨rfl, hl⟩; replace F := F.le hl; clear hl)) | (go_at_call 81; first | ((with_reducible refine (Hwb.out _).mono ?_); rintro e w1 ⟨rfl, rfl⟩; skip) | ((with_reducible refine (Hwa.out _).mono ?_); rintro e w1 ⟨rfl, rfl⟩; skip) | ((with_reducible refine (Hpa.out _).mono ?_); rintro e w1 ⟨rfl, rfl⟩; skip) | ((with_reducible refine (Hpc.out _).mono ?_); rintro e w1 ⟨rfl, rfl⟩; skip)) | (go_at_call 54; first | ((with_reducible refine (Hfc.out _).mono ?_); rintro e w1 ⟨rfl, q, rfl⟩; replace F := F.drewN q)) | ((with_reducible refine listN F ?_); clear F; intro wN F))
      go_ret
      exact ⟨ret_b E.out.symm, F.below⟩
    have tpa := hid hpa
    rw [hpa] at Hpa
    clear hpa
    rcases ho : FloatKind.f32.format.order c 0 with _ | (_ | _ | _) <;> rcases hp : FloatKind.f32.format.order c 1065353216 with _ | (_ | _ | _)
    all_goals
      first
      | (have E := hid (show okI t 2 a b c = true by unfold okI isQ; rw [ho, hp]; simp [tnm.out, twb.out, tpa.out])
         go_enter Try.func33, Try.ntmps33
         go_wp2_with (first | ((with_reducible refine at_load rfl ?_); first | (with_reducible refine wpList_load1C rfl (g := g) (f := f) rfl (v := .string t) (by kernel_rfl) (RW.out _ F.below) e0.out ukindString ?_) | (with_reducible refine wpList_load1C rfl (g := g) (f := f + 1) rfl (v := .int .i64 _) (by kernel_rfl) (RW.out _ F.below) e1.out ukindInt64 ?_) | (with_reducible refine wpList_load1C rfl (g := g) (f := f + 2) rfl (v := .float .f32 a) (by kernel_rfl) (RW.out _ F.below) e2.out ukindFloat32 ?_) | (with_reducible refine wpList_load1C rfl (g := g) (f := f + 3) rfl (v := .float .f32 b) (by kernel_rfl) (RW.out _ F.below) e3.out ukindFloat32 ?_) | (with_reducible refine wpList_load1C rfl (g := g) (f := f + 4) rfl (v := .float .f32 c) (by kernel_rfl) (RW.out _ F.below) e4.out ukindFloat32 ?_)) | (go_at_call 80; first | ((with_reducible refine (Hnm.out _).mono ?_); rintro e w1 ⟨rfl, hl⟩; replace F := F.le hl; clear hl)) | (go_at_call 81; first | ((with_reducible refine (Hwb.out _).mono ?_); rintro e w1 ⟨rfl, rfl⟩; skip) | ((with_reducible refine (Hwa.out _).mono ?_); rintro e w1 ⟨rfl, rfl⟩; skip) | ((with_reducible refine (Hpa.out _).mono ?_); rintro e w1 ⟨rfl, rfl⟩; skip) | ((with_reducible refine (Hpc.out _).mono ?_); rintro e w1 ⟨rfl, rfl⟩; skip)) | (go_at_call 54; first | ((with_reducible refine (Hfc.out _).mono ?_); rintro e w1 ⟨rfl, q, rfl⟩; replace F := F.drewN q)) | ((with_reducible refine listN F ?_); clear F; intro wN F))
         go_ret
         exact ⟨ret_b E.out.symm, F.below⟩
         done)
      | (have E := hid (show okI t 2 a b c = false by unfold okI isQ; rw [ho, hp]; simp [tnm.out, twb.out, tpa.out])
         go_enter Try.func33, Try.ntmps33
         go_wp2_with (first | ((with_reducible refine at_load rfl ?_); first | (with_reducible refine wpList_load1C rfl (g := g) (f := f) rfl (v := .string t) (by kernel_rfl) (RW.out _ F.below) e0.out ukindString ?_) | (with_reducible refine wpList_load1C rfl (g := g) (f := f + 1) rfl (v := .int .i64 _) (by kernel_rfl) (RW.out _ F.below) e1.out ukindInt64 ?_) | (with_reducible refine wpList_load1C rfl (g := g) (f := f + 2) rfl (v := .float .f32 a) (by kernel_rfl) (RW.out _ F.below) e2.out ukindFloat32 ?_) | (with_reducible refine wpList_load1C rfl (g := g) (f := f + 3) rfl (v := .float .f32 b) (by kernel_rfl) (RW.out _ F.below) e3.out ukindFloat32 ?_) | (with_reducible refine wpList_load1C rfl (g := g) (f := f + 4) rfl (v := .float .f32 c) (by kernel_rfl) (RW.out _ F.below) e4.out ukindFloat32 ?_)) | (go_at_call 80; first | ((with_reducible refine (Hnm.out _).mono ?_); rintro e w1 ⟨rfl, hl⟩; replace F := F.le hl; clear hl)) | (go_at_call 81; first | ((with_reducible refine (Hwb.out _).mono ?_); rintro e w1 ⟨rfl, rfl⟩; skip) | ((with_reducible refine (Hwa.out _).mono ?_); rintro e w1 ⟨rfl, rfl⟩; skip) | ((with_reducible refine (Hpa.out _).mono ?_); rintro e w1 ⟨rfl, rfl⟩; skip) | ((with_reducible refine (Hpc.out _).mono ?_); rintro e w1 ⟨rfl, rfl⟩; skip)) | (go_at_call 54; first | ((with_reducible refine (Hfc.out _).mono ?_); rintro e w1 ⟨rfl, q, rfl⟩; replace F := F.drewN q)) | ((with_reducible refine listN F ?_); clear F; intro wN F))
         go_ret
         exact ⟨ret_b E.out.symm, F.below⟩
         done)
  have n2 : (k == 2) = false := by simpa using k2
  by_cases k3 : k = 3
  · subst k3
    rcases bool_ft (partQ a) with hpa | hpa
    · have E := hid (show okI t 3 a b c = false by unfold okI; simp [tnm.out, twb.out, hpa])
      rw [hpa] at Hpa
      clear hpa
      go_enter Try.func33, Try.ntmps33
      go_wp2_with (first | ((with_reducible refine at_load rfl ?_); first | (with_reducible refine wpList_load1C rfl (g := g) (f := f) rfl (v := .string t) (by kernel_rfl) (RW.out _ F.below) e0.out ukindString ?_) | (with_reducible refine wpList_load1C rfl (g := g) (f := f + 1) rfl (v := .int .i64 _) (by kernel_rfl) (RW.out _ F.below) e1.out ukindInt64 ?_) | (with_reducible refine wpList_load1C rfl (g := g) (f := f + 2) rfl (v := .float .f32 a) (by kernel_rfl) (RW.out _ F.below) e2.out ukindFloat32 ?_) | (with_reducible refine wpList_load1C rfl (g := g) (f := f + 3) rfl (v := .float .f32 b) (by kernel_rfl) (RW.out _ F.below) e3.out ukindFloat32 ?_) | (with_reducible refine wpList_load1C rfl (g := g) (f := f + 4) rfl (v := .float .f32 c) (by kernel_rfl) (RW.out _ F.below) e4.out ukindFloat32 ?_)) | (go_at_call 80; first | ((with_reducible refine (Hnm.out _).mono ?_); rintro e w1 ⟨rfl, hl⟩; replace F := F.le hl; clear hl)) | (go_at_call 81; first | ((with_reducible refine (Hwb.out _).mono ?_); rintro e w1 ⟨rfl, rfl⟩; skip) | ((with_reducible refine (Hwa.out _).mono ?_); rintro e w1 ⟨rfl, rfl⟩; skip) | ((with_reducible refine (Hpa.out _).mono ?_); rintro e w1 ⟨rfl, rfl⟩; skip) | ((with_reducible refine (Hpc.out _).mono ?_); rintro e w1 ⟨rfl, rfl⟩; skip)) | (go_at_call 54; first | ((with_reducible refine (Hfc.out _).mono ?_); rintro e w1 ⟨rfl, q, rfl⟩; replace F := F.drewN q)) | ((with_reducible refine listN F ?_); clear F; intro wN F))
      go_ret
      exact ⟨ret_b E.out.symm, F.below⟩
    have tpa := hid hpa
    rw [hpa] at Hpa
    clear hpa
    have E := hid (show okI t 3 a b c = fin c by unfold okI; simp [tnm.out, twb.out, tpa.out])
    go_enter Try.func33, Try.ntmps33
    go_wp2_with (first | ((with_reducible refine at_load rfl ?_); first | (with_reducible refine wpList_load1C rfl (g := g) (f := f) rfl (v := .string t) (by kernel_rfl) (RW.out _ F.below) e0.out ukindString ?_) | (with_reducible refine wpList_load1C rfl (g := g) (f := f + 1) rfl (v := .int .i64 _) (by kernel_rfl) (RW.out _ F.below) e1.out ukindInt64 ?_) | (with_reducible refine wpList_load1C rfl (g := g) (f := f + 2) rfl (v := .float .f32 a) (by kernel_rfl) (RW.out _ F.below) e2.out ukindFloat32 ?_) | (with_reducible refine wpList_load1C rfl (g := g) (f := f + 3) rfl (v := .float .f32 b) (by kernel_rfl) (RW.out _ F.below) e3.out ukindFloat32 ?_) | (with_reducible refine wpList_load1C rfl (g := g) (f := f + 4) rfl (v := .float .f32 c) (by kernel_rfl) (RW.out _ F.below) e4.out ukindFloat32 ?_)) | (go_at_call 80; first | ((with_reducible refine (Hnm.out _).mono ?_); rintro e w1 ⟨rfl, hl⟩; replace F := F.le hl; clear hl)) | (go_at_call 81; first | ((with_reducible refine (Hwb.out _).mono ?_); rintro e w1 ⟨rfl, rfl⟩; skip) | ((with_reducible refine (Hwa.out _).mono ?_); rintro e w1 ⟨rfl, rfl⟩; skip) | ((with_reducible refine (Hpa.out _).mono ?_); rintro e w1 ⟨rfl, rfl⟩; skip) | ((with_reducible refine (Hpc.out _).mono ?_); rintro e w1 ⟨rfl, rfl⟩; skip)) | (go_at_call 54; first | ((with_reducible refine (Hfc.out _).mono ?_); rintro e w1 ⟨rfl, q, rfl⟩; replace F := F.drewN q)) | ((with_reducible refine listN F ?_); clear F; intro wN F))
    go_ret
    exact ⟨ret_b E.out.symm, F.below⟩
  have n3 : (k == 3) = false := by simpa using k3
  have E := hid (show okI t k a b c = false by unfold okI; simp [k1, k2, k3])
  go_enter Try.func33, Try.ntmps33
  go_wp2_with (first | ((with_reducible refine at_load rfl ?_); first | (with_reducible refine wpList_load1C rfl (g := g) (f := f) rfl (v := .string t) (by kernel_rfl) (RW.out _ F.below) e0.out ukindString ?_) | (with_reducible refine wpList_load1C rfl (g := g) (f := f + 1) rfl (v := .int .i64 _) (by kernel_rfl) (RW.out _ F.below) e1.out ukindInt64 ?_) | (with_reducible refine wpList_load1C rfl (g := g) (f := f + 2) rfl (v := .float .f32 a) (by kernel_rfl) (RW.out _ F.below) e2.out ukindFloat32 ?_) | (with_reducible refine wpList_load1C rfl (g := g) (f := f + 3) rfl (v := .float .f32 b) (by kernel_rfl) (RW.out _ F.below) e3.out ukindFloat32 ?_) | (with_reducible refine wpList_load1C rfl (g := g) (f := f + 4) rfl (v := .float .f32 c) (by kernel_rfl) (RW.out _ F.below) e4.out ukindFloat32 ?_)) | (go_at_call 80; first | ((with_reducible refine (Hnm.out _).mono ?_); rintro e w1 ⟨rfl, hl⟩; replace F := F.le hl; clear hl)) | (go_at_call 81; first | ((with_reducible refine (Hwb.out _).mono ?_); rintro e w1 ⟨rfl, rfl⟩; skip) | ((with_reducible refine (Hwa.out _).mono ?_); rintro e w1 ⟨rfl, rfl⟩; skip) | ((with_reducible refine (Hpa.out _).mono ?_); rintro e w1 ⟨rfl, rfl⟩; skip) | ((with_reducible refine (Hpc.out _).mono ?_); rintro e w1 ⟨rfl, rfl⟩; skip)) | (go_at_call 54; first | ((with_reducible refine (Hfc.out _).mono ?_); rintro e w1 ⟨rfl, q, rfl⟩; replace F := F.drewN q)) | ((with_reducible refine listN F ?_); clear F; intro wN F))
  go_ret
  exact ⟨ret_b E.out.symm, F.below⟩
theorem s_ValidInstrument (t : ByteArray) (k : Int) (a b c : Nat) (w : World) (ht : t.size ≤ maxLen) (hf : fits .f32 a ∧ fits .f32 b ∧ fits .f32 c) : Calls Try.prog 11 #[.agg #[.string t, .int .i64 k, .float .f32 a, .float .f32 b, .float .f32 c]] w (Out_b (okI t k a b c) w) := by
  have HV := hid (fun (g9 : Nat) (w' : World) (R : Row w' g9 32 #[.string t, .int .i64 k, .float .f32 a, .float .f32 b, .float .f32 c]) => s_l08Instrument t k a b c g9 0 w' _ R (fun j hj => by match j, hj with | 0, _ => rfl | 1, _ => rfl | 2, _ => rfl | 3, _ => rfl | 4, _ => rfl) ht hf)
  clear ht hf
  have F := (Frg.nil w).box 32 #[.string t, .int .i64 k, .float .f32 a, .float .f32 b, .float .f32 c]
  go_enter Try.func11, Try.ntmps11
  go_wp2_with (go_at_call 33; ((with_reducible refine (HV.out _ _ (F.row m0)).mono ?_); rintro e w1 ⟨rfl, hl⟩; replace F := F.le hl; clear hl))
  go_ret
  exact ⟨rfl, F.below⟩
theorem ins_data {cs : List CD} (h : HasShL shInstrument cs) : ∃ (t : ByteArray) (k : Int) (a b c : Nat), cs = [.str t, .int .i64 k, .flt .f32 a, .flt .f32 b, .flt .f32 c] := by
  obtain ⟨c0, cs, rfl, q0, h⟩ := h.inv
  obtain ⟨c1, cs, rfl, q1, h⟩ := h.inv
  obtain ⟨c2, cs, rfl, q2, h⟩ := h.inv
  obtain ⟨c3, cs, rfl, q3, h⟩ := h.inv
  obtain ⟨c4, cs, rfl, q4, h⟩ := h.inv
  obtain rfl := h.inv0
  obtain ⟨t, rfl⟩ := q0
  obtain ⟨k, rfl⟩ := q1
  obtain ⟨a, rfl⟩ := q2
  obtain ⟨b, rfl⟩ := q3
  obtain ⟨c, rfl⟩ := q4
  exact ⟨t, k, a, b, c, rfl⟩
theorem ins_open {t : ByteArray} {k : Int} {a b c : Nat} {w : World} {B : Nat} {u : List Value} (h : RdLN w B (([.str t, .int .i64 k, .flt .f32 a, .flt .f32 b, .flt .f32 c] : List CD).map CD.cp) u) : u = [.string t, .int .i64 k, .float .f32 a, .float .f32 b, .float .f32 c] ∧ t.size ≤ maxLen ∧ fits .f32 a ∧ fits .f32 b ∧ fits .f32 c := by
  simp only [List.map_cons, List.map_nil] at h
  obtain ⟨v0, u0, rfl, q0, hh0⟩ := h.inv
  obtain ⟨v1, u1, rfl, q1, hh1⟩ := hh0.inv
  obtain ⟨v2, u2, rfl, q2, hh2⟩ := hh1.inv
  obtain ⟨v3, u3, rfl, q3, hh3⟩ := hh2.inv
  obtain ⟨v4, u4, rfl, q4, hh4⟩ := hh3.inv
  obtain rfl := hh4.inv0
  obtain ⟨rfl, f0⟩ := q0
  obtain ⟨rfl, _⟩ := q1
  obtain ⟨rfl, f2⟩ := q2
  obtain ⟨rfl, f3⟩ := q3
  obtain ⟨rfl, f4⟩ := q4
  exact ⟨rfl, f0, f2, f3, f4⟩
theorem both_ValidInstrument (cs : List CD) (h : HasShL shInstrument cs) : ∃ ar0 : Bool, (∀ (w : World) (B : Nat) (u : List Value), RdLN w B (cs.map CD.cp) u → Calls Try.prog 11 #[.agg u.toArray] w (Out_b ar0 w)) ∧ (∀ (w : World) (B : Nat) (u : List Value), RdLN w B (cs.map CD.cp) u → Calls Try.prog 13 #[.agg u.toArray] w (Out_b ar0 w)) := by
  obtain ⟨t, k, a, b, c, rfl⟩ := ins_data h
  refine ⟨okI t k a b c, fun w B u hu => ?_, fun w B u hu => ?_⟩
  · obtain ⟨rfl, ht, hf⟩ := ins_open hu
    exact s_ValidInstrument t k a b c w ht hf
  · obtain ⟨rfl, ht, hf⟩ := ins_open hu
    exact i_ValidInstrument t k a b c w ht hf
end Go.Proofs.Ytnkjmgadnejdlab

/- The walk of 'FnExactValidInstrument'. -/
namespace Go.Proofs.Ytnkjmgadnejdlab.fnExactValidInstrument
open Go.RowKit Go.Fk
set_option maxRecDepth 100000 in
set_option maxHeartbeats 4000000 in
theorem walk (cs0 : List CD) (vs0 : List Value) (w : World) (k0 : HasShL shInstrument cs0) (z0 : RdL w w.heap.size cs0 vs0) :
    Calls Try.prog 4 #[.agg vs0.toArray] w fun e w' => e = .returned (.bool true) ∧ Below w.heap.size w w' := by
  obtain ⟨ar0, hS, hI⟩ := both_ValidInstrument cs0 k0
  have Z0 := hid z0; have K0 := hid k0.ok; have hl0 : Hid (vs0.length = 5) := z0.1.trans k0.1; clear z0
  have HS := hid hS; have HI := hid hI; clear hS hI
  have F := Frg.nil w
  replace F := F.box 29 vs0.toArray
  by_cases hz : szL cs0 ≤ 1048576
  · have hm0 : ¬ (1048576 : Int) - (szL cs0 : Nat) < 0 := by omega
    have HT := hid (fun (w' : World) (hl : le w w') => toU_Instrument _ cs0 vs0 w' (Z0.out.le hl) K0.out hz)
    have HZ := hid (fun (w' : World) (hl : le w w') => szU_Instrument _ cs0 vs0 1048576 ((1048576 : Int) - (szL cs0 : Nat)) w' (Z0.out.le hl) K0.out (by omega) (by omega) (lessBy_pos hm0))
    go_enter Try.func4, Try.ntmps4
    go_wp2_with (first | ((with_reducible refine listN F ?_); clear F; intro wN F) | ((with_reducible refine at_loadU rfl rfl ?_); (with_reducible refine wpList_loadG F rfl rfl rfl (by first | exact m0 | exact m1 | exact m2) Try.underlying29 rfl uinfoInstrumentL (by simp only [List.size_toArray]; exact hl0.out) ?_)) | (go_at_call 10; ((with_reducible refine (HZ.out _ F.below).mono ?_); rintro e w1 ⟨rfl, hb1⟩; replace F := F.le hb1; clear hb1)) | (go_at_call 12; ((with_reducible refine (HT.out _ F.below).mono ?_); rintro e w1 ⟨us, rfl, ho, hl⟩; replace F := F.lay1 hl ho; clear ho hl)) | (go_at_call 11; ((with_reducible refine (HS.out _ _ _ (F.layN m0)).mono ?_); rintro e w1 ⟨rfl, hl⟩; replace F := F.le hl; clear hl)) | (go_at_call 13; ((with_reducible refine (HI.out _ _ _ (F.layN m0)).mono ?_); rintro e w1 ⟨rfl, hl⟩; replace F := F.le hl; clear hl)))
    go_ret
    exact ⟨rfl, F.below⟩
  · have hn0 : (1048576 : Int) - (szL cs0 : Nat) < 0 := by omega
    have HZ := hid (fun (w' : World) (hl : le w w') => szU_Instrument _ cs0 vs0 1048576 (-1) w' (Z0.out.le hl) K0.out (by omega) (by omega) (lessBy_neg hn0))
    go_enter Try.func4, Try.ntmps4
    go_wp2_with (first | ((with_reducible refine listN F ?_); clear F; intro wN F) | ((with_reducible refine at_loadU rfl rfl ?_); (with_reducible refine wpList_loadG F rfl rfl rfl (by first | exact m0 | exact m1 | exact m2) Try.underlying29 rfl uinfoInstrumentL (by simp only [List.size_toArray]; exact hl0.out) ?_)) | (go_at_call 10; ((with_reducible refine (HZ.out _ F.below).mono ?_); rintro e w1 ⟨rfl, hb1⟩; replace F := F.le hb1; clear hb1)))
    go_ret
    exact ⟨rfl, F.below⟩
end Go.Proofs.Ytnkjmgadnejdlab.fnExactValidInstrument
