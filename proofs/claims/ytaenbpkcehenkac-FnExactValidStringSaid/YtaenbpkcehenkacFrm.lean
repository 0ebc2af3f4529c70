/- What a walk of a law knows of memory, in one hypothesis: nothing that was there has turned, and some blocks hold known rows. Nothing here names a program. -/
import Derived.Test.YtaenbpkcehenkacRow2
namespace Go.Fk
open Go Go.RowKit

/-- Nothing that 'w0' holds has turned; the blocks of the list hold these rows. -/
structure Frm (w0 w : World) (L : List (Nat × TypeId × Array Value)) : Prop where
  below : le w0 w
  rows : ∀ x ∈ L, Row w x.1 x.2.1 x.2.2

namespace Frm
variable {w0 w w' : World} {L : List (Nat × TypeId × Array Value)}
theorem nil (w : World) : Frm w w [] := ⟨le_refl w, by simp⟩
theorem one {g : Nat} {t : TypeId} {cs : Array Value} (h : Row w g t cs) : Frm w w [(g, t, cs)] := ⟨le_refl w, fun x hx => by rcases List.mem_cons.1 hx with rfl | hx; exact h; cases hx⟩
theorem le (h : Frm w0 w L) (k : Below w.heap.size w w') : Frm w0 w' L := ⟨le_trans h.below k, fun x hx => (h.rows x hx).le k⟩
theorem drewN (h : Frm w0 w L) (n : Nat) : Frm w0 (w.drewN n) L := h.le (le_drewN w n)
theorem alloc (h : Frm w0 w L) (o : Obj) : Frm w0 (w.alloc o) L := h.le (le_alloc w o)
theorem row (h : Frm w0 w L) {g : Nat} {t : TypeId} {cs : Array Value} (hm : (g, t, cs) ∈ L) : Row w g t cs := h.rows _ hm
theorem box (h : Frm w0 w L) (t : TypeId) (cs : Array Value) : Frm w0 (w.alloc (.cells cs t)) ((w.heap.size, t, cs) :: L) := by
  refine ⟨(h.alloc _).below, fun x hx => ?_⟩
  rcases List.mem_cons.1 hx with rfl | hx
  · exact Row.new w t cs
  · exact (h.alloc _).rows x hx
theorem push (h : Frm w0 w L) {g : Nat} {t : TypeId} {cs : Array Value} (hr : Row w' g t cs) (hl : Fk.le w w') : Frm w0 w' ((g, t, cs) :: L) := by
  refine ⟨le_trans h.below hl, fun x hx => ?_⟩
  rcases List.mem_cons.1 hx with rfl | hx
  · exact hr
  · exact (h.rows x hx).le hl
theorem both (h : Frm w0 w L) {g g' B : Nat} {t t' : TypeId} {cs cs' : Array Value} (hr : Row w g t cs) (hr' : Row w g' t' cs') (_ : B ≤ g) (_ : B ≤ g') (_ : w0.heap.size ≤ B) : Frm w0 w ((g', t', cs') :: (g, t, cs) :: L) := by
  refine ⟨h.below, fun x hx => ?_⟩
  rcases List.mem_cons.1 hx with rfl | hx
  · exact hr'
  rcases List.mem_cons.1 hx with rfl | hx
  · exact hr
  · exact h.rows x hx
theorem sub {L' : List (Nat × TypeId × Array Value)} (h : Frm w0 w L) (hs : ∀ x ∈ L', x ∈ L) : Frm w0 w L' := ⟨h.below, fun x hx => h.rows x (hs x hx)⟩
theorem size (h : Frm w0 w L) : w0.heap.size ≤ w.heap.size := h.below.size
theorem lt (h : Frm w0 w L) {g : Nat} {t : TypeId} {cs : Array Value} (hm : (g, t, cs) ∈ L) : g < w.heap.size := (h.row hm).lt
end Frm

namespace Frm
variable {w0 w w' : World} {L : List (Nat × TypeId × Array Value)}
theorem fresh (h : Frm w0 w L) {b : Nat} (hb : w.heap.size ≤ b) : ∀ x ∈ L, x.1 ≠ b := fun x hx => Nat.ne_of_lt (Nat.lt_of_lt_of_le (h.rows x hx).lt hb)
theorem setc (h : Frm w0 w L) {g : Nat} {t : TypeId} {cs : Array Value} (hm : (g, t, cs) ∈ L) (i : Nat) (v : Value) (hg : w0.heap.size ≤ g) {L' : List (Nat × TypeId × Array Value)} (hs : ∀ x ∈ L', x ∈ L ∧ x.1 ≠ g) : Frm w0 (w.setCell ⟨g, i, none⟩ v) ((g, t, cs.setIfInBounds i v) :: L') := by
  refine ⟨Below.setCell h.below hg _, fun x hx => ?_⟩
  rcases List.mem_cons.1 hx with rfl | hx
  · exact (h.row hm).set i v
  · exact (h.rows x (hs x hx).1).other _ _ (hs x hx).2
theorem wrote (h : Frm w0 w L) {g : Nat} {t : TypeId} {cs : Array Value} (k : Wrote w w' g t cs) (hg : w0.heap.size ≤ g) {L' : List (Nat × TypeId × Array Value)} (hs : ∀ x ∈ L', x ∈ L ∧ x.1 ≠ g) : Frm w0 w' ((g, t, cs) :: L') := by
  refine ⟨k.below _ _ h.below hg, fun x hx => ?_⟩
  rcases List.mem_cons.1 hx with rfl | hx
  · exact k.row
  · exact k.other _ _ _ (hs x hx).2 (h.rows x (hs x hx).1)
end Frm
/-- Of what was there, block g alone may have turned. -/
structure Upd (g : Nat) (w w' : World) : Prop where
  os : w'.os = w.os
  tape : w'.tape = w.tape
  output : w'.output = w.output
  size : w.heap.size ≤ w'.heap.size
  block : ∀ k, k < w.heap.size → k ≠ g → w'.heap[k]? = w.heap[k]?
namespace Upd
variable {g : Nat} {w w' w'' : World}
theorem refl (g : Nat) (w : World) : Upd g w w := ⟨rfl, rfl, rfl, Nat.le_refl _, fun _ _ _ => rfl⟩
theorem trans (h : Upd g w w') (k : Upd g w' w'') : Upd g w w'' :=
  ⟨k.os.trans h.os, k.tape.trans h.tape, k.output.trans h.output, Nat.le_trans h.size k.size, fun i hi hn => (k.block i (Nat.lt_of_lt_of_le hi h.size) hn).trans (h.block i hi hn)⟩
theorem le (h : Upd g w w') (k : Fk.le w' w'') : Upd g w w'' :=
  ⟨k.os.trans h.os, k.tape.trans h.tape, k.output.trans h.output, Nat.le_trans h.size k.size, fun i hi hn => (k.block i (Nat.lt_of_lt_of_le hi h.size)).trans (h.block i hi hn)⟩
theorem of_le (k : Fk.le w w') : Upd g w w' := (refl g w).le k
theorem setCell (h : Upd g w w') {a : Addr} (ha : a.block = g) (v : Value) : Upd g w (w'.setCell a v) :=
  ⟨h.os, h.tape, h.output, by simpa using h.size, fun i hi hn => (Below.heap_setCell _ _ _ _ (by rw [ha]; exact hn)).trans (h.block i hi hn)⟩
theorem setCellNew (h : Upd g w w') {a : Addr} (ha : w.heap.size ≤ a.block) (v : Value) : Upd g w (w'.setCell a v) :=
  ⟨h.os, h.tape, h.output, by simpa using h.size, fun i hi hn => (Below.heap_setCell _ _ _ _ (by omega)).trans (h.block i hi hn)⟩
theorem wrote {g' : Nat} {t : TypeId} {cs : Array Value} (h : Upd g w w') (k : Wrote w' w'' g' t cs) (hg : w.heap.size ≤ g') : Upd g w w'' := by
  have kb := k.below w.heap.size w'
  have := k.below _ _ (Below.refl w.heap.size w') hg
  exact ⟨this.os.trans h.os, this.tape.trans h.tape, this.output.trans h.output, Nat.le_trans h.size this.size, fun i hi hn => (this.block i hi).trans (h.block i hi hn)⟩
theorem setRow (h : Upd g w w') (cs : Array Value) : Upd g w (w'.setRow g cs) :=
  ⟨h.os, h.tape, h.output, by simpa [World.setRow] using h.size, fun i hi hn => by
    rw [← h.block i hi hn]
    unfold World.setRow
    rw [Array.getElem?_modify, if_neg (Ne.symm hn)]⟩
theorem below (h : Upd g w w') {B : Nat} (hB : B ≤ g) (hw : B ≤ w.heap.size) : Below B w w' :=
  ⟨h.os, h.tape, h.output, h.size, fun k hk => h.block k (by omega) (by omega)⟩
theorem row (h : Upd g w w') {g' : Nat} {t : TypeId} {cs : Array Value} (hr : Row w g' t cs) (hn : g' ≠ g) : Row w' g' t cs := by
  have := h.block g' hr.lt hn
  unfold Row at *
  rw [this]; exact hr
end Upd

namespace Frm
variable {w0 w w' : World} {L : List (Nat × TypeId × Array Value)}
theorem upd (h : Frm w0 w L) {g : Nat} {t : TypeId} {cs : Array Value} (hr : Row w' g t cs) (k : Upd g w w') (hg : w0.heap.size ≤ g) {L' : List (Nat × TypeId × Array Value)} (hs : ∀ x ∈ L', x ∈ L ∧ x.1 ≠ g) : Frm w0 w' ((g, t, cs) :: L') := by
  refine ⟨h.below.trans (k.below hg h.size), fun x hx => ?_⟩
  rcases List.mem_cons.1 hx with rfl | hx
  · exact hr
  · exact k.row (h.rows x (hs x hx).1) (hs x hx).2
end Frm

section
variable {P : Program} {w : World} {ops : Array Oper} {rest : List Oper} {o : Oper} {a : Act} {Q : Exit → Act → World → Prop}
/-- To see that a walk stands at a load, at a conversion. -/
theorem at_load {ty : TypeId} {x : Operand} (_ : o.op = .load ty x) (h : wpList P ops Q (o :: rest) a w) : wpList P ops Q (o :: rest) a w := h
theorem at_convert {src dst : TypeId} {x : Operand} (_ : o.op = .convert src dst x) (h : wpList P ops Q (o :: rest) a w) : wpList P ops Q (o :: rest) a w := h
/-- A part of a block is loaded. -/
theorem wpList_loadPartFr {w0 : World} {L : List (Nat × TypeId × Array Value)} (hF : Frm w0 w L) (ds : List Value) (hg : o.guard = none) {ty : TypeId} {x : Operand} (hop : o.op = .load ty x) {g f : Nat} (hx : a.eval x = .pointer (some ⟨g, f, none⟩)) {t : TypeId} {cs : Array Value} {d : TypeDesc}
    (hm : (g, t, cs) ∈ L) (hu : P.underlying ty = some d) (hd : d.isRow = true) (hc : ∀ j, j < ds.length → cs[f + j]? = ds[j]?) {n : Nat} (hi : (P.info? ty).map (·.size) = some n) (hn : ds.length = n)
    (h : wpList P ops Q rest (a.put o.dst (.agg ds.toArray)) w) : wpList P ops Q (o :: rest) a w :=
  wpList_loadP hg hop hx (hF.row hm) hu hd ds hc (hn ▸ hi) h
/-- A whole block is loaded. -/
theorem wpList_loadFr {w0 : World} {L : List (Nat × TypeId × Array Value)} (hF : Frm w0 w L) (hg : o.guard = none) {ty : TypeId} {x : Operand} (hop : o.op = .load ty x) {g : Nat} (hx : a.eval x = .pointer (some ⟨g, 0, none⟩)) {t : TypeId} {cs : Array Value} {d : TypeDesc}
    (hm : (g, t, cs) ∈ L) (hu : P.underlying ty = some d) (hd : (match d with | .struct _ | .array _ _ => true | _ => false) = true) {n : Nat} (hi : (P.info? ty).map (·.size) = some n) (hn : cs.size = n)
    (h : wpList P ops Q rest (a.put o.dst (.agg cs)) w) : wpList P ops Q (o :: rest) a w :=
  wpList_loadD hg hop hx (hF.row hm) hu hd (hn ▸ hi) h
/-- The same where the operation is guarded, and wanted. -/
theorem wpList_loadFrG {w0 : World} {L : List (Nat × TypeId × Array Value)} (hF : Frm w0 w L) {ty : TypeId} {x : Operand} (hop : o.op = .load ty x) {g : Nat} (hx : a.eval x = .pointer (some ⟨g, 0, none⟩)) {t : TypeId} {cs : Array Value} {d : TypeDesc}
    (hm : (g, t, cs) ∈ L) (hu : P.underlying ty = some d) (hd : (match d with | .struct _ | .array _ _ => true | _ => false) = true) {n : Nat} (hi : (P.info? ty).map (·.size) = some n) (hn : cs.size = n) (hw : Region.wanted o (yielded ops a.tmps) = true)
    (h : wpList P ops Q rest (a.put o.dst (.agg cs)) w) : wpList P ops Q (o :: rest) a w :=
  wpList_step fun K hK => by
    simp only [hw, if_true]
    exact wp_load_row ty x hop g hx t cs (0, 0) d (hF.row hm) hu hd (hn ▸ hi) (hK _ _ h)
/-- A fresh block is written whole. -/
theorem wpList_storeFr {w0 w1 : World} {L : List (Nat × TypeId × Array Value)} {t : TypeId} {old : Array Value} (hF : Frm w0 w1 L) (hw : w = w1.alloc (.cells old t)) (hg : o.guard = none) {ty : TypeId} {x y : Operand} (hop : o.op = .store ty x y) (hx : a.eval x = .pointer (some ⟨w1.heap.size, 0, none⟩)) {cells : Array Value} (hy : a.eval y = .agg cells)
    (hi : (P.info? ty).map (·.size) = some cells.size) (ho : old.size = cells.size) (h1 : cells.all (·.oneCell') = true)
    (h : ∀ w', Frm w0 w' ((w1.heap.size, t, cells) :: L) → wpList P ops Q rest (a.put o.dst undef) w') : wpList P ops Q (o :: rest) a w :=
  wpList_storeN hw hg hop hx hy hi ho h1 (fun w' hr hl _ => h w' (hF.push hr hl))
end

section
variable {P : Program} {ops : Array Oper} {W : World} {K : FuncId → Array Value → World → Value → Prop} {Q : Act → World → Prop} {F : World → Prop} {o : Oper} {rest : List Oper} {a : Act}
/-- The same in a region that draws its order. -/
theorem wpFree_loadFr {w0 : World} {L : List (Nat × TypeId × Array Value)} {n : Nat} {w1 : World} (hF : Frm w0 w1 L) (hW : W = w1.drewN n) (hg : o.guard = none) {ty : TypeId} {x : Operand} (hop : o.op = .load ty x) {g : Nat} (hx : a.eval x = .pointer (some ⟨g, 0, none⟩)) {t : TypeId} {cs : Array Value} {d : TypeDesc}
    (hm : (g, t, cs) ∈ L) (hu : P.underlying ty = some d) (hd : (match d with | .struct _ | .array _ _ => true | _ => false) = true) {m : Nat} (hi : (P.info? ty).map (·.size) = some m) (hn : cs.size = m)
    (h : wpFree P ops W K Q rest (a.put o.dst (.agg cs)) F) : wpFree P ops W K Q (o :: rest) a F := by
  subst hW hn
  refine wpFree_one hg (.agg cs) (fun w hw => ?_) h
  have := run_loadVar_row (P := P) w g t ty cs (0, 0) _ (((hF.row hm).drewN n).le hw) hu hd hi
  simp [execOp, hop, hx, Instr.loadAt, Instr.sureAddr, this, Result.andThen]
/-- A part is loaded. -/
theorem wpFree_loadPart {w0 : World} {L : List (Nat × TypeId × Array Value)} {n : Nat} {w1 : World} (hF : Frm w0 w1 L) (hW : W = w1.drewN n) (hg : o.guard = none) {ty : TypeId} {x : Operand} (hop : o.op = .load ty x) {g f : Nat} (hx : a.eval x = .pointer (some ⟨g, f, none⟩)) {t : TypeId} {cs : Array Value} {d : TypeDesc}
    (hm : (g, t, cs) ∈ L) (hu : P.underlying ty = some d) (hd : d.isRow = true) (ds : List Value) (hc : ∀ j, j < ds.length → cs[f + j]? = ds[j]?) (hi : (P.info? ty).map (·.size) = some ds.length)
    (h : wpFree P ops W K Q rest (a.put o.dst (.agg ds.toArray)) F) : wpFree P ops W K Q (o :: rest) a F := by
  subst hW
  refine wpFree_one hg (.agg ds.toArray) (fun w hw => ?_) h
  have hr := ((hF.row hm).drewN n).le hw
  have := run_loadVar_mid (P := P) w g f ty ds d (fun j v hv => by rw [hr.cell?, hc j (List.getElem?_eq_some_iff.1 hv).1, hv]) hu hd hi
  simp [execOp, hop, hx, Instr.loadAt, Instr.sureAddr, this, Result.andThen]
/-- A float is loaded. -/
theorem wpFree_loadF {w0 : World} {L : List (Nat × TypeId × Array Value)} {n : Nat} {w1 : World} (hF : Frm w0 w1 L) (hW : W = w1.drewN n) (hg : o.guard = none) {ty : TypeId} {x : Operand} (hop : o.op = .load ty x) {g f : Nat} (hx : a.eval x = .pointer (some ⟨g, f, none⟩)) {t : TypeId} {cs : Array Value} {k : FloatKind} {v : Nat}
    (hm : (g, t, cs) ∈ L) (hv : cs[f]? = some (.float k v)) (hu : P.underlying ty = some (.float k))
    (h : wpFree P ops W K Q rest (a.put o.dst (.float k v)) F) : wpFree P ops W K Q (o :: rest) a F := by
  subst hW
  refine wpFree_one hg (.float k v) (fun w hw => ?_) h
  have hrow := ((hF.row hm).drewN n).le hw
  have hc : w.cell? ⟨g, f, none⟩ = some (.float k v) := by rw [hrow.cell?, hv]
  have hl : (Instr.loadAt ty (.pointer (some ⟨g, f, none⟩))).run P w = .ok (.float k v) w := by
    simp [Instr.loadAt, Instr.sureAddr, loadVar, isAgg, run_underlying hu, hc]
  simp [execOp, hop, hx, hl, Result.andThen]
/-- + - * / on floats. -/
theorem wpFree_farith (hg : o.guard = none) {op : BinOp} {t t' : TypeId} {x y : Operand} (hop : o.op = Op.binOp op t x y t') (ho : arith op = true)
    {k : FloatKind} {p q : Nat} (hx : a.eval x = .float k p) (hy : a.eval y = .float k q)
    (h : ∀ r, Hid (can k r = fop op k p q) → Hid (fits k r) → wpFree P ops W K Q rest (a.put o.dst (.float k r)) F) : wpFree P ops W K Q (o :: rest) a F := by
  refine wpFree_some hg (fun v => ∃ r, v = .float k r ∧ can k r = fop op k p q ∧ fits k r) (fun w _ => ?_) ?_
  · obtain ⟨r, n, hrun, hr, hf⟩ := run_farith (P := P) w op ho t k p q
    have he := eqGuard_float (P := P) w op t x y k k p q
    refine ⟨.float k r, n, ?_, r, rfl, hr, hf⟩
    simp [execOp, hop, hx, hy, he, hrun, Result.andThen]
  · rintro v ⟨r, rfl, h1, h2⟩
    exact h r h1 h2
/-- A value of one cell is loaded. -/
theorem wpFree_loadV {w0 : World} {L : List (Nat × TypeId × Array Value)} {n : Nat} {w1 : World} (hF : Frm w0 w1 L) (hW : W = w1.drewN n) (hg : o.guard = none) {ty : TypeId} {x : Operand} (hop : o.op = .load ty x) {g f : Nat} (hx : a.eval x = .pointer (some ⟨g, f, none⟩)) {t : TypeId} {cs : Array Value} {v : Value}
    (hm : (g, t, cs) ∈ L) (hv : cs[f]? = some v) (hu : ∀ w, (isAgg ty).run P w = .ok false w)
    (h : wpFree P ops W K Q rest (a.put o.dst v) F) : wpFree P ops W K Q (o :: rest) a F := by
  subst hW
  refine wpFree_one hg v (fun w hw => ?_) h
  have hrow := ((hF.row hm).drewN n).le hw
  have hc : w.cell? ⟨g, f, none⟩ = some v := by rw [hrow.cell?, hv]
  have hl : (Instr.loadAt ty (.pointer (some ⟨g, f, none⟩))).run P w = .ok v w := by
    simp [Instr.loadAt, Instr.sureAddr, loadVar, hu, hc]
  simp [execOp, hop, hx, hl, Result.andThen]
/-- A call that is resolved as it runs. -/
theorem wpFree_callR (hg : o.guard = none) (f : FuncId) (args : Array Value) (hrun : ∀ w, (execOp a.eval o).run P w = .ok (.enter f args) w) (hm : Mono (K f args))
    (h1 : ∀ w, le W w → Calls P f args w (fun e w' => ∃ v, e = .returned v ∧ le w w' ∧ K f args w' v)) (h2 : ∀ v, (∃ w, le W w ∧ K f args w v) → wpFree P ops W K Q rest (a.put o.dst v) (fun w => F w ∧ K f args w v)) : wpFree P ops W K Q (o :: rest) a F :=
  ⟨K f args, ⟨hm, .inl ⟨by simp [Region.wanted, hg], fun w hw => by rw [hrun]; exact ⟨le_refl w, h1 w hw, fun _ _ h => h⟩⟩⟩, h2⟩
/-- A value is boxed. -/
theorem wpFree_box (hg : o.guard = none) {ty : TypeId} {x : Operand} (hop : o.op = .box ty x) (cs : Array Value)
    (hr : ∀ w, (Instr.box ty (a.eval x)).run P w = .ok (.pointer (some ⟨w.heap.size, 0, none⟩)) (w.alloc (.cells cs ty)))
    (h : ∀ b, W.heap.size ≤ b → wpFree P ops W K Q rest (a.put o.dst (.pointer (some ⟨b, 0, none⟩))) (fun w => F w ∧ ∃ b', Value.pointer (some ⟨b, 0, none⟩) = .pointer (some ⟨b', 0, none⟩) ∧ W.heap.size ≤ b' ∧ Row w b' ty cs)) : wpFree P ops W K Q (o :: rest) a F := by
  refine ⟨fun w v => ∃ b, v = .pointer (some ⟨b, 0, none⟩) ∧ W.heap.size ≤ b ∧ Row w b ty cs, ⟨fun v w w' hl h => ?_, .inl ⟨by simp [Region.wanted, hg], fun w hw => ?_⟩⟩, fun v hv => ?_⟩
  · obtain ⟨b, e, h1, h2⟩ := h; exact ⟨b, e, h1, h2.le hl⟩
  · simp [execOp, hop, hr, Result.andThen, inside]
    exact ⟨le_alloc w _, Below.size hw, Row.new w ty cs⟩
  · obtain ⟨w, _, b, rfl, hb, _⟩ := hv
    exact h b hb
end
end Go.Fk
