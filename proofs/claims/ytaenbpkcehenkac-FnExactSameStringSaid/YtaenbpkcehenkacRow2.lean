/- Parts of rows of cells: loads and stores of arrays and structs at an offset; a fresh block that is written whole. Nothing here names a program. -/
import Derived.Test.YtaenbpkcehenkacRow
import Derived.Test.YtaenbpkcehenkacFree
import Derived.Deep.MidRow
namespace Go.Fk
open Go Go.RowKit

/-- A row of which a part is written over. -/
def patch (cs : Array Value) (o : Nat) : List Value → Array Value
  | [] => cs
  | v :: r => patch (cs.setIfInBounds o v) (o + 1) r

/-- A world behind a store into block g, which holds a row thereafter. -/
structure Wrote (w w' : World) (g : Nat) (t : TypeId) (cs : Array Value) : Prop where
  row : Row w' g t cs
  other : ∀ g' t' cs', g' ≠ g → Row w g' t' cs' → Row w' g' t' cs'
  size : w'.heap.size = w.heap.size
  below : ∀ B a, Below B a w → B ≤ g → Below B a w'
  block : ∀ k, k ≠ g → w'.heap[k]? = w.heap[k]?

theorem wrote_setCells {g : Nat} {t : TypeId} : ∀ (vs : List Value) (o : Nat) (cs : Array Value) (w : World), Row w g t cs → Wrote w (w.setCells g o vs) g t (patch cs o vs)
  | [], _, _, _, h => ⟨h, fun _ _ _ _ h => h, rfl, fun _ _ h _ => h, fun _ _ => rfl⟩
  | v :: r, o, cs, w, h => by
    rw [World.setCells]
    have k := wrote_setCells r (o + 1) _ _ (h.set o v)
    refine ⟨k.row, fun g' t' cs' hne hr => k.other _ _ _ hne (hr.other ⟨g, o, none⟩ v hne), ?_, fun B a hb hg => k.below B a (hb.setCell hg v) hg, fun i hi => (k.block i hi).trans (Below.heap_setCell _ _ _ _ hi)⟩
    rw [k.size]; simp
theorem wrote_setRow {g : Nat} {t : TypeId} {w : World} {cs ds : Array Value} (h : Row w g t cs) : Wrote w (w.setRow g ds) g t ds :=
  ⟨h.setRow _, fun _ _ _ hne hr => hr.setRow_other hne _, by simp [World.setRow], fun _ _ hb hg => below_setRow hb hg _, fun i hi => by unfold World.setRow; rw [Array.getElem?_modify, if_neg (Ne.symm hi)]⟩

section
variable {P : Program} {w : World} {ops : Array Oper} {rest : List Oper} {o : Oper} {a : Act} {Q : Exit → Act → World → Prop}
/-- A whole array or struct is loaded. -/
theorem wpList_loadD (hg : o.guard = none) {ty : TypeId} {x : Operand} (hop : o.op = .load ty x) {g : Nat} (hx : a.eval x = .pointer (some ⟨g, 0, none⟩)) {t : TypeId} {cs : Array Value} {d : TypeDesc}
    (hr : Row w g t cs) (hu : P.underlying ty = some d) (hd : (match d with | .struct _ | .array _ _ => true | _ => false) = true) (hi : (P.info? ty).map (·.size) = some cs.size)
    (h : wpList P ops Q rest (a.put o.dst (.agg cs)) w) : wpList P ops Q (o :: rest) a w :=
  wpList_load_row hg ty x hop g hx t cs (0, 0) d hr hu hd hi h
theorem wpList_loadDn (hg : o.guard = none) {ty : TypeId} {x : Operand} (hop : o.op = .load ty x) {g : Nat} (hx : a.eval x = .pointer (some ⟨g, 0, none⟩)) {t : TypeId} {cs : Array Value} {d : TypeDesc}
    (hr : Row w g t cs) (hu : P.underlying ty = some d) (hd : (match d with | .struct _ | .array _ _ => true | _ => false) = true) {n : Nat} (hi : (P.info? ty).map (·.size) = some n) (hn : cs.size = n)
    (h : wpList P ops Q rest (a.put o.dst (.agg cs)) w) : wpList P ops Q (o :: rest) a w :=
  wpList_loadD hg hop hx hr hu hd (hn ▸ hi) h
/-- A part that is an array or a struct is loaded. -/
theorem wpList_loadP (hg : o.guard = none) {ty : TypeId} {x : Operand} (hop : o.op = .load ty x) {g f : Nat} (hx : a.eval x = .pointer (some ⟨g, f, none⟩)) {t : TypeId} {cs : Array Value} {d : TypeDesc}
    (hr : Row w g t cs) (hu : P.underlying ty = some d) (hd : d.isRow = true) (ds : List Value) (hc : ∀ j, j < ds.length → cs[f + j]? = ds[j]?) (hi : (P.info? ty).map (·.size) = some ds.length)
    (h : wpList P ops Q rest (a.put o.dst (.agg ds.toArray)) w) : wpList P ops Q (o :: rest) a w :=
  wpList_load_mid hg ty x hop g f hx ds d (fun j v hv => by rw [hr.cell?, hc j (List.getElem?_eq_some_iff.1 hv).1, hv]) hu hd hi h
/-- A whole array or struct is stored. -/
theorem wpList_storeD (hg : o.guard = none) {ty : TypeId} {x y : Operand} (hop : o.op = .store ty x y) {g : Nat} (hx : a.eval x = .pointer (some ⟨g, 0, none⟩)) {cells : Array Value} (hy : a.eval y = .agg cells) {t : TypeId} {old : Array Value}
    (hr : Row w g t old) (hi : (P.info? ty).map (·.size) = some cells.size) (ho : old.size = cells.size) (h1 : cells.all (·.oneCell') = true)
    (h : ∀ w', Wrote w w' g t cells → wpList P ops Q rest (a.put o.dst undef) w') : wpList P ops Q (o :: rest) a w :=
  wpList_plain hg fun _ hK => wp_store_row ty x y hop g cells hx hy t old hr hi ho h1 (hK _ _ (h _ (wrote_setRow hr)))
/-- A part is stored. -/
theorem wpList_storeP (hg : o.guard = none) {ty : TypeId} {x y : Operand} (hop : o.op = .store ty x y) {g f : Nat} (hx : a.eval x = .pointer (some ⟨g, f, none⟩)) {cells : List Value} (hy : a.eval y = .agg cells.toArray) {t : TypeId} {old : Array Value}
    (hr : Row w g t old) (hi : (P.info? ty).map (·.size) = some cells.length) (ho : f + cells.length ≤ old.size) (h1 : cells.toArray.all (·.oneCell') = true)
    (h : ∀ w', Wrote w w' g t (patch old f cells) → wpList P ops Q rest (a.put o.dst undef) w') : wpList P ops Q (o :: rest) a w := by
  refine wpList_store_mid hg ty x y hop g f cells.toArray hx hy (fun j hj => ?_) (by simpa using hi) h1 ?_
  · have hj' : f + j < old.size := by simp at hj; omega
    refine ⟨?_, hr.frozen _⟩
    rw [hr.cell?, Array.getElem?_eq_getElem hj']; rfl
  · have := h _ (wrote_setCells (cells.toArray.toList) f old w hr)
    simpa using this
/-- A fresh block is written whole. -/
theorem wpList_storeN {w1 : World} {t : TypeId} {old : Array Value} (hw : w = w1.alloc (.cells old t)) (hg : o.guard = none) {ty : TypeId} {x y : Operand} (hop : o.op = .store ty x y) (hx : a.eval x = .pointer (some ⟨w1.heap.size, 0, none⟩)) {cells : Array Value} (hy : a.eval y = .agg cells)
    (hi : (P.info? ty).map (·.size) = some cells.size) (ho : old.size = cells.size) (h1 : cells.all (·.oneCell') = true)
    (h : ∀ w', Row w' w1.heap.size t cells → le w1 w' → w'.heap.size = w1.heap.size + 1 → wpList P ops Q rest (a.put o.dst undef) w') : wpList P ops Q (o :: rest) a w := by
  subst hw
  refine wpList_storeD hg hop hx hy (Row.new w1 t old) hi ho h1 (fun w' hw => h w' hw.row (hw.below _ _ (le_alloc w1 _) (Nat.le_refl _)) ?_)
  rw [hw.size]; simp

/-- To stop a walk at a store. -/
theorem stop_store {ty : TypeId} {x y : Operand} (_ : o.op = .store ty x y) (h : Hid (wpList P ops Q (o :: rest) a w)) : wpList P ops Q (o :: rest) a w := h
/-- Of six cells those of three. -/
theorem wpList_load3 (hg : o.guard = none) {ty : TypeId} {x : Operand} (hop : o.op = .load ty x) {g : Nat} (hx : a.eval x = .pointer (some ⟨g, 1, none⟩)) {t : TypeId} {v0 v1 v2 v3 v4 v5 : Value} {d : TypeDesc}
    (hr : Row w g t #[v0, v1, v2, v3, v4, v5]) (hu : P.underlying ty = some d) (hd : d.isRow = true) (hi : (P.info? ty).map (·.size) = some 3)
    (h : wpList P ops Q rest (a.put o.dst (.agg #[v1, v2, v3])) w) : wpList P ops Q (o :: rest) a w :=
  wpList_loadP hg hop hx hr hu hd [v1, v2, v3] (fun j hj => by match j, hj with | 0, _ => rfl | 1, _ => rfl | 2, _ => rfl) hi h
/-- Of six cells the last two. -/
theorem wpList_load2 (hg : o.guard = none) {ty : TypeId} {x : Operand} (hop : o.op = .load ty x) {g : Nat} (hx : a.eval x = .pointer (some ⟨g, 4, none⟩)) {t : TypeId} {v0 v1 v2 v3 v4 v5 : Value} {d : TypeDesc}
    (hr : Row w g t #[v0, v1, v2, v3, v4, v5]) (hu : P.underlying ty = some d) (hd : d.isRow = true) (hi : (P.info? ty).map (·.size) = some 2)
    (h : wpList P ops Q rest (a.put o.dst (.agg #[v4, v5])) w) : wpList P ops Q (o :: rest) a w :=
  wpList_loadP hg hop hx hr hu hd [v4, v5] (fun j hj => by match j, hj with | 0, _ => rfl | 1, _ => rfl) hi h
theorem wpList_store3 (hg : o.guard = none) {ty : TypeId} {x y : Operand} (hop : o.op = .store ty x y) {g : Nat} (hx : a.eval x = .pointer (some ⟨g, 1, none⟩)) {u1 u2 u3 : Value} (hy : a.eval y = .agg #[u1, u2, u3]) {t : TypeId} {v0 v1 v2 v3 v4 v5 : Value}
    (hr : Row w g t #[v0, v1, v2, v3, v4, v5]) (hi : (P.info? ty).map (·.size) = some 3) (h1 : (#[u1, u2, u3]).all (·.oneCell') = true)
    (h : ∀ w', Wrote w w' g t #[v0, u1, u2, u3, v4, v5] → wpList P ops Q rest (a.put o.dst undef) w') : wpList P ops Q (o :: rest) a w :=
  wpList_storeP (cells := [u1, u2, u3]) hg hop hx hy hr hi (by simp) h1 h
theorem wpList_store2 (hg : o.guard = none) {ty : TypeId} {x y : Operand} (hop : o.op = .store ty x y) {g : Nat} (hx : a.eval x = .pointer (some ⟨g, 4, none⟩)) {u1 u2 : Value} (hy : a.eval y = .agg #[u1, u2]) {t : TypeId} {v0 v1 v2 v3 v4 v5 : Value}
    (hr : Row w g t #[v0, v1, v2, v3, v4, v5]) (hi : (P.info? ty).map (·.size) = some 2) (h1 : (#[u1, u2]).all (·.oneCell') = true)
    (h : ∀ w', Wrote w w' g t #[v0, v1, v2, v3, u1, u2] → wpList P ops Q rest (a.put o.dst undef) w') : wpList P ops Q (o :: rest) a w :=
  wpList_storeP (cells := [u1, u2]) hg hop hx hy hr hi (by simp) h1 h
/-- Results of which the first is a struct that lies in memory. -/
theorem results_row1 {fn : Func} {p : Tmp} {ty : TypeId} (h : fn.results = #[.cell p ty]) (tmps : Array Value) (w : World) (g : Nat) (t : TypeId) (cs : Array Value) {d : TypeDesc}
    (hp : tmps.getD p undef = .pointer (some ⟨g, 0, none⟩)) (hg : Row w g t cs) (hu : P.underlying ty = some d) (hd : (match d with | .struct _ | .array _ _ => true | _ => false) = true) (hi : (P.info? ty).map (·.size) = some cs.size) :
    (results fn tmps).run P w = .ok (.agg cs) w := results_cell_row h tmps w g t cs (0, 0) d hp hg hu hd hi
theorem results_row2 {fn : Func} {p u : Tmp} {ty : TypeId} (h : fn.results = #[.cell p ty, .tmp u]) (tmps : Array Value) (w : World) (g : Nat) (t : TypeId) (cs : Array Value) {d : TypeDesc}
    (hp : tmps.getD p undef = .pointer (some ⟨g, 0, none⟩)) (hg : Row w g t cs) (hu : P.underlying ty = some d) (hd : (match d with | .struct _ | .array _ _ => true | _ => false) = true) (hi : (P.info? ty).map (·.size) = some cs.size) :
    (results fn tmps).run P w = .ok (.tuple #[.agg cs, tmps.getD u undef]) w := by
  have hp' : tmps[p]?.getD undef = .pointer (some ⟨g, 0, none⟩) := by simpa using hp
  simp [results, h, hp', asAddr, run_loadVar_row w g t ty cs (0, 0) _ hg hu hd hi]
theorem results_cct {fn : Func} {p q u : Tmp} {ty ty' : TypeId} (h : fn.results = #[.cell p ty, .cell q ty', .tmp u]) (tmps : Array Value) (w : World) (g g' : Nat) (t t' : TypeId) (cs cs' : Array Value) {d d' : TypeDesc}
    (hp : tmps.getD p undef = .pointer (some ⟨g, 0, none⟩)) (hg : Row w g t cs) (hu : P.underlying ty = some d) (hd : (match d with | .struct _ | .array _ _ => true | _ => false) = true) (hi : (P.info? ty).map (·.size) = some cs.size)
    (hp' : tmps.getD q undef = .pointer (some ⟨g', 0, none⟩)) (hg' : Row w g' t' cs') (hu' : P.underlying ty' = some d') (hd' : (match d' with | .struct _ | .array _ _ => true | _ => false) = true) (hi' : (P.info? ty').map (·.size) = some cs'.size) :
    (results fn tmps).run P w = .ok (.tuple #[.agg cs, .agg cs', tmps.getD u undef]) w := by
  have hq : tmps[p]?.getD undef = .pointer (some ⟨g, 0, none⟩) := by simpa using hp
  have hq' : tmps[q]?.getD undef = .pointer (some ⟨g', 0, none⟩) := by simpa using hp'
  simp [results, h, hq, hq', asAddr, run_loadVar_row w g t ty cs (0, 0) _ hg hu hd hi, run_loadVar_row w g' t' ty' cs' (0, 0) _ hg' hu' hd' hi']
theorem results_row2r {fn : Func} {p u : Tmp} {ty : TypeId} (h : fn.results = #[.tmp u, .cell p ty]) (tmps : Array Value) (w : World) (g : Nat) (t : TypeId) (cs : Array Value) {d : TypeDesc}
    (hp : tmps.getD p undef = .pointer (some ⟨g, 0, none⟩)) (hg : Row w g t cs) (hu : P.underlying ty = some d) (hd : (match d with | .struct _ | .array _ _ => true | _ => false) = true) (hi : (P.info? ty).map (·.size) = some cs.size) :
    (results fn tmps).run P w = .ok (.tuple #[tmps.getD u undef, .agg cs]) w := by
  have hp' : tmps[p]?.getD undef = .pointer (some ⟨g, 0, none⟩) := by simpa using hp
  simp [results, h, hp', asAddr, run_loadVar_row w g t ty cs (0, 0) _ hg hu hd hi]
theorem results_row3 {fn : Func} {p u v : Tmp} {ty : TypeId} (h : fn.results = #[.cell p ty, .tmp u, .tmp v]) (tmps : Array Value) (w : World) (g : Nat) (t : TypeId) (cs : Array Value) {d : TypeDesc}
    (hp : tmps.getD p undef = .pointer (some ⟨g, 0, none⟩)) (hg : Row w g t cs) (hu : P.underlying ty = some d) (hd : (match d with | .struct _ | .array _ _ => true | _ => false) = true) (hi : (P.info? ty).map (·.size) = some cs.size) :
    (results fn tmps).run P w = .ok (.tuple #[.agg cs, tmps.getD u undef, tmps.getD v undef]) w := by
  have hp' : tmps[p]?.getD undef = .pointer (some ⟨g, 0, none⟩) := by simpa using hp
  simp [results, h, hp', asAddr, run_loadVar_row w g t ty cs (0, 0) _ hg hu hd hi]
end
end Go.Fk
