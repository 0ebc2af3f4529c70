/- Blocks of memory that hold known rows of cells, told of worlds that are variables. Nothing here names a program. -/
import Derived.Test.YtaenbpkcehenkadFlt
import Derived.Below
import Derived.Handy
namespace Go.Fk
open Go Go.RowKit

/-- A row of n cells, told by a function. -/
def tab (f : Nat → Value) (n : Nat) : Array Value := ((List.range n).map f).toArray
theorem size_tab (f : Nat → Value) (n : Nat) : (tab f n).size = n := by simp [tab]
theorem get_tab (f : Nat → Value) (n j : Nat) (h : j < n) : (tab f n)[j]? = some (f j) := by simp [tab, h]
theorem set_tab (f : Nat → Value) (n k : Nat) (v : Value) : (tab f n).setIfInBounds k v = tab (fun j => if j = k then v else f j) n := by
  apply Array.ext
  · simp [tab]
  · intro i h1 h2
    simp only [tab, List.size_toArray, List.length_map, List.length_range, Array.size_setIfInBounds] at h1 h2
    rw [Array.getElem_setIfInBounds]
    · simp [tab, eq_comm]
    · simpa [tab] using h1
theorem tab_congr {f g : Nat → Value} {n : Nat} (h : ∀ j, j < n → f j = g j) : tab f n = tab g n := by
  unfold tab
  congr 1
  exact List.map_congr_left (fun j hj => h j (List.mem_range.1 hj))
theorem tab_of_list (l : List Value) (d : Value) : l.toArray = tab (fun j => l.getD j d) l.length := by
  unfold tab
  congr 1
  apply List.ext_getElem
  · simp
  · intro i h1 h2
    simp [List.getD, List.getElem?_eq_getElem h1]
theorem all_tab (f : Nat → Value) (n : Nat) (p : Value → Bool) (h : ∀ j, j < n → p (f j) = true) : (tab f n).all p = true := by
  simp only [tab, Array.all_eq_true_iff_forall_mem]
  intro v hv
  simp only [List.mem_toArray, List.mem_map, List.mem_range] at hv
  obtain ⟨j, hj, rfl⟩ := hv
  exact h j hj

/-- A row of floats. -/
def ftab (k : FloatKind) (g : Nat → Nat) (n : Nat) : Array Value := tab (fun j => .float k (g j)) n
def itab (k : IntKind) (g : Nat → Int) (n : Nat) : Array Value := tab (fun j => .int k (g j)) n
theorem size_ftab (k : FloatKind) (g : Nat → Nat) (n : Nat) : (ftab k g n).size = n := size_tab _ _
theorem get_ftab (k : FloatKind) (g : Nat → Nat) (n j : Nat) (h : j < n) : (ftab k g n)[j]? = some (.float k (g j)) := get_tab _ _ _ h
theorem get_itab (k : IntKind) (g : Nat → Int) (n j : Nat) (h : j < n) : (itab k g n)[j]? = some (.int k (g j)) := get_tab _ _ _ h
theorem size_itab (k : IntKind) (g : Nat → Int) (n : Nat) : (itab k g n).size = n := size_tab _ _
theorem set_ftab (kd : FloatKind) (g : Nat → Nat) (n k r : Nat) : (ftab kd g n).setIfInBounds k (.float kd r) = ftab kd (fun j => if j = k then r else g j) n := by
  unfold ftab; rw [set_tab]; congr 1; funext j; by_cases h : j = k <;> simp [h]
theorem set_itab (kd : IntKind) (g : Nat → Int) (n k : Nat) (r : Int) : (itab kd g n).setIfInBounds k (.int kd r) = itab kd (fun j => if j = k then r else g j) n := by
  unfold itab; rw [set_tab]; congr 1; funext j; by_cases h : j = k <;> simp [h]
theorem ftab_congr {kd : FloatKind} {f g : Nat → Nat} {n : Nat} (h : ∀ j, j < n → f j = g j) : ftab kd f n = ftab kd g n := tab_congr (fun j hj => by rw [h j hj])
theorem ftab_of_list (kd : FloatKind) (l : List Nat) : (l.map (Value.float kd)).toArray = ftab kd (fun j => l.getD j 0) l.length := by
  unfold ftab tab
  congr 1
  apply List.ext_getElem
  · simp
  · intro i h1 h2
    simp at h1
    simp [List.getD, List.getElem?_eq_getElem h1]
theorem itab_of_list (kd : IntKind) (l : List Int) : (l.map (Value.int kd)).toArray = itab kd (fun j => l.getD j 0) l.length := by
  unfold itab tab
  congr 1
  apply List.ext_getElem
  · simp
  · intro i h1 h2
    simp at h1
    simp [List.getD, List.getElem?_eq_getElem h1]
theorem one_ftab (kd : FloatKind) (g : Nat → Nat) (n : Nat) : (ftab kd g n).all (·.oneCell') = true := all_tab _ _ _ (fun _ _ => rfl)
theorem one_itab (kd : IntKind) (g : Nat → Int) (n : Nat) : (itab kd g n).all (·.oneCell') = true := all_tab _ _ _ (fun _ _ => rfl)

/-- Block g holds just this row. -/
def Row (w : World) (g : Nat) (t : TypeId) (cs : Array Value) : Prop := w.heap[g]? = some (.cells cs t (0, 0))

namespace Row
variable {w w' : World} {g : Nat} {t : TypeId} {cs : Array Value}
theorem lt (h : Row w g t cs) : g < w.heap.size := by
  unfold Row at h
  rcases Nat.lt_or_ge g w.heap.size with h1 | h1
  · exact h1
  · rw [Array.getElem?_eq_none h1] at h; cases h
theorem cell? (h : Row w g t cs) (i : Nat) : w.cell? ⟨g, i, none⟩ = cs[i]? := cell_of_row w g i cs t (0, 0) h
theorem frozen (h : Row w g t cs) (i : Nat) : w.frozen? ⟨g, i, none⟩ = false := frozen_of_row w g i cs t h
theorem tab {f : Nat → Value} {n : Nat} (h : Row w g t (tab f n)) {i : Nat} (hi : i < n) : w.cell? ⟨g, i, none⟩ = some (f i) := by rw [h.cell?, get_tab f n i hi]
theorem ftab {kd : FloatKind} {f : Nat → Nat} {n : Nat} (h : Row w g t (ftab kd f n)) {i : Nat} (hi : i < n) : w.cell? ⟨g, i, none⟩ = some (.float kd (f i)) := Row.tab h hi
theorem itab {kd : IntKind} {f : Nat → Int} {n : Nat} (h : Row w g t (itab kd f n)) {i : Nat} (hi : i < n) : w.cell? ⟨g, i, none⟩ = some (.int kd (f i)) := Row.tab h hi
theorem ne_of {g' : Nat} {t' : TypeId} {cs' : Array Value} (h : Row w g t cs) (h' : Row w g' t' cs') (ht : t ≠ t') : g ≠ g' := by
  rintro rfl
  unfold Row at h h'
  rw [h] at h'
  simp only [Option.some.injEq, Obj.cells.injEq] at h'
  exact ht h'.2.1
theorem set (h : Row w g t cs) (i : Nat) (v : Value) : Row (w.setCell ⟨g, i, none⟩ v) g t (cs.setIfInBounds i v) := heap_setCell_same w g i cs t v h
theorem other (h : Row w g t cs) (a : Addr) (v : Value) (hne : g ≠ a.block) : Row (w.setCell a v) g t cs := by
  unfold Row; rw [heap_setCell_other w a g v hne]; exact h
theorem new (w : World) (t : TypeId) (cs : Array Value) : Row (w.alloc (.cells cs t)) w.heap.size t cs := _root_.Go.heap_alloc_new w _
theorem new' {n : Nat} (w : World) (t : TypeId) (cs : Array Value) (hn : n = w.heap.size) : Row (w.alloc (.cells cs t)) n t cs := by subst hn; exact _root_.Go.heap_alloc_new w _
theorem alloc (h : Row w g t cs) (o : Obj) : Row (w.alloc o) g t cs := by
  unfold Row; rw [Below.heap_alloc w o g h.lt]; exact h
theorem drewN (h : Row w g t cs) (n : Nat) : Row (w.drewN n) g t cs := h
theorem drew (h : Row w g t cs) : Row w.drew g t cs := h
theorem below {B : Nat} (h : Row w g t cs) (hb : Below B w w') (hg : g < B) : Row w' g t cs := by
  unfold Row; rw [hb.block g hg]; exact h
theorem setRow (h : Row w g t cs) (ds : Array Value) : Row (w.setRow g ds) g t ds := by
  unfold Row at *
  unfold World.setRow
  simp [Array.getElem?_modify, h]
theorem setRow_other (h : Row w g t cs) {g' : Nat} (hne : g ≠ g') (ds : Array Value) : Row (w.setRow g' ds) g t cs := by
  unfold Row at *
  unfold World.setRow
  rw [Array.getElem?_modify, if_neg (Ne.symm hne)]; exact h
end Row
theorem below_setRow {B : Nat} {a w : World} (h : Below B a w) {g : Nat} (hg : B ≤ g) (ds : Array Value) : Below B a (w.setRow g ds) := by
  refine h.trans ⟨rfl, rfl, rfl, ?_, ?_⟩
  · simp [World.setRow]
  · intro k hk
    unfold World.setRow
    rw [Array.getElem?_modify, if_neg (by omega)]

section
variable {P : Program} {w : World} {ops : Array Oper} {rest : List Oper} {o : Oper} {a : Act} {Q : Exit → Act → World → Prop}
/-- An element of an array value. -/
theorem run_index_arr (w : World) {t e : TypeId} {n k : Nat} {cs : Array Value} {v : Value} {fk : FloatKind} (h : P.underlying t = some (.array n e)) (he : P.underlying e = some (.float fk)) (hs : (P.info? e).map (·.size) = some 1)
    (hk : k < n) (hc : cs[k]? = some v) (kk : IntKind) : (Instr.index t (.agg cs) (.int kk (k : Int))).run P w = .ok v w := by
  cases hq : P.info? e with
  | none => simp [hq] at hs
  | some i =>
    have hsz : i.size = 1 := by simpa [hq] using hs
    have h2 : (k : Int) < n := by omega
    simp [Instr.index, asIntOf, run_underlying h, sizeOf, typeInfo, hq, hsz, part, isAgg, run_underlying he, h2, hc]
    exact fun h => by omega
/-- An element of an array value. -/
theorem run_index_arr_i (w : World) {t e : TypeId} {n k : Nat} {cs : Array Value} {v : Value} {ik : IntKind} (h : P.underlying t = some (.array n e)) (he : P.underlying e = some (.int ik)) (hs : (P.info? e).map (·.size) = some 1)
    (hk : k < n) (hc : cs[k]? = some v) (kk : IntKind) : (Instr.index t (.agg cs) (.int kk (k : Int))).run P w = .ok v w := by
  cases hq : P.info? e with
  | none => simp [hq] at hs
  | some i =>
    have hsz : i.size = 1 := by simpa [hq] using hs
    have h2 : (k : Int) < n := by omega
    simp [Instr.index, asIntOf, run_underlying h, sizeOf, typeInfo, hq, hsz, part, isAgg, run_underlying he, h2, hc]
    exact fun h => by omega
/-- A whole array is loaded. -/
theorem wpList_loadA (hg : o.guard = none) {ty : TypeId} {x : Operand} (hop : o.op = .load ty x) {g : Nat} (hx : a.eval x = .pointer (some ⟨g, 0, none⟩)) {t : TypeId} {cs : Array Value} {n : Nat} {e : TypeId}
    (hr : Row w g t cs) (hu : P.underlying ty = some (.array n e)) (hi : (P.info? ty).map (·.size) = some cs.size)
    (h : wpList P ops Q rest (a.put o.dst (.agg cs)) w) : wpList P ops Q (o :: rest) a w :=
  wpList_load_row hg ty x hop g hx t cs (0, 0) _ hr hu rfl hi h
/-- A whole array is stored. -/
theorem wpList_storeA (hg : o.guard = none) {ty : TypeId} {x y : Operand} (hop : o.op = .store ty x y) {g : Nat} (hx : a.eval x = .pointer (some ⟨g, 0, none⟩)) {cells : Array Value} (hy : a.eval y = .agg cells) {t : TypeId} {old : Array Value}
    (hr : Row w g t old) (hi : (P.info? ty).map (·.size) = some cells.size) (ho : old.size = cells.size) (h1 : cells.all (·.oneCell') = true)
    (h : wpList P ops Q rest (a.put o.dst undef) (w.setRow g cells)) : wpList P ops Q (o :: rest) a w :=
  wpList_plain hg fun _ hK => wp_store_row ty x y hop g cells hx hy t old hr hi ho h1 (hK _ _ h)
/-- Two results: an array that lies in memory, and a slot. -/
theorem results_cellrow_tmp {fn : Func} {p u : Tmp} {ty : TypeId} (h : fn.results = #[.cell p ty, .tmp u]) (tmps : Array Value) (w : World) (g : Nat) (t : TypeId) (cs : Array Value) {n : Nat} {e : TypeId}
    (hp : tmps.getD p undef = .pointer (some ⟨g, 0, none⟩)) (hg : Row w g t cs) (hu : P.underlying ty = some (.array n e)) (hi : (P.info? ty).map (·.size) = some cs.size) :
    (results fn tmps).run P w = .ok (.tuple #[.agg cs, tmps.getD u undef]) w := by
  have hp' : tmps[p]?.getD undef = .pointer (some ⟨g, 0, none⟩) := by simpa using hp
  simp [results, h, hp', asAddr, run_loadVar_row w g t ty cs (0, 0) _ hg hu rfl hi]
end
end Go.Fk
