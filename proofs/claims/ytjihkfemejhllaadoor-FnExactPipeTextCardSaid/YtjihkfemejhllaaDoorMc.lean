/- Texts of the walk, laid in one file. -/
import Derived.Lib.SlBytesRow
import Derived.Lib.Join
import Derived.Shelf.Strings.OnBuilder
import Derived.Test.YtjihkfemejhllaaDoorRows
import Derived.Handy
import Derived.Below
import Derived.ArgAppend
import Derived.OwnWalk
import Derived.Great.BuildSlice
import Derived.LoopN
import Derived.Laws.Concat
import Derived.Test.YtjihkfemejhllaaDoorMb
set_option linter.unusedVariables false
set_option linter.unusedSimpArgs false
/- Sizes of types, kinds of their cells; the kinds of data. -/
namespace Go.Fk
open Go Go.RowKit
theorem partFilter_C (v0 v1 v2 v3 v4 v5 : Value) : ∀ j, j < [v1, v2, v3].length → (#[v0, v1, v2, v3, v4, v5] : Array Value)[1 + j]? = [v1, v2, v3][j]? := fun j hj => by match j, hj with | 0, _ => rfl | 1, _ => rfl | 2, _ => rfl
theorem partFilter_S (v0 v1 v2 v3 v4 v5 : Value) : ∀ j, j < [v4, v5].length → (#[v0, v1, v2, v3, v4, v5] : Array Value)[4 + j]? = [v4, v5][j]? := fun j hj => by match j, hj with | 0, _ => rfl | 1, _ => rfl
theorem partString_Loop (v0 v1 v2 v3 v4 v5 v6 v7 v8 v9 v10 v11 v12 v13 v14 : Value) : ∀ j, j < [v0, v1].length → (#[v0, v1, v2, v3, v4, v5, v6, v7, v8, v9, v10, v11, v12, v13, v14] : Array Value)[0 + j]? = [v0, v1][j]? := fun j hj => by match j, hj with | 0, _ => rfl | 1, _ => rfl
theorem partString_Tune (v0 v1 v2 v3 v4 v5 v6 v7 v8 v9 v10 v11 v12 v13 v14 : Value) : ∀ j, j < [v2, v3, v4, v5, v6, v7].length → (#[v0, v1, v2, v3, v4, v5, v6, v7, v8, v9, v10, v11, v12, v13, v14] : Array Value)[2 + j]? = [v2, v3, v4, v5, v6, v7][j]? := fun j hj => by match j, hj with | 0, _ => rfl | 1, _ => rfl | 2, _ => rfl | 3, _ => rfl | 4, _ => rfl | 5, _ => rfl
theorem partString_Damp (v0 v1 v2 v3 v4 v5 v6 v7 v8 v9 v10 v11 v12 v13 v14 : Value) : ∀ j, j < [v8, v9, v10, v11, v12, v13].length → (#[v0, v1, v2, v3, v4, v5, v6, v7, v8, v9, v10, v11, v12, v13, v14] : Array Value)[8 + j]? = [v8, v9, v10, v11, v12, v13][j]? := fun j hj => by match j, hj with | 0, _ => rfl | 1, _ => rfl | 2, _ => rfl | 3, _ => rfl | 4, _ => rfl | 5, _ => rfl
theorem partPipe_End (v0 v1 v2 v3 v4 v5 v6 v7 v8 v9 v10 v11 v12 : Value) : ∀ j, j < [v3, v4, v5, v6, v7, v8].length → (#[v0, v1, v2, v3, v4, v5, v6, v7, v8, v9, v10, v11, v12] : Array Value)[3 + j]? = [v3, v4, v5, v6, v7, v8][j]? := fun j hj => by match j, hj with | 0, _ => rfl | 1, _ => rfl | 2, _ => rfl | 3, _ => rfl | 4, _ => rfl | 5, _ => rfl
theorem partBow_Neck (v0 v1 v2 v3 v4 v5 v6 v7 v8 v9 v10 v11 : Value) : ∀ j, j < [v0, v1].length → (#[v0, v1, v2, v3, v4, v5, v6, v7, v8, v9, v10, v11] : Array Value)[0 + j]? = [v0, v1][j]? := fun j hj => by match j, hj with | 0, _ => rfl | 1, _ => rfl
theorem partBow_Bridge (v0 v1 v2 v3 v4 v5 v6 v7 v8 v9 v10 v11 : Value) : ∀ j, j < [v2, v3].length → (#[v0, v1, v2, v3, v4, v5, v6, v7, v8, v9, v10, v11] : Array Value)[2 + j]? = [v2, v3][j]? := fun j hj => by match j, hj with | 0, _ => rfl | 1, _ => rfl
theorem partBow_Damp (v0 v1 v2 v3 v4 v5 v6 v7 v8 v9 v10 v11 : Value) : ∀ j, j < [v4, v5, v6, v7, v8, v9].length → (#[v0, v1, v2, v3, v4, v5, v6, v7, v8, v9, v10, v11] : Array Value)[4 + j]? = [v4, v5, v6, v7, v8, v9][j]? := fun j hj => by match j, hj with | 0, _ => rfl | 1, _ => rfl | 2, _ => rfl | 3, _ => rfl | 4, _ => rfl | 5, _ => rfl
theorem partJet_Throat (v0 v1 v2 v3 v4 v5 v6 v7 v8 v9 v10 v11 v12 v13 v14 v15 v16 v17 : Value) : ∀ j, j < [v0, v1].length → (#[v0, v1, v2, v3, v4, v5, v6, v7, v8, v9, v10, v11, v12, v13, v14, v15, v16, v17] : Array Value)[0 + j]? = [v0, v1][j]? := fun j hj => by match j, hj with | 0, _ => rfl | 1, _ => rfl
theorem partJet_Bore (v0 v1 v2 v3 v4 v5 v6 v7 v8 v9 v10 v11 v12 v13 v14 v15 v16 v17 : Value) : ∀ j, j < [v2, v3].length → (#[v0, v1, v2, v3, v4, v5, v6, v7, v8, v9, v10, v11, v12, v13, v14, v15, v16, v17] : Array Value)[2 + j]? = [v2, v3][j]? := fun j hj => by match j, hj with | 0, _ => rfl | 1, _ => rfl
theorem partJet_Low (v0 v1 v2 v3 v4 v5 v6 v7 v8 v9 v10 v11 v12 v13 v14 v15 v16 v17 : Value) : ∀ j, j < [v4, v5, v6, v7, v8, v9].length → (#[v0, v1, v2, v3, v4, v5, v6, v7, v8, v9, v10, v11, v12, v13, v14, v15, v16, v17] : Array Value)[4 + j]? = [v4, v5, v6, v7, v8, v9][j]? := fun j hj => by match j, hj with | 0, _ => rfl | 1, _ => rfl | 2, _ => rfl | 3, _ => rfl | 4, _ => rfl | 5, _ => rfl
theorem partJet_Dc (v0 v1 v2 v3 v4 v5 v6 v7 v8 v9 v10 v11 v12 v13 v14 v15 v16 v17 : Value) : ∀ j, j < [v10, v11, v12, v13, v14, v15].length → (#[v0, v1, v2, v3, v4, v5, v6, v7, v8, v9, v10, v11, v12, v13, v14, v15, v16, v17] : Array Value)[10 + j]? = [v10, v11, v12, v13, v14, v15][j]? := fun j hj => by match j, hj with | 0, _ => rfl | 1, _ => rfl | 2, _ => rfl | 3, _ => rfl | 4, _ => rfl | 5, _ => rfl
theorem partComb_Ring (v0 v1 v2 : Value) : ∀ j, j < [v0, v1].length → (#[v0, v1, v2] : Array Value)[0 + j]? = [v0, v1][j]? := fun j hj => by match j, hj with | 0, _ => rfl | 1, _ => rfl
theorem partScore_Tuning (v0 v1 v2 v3 v4 v5 : Value) : ∀ j, j < [v1, v2, v3].length → (#[v0, v1, v2, v3, v4, v5] : Array Value)[1 + j]? = [v1, v2, v3][j]? := fun j hj => by match j, hj with | 0, _ => rfl | 1, _ => rfl | 2, _ => rfl
theorem partVoice_String (v0 v1 v2 v3 v4 v5 v6 v7 v8 v9 v10 v11 v12 v13 v14 v15 v16 v17 v18 v19 v20 v21 v22 v23 v24 v25 v26 v27 v28 v29 v30 v31 v32 v33 v34 v35 v36 v37 v38 v39 v40 v41 v42 v43 v44 : Value) : ∀ j, j < [v5, v6, v7, v8, v9, v10, v11, v12, v13, v14, v15, v16, v17, v18, v19].length → (#[v0, v1, v2, v3, v4, v5, v6, v7, v8, v9, v10, v11, v12, v13, v14, v15, v16, v17, v18, v19, v20, v21, v22, v23, v24, v25, v26, v27, v28, v29, v30, v31, v32, v33, v34, v35, v36, v37, v38, v39, v40, v41, v42, v43, v44] : Array Value)[5 + j]? = [v5, v6, v7, v8, v9, v10, v11, v12, v13, v14, v15, v16, v17, v18, v19][j]? := fun j hj => by match j, hj with | 0, _ => rfl | 1, _ => rfl | 2, _ => rfl | 3, _ => rfl | 4, _ => rfl | 5, _ => rfl | 6, _ => rfl | 7, _ => rfl | 8, _ => rfl | 9, _ => rfl | 10, _ => rfl | 11, _ => rfl | 12, _ => rfl | 13, _ => rfl | 14, _ => rfl
theorem partVoice_Pipe (v0 v1 v2 v3 v4 v5 v6 v7 v8 v9 v10 v11 v12 v13 v14 v15 v16 v17 v18 v19 v20 v21 v22 v23 v24 v25 v26 v27 v28 v29 v30 v31 v32 v33 v34 v35 v36 v37 v38 v39 v40 v41 v42 v43 v44 : Value) : ∀ j, j < [v20, v21, v22, v23, v24, v25, v26, v27, v28, v29, v30, v31, v32].length → (#[v0, v1, v2, v3, v4, v5, v6, v7, v8, v9, v10, v11, v12, v13, v14, v15, v16, v17, v18, v19, v20, v21, v22, v23, v24, v25, v26, v27, v28, v29, v30, v31, v32, v33, v34, v35, v36, v37, v38, v39, v40, v41, v42, v43, v44] : Array Value)[20 + j]? = [v20, v21, v22, v23, v24, v25, v26, v27, v28, v29, v30, v31, v32][j]? := fun j hj => by match j, hj with | 0, _ => rfl | 1, _ => rfl | 2, _ => rfl | 3, _ => rfl | 4, _ => rfl | 5, _ => rfl | 6, _ => rfl | 7, _ => rfl | 8, _ => rfl | 9, _ => rfl | 10, _ => rfl | 11, _ => rfl | 12, _ => rfl
theorem partVoice_Bow (v0 v1 v2 v3 v4 v5 v6 v7 v8 v9 v10 v11 v12 v13 v14 v15 v16 v17 v18 v19 v20 v21 v22 v23 v24 v25 v26 v27 v28 v29 v30 v31 v32 v33 v34 v35 v36 v37 v38 v39 v40 v41 v42 v43 v44 : Value) : ∀ j, j < [v33, v34, v35, v36, v37, v38, v39, v40, v41, v42, v43, v44].length → (#[v0, v1, v2, v3, v4, v5, v6, v7, v8, v9, v10, v11, v12, v13, v14, v15, v16, v17, v18, v19, v20, v21, v22, v23, v24, v25, v26, v27, v28, v29, v30, v31, v32, v33, v34, v35, v36, v37, v38, v39, v40, v41, v42, v43, v44] : Array Value)[33 + j]? = [v33, v34, v35, v36, v37, v38, v39, v40, v41, v42, v43, v44][j]? := fun j hj => by match j, hj with | 0, _ => rfl | 1, _ => rfl | 2, _ => rfl | 3, _ => rfl | 4, _ => rfl | 5, _ => rfl | 6, _ => rfl | 7, _ => rfl | 8, _ => rfl | 9, _ => rfl | 10, _ => rfl | 11, _ => rfl
theorem partPlayer_Score (v0 v1 v2 v3 v4 v5 v6 v7 v8 v9 : Value) : ∀ j, j < [v0, v1, v2, v3, v4, v5].length → (#[v0, v1, v2, v3, v4, v5, v6, v7, v8, v9] : Array Value)[0 + j]? = [v0, v1, v2, v3, v4, v5][j]? := fun j hj => by match j, hj with | 0, _ => rfl | 1, _ => rfl | 2, _ => rfl | 3, _ => rfl | 4, _ => rfl | 5, _ => rfl
theorem szL_take (cs : List CD) : ∀ k, szL (cs.take k) ≤ szL cs := by
  induction cs with
  | nil => intro k; simp
  | cons c cs ih =>
    intro k
    cases k with
    | zero => exact Nat.zero_le _
    | succ k => have := ih k; simp only [szL, List.take_succ_cons, List.map_cons, List.sum_cons] at this ⊢; omega
theorem szL_drop (cs : List CD) : ∀ k, szL (cs.drop k) ≤ szL cs := by
  induction cs with
  | nil => intro k; simp
  | cons c cs ih =>
    intro k
    cases k with
    | zero => exact Nat.le_refl _
    | succ k => have := ih k; simp only [szL, List.drop_succ_cons, List.map_cons, List.sum_cons] at this ⊢; omega
/-- A part of a struct is no greater than all of it. -/
theorem szL_le {cs ds : List CD} {m : Nat} (h : szL cs ≤ m) (i k : Nat) (e : (cs.drop i).take k = ds) : szL ds ≤ m := e ▸ Nat.le_trans (szL_take _ _) (Nat.le_trans (szL_drop _ _) h)
theorem szC_le {cs : List CD} {c : CD} {m : Nat} (h : szL cs ≤ m) (i : Nat) (e : (cs.drop i).take 1 = [c]) : c.sz ≤ m := by
  have := szL_le h i 1 e
  simpa [szL] using this
def shRing : List Sh := [.sl 1 (fun j => [.flt .f32].getD j .bool), .int .i64]
def shFilter : List Sh := [.int .i64, .flt .f32, .flt .f32, .flt .f32, .flt .f32, .flt .f32]
def shString : List Sh := [.sl 1 (fun j => [.flt .f32].getD j .bool), .int .i64, .int .i64, .flt .f32, .flt .f32, .flt .f32, .flt .f32, .flt .f32, .int .i64, .flt .f32, .flt .f32, .flt .f32, .flt .f32, .flt .f32, .flt .f32]
def shPipe : List Sh := [.sl 2 (fun j => [.sl 1 (fun j => [.flt .f32].getD j .bool), .int .i64].getD j .bool), .sl 2 (fun j => [.sl 1 (fun j => [.flt .f32].getD j .bool), .int .i64].getD j .bool), .sl 1 (fun j => [.flt .f32].getD j .bool), .int .i64, .flt .f32, .flt .f32, .flt .f32, .flt .f32, .flt .f32, .bool, .flt .f32, .flt .f32, .flt .f32]
def shBow : List Sh := [.sl 1 (fun j => [.flt .f32].getD j .bool), .int .i64, .sl 1 (fun j => [.flt .f32].getD j .bool), .int .i64, .int .i64, .flt .f32, .flt .f32, .flt .f32, .flt .f32, .flt .f32, .flt .f32, .flt .f32]
def shJet : List Sh := [.sl 1 (fun j => [.flt .f32].getD j .bool), .int .i64, .sl 1 (fun j => [.flt .f32].getD j .bool), .int .i64, .int .i64, .flt .f32, .flt .f32, .flt .f32, .flt .f32, .flt .f32, .int .i64, .flt .f32, .flt .f32, .flt .f32, .flt .f32, .flt .f32, .flt .f32, .flt .f32]
def shComb : List Sh := [.sl 1 (fun j => [.flt .f32].getD j .bool), .int .i64, .flt .f32]
def shTap : List Sh := [.int .i64, .flt .f32]
def shTuning : List Sh := [.flt .f32, .flt .f32, .sl 1 (fun j => [.flt .f32].getD j .bool)]
def shInstrument : List Sh := [.str, .int .i64, .flt .f32, .flt .f32, .flt .f32]
def shEvent : List Sh := [.int .i64, .int .i64, .int .i64, .int .i64, .int .i64, .flt .f32]
def shScore : List Sh := [.flt .f32, .flt .f32, .flt .f32, .sl 1 (fun j => [.flt .f32].getD j .bool), .sl 5 (fun j => [.str, .int .i64, .flt .f32, .flt .f32, .flt .f32].getD j .bool), .sl 6 (fun j => [.int .i64, .int .i64, .int .i64, .int .i64, .int .i64, .flt .f32].getD j .bool)]
def shVoice : List Sh := [.int .i64, .int .i64, .int .i64, .bool, .flt .f32, .sl 1 (fun j => [.flt .f32].getD j .bool), .int .i64, .int .i64, .flt .f32, .flt .f32, .flt .f32, .flt .f32, .flt .f32, .int .i64, .flt .f32, .flt .f32, .flt .f32, .flt .f32, .flt .f32, .flt .f32, .sl 2 (fun j => [.sl 1 (fun j => [.flt .f32].getD j .bool), .int .i64].getD j .bool), .sl 2 (fun j => [.sl 1 (fun j => [.flt .f32].getD j .bool), .int .i64].getD j .bool), .sl 1 (fun j => [.flt .f32].getD j .bool), .int .i64, .flt .f32, .flt .f32, .flt .f32, .flt .f32, .flt .f32, .bool, .flt .f32, .flt .f32, .flt .f32, .sl 1 (fun j => [.flt .f32].getD j .bool), .int .i64, .sl 1 (fun j => [.flt .f32].getD j .bool), .int .i64, .int .i64, .flt .f32, .flt .f32, .flt .f32, .flt .f32, .flt .f32, .flt .f32, .flt .f32]
def shPlayer : List Sh := [.flt .f32, .flt .f32, .flt .f32, .sl 1 (fun j => [.flt .f32].getD j .bool), .sl 5 (fun j => [.str, .int .i64, .flt .f32, .flt .f32, .flt .f32].getD j .bool), .sl 6 (fun j => [.int .i64, .int .i64, .int .i64, .int .i64, .int .i64, .flt .f32].getD j .bool), .sl 45 (fun j => [.int .i64, .int .i64, .int .i64, .bool, .flt .f32, .sl 1 (fun j => [.flt .f32].getD j .bool), .int .i64, .int .i64, .flt .f32, .flt .f32, .flt .f32, .flt .f32, .flt .f32, .int .i64, .flt .f32, .flt .f32, .flt .f32, .flt .f32, .flt .f32, .flt .f32, .sl 2 (fun j => [.sl 1 (fun j => [.flt .f32].getD j .bool), .int .i64].getD j .bool), .sl 2 (fun j => [.sl 1 (fun j => [.flt .f32].getD j .bool), .int .i64].getD j .bool), .sl 1 (fun j => [.flt .f32].getD j .bool), .int .i64, .flt .f32, .flt .f32, .flt .f32, .flt .f32, .flt .f32, .bool, .flt .f32, .flt .f32, .flt .f32, .sl 1 (fun j => [.flt .f32].getD j .bool), .int .i64, .sl 1 (fun j => [.flt .f32].getD j .bool), .int .i64, .int .i64, .flt .f32, .flt .f32, .flt .f32, .flt .f32, .flt .f32, .flt .f32, .flt .f32].getD j .bool), .int .i64, .int .i64, .int .i64]
section
variable {P : Program} {w : World} {ops : Array Oper} {rest : List Oper} {o : Oper} {a : Act} {Q : Exit → Act → World → Prop}
/-- A value of one cell is loaded. -/
theorem wpList_load1 {w0 : World} {L : List Fact} (hF : Frg w0 w L) (hg : o.guard = none) {ty : TypeId} {x : Operand} (hop : o.op = .load ty x) {g f : Nat} (hx : a.eval x = .pointer (some ⟨g, f, none⟩)) {t : TypeId} {cs : Array Value} (hm : rowF g t cs ∈ L) {v : Value} (hv : cs[f]? = some v) (hu : ∀ w, (isAgg ty).run P w = .ok false w)
    (h : wpList P ops Q rest (a.put o.dst v) w) : wpList P ops Q (o :: rest) a w := by
  refine wpList_plain hg fun K hK' => ?_
  unfold Oper.wp execOp
  have hc : w.cell? ⟨g, f, none⟩ = some v := by rw [(hF.row hm).cell?, hv]
  have hl : (Instr.loadAt ty (.pointer (some ⟨g, f, none⟩))).run P w = .ok v w := by
    simp [Instr.loadAt, Instr.sureAddr, loadVar, hu, hc]
  simp [hop, hx, hl, Result.andThen]
  exact hK' _ _ h
/-- A value of one cell is stored. -/
theorem wpList_store1 (hg : o.guard = none) {ty : TypeId} {x y : Operand} (hop : o.op = .store ty x y) {g f : Nat} (hx : a.eval x = .pointer (some ⟨g, f, none⟩)) {v : Value} (hy : a.eval y = v) {t : TypeId} {old : Array Value}
    (hr : Row w g t old) (hi : (P.info? ty).map (·.size) = some 1) (ho : f < old.size) (h1 : v.oneCell' = true) (cs' : Array Value) (hcs : old.setIfInBounds f v = cs')
    (h : ∀ w', Wrote w w' g t cs' → wpList P ops Q rest (a.put o.dst undef) w') : wpList P ops Q (o :: rest) a w := by
  refine wpList_plain hg fun K hK' => ?_
  unfold Oper.wp execOp
  have hw := wrote_setCells [v] f old w hr
  simp only [patch, hcs, World.setCells] at hw
  have hc : w.cell? ⟨g, f, none⟩ = some old[f] := by rw [hr.cell?, Array.getElem?_eq_getElem ho]
  have hs : (store ⟨g, f, none⟩ v .plain).run P w = .ok () (w.setCell ⟨g, f, none⟩ v) := by rw [run_store P w _ v _ h1, hc]; simp [hr.frozen f]
  have hvc : v.cells = #[v] := by cases v <;> first | rfl | simp [Value.oneCell'] at h1
  cases hq : P.info? ty with
  | none => simp [hq] at hi
  | some i =>
    have hz : i.size = 1 := by simpa [hq] using hi
    have hl : (Instr.storeAt ty (.pointer (some ⟨g, f, none⟩)) v).run P w = .ok () (w.setCell ⟨g, f, none⟩ v) := by
      simp [Instr.storeAt, Instr.sureAddr, storeVar, sizeOf, typeInfo, hq, hz, hvc, storeCells, Addr.add, hs, Sem.run_bind]
    simp [hop, hx, hy, hl, Result.andThen]
    exact hK' _ _ (h _ hw)
end
end Go.Fk
namespace Go.Proofs.YtjihkfemejhllaaDoor
open Go.RowKit Go.Fk
theorem uinfoRingL : (Tryd.prog.info? 24).map (·.size) = some 2 := by kernel_rfl
theorem uinfoRingI : (Tryd.prog.info? 34).map (·.size) = some 2 := by kernel_rfl
theorem uinfoFilterL : (Tryd.prog.info? 29).map (·.size) = some 6 := by kernel_rfl
theorem uinfoFilterI : (Tryd.prog.info? 35).map (·.size) = some 6 := by kernel_rfl
theorem uinfoPipeL : (Tryd.prog.info? 52).map (·.size) = some 13 := by kernel_rfl
theorem uinfoPipeI : (Tryd.prog.info? 57).map (·.size) = some 13 := by kernel_rfl
theorem uinfoBowL : (Tryd.prog.info? 31).map (·.size) = some 12 := by kernel_rfl
theorem uinfoBowI : (Tryd.prog.info? 37).map (·.size) = some 12 := by kernel_rfl
theorem uinfoJetL : (Tryd.prog.info? 42).map (·.size) = some 18 := by kernel_rfl
theorem uinfoJetI : (Tryd.prog.info? 46).map (·.size) = some 18 := by kernel_rfl
theorem uinfoFloat32A2 : (Tryd.prog.info? 27).map (·.size) = some 2 := by kernel_rfl
theorem uinfoFloat32A3 : (Tryd.prog.info? 26).map (·.size) = some 3 := by kernel_rfl
theorem ukindFilterSI : ∀ w : World, (isAgg 116).run Tryd.prog w = .ok false w := fun w => by kernel_rfl
theorem ukindRingSL : ∀ w : World, (isAgg 50).run Tryd.prog w = .ok false w := fun w => by kernel_rfl
theorem ukindRingSI : ∀ w : World, (isAgg 55).run Tryd.prog w = .ok false w := fun w => by kernel_rfl
theorem ukindFloat32S : ∀ w : World, (isAgg 22).run Tryd.prog w = .ok false w := fun w => by kernel_rfl
theorem ukindBool : ∀ w : World, (isAgg 4).run Tryd.prog w = .ok false w := fun w => by kernel_rfl
theorem ukindFloat32 : ∀ w : World, (isAgg 25).run Tryd.prog w = .ok false w := fun w => by kernel_rfl
theorem ukindInt64 : ∀ w : World, (isAgg 2).run Tryd.prog w = .ok false w := fun w => by kernel_rfl
theorem ukindString : ∀ w : World, (isAgg 9).run Tryd.prog w = .ok false w := fun w => by kernel_rfl
theorem makeW_Ring (n : Nat) (hn : n ≤ 1048576) : ∃ cs : Array Value, cs.size = n * 2 ∧ ∀ w, (Instr.makeSlice 55 (.int .i64 (n : Int)) (.int .i64 (n : Int))).run Tryd.prog w = .ok (.slice (some ⟨w.heap.size, 0, none⟩) n n) (w.alloc (.cells cs 34)) := run_make_wide _ _ 2 Tryd.underlying55 (by kernel_rfl) n hn
theorem makeW_Filter (n : Nat) (hn : n ≤ 1048576) : ∃ cs : Array Value, cs.size = n * 6 ∧ ∀ w, (Instr.makeSlice 116 (.int .i64 (n : Int)) (.int .i64 (n : Int))).run Tryd.prog w = .ok (.slice (some ⟨w.heap.size, 0, none⟩) n n) (w.alloc (.cells cs 35)) := run_make_wide _ _ 6 Tryd.underlying116 (by kernel_rfl) n hn
theorem uinfo1FilterSI : (Tryd.prog.info? 116).map (·.size) = some 1 := by kernel_rfl
theorem uinfo1RingSL : (Tryd.prog.info? 50).map (·.size) = some 1 := by kernel_rfl
theorem uinfo1RingSI : (Tryd.prog.info? 55).map (·.size) = some 1 := by kernel_rfl
theorem uinfo1Float32S : (Tryd.prog.info? 22).map (·.size) = some 1 := by kernel_rfl
theorem uinfo1Bool : (Tryd.prog.info? 4).map (·.size) = some 1 := by kernel_rfl
theorem uinfo1Float32 : (Tryd.prog.info? 25).map (·.size) = some 1 := by kernel_rfl
theorem uinfo1Int64 : (Tryd.prog.info? 2).map (·.size) = some 1 := by kernel_rfl
theorem uinfo1String : (Tryd.prog.info? 9).map (·.size) = some 1 := by kernel_rfl
theorem szU_Float32S (B n : Nat) (x : Nat → CD) (s : Value) (m r : Int) (w : World) (h : (CD.sl 1 n x).Rd w B s) (hsh : ∀ i, i < n → ∀ j, j < 1 → ShOk ([Sh.flt .f32].getD j .bool) (x (i * 1 + j))) (h0 : 0 ≤ m) (h1 : m ≤ 1048576) (hr : lessBy m (CD.sz (CD.sl 1 n x)) = r) :
    Calls Tryd.prog 35 #[s, .int .i64 m] w (OutI r w) := by
  have hf := ShOk.flts hsh rfl
  rw [CD.sz_flts hf] at hr
  have hd := h.rdf hf
  obtain ⟨y, hy, _⟩ := hd.slIn
  subst hr
  by_cases g : m - (n : Int) < 0
  · rw [lessBy_neg g]
    exact (szS_no s y n m w hy h0 h1 hd.small g).mono (fun e w' ⟨h1, h2⟩ => ⟨h1, h2 ▸ le_refl _⟩)
  · rw [lessBy_pos g]
    exact (szS_yes s y n m w hy h0 h1 hd.small (by omega)).mono (fun e w' ⟨h1, h2⟩ => ⟨h1, h2 ▸ le_refl _⟩)
theorem eqU_Float32S (B B' n : Nat) (x : Nat → CD) (s s' : Value) (w : World) (h : (CD.sl 1 n x).Rd w B s) (h' : (CD.sl 1 n x).Rd w B' s') (hsh : ∀ i, i < n → ∀ j, j < 1 → ShOk ([Sh.flt .f32].getD j .bool) (x (i * 1 + j))) (hz : CD.sz (CD.sl 1 n x) ≤ 1048576) :
    Calls Tryd.prog 48 #[s, s'] w (OutT w) := by
  have hf := ShOk.flts hsh rfl
  rw [CD.sz_flts hf] at hz
  exact (eqR B B' s s' _ n w hz (h.rdf hf) (h'.rdf hf)).mono (fun e w' ⟨h1, m, h2⟩ => ⟨h1, h2 ▸ le_drewN _ _⟩)
theorem toU_Float32S (B n : Nat) (x : Nat → CD) (s : Value) (w : World) (h : (CD.sl 1 n x).Rd w B s) (hsh : ∀ i, i < n → ∀ j, j < 1 → ShOk ([Sh.flt .f32].getD j .bool) (x (i * 1 + j))) (hz : CD.sz (CD.sl 1 n x) ≤ 1048576) :
    Calls Tryd.prog 39 #[s] w (OutC (CD.sl 1 n x).cp w) := by
  have hf := ShOk.flts hsh rfl
  rw [CD.sz_flts hf] at hz
  refine (toR B s _ n w (h.rdf hf) hz).mono ?_
  rintro e w' ⟨u, rfl, ho, hl⟩
  exact ⟨u, rfl, ho.lay.congr ⟨_, rfl, fun i hi => by rw [CD.cn_fl (hf i (by simpa using hi))]; exact CD.Eqv.refl _⟩, hl⟩
end Go.Proofs.YtjihkfemejhllaaDoor

/- Arguments opened, type by type. -/
namespace Go.Proofs.YtjihkfemejhllaaDoor
open Go.RowKit Go.Fk Go.ChangeShapes
section
variable {H : Type} {enc : TypeId × Value → H} {w : World} {base : Nat} {spare : Nat → Bool} {held : Bool}
set_option maxRecDepth 100000 in
theorem opens_RingL : Opens enc Tryd.prog w base spare held 24 shRing := by
  have o0 : Opens enc Tryd.prog w base spare held 22 [.sl 1 (fun j => [.flt .f32].getD j .bool)] := (opens_slice Tryd.underlying22 (by kernel_rfl) (opens_flt Tryd.underlying25 (by kernel_rfl)))
  have o1 : Opens enc Tryd.prog w base spare held 2 [.int .i64] := (opens_int Tryd.underlying2 (by kernel_rfl))
  exact (show Opens enc Tryd.prog w base spare held 24 ([.sl 1 (fun j => [.flt .f32].getD j .bool)] ++ ([.int .i64] ++ [])) from opens_struct Tryd.underlying24 (by kernel_rfl) (fldO_cons (l1 := [.sl 1 (fun j => [.flt .f32].getD j .bool)]) (l2 := ([.int .i64] ++ [])) rfl o0 (fldO_cons (l1 := [.int .i64]) (l2 := []) rfl o1 (fldO_nil _))))
set_option maxRecDepth 100000 in
theorem opens_FilterL : Opens enc Tryd.prog w base spare held 29 shFilter := by
  have o0 : Opens enc Tryd.prog w base spare held 2 [.int .i64] := (opens_int Tryd.underlying2 (by kernel_rfl))
  have o1 : Opens enc Tryd.prog w base spare held 26 [.flt .f32, .flt .f32, .flt .f32] := (opens_array Tryd.underlying26 (by kernel_rfl) (opens_flt Tryd.underlying25 (by kernel_rfl)))
  have o2 : Opens enc Tryd.prog w base spare held 27 [.flt .f32, .flt .f32] := (opens_array Tryd.underlying27 (by kernel_rfl) (opens_flt Tryd.underlying25 (by kernel_rfl)))
  exact (show Opens enc Tryd.prog w base spare held 29 ([.int .i64] ++ ([.flt .f32, .flt .f32, .flt .f32] ++ ([.flt .f32, .flt .f32] ++ []))) from opens_struct Tryd.underlying29 (by kernel_rfl) (fldO_cons (l1 := [.int .i64]) (l2 := ([.flt .f32, .flt .f32, .flt .f32] ++ ([.flt .f32, .flt .f32] ++ []))) rfl o0 (fldO_cons (l1 := [.flt .f32, .flt .f32, .flt .f32]) (l2 := ([.flt .f32, .flt .f32] ++ [])) rfl o1 (fldO_cons (l1 := [.flt .f32, .flt .f32]) (l2 := []) rfl o2 (fldO_nil _)))))
set_option maxRecDepth 100000 in
theorem opens_PipeL : Opens enc Tryd.prog w base spare held 52 shPipe := by
  have o0 : Opens enc Tryd.prog w base spare held 50 [.sl 2 (fun j => [.sl 1 (fun j => [.flt .f32].getD j .bool), .int .i64].getD j .bool)] := (opens_slice Tryd.underlying50 (by kernel_rfl) opens_RingL)
  have o1 : Opens enc Tryd.prog w base spare held 50 [.sl 2 (fun j => [.sl 1 (fun j => [.flt .f32].getD j .bool), .int .i64].getD j .bool)] := (opens_slice Tryd.underlying50 (by kernel_rfl) opens_RingL)
  have o2 : Opens enc Tryd.prog w base spare held 22 [.sl 1 (fun j => [.flt .f32].getD j .bool)] := (opens_slice Tryd.underlying22 (by kernel_rfl) (opens_flt Tryd.underlying25 (by kernel_rfl)))
  have o3 : Opens enc Tryd.prog w base spare held 29 shFilter := opens_FilterL
  have o4 : Opens enc Tryd.prog w base spare held 4 [.bool] := (opens_bool Tryd.underlying4 (by kernel_rfl))
  have o5 : Opens enc Tryd.prog w base spare held 25 [.flt .f32] := (opens_flt Tryd.underlying25 (by kernel_rfl))
  have o6 : Opens enc Tryd.prog w base spare held 25 [.flt .f32] := (opens_flt Tryd.underlying25 (by kernel_rfl))
  have o7 : Opens enc Tryd.prog w base spare held 25 [.flt .f32] := (opens_flt Tryd.underlying25 (by kernel_rfl))
  exact (show Opens enc Tryd.prog w base spare held 52 ([.sl 2 (fun j => [.sl 1 (fun j => [.flt .f32].getD j .bool), .int .i64].getD j .bool)] ++ ([.sl 2 (fun j => [.sl 1 (fun j => [.flt .f32].getD j .bool), .int .i64].getD j .bool)] ++ ([.sl 1 (fun j => [.flt .f32].getD j .bool)] ++ (shFilter ++ ([.bool] ++ ([.flt .f32] ++ ([.flt .f32] ++ ([.flt .f32] ++ [])))))))) from opens_struct Tryd.underlying52 (by kernel_rfl) (fldO_cons (l1 := [.sl 2 (fun j => [.sl 1 (fun j => [.flt .f32].getD j .bool), .int .i64].getD j .bool)]) (l2 := ([.sl 2 (fun j => [.sl 1 (fun j => [.flt .f32].getD j .bool), .int .i64].getD j .bool)] ++ ([.sl 1 (fun j => [.flt .f32].getD j .bool)] ++ (shFilter ++ ([.bool] ++ ([.flt .f32] ++ ([.flt .f32] ++ ([.flt .f32] ++ [])))))))) rfl o0 (fldO_cons (l1 := [.sl 2 (fun j => [.sl 1 (fun j => [.flt .f32].getD j .bool), .int .i64].getD j .bool)]) (l2 := ([.sl 1 (fun j => [.flt .f32].getD j .bool)] ++ (shFilter ++ ([.bool] ++ ([.flt .f32] ++ ([.flt .f32] ++ ([.flt .f32] ++ []))))))) rfl o1 (fldO_cons (l1 := [.sl 1 (fun j => [.flt .f32].getD j .bool)]) (l2 := (shFilter ++ ([.bool] ++ ([.flt .f32] ++ ([.flt .f32] ++ ([.flt .f32] ++ [])))))) rfl o2 (fldO_cons (l1 := shFilter) (l2 := ([.bool] ++ ([.flt .f32] ++ ([.flt .f32] ++ ([.flt .f32] ++ []))))) rfl o3 (fldO_cons (l1 := [.bool]) (l2 := ([.flt .f32] ++ ([.flt .f32] ++ ([.flt .f32] ++ [])))) rfl o4 (fldO_cons (l1 := [.flt .f32]) (l2 := ([.flt .f32] ++ ([.flt .f32] ++ []))) rfl o5 (fldO_cons (l1 := [.flt .f32]) (l2 := ([.flt .f32] ++ [])) rfl o6 (fldO_cons (l1 := [.flt .f32]) (l2 := []) rfl o7 (fldO_nil _))))))))))
set_option maxRecDepth 100000 in
theorem opens_BowL : Opens enc Tryd.prog w base spare held 31 shBow := by
  have o0 : Opens enc Tryd.prog w base spare held 24 shRing := opens_RingL
  have o1 : Opens enc Tryd.prog w base spare held 24 shRing := opens_RingL
  have o2 : Opens enc Tryd.prog w base spare held 29 shFilter := opens_FilterL
  have o3 : Opens enc Tryd.prog w base spare held 25 [.flt .f32] := (opens_flt Tryd.underlying25 (by kernel_rfl))
  have o4 : Opens enc Tryd.prog w base spare held 25 [.flt .f32] := (opens_flt Tryd.underlying25 (by kernel_rfl))
  exact (show Opens enc Tryd.prog w base spare held 31 (shRing ++ (shRing ++ (shFilter ++ ([.flt .f32] ++ ([.flt .f32] ++ []))))) from opens_struct Tryd.underlying31 (by kernel_rfl) (fldO_cons (l1 := shRing) (l2 := (shRing ++ (shFilter ++ ([.flt .f32] ++ ([.flt .f32] ++ []))))) rfl o0 (fldO_cons (l1 := shRing) (l2 := (shFilter ++ ([.flt .f32] ++ ([.flt .f32] ++ [])))) rfl o1 (fldO_cons (l1 := shFilter) (l2 := ([.flt .f32] ++ ([.flt .f32] ++ []))) rfl o2 (fldO_cons (l1 := [.flt .f32]) (l2 := ([.flt .f32] ++ [])) rfl o3 (fldO_cons (l1 := [.flt .f32]) (l2 := []) rfl o4 (fldO_nil _)))))))
set_option maxRecDepth 100000 in
theorem opens_JetL : Opens enc Tryd.prog w base spare held 42 shJet := by
  have o0 : Opens enc Tryd.prog w base spare held 24 shRing := opens_RingL
  have o1 : Opens enc Tryd.prog w base spare held 24 shRing := opens_RingL
  have o2 : Opens enc Tryd.prog w base spare held 29 shFilter := opens_FilterL
  have o3 : Opens enc Tryd.prog w base spare held 29 shFilter := opens_FilterL
  have o4 : Opens enc Tryd.prog w base spare held 25 [.flt .f32] := (opens_flt Tryd.underlying25 (by kernel_rfl))
  have o5 : Opens enc Tryd.prog w base spare held 25 [.flt .f32] := (opens_flt Tryd.underlying25 (by kernel_rfl))
  exact (show Opens enc Tryd.prog w base spare held 42 (shRing ++ (shRing ++ (shFilter ++ (shFilter ++ ([.flt .f32] ++ ([.flt .f32] ++ [])))))) from opens_struct Tryd.underlying42 (by kernel_rfl) (fldO_cons (l1 := shRing) (l2 := (shRing ++ (shFilter ++ (shFilter ++ ([.flt .f32] ++ ([.flt .f32] ++ [])))))) rfl o0 (fldO_cons (l1 := shRing) (l2 := (shFilter ++ (shFilter ++ ([.flt .f32] ++ ([.flt .f32] ++ []))))) rfl o1 (fldO_cons (l1 := shFilter) (l2 := (shFilter ++ ([.flt .f32] ++ ([.flt .f32] ++ [])))) rfl o2 (fldO_cons (l1 := shFilter) (l2 := ([.flt .f32] ++ ([.flt .f32] ++ []))) rfl o3 (fldO_cons (l1 := [.flt .f32]) (l2 := ([.flt .f32] ++ [])) rfl o4 (fldO_cons (l1 := [.flt .f32]) (l2 := []) rfl o5 (fldO_nil _))))))))
end
end Go.Proofs.YtjihkfemejhllaaDoor

/- Hexadecimal digits: the text of bits. Nothing here names a program. -/
namespace Go.Fk
open Go Go.RowKit
/-- The byte of a digit. -/
def hexB (n : Nat) : Nat := if n < 10 then 48 + n else 87 + n
/-- The last j digits of b, highest first. -/
def hexC (b : Nat) : Nat → List Nat
  | 0 => []
  | j + 1 => hexB (b / 16 ^ j % 16) :: hexC b j
theorem hexC_len (b j : Nat) : (hexC b j).length = j := by
  induction j with
  | zero => rfl
  | succ j ih => simp [hexC, ih]
theorem hexB_lt (n : Nat) (h : n < 16) : hexB n < 256 := by unfold hexB; split <;> omega
theorem hexC_lt (b : Nat) : ∀ j, ∀ x ∈ hexC b j, x < 256 := by
  intro j
  induction j with
  | zero => intro x hx; cases hx
  | succ j ih =>
    intro x hx
    simp only [hexC, List.mem_cons] at hx
    rcases hx with rfl | hx
    · exact hexB_lt _ (Nat.mod_lt _ (by decide))
    · exact ih x hx
def digs : ByteArray := ⟨#[48, 49, 50, 51, 52, 53, 54, 55, 56, 57, 97, 98, 99, 100, 101, 102]⟩
/-- The cells of the array of digits when j of them are there. -/
def hexV (b j : Nat) : List Value := List.replicate (8 - j) (Value.int .u8 0) ++ (hexC b j).map (fun x : Nat => Value.int .u8 (x : Int))
theorem hexV_len (b j : Nat) (h : j ≤ 8) : (hexV b j).length = 8 := by simp [hexV, hexC_len]; omega
theorem hexV_set (b j : Nat) (h : j < 8) : (hexV b j).set (7 - j) (Value.int .u8 ((hexB (b / 16 ^ j % 16) : Nat) : Int)) = hexV b (j + 1) := by
  unfold hexV
  rw [show 8 - j = (7 - j) + 1 by omega, List.replicate_succ', List.append_assoc, List.set_append_right _ _ (by simp), show 8 - (j + 1) = 7 - j by omega]
  simp [hexC]
/-- The text of bits. -/
def hexT (b : Nat) : ByteArray := ⟨((hexC b 8).map UInt8.ofNat).toArray⟩
theorem hexT_size (b : Nat) : (hexT b).size = 8 := by
  show ((hexC b 8).map UInt8.ofNat).toArray.size = 8
  simp [hexC_len]
/-- Texts joined by a separator. -/
def jnB (sep : ByteArray) (l : List ByteArray) : ByteArray := ⟨(Lib.join (l.map (·.data.toList)) sep.data.toList).toArray⟩
theorem ba_ext {a b : ByteArray} (h : a.data.toList = b.data.toList) : a = b := ByteArray.ext (Array.toList_inj.1 h)
theorem jnB_data (sep : ByteArray) (l : List ByteArray) : (jnB sep l).data.toList = Lib.join (l.map (·.data.toList)) sep.data.toList := by simp [jnB]
theorem jnB_one (sep x : ByteArray) : jnB sep [x] = x := ba_ext (by rw [jnB_data]; simp [Lib.join_one])
theorem jnB_snoc (sep : ByteArray) (l : List ByteArray) (x : ByteArray) (h : l ≠ []) : jnB sep (l ++ [x]) = jnB sep l ++ (sep ++ x) := by
  apply ba_ext
  rw [jnB_data]
  cases l with
  | nil => exact absurd rfl h
  | cons y l =>
    simp only [List.cons_append, List.map_cons, List.map_append, List.map_nil, Lib.join_cons]
    simp [Lib.joinTail, jnB_data, Lib.join_cons, List.append_assoc]
theorem ba_size (a : ByteArray) : a.size = a.data.toList.length := by simp
theorem jnB_cons (sep y x : ByteArray) (l : List ByteArray) : jnB sep (y :: x :: l) = y ++ (sep ++ jnB sep (x :: l)) := by
  apply ba_ext
  simp [jnB_data, Lib.join_cons, Lib.joinTail, List.append_assoc]
theorem jnB_size (sep : ByteArray) (m : Nat) : ∀ l : List ByteArray, (∀ x ∈ l, x.size ≤ m) → (jnB sep l).size ≤ l.length * (m + sep.size) := by
  intro l
  induction l with
  | nil => intro _; exact Nat.zero_le _
  | cons y l ih =>
    intro h
    have hy := h y List.mem_cons_self
    cases l with
    | nil => rw [jnB_one]; simp; omega
    | cons x l =>
      have := ih (fun z hz => h z (List.mem_cons_of_mem _ hz))
      rw [jnB_cons, ByteArray.size_append, ByteArray.size_append]
      simp only [List.length_cons, Nat.succ_mul] at this ⊢
      omega
theorem digs_get (n : Nat) (h : n < digs.size) : (digs[n]'h).toNat = hexB n := by
  have h' : n < 16 := h
  match n, h, h' with
  | 0, _, _ => rfl
  | 1, _, _ => rfl
  | 2, _, _ => rfl
  | 3, _, _ => rfl
  | 4, _, _ => rfl
  | 5, _, _ => rfl
  | 6, _, _ => rfl
  | 7, _, _ => rfl
  | 8, _, _ => rfl
  | 9, _, _ => rfl
  | 10, _, _ => rfl
  | 11, _, _ => rfl
  | 12, _, _ => rfl
  | 13, _, _ => rfl
  | 14, _, _ => rfl
  | 15, _, _ => rfl
  | n + 16, _, h' => exact absurd h' (by omega)
theorem hexV_put {b j d : Nat} (hj : j < 8) (hd : d = b / 16 ^ j) (h : d % 16 < digs.size) : (hexV b j).toArray.setIfInBounds (7 - j) (Value.int .u8 (((digs[d % 16]'h).toNat : Nat) : Int)) = (hexV b (j + 1)).toArray := by
  rw [digs_get, hd, ← hexV_set b j hj]
  simp
theorem hexT_at (b i : Nat) (h : i < (hexT b).size) : (hexV b 8).toArray[i]? = some (Value.int .u8 ((((hexT b)[i]'h).toNat : Nat) : Int)) := by
  have h8 : i < (hexC b 8).length := by rw [hexC_len]; rw [hexT_size] at h; exact h
  have e : ((hexT b)[i]'h).toNat = (hexC b 8)[i] := by
    have : (hexT b)[i]'h = UInt8.ofNat ((hexC b 8)[i]) := by
      have e2 : (hexT b)[i]'h = ((hexC b 8).map UInt8.ofNat)[i]'(by simp; exact h8) := rfl
      rw [e2]
      simp
    rw [this]
    have := hexC_lt b 8 _ (List.getElem_mem h8)
    simp
    omega
  rw [e]
  simp [hexV, h8]
theorem hex_next {b d j : Nat} (h : d = b / 16 ^ j) : d / 16 = b / 16 ^ (j + 1) := by rw [h, Nat.div_div_eq_div_mul, Nat.pow_succ]
def spB : ByteArray := ⟨#[32]⟩
/-- The texts of n samples. -/
def hexs (f : Nat → Nat) (n : Nat) : List ByteArray := (List.range n).map (fun i => hexT (can .f32 (f i)))
theorem hexs_len (f : Nat → Nat) (n : Nat) : (hexs f n).length = n := by simp [hexs]
theorem hexs_succ (f : Nat → Nat) (n : Nat) : hexs f (n + 1) = hexs f n ++ [hexT (can .f32 (f n))] := by simp [hexs, List.range_succ]
theorem hexs_at (f : Nat → Nat) {n i : Nat} (h : i < n) : (hexs f n)[i]? = some (hexT (can .f32 (f i))) := by simp [hexs, h]
theorem hexs_ne (f : Nat → Nat) {n : Nat} (h : 0 < n) : hexs f n ≠ [] := by
  intro e
  have := congrArg List.length e
  rw [hexs_len] at this
  simp at this
  omega
theorem hexs_mem {f : Nat → Nat} {n : Nat} {x : ByteArray} (h : x ∈ hexs f n) : x.size = 8 := by
  simp only [hexs, List.mem_map] at h
  obtain ⟨i, _, rfl⟩ := h
  exact hexT_size _
theorem hexs_congr {f g : Nat → Nat} {n : Nat} (h : ∀ i, i < n → can .f32 (f i) = can .f32 (g i)) : hexs f n = hexs g n := by
  unfold hexs
  apply List.map_congr_left
  intro i hi
  rw [h i (by simpa using hi)]
def txtS (f : Nat → Nat) (n : Nat) : ByteArray := jnB spB (hexs f n)
theorem txtS_size (f : Nat → Nat) (n : Nat) : (txtS f n).size ≤ n * 9 := by
  have := jnB_size spB 8 (hexs f n) (fun x hx => by rw [hexs_mem hx]; exact Nat.le_refl _)
  rw [hexs_len] at this
  exact this
theorem txtS_one (f : Nat → Nat) : txtS f 1 = hexT (can .f32 (f 0)) := by
  unfold txtS
  rw [show hexs f 1 = [hexT (can .f32 (f 0))] from rfl, jnB_one]
theorem txtS_succ (f : Nat → Nat) {n : Nat} (h : 0 < n) : txtS f (n + 1) = txtS f n ++ (spB ++ hexT (can .f32 (f n))) := by
  unfold txtS
  rw [hexs_succ, jnB_snoc _ _ _ (hexs_ne f h)]
end Go.Fk

/- What functions give, by their results' kinds. Nothing here names a program. -/
namespace Go.Fk
open Go Go.RowKit
def Out_b (ar0 : Bool) (w : World) (e : Ending) (w' : World) : Prop := e = .returned (.bool ar0) ∧ le w w'
def Out_rfi (xr0 : Nat → Nat) (nr0 : Nat) (kr0 : Int) (ar1 : Nat) (ar2 : Int) (w : World) (e : Ending) (w' : World) : Prop := ∃ (v0 : Value) (v1 : Nat), e = .returned (.tuple #[.agg #[v0, .int .i64 kr0], .float .f32 v1, .int .i64 ar2]) ∧ OwnS w' w.heap.size w'.heap.size v0 xr0 nr0 ∧ can .f32 v1 = ar1 ∧ le w w'
def Out_fi (ar0 : Nat) (ar1 : Int) (w : World) (e : Ending) (w' : World) : Prop := ∃ (v0 : Nat), e = .returned (.tuple #[.float .f32 v0, .int .i64 ar1]) ∧ can .f32 v0 = ar0 ∧ le w w'
def Out_ri (xr0 : Nat → Nat) (nr0 : Nat) (kr0 : Int) (ar1 : Int) (w : World) (e : Ending) (w' : World) : Prop := ∃ (v0 : Value), e = .returned (.tuple #[.agg #[v0, .int .i64 kr0], .int .i64 ar1]) ∧ OwnS w' w.heap.size w'.heap.size v0 xr0 nr0 ∧ le w w'
def Out_si (xr0 : Nat → Nat) (nr0 : Nat) (kr0 : Int) (tkr0 : Int) (tar0 : Nat) (tbr0 : Nat) (tcr0 : Nat) (txr0 : Nat) (tyr0 : Nat) (dkr0 : Int) (dar0 : Nat) (dbr0 : Nat) (dcr0 : Nat) (dxr0 : Nat) (dyr0 : Nat) (lr0 : Nat) (ar1 : Int) (w : World) (e : Ending) (w' : World) : Prop := ∃ (v0 : Value), e = .returned (.tuple #[.agg #[v0, .int .i64 kr0, .int .i64 tkr0, .float .f32 tar0, .float .f32 tbr0, .float .f32 tcr0, .float .f32 txr0, .float .f32 tyr0, .int .i64 dkr0, .float .f32 dar0, .float .f32 dbr0, .float .f32 dcr0, .float .f32 dxr0, .float .f32 dyr0, .float .f32 lr0], .int .i64 ar1]) ∧ OwnS w' w.heap.size w'.heap.size v0 xr0 nr0 ∧ le w w'
def Out_sfi (xr0 : Nat → Nat) (nr0 : Nat) (kr0 : Int) (tkr0 : Int) (tar0 : Nat) (tbr0 : Nat) (tcr0 : Nat) (txr0 : Nat) (tyr0 : Nat) (dkr0 : Int) (dar0 : Nat) (dbr0 : Nat) (dcr0 : Nat) (dxr0 : Nat) (dyr0 : Nat) (lr0 : Nat) (ar1 : Nat) (ar2 : Int) (w : World) (e : Ending) (w' : World) : Prop := ∃ (v0 : Value) (v1 : Nat), e = .returned (.tuple #[.agg #[v0, .int .i64 kr0, .int .i64 tkr0, .float .f32 tar0, .float .f32 tbr0, .float .f32 tcr0, .float .f32 txr0, .float .f32 tyr0, .int .i64 dkr0, .float .f32 dar0, .float .f32 dbr0, .float .f32 dcr0, .float .f32 dxr0, .float .f32 dyr0, .float .f32 lr0], .float .f32 v1, .int .i64 ar2]) ∧ OwnS w' w.heap.size w'.heap.size v0 xr0 nr0 ∧ can .f32 v1 = ar1 ∧ le w w'
def Out_sui (xr0 : Nat → Nat) (nr0 : Nat) (kr0 : Int) (tkr0 : Int) (tar0 : Nat) (tbr0 : Nat) (tcr0 : Nat) (txr0 : Nat) (tyr0 : Nat) (dkr0 : Int) (dar0 : Nat) (dbr0 : Nat) (dcr0 : Nat) (dxr0 : Nat) (dyr0 : Nat) (lr0 : Nat) (ar1 : Int) (ar2 : Int) (w : World) (e : Ending) (w' : World) : Prop := ∃ (v0 : Value), e = .returned (.tuple #[.agg #[v0, .int .i64 kr0, .int .i64 tkr0, .float .f32 tar0, .float .f32 tbr0, .float .f32 tcr0, .float .f32 txr0, .float .f32 tyr0, .int .i64 dkr0, .float .f32 dar0, .float .f32 dbr0, .float .f32 dcr0, .float .f32 dxr0, .float .f32 dyr0, .float .f32 lr0], .int .u32 ar1, .int .i64 ar2]) ∧ OwnS w' w.heap.size w'.heap.size v0 xr0 nr0 ∧ le w w'
def Out_sli (xr0 : Nat → Nat) (nr0 : Nat) (kr0 : Int) (tkr0 : Int) (tar0 : Nat) (tbr0 : Nat) (tcr0 : Nat) (txr0 : Nat) (tyr0 : Nat) (dkr0 : Int) (dar0 : Nat) (dbr0 : Nat) (dcr0 : Nat) (dxr0 : Nat) (dyr0 : Nat) (lr0 : Nat) (xr1 : Nat → Nat) (nr1 : Nat) (ar2 : Int) (w : World) (e : Ending) (w' : World) : Prop := ∃ (v0 : Value) (v1 : Value) (q : Nat), e = .returned (.tuple #[.agg #[v0, .int .i64 kr0, .int .i64 tkr0, .float .f32 tar0, .float .f32 tbr0, .float .f32 tcr0, .float .f32 txr0, .float .f32 tyr0, .int .i64 dkr0, .float .f32 dar0, .float .f32 dbr0, .float .f32 dcr0, .float .f32 dxr0, .float .f32 dyr0, .float .f32 lr0], v1, .int .i64 ar2]) ∧ OwnS w' w.heap.size q v0 xr0 nr0 ∧ OwnS w' q w'.heap.size v1 xr1 nr1 ∧ w.heap.size ≤ q ∧ q ≤ w'.heap.size ∧ le w w'
def Out_bi (ar0 : Bool) (ar1 : Int) (w : World) (e : Ending) (w' : World) : Prop := e = .returned (.tuple #[.bool ar0, .int .i64 ar1]) ∧ le w w'
def Out_ii (ar0 : Int) (ar1 : Int) (w : World) (e : Ending) (w' : World) : Prop := e = .returned (.tuple #[.int .i64 ar0, .int .i64 ar1]) ∧ le w w'
def Out_s (xr0 : Nat → Nat) (nr0 : Nat) (kr0 : Int) (tkr0 : Int) (tar0 : Nat) (tbr0 : Nat) (tcr0 : Nat) (txr0 : Nat) (tyr0 : Nat) (dkr0 : Int) (dar0 : Nat) (dbr0 : Nat) (dcr0 : Nat) (dxr0 : Nat) (dyr0 : Nat) (lr0 : Nat) (w : World) (e : Ending) (w' : World) : Prop := ∃ (v0 : Value), e = .returned (.agg #[v0, .int .i64 kr0, .int .i64 tkr0, .float .f32 tar0, .float .f32 tbr0, .float .f32 tcr0, .float .f32 txr0, .float .f32 tyr0, .int .i64 dkr0, .float .f32 dar0, .float .f32 dbr0, .float .f32 dcr0, .float .f32 dxr0, .float .f32 dyr0, .float .f32 lr0]) ∧ OwnS w' w.heap.size w'.heap.size v0 xr0 nr0 ∧ le w w'
def Out_li (xr0 : Nat → Nat) (nr0 : Nat) (ar1 : Int) (w : World) (e : Ending) (w' : World) : Prop := ∃ (v0 : Value), e = .returned (.tuple #[v0, .int .i64 ar1]) ∧ OwnS w' w.heap.size w'.heap.size v0 xr0 nr0 ∧ le w w'
def Out_f (ar0 : Nat) (w : World) (e : Ending) (w' : World) : Prop := ∃ (v0 : Nat), e = .returned (.float .f32 v0) ∧ can .f32 v0 = ar0 ∧ le w w'
end Go.Fk

/- strings.Join by its contract. -/
namespace Go.Proofs.YtjihkfemejhllaaDoor
open Go.Shelf Go.RowKit Go.Fk
def renJ : Go.Shelf.Ren := ⟨fun | 156 => 41 | 165 => 67 | 166 => 59 | 169 => 60 | 240 => 79 | 241 => 85 | 276 => 91 | 277 => 93 | n => n, fun | 31 => 87 | 9 => 9 | 3 => 3 | 4 => 4 | 0 => 0 | 20 => 20 | 72 => 107 | 76 => 113 | 70 => 104 | 37 => 105 | 75 => 112 | 127 => 132 | 164 => 143 | 5 => 5 | 80 => 118 | n => n, fun | n => n⟩
theorem laysJ : Go.Proofs.Lays.n156 Tryd.prog renJ := {
  mixed := by kernel_rfl
  f156 := Tryd.func41.trans (congrArg some (by kernel_rfl))
  f165 := Tryd.func67.trans (congrArg some (by kernel_rfl))
  f166 := Tryd.func59.trans (congrArg some (by kernel_rfl))
  f169 := Tryd.func60.trans (congrArg some (by kernel_rfl))
  f240 := Tryd.func79.trans (congrArg some (by kernel_rfl))
  f241 := Tryd.func85.trans (congrArg some (by kernel_rfl))
  f276 := Tryd.func91.trans (congrArg some (by kernel_rfl))
  f277 := Tryd.func93.trans (congrArg some (by kernel_rfl))
  t0 := Tryd.underlying0
  a0 := Tryd.isAgg0
  z0 := Tryd.sizeOf0
  v0 := Tryd.zeroValue0
  t3 := Tryd.underlying3
  a3 := Tryd.isAgg3
  z3 := Tryd.sizeOf3
  v3 := Tryd.zeroValue3
  t4 := Tryd.underlying4
  a4 := Tryd.isAgg4
  z4 := Tryd.sizeOf4
  v4 := Tryd.zeroValue4
  t9 := Tryd.underlying9
  a9 := Tryd.isAgg9
  z9 := Tryd.sizeOf9
  v9 := Tryd.zeroValue9
  t20 := Tryd.underlying20
  a20 := Tryd.isAgg20
  z20 := Tryd.sizeOf20
  v20 := Tryd.zeroValue20
  t31 := Tryd.underlying87
  a31 := Tryd.isAgg87
  z31 := Tryd.sizeOf87
  v31 := Tryd.zeroValue87
  t37 := Tryd.underlying105
  a37 := Tryd.isAgg105
  z37 := Tryd.sizeOf105
  v37 := Tryd.zeroValue105
  t70 := Tryd.underlying104
  a70 := Tryd.isAgg104
  z70 := Tryd.sizeOf104
  v70 := Tryd.zeroValue104
  t72 := Tryd.underlying107
  a72 := Tryd.isAgg107
  z72 := Tryd.sizeOf107
  v72 := Tryd.zeroValue107
  t75 := Tryd.underlying112
  a75 := Tryd.isAgg112
  z75 := Tryd.sizeOf112
  v75 := Tryd.zeroValue112
  t76 := Tryd.underlying113
  a76 := Tryd.isAgg113
  z76 := Tryd.sizeOf113
  v76 := Tryd.zeroValue113
  t127 := Tryd.underlying132
  a127 := Tryd.isAgg132
  z127 := Tryd.sizeOf132
  v127 := Tryd.zeroValue132
  t164 := Tryd.underlying143
  a164 := Tryd.isAgg143
  z164 := Tryd.sizeOf143
  v164 := Tryd.zeroValue143 }
theorem extraJ : Builder.Extra Tryd.prog renJ := {
  sizeBuilder := by kernel_rfl
  liesBuilder := by kernel_rfl
  t5 := Tryd.underlying5
  a5 := Tryd.isAgg5
  z5 := Tryd.sizeOf5
  v5 := Tryd.zeroValue5
  infoByte := by kernel_rfl
  cellsByte := by kernel_rfl
  sizeByte := by kernel_rfl
  neB5 := by decide }
theorem run_Join_nil (a : Option Addr) (c : Nat) (sep : ByteArray) (w : World) :
    Calls Tryd.prog 41 #[.slice a 0 c, .string sep] w fun e w' => e = .returned (.string (jnB sep [])) ∧ le w w' :=
  (Any.strings_Join_none laysJ extraJ a c sep w).mono fun e w' ⟨h1, h2⟩ => ⟨h1, h2 ▸ le_refl _⟩
theorem run_Join (b o c : Nat) (xs : List ByteArray) (sep : ByteArray) (n : Nat) (hn : n = xs.length) (w : World) (hc : ∀ (j : Nat) x, xs[j]? = some x → w.cell? ⟨b, o + j, none⟩ = some (.string x)) (hb : b < w.heap.size) (hN : xs.length ≤ c) (hc2 : c ≤ 140737488355328) (hl : (jnB sep xs).size ≤ 140737488355328) :
    Calls Tryd.prog 41 #[.slice (some ⟨b, o, none⟩) n c, .string sep] w fun e w' => e = .returned (.string (jnB sep xs)) ∧ le w w' := by
  subst hn
  exact (Any.strings_Join laysJ extraJ b o c xs sep w hc hb (by omega) hN (by rw [← jnB_data, ← ba_size]; exact hl)).mono fun e w' ⟨h1, h2⟩ => ⟨h1, h2⟩
end Go.Proofs.YtjihkfemejhllaaDoor

/- What math.Float32bits and math.Float32frombits give. -/
namespace Go.Proofs.YtjihkfemejhllaaDoor
open Go.RowKit Go.Fk

@[go_sem] theorem run_f32bits (x : Nat) (w : World) : (callFunc 83 #[.float .f32 x]).run Tryd.prog w = .ok (.value (.int .u32 x)) w := by
  rw [run_callFunc_extern (e := Extern.MathFloatBits.float32bits) Tryd.func83 (by kernel_rfl) (by kernel_rfl) (by kernel_rfl) (by kernel_rfl)]; rfl
end Go.Proofs.YtjihkfemejhllaaDoor

/- 'isNaN', 'bitsOf', 'SameSample' and their like in the model. -/
namespace Go.Proofs.YtjihkfemejhllaaDoor
open Go.RowKit Go.Fk

theorem i_isNaN (x : Nat) (w : World) : Calls Tryd.prog 94 #[.float .f32 x] w fun e w' => e = .returned (.bool (isNan .f32 x)) ∧ w = w' := by
  go_enter Tryd.func94, Tryd.ntmps94
  go_wp2
  go_ret
  exact ⟨rfl, rfl⟩
theorem s_l01NaN (x : Nat) (w : World) : Calls Tryd.prog 88 #[.float .f32 x] w fun e w' => e = .returned (.bool (isNan .f32 x)) ∧ w = w' := by
  go_enter Tryd.func88, Tryd.ntmps88
  go_wp2
  go_ret
  exact ⟨rfl, rfl⟩
theorem i_bitsOf (x : Nat) (w : World) : Calls Tryd.prog 86 #[.float .f32 x] w fun e w' => e = .returned (.int .u32 (can .f32 x)) ∧ w = w' := by
  cases h : isNan .f32 x
  all_goals
    go_enter Tryd.func86, Tryd.ntmps86
    go_wp2_with (go_at_call 94; refine (i_isNaN _ _).mono ?_; rintro e w' ⟨rfl, rfl⟩)
    go_ret
  · exact ⟨ret_i (by rw [can_of_not h]), rfl⟩
  · exact ⟨ret_i (by rw [can_of_nan h]; rfl), rfl⟩
theorem s_l01Bits (x : Nat) (w : World) : Calls Tryd.prog 89 #[.float .f32 x] w fun e w' => e = .returned (.int .u32 (can .f32 x)) ∧ w = w' := by
  cases h : isNan .f32 x
  all_goals
    go_enter Tryd.func89, Tryd.ntmps89
    go_wp2_with (go_at_call 88; refine (s_l01NaN _ _).mono ?_; rintro e w' ⟨rfl, rfl⟩)
    go_ret
  · exact ⟨ret_i (by rw [can_of_not h]), rfl⟩
  · exact ⟨ret_i (by rw [can_of_nan h]; rfl), rfl⟩
theorem i_SameSample (x y : Nat) (w : World) : Calls Tryd.prog 92 #[.float .f32 x, .float .f32 y] w fun e w' => e = .returned (.bool (sameB x y)) ∧ w = w' := by
  go_enter Tryd.func92, Tryd.ntmps92
  go_wp2_with (go_at_call 86; refine (i_bitsOf _ _).mono ?_; rintro e w' ⟨rfl, rfl⟩)
  go_ret
  exact ⟨rfl, rfl⟩
theorem s_l01Same (x y : Nat) (w : World) : Calls Tryd.prog 74 #[.float .f32 x, .float .f32 y] w fun e w' => e = .returned (.bool (sameB x y)) ∧ w = w' := by
  cases h : isNan .f32 x <;> cases h2 : isNan .f32 y
  all_goals
    go_enter Tryd.func74, Tryd.ntmps74
    go_wp2_with (go_at_call 88; refine (s_l01NaN _ _).mono ?_; rintro e w' ⟨rfl, rfl⟩)
    go_ret
  · exact ⟨ret_b (sameB_num h h2).symm, rfl⟩
  · exact ⟨ret_b (sameB_mix (by rw [h, h2]; simp)).symm, rfl⟩
  · exact ⟨ret_b (sameB_mix (by rw [h, h2]; simp)).symm, rfl⟩
  · exact ⟨ret_b (sameB_nan h h2).symm, rfl⟩
end Go.Proofs.YtjihkfemejhllaaDoor

/- The text of a sample, and of samples. -/
namespace Go.Proofs.YtjihkfemejhllaaDoor
open Go.RowKit Go.Fk
theorem can_lt {x : Nat} (h : fits .f32 x) : can .f32 x < 4294967296 := by
  have h1 : x < 4294967296 := by simpa [fits, Lit.wf] using h
  unfold can
  split
  · decide
  · exact h1
theorem infoU8 : (Tryd.prog.info? 5).map (·.size) = some 1 := by kernel_rfl
set_option maxRecDepth 100000 in
set_option maxHeartbeats 4000000 in
theorem i_sampleText (x : Nat) (hf : fits .f32 x) (w : World) : Calls Tryd.prog 68 #[.float .f32 x] w fun e w' => e = .returned (.string (hexT (can .f32 x))) ∧ le w w' := by
  have HB := hid (i_bitsOf x)
  obtain ⟨b, hb⟩ : ∃ b, b = can .f32 x := ⟨_, rfl⟩
  have h32 : b < 4294967296 := hb ▸ can_lt hf
  rw [← hb] at HB ⊢
  have HZ := hid (Row.new w 141 (hexV b 0).toArray)
  clear hb
  go_enter Tryd.func68, Tryd.ntmps68
  go_wp2_with (go_at_call 86; refine (HB.out _).mono ?_; rintro e w1 ⟨rfl, rfl⟩; skip)
  go_loopw [4, 5] (fun q i wr => ∃ j : Nat, j ≤ 8 ∧ i = .int .i64 (7 - (j : Int)) ∧ q = .int .u32 ((b / 16 ^ j : Nat) : Int) ∧ Hid (Row wr w.heap.size 141 (hexV b j).toArray) ∧ Hid (le w wr)) (fun _ i _ => (intOf i + 1).toNat)
  case atStart => exact ⟨0, by omega, by simp, by simp, HZ.out, le_alloc _ _⟩
  case round =>
    obtain ⟨j, hj, rfl, rfl, HR, HL⟩ := hrel
    rename_i wr _
    clear HZ
    by_cases hlt : j < 8
    · have h0 : ¬ (7 - (j : Int)) < 0 := by omega
      obtain ⟨d, hd⟩ : ∃ d, d = b / 16 ^ j := ⟨_, rfl⟩
      rw [← hd]
      have HP := hid (fun h => hexV_put (h := h) hlt hd)
      have HN := hid (hex_next hd)
      have hd32 : d < 4294967296 := by rw [hd]; exact Nat.lt_of_le_of_lt (Nat.div_le_self _ _) h32
      clear hd
      have hr : ((d : Int) % 16) < 16 := by omega
      have hr0 : 0 ≤ ((d : Int) % 16) := by omega
      go_wp2_with (with_reducible refine stop_store rfl ?_)
      show wpList _ _ _ _ _ _
      refine wpList_store1 rfl rfl (f := 7 - j) rfl rfl HR.out infoU8 (by simp [hexV_len b j hj]; omega) rfl (hexV b (j + 1)).toArray (HP.out _) (fun w2 K => ?_)
      have HR2 := hid K.row
      have HL2 := hid (K.below _ _ HL.out (Nat.le_refl _))
      clear K HR HL HP
      go_wp2
      go_roundw
      case rel => exact ⟨j + 1, by omega, by go_num, by rw [← HN.out]; go_num, HR2.out, HL2.out⟩
      case measure => simp [intOf]; omega
    · obtain rfl : j = 8 := by omega
      have hcv := Lib.run_convert_whole (P := Tryd.prog) wr 105 5 9 Tryd.underlying105 Tryd.underlying5 Tryd.underlying9 w.heap.size 0 (hexT b) (fun i hi => by rw [Nat.zero_add, HR.out.cell?]; exact hexT_at b i hi) 8
      rw [hexT_size] at hcv
      go_wp2
      go_ret
      exact ⟨rfl, HL.out⟩
theorem mk8 (b : Nat) (w : World) : (Instr.makeSlice 105 (.int .i64 8) (.int .i64 8)).run Tryd.prog w = .ok (.slice (some ⟨w.heap.size, 0, none⟩) 8 8) (w.alloc (.cells (hexV b 0).toArray 5)) := by kernel_rfl
set_option maxRecDepth 100000 in
set_option maxHeartbeats 4000000 in
theorem s_l01Hex (x : Nat) (hf : fits .f32 x) (w : World) : Calls Tryd.prog 75 #[.float .f32 x] w fun e w' => e = .returned (.string (hexT (can .f32 x))) ∧ le w w' := by
  have HB := hid (s_l01Bits x)
  obtain ⟨b, hb⟩ : ∃ b, b = can .f32 x := ⟨_, rfl⟩
  have h32 : b < 4294967296 := hb ▸ can_lt hf
  rw [← hb] at HB ⊢
  have HZ := hid (Row.new w 5 (hexV b 0).toArray)
  clear hb
  have hmk := mk8 b w
  go_enter Tryd.func75, Tryd.ntmps75
  go_wp2_with (go_at_call 89; refine (HB.out _).mono ?_; rintro e w1 ⟨rfl, rfl⟩; skip)
  go_loopw [3, 5] (fun q i wr => ∃ j : Nat, j ≤ 8 ∧ i = .int .i64 (7 - (j : Int)) ∧ q = .int .u32 ((b / 16 ^ j : Nat) : Int) ∧ Hid (Row wr w.heap.size 5 (hexV b j).toArray) ∧ Hid (le w wr)) (fun _ i _ => (intOf i + 1).toNat)
  case atStart => exact ⟨0, by omega, by simp, by simp, HZ.out, le_alloc _ _⟩
  case round =>
    obtain ⟨j, hj, rfl, rfl, HR, HL⟩ := hrel
    rename_i wr _
    clear HZ
    by_cases hlt : j < 8
    · have h0 : ¬ (7 - (j : Int)) < 0 := by omega
      obtain ⟨d, hd⟩ : ∃ d, d = b / 16 ^ j := ⟨_, rfl⟩
      rw [← hd]
      have HP := hid (fun h => hexV_put (h := h) hlt hd)
      have HN := hid (hex_next hd)
      have hd32 : d < 4294967296 := by rw [hd]; exact Nat.lt_of_le_of_lt (Nat.div_le_self _ _) h32
      clear hd
      have hr : ((d : Int) % 16) < 16 := by omega
      have hr0 : 0 ≤ ((d : Int) % 16) := by omega
      go_wp2_with (with_reducible refine stop_store rfl ?_)
      show wpList _ _ _ _ _ _
      refine wpList_store1 rfl rfl (f := 7 - j) rfl rfl HR.out infoU8 (by simp [hexV_len b j hj]; omega) rfl (hexV b (j + 1)).toArray (HP.out _) (fun w2 K => ?_)
      have HR2 := hid K.row
      have HL2 := hid (K.below _ _ HL.out (Nat.le_refl _))
      clear K HR HL HP
      go_wp2
      go_roundw
      case rel => exact ⟨j + 1, by omega, by go_num, by rw [← HN.out]; go_num, HR2.out, HL2.out⟩
      case measure => simp [intOf]; omega
    · obtain rfl : j = 8 := by omega
      have hcv := Lib.run_convert_whole (P := Tryd.prog) wr 105 5 9 Tryd.underlying105 Tryd.underlying5 Tryd.underlying9 w.heap.size 0 (hexT b) (fun i hi => by rw [Nat.zero_add, HR.out.cell?]; exact hexT_at b i hi) 8
      rw [hexT_size] at hcv
      go_wp2
      go_ret
      exact ⟨rfl, HL.out⟩
end Go.Proofs.YtjihkfemejhllaaDoor

/- The text of samples. -/
namespace Go.Proofs.YtjihkfemejhllaaDoor
open Go.RowKit Go.Fk
theorem infoStrO : (Tryd.prog.info? 9).map (·.size) = some 1 := by kernel_rfl
theorem makeStr (n : Nat) (hn : n ≤ 1048576) : ∃ cs : Array Value, cs.size = n ∧ ∀ w, (Instr.makeSlice 87 (.int .i64 (n : Int)) (.int .i64 (n : Int))).run Tryd.prog w = .ok (.slice (some ⟨w.heap.size, 0, none⟩) n n) (w.alloc (.cells cs 9)) := by
  obtain ⟨cs, h1, h2⟩ := run_make_wide (P := Tryd.prog) 87 9 1 Tryd.underlying87 (by kernel_rfl) n hn
  exact ⟨cs, by omega, h2⟩
set_option maxRecDepth 100000 in
set_option maxHeartbeats 4000000 in
theorem i_samplesText (f : Nat → Nat) (a : Addr) (u cap : Nat) (w : World) (hu : u ≤ 1048576) (hf : ∀ i, i < u → fits .f32 (f i)) (hc : ∀ i, i < u → w.cell? (a.add i) = some (.float .f32 (f i))) :
    Calls Tryd.prog 42 #[.slice (some a) u cap] w fun e w' => e = .returned (.string (txtS f u)) ∧ le w w' := by
  obtain ⟨cs0, hcs, HM⟩ := makeStr u hu
  have HZ := hid (Row.new w 9 cs0)
  have hz : cs0.size = u := hcs
  have HCS := hid hz
  have Hf := hid hf; have Hc := hid hc; clear hf hc hcs hz
  have hl := hid (le_alloc w (.cells cs0 9))
  go_enter Tryd.func42, Tryd.ntmps42
  go_wp2
  go_loopw [11] (fun i wr => ∃ j : Nat, j ≤ u ∧ i = .int .i64 j ∧ ∃ cs : Array Value, Hid (cs.size = u) ∧ Hid (∀ i, i < j → cs[i]? = some (.string (hexT (can .f32 (f i))))) ∧ Hid (Row wr w.heap.size 9 cs) ∧ Hid (le w wr)) (fun i _ => u - (intOf i).toNat)
  case atStart => exact ⟨0, by omega, rfl, cs0, HCS.out, fun i hi => absurd hi (by omega), HZ.out, hl.out⟩
  case round =>
    obtain ⟨j, hj, rfl, cs, HS, HJ, HR, HL⟩ := hrel
    rename_i wr _
    clear HZ HCS hl
    by_cases hlt : j < u
    · have cj := hid ((Below.cell HL.out (cell_lt' (Hc.out j hlt))).trans (Hc.out j hlt))
      have cj' := cj.out
      have HT := hid (i_sampleText (f j) (Hf.out j hlt))
      go_wp2_with (first | (go_at_call 68; ((with_reducible refine (HT.out _).mono ?_); rintro e w1 ⟨rfl, hl1⟩; have HL1 := hid hl1; clear hl1)) | (with_reducible refine stop_store rfl ?_))
      show wpList _ _ _ _ _ _
      refine wpList_store1 rfl rfl (f := j) rfl rfl (HR.out.le HL1.out) infoStrO (by rw [HS.out]; exact hlt) rfl (cs.setIfInBounds j (.string (hexT (can .f32 (f j))))) rfl (fun w2 K => ?_)
      have HR2 := hid K.row
      have HL2 := hid (K.below _ _ (le_trans HL.out HL1.out) (Nat.le_refl _))
      clear K HR HL HL1 cj cj'
      go_wp2
      go_roundw
      case rel =>
        refine ⟨j + 1, by omega, by go_num, _, by rw [Array.size_setIfInBounds]; exact HS.out, fun i hi => ?_, HR2.out, HL2.out⟩
        rw [Array.getElem?_setIfInBounds]
        by_cases e : j = i
        · subst e; simp [HS.out, hlt]
        · rw [if_neg e]; exact HJ.out i (by omega)
      case measure => simp [intOf]; omega
    · obtain rfl : j = u := by omega
      have HJN := hid (run_Join w.heap.size 0 j (hexs f j) spB j (hexs_len f j).symm wr (fun q x hq => by
        have hq' : q < j := by have := (List.getElem?_eq_some_iff.1 hq).1; rwa [hexs_len] at this
        rw [Nat.zero_add, HR.out.cell?, HJ.out q hq']
        rw [hexs_at f hq'] at hq
        simp at hq
        rw [hq]) HR.out.lt (by rw [hexs_len]; exact Nat.le_refl _) (by omega) (by have := txtS_size f j; unfold txtS at this; omega))
      go_wp2_with (go_at_call 41; (refine HJN.out.mono ?_; rintro e w1 ⟨rfl, hl1⟩; skip))
      go_ret
      exact ⟨rfl, le_trans HL.out hl1⟩
end Go.Proofs.YtjihkfemejhllaaDoor

/- 'toRing' of the laws. -/
namespace Go.Fk
open Go Go.RowKit
theorem SlIn.le {w w' : World} {v : Value} {x : Nat → Nat} {n : Nat} (h : SlIn w v x n) (hl : Fk.le w w') : SlIn w' v x n := by
  rcases h with h | ⟨a, cap, h1, h2, h3, h4⟩
  · exact .inl h
  · exact .inr ⟨a, cap, h1, h2, h3, fun i hi => ⟨(Below.cell hl (cell_lt (h4 i hi).1)).trans (h4 i hi).1, (h4 i hi).2⟩⟩
theorem SlIn.small {w : World} {v : Value} {x : Nat → Nat} {n : Nat} (h : SlIn w v x n) : n ≤ 9223372036854775807 := by
  rcases h with ⟨_, rfl⟩ | ⟨a, cap, h1, h2, h3, h4⟩
  · omega
  · unfold maxLen at h3; omega
end Go.Fk
namespace Go.Proofs.YtjihkfemejhllaaDoor
open Go.RowKit Go.Fk
set_option maxRecDepth 100000 in
set_option maxHeartbeats 1000000 in
theorem toRing_any (s : Value) (x : Nat → Nat) (n : Nat) (k : Int) (w : World) (hs : SlIn w s x n) (hn : n ≤ 1048576) :
    Calls Tryd.prog 24 #[.agg #[s, .int .i64 k]] w fun e w' => ∃ b, e = .returned (.agg #[.slice (some ⟨b, 0, none⟩) n n, .int .i64 k]) ∧ w.heap.size ≤ b ∧ Row w' b 25 (ftab .f32 x n) ∧ le w w' := by
  have F := (((Frm.nil w).box 24 #[s, .int .i64 k]).box 34 #[.slice none 0 0, .int .i64 0]).box 34 #[.slice none 0 0, .int .i64 0]
  simp only [World.size_alloc] at F
  have HS := hid (hs.le F.below)
  clear hs
  go_enter Tryd.func24, Tryd.ntmps24
  go_upto_region 2 with (fail)
  obtain ⟨W, hW⟩ : ∃ W, W = ((w.alloc (.cells #[s, .int .i64 k] 24)).alloc (.cells #[.slice none 0 0, .int .i64 0] 34)).alloc (.cells #[.slice none 0 0, .int .i64 0] 34) := ⟨_, rfl⟩
  rw [← hW] at F HS ⊢
  have hz : W.heap.size = w.heap.size + 1 + 1 + 1 := by rw [hW]; simp
  clear hW
  have R1 := F.row (g := w.heap.size) (t := 24) (cs := #[s, .int .i64 k]) (List.mem_cons_of_mem _ (List.mem_cons_of_mem _ List.mem_cons_self))
  have c1 := R1.cell? 0
  replace R1 := hid R1
  replace F := hid F
  have HZ := hid hz
  go_wp2_with (go_at_call 39; ((with_reducible refine (toS s x n W HS.out hn).mono ?_); rintro e w2 ⟨rfl, hr, hl⟩; rw [HZ.out] at hr; have G := F.out.le hl; have d1 : w2.cell? ⟨w.heap.size, 1, none⟩ = some (.int .i64 k) := (G.row (g := w.heap.size) (t := 24) (cs := #[s, .int .i64 k]) (List.mem_cons_of_mem _ (List.mem_cons_of_mem _ List.mem_cons_self))).cell? 1; have T3 := G.row (g := w.heap.size + 1 + 1) (t := 34) (cs := #[.slice none 0 0, .int .i64 0]) List.mem_cons_self; have T2 := G.row (g := w.heap.size + 1) (t := 34) (cs := #[.slice none 0 0, .int .i64 0]) (List.mem_cons_of_mem _ List.mem_cons_self); have d3 : w2.cell? ⟨w.heap.size + 1 + 1, 0, none⟩ = some (.slice none 0 0) := T3.cell? 0; have d4 : w2.cell? ⟨w.heap.size + 1 + 1, 1, none⟩ = some (.int .i64 0) := T3.cell? 1; have e0 : w2.cell? ⟨w.heap.size + 1, 0, none⟩ = some (.slice none 0 0) := T2.cell? 0; have e1 : w2.cell? ⟨w.heap.size + 1, 1, none⟩ = some (.int .i64 0) := T2.cell? 1; have g0 := T2.frozen 0; have g1 := T2.frozen 1; have f3 := T3.frozen 0; have f4 := T3.frozen 1; replace T3 := hid T3; replace T2 := hid T2; have HB := hid G.below; have HR := hid hr; have HW := hid hl.size; clear hr hl G))
  have Z : ∀ (W : World) (v v' : Value), Row W (w.heap.size + 1) 34 #[v, v'] → ∀ u u', Row ((W.setCell ⟨w.heap.size + 1, 0, none⟩ u).setCell ⟨w.heap.size + 1, 1, none⟩ u') (w.heap.size + 1) 34 #[u, u'] := fun W v v' h u u' => (h.set 0 u).set 1 u'
  have N2 := T2.out.other ⟨w.heap.size + 1 + 1, 0, none⟩ (.slice (some ⟨w.heap.size + 1 + 1 + 1, 0, none⟩) n n) (by simp)
  replace N2 := N2.other ⟨w.heap.size + 1 + 1, 1, none⟩ (.int .i64 k) (by simp)
  have N := HR.out.other ⟨w.heap.size + 1 + 1, 0, none⟩ (.slice (some ⟨w.heap.size + 1 + 1 + 1, 0, none⟩) n n) (by simp)
  replace N := N.other ⟨w.heap.size + 1 + 1, 1, none⟩ (.int .i64 k) (by simp)
  replace N := N.other ⟨w.heap.size + 1, 0, none⟩ (.slice (some ⟨w.heap.size + 1 + 1 + 1, 0, none⟩) n n) (by simp; omega)
  replace N := N.other ⟨w.heap.size + 1, 1, none⟩ (.int .i64 k) (by simp; omega)
  have B := Below.setCell (Below.setCell (Below.setCell (Below.setCell HB.out (p := ⟨w.heap.size + 1 + 1, 0, none⟩) (by simp; omega) (.slice (some ⟨w.heap.size + 1 + 1 + 1, 0, none⟩) n n)) (p := ⟨w.heap.size + 1 + 1, 1, none⟩) (by simp; omega) (.int .i64 k)) (p := ⟨w.heap.size + 1, 0, none⟩) (by simp) (.slice (some ⟨w.heap.size + 1 + 1 + 1, 0, none⟩) n n)) (p := ⟨w.heap.size + 1, 1, none⟩) (by simp) (.int .i64 k)
  exact bodyPost_ret (results_row1 rfl _ _ _ _ _ rfl (Z _ _ _ N2 _ _) Tryd.underlying34 rfl infoRing) rfl ⟨_, rfl, by omega, N, B⟩
end Go.Proofs.YtjihkfemejhllaaDoor

/- 'szRing' and 'ValidRing' of both. -/
namespace Go.Fk
open Go Go.RowKit
def okRing (n : Nat) (k : Int) : Bool := (decide (1 ≤ (n : Int)) && decide ((n : Int) ≤ 1024)) && (decide (0 ≤ k) && decide (k < (n : Int)))
end Go.Fk
namespace Go.Proofs.YtjihkfemejhllaaDoor
open Go.RowKit Go.Fk
theorem szRing_no (s : Value) (x : Nat → Nat) (n : Nat) (k : Int) (w : World) (hs : SlIn w s x n) (hn : ¬ n ≤ 1048576) :
    Calls Tryd.prog 21 #[.agg #[s, .int .i64 k], .int .i64 1048576] w fun e w' => e = .returned (.int .i64 (-1)) ∧ le w w' := by
  have HS := hid (hs.le (le_alloc w (.cells #[s, .int .i64 k] 24)))
  have HN := hid hs.small
  have HL := hid (le_alloc w (.cells #[s, .int .i64 k] 24))
  clear hs
  go_enter Tryd.func21, Tryd.ntmps21
  go_wp2_with (go_at_call 35; ((with_reducible refine (szS_no s x n 1048576 _ HS.out (by omega) (by omega) HN.out (by omega)).mono ?_); rintro e w2 ⟨rfl, rfl⟩))
  go_ret
  exact ⟨rfl, HL.out⟩
theorem szRing_yes (s : Value) (x : Nat → Nat) (n : Nat) (k : Int) (w : World) (hs : SlIn w s x n) (hn : n ≤ 1048576) :
    Calls Tryd.prog 21 #[.agg #[s, .int .i64 k], .int .i64 1048576] w fun e w' => e = .returned (.int .i64 (1048576 - n)) ∧ le w w' := by
  have HS := hid (hs.le (le_alloc w (.cells #[s, .int .i64 k] 24)))
  have HN := hid hs.small
  have HL := hid (le_alloc w (.cells #[s, .int .i64 k] 24))
  clear hs
  go_enter Tryd.func21, Tryd.ntmps21
  go_wp2_with (go_at_call 35; ((with_reducible refine (szS_yes s x n 1048576 _ HS.out (by omega) (by omega) HN.out (by omega)).mono ?_); rintro e w2 ⟨rfl, rfl⟩))
  go_ret
  exact ⟨rfl, HL.out⟩
set_option maxHeartbeats 2000000 in
theorem i_ValidRing (b n : Nat) (k : Int) (w : World) : Calls Tryd.prog 90 #[.agg #[.slice (some ⟨b, 0, none⟩) n n, .int .i64 k]] w fun e w' => e = .returned (.bool (okRing n k)) ∧ le w w' := by
  have HL := hid (le_alloc w (.cells #[.slice (some ⟨b, 0, none⟩) n n, .int .i64 k] 34))
  obtain ⟨z, hz⟩ : ∃ z, z = okRing n k := ⟨_, rfl⟩
  rw [← hz]
  unfold okRing at hz
  by_cases h1 : 1 ≤ (n : Int) <;> by_cases h2 : (n : Int) ≤ 1024 <;> by_cases h3 : 0 ≤ k <;> by_cases h4 : k < (n : Int)
  all_goals first | (exfalso; omega) | skip
  all_goals
    simp only [h1, h2, h3, h4, decide_true, decide_false, Bool.and_true, Bool.and_false, Bool.true_and, Bool.false_and] at hz
    have HZ := hid hz
    clear hz
    go_enter Tryd.func90, Tryd.ntmps90
    go_wp2
    go_ret
    exact ⟨ret_b HZ.out.symm, HL.out⟩
end Go.Proofs.YtjihkfemejhllaaDoor

/- What math.Float32frombits gives. -/
namespace Go.Proofs.YtjihkfemejhllaaDoor
open Go.RowKit Go.Fk

end Go.Proofs.YtjihkfemejhllaaDoor

/- Flushing: the plain function, the bits that it looks at, and the contracts of 'FlushSample' and 'l01Flush'. -/
namespace Go.Fk
open Go Go.RowKit

def flush (b : Nat) : Nat := if b % 2147483648 < 8388608 then 0 else b

theorem fits_flush {b : Nat} (h : fits .f32 b) : fits .f32 (flush b) := by
  unfold flush; split
  · simp [fits, Lit.wf]
  · exact h
theorem fits32 {b : Nat} (h : fits .f32 b) : b < 4294967296 := by
  simp only [fits, Lit.wf, decide_eq_true_eq] at h; omega

theorem and_low (x : Nat) : x &&& 2147483647 = x % 2147483648 := Nat.and_two_pow_sub_one_eq_mod x 31
theorem and_exp (x : Nat) (hx : x < 4294967296) : ((x &&& 2139095040) = 0) ↔ x % 2147483648 < 8388608 := by
  have e : x &&& 2139095040 = (x >>> 23 &&& 255) <<< 23 := by
    rw [Nat.shiftLeft_and_distrib]
    apply Nat.eq_of_testBit_eq
    intro i
    simp only [Nat.testBit_and, Nat.testBit_shiftLeft, Nat.testBit_shiftRight]
    by_cases hi : 23 ≤ i
    · simp only [hi, decide_true, Bool.true_and, show 23 + (i - 23) = i by omega]
      congr 1
      rw [show (2139095040 : Nat) = 255 <<< 23 by decide, Nat.testBit_shiftLeft]
      simp [hi]
    · simp only [hi, decide_false, Bool.false_and]
      rw [show (2139095040 : Nat) = 255 <<< 23 by decide, Nat.testBit_shiftLeft]
      simp [hi]
  rw [e, show (255 : Nat) = 2 ^ 8 - 1 by decide, Nat.and_two_pow_sub_one_eq_mod, Nat.shiftLeft_eq, Nat.shiftRight_eq_div_pow]
  omega

theorem bits_and_exp (x : Nat) (hx : x < 4294967296) : bits .and .u32 (x : Int) 2139095040 = ((x &&& 2139095040 : Nat) : Int) :=
  (bits_nat .u32 32 (by decide) (fun n h0 h1 => by rw [IntKind.wrap_u32]; omega) x 2139095040 (by omega) (by omega)).1
theorem bits_and_low (x : Nat) (hx : x < 4294967296) : bits .and .u32 (x : Int) 2147483647 = ((x % 2147483648 : Nat) : Int) := by
  rw [← and_low]
  exact (bits_nat .u32 32 (by decide) (fun n h0 h1 => by rw [IntKind.wrap_u32]; omega) x 2147483647 (by omega) (by omega)).1
theorem exp_zero {x : Nat} (hx : x < 4294967296) (h : x % 2147483648 < 8388608) : (bits .and .u32 (x : Int) 2139095040 == 0) = true := by
  rw [bits_and_exp x hx, (and_exp x hx).2 h]; rfl
theorem exp_pos {x : Nat} (hx : x < 4294967296) (h : ¬ x % 2147483648 < 8388608) : (bits .and .u32 (x : Int) 2139095040 == 0) = false := by
  rw [bits_and_exp x hx, beq_eq_false_iff_ne]
  intro e
  exact h ((and_exp x hx).1 (by exact_mod_cast e))

theorem order_min (r : Nat) (h : r < 2147483648) : (FloatKind.f32.format.order r 8388608 == some .lt) = decide (r < 8388608) := by
  have e1 : Ieee.single.signWeight = 2147483648 := by decide
  have e2 : Ieee.single.infRung = 2139095040 := by decide
  have e3 : Ieee.single.binade = 8388608 := by decide
  have e4 : Ieee.single.leastPlace = -149 := by decide
  have e5 : Ieee.single.read 8388608 = .number false 8388608 (-149) := by decide
  have e6 : r % 2147483648 = r := Nat.mod_eq_of_lt h
  have e7 : r / 2147483648 = 0 := by omega
  simp only [FloatKind.format, Ieee.Format.order, e5]
  simp only [Ieee.Format.read, e1, e2, e3, e4, e6, e7]
  split
  · rename_i h1
    have h0 : decide (r < 8388608) = true := by simpa using h1
    rw [h0]
    simp only [Ieee.Datum.order, Ieee.signed, beq_iff_eq, Option.some.injEq]
    refine Int.compare_eq_lt.2 ?_
    simp [Nat.shiftLeft_eq]
    omega
  · have h0 : decide (r < 8388608) = false := by simp; omega
    rw [h0, beq_eq_false_iff_ne]
    split
    · simp only [Ieee.Datum.order, Ieee.signed]
      intro h
      simp only [Option.some.injEq] at h
      have h := Int.compare_eq_lt.1 h
      rw [show min (-149 + ((r / 8388608 - 1 : Nat) : Int)) (-149) = -149 by omega] at h
      simp [Nat.shiftLeft_eq] at h
      have h3 : 0 < 2 ^ (r / 8388608 - 1) := Nat.two_pow_pos _
      have h4 : (8388608 + r % 8388608) * 1 ≤ (8388608 + r % 8388608) * 2 ^ (r / 8388608 - 1) := Nat.mul_le_mul_left _ h3
      rw [show (-149 + ((r / 8388608 - 1 : Nat) : Int) + 149).toNat = r / 8388608 - 1 by omega] at h
      generalize r / 8388608 - 1 = u at *
      have e : (((8388608 + r % 8388608) * 2 ^ u : Nat) : Int) = (8388608 + (r : Int) % 8388608) * 2 ^ u := by rw [Int.natCast_mul, Int.natCast_add, Int.natCast_emod, Int.natCast_pow]; rfl
      omega
    · split
      · simp [Ieee.Datum.order]
      · simp [Ieee.Datum.order]
end Go.Fk

namespace Go.Proofs.YtjihkfemejhllaaDoor
open Go.RowKit Go.Fk
end Go.Proofs.YtjihkfemejhllaaDoor

/- Is a sample finite? -/
namespace Go.Fk
open Go Go.RowKit
/-- Is a sample finite? -/
def fin (x : Nat) : Bool := match FloatKind.f32.format.read x with | .number _ _ _ => true | _ => false
theorem fin_sub (x : Nat) : (FloatKind.f32.format.order (fop .sub .f32 x x) 0 == some .eq) = fin x := by
  cases hr : FloatKind.f32.format.read x with
  | nan s t =>
    have h : isNan .f32 x = true := by simp [isNan, hr, Ieee.Datum.isNaN]
    simp only [fin, hr, fop]
    rw [floatBits_nan_l h]
    decide
  | infinity s =>
    simp only [fin, hr, fop, floatBits, Ieee.Format.sub, Ieee.Datum.opposite, Ieee.Datum.sum]
    cases s <;> decide
  | number s m e =>
    simp only [fin, hr, fop, floatBits, Ieee.Format.sub, Ieee.Datum.opposite, Ieee.Datum.sum, Int.sub_self]
    have h1 : Ieee.signed s m (e - min e e).toNat + Ieee.signed (!s) m (e - min e e).toNat = 0 := by
      unfold Ieee.signed; cases s <;> simp <;> omega
    rw [h1]
    simp only [if_true, Option.map_some, Int.natAbs_zero, Ieee.Format.write, Ieee.Format.nearest]
    cases s <;> decide
end Go.Fk
namespace Go.Proofs.YtjihkfemejhllaaDoor
open Go.RowKit Go.Fk
theorem s_l01Finite (x : Nat) (w : World) : Calls Tryd.prog 73 #[.float .f32 x] w fun e w' => e = .returned (.bool (fin x)) ∧ ∃ n, w' = w.drewN n := by
  go_enter Tryd.func73, Tryd.ntmps73
  go_wp2_with (with_reducible refine wpList_farith rfl rfl rfl rfl rfl ?_; intro r n hr hf)
  go_ret
  refine ⟨ret_b ?_, n, rfl⟩
  rw [← fin_sub, order_congr (hr.out.trans (can_fop _ _ _ _).symm) rfl]
end Go.Proofs.YtjihkfemejhllaaDoor

/- What a state keeps of a number; is a number finite? -/
namespace Go.Fk
open Go Go.RowKit
theorem fin_bits (x : Nat) : fin x = decide (x % 2147483648 < 2139095040) := by
  have e1 : Ieee.single.signWeight = 2147483648 := by decide
  have e2 : Ieee.single.infRung = 2139095040 := by decide
  have e3 : Ieee.single.binade = 8388608 := by decide
  have e4 : Ieee.single.leastPlace = -149 := by decide
  simp only [fin, FloatKind.format, Ieee.Format.read, e1, e2, e3, e4]
  split
  · rename_i s m e h
    split at h
    · simp; omega
    · split at h
      · simp; omega
      · split at h <;> cases h
  · rename_i h
    split at h
    · exact absurd rfl (h _ _ _)
    · split at h
      · exact absurd rfl (h _ _ _)
      · simp; omega
theorem and_exp255 (x : Nat) (hx : x < 4294967296) : ((x &&& 2139095040) = 2139095040) ↔ ¬ x % 2147483648 < 2139095040 := by
  have e : x &&& 2139095040 = (x >>> 23 &&& 255) <<< 23 := by
    rw [Nat.shiftLeft_and_distrib]
    apply Nat.eq_of_testBit_eq
    intro i
    simp only [Nat.testBit_and, Nat.testBit_shiftLeft, Nat.testBit_shiftRight]
    by_cases hi : 23 ≤ i
    · simp only [hi, decide_true, Bool.true_and, show 23 + (i - 23) = i by omega]
      congr 1
      rw [show (2139095040 : Nat) = 255 <<< 23 by decide, Nat.testBit_shiftLeft]
      simp [hi]
    · simp only [hi, decide_false, Bool.false_and]
      rw [show (2139095040 : Nat) = 255 <<< 23 by decide, Nat.testBit_shiftLeft]
      simp [hi]
  rw [e, show (255 : Nat) = 2 ^ 8 - 1 by decide, Nat.and_two_pow_sub_one_eq_mod, Nat.shiftLeft_eq, Nat.shiftRight_eq_div_pow]
  omega
theorem exp_full {x : Nat} (hx : x < 4294967296) : (bits .and .u32 (x : Int) 2139095040 == 2139095040) = !fin x := by
  rw [bits_and_exp x hx, fin_bits]
  have h := and_exp255 x hx
  by_cases c : x % 2147483648 < 2139095040
  · have : ¬ (x &&& 2139095040) = 2139095040 := fun e => (h.1 e) c
    simp only [c, decide_true, Bool.not_true, beq_eq_false_iff_ne]
    intro e
    exact this (Int.ofNat_inj.1 e)
  · simp only [c, decide_false, Bool.not_false, beq_iff_eq]
    rw [h.2 c]; rfl
/-- What a state keeps. -/
def kept (v : Nat) : Nat := if fin v = true then flush v else 0
theorem fin_can {a b : Nat} (h : can .f32 a = can .f32 b) : fin a = fin b := by
  cases hn : isNan .f32 a
  · rw [eq_of_can h hn]
  · have hm := (isNan_of_can h).symm.trans hn
    obtain ⟨s, t, h1⟩ := read_nan hn
    obtain ⟨s', t', h2⟩ := read_nan hm
    simp [fin, h1, h2]
theorem fin_num {a : Nat} (h : fin a = true) : isNan .f32 a = false := by
  cases hr : FloatKind.f32.format.read a with
  | nan s t => simp [fin, hr] at h
  | infinity s => simp [fin, hr] at h
  | number s m e => simp [isNan, hr, Ieee.Datum.isNaN]
theorem kept_can {a b : Nat} (h : can .f32 a = can .f32 b) : kept a = kept b := by
  unfold kept
  rw [← fin_can h]
  split
  · rename_i hf
    rw [eq_of_can h (fin_num hf)]
  · rfl
theorem fits_kept {b : Nat} (h : fits .f32 b) : fits .f32 (kept b) := by
  unfold kept; split
  · exact fits_flush h
  · simp [fits, Lit.wf]
theorem same0_fin {v : Nat} (h : sameB v 0 = true) : fin v = true := by
  have e : can .f32 v = can .f32 0 := by
    simp only [sameB, beq_iff_eq] at h
    exact_mod_cast h
  rw [fin_can e]; decide
end Go.Fk
namespace Go.Proofs.YtjihkfemejhllaaDoor
open Go.RowKit Go.Fk
theorem i_isFinite (x : Nat) (w : World) (hx : fits .f32 x) : Calls Tryd.prog 64 #[.float .f32 x] w fun e w' => e = .returned (.bool (fin x)) ∧ w = w' := by
  have hz := exp_full (fits32 hx)
  go_enter Tryd.func64, Tryd.ntmps64
  go_wp2
  go_ret
  refine ⟨ret_b ?_, rfl⟩
  rw [bne, hz, Bool.not_not]
end Go.Proofs.YtjihkfemejhllaaDoor

/- 'areUsed': the first numbers are finite, the others 0. -/
namespace Go.Fk
open Go Go.RowKit
def usedB (f : Nat → Nat) (n u : Nat) : Bool := (List.range n).all fun i => if i < u then fin (f i) else sameB (f i) 0
theorem usedB_fin {f : Nat → Nat} {n u i : Nat} (hi : i < u) (hu : u ≤ n) (h : fin (f i) = false) : usedB f n u = false := by
  simp only [usedB, List.all_eq_false, List.mem_range]
  exact ⟨i, by omega, by simp [hi, h]⟩
theorem usedB_zero {f : Nat → Nat} {n u i : Nat} (hi : u ≤ i) (hn : i < n) (h : sameB (f i) 0 = false) : usedB f n u = false := by
  simp only [usedB, List.all_eq_false, List.mem_range]
  exact ⟨i, hn, by simp [show ¬ i < u by omega, h]⟩
theorem usedB_yes {f : Nat → Nat} {n u : Nat} (h1 : ∀ i, i < u → fin (f i) = true) (h2 : ∀ i, u ≤ i → i < n → sameB (f i) 0 = true) : usedB f n u = true := by
  simp only [usedB, List.all_eq_true, List.mem_range]
  intro i hi
  by_cases c : i < u
  · simp [c, h1 i c]
  · simp [c, h2 i (by omega) hi]
/-- Are all finite? -/
def finB (f : Nat → Nat) (n : Nat) : Bool := (List.range n).all fun i => fin (f i)
theorem finB_no {f : Nat → Nat} {n i : Nat} (hi : i < n) (h : fin (f i) = false) : finB f n = false := by
  rw [Bool.eq_false_iff]; intro hh
  have := List.all_eq_true.1 hh i (List.mem_range.2 hi)
  rw [h] at this; cases this
theorem finB_yes {f : Nat → Nat} {n : Nat} (h : ∀ i, i < n → fin (f i) = true) : finB f n = true := List.all_eq_true.2 (fun i hi => h i (List.mem_range.1 hi))
theorem finB_all {f : Nat → Nat} {n : Nat} (h : finB f n = true) : ∀ i, i < n → fin (f i) = true := fun i hi => List.all_eq_true.1 h i (List.mem_range.2 hi)
theorem finB_ex {f : Nat → Nat} {n : Nat} (h : finB f n = false) : ∃ i, i < n ∧ fin (f i) = false := by
  apply Classical.byContradiction
  intro hn
  have : finB f n = true := finB_yes (fun i hi => by
    cases hb : fin (f i)
    · exact absurd ⟨i, hi, hb⟩ hn
    · rfl)
  rw [h] at this; cases this
end Go.Fk
namespace Go.Proofs.YtjihkfemejhllaaDoor
open Go.RowKit Go.Fk
set_option maxHeartbeats 1000000 in
theorem i_areFinite (f : Nat → Nat) (a : Addr) (u cap : Nat) (w : World) (hu : u ≤ 9223372036854775807) (hf : ∀ i, i < u → fits .f32 (f i)) (hc : ∀ i, i < u → w.cell? (a.add i) = some (.float .f32 (f i))) :
    Calls Tryd.prog 78 #[.slice (some a) u cap] w fun e w' => e = .returned (.bool (finB f u)) ∧ w = w' := by
  have Hf := hid hf; have Hc := hid hc; clear hf hc
  go_enter Tryd.func78, Tryd.ntmps78
  go_wp2
  go_loop [7] (fun i => ∃ j : Nat, j ≤ u ∧ i = .int .i64 j ∧ Hid (∀ i, i < j → fin (f i) = true)) (fun i => u - (intOf i).toNat)
  case atStart => exact ⟨0, by omega, rfl, fun i hi => absurd hi (by omega)⟩
  case round =>
    obtain ⟨j, hj, rfl, HJ⟩ := hrel
    by_cases hlt : j < u
    · have cj := Hc.out j (by omega)
      have fj := hid (Hf.out j (by omega))
      cases hb : fin (f j)
      · go_wp2_with (go_at_call 64; refine (i_isFinite _ _ fj).mono ?_; rintro e w' ⟨rfl, rfl⟩)
        go_ret
        exact ⟨ret_b (finB_no hlt hb).symm, rfl⟩
      · go_wp2_with (go_at_call 64; refine (i_isFinite _ _ fj).mono ?_; rintro e w' ⟨rfl, rfl⟩)
        go_round
        case rel => exact ⟨j + 1, by omega, by go_num, fun i hi => by rcases Nat.lt_or_ge i j with h | h; exact HJ.out i h; rw [show i = j by omega]; exact hb⟩
        case measure => simp [intOf]; omega
    · obtain rfl : j = u := by omega
      go_wp2
      go_ret
      exact ⟨ret_b (finB_yes HJ.out).symm, rfl⟩
theorem i_areFinite_nil (f : Nat → Nat) (w : World) : Calls Tryd.prog 78 #[.slice none 0 0] w fun e w' => e = .returned (.bool (finB f 0)) ∧ w = w' := by
  go_enter Tryd.func78, Tryd.ntmps78
  go_wp2
  go_loop [7] (fun i => i = .int .i64 0) (fun _ => 0)
  case atStart => rfl
  case round =>
    obtain rfl := hrel
    go_wp2
    go_ret
    exact ⟨rfl, rfl⟩
set_option maxHeartbeats 1000000 in
theorem i_areUsed (f : Nat → Nat) (g o n u : Nat) (w : World) (hn : n < 100) (hu : u ≤ n) (hf : ∀ i, i < n → fits .f32 (f i)) (hc : ∀ i, i < n → w.cell? ⟨g, o + i, none⟩ = some (.float .f32 (f i))) :
    Calls Tryd.prog 82 #[.slice (some ⟨g, o, none⟩) n n, .int .i64 u] w fun e w' => e = .returned (.bool (usedB f n u)) ∧ w = w' := by
  have HA := hid (fun (w : World) (hc : ∀ i, i < n → w.cell? ⟨g, o + i, none⟩ = some (.float .f32 (f i))) => i_areFinite f ⟨g, o, none⟩ u n w (by omega) (fun i hi => hf i (by omega)) (fun i hi => by rw [add_none]; exact hc i (by omega)))
  have Hc := hid hc; clear hf hc
  obtain ⟨z, hz⟩ : ∃ z, z = finB f u := ⟨_, rfl⟩
  rw [← hz] at HA
  cases z
  · obtain ⟨i, hi, hb⟩ := finB_ex hz.symm
    have HZ := hid (usedB_fin hi hu hb)
    clear hz hb hi
    go_enter Tryd.func82, Tryd.ntmps82
    go_wp2_with (go_at_call 78; refine (HA.out _ Hc.out).mono ?_; rintro e w' ⟨rfl, rfl⟩)
    go_ret
    exact ⟨ret_b HZ.out.symm, rfl⟩
  have HJ := hid (finB_all hz.symm)
  clear hz
  rcases Nat.lt_or_ge u n with hlt0 | hge0
  · have h1 : (u : Int) ≤ n := by omega
    have h2 : (u : Int) < n := by omega
    go_enter Tryd.func82, Tryd.ntmps82
    go_wp2_with (go_at_call 78; refine (HA.out _ Hc.out).mono ?_; rintro e w' ⟨rfl, rfl⟩)
    go_loop [16] (fun i => ∃ k : Nat, k ≤ n - u ∧ i = .int .i64 k ∧ Hid (∀ i, u ≤ i → i < u + k → sameB (f i) 0 = true)) (fun i => (n - u) - (intOf i).toNat)
    case atStart => exact ⟨0, by omega, rfl, fun i h1 h2 => absurd h2 (by omega)⟩
    case round =>
      obtain ⟨k, hk, rfl, HK⟩ := hrel
      by_cases hkt : k < n - u
      · have ck : w.cell? ⟨g, o + u + k, none⟩ = some (.float .f32 (f (u + k))) := by rw [Nat.add_assoc]; exact Hc.out (u + k) (by omega)
        have k1 : (k : Int) < (n : Int) - u := by omega
        cases hb : sameB (f (u + k)) 0
        · go_wp2_with (go_at_call 92; refine (i_SameSample _ _ _).mono ?_; rintro e w' ⟨rfl, rfl⟩)
          go_ret
          exact ⟨ret_b (usedB_zero (show u ≤ u + k by omega) (by omega) hb).symm, rfl⟩
        · go_wp2_with (go_at_call 92; refine (i_SameSample _ _ _).mono ?_; rintro e w' ⟨rfl, rfl⟩)
          go_round
          case rel => exact ⟨k + 1, by omega, by go_num, fun i h1 h2 => by rcases Nat.lt_or_ge i (u + k) with h | h; exact HK.out i h1 h; rw [show i = u + k by omega]; exact hb⟩
          case measure => simp [intOf]; omega
      · have k1 : ¬ (k : Int) < (n : Int) - u := by omega
        go_wp2
        go_ret
        exact ⟨ret_b (usedB_yes (HJ.out) (fun i h1 h2 => HK.out i h1 (by omega))).symm, rfl⟩
  · obtain rfl : u = n := by omega
    clear hu hge0
    go_enter Tryd.func82, Tryd.ntmps82
    go_wp2_with (go_at_call 78; refine (HA.out _ Hc.out).mono ?_; rintro e w' ⟨rfl, rfl⟩)
    go_loop [16] (fun i => i = .int .i64 0) (fun i => 0)
    case atStart => rfl
    case round =>
      obtain rfl := hrel
      go_wp2
      go_ret
      exact ⟨ret_b (usedB_yes (HJ.out) (fun i h1 h2 => absurd h2 (by omega))).symm, rfl⟩
end Go.Proofs.YtjihkfemejhllaaDoor

/- Values that lead to blocks' cells (never into the midst of a word): what one owns is read so. Lists of rings. Nothing here names a program. -/
namespace Go.Fk
open Go Go.RowKit
def CD.RdN (w : World) (B : Nat) : CD → Value → Prop
  | .int k z, v => CD.leaf (.int k z) v
  | .flt k x, v => CD.leaf (.flt k x) v
  | .fcn k x, v => CD.leaf (.fcn k x) v
  | .bool b, v => CD.leaf (.bool b) v
  | .str s, v => CD.leaf (.str s) v
  | .sl wd n x, v => (v = .slice none 0 0 ∧ n = 0) ∨ ∃ b o cap, v = .slice (some ⟨b, o, none⟩) n cap ∧ n ≤ cap ∧ cap ≤ maxLen ∧ ∀ i, i < n * wd → b < B ∧ ∃ u, w.cell? ⟨b, o + i, none⟩ = some u ∧ CD.RdN w B (x i) u
theorem CD.RdN.rd {w : World} {B : Nat} : ∀ {c : CD} {v : Value}, c.RdN w B v → c.Rd w B v := by
  intro c
  induction c with
  | sl wd n x ih =>
    intro v h
    rcases h with h | ⟨b, o, cap, h1, h2, h3, h4⟩
    · exact .inl h
    · exact .inr ⟨⟨b, o, none⟩, cap, h1, h2, h3, fun i hi => by obtain ⟨h5, u, h6, h7⟩ := h4 i hi; exact ⟨h5, u, by rw [add_none]; exact h6, ih i h7⟩⟩
  | _ => intro v h; exact h
theorem CD.RdN.le {w w' : World} {B : Nat} (hl : Fk.le w w') : ∀ {c : CD} {v : Value}, c.RdN w B v → c.RdN w' B v := by
  intro c
  induction c with
  | sl wd n x ih =>
    intro v h
    rcases h with h | ⟨b, o, cap, h1, h2, h3, h4⟩
    · exact .inl h
    · exact .inr ⟨b, o, cap, h1, h2, h3, fun i hi => by obtain ⟨h5, u, h6, h7⟩ := h4 i hi; exact ⟨h5, u, (Below.cell hl (cell_lt' h6)).trans h6, ih i h7⟩⟩
  | _ => intro v h; exact h
theorem CD.Lay.rdN {w : World} {B : Nat} : ∀ {c : CD} {S : Nat → Prop} {v : Value}, c.Lay w S v → (∀ j, S j → j < B) → c.RdN w B v := by
  intro c
  induction c with
  | sl wd n x ih =>
    intro S v h hS
    rcases h with h | ⟨b, o, cap, t, cs, h1, h2, h3, h4, h5, T, t1, t2, t3⟩
    · exact .inl h
    · refine .inr ⟨b, o, cap, h1, h2, h3, fun i hi => ?_⟩
      obtain ⟨u, hu, hl⟩ := t3 i hi
      exact ⟨hS b h4, u, (h5.cell? (o + i)).trans hu, ih i hl (fun j hj => hS j (t1 i j hj).1)⟩
  | _ => intro S v h _; exact h
theorem CD.RdN.form {w : World} {B wd n : Nat} {x : Nat → CD} {s : Value} (h : (CD.sl wd n x).RdN w B s) : (s = .slice none 0 0 ∧ n = 0) ∨ ∃ b o cap, s = .slice (some ⟨b, o, none⟩) n cap ∧ n ≤ cap ∧ cap ≤ maxLen := by
  rcases h with h | ⟨b, o, cap, h1, h2, h3, _⟩
  · exact .inl h
  · exact .inr ⟨b, o, cap, h1, h2, h3⟩
theorem CD.RdN.cell {w : World} {B wd n b o cap : Nat} {x : Nat → CD} (h : (CD.sl wd n x).RdN w B (.slice (some ⟨b, o, none⟩) n cap)) {i : Nat} (hi : i < n * wd) : ∃ u, w.cell? ⟨b, o + i, none⟩ = some u ∧ (x i).RdN w B u := by
  rcases h with ⟨h, _⟩ | ⟨b', o', cap', h1, _, _, h4⟩
  · cases h
  · simp only [Value.slice.injEq, Option.some.injEq, Addr.mk.injEq, and_true, true_and] at h1
    obtain ⟨⟨rfl, rfl⟩, rfl⟩ := h1
    obtain ⟨_, u, h5, h6⟩ := h4 i hi
    exact ⟨u, h5, h6⟩
def RdLN (w : World) (B : Nat) (cs : List CD) (vs : List Value) : Prop := vs.length = cs.length ∧ ∀ (i : Nat) (v : Value) (c : CD), vs[i]? = some v → cs[i]? = some c → c.RdN w B v
theorem RdLN.inv {w : World} {B : Nat} {c : CD} {cs : List CD} {vs : List Value} (h : RdLN w B (c :: cs) vs) : ∃ v vs', vs = v :: vs' ∧ c.RdN w B v ∧ RdLN w B cs vs' := by
  obtain ⟨h0, h1⟩ := h
  cases vs with
  | nil => simp at h0
  | cons v vs => exact ⟨v, vs, rfl, h1 0 v c rfl rfl, by simpa using h0, fun i v' c' hv hc => h1 (i + 1) v' c' (by simpa using hv) (by simpa using hc)⟩
theorem RdLN.inv0 {w : World} {B : Nat} {vs : List Value} (h : RdLN w B [] vs) : vs = [] := by
  have := h.1
  cases vs with
  | nil => rfl
  | cons => simp at this
theorem LayL.rdN {w : World} {B : Nat} {S : Nat → Prop} {cs : List CD} {vs : List Value} (h : LayL w S cs vs) (hS : ∀ j, S j → j < B) : RdLN w B cs vs := by
  obtain ⟨h0, T, t1, t2, t3⟩ := h
  exact ⟨h0, fun i v c hv hc => (t3 i v c hv hc).rdN (fun j hj => hS j (t1 i j hj))⟩
theorem RdLN.le {w w' : World} {B : Nat} {cs : List CD} {vs : List Value} (h : RdLN w B cs vs) (hl : Fk.le w w') : RdLN w' B cs vs := ⟨h.1, fun i v c hv hc => (h.2 i v c hv hc).le hl⟩
theorem RdLN.rd {w : World} {B : Nat} {cs : List CD} {vs : List Value} (h : RdLN w B cs vs) : RdL w B cs vs := ⟨h.1, fun i v c hv hc => (h.2 i v c hv hc).rd⟩
theorem Frg.layN {w0 w : World} {L : List Fact} (h : Frg w0 w L) {lo hi : Nat} {cs : List CD} {vs : List Value} (hm : layF lo hi cs vs ∈ L) : RdLN w hi cs vs := (h.lay hm).rdN (fun _ hj => hj.2)
/-- Do all hold? -/
def allB (p : Nat → Bool) (n : Nat) : Bool := (List.range n).all p
theorem allB_no {p : Nat → Bool} {n i : Nat} (hi : i < n) (h : p i = false) : allB p n = false := by
  rw [Bool.eq_false_iff]; intro hh
  have := List.all_eq_true.1 hh i (List.mem_range.2 hi)
  rw [h] at this; cases this
theorem allB_yes {p : Nat → Bool} {n : Nat} (h : ∀ i, i < n → p i = true) : allB p n = true := List.all_eq_true.2 (fun i hi => h i (List.mem_range.1 hi))
theorem allB_all {p : Nat → Bool} {n : Nat} (h : allB p n = true) : ∀ i, i < n → p i = true := fun i hi => List.all_eq_true.1 h i (List.mem_range.2 hi)
theorem allB_ex {p : Nat → Bool} {n : Nat} (h : allB p n = false) : ∃ i, i < n ∧ p i = false := by
  apply Classical.byContradiction
  intro hn
  have : allB p n = true := allB_yes (fun i hi => by
    cases hb : p i
    · exact absurd ⟨i, hi, hb⟩ hn
    · rfl)
  rw [h] at this; cases this
theorem finB_allB (f : Nat → Nat) (n : Nat) : finB f n = allB (fun i => fin (f i)) n := rfl
/-- The ring with an index in a list. -/
def rgN (x : Nat → CD) (k : Nat) : Nat := match x (k * 2) with | .sl _ n _ => n | _ => 0
def rgX (x : Nat → CD) (k : Nat) : Nat → Nat := match x (k * 2) with | .sl _ _ y => fun i => (y i).fx | _ => fun _ => 0
def rgK (x : Nat → CD) (k : Nat) : Int := match x (k * 2 + 1) with | .int _ z => z | _ => 0
def rgOk (x : Nat → CD) (k : Nat) : Bool := okRing (rgN x k) (rgK x k) && finB (rgX x k) (rgN x k)
/-- A list of rings. -/
def RgsOk (x : Nat → CD) (n : Nat) : Prop := ∀ k, k < n → (∃ y, x (k * 2) = .sl 1 (rgN x k) y ∧ (∀ i, i < rgN x k → (y i).flk = some .f32) ∧ rgX x k = fun i => (y i).fx) ∧ x (k * 2 + 1) = .int .i64 (rgK x k)
theorem rgs_ok {x : Nat → CD} {n : Nat} {e : Nat → Sh} (h : ∀ i, i < n → ∀ j, j < 2 → ShOk (e j) (x (i * 2 + j))) (h0 : ∃ f, e 0 = .sl 1 f ∧ f 0 = .flt .f32) (h1 : e 1 = .int .i64) : RgsOk x n := fun k hk => by
  obtain ⟨f, f0, f1⟩ := h0
  have a := h k hk 0 (by omega)
  have b := h k hk 1 (by omega)
  rw [f0] at a
  rw [h1] at b
  obtain ⟨m, y, e1, e2⟩ := a
  obtain ⟨z, e3⟩ := b
  have e1' : x (k * 2) = .sl 1 m y := by simpa using e1
  have n1 : rgN x k = m := by unfold rgN; rw [e1']
  refine ⟨⟨y, by rw [n1]; exact e1', ?_, by unfold rgX; rw [e1']⟩, ?_⟩
  · rw [n1]; exact ShOk.flts e2 f1
  · unfold rgK; rw [e3]
theorem RgsOk.rds {x : Nat → CD} {n k B : Nat} {w : World} {u : Value} (h : RgsOk x n) (hk : k < n) (hr : (x (k * 2)).Rd w B u) : RdS w B u (rgX x k) (rgN x k) := by
  obtain ⟨⟨y, e1, e2, e3⟩, _⟩ := h k hk
  rw [e1] at hr
  rw [e3]
  exact hr.rdf e2
theorem RgsOk.int {x : Nat → CD} {n k B : Nat} {w : World} {u : Value} (h : RgsOk x n) (hk : k < n) (hr : (x (k * 2 + 1)).Rd w B u) : u = .int .i64 (rgK x k) ∧ (Lit.int .i64 (rgK x k)).wf = true := by
  rw [(h k hk).2] at hr
  exact hr
/-- The rings of a list, where it lies. -/
theorem RgsOk.at {x : Nat → CD} {n k B b o cap : Nat} {w : World} (h : RgsOk x n) (hr : (CD.sl 2 n x).RdN w B (.slice (some ⟨b, o, none⟩) n cap)) (hk : k < n) : ∃ u, w.cell? ⟨b, o + k * 2, none⟩ = some u ∧ w.cell? ⟨b, o + k * 2 + 1, none⟩ = some (.int .i64 (rgK x k)) ∧ (Lit.int .i64 (rgK x k)).wf = true ∧ RdS w B u (rgX x k) (rgN x k) := by
  obtain ⟨u, h1, h2⟩ := hr.cell (i := k * 2) (by omega)
  obtain ⟨v, h3, h4⟩ := hr.cell (i := k * 2 + 1) (by omega)
  obtain ⟨rfl, h5⟩ := h.int hk h4.rd
  exact ⟨u, h1, by rw [Nat.add_assoc]; exact h3, h5, h.rds hk h2.rd⟩
end Go.Fk

/- Rings in the laws' helpers, over facts of memory. -/
namespace Go.Fk
open Go Go.RowKit
theorem RdS.uniq {w : World} {B B' : Nat} {s : Value} {x x' : Nat → Nat} {n n' : Nat} (h : RdS w B s x n) (h' : RdS w B' s x' n') : n = n' ∧ ∀ i, i < n → x i = x' i := by
  rcases h with ⟨rfl, rfl⟩ | ⟨a, cap, rfl, _, _, h3⟩ <;> rcases h' with ⟨e, rfl⟩ | ⟨a', cap', e, _, _, h3'⟩
  · exact ⟨rfl, fun i hi => absurd hi (by omega)⟩
  · cases e
  · cases e
  · simp only [Value.slice.injEq, Option.some.injEq] at e
    obtain ⟨rfl, e2, rfl⟩ := e
    have e3 : n = n' := by omega
    subst e3
    refine ⟨rfl, fun i hi => ?_⟩
    obtain ⟨_, y, e1, _, e2⟩ := h3 i hi
    obtain ⟨_, y', e1', _, e2'⟩ := h3' i hi
    rw [e1] at e1'
    simp only [Option.some.injEq, Value.float.injEq, true_and] at e1'
    rw [← e2, ← e2', e1']
/-- What a copy of a ring is, whatever is known of it. -/
def KRing (w0 : World) (args : Array Value) (w : World) (v : Value) : Prop := ∀ s k B x n, args = #[.agg #[s, .int .i64 k]] → RdS w0 B s x n → ∃ s' B', v = .agg #[s', .int .i64 k] ∧ RdS w B' s' x n
theorem KRing.le {w0 w w' : World} {args : Array Value} {v : Value} (h : KRing w0 args w v) (hl : Fk.le w w') : KRing w0 args w' v := fun s k B x n e hr => by
  obtain ⟨s', B', e1, e2⟩ := h s k B x n e hr
  exact ⟨s', B', e1, e2.le hl⟩
end Go.Fk
namespace Go.Proofs.YtjihkfemejhllaaDoor
open Go.RowKit Go.Fk
theorem szRingRM_no (B : Nat) (s : Value) (x : Nat → Nat) (n : Nat) (k m : Int) (w : World) (hs : RdS w B s x n) (h0 : 0 ≤ m) (h1 : m ≤ 1048576) (hm : m - (n : Int) < 0) :
    Calls Tryd.prog 21 #[.agg #[s, .int .i64 k], .int .i64 m] w fun e w' => e = .returned (.int .i64 (-1)) ∧ le w w' := by
  obtain ⟨y, hy, _⟩ := hs.slIn
  have HS := hid (hy.le (le_alloc w (.cells #[s, .int .i64 k] 24)))
  have HN := hid hs.small
  have HL := hid (le_alloc w (.cells #[s, .int .i64 k] 24))
  clear hs hy
  go_enter Tryd.func21, Tryd.ntmps21
  go_wp2_with (go_at_call 35; ((with_reducible refine (szS_no s y n m _ HS.out h0 h1 HN.out hm).mono ?_); rintro e w2 ⟨rfl, rfl⟩))
  go_ret
  exact ⟨rfl, HL.out⟩
theorem szRingRM_yes (B : Nat) (s : Value) (x : Nat → Nat) (n : Nat) (k m : Int) (w : World) (hs : RdS w B s x n) (h0 : 0 ≤ m) (h1 : m ≤ 1048576) (hm : 0 ≤ m - (n : Int)) :
    Calls Tryd.prog 21 #[.agg #[s, .int .i64 k], .int .i64 m] w fun e w' => e = .returned (.int .i64 (m - n)) ∧ le w w' := by
  obtain ⟨y, hy, _⟩ := hs.slIn
  have HS := hid (hy.le (le_alloc w (.cells #[s, .int .i64 k] 24)))
  have HN := hid hs.small
  have HL := hid (le_alloc w (.cells #[s, .int .i64 k] 24))
  have hm' : ¬ m - (n : Int) < 0 := by omega
  clear hs hy
  go_enter Tryd.func21, Tryd.ntmps21
  go_wp2_with (go_at_call 35; ((with_reducible refine (szS_yes s y n m _ HS.out h0 h1 HN.out hm).mono ?_); rintro e w2 ⟨rfl, rfl⟩))
  go_ret
  exact ⟨rfl, HL.out⟩
theorem szRingR_no (B : Nat) (s : Value) (x : Nat → Nat) (n : Nat) (k : Int) (w : World) (hs : RdS w B s x n) (hn : ¬ n ≤ 1048576) :
    Calls Tryd.prog 21 #[.agg #[s, .int .i64 k], .int .i64 1048576] w fun e w' => e = .returned (.int .i64 (-1)) ∧ le w w' := szRingRM_no B s x n k 1048576 w hs (by omega) (by omega) (by omega)
theorem szRingR_yes (B : Nat) (s : Value) (x : Nat → Nat) (n : Nat) (k : Int) (w : World) (hs : RdS w B s x n) (hn : n ≤ 1048576) :
    Calls Tryd.prog 21 #[.agg #[s, .int .i64 k], .int .i64 1048576] w fun e w' => e = .returned (.int .i64 (1048576 - n)) ∧ le w w' := szRingRM_yes B s x n k 1048576 w hs (by omega) (by omega) (by omega)
theorem toRingR (B : Nat) (s : Value) (x : Nat → Nat) (n : Nat) (k : Int) (w : World) (hs : RdS w B s x n) (hn : n ≤ 1048576) :
    Calls Tryd.prog 24 #[.agg #[s, .int .i64 k]] w fun e w' => ∃ s', e = .returned (.agg #[s', .int .i64 k]) ∧ OwnS w' w.heap.size w'.heap.size s' x n ∧ le w w' := by
  obtain ⟨y, hy, hc⟩ := hs.slIn
  have hf : ∀ i, i < n → fits .f32 (y i) := by
    rcases hy with ⟨_, rfl⟩ | ⟨a, cap, _, _, _, h4⟩
    · intro i hi; omega
    · intro i hi; exact (h4 i hi).2
  refine (toRing_any s y n k w hy hn).mono ?_
  rintro e w' ⟨b, rfl, hb, hr, hl⟩
  exact ⟨_, rfl, .inr ⟨b, 0, n, _, rfl, Nat.le_refl _, by unfold maxLen; omega, hb, hr.lt, hr, fun i hi => ⟨y i, by rw [Nat.zero_add]; exact get_ftab _ _ _ _ hi, hf i hi, hc i hi⟩⟩, hl⟩
theorem toRingK (w0 : World) (B : Nat) (s : Value) (x : Nat → Nat) (n : Nat) (k : Int) (w : World) (hl : le w0 w) (hs : RdS w0 B s x n) (hn : n ≤ 1048576) :
    Calls Tryd.prog 24 #[.agg #[s, .int .i64 k]] w fun e w' => ∃ v, e = .returned v ∧ le w w' ∧ KRing w0 #[.agg #[s, .int .i64 k]] w' v := by
  refine (toRingR B s x n k w (hs.le hl) hn).mono ?_
  rintro e w' ⟨s', rfl, ho, hl'⟩
  refine ⟨_, rfl, hl', fun s2 k2 B2 x2 n2 e2 hr => ?_⟩
  simp only [Array.mk.injEq, List.cons.injEq, Value.agg.injEq, Value.int.injEq, true_and, and_true] at e2
  obtain ⟨rfl, rfl⟩ := e2
  obtain ⟨rfl, hx⟩ := hs.uniq hr
  exact ⟨s', _, rfl, ho.rd.congr hx⟩
theorem eqRingR (B B' : Nat) (s s' : Value) (x : Nat → Nat) (n : Nat) (k : Int) (w : World) (hn : n ≤ 1048576) (hs : RdS w B s x n) (hs' : RdS w B' s' x n) :
    Calls Tryd.prog 28 #[.agg #[s, .int .i64 k], .agg #[s', .int .i64 k]] w fun e w' => e = .returned (.bool true) ∧ le w w' := by
  have HS := hid hs; have HS' := hid hs'; clear hs hs'
  have F := ((Frg.nil w).box 34 #[s, .int .i64 k]).box 34 #[s', .int .i64 k]
  have HL := hid F.below
  clear F
  go_enter Tryd.func28, Tryd.ntmps28
  go_wp2_with (go_at_call 48; ((with_reducible refine (eqR B B' s s' x n _ hn (HS.out.le HL.out) (HS'.out.le HL.out)).mono ?_); rintro e w2 ⟨rfl, m, rfl⟩))
  go_ret
  exact ⟨rfl, le_trans HL.out (le_drewN _ _)⟩
end Go.Proofs.YtjihkfemejhllaaDoor

/- What append leaves, as a fact of memory. Nothing here names a program. -/
namespace Go.Fk
open Go Go.RowKit
def flist (y : Nat → Nat) (n : Nat) : List Value := (List.range n).map (fun j => .float .f32 (y j))
theorem flist_length (y : Nat → Nat) (n : Nat) : (flist y n).length = n := by simp [flist]
theorem flist_get {y : Nat → Nat} {n j : Nat} {u : Value} (h : (flist y n)[j]? = some u) : j < n ∧ u = .float .f32 (y j) := by
  obtain ⟨hj, e⟩ := List.getElem?_eq_some_iff.1 h
  rw [flist_length] at hj
  refine ⟨hj, ?_⟩
  rw [← e]; simp [flist]
theorem flist_get' (y : Nat → Nat) {n j : Nat} (h : j < n) : (flist y n)[j]? = some (.float .f32 (y j)) := by simp [flist, h]
theorem flist_one (y : Nat → Nat) (n : Nat) : ∀ u ∈ flist y n, u.oneCell' = true := by
  intro u hu
  simp only [flist, List.mem_map] at hu
  obtain ⟨j, _, rfl⟩ := hu; rfl
theorem flist_app (y z : Nat → Nat) (n m : Nat) : flist y n ++ flist z m = flist (fun j => if j < n then y j else z (j - n)) (n + m) := by
  apply List.ext_getElem?
  intro j
  by_cases h : j < n
  · rw [List.getElem?_append_left (by rw [flist_length]; exact h), flist_get' _ h, flist_get' _ (by omega), if_pos h]
  · rw [List.getElem?_append_right (by rw [flist_length]; omega), flist_length]
    by_cases h2 : j < n + m
    · rw [flist_get' _ (by omega), flist_get' _ h2, if_neg h]
    · rw [List.getElem?_eq_none (by rw [flist_length]; omega), List.getElem?_eq_none (by rw [flist_length]; omega)]
theorem own_of_row {w : World} {base : Nat} {v : Value} {n : Nat} {y x : Nat → Nat} (h : w.ownsRow base 25 1 v n (flist y n)) (hf : ∀ j, j < n → fits .f32 (y j) ∧ can .f32 (y j) = x j) : OwnS w base w.heap.size v x n := by
  obtain ⟨_, h⟩ := h
  rcases h with h | ⟨g, cap, cur, rfl, hb, hg, h1, h2, h3, h4⟩
  · exact .inl h
  · refine .inr ⟨g, 0, cap, cur, rfl, h1, h2, hb, (Array.getElem?_eq_some_iff.1 hg).1, hg, fun i hi => ⟨y i, ?_, hf i hi⟩⟩
    have h5 : (cur.toList.take (n * 1))[i]? = some (.float .f32 (y i)) := by rw [h4]; exact flist_get' y hi
    rw [Nat.mul_one, List.getElem?_take_of_lt hi] at h5
    rw [Nat.zero_add]; simpa using h5
theorem OwnS.get {w : World} {lo hi q0 n cap : Nat} {x : Nat → Nat} (h : OwnS w lo hi (.slice (some ⟨q0, 0, none⟩) n cap) x n) {i : Nat} (hi' : i < n) : ∃ y, w.cell? ⟨q0, i, none⟩ = some (.float .f32 y) ∧ fits .f32 y ∧ can .f32 y = x i := by
  rcases h with ⟨h, _⟩ | ⟨b, o, cap', cs, h1, h2, h3, h4, h5, h6, h7⟩
  · cases h
  · simp only [Value.slice.injEq, Option.some.injEq, Addr.mk.injEq, and_true] at h1
    obtain ⟨⟨rfl, rfl⟩, _⟩ := h1
    obtain ⟨y, e1, e2⟩ := h7 i hi'
    exact ⟨y, by rw [Nat.zero_add] at e1; exact (h6.cell? i).trans e1, e2⟩
/-- What append has left, in one block of its own. -/
theorem own_tight {w : World} {base : Nat} {v : Value} {n : Nat} {y x : Nat → Nat} (h : w.ownsRow base 25 1 v n (flist y n)) (h1n : 1 ≤ n) (hf : ∀ j, j < n → fits .f32 (y j) ∧ can .f32 (y j) = x j) :
    ∃ q cap cs, v = .slice (some ⟨q, 0, none⟩) n cap ∧ base ≤ q ∧ Row w q 25 cs ∧ OwnS w q (q + 1) v x n := by
  obtain ⟨_, h⟩ := h
  rcases h with ⟨_, h0⟩ | ⟨g, cap, cur, rfl, hb, hg, h1, h2, h3, h4⟩
  · omega
  · refine ⟨g, cap, cur, rfl, hb, hg, .inr ⟨g, 0, cap, cur, rfl, h1, h2, Nat.le_refl _, Nat.lt_succ_self _, hg, fun i hi => ⟨y i, ?_, hf i hi⟩⟩⟩
    have h5 : (cur.toList.take (n * 1))[i]? = some (.float .f32 (y i)) := by rw [h4]; exact flist_get' y hi
    rw [Nat.mul_one, List.getElem?_take_of_lt hi] at h5
    rw [Nat.zero_add]; simpa using h5
theorem le_of_grown {w w' : World} (h : w.grownBy w' none) : le w w' := ⟨h.os, h.tape, h.output, h.size, fun k hk => h.block k hk (by simp)⟩
/-- The raw words of a slice that can be read. -/
theorem RdS.raw {w : World} {B : Nat} {v : Value} {x : Nat → Nat} {n : Nat} (h : RdS w B v x n) (hn : 1 ≤ n) : ∃ (a : Addr) (cap : Nat) (y : Nat → Nat), v = .slice (some a) n cap ∧ n ≤ cap ∧ cap ≤ maxLen ∧ ∀ i, i < n → w.cell? (a.add i) = some (.float .f32 (y i)) ∧ fits .f32 (y i) ∧ can .f32 (y i) = x i := by
  rcases h with ⟨_, rfl⟩ | ⟨a, cap, rfl, h2, h3, h4⟩
  · omega
  · have : ∀ i, ∃ y, i < n → w.cell? (a.add i) = some (.float .f32 y) ∧ fits .f32 y ∧ can .f32 y = x i := fun i => by
      by_cases hi : i < n
      · obtain ⟨_, y, e⟩ := h4 i hi; exact ⟨y, fun _ => e⟩
      · exact ⟨0, fun h => absurd h hi⟩
    obtain ⟨y, hy⟩ := Classical.skolem.1 this
    exact ⟨a, cap, y, rfl, h2, h3, hy⟩
/-- The result's block g, of n cells, is written once; new blocks are made. -/
def outX (g : Nat) (t : TypeId) (n : Nat) (Fin : World → Array Value → Prop) (hm : ∀ w w' cs, le w w' → Fin w cs → Fin w' cs) : Ext where
  R w w' := Chg (· = g) w w' ∧ ((∃ cs, Row w g t cs ∧ cs.size = n) → ∃ cs, Row w' g t cs ∧ cs.size = n) ∧ ((∃ cs, Row w g t cs ∧ Fin w cs) → ∃ cs, Row w' g t cs ∧ Fin w' cs)
  refl w := ⟨Chg.refl _ _, id, id⟩
  trans := fun ⟨h1, h2, h3⟩ ⟨k1, k2, k3⟩ => ⟨h1.trans k1, fun h => k2 (h2 h), fun h => k3 (h3 h)⟩
  of_le := fun h => ⟨Chg.of_le h, fun ⟨cs, hr, hs⟩ => ⟨cs, hr.le h, hs⟩, fun ⟨cs, hr, hf⟩ => ⟨cs, hr.le h, hm _ _ _ h hf⟩⟩
theorem OwnS.chgS {w w' : World} {lo hi : Nat} {s : Value} {x : Nat → Nat} {n : Nat} {S : Nat → Prop} (h : OwnS w lo hi s x n) (k : Chg S w w') (hS : ∀ i, lo ≤ i → i < hi → ¬ S i) : OwnS w' lo hi s x n := by
  rcases h with h | ⟨b, o, cap, cs, h1, h2, h3, h4, h5, h6, h7⟩
  · exact .inl h
  · exact .inr ⟨b, o, cap, cs, h1, h2, h3, h4, h5, k.row h6 (hS b h4 h5), h7⟩
section
variable {P : Program} {ops : Array Oper} {W : World} {K : FuncId → Array Value → World → Value → Prop} {Q : Act → World → Prop} {F : Facts} {k : Nat} {o : Oper} {rest : List Oper} {a : Act}
variable {g : Nat} {t : TypeId} {m : Nat} {Fin : World → Array Value → Prop} {hm : ∀ w w' cs, le w w' → Fin w cs → Fin w' cs}
/-- A value of one cell is loaded, of a block that is not the result's. -/
theorem wpFreeD_cell (hg : o.guard = none) {ty : TypeId} {x : Operand} (hop : o.op = .load ty x) {ad : Addr} (hx : a.eval x = .pointer (some ad)) {v : Value} (hv : W.cell? ad = some v) (hne : ad.block ≠ g) (hu : ∀ w, (isAgg ty).run P w = .ok false w)
    (h : wpFreeD (outX g t m Fin hm) P ops .any W K Q rest (k + 1) (a.put o.dst v) (F.with k (fun _ => True))) : wpFreeD (outX g t m Fin hm) P ops .any W K Q (o :: rest) k a F := by
  refine wpFreeD_one hg v (fun w hw => ?_) h
  have hlt : ad.block < W.heap.size := World.block_lt_of_cell? W _ hv
  have hc : w.cell? ad = some v := (cell_of_heap (hw.1.block _ hlt hne)).trans hv
  have hl : (Instr.loadAt ty (.pointer (some ad))).run P w = .ok v w := by
    simp [Instr.loadAt, Instr.sureAddr, loadVar, hu, hc]
  simp [execOp, hop, hx, hl, Result.andThen]
/-- Append to a slice of no capacity: new memory is taken. -/
theorem wpFreeD_append {s x : Operand} (hg : o.guard = none) {t' : TypeId} (hop : o.op = Op.call { callee := Callee.builtin Builtin.append, args := #[s, x], argTypes := #[t', t'] }) {e : TypeId} (h1 : P.underlying t' = some (.slice e)) {i : TypeInfo} (h2 : P.info? e = some i) (h3 : i.zero = some (.float .f32 0)) (h4 : i.size = 1) (h5 : i.bytes = 4)
    {ao : Option Addr} (hs : a.eval s = .slice ao 0 0) {ad : Addr} {n c : Nat} {y : Nat → Nat} (hx : a.eval x = .slice (some ad) n c) (hn : 1 ≤ n) (hn2 : n ≤ 1048576) (hc : ∀ j, j < n → W.cell? (ad.add j) = some (.float .f32 (y j))) (hne : ad.block ≠ g)
    (h : ∀ q c', wpFreeD (outX g t m Fin hm) P ops .any W K Q rest (k + 1) (a.put o.dst (.slice (some ⟨q, 0, none⟩) n c')) (F.with k (fun w => ∃ B, W.heap.size ≤ B ∧ w.ownsRow B e 1 (.slice (some ⟨q, 0, none⟩) n c') n (flist y n) ∧ g < B))) (hgW : g < W.heap.size) : wpFreeD (outX g t m Fin hm) P ops .any W K Q (o :: rest) k a F := by
  refine ⟨fun w v => ∃ B, W.heap.size ≤ B ∧ w.ownsRow B e 1 v n (flist y n) ∧ g < B, ⟨fun v w w' hw hv => ?_, .inl ⟨by simp [Region.wanted, hg], fun w hw _ => ?_⟩⟩, fun v hv => ?_⟩
  rotate_left 2
  · obtain ⟨w, _, _, B, _, ho, _⟩ := hv
    rcases ho.2 with ⟨_, h0⟩ | ⟨q, c', cur, rfl, _⟩
    · omega
    · exact h q c'
  · obtain ⟨B, hB, ⟨ho1, ho⟩, hgB⟩ := hv
    refine ⟨B, hB, ⟨ho1, ?_⟩, hgB⟩
    rcases ho with ho | ⟨q, cap, cur, e1, e2, e3, e4⟩
    · exact .inl ho
    · exact .inr ⟨q, cap, cur, e1, e2, by have := hw.1.row (g := q) (t := e) (cs := cur) e3 (by omega); exact this, e4⟩
  · have hcw : ∀ j u, (flist y n)[j]? = some u → w.cell? (ad.add j) = some u := by
      intro j u hu
      obtain ⟨hj, rfl⟩ := flist_get hu
      have := hc j hj
      have hlt : (ad.add j).block < W.heap.size := World.block_lt_of_cell? W _ this
      exact (cell_of_heap (hw.1.block _ hlt (by rw [add_block]; exact hne))).trans this
    have hsz := hw.1.size
    cases ao with
    | none =>
      obtain ⟨v', w', hrun, hown, hgr, _⟩ := run_append_own (P := P) (w := w) w.heap.size t' o.type e i (.float .f32 0) 1 4 h1 h2 h3 h4 h5 rfl (by omega) (.slice none 0 0) 0 [] (World.ownsRow_nil w _ e 1) ad n c (flist y n) (by rw [flist_length]; omega) hcw (flist_one y n) (by unfold maxLen; omega) (by omega) (Nat.le_refl _)
      simp only [Nat.zero_add, List.nil_append] at hown
      simp [execOp, hop, resolve, invoke, builtin, hs, hx, hrun, Result.andThen, insideT]
      exact ⟨(outX g t m Fin hm).of_le (le_of_grown hgr), w.heap.size, hsz, hown, by omega⟩
    | some b =>
      obtain ⟨v', w', hrun, hown, hgr⟩ := run_append_arg_grows (P := P) w t' o.type e i (.float .f32 0) 1 4 h1 h2 h3 h4 h5 rfl (by omega) b 0 0 [] rfl (fun j u hu => by simp at hu) ad n c (flist y n) (by rw [flist_length]; omega) hcw (by omega) (by unfold maxLen; omega) (by omega)
      simp only [Nat.zero_add, List.nil_append] at hown
      simp [execOp, hop, resolve, invoke, builtin, hs, hx, hrun, Result.andThen, insideT]
      exact ⟨(outX g t m Fin hm).of_le (le_of_grown hgr), w.heap.size, hsz, hown, by omega⟩
/-- The result is stored. -/
theorem wpFreeD_out (hg : o.guard = none) {ty : TypeId} {x y : Operand} (hop : o.op = .store ty x y) (hx : a.eval x = .pointer (some ⟨g, 0, none⟩)) {cells : Array Value} (hy : a.eval y = .agg cells) (hty : ty = t) {old : Array Value} (hW : Row W g t old) (ho : old.size = m)
    (hF : ∀ w w', (outX g t m Fin hm).R W w → behind .any o F w → Chg (· = g) w w' → Fin w' cells) (hi : (P.info? ty).map (·.size) = some m) (hs : cells.size = m) (h1 : cells.all (·.oneCell') = true)
    (h : wpFreeD (outX g t m Fin hm) P ops .any W K Q rest (k + 1) (a.put o.dst undef) (F.with k (fun w => ∃ cs, Row w g t cs ∧ Fin w cs))) : wpFreeD (outX g t m Fin hm) P ops .any W K Q (o :: rest) k a F := by
  subst hty
  refine ⟨fun w v => v = undef ∧ ∃ cs, Row w g ty cs ∧ Fin w cs, ⟨fun v w w' hw hv => ⟨hv.1, hw.2.2 hv.2⟩, .inl ⟨by simp [Region.wanted, hg], fun w hw hbe => ?_⟩⟩, fun v hv => ?_⟩
  · obtain ⟨cs, hc, hcs⟩ := hw.2.1 ⟨old, hW, ho⟩
    have hrun := run_storeVar_row (P := P) w g ty ty cs cells hc (hs ▸ hi) (hcs.trans hs.symm) h1
    have : (execOp a.eval o).run P w = .ok .skip (w.setRow g cells) := by
      unfold execOp
      simp only [hop, hx, hy, Instr.storeAt, Instr.sureAddr, Sem.run_bind, Sem.run_pure, Result.andThen_ok, hrun]
    rw [this]
    have hrow : Row (w.setRow g cells) g ty cells := hc.setRow _
    have hch : Chg (· = g) w (w.setRow g cells) := (Chg.refl _ w).wrote (wrote_setRow hc) rfl
    have hfin := hF w _ hw hbe hch
    exact ⟨⟨hch, fun _ => ⟨cells, hrow, hs⟩, fun _ => ⟨cells, hrow, hfin⟩⟩, rfl, cells, hrow, hfin⟩
  · obtain ⟨w, _, _, rfl, _⟩ := hv
    exact wpFreeD_weaken _ _ _ _ _ (fun e w h => ⟨h.1, fun he => (h.2 he).2⟩) h
end
section
variable {E : Ext} {P : Program} {ops : Array Oper} {W : World} {K : FuncId → Array Value → World → Value → Prop} {Q : Act → World → Prop} {F : Facts} {k : Nat} {o : Oper} {rest : List Oper} {a : Act}
/-- A quiet operation: one value, in the very world. -/
theorem wpFreeD_quiet (hnc : simple o.op = true) (h : wpQuiet P ops (fun _ => True) (fun a' => wpFreeD E P ops .any W K Q rest (k + 1) a' (F.with k (fun _ => True))) [o] a) : wpFreeD E P ops .any W K Q (o :: rest) k a F := by
  simp only [wpQuiet] at h
  by_cases hw : Region.wanted o (yielded ops a.tmps) = true
  · rw [if_pos hw] at h
    obtain ⟨v, h1, h2⟩ := h
    refine ⟨fun _ u => u = v, ⟨fun _ _ _ _ h => h, .inl ⟨hw, fun w hw' _ => ?_⟩⟩, fun u hu => ?_⟩
    · have h3 := h1 w trivial
      unfold Oper.quietAt at h3
      generalize hrun : (execOp a.eval o).run P w = r at h3
      cases r with
      | ok n w' =>
        cases n <;> simp only [Oper.quietUpon] at h3 <;> simp only [insideT]
        case value u => exact ⟨by rw [h3.1]; exact E.refl w, h3.2⟩
        case skip => exact ⟨by rw [h3.1]; exact E.refl w, h3.2.symm⟩
        case enter f args => exact (noEnter hnc hrun).elim
      | halt x w' => simp only [Oper.quietUpon] at h3
    · obtain ⟨w, _, _, rfl⟩ := hu
      exact wpFreeD_weaken _ _ _ _ _ (fun e w h => ⟨h.1, fun _ => trivial⟩) h2
  · rw [if_neg hw] at h
    refine ⟨fun _ u => u = undef, ⟨fun _ _ _ _ h => h, .inr ⟨by simpa using hw, fun _ _ _ => rfl⟩⟩, fun u hu => ?_⟩
    obtain ⟨w, _, _, rfl⟩ := hu
    exact wpFreeD_weaken _ _ _ _ _ (fun e w h => ⟨h.1, fun _ => trivial⟩) h
/-- An operation of one value; what is known of those that it comes behind is carried on. -/
theorem wpFreeD_carry (hg : o.guard = none) (v : Value) (hr : ∀ w, E.R W w → (execOp a.eval o).run P w = .ok (.value v) w) (V : World → Prop) (hm : ∀ w w', E.R w w' → V w → V w') (hb : ∀ w, E.R W w → behind .any o F w → V w)
    (h : wpFreeD E P ops .any W K Q rest (k + 1) (a.put o.dst v) (F.with k V)) : wpFreeD E P ops .any W K Q (o :: rest) k a F := by
  refine ⟨fun w u => u = v ∧ V w, ⟨fun _ w w' hw h => ⟨h.1, hm w w' hw h.2⟩, .inl ⟨by simp [Region.wanted, hg], fun w hw hbe => ?_⟩⟩, fun u hu => ?_⟩
  · rw [hr w hw]; exact ⟨E.refl w, rfl, hb w hw hbe⟩
  · obtain ⟨w, _, _, rfl, _⟩ := hu
    exact wpFreeD_weaken _ _ _ _ _ (fun e w h => ⟨h.1, fun he => (h.2 he).2⟩) h
/-- An operation that makes one new block. -/
theorem wpFreeD_new (hg : o.guard = none) (f : Nat → Value) (ob : Obj) (hr : ∀ w, (execOp a.eval o).run P w = .ok (.value (f w.heap.size)) (w.alloc ob))
    (h : ∀ b, wpFreeD E P ops .any W K Q rest (k + 1) (a.put o.dst (f b)) (F.with k (fun _ => True))) : wpFreeD E P ops .any W K Q (o :: rest) k a F := by
  refine ⟨fun _ u => ∃ b, u = f b, ⟨fun _ _ _ _ h => h, .inl ⟨by simp [Region.wanted, hg], fun w hw _ => ?_⟩⟩, fun u hu => ?_⟩
  · rw [hr w]; exact ⟨E.of_le (le_alloc w ob), _, rfl⟩
  · obtain ⟨w, _, _, b, rfl⟩ := hu
    exact wpFreeD_weaken _ _ _ _ _ (fun e w h => ⟨h.1, fun _ => trivial⟩) (h b)
end
theorem run_empty {P : Program} (w : World) (t e : TypeId) (ie : TypeInfo) (hu : P.underlying t = some (.slice e)) (hie : P.info? e = some ie) : (Instr.buildSlice t 0 #[]).run P w = .ok (.slice (some ⟨w.heap.size, 0, none⟩) 0 0) (w.alloc (.cells #[] e)) := by
  have h : Instr.fill (fun i => some (i * ie.size, ie.size)) (Array.map (fun _ => (default : Value)) (Array.range 0)) [] = some #[] := by simp [Instr.fill]
  simp [Instr.buildSlice, run_underlying hu, sizeOf, typeInfo, hie, newRow, h]
theorem ownsRow_le {w w' : World} {B : Nat} {e : TypeId} {z : Nat} {v : Value} {n : Nat} {xs : List Value} (h : w.ownsRow B e z v n xs) (hl : le w w') : w'.ownsRow B e z v n xs := by
  obtain ⟨h1, h2⟩ := h
  refine ⟨h1, ?_⟩
  rcases h2 with h2 | ⟨q, cap, cur, e1, e2, e3, e4⟩
  · exact .inl h2
  · exact .inr ⟨q, cap, cur, e1, e2, by have := Row.le (g := q) (t := e) (cs := cur) e3 hl; exact this, e4⟩
/-- What a copy's result is. -/
def FinR (B : Nat) (e : TypeId) (n : Nat) (y : Nat → Nat) (k : Int) (w : World) (cs : Array Value) : Prop := ∃ s, cs = #[s, .int .i64 k] ∧ ∃ B', B ≤ B' ∧ w.ownsRow B' e 1 s n (flist y n)
theorem FinR_le (B : Nat) (e : TypeId) (n : Nat) (y : Nat → Nat) (k : Int) : ∀ w w' cs, le w w' → FinR B e n y k w cs → FinR B e n y k w' cs := fun _ _ _ hl ⟨s, h, B', hB, h2⟩ => ⟨s, h, B', hB, ownsRow_le h2 hl⟩
theorem ownsRow_out {g : Nat} {t : TypeId} {m : Nat} {Fin : World → Array Value → Prop} {hm : ∀ w w' cs, le w w' → Fin w cs → Fin w' cs} {w w' : World} {e : TypeId} {n B : Nat} {xs : List Value} {v : Value} (hw : (outX g t m Fin hm).R w w') (h : w.ownsRow B e 1 v n xs) (hg : g < B) : w'.ownsRow B e 1 v n xs := by
  obtain ⟨h1, h2⟩ := h
  refine ⟨h1, ?_⟩
  rcases h2 with h2 | ⟨q, cap, cur, e1, e2, e3, e4⟩
  · exact .inl h2
  · exact .inr ⟨q, cap, cur, e1, e2, by have := hw.1.row (g := q) (t := e) (cs := cur) e3 (by omega); exact this, e4⟩
theorem ownsRow_ch {g : Nat} {w w' : World} {e : TypeId} {n B : Nat} {xs : List Value} {v : Value} (hw : Chg (· = g) w w') (h : w.ownsRow B e 1 v n xs) (hg : g < B) : w'.ownsRow B e 1 v n xs := by
  obtain ⟨h1, h2⟩ := h
  refine ⟨h1, ?_⟩
  rcases h2 with h2 | ⟨q, cap, cur, e1, e2, e3, e4⟩
  · exact .inl h2
  · exact .inr ⟨q, cap, cur, e1, e2, by have := hw.row (g := q) (t := e) (cs := cur) e3 (by omega); exact this, e4⟩
theorem ownsRow_one {w : World} {B : Nat} {e : TypeId} {z : Nat} {v : Value} {n : Nat} {xs : List Value} (h : w.ownsRow B e z v n xs) : v.oneCell' = true := by
  rcases h.2 with ⟨rfl, _⟩ | ⟨q, cap, cur, rfl, _⟩ <;> rfl
namespace Frg
variable {w0 w w' : World}
/-- The two newest facts' blocks are written. -/
theorem chg2 {e1 e2 e1' e2' : Fact} {l : List Fact} (h : Frg w0 w (e1 :: e2 :: l)) (k : Chg (fun i => rng e1.lo e1.hi i ∨ rng e2.lo e2.hi i) w w') (p1 : e1'.p w') (p2 : e2'.p w') (l1 : e1'.lo = e1.lo) (h1 : e1'.hi = e1.hi) (l2 : e2'.lo = e2.lo) (h2 : e2'.hi = e2.hi) : Frg w0 w' (e1' :: e2' :: l) := by
  have f1 := h.facts e1 (by simp)
  have f2 := h.facts e2 (by simp)
  have a1 := List.pairwise_cons.1 h.apart
  have a2 := List.pairwise_cons.1 a1.2
  have b12 := a1.1 e2 (by simp)
  refine ⟨h.below.trans (k.below (fun i hi => by rcases hi with hi | hi; exact Nat.le_trans f1.1 hi.1; exact Nat.le_trans f2.1 hi.1) h.size), fun x hx => ?_, ?_⟩
  · rcases List.mem_cons.1 hx with rfl | hx
    · exact ⟨by omega, by have := k.size; omega, p1⟩
    rcases List.mem_cons.1 hx with rfl | hx
    · exact ⟨by omega, by have := k.size; omega, p2⟩
    · have hx' := h.facts x (by simp [hx])
      have ha := a2.1 x hx
      have ha1 := a1.1 x (by simp [hx])
      exact ⟨hx'.1, Nat.le_trans hx'.2.1 k.size, x.ok w w' hx'.2.2 (fun i a b => k.block i (by omega) (fun c => by rcases c with c | c <;> (have := c.1; omega)))⟩
  · refine List.pairwise_cons.2 ⟨fun x hx => ?_, List.pairwise_cons.2 ⟨fun x hx => by have := a2.1 x hx; omega, a2.2⟩⟩
    rcases List.mem_cons.1 hx with rfl | hx
    · omega
    · have := a1.1 x (by simp [hx]); omega
/-- A ring's struct and its samples, behind a push. -/
theorem pushed {g lo hi n : Nat} {t : TypeId} {cs cs' : Array Value} {s : Value} {x x' : Nat → Nat} {l : List Fact} (h : Frg w0 w (rowF g t cs :: ownF lo hi s x n :: l)) (hr : Row w' g t cs') (ho : OwnS w' lo hi s x' n) (k : Chg (fun i => i = g ∨ lo ≤ i ∧ i < hi) w w') : Frg w0 w' (rowF g t cs' :: ownF lo hi s x' n :: l) := by
  refine h.chg2 (k.mono (fun i hi' => ?_)) hr ho rfl rfl rfl rfl
  rcases hi' with rfl | hi'
  · exact .inl ⟨Nat.le_refl _, Nat.lt_succ_self _⟩
  · exact .inr hi'
theorem not_in {g lo hi n : Nat} {t : TypeId} {cs : Array Value} {s : Value} {x : Nat → Nat} {l : List Fact} (h : Frg w0 w (rowF g t cs :: ownF lo hi s x n :: l)) : ¬ (lo ≤ g ∧ g < hi) := by
  have a1 : hi ≤ g := (List.pairwise_cons.1 h.apart).1 (ownF lo hi s x n) (by simp)
  omega
/-- The result is stored: what it has is the call's own. -/
theorem fin1 {g lo hi n : Nat} {t : TypeId} {cs cs' : Array Value} {s : Value} {x : Nat → Nat} {e : Fact} {l : List Fact} (h : Frg w0 w (e :: ownF lo hi s x n :: rowF g t cs :: l)) (k : Wrote w w' g t cs') : OwnS w' w0.heap.size w'.heap.size s x n ∧ Fk.le w0 w' := by
  have a1 := (List.pairwise_cons.1 h.apart).2
  have a2 : g + 1 ≤ lo := (List.pairwise_cons.1 a1).1 (rowF g t cs) (by simp)
  have f1 := h.facts (ownF lo hi s x n) (by simp)
  have f2 := h.facts (rowF g t cs) (by simp)
  have hc : Chg (· = g) w w' := (Chg.refl _ w).wrote k rfl
  refine ⟨((OwnS.chgS f1.2.2 hc (fun i h1 h2 h3 => by have h1' : lo ≤ i := h1; have h3' : i = g := h3; omega)).mono f1.1 (Nat.le_trans f1.2.1 hc.size)), h.below.trans (hc.below (fun i hi => by have hi' : i = g := hi; subst hi'; exact f2.1) h.size)⟩
theorem fin0 {g lo hi n : Nat} {t : TypeId} {cs cs' : Array Value} {s : Value} {x : Nat → Nat} {l : List Fact} (h : Frg w0 w (ownF lo hi s x n :: rowF g t cs :: l)) (k : Wrote w w' g t cs') : OwnS w' w0.heap.size w'.heap.size s x n ∧ Fk.le w0 w' := by
  have a2 : g + 1 ≤ lo := (List.pairwise_cons.1 h.apart).1 (rowF g t cs) (by simp)
  have f1 := h.facts (ownF lo hi s x n) (by simp)
  have f2 := h.facts (rowF g t cs) (by simp)
  have hc : Chg (· = g) w w' := (Chg.refl _ w).wrote k rfl
  refine ⟨((OwnS.chgS f1.2.2 hc (fun i h1 h2 h3 => by have h1' : lo ≤ i := h1; have h3' : i = g := h3; omega)).mono f1.1 (Nat.le_trans f1.2.1 hc.size)), h.below.trans (hc.below (fun i hi => by have hi' : i = g := hi; subst hi'; exact f2.1) h.size)⟩
theorem fin2 {g lo hi n : Nat} {t : TypeId} {cs cs' : Array Value} {s : Value} {x : Nat → Nat} {e : Fact} {l : List Fact} (h : Frg w0 w (ownF lo hi s x n :: e :: rowF g t cs :: l)) (k : Wrote w w' g t cs') : OwnS w' w0.heap.size w'.heap.size s x n ∧ Fk.le w0 w' := by
  have a2 : g + 1 ≤ lo := (List.pairwise_cons.1 h.apart).1 (rowF g t cs) (by simp)
  have f1 := h.facts (ownF lo hi s x n) (by simp)
  have f2 := h.facts (rowF g t cs) (by simp)
  have hc : Chg (· = g) w w' := (Chg.refl _ w).wrote k rfl
  refine ⟨((OwnS.chgS f1.2.2 hc (fun i h1 h2 h3 => by have h1' : lo ≤ i := h1; have h3' : i = g := h3; omega)).mono f1.1 (Nat.le_trans f1.2.1 hc.size)), h.below.trans (hc.below (fun i hi => by have hi' : i = g := hi; subst hi'; exact f2.1) h.size)⟩
end Frg
end Go.Fk

/- Which filters are valid: the plain function, the model's contract and the program's. -/
namespace Go.Fk
open Go Go.RowKit
/-- How many numbers and states a kind uses. -/
def cU (k : Int) : Nat := if k = 1 ∨ k = 2 then 2 else if k = 3 ∨ k = 5 then 1 else 3
def sU (k : Int) : Nat := if k = 1 ∨ k = 2 then 1 else 2
/-- Is a filter valid? -/
def okF (k : Int) (a b c x y : Nat) : Bool := (decide (1 ≤ k) && decide (k ≤ 5)) && (usedB (tri a b c) 3 (cU k) && usedB (duo x y) 2 (sU k))
theorem okF_kind {k : Int} {a b c x y : Nat} (h : okF k a b c x y = true) : 1 ≤ k ∧ k ≤ 5 := by
  simp only [okF, Bool.and_eq_true, decide_eq_true_eq] at h; exact h.1
theorem okF_out {k : Int} {a b c x y : Nat} (h : ¬ (1 ≤ k ∧ k ≤ 5)) : okF k a b c x y = false := by
  cases e : okF k a b c x y
  · rfl
  · exact absurd (okF_kind e) h
theorem cU_le (k : Int) : cU k ≤ 3 := by unfold cU; split; omega; split <;> omega
theorem sU_le (k : Int) : sU k ≤ 2 := by unfold sU; split <;> omega
theorem Row.six {w : World} {g : Nat} {t : TypeId} {v0 v1 v2 v3 v4 v5 : Value} (h : Row w g t #[v0, v1, v2, v3, v4, v5]) :
    w.cell? ⟨g, 0, none⟩ = some v0 ∧ w.cell? ⟨g, 1, none⟩ = some v1 ∧ w.cell? ⟨g, 2, none⟩ = some v2 ∧ w.cell? ⟨g, 3, none⟩ = some v3 ∧ w.cell? ⟨g, 4, none⟩ = some v4 ∧ w.cell? ⟨g, 5, none⟩ = some v5 :=
  ⟨h.cell? 0, h.cell? 1, h.cell? 2, h.cell? 3, h.cell? 4, h.cell? 5⟩
theorem Row.tri {w : World} {g : Nat} {t : TypeId} {k : Int} {a b c x y : Nat} (h : Row w g t (#[.int .i64 k, .float .f32 a, .float .f32 b, .float .f32 c, .float .f32 x, .float .f32 y] : Array Value)) (i : Nat) (hi : i < 3) : w.cell? ⟨g, 1 + i, none⟩ = some (.float .f32 (tri a b c i)) := by
  match i, hi with
  | 0, _ => exact h.cell? 1
  | 1, _ => exact h.cell? 2
  | 2, _ => exact h.cell? 3
theorem Row.duo {w : World} {g : Nat} {t : TypeId} {k : Int} {a b c x y : Nat} (h : Row w g t (#[.int .i64 k, .float .f32 a, .float .f32 b, .float .f32 c, .float .f32 x, .float .f32 y] : Array Value)) (i : Nat) (hi : i < 2) : w.cell? ⟨g, 4 + i, none⟩ = some (.float .f32 (duo x y i)) := by
  match i, hi with
  | 0, _ => exact h.cell? 4
  | 1, _ => exact h.cell? 5
/-- A filter within a block. -/
structure FilAt (w : World) (g f : Nat) (k : Int) (a b c x y : Nat) : Prop where
  k0 : w.cell? ⟨g, f, none⟩ = some (.int .i64 k)
  tri : ∀ i, i < 3 → w.cell? ⟨g, f + 1 + i, none⟩ = some (.float .f32 (tri a b c i))
  duo : ∀ i, i < 2 → w.cell? ⟨g, f + 4 + i, none⟩ = some (.float .f32 (duo x y i))
theorem Row.filAt {w : World} {g : Nat} {t : TypeId} {k : Int} {a b c x y : Nat} (h : Row w g t (#[.int .i64 k, .float .f32 a, .float .f32 b, .float .f32 c, .float .f32 x, .float .f32 y] : Array Value)) : FilAt w g 0 k a b c x y :=
  ⟨h.six.1, fun i hi => by rw [Nat.zero_add]; exact h.tri i hi, fun i hi => by rw [Nat.zero_add]; exact h.duo i hi⟩
/-- A filter within a row. -/
structure FilIn (cs : Array Value) (f : Nat) (k : Int) (a b c x y : Nat) : Prop where
  k0 : cs[f]? = some (.int .i64 k)
  c1 : cs[f + 1]? = some (.float .f32 a)
  c2 : cs[f + 2]? = some (.float .f32 b)
  c3 : cs[f + 3]? = some (.float .f32 c)
  c4 : cs[f + 4]? = some (.float .f32 x)
  c5 : cs[f + 5]? = some (.float .f32 y)
theorem FilIn.at {cs : Array Value} {f : Nat} {k : Int} {a b c x y : Nat} (h : FilIn cs f k a b c x y) {w : World} {g : Nat} {t : TypeId} (hr : Row w g t cs) : FilAt w g f k a b c x y :=
  ⟨(hr.cell? f).trans h.k0, fun i hi => by
    match i, hi with
    | 0, _ => exact (hr.cell? (f + 1)).trans h.c1
    | 1, _ => exact (hr.cell? (f + 2)).trans h.c2
    | 2, _ => exact (hr.cell? (f + 3)).trans h.c3, fun i hi => by
    match i, hi with
    | 0, _ => exact (hr.cell? (f + 4)).trans h.c4
    | 1, _ => exact (hr.cell? (f + 5)).trans h.c5⟩
theorem fits_tri {a b c : Nat} (ha : fits .f32 a) (hb : fits .f32 b) (hc : fits .f32 c) : ∀ i, i < 3 → fits .f32 (tri a b c i) := by
  intro i hi
  match i, hi with
  | 0, _ => exact ha
  | 1, _ => exact hb
  | 2, _ => exact hc
theorem fits_duo {a b : Nat} (ha : fits .f32 a) (hb : fits .f32 b) : ∀ i, i < 2 → fits .f32 (duo a b i) := by
  intro i hi
  match i, hi with
  | 0, _ => exact ha
  | 1, _ => exact hb
end Go.Fk
namespace Go.Proofs.YtjihkfemejhllaaDoor
open Go.RowKit Go.Fk
theorem s_Uses (k : Int) (w : World) : Calls Tryd.prog 72 #[.int .i64 k] w fun e w' => e = .returned (.tuple #[.int .i64 (cU k), .int .i64 (sU k)]) ∧ w = w' := by
  by_cases h1 : k = 1
  · subst h1
    go_enter Tryd.func72, Tryd.ntmps72
    go_wp2
    go_ret2
    exact ⟨rfl, rfl⟩
  by_cases h2 : k = 2
  · subst h2
    go_enter Tryd.func72, Tryd.ntmps72
    go_wp2
    go_ret2
    exact ⟨rfl, rfl⟩
  by_cases h3 : k = 3
  · subst h3
    go_enter Tryd.func72, Tryd.ntmps72
    go_wp2
    go_ret2
    exact ⟨rfl, rfl⟩
  by_cases h5 : k = 5
  · subst h5
    go_enter Tryd.func72, Tryd.ntmps72
    go_wp2
    go_ret2
    exact ⟨rfl, rfl⟩
  have e1 : cU k = 3 := by simp [cU, h1, h2, h3, h5]
  have e2 : sU k = 2 := by simp [sU, h1, h2]
  rw [e1, e2]
  go_enter Tryd.func72, Tryd.ntmps72
  go_wp2
  go_ret2
  exact ⟨rfl, rfl⟩
set_option maxHeartbeats 2000000 in
theorem s_OkAt (k : Int) (a b c x y : Nat) (g f : Nat) (w : World) (hr : FilAt w g f k a b c x y) : Calls Tryd.prog 50 #[.pointer (some ⟨g, f, none⟩)] w fun e w' => e = .returned (.bool (okF k a b c x y)) ∧ ∃ n, w' = w.drewN n := by
  have c0 := hr.k0
  have HR := hid hr
  clear hr
  by_cases hk : 1 ≤ k ∧ k ≤ 5
  · obtain ⟨k1, k5⟩ := hk
    obtain ⟨p, hp⟩ : ∃ p, p = cU k := ⟨_, rfl⟩
    obtain ⟨q, hq⟩ : ∃ q, q = sU k := ⟨_, rfl⟩
    have hp3 : p ≤ 3 := by rw [hp]; exact cU_le k
    have hq2 : q ≤ 2 := by rw [hq]; exact sU_le k
    have E : okF k a b c x y = (usedB (tri a b c) 3 p && usedB (duo x y) 2 q) := by rw [hp, hq]; simp [okF, k1, k5]
    rw [E]; clear E
    have hu := s_Uses k
    rw [← hp, ← hq] at hu
    have HU := hid hu
    clear hu hp hq
    go_enter Tryd.func50, Tryd.ntmps50
    go_wp2_with (first | (go_at_call 71; refine (s_In _ _ _ _).mono ?_; rintro e w' ⟨rfl, rfl⟩) | (go_at_call 72; refine (HU.out _).mono ?_; rintro e w' ⟨rfl, rfl⟩))
    go_loopw [5] (fun i wr => ∃ j : Nat, j ≤ 3 ∧ i = .int .i64 j ∧ Hid (∀ i, i < j → fin (tri a b c i) = true ∧ (p ≤ i → sameB (tri a b c i) 0 = true)) ∧ ∃ n, wr = w.drewN n) (fun i _ => 3 - (intOf i).toNat)
    case atStart => exact ⟨0, by omega, rfl, fun i hi => absurd hi (by omega), 0, rfl⟩
    case round =>
      obtain ⟨j, hj, rfl, HJ, n, rfl⟩ := hrel
      by_cases hlt : j < 3
      · have cj := HR.out.tri j hlt
        cases h1 : fin (tri a b c j)
        · go_wp2_with (go_at_call 73; refine (s_l01Finite _ _).mono ?_; rintro e w' ⟨rfl, m, rfl⟩)
          go_ret
          refine ⟨ret_b ?_, _, rfl⟩
          by_cases hjp : j < p
          · rw [usedB_fin hjp hp3 h1]; rfl
          · have : sameB (tri a b c j) 0 = false := by
              cases e : sameB (tri a b c j) 0
              · rfl
              · rw [same0_fin e] at h1; cases h1
            rw [usedB_zero (show p ≤ j by omega) hlt this]; rfl
        · by_cases hjp : j < p
          · have hjp' : (j : Int) < p := by omega
            go_wp2_with (go_at_call 73; refine (s_l01Finite _ _).mono ?_; rintro e w' ⟨rfl, m, rfl⟩)
            go_roundw
            case rel => first | exact ⟨j + 1, by omega, by go_num, fun i hi => by rcases Nat.lt_or_ge i j with h | h; exact HJ.out i h; rw [show i = j by omega]; exact ⟨h1, fun h => absurd h (by omega)⟩, _, rfl⟩ | ((repeat apply Exists.intro); exact ⟨⟨j + 1, by omega, by go_num, fun i hi => by rcases Nat.lt_or_ge i j with h | h; exact HJ.out i h; rw [show i = j by omega]; exact ⟨h1, fun h => absurd h (by omega)⟩, _, rfl⟩, rfl⟩)
            case measure => simp [intOf]; omega
          · have hjp' : (p : Int) ≤ j := by omega
            cases h2 : sameB (tri a b c j) 0
            · go_wp2_with (first | (go_at_call 73; refine (s_l01Finite _ _).mono ?_; rintro e w' ⟨rfl, m, rfl⟩) | (go_at_call 74; refine (s_l01Same _ _ _).mono ?_; rintro e w' ⟨rfl, rfl⟩))
              go_ret
              exact ⟨ret_b (by rw [usedB_zero (show p ≤ j by omega) hlt h2]; rfl), _, rfl⟩
            · go_wp2_with (first | (go_at_call 73; refine (s_l01Finite _ _).mono ?_; rintro e w' ⟨rfl, m, rfl⟩) | (go_at_call 74; refine (s_l01Same _ _ _).mono ?_; rintro e w' ⟨rfl, rfl⟩))
              go_roundw
              case rel => first | exact ⟨j + 1, by omega, by go_num, fun i hi => by rcases Nat.lt_or_ge i j with h | h; exact HJ.out i h; rw [show i = j by omega]; exact ⟨h1, fun _ => h2⟩, _, rfl⟩ | ((repeat apply Exists.intro); exact ⟨⟨j + 1, by omega, by go_num, fun i hi => by rcases Nat.lt_or_ge i j with h | h; exact HJ.out i h; rw [show i = j by omega]; exact ⟨h1, fun _ => h2⟩, _, rfl⟩, rfl⟩)
              case measure => simp [intOf]; omega
      · obtain rfl : j = 3 := by omega
        have U1 := hid (usedB_yes (f := tri a b c) (n := 3) (u := p) (fun i hi => (HJ.out i (by omega)).1) (fun i h1 h2 => (HJ.out i h2).2 h1))
        clear HJ
        go_wp2
        go_loopw [6] (fun i wr => ∃ j : Nat, j ≤ 2 ∧ i = .int .i64 j ∧ Hid (∀ i, i < j → fin (duo x y i) = true ∧ (q ≤ i → sameB (duo x y i) 0 = true)) ∧ ∃ n, wr = w.drewN n) (fun i _ => 2 - (intOf i).toNat)
        case atStart => exact ⟨0, by omega, rfl, fun i hi => absurd hi (by omega), _, rfl⟩
        case round =>
          obtain ⟨j, hj, rfl, HJ, n, rfl⟩ := hrel
          by_cases hlt : j < 2
          · have cj := HR.out.duo j hlt
            cases h1 : fin (duo x y j)
            · go_wp2_with (go_at_call 73; refine (s_l01Finite _ _).mono ?_; rintro e w' ⟨rfl, m, rfl⟩)
              go_ret
              refine ⟨ret_b ?_, _, rfl⟩
              by_cases hjp : j < q
              · rw [usedB_fin hjp hq2 h1, Bool.and_false]
              · have : sameB (duo x y j) 0 = false := by
                  cases e : sameB (duo x y j) 0
                  · rfl
                  · rw [same0_fin e] at h1; cases h1
                rw [usedB_zero (show q ≤ j by omega) hlt this, Bool.and_false]
            · by_cases hjp : j < q
              · have hjp' : (j : Int) < q := by omega
                go_wp2_with (go_at_call 73; refine (s_l01Finite _ _).mono ?_; rintro e w' ⟨rfl, m, rfl⟩)
                go_roundw
                case rel => first | exact ⟨j + 1, by omega, by go_num, fun i hi => by rcases Nat.lt_or_ge i j with h | h; exact HJ.out i h; rw [show i = j by omega]; exact ⟨h1, fun h => absurd h (by omega)⟩, _, rfl⟩ | ((repeat apply Exists.intro); exact ⟨⟨j + 1, by omega, by go_num, fun i hi => by rcases Nat.lt_or_ge i j with h | h; exact HJ.out i h; rw [show i = j by omega]; exact ⟨h1, fun h => absurd h (by omega)⟩, _, rfl⟩, rfl⟩)
                case measure => simp [intOf]; omega
              · have hjp' : (q : Int) ≤ j := by omega
                cases h2 : sameB (duo x y j) 0
                · go_wp2_with (first | (go_at_call 73; refine (s_l01Finite _ _).mono ?_; rintro e w' ⟨rfl, m, rfl⟩) | (go_at_call 74; refine (s_l01Same _ _ _).mono ?_; rintro e w' ⟨rfl, rfl⟩))
                  go_ret
                  exact ⟨ret_b (by rw [usedB_zero (show q ≤ j by omega) hlt h2, Bool.and_false]), _, rfl⟩
                · go_wp2_with (first | (go_at_call 73; refine (s_l01Finite _ _).mono ?_; rintro e w' ⟨rfl, m, rfl⟩) | (go_at_call 74; refine (s_l01Same _ _ _).mono ?_; rintro e w' ⟨rfl, rfl⟩))
                  go_roundw
                  case rel => first | exact ⟨j + 1, by omega, by go_num, fun i hi => by rcases Nat.lt_or_ge i j with h | h; exact HJ.out i h; rw [show i = j by omega]; exact ⟨h1, fun _ => h2⟩, _, rfl⟩ | ((repeat apply Exists.intro); exact ⟨⟨j + 1, by omega, by go_num, fun i hi => by rcases Nat.lt_or_ge i j with h | h; exact HJ.out i h; rw [show i = j by omega]; exact ⟨h1, fun _ => h2⟩, _, rfl⟩, rfl⟩)
                  case measure => simp [intOf]; omega
          · obtain rfl : j = 2 := by omega
            have U2 := hid (usedB_yes (f := duo x y) (n := 2) (u := q) (fun i hi => (HJ.out i (by omega)).1) (fun i h1 h2 => (HJ.out i h2).2 h1))
            clear HJ
            go_wp2
            go_ret
            exact ⟨ret_b (by rw [U1.out, U2.out]; rfl), _, rfl⟩
  · rw [okF_out hk]
    have hIn : Hid (∀ w, Calls Tryd.prog 71 #[.int .i64 k, .int .i64 1, .int .i64 5] w fun e w' => e = .returned (.bool false) ∧ w = w') := fun w => by
      have h := s_In k 1 5 w
      rwa [show (decide ((1 : Int) ≤ k) && decide (k ≤ 5)) = false by simp only [Bool.and_eq_false_iff, decide_eq_false_iff_not]; omega] at h
    clear hk
    go_enter Tryd.func50, Tryd.ntmps50
    go_wp2_with (first | (go_at_call 71; refine (hIn.out _).mono ?_; rintro e w' ⟨rfl, rfl⟩))
    go_ret
    exact ⟨rfl, 0, rfl⟩
theorem s_Ok (k : Int) (a b c x y : Nat) (g : Nat) (w : World) (hr : Row w g 35 (#[.int .i64 k, .float .f32 a, .float .f32 b, .float .f32 c, .float .f32 x, .float .f32 y] : Array Value)) : Calls Tryd.prog 50 #[.pointer (some ⟨g, 0, none⟩)] w fun e w' => e = .returned (.bool (okF k a b c x y)) ∧ ∃ n, w' = w.drewN n := s_OkAt k a b c x y g 0 w hr.filAt
end Go.Proofs.YtjihkfemejhllaaDoor

/- 'SameFilter' of both. -/
namespace Go.Fk
open Go Go.RowKit
/-- Are two rows the same? -/
def eqRow (f f' : Nat → Nat) (n : Nat) : Bool := (List.range n).all (fun j => sameB (f j) (f' j))
theorem eqRow_no {f f' : Nat → Nat} {n j : Nat} (hj : j < n) (h : sameB (f j) (f' j) = false) : eqRow f f' n = false := by
  rw [Bool.eq_false_iff]
  intro hh
  have := List.all_eq_true.1 hh j (List.mem_range.2 hj)
  rw [h] at this; cases this
theorem eqRow_yes {f f' : Nat → Nat} {n : Nat} (h : ∀ j, j < n → sameB (f j) (f' j) = true) : eqRow f f' n = true := List.all_eq_true.2 (fun j hj => h j (List.mem_range.1 hj))
theorem all_step {p : Nat → Prop} {k : Nat} (h : ∀ j, j < k → p j) (hk : p k) : ∀ j, j < k + 1 → p j := fun j hj => by
  by_cases e : j = k
  · rw [e]; exact hk
  · exact h j (by omega)
section
variable {P : Program} {ops : Array Oper} {w : World} {K : FuncId → Array Value → Value → Prop} {Q : Act → Prop} {o : Oper} {rest : List Oper} {a : Act} {C : World → Prop}
theorem wpLoose_anyW (hw : Region.wanted o (yielded ops a.tmps) = true) (V : Value → Prop) (h1 : ∀ n, within P (fun w' => ∃ m, w' = w.drewN m) K V ((execOp a.eval o).run P (w.drewN n)))
    (h2 : ∀ v, V v → wpLoose P ops (fun w' => ∃ m, w' = w.drewN m) K Q rest (a.put o.dst v)) : wpLoose P ops (fun w' => ∃ m, w' = w.drewN m) K Q (o :: rest) a :=
  ⟨V, .inl ⟨hw, fun w' hw' => by obtain ⟨n, rfl⟩ := hw'; exact h1 n⟩, h2⟩
theorem wpLoose_skip (hw : Region.wanted o (yielded ops a.tmps) = false) (h : wpLoose P ops C K Q rest (a.put o.dst undef)) : wpLoose P ops C K Q (o :: rest) a :=
  ⟨(· = undef), .inr ⟨hw, rfl⟩, fun v hv => by rw [hv]; exact h⟩
theorem wpLoose_nilW (hw : Region.wanted o (yielded ops a.tmps) = true) {x : Operand} (hop : o.op = Op.nilCheck x) {ad : Addr} (hx : a.eval x = .pointer (some ad))
    (hK : wpLoose P ops (fun w' => ∃ m, w' = w.drewN m) K Q rest (a.put o.dst (.pointer (some ad)))) : wpLoose P ops (fun w' => ∃ m, w' = w.drewN m) K Q (o :: rest) a := by
  refine wpLoose_anyW hw (· = .pointer (some ad)) (fun n => ?_) (by rintro v rfl; exact hK)
  simp [execOp, hop, hx, within, Result.andThen]
  exact ⟨_, rfl⟩
end
end Go.Fk
namespace Go.Proofs.YtjihkfemejhllaaDoor
open Go.RowKit Go.Fk
end Go.Proofs.YtjihkfemejhllaaDoor

/- Rings over facts of memory: 'ValidRing', 'SameRing' of both. -/
namespace Go.Fk
open Go Go.RowKit
theorem RdS.form {w : World} {B : Nat} {s : Value} {x : Nat → Nat} {n : Nat} (h : RdS w B s x n) : (s = .slice none 0 0 ∧ n = 0) ∨ ∃ (a : Addr) (cap : Nat), s = .slice (some a) n cap ∧ n ≤ cap ∧ cap ≤ maxLen := by
  rcases h with h | ⟨a, cap, h1, h2, h3, _⟩
  · exact .inl h
  · exact .inr ⟨a, cap, h1, h2, h3⟩
section
variable {P : Program} {w : World} {ops : Array Oper} {rest : List Oper} {o : Oper} {a : Act} {Q : Exit → Act → World → Prop}
/-- The length of a slice that can be read. -/
theorem wpList_lenR (hg : o.guard = none) {x : Operand} {t : TypeId} (hop : o.op = Op.call { callee := Callee.builtin Builtin.len, args := #[x], argTypes := #[t] }) {v : Value} (hx : a.eval x = v) {e : TypeId} (hu : P.underlying t = some (.slice e)) {w1 : World} {B : Nat} {y : Nat → Nat} {n : Nat} (hv : RdS w1 B v y n)
    (h : wpList P ops Q rest (a.put o.dst (.int .i64 n)) w) : wpList P ops Q (o :: rest) a w := by
  refine wpList_plain hg fun K hK' => ?_
  unfold Oper.wp
  rcases hv.form with ⟨rfl, rfl⟩ | ⟨ad, cap, rfl, _, _⟩
  all_goals
    simp [execOp, hop, hx, Result.andThen, resolve, invoke, builtin, Builtin.len_, run_underlying hu]
    exact hK' _ _ h
end
theorem sameB_can (x y : Nat) : sameB (can .f32 x) (can .f32 y) = sameB x y := by unfold sameB; rw [can_can, can_can]
theorem okRing_iff {n : Nat} {k : Int} : okRing n k = true ↔ 1 ≤ n ∧ n ≤ 1024 ∧ 0 ≤ k ∧ k < n := by
  unfold okRing; simp only [Bool.and_eq_true, decide_eq_true_eq]; omega
theorem okRing_j {n : Nat} {k : Int} (h : okRing n k = true) : 1 ≤ n ∧ n ≤ 1024 ∧ ∃ j : Nat, k = j ∧ j < n := by
  obtain ⟨h1, h2, h3, h4⟩ := okRing_iff.1 h
  exact ⟨h1, h2, k.toNat, by omega, by omega⟩
/-- Two slices of floats, compared. -/
def sameS (x x' : Nat → Nat) (n n' : Nat) : Bool := (n == n') && eqRow x x' n
theorem sameS_ne {x x' : Nat → Nat} {n n' : Nat} (h : n ≠ n') : sameS x x' n n' = false := by simp [sameS, h]
theorem sameS_eq {x x' : Nat → Nat} {n : Nat} : sameS x x' n n = eqRow x x' n := by simp [sameS]
end Go.Fk
namespace Go.Proofs.YtjihkfemejhllaaDoor
open Go.RowKit Go.Fk
set_option maxHeartbeats 2000000 in
theorem i_ValidRingR (B : Nat) (s : Value) (x : Nat → Nat) (n : Nat) (k : Int) (w : World) (hs : RdS w B s x n) : Calls Tryd.prog 90 #[.agg #[s, .int .i64 k]] w fun e w' => e = .returned (.bool (okRing n k)) ∧ le w w' := by
  have HL := hid (le_alloc w (.cells #[s, .int .i64 k] 34))
  rcases hs.form with ⟨rfl, rfl⟩ | ⟨a, cap, rfl, hc, hm⟩
  · have HZ : Hid (okRing 0 k = false) := by unfold Hid okRing; simp
    clear hs
    go_enter Tryd.func90, Tryd.ntmps90
    go_wp2
    go_ret
    exact ⟨ret_b HZ.out.symm, HL.out⟩
  clear hs
  unfold maxLen at hm
  obtain ⟨z, hz⟩ : ∃ z, z = okRing n k := ⟨_, rfl⟩
  rw [← hz]
  unfold okRing at hz
  by_cases h1 : 1 ≤ (n : Int) <;> by_cases h2 : (n : Int) ≤ 1024 <;> by_cases h3 : 0 ≤ k <;> by_cases h4 : k < (n : Int)
  all_goals first | (exfalso; omega) | skip
  all_goals
    simp only [h1, h2, h3, h4, decide_true, decide_false, Bool.and_true, Bool.and_false, Bool.true_and, Bool.false_and] at hz
    have HZ := hid hz
    clear hz
    go_enter Tryd.func90, Tryd.ntmps90
    go_wp2
    go_ret
    exact ⟨ret_b HZ.out.symm, HL.out⟩
theorem s_l02RingR (B : Nat) (s : Value) (x : Nat → Nat) (n : Nat) (k : Int) (g f : Nat) (w : World) (hs : RdS w B s x n) (c0 : w.cell? ⟨g, f, none⟩ = some s) (c1 : w.cell? ⟨g, f + 1, none⟩ = some (.int .i64 k)) (hk : (Lit.int .i64 k).wf = true) :
    Calls Tryd.prog 70 #[.pointer (some ⟨g, f, none⟩)] w fun e w' => e = .returned (.bool (okRing n k)) ∧ w = w' := by
  rcases hs.form with ⟨rfl, rfl⟩ | ⟨a, cap, rfl, hc, hm⟩
  · have HZ : Hid (okRing 0 k = false) := by unfold Hid okRing; simp
    clear hs
    have HI : Hid (∀ w, Calls Tryd.prog 71 #[.int .i64 0, .int .i64 1, .int .i64 1024] w fun e w' => e = .returned (.bool false) ∧ w = w') := fun w => s_In 0 1 1024 w
    go_enter Tryd.func70, Tryd.ntmps70
    go_wp2_with (go_at_call 71; refine (HI.out _).mono ?_; rintro e w' ⟨rfl, rfl⟩)
    go_ret
    exact ⟨ret_b HZ.out.symm, rfl⟩
  clear hs hk
  unfold maxLen at hm
  obtain ⟨z, hz⟩ : ∃ z, z = okRing n k := ⟨_, rfl⟩
  rw [← hz]
  unfold okRing at hz
  by_cases h1 : 1 ≤ (n : Int) <;> by_cases h2 : (n : Int) ≤ 1024
  all_goals first | (exfalso; omega) | skip
  all_goals
    simp only [h1, h2, decide_true, decide_false, Bool.and_true, Bool.and_false, Bool.true_and, Bool.false_and] at hz
    have HZ := hid hz
    clear hz
    go_enter Tryd.func70, Tryd.ntmps70
    go_wp2_with (go_at_call 71; refine (s_In _ _ _ _).mono ?_; rintro e w' ⟨rfl, rfl⟩)
    go_ret
    refine ⟨ret_b ?_, rfl⟩
    first | (rw [HZ.out]; done) | (rw [HZ.out]; congr 1; exact decide_eq_decide.2 (by omega))
theorem infoRingL : (Tryd.prog.info? 24).map (·.size) = some 2 := by kernel_rfl
end Go.Proofs.YtjihkfemejhllaaDoor

/- Steps of a region that draws its order: guarded operations, loads of one cell, addresses of elements, new rows, lengths. Nothing here names a program. -/
namespace Go.Fk
open Go Go.RowKit
section
variable {E : Ext} {P : Program} {ops : Array Oper} {W : World} {K : FuncId → Array Value → World → Value → Prop} {Q : Act → World → Prop} {F : Facts} {k : Nat} {o : Oper} {rest : List Oper} {a : Act}
theorem wpFreeD_oneW (hw : Region.wanted o (yielded ops a.tmps) = true) (v : Value) (hr : ∀ w, E.R W w → (execOp a.eval o).run P w = .ok (.value v) w)
    (h : wpFreeD E P ops .any W K Q rest (k + 1) (a.put o.dst v) (F.with k (fun _ => True))) : wpFreeD E P ops .any W K Q (o :: rest) k a F := by
  refine ⟨fun _ u => u = v, ⟨fun _ _ _ _ h => h, .inl ⟨hw, fun w hw _ => ?_⟩⟩, fun u hu => ?_⟩
  · rw [hr w hw]; exact ⟨E.refl w, rfl⟩
  · obtain ⟨w, _, _, rfl⟩ := hu
    exact wpFreeD_weaken _ _ _ _ _ (fun e w h => ⟨h.1, fun _ => trivial⟩) h
theorem wpFreeD_skip (hw : Region.wanted o (yielded ops a.tmps) = false)
    (h : wpFreeD E P ops .any W K Q rest (k + 1) (a.put o.dst undef) (F.with k (fun _ => True))) : wpFreeD E P ops .any W K Q (o :: rest) k a F := by
  refine ⟨fun _ u => u = undef, ⟨fun _ _ _ _ h => h, .inr ⟨hw, fun w _ _ => rfl⟩⟩, fun u hu => ?_⟩
  obtain ⟨w, _, _, rfl⟩ := hu
  exact wpFreeD_weaken _ _ _ _ _ (fun e w h => ⟨h.1, fun _ => trivial⟩) h
theorem wpFreeD_callW (hw : Region.wanted o (yielded ops a.tmps) = true) {f : FuncId} {xs : Array Operand} {ts : Array TypeId} (hop : o.op = Op.call { callee := Callee.value (Operand.func f), args := xs, argTypes := ts }) {fn : Func} (hf : P.funcs[f]? = some fn)
    (hb : fn.body.isNone = false) (hn : (fn.name == "runtime.NumGoroutine") = false) {args : Array Value} (ha : xs.map a.eval = args) (hm : MonoT E (K f args))
    (h1 : ∀ w, E.R W w → behind .any o F w → Calls P f args w (fun e w' => ∃ v, e = .returned v ∧ le w w' ∧ K f args w' v)) (h2 : ∀ v, (∃ w, E.R W w ∧ (∀ e, F e w) ∧ K f args w v) → wpFreeD E P ops .any W K Q rest (k + 1) (a.put o.dst v) (F.with k (fun w => K f args w v))) : wpFreeD E P ops .any W K Q (o :: rest) k a F := by
  refine ⟨K f args, ⟨hm, .inl ⟨hw, fun w hw hbe => ?_⟩⟩, fun v hv => h2 v hv⟩
  rw [run_enter hop hf hb hn ha]
  refine ⟨E.refl w, (h1 w hw hbe).mono ?_, fun _ _ h => h⟩
  rintro e w' ⟨v, rfl, hl, hk⟩
  exact ⟨v, rfl, E.of_le hl, hk⟩
theorem wpFreeD_madeW (hwt : Region.wanted o (yielded ops a.tmps) = true) (f : Nat → Value) (t : TypeId) (cs : Array Value) (hr : ∀ w, (execOp a.eval o).run P w = .ok (.value (f w.heap.size)) (w.alloc (.cells cs t)))
    (h : ∀ b, wpFreeD leX P ops .any W K Q rest (k + 1) (a.put o.dst (f b)) (F.with k (fun w => ∃ b', f b = f b' ∧ Row w b' t cs))) : wpFreeD leX P ops .any W K Q (o :: rest) k a F := by
  refine ⟨fun w v => ∃ b', v = f b' ∧ Row w b' t cs, ⟨fun v w w' hw hv => ?_, .inl ⟨hwt, fun w hw _ => ?_⟩⟩, fun v hv => ?_⟩
  · obtain ⟨b', e, hrow⟩ := hv
    exact ⟨b', e, hrow.le hw⟩
  · rw [hr w]
    exact ⟨le_alloc w _, w.heap.size, rfl, Row.new w t cs⟩
  · obtain ⟨w, _, _, b, rfl, _⟩ := hv
    exact h b
theorem wpFreeD_load1 (hg : o.guard = none) {ty : TypeId} {x : Operand} (hop : o.op = .load ty x) {p : Addr} (hx : a.eval x = .pointer (some p)) {v : Value} (hv : ∀ w, E.R W w → w.cell? p = some v) (hu : ∀ w, (isAgg ty).run P w = .ok false w)
    (h : wpFreeD E P ops .any W K Q rest (k + 1) (a.put o.dst v) (F.with k (fun _ => True))) : wpFreeD E P ops .any W K Q (o :: rest) k a F := by
  refine wpFreeD_one hg v (fun w hw => ?_) h
  have hl : (Instr.loadAt ty (.pointer (some p))).run P w = .ok v w := by
    simp [Instr.loadAt, Instr.sureAddr, loadVar, hu, hv w hw]
  simp [execOp, hop, hx, hl, Result.andThen]
theorem wpFreeD_load1W (hw : Region.wanted o (yielded ops a.tmps) = true) {ty : TypeId} {x : Operand} (hop : o.op = .load ty x) {p : Addr} (hx : a.eval x = .pointer (some p)) {v : Value} (hv : ∀ w, E.R W w → w.cell? p = some v) (hu : ∀ w, (isAgg ty).run P w = .ok false w)
    (h : wpFreeD E P ops .any W K Q rest (k + 1) (a.put o.dst v) (F.with k (fun _ => True))) : wpFreeD E P ops .any W K Q (o :: rest) k a F := by
  refine wpFreeD_oneW hw v (fun w hw => ?_) h
  have hl : (Instr.loadAt ty (.pointer (some p))).run P w = .ok v w := by
    simp [Instr.loadAt, Instr.sureAddr, loadVar, hu, hv w hw]
  simp [execOp, hop, hx, hl, Result.andThen]
theorem wpFreeD_indexW0 (hg : o.guard = none) {t : TypeId} {x y : Operand} (hop : o.op = .indexAddr t x y) {b off n cap sz i : Nat} {kk : IntKind} {e : TypeId} (hx : a.eval x = .slice (some ⟨b, off, none⟩) n cap) (hy : a.eval y = .int kk (i : Int)) (hu : P.underlying t = some (.slice e)) (hs : (P.info? e).map (·.size) = some sz) (hi : i < n)
    (h : wpFreeD E P ops .any W K Q rest (k + 1) (a.put o.dst (.pointer (some ⟨b, off + i * sz, none⟩))) (F.with k (fun _ => True))) : wpFreeD E P ops .any W K Q (o :: rest) k a F :=
  wpFreeD_indexW hg hop hx hy hu hs hi (by rw [add_none]; exact h)
theorem wpFreeD_lenR (hg : o.guard = none) {x : Operand} {t : TypeId} (hop : o.op = Op.call { callee := Callee.builtin Builtin.len, args := #[x], argTypes := #[t] }) {v : Value} (hx : a.eval x = v) {e : TypeId} (hu : P.underlying t = some (.slice e)) {w1 : World} {B : Nat} {y : Nat → Nat} {n : Nat} (hv : RdS w1 B v y n)
    (h : wpFreeD E P ops .any W K Q rest (k + 1) (a.put o.dst (.int .i64 n)) (F.with k (fun _ => True))) : wpFreeD E P ops .any W K Q (o :: rest) k a F := by
  refine wpFreeD_one hg (.int .i64 n) (fun w _ => ?_) h
  rcases hv.form with ⟨rfl, rfl⟩ | ⟨ad, cap, rfl, _, _⟩
  all_goals
    simp [execOp, hop, hx, Result.andThen, resolve, invoke, builtin, Builtin.len_, run_underlying hu]
    try rfl
end
end Go.Fk

/- Drawn regions in which a block is made with what it holds, and in which texts are put together. -/
namespace Go.Fk
open Go Go.RowKit
section
variable {P : Program} {ops : Array Oper} {W : World} {K : FuncId → Array Value → World → Value → Prop} {Q : Act → World → Prop} {F : Facts} {k : Nat} {o : Oper} {rest : List Oper} {a : Act}
/-- A block is made, and filled. -/
theorem wpFreeD_newN (hg : o.guard = none) (f : Nat → Value) (hi : ∀ b b', f b = f b' → b = b') (t : TypeId) (cs : Array Value) (hr : ∀ w, (execOp a.eval o).run P w = .ok (.value (f w.heap.size)) (w.alloc (.cells cs t)))
    (h : ∀ b, wpFreeD leX P ops .any W K Q rest (k + 1) (a.put o.dst (f b)) (F.with k (fun w => W.heap.size ≤ b ∧ Row w b t cs))) : wpFreeD leX P ops .any W K Q (o :: rest) k a F := by
  refine ⟨fun w v => ∃ b, v = f b ∧ W.heap.size ≤ b ∧ Row w b t cs, ⟨fun v w w' hw hv => ?_, .inl ⟨by simp [Region.wanted, hg], fun w hw _ => ?_⟩⟩, fun v hv => ?_⟩
  · obtain ⟨b, h1, h2, h3⟩ := hv
    exact ⟨b, h1, h2, h3.le hw⟩
  · rw [hr w]
    exact ⟨le_alloc w _, _, rfl, hw.size, Row.new w t cs⟩
  · obtain ⟨_, _, _, b, rfl, _, _⟩ := hv
    exact wpFreeD_weaken _ _ _ _ _ (fun e w h => ⟨h.1, fun he => by obtain ⟨b', h1, h2, h3⟩ := h.2 he; have e := hi _ _ h1; subst e; exact ⟨h2, h3⟩⟩) (h b)
/-- Two texts, one behind the other. -/
theorem wpFreeD_cat (hg : o.guard = none) {t t' : TypeId} {x y : Operand} (hop : o.op = .binOp .add t x y t') {s r : ByteArray} (hx : a.eval x = .string s) (hy : a.eval y = .string r) (hz : s.size + r.size ≤ 9223372036854775807) {q : ByteArray} (hq : s ++ r = q)
    (h : wpFreeD leX P ops .any W K Q rest (k + 1) (a.put o.dst (.string q)) (F.with k (fun _ => True))) : wpFreeD leX P ops .any W K Q (o :: rest) k a F := by
  subst hq
  refine wpFreeD_one hg (.string (s ++ r)) (fun w1 _ => ?_) ?_
  · simp [execOp, hop, hx, hy, eqGuard, Sem.run_pure, binOp_string_add, run_string_add_sum _ s r hz, Result.andThen]
  · exact h
theorem wpList_cat (hg : o.guard = none) {Q : Exit → Act → World → Prop} {w : World} {t t' : TypeId} {x y : Operand} (hop : o.op = .binOp .add t x y t') {s r : ByteArray} (hx : a.eval x = .string s) (hy : a.eval y = .string r) (hz : s.size + r.size ≤ 9223372036854775807) {q : ByteArray} (hq : s ++ r = q)
    (h : wpList P ops Q rest (a.put o.dst (.string q)) w) : wpList P ops Q (o :: rest) a w := by
  subst hq
  refine wpList_plain hg fun K hK' => ?_
  unfold Oper.wp
  simp [execOp, hop, hx, hy, eqGuard, Sem.run_pure, binOp_string_add, run_string_add_sum _ s r hz, Result.andThen]
  exact hK' _ _ h
end
end Go.Fk

/- As FreeD, where one operation (with the index c) may write what all others leave as it is: it comes up but once. Nothing here names a program. -/
namespace Go.Fk
open Go Go.RowKit
section
variable (E0 E1 : Ext) (c : Nat) (Vc : World → Value → Prop) (P : Program) (ops : Array Oper) (md : Region.Mode) (W : World) (K : FuncId → Array Value → World → Value → Prop)
def preE (i : Nat) : Ext := if i = c then E0 else E1
def stepE (i : Nat) : Ext := if i = c then E1 else E0
def YieldsP (i : Nat) (o : Oper) (a : Act) (F : Facts) (V : World → Value → Prop) : Prop :=
  MonoT E1 V ∧ (i = c → V = Vc) ∧ ((Region.wanted o (yielded ops a.tmps) = true ∧ ∀ w, (preE E0 E1 c i).R W w → behind md o F w → insideT (stepE E0 E1 c i) P K w V ((execOp a.eval o).run P w)) ∨ (i ≠ c ∧ Region.wanted o (yielded ops a.tmps) = false ∧ ∀ w, E1.R W w → behind md o F w → V w undef))
def wpFreeP (Q : Act → World → Prop) : List Oper → Nat → Act → Facts → Prop
  | [], _, a, F => ∀ w, E1.R W w → (∀ e, F e w) → Q a w
  | o :: rest, k, a, F => ∃ V, YieldsP E0 E1 c Vc P ops md W K k o a F V ∧ ∀ v, met E1 W F (fun w => V w v) → wpFreeP Q rest (k + 1) (a.put o.dst v) (F.with k (fun w => V w v))
def anyFreeP (n : Nat) (L : Array Bool → Act → Facts → Prop) : Nat → Array Bool → Act → Facts → Prop
  | 0, listed, a, F => L listed a F
  | f + 1, listed, a, F => Region.ready md ops listed ≠ [] ∧
      ∀ i ∈ Region.ready md ops listed, i < n ∧ ∀ o, ops[i]? = some o → ∃ V, YieldsP E0 E1 c Vc P ops md W K i o a F V ∧ ∀ v, met E1 W F (fun w => V w v) → anyFreeP n L f (listed.setIfInBounds i true) (a.put o.dst v) (F.with i (fun w => V w v))
end
section
variable {E0 E1 : Ext} {c : Nat} {Vc : World → Value → Prop} {P : Program} {ops : Array Oper} {md : Region.Mode} {W : World} {K : FuncId → Array Value → World → Value → Prop}
theorem stepE_sub (hs : ∀ w w', E0.R w w' → E1.R w w') {i : Nat} {w w' : World} (h : (stepE E0 E1 c i).R w w') : E1.R w w' := by
  unfold stepE at h
  split at h
  · exact h
  · exact hs _ _ h
theorem YieldsP.some (hs : ∀ w w', E0.R w w' → E1.R w w') (hVc : ∀ w, E1.R W w → ∃ v w', E1.R w w' ∧ Vc w' v) {i : Nat} {o : Oper} {a : Act} {F : Facts} {V : World → Value → Prop} (hm : FMono E1 F) (hx : met E1 W F (fun _ => True)) (h : YieldsP E0 E1 c Vc P ops md W K i o a F V) : ∃ v, met E1 W F (fun w => V w v) := by
  obtain ⟨w, hw, hF, _⟩ := hx
  by_cases e : i = c
  · obtain ⟨v, w', hl, hv⟩ := hVc w hw
    exact ⟨v, w', E1.trans hw hl, hm w w' hl hF, by rw [h.2.1 e]; exact hv⟩
  · rcases h.2.2 with ⟨_, h⟩ | ⟨_, _, h⟩
    · obtain ⟨v, w', hl, hv⟩ := insideT_some (h w (by unfold preE; rw [if_neg e]; exact hw) (fun e _ _ => hF e.on))
      have hl' := stepE_sub hs hl
      exact ⟨v, w', E1.trans hw hl', hm w w' hl' hF, hv⟩
    · exact ⟨undef, w, hw, hF, h w hw (fun e _ _ => hF e.on)⟩
theorem YieldsP.same {i : Nat} {o : Oper} {a a' : Act} {F : Facts} {V : World → Value → Prop} (he : execOp a'.eval o = execOp a.eval o) (hw : Region.wanted o (yielded ops a'.tmps) = Region.wanted o (yielded ops a.tmps))
    (h : YieldsP E0 E1 c Vc P ops md W K i o a F V) : YieldsP E0 E1 c Vc P ops md W K i o a' F V := by
  unfold YieldsP at *; rw [he, hw]; exact h
theorem YieldsP.less {j : Nat} {o : Oper} {a : Act} {F : Facts} {i : Nat} {X : World → Prop} {V : World → Value → Prop} (hn : ∀ e ∈ o.after, Region.binds md e = true → e.on ≠ i) (h : YieldsP E0 E1 c Vc P ops md W K j o a (F.with i X) V) : YieldsP E0 E1 c Vc P ops md W K j o a F V := by
  have key : ∀ w, behind md o F w → behind md o (F.with i X) w := fun w hw e he hb => ⟨hw e he hb, fun h => absurd h (hn e he hb)⟩
  refine ⟨h.1, h.2.1, ?_⟩
  rcases h.2.2 with ⟨h1, h2⟩ | ⟨h0, h1, h2⟩
  · exact .inl ⟨h1, fun w hw hb => h2 w hw (key w hb)⟩
  · exact .inr ⟨h0, h1, fun w hw hb => h2 w hw (key w hb)⟩
theorem YieldsP.stronger {j : Nat} {o : Oper} {a : Act} {F F' : Facts} {V : World → Value → Prop} (hF : ∀ e w, F' e w → F e w) (h : YieldsP E0 E1 c Vc P ops md W K j o a F V) : YieldsP E0 E1 c Vc P ops md W K j o a F' V := by
  have key : ∀ w, behind md o F' w → behind md o F w := fun w hw e he hb => hF _ _ (hw e he hb)
  refine ⟨h.1, h.2.1, ?_⟩
  rcases h.2.2 with ⟨h1, h2⟩ | ⟨h0, h1, h2⟩
  · exact .inl ⟨h1, fun w hw hb => h2 w hw (key w hb)⟩
  · exact .inr ⟨h0, h1, fun w hw hb => h2 w hw (key w hb)⟩
theorem YieldsP.more {j : Nat} {o : Oper} {a : Act} {F : Facts} {i : Nat} {X : World → Prop} {V : World → Value → Prop} (h : YieldsP E0 E1 c Vc P ops md W K j o a F V) : YieldsP E0 E1 c Vc P ops md W K j o a (F.with i X) V := h.stronger (fun _ _ h => h.1)
theorem insideT_mono {E E' : Ext} (hE : ∀ w w', E.R w w' → E'.R w w') {V : World → Value → Prop} {w : World} {r : Result Next} (h : insideT E P K w V r) : insideT E' P K w V r := by
  cases r with
  | ok n w' =>
    cases n <;> simp only [insideT] at h ⊢
    case value u => exact ⟨hE _ _ h.1, h.2⟩
    case skip => exact ⟨hE _ _ h.1, h.2⟩
    case enter f args => exact ⟨hE _ _ h.1, h.2.1.mono (fun e w'' ⟨v, e1, e2, e3⟩ => ⟨v, e1, hE _ _ e2, e3⟩), h.2.2⟩
  | halt x w' => simp only [insideT] at h
theorem wpOp_yieldsP {i : Nat} {o : Oper} {a : Act} {w : World} {F : Facts} {V : World → Value → Prop} {next : Act → World → Prop} {Q' : Exit → Act → World → Prop} (ho : ops[i]? = some o) (hw1 : E1.R W w) (hw : (preE E0 E1 c i).R W w) (hF : ∀ e, F e w) (hg : YieldsP E0 E1 c Vc P ops md W K i o a F V)
    (hn : ∀ v w', (stepE E0 E1 c i).R w w' → V w' v → next (a.put o.dst v) w') : wpOp P ops Q' i next a w := by
  unfold wpOp
  simp only [ho]
  rcases hg.2.2 with ⟨hwant, hv⟩ | ⟨_, hwant, hv⟩
  · rw [if_pos hwant]
    left
    have h3 := hv w hw (fun e _ _ => hF e.on)
    unfold Oper.wp
    generalize (execOp a.eval o).run P w = r at h3
    cases r with
    | ok x w' =>
      cases x <;> simp only [insideT] at h3 <;> simp only [Oper.upon]
      case value u => exact hn u _ h3.1 h3.2
      case skip => exact hn undef _ h3.1 h3.2
      case enter f args =>
        refine h3.2.1.mono fun e w'' he => ?_
        obtain ⟨v, rfl, hl, hk⟩ := he
        exact hn v _ ((stepE E0 E1 c i).trans h3.1 hl) (h3.2.2 w'' v hk)
    | halt x w' => simp only [insideT] at h3
  · rw [if_neg (by simp [hwant])]
    exact hn undef _ ((stepE E0 E1 c i).refl w) (hv w hw1 (fun e _ _ => hF e.on))
theorem anyFreeP_sound (hs : ∀ w w', E0.R w w' → E1.R w w') {n g : Nat} {L : Array Bool → Act → Facts → Prop} {Q' : Exit → Act → World → Prop} (hL : ∀ listed a F w, E1.R W w → (∀ e, F e w) → L listed a F → wpAny P md ops Q' g listed a w) :
    ∀ (f : Nat) (listed : Array Bool) (a : Act) (F : Facts) (w : World), FMono E1 F → E1.R W w → (listed.getD c true = false → E0.R W w) → (∀ e, F e w) → anyFreeP E0 E1 c Vc P ops md W K n L f listed a F → wpAny P md ops Q' (f + g) listed a w := by
  intro f
  induction f with
  | zero => intro listed a F w _ hw _ hF h; rw [Nat.zero_add]; exact hL _ _ _ _ hw hF h
  | succ f ih =>
    intro listed a F w hm hw hph hF h
    rw [show f + 1 + g = (f + g) + 1 by omega]
    refine ⟨fun h0 => absurd h0 h.1, fun i hi => ?_⟩
    obtain ⟨hun, o, ho, _⟩ := mem_ready.1 hi
    obtain ⟨V, hg, hn⟩ := (h.2 i hi).2 o ho
    have hpre : (preE E0 E1 c i).R W w := by
      unfold preE
      split
      · next e => subst e; exact hph hun
      · exact hw
    refine wpOp_yieldsP ho hw hpre hF hg (fun v w' hl hv => ih _ _ _ _ (hm.with hg.1 i v) (E1.trans hw (stepE_sub hs hl)) (fun hc => ?_) (Facts.with_mk (hm w w' (stepE_sub hs hl) hF) hv) (hn v ⟨w', E1.trans hw (stepE_sub hs hl), hm w w' (stepE_sub hs hl) hF, hv⟩))
    by_cases e : i = c
    · subst e
      have hlt : i < listed.size := by
        apply Nat.lt_of_not_le
        intro hle
        simp [Array.getD, Nat.not_lt.2 hle] at hun
      simp [Array.getD, hlt] at hc
    · rw [getD_set_ne true e] at hc
      unfold stepE at hl
      rw [if_neg e] at hl
      exact E0.trans (hph hc) hl
theorem anyFreeP_weaken {n : Nat} {L : Array Bool → Act → Facts → Prop} (hLm : ∀ listed a F F', (∀ e w, F' e w → F e w) → L listed a F → L listed a F') :
    ∀ (f : Nat) (listed : Array Bool) (a : Act) (F F' : Facts), (∀ e w, F' e w → F e w) → anyFreeP E0 E1 c Vc P ops md W K n L f listed a F → anyFreeP E0 E1 c Vc P ops md W K n L f listed a F' := by
  intro f
  induction f with
  | zero => intro listed a F F' h hh; exact hLm _ _ _ _ h hh
  | succ f ih =>
    intro listed a F F' h hh
    refine ⟨hh.1, fun i hi => ⟨(hh.2 i hi).1, fun o ho => ?_⟩⟩
    obtain ⟨V, hg, hn⟩ := (hh.2 i hi).2 o ho
    exact ⟨V, hg.stronger h, fun v hv => ih _ _ _ _ (fun e w hw => ⟨h e w hw.1, hw.2⟩) (hn v (hv.weaken (fun w hw e => h e w (hw e))))⟩
theorem anyFreeP_first (hs : ∀ w w', E0.R w w' → E1.R w w') (hVc : ∀ w, E1.R W w → ∃ v w', E1.R w w' ∧ Vc w' v) {n i : Nat} {oi : Oper} {V : World → Value → Prop} {L : Array Bool → Act → Facts → Prop} (hi : ops[i]? = some oi) (hsel : ∀ (j : Nat) (o : Oper) cs b, ops[j]? = some o → o.op ≠ .select cs b)
    (hbound : ∀ listed i, HeadInv md ops n listed → i < n → listed.getD i true = false → ∀ j ∈ Region.ready md ops listed, j < n) (hin : i < n)
    (hdone : ∀ listed a F, L listed a F → ∀ j ∈ Region.ready md ops listed, n ≤ j) (hLm : ∀ listed a F F', (∀ e w, F' e w → F e w) → L listed a F → L listed a F') :
    ∀ (f : Nat) (listed : Array Bool) (a : Act) (F : Facts), HeadInv md ops n listed →
      (∀ j oj, ops[j]? = some oj → j ≠ i → listed.getD j true = false → (∀ e ∈ oj.after, Region.binds md e = true → e.on ≠ i) → oi.apart ops oj = true) →
      i ∈ Region.ready md ops listed → FMono E1 F → met E1 W F (fun _ => True) → YieldsP E0 E1 c Vc P ops md W K i oi a F V →
      (∀ v, met E1 W F (fun w => V w v) → anyFreeP E0 E1 c Vc P ops md W K n L f (listed.setIfInBounds i true) (a.put oi.dst v) (F.with i (fun w => V w v))) → anyFreeP E0 E1 c Vc P ops md W K n L (f + 1) listed a F := by
  intro f
  induction f with
  | zero =>
    intro listed a F inv _ hr hm hx hg H
    have hun := (mem_ready.1 hr).1
    refine ⟨fun h => (by rw [h] at hr; cases hr), fun j hj => ?_⟩
    have hjn := hbound listed i inv hin hun j hj
    refine ⟨hjn, fun o ho => ?_⟩
    by_cases hji : j = i
    · subst hji
      rw [hi] at ho; cases ho
      exact ⟨V, hg, H⟩
    · obtain ⟨v, hv⟩ := hg.some hs hVc hm hx
      have := hdone _ _ _ (H v hv) j (ready_mono hj hji)
      omega
  | succ f ih =>
    intro listed a F inv hfree hr hm hx hg H
    have hun := (mem_ready.1 hr).1
    refine ⟨fun h => (by rw [h] at hr; cases hr), fun j hj => ?_⟩
    have hjn := hbound listed i inv hin hun j hj
    refine ⟨hjn, fun o ho => ?_⟩
    by_cases hji : j = i
    · subst hji
      rw [hi] at ho; cases ho
      exact ⟨V, hg, H⟩
    · obtain ⟨hjun, oj, hoj, hall⟩ := mem_ready.1 hj
      rw [ho] at hoj; cases hoj
      have hnot : ∀ e ∈ o.after, Region.binds md e = true → e.on ≠ i := fun e he hb heq => by
        have h1 := hall e he hb
        rw [heq, getD_both hun] at h1
        cases h1
      have hap := hfree j o ho hji hjun hnot
      obtain ⟨a1, a2, a3⟩ := Oper.apart_spec hap
      have hsi := fun cs b => hsel i oi cs b hi
      have hsj := fun cs b => hsel j o cs b ho
      have hU : ∀ v : {v // met E1 W F (fun w => V w v)}, ∃ U, YieldsP E0 E1 c Vc P ops md W K j o (a.put oi.dst v.1) (F.with i (fun w => V w v.1)) U ∧ ∀ u, met E1 W (F.with i (fun w => V w v.1)) (fun w => U w u) →
          anyFreeP E0 E1 c Vc P ops md W K n L f ((listed.setIfInBounds i true).setIfInBounds j true) ((a.put oi.dst v.1).put o.dst u) ((F.with i (fun w => V w v.1)).with j (fun w => U w u)) :=
        fun v => ((H v.1 v.2).2 j (ready_mono hj hji)).2 o ho
      obtain ⟨U, hU⟩ := Classical.skolem.1 hU
      obtain ⟨v0, hv0⟩ := hg.some hs hVc hm hx
      have hone : ∀ v, YieldsP E0 E1 c Vc P ops md W K j o a F (U v) := fun v => ((hU v).1.same (execOp_put o hsj a oi.dst v.1 a1).symm (wanted_put o a oi.dst v.1 a1).symm).less hnot
      have hgood : YieldsP E0 E1 c Vc P ops md W K j o a F (fun w u => ∀ v, U v w u) := by
        refine ⟨fun u w w' hl h v => (hone v).1 u w w' hl (h v), fun e => ?_, ?_⟩
        · funext w u
          exact propext ⟨fun h => by have := h ⟨v0, hv0⟩; rw [(hone ⟨v0, hv0⟩).2.1 e] at this; exact this, fun h v => by rw [(hone v).2.1 e]; exact h⟩
        by_cases hw : Region.wanted o (yielded ops a.tmps) = true
        · refine .inl ⟨hw, fun w hw' hb => inside_allT ⟨⟨v0, hv0⟩, trivial⟩ (fun v => ?_)⟩
          rcases (hone v).2.2 with ⟨_, h3⟩ | ⟨_, h3, _⟩
          · exact h3 w hw' hb
          · rw [hw] at h3; cases h3
        · have hne : j ≠ c := by
            rcases (hone ⟨v0, hv0⟩).2.2 with ⟨h3, _⟩ | ⟨h3, _, _⟩
            · exact absurd h3 hw
            · exact h3
          refine .inr ⟨hne, by simpa using hw, fun w hw' hb v => ?_⟩
          rcases (hone v).2.2 with ⟨h3, _⟩ | ⟨_, _, h3⟩
          · exact absurd h3 hw
          · exact h3 w hw' hb
      refine ⟨_, hgood, ?_⟩
      intro u hu
      have hfree' : ∀ k ok, ops[k]? = some ok → k ≠ i → (listed.setIfInBounds j true).getD k true = false →
          (∀ e ∈ ok.after, Region.binds md e = true → e.on ≠ i) → oi.apart ops ok = true := fun k ok hk hki hun hno => by
        refine hfree k ok hk hki ?_ hno
        by_cases hjk : j = k
        · subst hjk; exact hjun
        · rw [getD_set_ne true hjk] at hun; exact hun
      have hx' : met E1 W (F.with j (fun w => ∀ v, U v w u)) (fun _ => True) := by
        obtain ⟨w, hw, hF, hv⟩ := hu
        exact ⟨w, hw, Facts.with_mk hF hv, trivial⟩
      refine ih (listed.setIfInBounds j true) (a.put o.dst u) (F.with j (fun w => ∀ v, U v w u)) (inv.set hj hjn) hfree' (ready_mono hr (Ne.symm hji)) (hm.with hgood.1 j u) hx' ((hg.same (execOp_put oi hsi a o.dst u a3) (wanted_put oi a o.dst u a3)).more) (fun v hv => ?_)
      rw [Array.setIfInBounds_comm _ _ hji, ← Act.put_comm a v u a2]
      obtain ⟨w, hw, hF, hVv⟩ := hv
      have hF' := Facts.with_of hF
      have mv : met E1 W F (fun w => V w v) := ⟨w, hw, hF'.1, hVv⟩
      exact anyFreeP_weaken hLm _ _ _ _ _ (fun e w' h' => ⟨⟨h'.1.1, h'.2⟩, fun he => h'.1.2 he ⟨v, mv⟩⟩) ((hU ⟨v, mv⟩).2 u ⟨w, hw, Facts.with_mk hF'.1 hVv, hF'.2 ⟨v, mv⟩⟩)

theorem anyFreeP_lex (hs : ∀ w w', E0.R w w' → E1.R w w') (hVc : ∀ w, E1.R W w → ∃ v w', E1.R w w' ∧ Vc w' v) {n g : Nat} {R : Act → World → Prop} (hsel : Region.noSelect ops = true)
    (hbound : ∀ listed i, HeadInv md ops n listed → i < n → listed.getD i true = false → ∀ j ∈ Region.ready md ops listed, j < n) :
    ∀ (l : List Oper) (k : Nat) (listed : Array Bool) (a : Act) (F : Facts), (∀ j, j < l.length → l[j]? = ops[k + j]?) → k + l.length = n → HeadInv md ops n listed →
    Region.lexHead md ops g l.length k listed = true → FMono E1 F → met E1 W F (fun _ => True) → wpFreeP E0 E1 c Vc P ops md W K R l k a F →
    anyFreeP E0 E1 c Vc P ops md W K n (fun listed' a' F' => Region.seqB md ops g n listed' = true ∧ ∀ w, E1.R W w → (∀ e, F' e w) → R a' w) l.length listed a F := by
  intro l
  induction l with
  | nil =>
    intro k listed a F _ hk _ hB _ _ h
    have : k = n := by simpa using hk
    subst this
    exact ⟨by simpa [Region.lexHead] using hB, h⟩
  | cons o l ih =>
    intro k listed a F hl hk inv hB hm hx h
    have h0 : ops[k]? = some o := by simpa using (hl 0 (by simp)).symm
    simp only [List.length_cons, Region.lexHead, Bool.and_eq_true] at hB
    obtain ⟨⟨hr, hf⟩, hB'⟩ := hB
    have hkn : k < n := by simp only [List.length_cons] at hk; omega
    have hr' : k ∈ Region.ready md ops listed := by simpa using hr
    obtain ⟨V, hg, hnext⟩ := h
    exact anyFreeP_first hs hVc h0 (Region.noSelect_spec hsel) hbound hkn (fun listed' a' F' hL => seqB_ready hL.1) (fun _ _ _ _ hF hL => ⟨hL.1, fun w hw h' => hL.2 w hw (fun e => hF e w (h' e))⟩) l.length listed a F inv (Region.free_spec h0 hf) hr' hm hx hg
      (fun v hv => ih (k + 1) _ _ _ (fun j hj => by have := hl (j + 1) (by simp; omega); simpa [Nat.add_assoc, Nat.add_comm 1 j] using this) (by simp only [List.length_cons] at hk; omega) (inv.set hr' hkn) hB' (hm.with hg.1 k v)
        (by obtain ⟨w, hw, hF, hv'⟩ := hv; exact ⟨w, hw, Facts.with_mk hF hv', trivial⟩) (hnext v hv))

/-- A REGION THAT DRAWS ITS ORDER, one of whose operations writes. -/
theorem region_freeP (hs : ∀ w w', E0.R w w' → E1.R w w') (K : FuncId → Array Value → World → Value → Prop) {id : Nat} {Q : Exit → Act → World → Prop} {a : Act} {w : World} {l : List Oper} (hVc : ∀ w', E1.R (w.drewN 1) w' → ∃ v w'', E1.R w' w'' ∧ Vc w'' v) (hm : P.follows .mixedOrders = true)
    (hB : (Region.noSelect l.toArray && Region.lexHead .any l.toArray 0 l.length 0 (Array.replicate l.toArray.size false)) = true)
    (h : wpFreeP E0 E1 c Vc P l.toArray .any (w.drewN 1) K (fun a' w' => Q .normal a' w') l 0 a noFacts) : (Code.region id l.toArray true).wp P Q a w := by
  simp only [Bool.and_eq_true] at hB
  obtain ⟨hsel, hlex⟩ := hB
  have hbound : ∀ listed i, HeadInv .any l.toArray l.length listed → i < l.length → listed.getD i true = false → ∀ j ∈ Region.ready .any l.toArray listed, j < l.length := by
    intro listed i _ _ _ j hj
    obtain ⟨_, oj, hoj, _⟩ := mem_ready.1 hj
    simpa using (Array.getElem?_eq_some_iff.1 hoj).1
  have H := anyFreeP_lex (md := .any) (g := 0) hs hVc hsel hbound l 0 _ a noFacts (fun j hj => by simp) (by simp) (head_start _ l.length) hlex (fun _ _ _ h => h) ⟨w.drewN 1, E1.refl _, fun _ => trivial, trivial⟩ h
  refine wp_region_any hm ?_
  have := anyFreeP_sound (Q' := Q) (W := w.drewN 1) (g := 0) hs (fun listed a' F w' hw' hF hL => ⟨by simpa [Region.seqB] using hL.1, hL.2 w' hw' hF⟩) _ _ _ _ _ (fun _ _ _ h => h) (E1.refl _) (fun _ => E0.refl _) (fun _ => trivial) H
  rw [Nat.add_zero] at this
  exact this
end
end Go.Fk

/- Regions with a call that writes: laws of single operations. Nothing here names a program. -/
namespace Go.Fk
open Go Go.RowKit
section
variable {E0 E1 : Ext} {c : Nat} {Vc : World → Value → Prop} {P : Program} {ops : Array Oper} {W : World} {K : FuncId → Array Value → World → Value → Prop} {Q : Act → World → Prop} {F : Facts} {k : Nat} {o : Oper} {rest : List Oper} {a : Act}
theorem wpFreeP_weaken : ∀ (l : List Oper) (k : Nat) (a : Act) (F F' : Facts), (∀ e w, F' e w → F e w) → wpFreeP E0 E1 c Vc P ops .any W K Q l k a F → wpFreeP E0 E1 c Vc P ops .any W K Q l k a F' := by
  intro l
  induction l with
  | nil => intro k a F F' h hh w hw hF; exact hh w hw (fun e => h e w (hF e))
  | cons o l ih =>
    intro k a F F' h hh
    obtain ⟨V, hg, hn⟩ := hh
    exact ⟨V, hg.stronger h, fun v hv => ih _ _ _ _ (fun e w hw => ⟨h e w hw.1, hw.2⟩) (hn v (hv.weaken (fun w hw e => h e w (hw e))))⟩
theorem wpFreeP_nil (h : ∀ w, E1.R W w → (∀ e, F e w) → Q a w) : wpFreeP E0 E1 c Vc P ops .any W K Q [] k a F := h
theorem wpFreeP_some (hk : k ≠ c) (hg : o.guard = none) (V : Value → Prop) (hr : ∀ w, E1.R W w → ∃ v n, (execOp a.eval o).run P w = .ok (.value v) (w.drewN n) ∧ V v)
    (h : ∀ v, V v → wpFreeP E0 E1 c Vc P ops .any W K Q rest (k + 1) (a.put o.dst v) (F.with k (fun _ => True))) : wpFreeP E0 E1 c Vc P ops .any W K Q (o :: rest) k a F := by
  refine ⟨fun _ u => V u, ⟨fun _ _ _ _ h => h, fun e => absurd e hk, .inl ⟨by simp [Region.wanted, hg], fun w hw _ => ?_⟩⟩, fun u hu => ?_⟩
  · obtain ⟨v, n, hrun, hv⟩ := hr w (by unfold preE at hw; rw [if_neg hk] at hw; exact hw)
    rw [hrun]; exact ⟨(stepE E0 E1 c k).of_le (le_drewN w n), hv⟩
  · obtain ⟨w, _, _, hv⟩ := hu
    exact wpFreeP_weaken _ _ _ _ _ (fun e w h => ⟨h.1, fun _ => trivial⟩) (h u hv)
theorem wpFreeP_one (hk : k ≠ c) (hg : o.guard = none) (v : Value) (hr : ∀ w, E1.R W w → (execOp a.eval o).run P w = .ok (.value v) w)
    (h : wpFreeP E0 E1 c Vc P ops .any W K Q rest (k + 1) (a.put o.dst v) (F.with k (fun _ => True))) : wpFreeP E0 E1 c Vc P ops .any W K Q (o :: rest) k a F :=
  wpFreeP_some hk hg (· = v) (fun w hw => ⟨v, 0, by rw [hr w hw]; rfl, rfl⟩) (by rintro u rfl; exact h)
theorem wpFreeP_quiet (hk : k ≠ c) (hnc : simple o.op = true) (h : wpQuiet P ops (fun _ => True) (fun a' => wpFreeP E0 E1 c Vc P ops .any W K Q rest (k + 1) a' (F.with k (fun _ => True))) [o] a) : wpFreeP E0 E1 c Vc P ops .any W K Q (o :: rest) k a F := by
  simp only [wpQuiet] at h
  by_cases hw : Region.wanted o (yielded ops a.tmps) = true
  · rw [if_pos hw] at h
    obtain ⟨v, h1, h2⟩ := h
    refine ⟨fun _ u => u = v, ⟨fun _ _ _ _ h => h, fun e => absurd e hk, .inl ⟨hw, fun w hw' _ => ?_⟩⟩, fun u hu => ?_⟩
    · have h3 := h1 w trivial
      unfold Oper.quietAt at h3
      generalize hrun : (execOp a.eval o).run P w = r at h3
      cases r with
      | ok n w' =>
        cases n <;> simp only [Oper.quietUpon] at h3 <;> simp only [insideT]
        case value u => exact ⟨by rw [h3.1]; exact (stepE E0 E1 c k).refl w, h3.2⟩
        case skip => exact ⟨by rw [h3.1]; exact (stepE E0 E1 c k).refl w, h3.2.symm⟩
        case enter f args => exact (noEnter hnc hrun).elim
      | halt x w' => simp only [Oper.quietUpon] at h3
    · obtain ⟨w, _, _, rfl⟩ := hu
      exact wpFreeP_weaken _ _ _ _ _ (fun e w h => ⟨h.1, fun _ => trivial⟩) h2
  · rw [if_neg hw] at h
    refine ⟨fun _ u => u = undef, ⟨fun _ _ _ _ h => h, fun e => absurd e hk, .inr ⟨hk, by simpa using hw, fun _ _ _ => rfl⟩⟩, fun u hu => ?_⟩
    obtain ⟨w, _, _, rfl⟩ := hu
    exact wpFreeP_weaken _ _ _ _ _ (fun e w h => ⟨h.1, fun _ => trivial⟩) h
theorem wpFreeP_farith (hk : k ≠ c) (hg : o.guard = none) {op : BinOp} {t t' : TypeId} {x y : Operand} (hop : o.op = Op.binOp op t x y t') (ho : arith op = true)
    {fk : FloatKind} {p q : Nat} (hx : a.eval x = .float fk p) (hy : a.eval y = .float fk q)
    (h : ∀ r, Hid (can fk r = fop op fk p q) → Hid (fits fk r) → wpFreeP E0 E1 c Vc P ops .any W K Q rest (k + 1) (a.put o.dst (.float fk r)) (F.with k (fun _ => True))) : wpFreeP E0 E1 c Vc P ops .any W K Q (o :: rest) k a F := by
  refine wpFreeP_some hk hg (fun v => ∃ r, v = .float fk r ∧ can fk r = fop op fk p q ∧ fits fk r) (fun w _ => ?_) ?_
  · obtain ⟨r, n, hrun, hr, hf⟩ := run_farith (P := P) w op ho t fk p q
    have he := eqGuard_float (P := P) w op t x y fk fk p q
    refine ⟨.float fk r, n, ?_, r, rfl, hr, hf⟩
    simp [execOp, hop, hx, hy, he, hrun, Result.andThen]
  · rintro v ⟨r, rfl, h1, h2⟩
    exact h r h1 h2
theorem wpFreeP_call (hk : k = c) (hg : o.guard = none) (hm : MonoT E1 Vc) (h1 : ∀ w, E0.R W w → insideT E1 P K w Vc ((execOp a.eval o).run P w))
    (h2 : ∀ v, (∃ w, E1.R W w ∧ Vc w v) → wpFreeP E0 E1 c Vc P ops .any W K Q rest (k + 1) (a.put o.dst v) (F.with k (fun w => Vc w v))) : wpFreeP E0 E1 c Vc P ops .any W K Q (o :: rest) k a F := by
  refine ⟨Vc, ⟨hm, fun _ => rfl, .inl ⟨by simp [Region.wanted, hg], fun w hw _ => ?_⟩⟩, fun v hv => h2 v (by obtain ⟨w, hw, _, h⟩ := hv; exact ⟨w, hw, h⟩)⟩
  unfold preE at hw
  rw [if_pos hk] at hw
  unfold stepE
  rw [if_pos hk]
  exact h1 w hw
/-- A REGION WITH FORCED LAST OPERATIONS (from number n on), one of whose first ones writes. -/
theorem region_tailP (hs : ∀ w w', E0.R w w' → E1.R w w') (K : FuncId → Array Value → World → Value → Prop) {id : Nat} {Q : Exit → Act → World → Prop} {a : Act} {w : World} {l : List Oper} (n : Nat) (hVc : ∀ w', E1.R (w.drewN 1) w' → ∃ v w'', E1.R w' w'' ∧ Vc w'' v) (hm : P.follows .mixedOrders = true) (hB : Region.lexTailB .any l.toArray n = true)
    (h : wpFreeP E0 E1 c Vc P l.toArray .any (w.drewN 1) K (fun a' w' => wpList P l.toArray Q (l.drop n) a' w') (l.take n) 0 a noFacts) : (Code.region id l.toArray true).wp P Q a w := by
  simp only [Region.lexTailB, Bool.and_eq_true, decide_eq_true_eq] at hB
  obtain ⟨⟨⟨⟨hsel, hn⟩, hs'⟩, hc⟩, hlex⟩ := hB
  have hn' : n < l.length := by simpa using hn
  have htl : (l.take n).length = n := by simp; omega
  have hdl : (l.drop n).length = l.toArray.size - n := by simp
  have hbound : ∀ listed i, HeadInv .any l.toArray n listed → i < n → listed.getD i true = false → ∀ j ∈ Region.ready .any l.toArray listed, j < n := by
    intro listed i inv hi hun j hj
    rcases Nat.lt_or_ge j n with h | h
    · exact h
    · exact absurd hj (tail_waits hs' hc hn inv _ i rfl hi hun j h)
  have H := anyFreeP_lex (md := .any) (g := l.toArray.size - n) hs hVc hsel hbound (l.take n) 0 _ a noFacts (fun j hj => by
    have hj' : j < n := by rw [htl] at hj; exact hj
    simp [hj']) (by simpa using htl) (head_start _ n) (by rw [htl]; exact hlex) (fun _ _ _ h => h) ⟨w.drewN 1, E1.refl _, fun _ => trivial, trivial⟩ h
  refine wp_region_any hm ?_
  have := anyFreeP_sound (Q' := Q) (W := w.drewN 1) (g := l.toArray.size - n) hs (fun listed a' F w' hw' hF hL => by
    have := wpAny_of_seq (md := .any) (Q' := Q) (l.drop n) n listed a' w' (fun j => by simp [List.getElem?_drop]) (by rw [hdl]; exact hL.1) (hL.2 w' hw' hF)
    rwa [hdl] at this) _ _ _ _ _ (fun _ _ _ h => h) (E1.refl _) (fun _ => E0.refl _) (fun _ => trivial) H
  rw [htl, show n + (l.toArray.size - n) = l.toArray.size by omega] at this
  exact this
end
/-- What may turn: before a call has run, all is as Pre says; behind it, as Post says. -/
def altE (S : Nat → Prop) (Pre Post : World → Prop) (h1 : ∀ w w', le w w' → Pre w → Pre w') (h2 : ∀ w w', le w w' → Post w → Post w') : Ext where
  R w w' := Chg S w w' ∧ (Post w → Post w') ∧ (Pre w ∨ Post w → Pre w' ∨ Post w')
  refl w := ⟨Chg.refl _ w, id, id⟩
  trans := by
    rintro a b c ⟨p1, p2, p3⟩ ⟨q1, q2, q3⟩
    exact ⟨p1.trans q1, fun h => q2 (p2 h), fun h => q3 (p3 h)⟩
  of_le := by
    intro a b h
    exact ⟨Chg.of_le h, h2 a b h, fun e => e.elim (fun x => .inl (h1 a b h x)) (fun x => .inr (h2 a b h x))⟩
section
variable {E0 E1 : Ext} {c : Nat} {Vc : World → Value → Prop} {P : Program} {ops : Array Oper} {W : World} {K : FuncId → Array Value → World → Value → Prop} {Q : Act → World → Prop} {F : Facts} {k : Nat} {o : Oper} {rest : List Oper} {a : Act}
/-- A cell that holds the same before and behind. -/
theorem wpFreeP_cellA (hk : k ≠ c) (hg : o.guard = none) {ty : TypeId} {x : Operand} (hop : o.op = .load ty x) {ad : Addr} (hx : a.eval x = .pointer (some ad)) {v : Value} (hv : ∀ w, E1.R W w → w.cell? ad = some v) (hu : ∀ w, (isAgg ty).run P w = .ok false w)
    (h : wpFreeP E0 E1 c Vc P ops .any W K Q rest (k + 1) (a.put o.dst v) (F.with k (fun _ => True))) : wpFreeP E0 E1 c Vc P ops .any W K Q (o :: rest) k a F := by
  refine wpFreeP_one hk hg v (fun w hw => ?_) h
  have hl : (Instr.loadAt ty (.pointer (some ad))).run P w = .ok v w := by
    simp [Instr.loadAt, Instr.sureAddr, loadVar, hu, hv w hw]
  simp [execOp, hop, hx, hl, Result.andThen]
/-- A call that only reads. -/
theorem wpFreeP_callQ (hk : k ≠ c) (hg : o.guard = none) {f : FuncId} {xs : Array Operand} {ts : Array TypeId} (hop : o.op = Op.call { callee := Callee.value (Operand.func f), args := xs, argTypes := ts }) {fn : Func} (hf : P.funcs[f]? = some fn)
    (hb : fn.body.isNone = false) (hn : (fn.name == "runtime.NumGoroutine") = false) {args : Array Value} (ha : xs.map a.eval = args) (V : Value → Prop)
    (h1 : ∀ w, E1.R W w → Calls P f args w (fun e w' => ∃ v, e = .returned v ∧ le w w' ∧ K f args w' v ∧ V v)) (hK : ∀ w v, K f args w v → V v)
    (h : ∀ v, V v → wpFreeP E0 E1 c Vc P ops .any W K Q rest (k + 1) (a.put o.dst v) (F.with k (fun _ => True))) : wpFreeP E0 E1 c Vc P ops .any W K Q (o :: rest) k a F := by
  refine ⟨fun _ u => V u, ⟨fun _ _ _ _ h => h, fun e => absurd e hk, .inl ⟨by simp [Region.wanted, hg], fun w hw _ => ?_⟩⟩, fun u hu => ?_⟩
  · rw [run_enter hop hf hb hn ha]
    unfold preE at hw
    rw [if_neg hk] at hw
    refine ⟨(stepE E0 E1 c k).refl w, (h1 w hw).mono ?_, fun w'' v hk => hK w'' v hk⟩
    rintro e w' ⟨v, rfl, hl, hk', _⟩
    exact ⟨v, rfl, (stepE E0 E1 c k).of_le hl, hk'⟩
  · obtain ⟨w, _, _, hv⟩ := hu
    exact wpFreeP_weaken _ _ _ _ _ (fun e w h => ⟨h.1, fun _ => trivial⟩) (h u hv)
/-- The call that writes. -/
theorem wpFreeP_callC (hk : k = c) (hg : o.guard = none) {f : FuncId} {xs : Array Operand} {ts : Array TypeId} (hop : o.op = Op.call { callee := Callee.value (Operand.func f), args := xs, argTypes := ts }) {fn : Func} (hf : P.funcs[f]? = some fn)
    (hb : fn.body.isNone = false) (hn : (fn.name == "runtime.NumGoroutine") = false) {args : Array Value} (ha : xs.map a.eval = args) (hm : MonoT E1 Vc)
    (h1 : ∀ w, E0.R W w → Calls P f args w (fun e w' => ∃ v, e = .returned v ∧ E1.R w w' ∧ K f args w' v)) (hK : ∀ w v, K f args w v → Vc w v)
    (h2 : ∀ v, (∃ w, E1.R W w ∧ Vc w v) → wpFreeP E0 E1 c Vc P ops .any W K Q rest (k + 1) (a.put o.dst v) (F.with k (fun w => Vc w v))) : wpFreeP E0 E1 c Vc P ops .any W K Q (o :: rest) k a F := by
  refine wpFreeP_call hk hg hm (fun w hw => ?_) h2
  rw [run_enter hop hf hb hn ha]
  exact ⟨E1.refl w, h1 w hw, fun w'' v hk => hK w'' v hk⟩
end
end Go.Fk
