/- Texts of the walk, laid in one file. -/
import Derived.WalkKit
import Derived.Test.YtmnenomjclhehaaRows
import Derived.Handy
import Derived.Below
import Derived.ArgAppend
import Derived.OwnWalk
import Derived.Great.BuildSlice
import Derived.LoopN
import Derived.Test.YtmnenomjclhehaaMb
set_option linter.unusedVariables false
set_option linter.unusedSimpArgs false
/- Sizes of types, kinds of their cells; the kinds of data. -/
namespace Go.Fk
open Go Go.RowKit
theorem partFilter_C (v0 v1 v2 v3 v4 v5 : Value) : ∀ j, j < [v1, v2, v3].length → (#[v0, v1, v2, v3, v4, v5] : Array Value)[1 + j]? = [v1, v2, v3][j]? := fun j hj => by match j, hj with | 0, _ => rfl | 1, _ => rfl | 2, _ => rfl
theorem partFilter_S (v0 v1 v2 v3 v4 v5 : Value) : ∀ j, j < [v4, v5].length → (#[v0, v1, v2, v3, v4, v5] : Array Value)[4 + j]? = [v4, v5][j]? := fun j hj => by match j, hj with | 0, _ => rfl | 1, _ => rfl
theorem partString_Loop (v0 v1 v2 v3 v4 v5 v6 v7 v8 v9 v10 v11 v12 v13 v14 : Value) : ∀ j, j < [v0, v1].length → (#[v0, v1, v2, v3, v4, v5, v6, v7, v8, v9, v10, v11, v12, v13, v14] : Array Value)[0 + j]? = [v0, v1][j]? := fun j hj => by match j, hj with | 0, _ => rfl | 1, _ => rfl
theorem partString_Tune (v0 v1 v2 v3 v4 v5 v6 v7 v8 v9 v10 v11 v12 v13 v14 : Value) : ∀ j, j < [v2, v3, v4, v5, v6, v7].length → (#[v0, v1, v2, v3, v4, v5, v6, v7, v8, v9, v10, v11, v12, v13, v14] : Array Value)[2 + j]? = [v2, v3, v4, v5, v6, v7][j]? := fun j hj => by match j, hj with | 0, _ => rfl | 1, _ => rfl | 2, _ => rfl | 3, _ => rfl | 4, _ => rfl | 5, _ => rfl
theorem partString_Damp (v0 v1 v2 v3 v4 v5 v6 v7 v8 v9 v10 v11 v12 v13 v14 : Value) : ∀ j, j < [v8, v9, v10, v11, v12, v13].length → (#[v0, v1, v2, v3, v4, v5, v6, v7, v8, v9, v10, v11, v12, v13, v14] : Array Value)[8 + j]? = [v8, v9, v10, v11, v12, v13][j]? := fun j hj => by match j, hj with | 0, _ => rfl | 1, _ => rfl | 2, _ => rfl | 3, _ => rfl | 4, _ => rfl | 5, _ => rfl
theorem partPipe_End (v0 v1 v2 v3 v4 v5 v6 v7 v8 v9 v10 v11 v12 : Value) : ∀ j, j < [v3, v4, v5, v6, v7, v8].length → (#[v0, v1, v2, v3, v4, v5, v6, v7, v8, v9, v10, v11, v12] : Array Value)[3 + j]? = [v3, v4, v5, v6, v7, v8][j]? := fun j hj => by match j, hj with | 0, _ => rfl | 1, _ => rfl | 2, _ => rfl | 3, _ => rfl | 4, _ => rfl | 5, _ => rfl
theorem partBow_Neck (v0 v1 v2 v3 v4 v5 v6 v7 v8 v9 v10 v11 : Value) : ∀ j, j < [v0, v1].length → (#[v0, v1, v2, v3, v4, v5, v6, v7, v8, v9, v10, v11] : Array Value)[0 + j]? = [v0, v1][j]? := fun j hj => by match j, hj with | 0, _ => rfl | 1, _ => rfl
theorem partBow_Bridge (v0 v1 v2 v3 v4 v5 v6 v7 v8 v9 v10 v11 : Value) : ∀ j, j < [v2, v3].length → (#[v0, v1, v2, v3, v4, v5, v6, v7, v8, v9, v10, v11] : Array Value)[2 + j]? = [v2, v3][j]? := fun j hj => by match j, hj with | 0, _ => rfl | 1, _ => rfl
theorem partBow_Damp (v0 v1 v2 v3 v4 v5 v6 v7 v8 v9 v10 v11 : Value) : ∀ j, j < [v4, v5, v6, v7, v8, v9].length → (#[v0, v1, v2, v3, v4, v5, v6, v7, v8, v9, v10, v11] : Array Value)[4 + j]? = [v4, v5, v6, v7, v8, v9][j]? := fun j hj => by match j, hj with | 0, _ => rfl | 1, _ => rfl | 2, _ => rfl | 3, _ => rfl | 4, _ => rfl | 5, _ => rfl
theorem partJet_Throat (v0 v1 v2 v3 v4 v5 v6 v7 v8 v9 v10 v11 v12 v13 v14 v15 v16 v17 : Value) : ∀ j, j < [v0, v1].length → (#[v0, v1, v2, v3, v4, v5, v6, v7, v8, v9, v10, v11, v12, v13, v14, v15, v16, v17] : Array Value)[0 + j]? = [v0, v1][j]? := fun j hj => by match j, hj with | 0, _ => rfl | 1, _ => rfl
theorem partJet_Bore (v0 v1 v2 v3 v4 v5 v6 v7 v8 v9 v10 v11 v12 v13 v14 v15 v16 v17 : Value) : ∀ j, j < [v2, v3].length → (#[v0, v1, v2, v3, v4, v5, v6, v7, v8, v9, v10, v11, v12, v13, v14, v15, v16, v17] : Array Value)[2 + j]? = [v2, v3][j]? := fun j hj => by match j, hj with | 0, _ => rfl | 1, _ => rfl
theorem partJet_Low (v0 v1 v2 v3 v4 v5 v6 v7 v8 v9 v10 v11 v12 v13 v14 v15 v16 v17 : Value) : ∀ j, j < [v4, v5, v6, v7, v8, v9].length → (#[v0, v1, v2, v3, v4, v5, v6, v7, v8, v9, v10, v11, v12, v13, v14, v15, v16, v17] : Array Value)[4 + j]? = [v4, v5, v6, v7, v8, v9][j]? := fun j hj => by match j, hj with | 0, _ => rfl | 1, _ => rfl | 2, _ => rfl | 3, _ => rfl | 4, _ => rfl | 5, _ => rfl
theorem partJet_Dc (v0 v1 v2 v3 v4 v5 v6 v7 v8 v9 v10 v11 v12 v13 v14 v15 v16 v17 : Value) : ∀ j, j < [v10, v11, v12, v13, v14, v15].length → (#[v0, v1, v2, v3, v4, v5, v6, v7, v8, v9, v10, v11, v12, v13, v14, v15, v16, v17] : Array Value)[10 + j]? = [v10, v11, v12, v13, v14, v15][j]? := fun j hj => by match j, hj with | 0, _ => rfl | 1, _ => rfl | 2, _ => rfl | 3, _ => rfl | 4, _ => rfl | 5, _ => rfl
theorem partComb_Ring (v0 v1 v2 : Value) : ∀ j, j < [v0, v1].length → (#[v0, v1, v2] : Array Value)[0 + j]? = [v0, v1][j]? := fun j hj => by match j, hj with | 0, _ => rfl | 1, _ => rfl
theorem partScore_Tuning (v0 v1 v2 v3 v4 v5 : Value) : ∀ j, j < [v1, v2, v3].length → (#[v0, v1, v2, v3, v4, v5] : Array Value)[1 + j]? = [v1, v2, v3][j]? := fun j hj => by match j, hj with | 0, _ => rfl | 1, _ => rfl | 2, _ => rfl
theorem partVoice_String (v0 v1 v2 v3 v4 v5 v6 v7 v8 v9 v10 v11 v12 v13 v14 v15 v16 v17 v18 v19 v20 v21 v22 v23 v24 v25 v26 v27 v28 v29 v30 v31 v32 v33 v34 v35 v36 v37 v38 v39 v40 v41 v42 v43 v44 : Value) : ∀ j, j < [v5, v6, v7, v8, v9, v10, v11, v12, v13, v14, v15, v16, v17, v18, v19].length → (#[v0, v1, v2, v3, v4, v5, v6, v7, v8, v9, v10, v11, v12, v13, v14, v15, v16, v17, v18, v19, v20, v21, v22, v23, v24, v25, v26, v27, v28, v29, v30, v31, v32, v33, v34, v35, v36, v37, v38, v39, v40, v41, v42, v43, v44] : Array Value)[5 + j]? = [v5, v6, v7, v8, v9, v10, v11, v12, v13, v14, v15, v16, v17, v18, v19][j]? := fun j hj => by match j, hj with | 0, _ => rfl | 1, _ => rfl | 2, _ => rfl | 3, _ => rfl | 4, _ => rfl | 5, _ => rfl | 6, _ => rfl | 7, _ => rfl | 8, _ => rfl | 9, _ => rfl | 10, _ => rfl | 11, _ => rfl | 12, _ => rfl | 13, _ => rfl | 14, _ => rfl
theorem partVoice_Pipe (v0 v1 v2 v3 v4 v5 v6 v7 v8 v9 v10 v11 v12 v13 v14 v15 v16 v17 v18 v19 v20 v21 v22 v23 v24 v25 v26 v27 v28 v29 v30 v31 v32 v33 v34 v35 v36 v37 v38 v39 v40 v41 v42 v43 v44 : Value) : ∀ j, j < [v20, v21, v22, v23, v24, v25, v26, v27, v28, v29, v30, v31, v32].length → (#[v0, v1, v2, v3, v4, v5, v6, v7, v8, v9, v10, v11, v12, v13, v14, v15, v16, v17, v18, v19, v20, v21, v22, v23, v24, v25, v26, v27, v28, v29, v30, v31, v32, v33, v34, v35, v36, v37, v38, v39, v40, v41, v42, v43, v44] : Array Value)[20 + j]? = [v20, v21, v22, v23, v24, v25, v26, v27, v28, v29, v30, v31, v32][j]? := fun j hj => by match j, hj with | 0, _ => rfl | 1, _ => rfl | 2, _ => rfl | 3, _ => rfl | 4, _ => rfl | 5, _ => rfl | 6, _ => rfl | 7, _ => rfl | 8, _ => rfl | 9, _ => rfl | 10, _ => rfl | 11, _ => rfl | 12, _ => rfl
theorem partVoice_Bow (v0 v1 v2 v3 v4 v5 v6 v7 v8 v9 v10 v11 v12 v13 v14 v15 v16 v17 v18 v19 v20 v21 v22 v23 v24 v25 v26 v27 v28 v29 v30 v31 v32 v33 v34 v35 v36 v37 v38 v39 v40 v41 v42 v43 v44 : Value) : ∀ j, j < [v33, v34, v35, v36, v37, v38, v39, v40, v41, v42, v43, v44].length → (#[v0, v1, v2, v3, v4, v5, v6, v7, v8, v9, v10, v11, v12, v13, v14, v15, v16, v17, v18, v19, v20, v21, v22, v23, v24, v25, v26, v27, v28, v29, v30, v31, v32, v33, v34, v35, v36, v37, v38, v39, v40, v41, v42, v43, v44] : Array Value)[33 + j]? = [v33, v34, v35, v36, v37, v38, v39, v40, v41, v42, v43, v44][j]? := fun j hj => by match j, hj with | 0, _ => rfl | 1, _ => rfl | 2, _ => rfl | 3, _ => rfl | 4, _ => rfl | 5, _ => rfl | 6, _ => rfl | 7, _ => rfl | 8, _ => rfl | 9, _ => rfl | 10, _ => rfl | 11, _ => rfl
theorem partPlayer_Score (v0 v1 v2 v3 v4 v5 v6 v7 v8 v9 : Value) : ∀ j, j < [v0, v1, v2, v3, v4, v5].length → (#[v0, v1, v2, v3, v4, v5, v6, v7, v8, v9] : Array Value)[0 + j]? = [v0, v1, v2, v3, v4, v5][j]? := fun j hj => by match j, hj with | 0, _ => rfl | 1, _ => rfl | 2, _ => rfl | 3, _ => rfl | 4, _ => rfl | 5, _ => rfl
theorem szL_take (cs : List CD) : ∀ k, szL (cs.take k) ≤ szL cs := by
  induction cs with
  | nil => intro k; simp
  | cons c cs ih =>
    intro k
    cases k with
    | zero => exact Nat.zero_le _
    | succ k => have := ih k; simp only [szL, List.take_succ_cons, List.map_cons, List.sum_cons] at this ⊢; omega
theorem szL_drop (cs : List CD) : ∀ k, szL (cs.drop k) ≤ szL cs := by
  induction cs with
  | nil => intro k; simp
  | cons c cs ih =>
    intro k
    cases k with
    | zero => exact Nat.le_refl _
    | succ k => have := ih k; simp only [szL, List.drop_succ_cons, List.map_cons, List.sum_cons] at this ⊢; omega
/-- A part of a struct is no greater than all of it. -/
theorem szL_le {cs ds : List CD} {m : Nat} (h : szL cs ≤ m) (i k : Nat) (e : (cs.drop i).take k = ds) : szL ds ≤ m := e ▸ Nat.le_trans (szL_take _ _) (Nat.le_trans (szL_drop _ _) h)
theorem szC_le {cs : List CD} {c : CD} {m : Nat} (h : szL cs ≤ m) (i : Nat) (e : (cs.drop i).take 1 = [c]) : c.sz ≤ m := by
  have := szL_le h i 1 e
  simpa [szL] using this
def shRing : List Sh := [.sl 1 (fun j => [.flt .f32].getD j .bool), .int .i64]
def shFilter : List Sh := [.int .i64, .flt .f32, .flt .f32, .flt .f32, .flt .f32, .flt .f32]
def shString : List Sh := [.sl 1 (fun j => [.flt .f32].getD j .bool), .int .i64, .int .i64, .flt .f32, .flt .f32, .flt .f32, .flt .f32, .flt .f32, .int .i64, .flt .f32, .flt .f32, .flt .f32, .flt .f32, .flt .f32, .flt .f32]
def shPipe : List Sh := [.sl 2 (fun j => [.sl 1 (fun j => [.flt .f32].getD j .bool), .int .i64].getD j .bool), .sl 2 (fun j => [.sl 1 (fun j => [.flt .f32].getD j .bool), .int .i64].getD j .bool), .sl 1 (fun j => [.flt .f32].getD j .bool), .int .i64, .flt .f32, .flt .f32, .flt .f32, .flt .f32, .flt .f32, .bool, .flt .f32, .flt .f32, .flt .f32]
def shBow : List Sh := [.sl 1 (fun j => [.flt .f32].getD j .bool), .int .i64, .sl 1 (fun j => [.flt .f32].getD j .bool), .int .i64, .int .i64, .flt .f32, .flt .f32, .flt .f32, .flt .f32, .flt .f32, .flt .f32, .flt .f32]
def shJet : List Sh := [.sl 1 (fun j => [.flt .f32].getD j .bool), .int .i64, .sl 1 (fun j => [.flt .f32].getD j .bool), .int .i64, .int .i64, .flt .f32, .flt .f32, .flt .f32, .flt .f32, .flt .f32, .int .i64, .flt .f32, .flt .f32, .flt .f32, .flt .f32, .flt .f32, .flt .f32, .flt .f32]
def shComb : List Sh := [.sl 1 (fun j => [.flt .f32].getD j .bool), .int .i64, .flt .f32]
def shTap : List Sh := [.int .i64, .flt .f32]
def shTuning : List Sh := [.flt .f32, .flt .f32, .sl 1 (fun j => [.flt .f32].getD j .bool)]
def shInstrument : List Sh := [.str, .int .i64, .flt .f32, .flt .f32, .flt .f32]
def shEvent : List Sh := [.int .i64, .int .i64, .int .i64, .int .i64, .int .i64, .flt .f32]
def shScore : List Sh := [.flt .f32, .flt .f32, .flt .f32, .sl 1 (fun j => [.flt .f32].getD j .bool), .sl 5 (fun j => [.str, .int .i64, .flt .f32, .flt .f32, .flt .f32].getD j .bool), .sl 6 (fun j => [.int .i64, .int .i64, .int .i64, .int .i64, .int .i64, .flt .f32].getD j .bool)]
def shVoice : List Sh := [.int .i64, .int .i64, .int .i64, .bool, .flt .f32, .sl 1 (fun j => [.flt .f32].getD j .bool), .int .i64, .int .i64, .flt .f32, .flt .f32, .flt .f32, .flt .f32, .flt .f32, .int .i64, .flt .f32, .flt .f32, .flt .f32, .flt .f32, .flt .f32, .flt .f32, .sl 2 (fun j => [.sl 1 (fun j => [.flt .f32].getD j .bool), .int .i64].getD j .bool), .sl 2 (fun j => [.sl 1 (fun j => [.flt .f32].getD j .bool), .int .i64].getD j .bool), .sl 1 (fun j => [.flt .f32].getD j .bool), .int .i64, .flt .f32, .flt .f32, .flt .f32, .flt .f32, .flt .f32, .bool, .flt .f32, .flt .f32, .flt .f32, .sl 1 (fun j => [.flt .f32].getD j .bool), .int .i64, .sl 1 (fun j => [.flt .f32].getD j .bool), .int .i64, .int .i64, .flt .f32, .flt .f32, .flt .f32, .flt .f32, .flt .f32, .flt .f32, .flt .f32]
def shPlayer : List Sh := [.flt .f32, .flt .f32, .flt .f32, .sl 1 (fun j => [.flt .f32].getD j .bool), .sl 5 (fun j => [.str, .int .i64, .flt .f32, .flt .f32, .flt .f32].getD j .bool), .sl 6 (fun j => [.int .i64, .int .i64, .int .i64, .int .i64, .int .i64, .flt .f32].getD j .bool), .sl 45 (fun j => [.int .i64, .int .i64, .int .i64, .bool, .flt .f32, .sl 1 (fun j => [.flt .f32].getD j .bool), .int .i64, .int .i64, .flt .f32, .flt .f32, .flt .f32, .flt .f32, .flt .f32, .int .i64, .flt .f32, .flt .f32, .flt .f32, .flt .f32, .flt .f32, .flt .f32, .sl 2 (fun j => [.sl 1 (fun j => [.flt .f32].getD j .bool), .int .i64].getD j .bool), .sl 2 (fun j => [.sl 1 (fun j => [.flt .f32].getD j .bool), .int .i64].getD j .bool), .sl 1 (fun j => [.flt .f32].getD j .bool), .int .i64, .flt .f32, .flt .f32, .flt .f32, .flt .f32, .flt .f32, .bool, .flt .f32, .flt .f32, .flt .f32, .sl 1 (fun j => [.flt .f32].getD j .bool), .int .i64, .sl 1 (fun j => [.flt .f32].getD j .bool), .int .i64, .int .i64, .flt .f32, .flt .f32, .flt .f32, .flt .f32, .flt .f32, .flt .f32, .flt .f32].getD j .bool), .int .i64, .int .i64, .int .i64]
def shDeed : List Sh := [.int .i64, .int .i64, .int .i64]
section
variable {P : Program} {w : World} {ops : Array Oper} {rest : List Oper} {o : Oper} {a : Act} {Q : Exit → Act → World → Prop}
/-- A value of one cell is loaded. -/
theorem wpList_load1 {w0 : World} {L : List Fact} (hF : Frg w0 w L) (hg : o.guard = none) {ty : TypeId} {x : Operand} (hop : o.op = .load ty x) {g f : Nat} (hx : a.eval x = .pointer (some ⟨g, f, none⟩)) {t : TypeId} {cs : Array Value} (hm : rowF g t cs ∈ L) {v : Value} (hv : cs[f]? = some v) (hu : ∀ w, (isAgg ty).run P w = .ok false w)
    (h : wpList P ops Q rest (a.put o.dst v) w) : wpList P ops Q (o :: rest) a w := by
  refine wpList_plain hg fun K hK' => ?_
  unfold Oper.wp execOp
  have hc : w.cell? ⟨g, f, none⟩ = some v := by rw [(hF.row hm).cell?, hv]
  have hl : (Instr.loadAt ty (.pointer (some ⟨g, f, none⟩))).run P w = .ok v w := by
    simp [Instr.loadAt, Instr.sureAddr, loadVar, hu, hc]
  simp [hop, hx, hl, Result.andThen]
  exact hK' _ _ h
/-- A value of one cell is stored. -/
theorem wpList_store1 (hg : o.guard = none) {ty : TypeId} {x y : Operand} (hop : o.op = .store ty x y) {g f : Nat} (hx : a.eval x = .pointer (some ⟨g, f, none⟩)) {v : Value} (hy : a.eval y = v) {t : TypeId} {old : Array Value}
    (hr : Row w g t old) (hi : (P.info? ty).map (·.size) = some 1) (ho : f < old.size) (h1 : v.oneCell' = true) (cs' : Array Value) (hcs : old.setIfInBounds f v = cs')
    (h : ∀ w', Wrote w w' g t cs' → wpList P ops Q rest (a.put o.dst undef) w') : wpList P ops Q (o :: rest) a w := by
  refine wpList_plain hg fun K hK' => ?_
  unfold Oper.wp execOp
  have hw := wrote_setCells [v] f old w hr
  simp only [patch, hcs, World.setCells] at hw
  have hc : w.cell? ⟨g, f, none⟩ = some old[f] := by rw [hr.cell?, Array.getElem?_eq_getElem ho]
  have hs : (store ⟨g, f, none⟩ v .plain).run P w = .ok () (w.setCell ⟨g, f, none⟩ v) := by rw [run_store P w _ v _ h1, hc]; simp [hr.frozen f]
  have hvc : v.cells = #[v] := by cases v <;> first | rfl | simp [Value.oneCell'] at h1
  cases hq : P.info? ty with
  | none => simp [hq] at hi
  | some i =>
    have hz : i.size = 1 := by simpa [hq] using hi
    have hl : (Instr.storeAt ty (.pointer (some ⟨g, f, none⟩)) v).run P w = .ok () (w.setCell ⟨g, f, none⟩ v) := by
      simp [Instr.storeAt, Instr.sureAddr, storeVar, sizeOf, typeInfo, hq, hz, hvc, storeCells, Addr.add, hs, Sem.run_bind]
    simp [hop, hx, hy, hl, Result.andThen]
    exact hK' _ _ (h _ hw)
end
end Go.Fk
namespace Go.Proofs.Ytmnenomjclhehaa
open Go.RowKit Go.Fk
theorem uinfoDeedL : (Try.prog.info? 23).map (·.size) = some 3 := by kernel_rfl
theorem uinfoDeedI : (Try.prog.info? 25).map (·.size) = some 3 := by kernel_rfl
theorem ukindFloat32S : ∀ w : World, (isAgg 35).run Try.prog w = .ok false w := fun w => by kernel_rfl
theorem ukindBool : ∀ w : World, (isAgg 4).run Try.prog w = .ok false w := fun w => by kernel_rfl
theorem ukindFloat32 : ∀ w : World, (isAgg 28).run Try.prog w = .ok false w := fun w => by kernel_rfl
theorem ukindInt64 : ∀ w : World, (isAgg 2).run Try.prog w = .ok false w := fun w => by kernel_rfl
theorem ukindString : ∀ w : World, (isAgg 9).run Try.prog w = .ok false w := fun w => by kernel_rfl
theorem uinfo1Float32S : (Try.prog.info? 35).map (·.size) = some 1 := by kernel_rfl
theorem uinfo1Bool : (Try.prog.info? 4).map (·.size) = some 1 := by kernel_rfl
theorem uinfo1Float32 : (Try.prog.info? 28).map (·.size) = some 1 := by kernel_rfl
theorem uinfo1Int64 : (Try.prog.info? 2).map (·.size) = some 1 := by kernel_rfl
theorem uinfo1String : (Try.prog.info? 9).map (·.size) = some 1 := by kernel_rfl
theorem eqU_Float32S (B B' n : Nat) (x : Nat → CD) (s s' : Value) (w : World) (h : (CD.sl 1 n x).Rd w B s) (h' : (CD.sl 1 n x).Rd w B' s') (hsh : ∀ i, i < n → ∀ j, j < 1 → ShOk ([Sh.flt .f32].getD j .bool) (x (i * 1 + j))) (hz : CD.sz (CD.sl 1 n x) ≤ 1048576) :
    Calls Try.prog 18 #[s, s'] w (OutT w) := by
  have hf := ShOk.flts hsh rfl
  rw [CD.sz_flts hf] at hz
  exact (eqR B B' s s' _ n w hz (h.rdf hf) (h'.rdf hf)).mono (fun e w' ⟨h1, m, h2⟩ => ⟨h1, h2 ▸ le_drewN _ _⟩)
theorem toU_Float32S (B n : Nat) (x : Nat → CD) (s : Value) (w : World) (h : (CD.sl 1 n x).Rd w B s) (hsh : ∀ i, i < n → ∀ j, j < 1 → ShOk ([Sh.flt .f32].getD j .bool) (x (i * 1 + j))) (hz : CD.sz (CD.sl 1 n x) ≤ 1048576) :
    Calls Try.prog 15 #[s] w (OutC (CD.sl 1 n x).cp w) := by
  have hf := ShOk.flts hsh rfl
  rw [CD.sz_flts hf] at hz
  refine (toR B s _ n w (h.rdf hf) hz).mono ?_
  rintro e w' ⟨u, rfl, ho, hl⟩
  exact ⟨u, rfl, ho.lay.congr ⟨_, rfl, fun i hi => by rw [CD.cn_fl (hf i (by simpa using hi))]; exact CD.Eqv.refl _⟩, hl⟩
end Go.Proofs.Ytmnenomjclhehaa

/- Arguments opened, type by type. -/
namespace Go.Proofs.Ytmnenomjclhehaa
open Go.RowKit Go.Fk Go.ChangeShapes
section
variable {H : Type} {enc : TypeId × Value → H} {w : World} {base : Nat} {spare : Nat → Bool} {held : Bool}
set_option maxRecDepth 100000 in
theorem opens_DeedL : Opens enc Try.prog w base spare held 23 shDeed := by
  have o0 : Opens enc Try.prog w base spare held 2 [.int .i64] := (opens_int Try.underlying2 (by kernel_rfl))
  have o1 : Opens enc Try.prog w base spare held 2 [.int .i64] := (opens_int Try.underlying2 (by kernel_rfl))
  have o2 : Opens enc Try.prog w base spare held 2 [.int .i64] := (opens_int Try.underlying2 (by kernel_rfl))
  exact (show Opens enc Try.prog w base spare held 23 ([.int .i64] ++ ([.int .i64] ++ ([.int .i64] ++ []))) from opens_struct Try.underlying23 (by kernel_rfl) (fldO_cons (l1 := [.int .i64]) (l2 := ([.int .i64] ++ ([.int .i64] ++ []))) rfl o0 (fldO_cons (l1 := [.int .i64]) (l2 := ([.int .i64] ++ [])) rfl o1 (fldO_cons (l1 := [.int .i64]) (l2 := []) rfl o2 (fldO_nil _)))))
end
end Go.Proofs.Ytmnenomjclhehaa

/- What functions give, by their results' kinds. Nothing here names a program. -/
namespace Go.Fk
open Go Go.RowKit
def Out_b (ar0 : Bool) (w : World) (e : Ending) (w' : World) : Prop := e = .returned (.bool ar0) ∧ le w w'
def Out_rfi (xr0 : Nat → Nat) (nr0 : Nat) (kr0 : Int) (ar1 : Nat) (ar2 : Int) (w : World) (e : Ending) (w' : World) : Prop := ∃ (v0 : Value) (v1 : Nat), e = .returned (.tuple #[.agg #[v0, .int .i64 kr0], .float .f32 v1, .int .i64 ar2]) ∧ OwnS w' w.heap.size w'.heap.size v0 xr0 nr0 ∧ can .f32 v1 = ar1 ∧ le w w'
def Out_fi (ar0 : Nat) (ar1 : Int) (w : World) (e : Ending) (w' : World) : Prop := ∃ (v0 : Nat), e = .returned (.tuple #[.float .f32 v0, .int .i64 ar1]) ∧ can .f32 v0 = ar0 ∧ le w w'
def Out_ri (xr0 : Nat → Nat) (nr0 : Nat) (kr0 : Int) (ar1 : Int) (w : World) (e : Ending) (w' : World) : Prop := ∃ (v0 : Value), e = .returned (.tuple #[.agg #[v0, .int .i64 kr0], .int .i64 ar1]) ∧ OwnS w' w.heap.size w'.heap.size v0 xr0 nr0 ∧ le w w'
def Out_si (xr0 : Nat → Nat) (nr0 : Nat) (kr0 : Int) (tkr0 : Int) (tar0 : Nat) (tbr0 : Nat) (tcr0 : Nat) (txr0 : Nat) (tyr0 : Nat) (dkr0 : Int) (dar0 : Nat) (dbr0 : Nat) (dcr0 : Nat) (dxr0 : Nat) (dyr0 : Nat) (lr0 : Nat) (ar1 : Int) (w : World) (e : Ending) (w' : World) : Prop := ∃ (v0 : Value), e = .returned (.tuple #[.agg #[v0, .int .i64 kr0, .int .i64 tkr0, .float .f32 tar0, .float .f32 tbr0, .float .f32 tcr0, .float .f32 txr0, .float .f32 tyr0, .int .i64 dkr0, .float .f32 dar0, .float .f32 dbr0, .float .f32 dcr0, .float .f32 dxr0, .float .f32 dyr0, .float .f32 lr0], .int .i64 ar1]) ∧ OwnS w' w.heap.size w'.heap.size v0 xr0 nr0 ∧ le w w'
def Out_sfi (xr0 : Nat → Nat) (nr0 : Nat) (kr0 : Int) (tkr0 : Int) (tar0 : Nat) (tbr0 : Nat) (tcr0 : Nat) (txr0 : Nat) (tyr0 : Nat) (dkr0 : Int) (dar0 : Nat) (dbr0 : Nat) (dcr0 : Nat) (dxr0 : Nat) (dyr0 : Nat) (lr0 : Nat) (ar1 : Nat) (ar2 : Int) (w : World) (e : Ending) (w' : World) : Prop := ∃ (v0 : Value) (v1 : Nat), e = .returned (.tuple #[.agg #[v0, .int .i64 kr0, .int .i64 tkr0, .float .f32 tar0, .float .f32 tbr0, .float .f32 tcr0, .float .f32 txr0, .float .f32 tyr0, .int .i64 dkr0, .float .f32 dar0, .float .f32 dbr0, .float .f32 dcr0, .float .f32 dxr0, .float .f32 dyr0, .float .f32 lr0], .float .f32 v1, .int .i64 ar2]) ∧ OwnS w' w.heap.size w'.heap.size v0 xr0 nr0 ∧ can .f32 v1 = ar1 ∧ le w w'
def Out_sui (xr0 : Nat → Nat) (nr0 : Nat) (kr0 : Int) (tkr0 : Int) (tar0 : Nat) (tbr0 : Nat) (tcr0 : Nat) (txr0 : Nat) (tyr0 : Nat) (dkr0 : Int) (dar0 : Nat) (dbr0 : Nat) (dcr0 : Nat) (dxr0 : Nat) (dyr0 : Nat) (lr0 : Nat) (ar1 : Int) (ar2 : Int) (w : World) (e : Ending) (w' : World) : Prop := ∃ (v0 : Value), e = .returned (.tuple #[.agg #[v0, .int .i64 kr0, .int .i64 tkr0, .float .f32 tar0, .float .f32 tbr0, .float .f32 tcr0, .float .f32 txr0, .float .f32 tyr0, .int .i64 dkr0, .float .f32 dar0, .float .f32 dbr0, .float .f32 dcr0, .float .f32 dxr0, .float .f32 dyr0, .float .f32 lr0], .int .u32 ar1, .int .i64 ar2]) ∧ OwnS w' w.heap.size w'.heap.size v0 xr0 nr0 ∧ le w w'
def Out_sli (xr0 : Nat → Nat) (nr0 : Nat) (kr0 : Int) (tkr0 : Int) (tar0 : Nat) (tbr0 : Nat) (tcr0 : Nat) (txr0 : Nat) (tyr0 : Nat) (dkr0 : Int) (dar0 : Nat) (dbr0 : Nat) (dcr0 : Nat) (dxr0 : Nat) (dyr0 : Nat) (lr0 : Nat) (xr1 : Nat → Nat) (nr1 : Nat) (ar2 : Int) (w : World) (e : Ending) (w' : World) : Prop := ∃ (v0 : Value) (v1 : Value) (q : Nat), e = .returned (.tuple #[.agg #[v0, .int .i64 kr0, .int .i64 tkr0, .float .f32 tar0, .float .f32 tbr0, .float .f32 tcr0, .float .f32 txr0, .float .f32 tyr0, .int .i64 dkr0, .float .f32 dar0, .float .f32 dbr0, .float .f32 dcr0, .float .f32 dxr0, .float .f32 dyr0, .float .f32 lr0], v1, .int .i64 ar2]) ∧ OwnS w' w.heap.size q v0 xr0 nr0 ∧ OwnS w' q w'.heap.size v1 xr1 nr1 ∧ w.heap.size ≤ q ∧ q ≤ w'.heap.size ∧ le w w'
def Out_bi (ar0 : Bool) (ar1 : Int) (w : World) (e : Ending) (w' : World) : Prop := e = .returned (.tuple #[.bool ar0, .int .i64 ar1]) ∧ le w w'
def Out_ii (ar0 : Int) (ar1 : Int) (w : World) (e : Ending) (w' : World) : Prop := e = .returned (.tuple #[.int .i64 ar0, .int .i64 ar1]) ∧ le w w'
def Out_s (xr0 : Nat → Nat) (nr0 : Nat) (kr0 : Int) (tkr0 : Int) (tar0 : Nat) (tbr0 : Nat) (tcr0 : Nat) (txr0 : Nat) (tyr0 : Nat) (dkr0 : Int) (dar0 : Nat) (dbr0 : Nat) (dcr0 : Nat) (dxr0 : Nat) (dyr0 : Nat) (lr0 : Nat) (w : World) (e : Ending) (w' : World) : Prop := ∃ (v0 : Value), e = .returned (.agg #[v0, .int .i64 kr0, .int .i64 tkr0, .float .f32 tar0, .float .f32 tbr0, .float .f32 tcr0, .float .f32 txr0, .float .f32 tyr0, .int .i64 dkr0, .float .f32 dar0, .float .f32 dbr0, .float .f32 dcr0, .float .f32 dxr0, .float .f32 dyr0, .float .f32 lr0]) ∧ OwnS w' w.heap.size w'.heap.size v0 xr0 nr0 ∧ le w w'
def Out_li (xr0 : Nat → Nat) (nr0 : Nat) (ar1 : Int) (w : World) (e : Ending) (w' : World) : Prop := ∃ (v0 : Value), e = .returned (.tuple #[v0, .int .i64 ar1]) ∧ OwnS w' w.heap.size w'.heap.size v0 xr0 nr0 ∧ le w w'
def Out_f (ar0 : Nat) (w : World) (e : Ending) (w' : World) : Prop := ∃ (v0 : Nat), e = .returned (.float .f32 v0) ∧ can .f32 v0 = ar0 ∧ le w w'
end Go.Fk

/- Laws for operations that are guarded and wanted. Nothing here names a program. -/
namespace Go.Fk
open Go Go.RowKit
section
variable {P : Program} {w : World} {ops : Array Oper} {rest : List Oper} {o : Oper} {a : Act} {Q : Exit → Act → World → Prop}
theorem wpList_wanted (hw : Region.wanted o (yielded ops a.tmps) = true) (h : ∀ K : Act → World → Prop, (∀ a w, wpList P ops Q rest a w → K a w) → o.wp P a w K Q) : wpList P ops Q (o :: rest) a w :=
  wpList_step fun K hK => by simp only [hw, if_true]; exact h K hK
theorem wpList_widenG {src dst : TypeId} {x : Operand} (hop : o.op = Op.convert src dst x) {b : Nat} (hx : a.eval x = .float .f32 b)
    (hs : P.underlying src = some (.float .f32)) (hd : P.underlying dst = some (.float .f64)) (hw : Region.wanted o (yielded ops a.tmps) = true)
    (hK : ∀ r n, Hid (can .f64 r = can .f64 (widen b)) → Hid (fits .f64 r) → wpList P ops Q rest (a.put o.dst (.float .f64 r)) (w.drewN n)) : wpList P ops Q (o :: rest) a w := by
  refine wpList_wanted hw fun K hK' => ?_
  obtain ⟨r, n, hrun, hr, hf⟩ := run_widen (P := P) w src dst b hs hd
  unfold Oper.wp
  simp [execOp, hop, hx, hrun, Result.andThen]
  exact hK' _ _ (hK r n hr hf)
end
end Go.Fk

/- Loads that may be guarded (and wanted), the cells being told as facts. Nothing here names a program. -/
namespace Go.Fk
open Go Go.RowKit
section
variable {P : Program} {w : World} {ops : Array Oper} {rest : List Oper} {o : Oper} {a : Act} {Q : Exit → Act → World → Prop}
theorem wpList_load1C {ty : TypeId} {x : Operand} (hop : o.op = .load ty x) {g f : Nat} (hx : a.eval x = .pointer (some ⟨g, f, none⟩)) {v : Value} (hw : Region.wanted o (yielded ops a.tmps) = true) {t : TypeId} {cs : Array Value} (hr : Row w g t cs) (hv : cs[f]? = some v) (hu : ∀ w, (isAgg ty).run P w = .ok false w)
    (h : wpList P ops Q rest (a.put o.dst v) w) : wpList P ops Q (o :: rest) a w := by
  refine wpList_wanted hw fun K hK' => ?_
  unfold Oper.wp execOp
  have hc : w.cell? ⟨g, f, none⟩ = some v := by rw [hr.cell?, hv]
  have hl : (Instr.loadAt ty (.pointer (some ⟨g, f, none⟩))).run P w = .ok v w := by
    simp [Instr.loadAt, Instr.sureAddr, loadVar, hu, hc]
  simp [hop, hx, hl, Result.andThen]
  exact hK' _ _ h
/-- A value of one cell is loaded, guarded or not. -/
theorem wpList_load1G {ty : TypeId} {x : Operand} (hop : o.op = .load ty x) {p : Addr} (hx : a.eval x = .pointer (some p)) {v : Value} (hw : Region.wanted o (yielded ops a.tmps) = true) (hc : w.cell? p = some v) (hu : ∀ w, (isAgg ty).run P w = .ok false w)
    (h : wpList P ops Q rest (a.put o.dst v) w) : wpList P ops Q (o :: rest) a w := by
  refine wpList_wanted hw fun K hK' => ?_
  unfold Oper.wp execOp
  have hl : (Instr.loadAt ty (.pointer (some p))).run P w = .ok v w := by
    simp [Instr.loadAt, Instr.sureAddr, loadVar, hu, hc]
  simp [hop, hx, hl, Result.andThen]
  exact hK' _ _ h
theorem wpList_load1X {ty : TypeId} {x : Operand} (hop : o.op = .load ty x) {g f : Nat} (hx : a.eval x = .pointer (some ⟨g, f, none⟩)) {v : Value} (hw : Region.wanted o (yielded ops a.tmps) = true) (hc : w.cell? ((⟨g, 0, none⟩ : Addr).add f) = some v) (hu : ∀ w, (isAgg ty).run P w = .ok false w)
    (h : wpList P ops Q rest (a.put o.dst v) w) : wpList P ops Q (o :: rest) a w := by
  refine wpList_wanted hw fun K hK' => ?_
  unfold Oper.wp execOp
  rw [add_none, Nat.zero_add] at hc
  have hl : (Instr.loadAt ty (.pointer (some ⟨g, f, none⟩))).run P w = .ok v w := by
    simp [Instr.loadAt, Instr.sureAddr, loadVar, hu, hc]
  simp [hop, hx, hl, Result.andThen]
  exact hK' _ _ h
theorem wpList_loadWC {ty : TypeId} {x : Operand} (hop : o.op = .load ty x) {p : Addr} (hx : a.eval x = .pointer (some p)) (vs : List Value) (hw : Region.wanted o (yielded ops a.tmps) = true) (hc : ∀ j v, vs[j]? = some v → w.cell? (p.add j) = some v) {d : TypeDesc} (hu : P.underlying ty = some d) (hd : d.isRow = true) {sz : Nat} (hs : (P.info? ty).map (·.size) = some sz) (hl : vs.length = sz)
    (h : wpList P ops Q rest (a.put o.dst (.agg vs.toArray)) w) : wpList P ops Q (o :: rest) a w := by
  refine wpList_wanted hw fun K hK' => ?_
  unfold Oper.wp execOp
  have hl' : (loadCells p vs.length).run P w = .ok vs.toArray w := run_loadCells_list (P := P) w p vs hc
  cases hq : P.info? ty with
  | none => simp [hq] at hs
  | some inf =>
    have hz : inf.size = vs.length := by simp [hq] at hs; omega
    have hagg : (isAgg ty).run P w = .ok true w := by
      unfold isAgg
      rw [Sem.run_bind, run_underlying hu w]
      cases d <;> simp_all
    have hL : (Instr.loadAt ty (.pointer (some p))).run P w = .ok (.agg vs.toArray) w := by
      simp [Instr.loadAt, Instr.sureAddr, loadVar, hagg, sizeOf, typeInfo, hq, hz, Sem.run_bind, hl']
    simp [hop, hx, hL, Result.andThen]
    exact hK' _ _ h
end
end Go.Fk
namespace Go.Fk
open Go Go.RowKit
/-- One call has one end: two contracts tell the same bool. -/
theorem agree_b {P : Program} {f : FuncId} {args : Array Value} {w : World} {c d : Bool} {R R' : World → Prop} (h : Calls P f args w fun e w' => e = .returned (.bool c) ∧ R w') (h' : Calls P f args w fun e w' => e = .returned (.bool d) ∧ R' w') (hi : P.inits.idxOf? f = none) : c = d := by
  have g := (h.mono (R' := fun e w' => match e, w' with | .returned v, _ => v = .bool c | _, _ => False) (fun e w' ⟨h1, _⟩ => by subst h1; rfl)).done (R := fun v _ => v = .bool c) hi
  have g' := (h'.mono (R' := fun e w' => match e, w' with | .returned v, _ => v = .bool d | _, _ => False) (fun e w' ⟨h1, _⟩ => by subst h1; rfl)).done (R := fun v _ => v = .bool d) hi
  obtain ⟨n, v, w1, e1, rfl⟩ := g
  obtain ⟨m, v', w2, e2, rfl⟩ := g'
  have a := runN_ended e1 m
  have b := runN_ended e2 n
  rw [Nat.add_comm, a] at b
  injection b with ho hw
  injection ho with hv
  injection hv
end Go.Fk

/- 'toDeed' of the laws. -/
namespace Go.Proofs.Ytmnenomjclhehaa
open Go.RowKit Go.Fk
theorem deed_vals {w : World} {B : Nat} {cs : List CD} {vs : List Value} (h : RdL w B cs vs) (hs : HasShL shDeed cs) : ∃ k a b : Int, vs = [.int .i64 k, .int .i64 a, .int .i64 b] := by
  have hsh := hs.ok
  obtain ⟨c0, cs, rfl, q0, hsh⟩ := hsh.inv
  obtain ⟨c1, cs, rfl, q1, hsh⟩ := hsh.inv
  obtain ⟨c2, cs, rfl, q2, hsh⟩ := hsh.inv
  obtain rfl := hsh.inv0
  obtain ⟨v0, vs, rfl, r0, h⟩ := h.inv
  obtain ⟨v1, vs, rfl, r1, h⟩ := h.inv
  obtain ⟨v2, vs, rfl, r2, h⟩ := h.inv
  obtain rfl := h.inv0
  obtain ⟨z0, rfl⟩ := q0
  obtain ⟨rfl, wf0⟩ := r0
  obtain ⟨z1, rfl⟩ := q1
  obtain ⟨rfl, wf1⟩ := r1
  obtain ⟨z2, rfl⟩ := q2
  obtain ⟨rfl, wf2⟩ := r2
  exact ⟨z0, z1, z2, rfl⟩
set_option maxRecDepth 100000 in
set_option maxHeartbeats 4000000 in
theorem toDeed_lit (k a b : Int) (w : World) : Calls Try.prog 9 #[.agg #[.int .i64 k, .int .i64 a, .int .i64 b]] w fun e w' => e = .returned (.agg #[.int .i64 k, .int .i64 a, .int .i64 b]) ∧ le w w' := by
  have F := (((Frg.nil w).box 23 #[.int .i64 k, .int .i64 a, .int .i64 b]).box 25 #[.int .i64 0, .int .i64 0, .int .i64 0]).box 25 #[.int .i64 0, .int .i64 0, .int .i64 0]
  simp only [World.size_alloc] at F
  go_enter Try.func9, Try.ntmps9
  go_wp2_with (first | ((with_reducible refine listN F ?_); clear F; intro wN F) | ((with_reducible refine at_load rfl ?_); first | (with_reducible refine wpList_load1 F rfl rfl rfl (by first | exact m0 | exact m1 | exact m2) (f := 0) (v := .int .i64 k) rfl ukindInt64 ?_) | (with_reducible refine wpList_load1 F rfl rfl rfl (by first | exact m0 | exact m1 | exact m2) (f := 1) (v := .int .i64 a) rfl ukindInt64 ?_) | (with_reducible refine wpList_load1 F rfl rfl rfl (by first | exact m0 | exact m1 | exact m2) (f := 2) (v := .int .i64 b) rfl ukindInt64 ?_)) | (with_reducible refine stop_store rfl ?_))
  show wpList _ _ _ _ _ _
  refine wpList_store1 rfl rfl (f := 0) rfl rfl (F.row m0) uinfo1Int64 (by simp) rfl #[.int .i64 k, .int .i64 0, .int .i64 0] rfl (fun w2 K => ?_)
  replace F := F.wrI0 (cs' := #[.int .i64 k, .int .i64 0, .int .i64 0]) K
  clear K
  go_wp2_with (first | ((with_reducible refine listN F ?_); clear F; intro wN F) | ((with_reducible refine at_load rfl ?_); first | (with_reducible refine wpList_load1 F rfl rfl rfl (by first | exact m0 | exact m1 | exact m2) (f := 0) (v := .int .i64 k) rfl ukindInt64 ?_) | (with_reducible refine wpList_load1 F rfl rfl rfl (by first | exact m0 | exact m1 | exact m2) (f := 1) (v := .int .i64 a) rfl ukindInt64 ?_) | (with_reducible refine wpList_load1 F rfl rfl rfl (by first | exact m0 | exact m1 | exact m2) (f := 2) (v := .int .i64 b) rfl ukindInt64 ?_)) | (with_reducible refine stop_store rfl ?_))
  show wpList _ _ _ _ _ _
  refine wpList_store1 rfl rfl (f := 1) rfl rfl (F.row m0) uinfo1Int64 (by simp) rfl #[.int .i64 k, .int .i64 a, .int .i64 0] rfl (fun w2 K => ?_)
  replace F := F.wrI0 (cs' := #[.int .i64 k, .int .i64 a, .int .i64 0]) K
  clear K
  go_wp2_with (first | ((with_reducible refine listN F ?_); clear F; intro wN F) | ((with_reducible refine at_load rfl ?_); first | (with_reducible refine wpList_load1 F rfl rfl rfl (by first | exact m0 | exact m1 | exact m2) (f := 0) (v := .int .i64 k) rfl ukindInt64 ?_) | (with_reducible refine wpList_load1 F rfl rfl rfl (by first | exact m0 | exact m1 | exact m2) (f := 1) (v := .int .i64 a) rfl ukindInt64 ?_) | (with_reducible refine wpList_load1 F rfl rfl rfl (by first | exact m0 | exact m1 | exact m2) (f := 2) (v := .int .i64 b) rfl ukindInt64 ?_)) | (with_reducible refine stop_store rfl ?_))
  show wpList _ _ _ _ _ _
  refine wpList_store1 rfl rfl (f := 2) rfl rfl (F.row m0) uinfo1Int64 (by simp) rfl #[.int .i64 k, .int .i64 a, .int .i64 b] rfl (fun w2 K => ?_)
  replace F := F.wrI0 (cs' := #[.int .i64 k, .int .i64 a, .int .i64 b]) K
  clear K
  go_wp2_with (first | ((with_reducible refine listN F ?_); clear F; intro wN F) | ((with_reducible refine at_load rfl ?_); (with_reducible refine wpList_loadG F rfl rfl rfl m0 Try.underlying25 rfl uinfoDeedI rfl ?_)) | (with_reducible refine stop_store rfl ?_))
  show wpList _ _ _ _ _ _
  refine wpList_storeD rfl rfl rfl (cells := #[.int .i64 k, .int .i64 a, .int .i64 b]) rfl (F.row m1) uinfoDeedI rfl (by (simp only [List.all_toArray', List.all_cons, List.all_nil, Bool.and_true, Bool.true_and]) <;> rfl) (fun w6 K => ?_)
  have R := hid K.row
  replace F := F.wrI1 K
  clear K
  go_wp2
  exact bodyPost_ret (results_row1 rfl _ _ _ _ _ rfl R.out Try.underlying25 rfl uinfoDeedI) rfl ⟨rfl, F.below⟩
end Go.Proofs.Ytmnenomjclhehaa

/- Exploration only: prints targets. -/
open Lean Elab Tactic Meta in
def cutT (s : String) : String := if s.length > 2600 then (s.take 1200).toString ++ " .......... " ++ (s.drop (s.length - 1400)).toString else s
open Lean Elab Tactic Meta in
elab "tgt" : tactic => do
  let gs ← getGoals
  logInfo m!"{gs.length} goals"
  for g in gs do
    g.withContext do
      let t ← instantiateMVars (← g.getType)
      let s := toString (← ppExpr t)
      logInfo m!"TGT: {cutT s}"

/- 'toRing' of the laws. -/
namespace Go.Fk
open Go Go.RowKit
theorem SlIn.le {w w' : World} {v : Value} {x : Nat → Nat} {n : Nat} (h : SlIn w v x n) (hl : Fk.le w w') : SlIn w' v x n := by
  rcases h with h | ⟨a, cap, h1, h2, h3, h4⟩
  · exact .inl h
  · exact .inr ⟨a, cap, h1, h2, h3, fun i hi => ⟨(Below.cell hl (cell_lt (h4 i hi).1)).trans (h4 i hi).1, (h4 i hi).2⟩⟩
theorem SlIn.small {w : World} {v : Value} {x : Nat → Nat} {n : Nat} (h : SlIn w v x n) : n ≤ 9223372036854775807 := by
  rcases h with ⟨_, rfl⟩ | ⟨a, cap, h1, h2, h3, h4⟩
  · omega
  · unfold maxLen at h3; omega
end Go.Fk
namespace Go.Proofs.Ytmnenomjclhehaa
open Go.RowKit Go.Fk
end Go.Proofs.Ytmnenomjclhehaa

/- 'szRing' and 'ValidRing' of both. -/
namespace Go.Fk
open Go Go.RowKit
def okRing (n : Nat) (k : Int) : Bool := (decide (1 ≤ (n : Int)) && decide ((n : Int) ≤ 1024)) && (decide (0 ≤ k) && decide (k < (n : Int)))
end Go.Fk
namespace Go.Proofs.Ytmnenomjclhehaa
open Go.RowKit Go.Fk
end Go.Proofs.Ytmnenomjclhehaa

/- What math.Float32bits and math.Float32frombits give. -/
namespace Go.Proofs.Ytmnenomjclhehaa
open Go.RowKit Go.Fk

@[go_sem] theorem run_f32bits (x : Nat) (w : World) : (callFunc 54 #[.float .f32 x]).run Try.prog w = .ok (.value (.int .u32 x)) w := by
  rw [run_callFunc_extern (e := Extern.MathFloatBits.float32bits) Try.func54 (by kernel_rfl) (by kernel_rfl) (by kernel_rfl) (by kernel_rfl)]; rfl
end Go.Proofs.Ytmnenomjclhehaa

/- What math.Float32frombits gives. -/
namespace Go.Proofs.Ytmnenomjclhehaa
open Go.RowKit Go.Fk

@[go_sem] theorem run_f32from (x : Int) (w : World) : (callFunc 61 #[.int .u32 x]).run Try.prog w = .ok (.value (.float .f32 x.toNat)) w := by
  rw [run_callFunc_extern (e := Extern.MathFloatBits.float32frombits) Try.func61 (by kernel_rfl) (by kernel_rfl) (by kernel_rfl) (by kernel_rfl)]; rfl
end Go.Proofs.Ytmnenomjclhehaa

/- Flushing: the plain function, the bits that it looks at, and the contracts of 'FlushSample' and 'l01Flush'. -/
namespace Go.Fk
open Go Go.RowKit

def flush (b : Nat) : Nat := if b % 2147483648 < 8388608 then 0 else b

theorem fits_flush {b : Nat} (h : fits .f32 b) : fits .f32 (flush b) := by
  unfold flush; split
  · simp [fits, Lit.wf]
  · exact h
theorem fits32 {b : Nat} (h : fits .f32 b) : b < 4294967296 := by
  simp only [fits, Lit.wf, decide_eq_true_eq] at h; omega

theorem and_low (x : Nat) : x &&& 2147483647 = x % 2147483648 := Nat.and_two_pow_sub_one_eq_mod x 31
theorem and_exp (x : Nat) (hx : x < 4294967296) : ((x &&& 2139095040) = 0) ↔ x % 2147483648 < 8388608 := by
  have e : x &&& 2139095040 = (x >>> 23 &&& 255) <<< 23 := by
    rw [Nat.shiftLeft_and_distrib]
    apply Nat.eq_of_testBit_eq
    intro i
    simp only [Nat.testBit_and, Nat.testBit_shiftLeft, Nat.testBit_shiftRight]
    by_cases hi : 23 ≤ i
    · simp only [hi, decide_true, Bool.true_and, show 23 + (i - 23) = i by omega]
      congr 1
      rw [show (2139095040 : Nat) = 255 <<< 23 by decide, Nat.testBit_shiftLeft]
      simp [hi]
    · simp only [hi, decide_false, Bool.false_and]
      rw [show (2139095040 : Nat) = 255 <<< 23 by decide, Nat.testBit_shiftLeft]
      simp [hi]
  rw [e, show (255 : Nat) = 2 ^ 8 - 1 by decide, Nat.and_two_pow_sub_one_eq_mod, Nat.shiftLeft_eq, Nat.shiftRight_eq_div_pow]
  omega

theorem bits_and_exp (x : Nat) (hx : x < 4294967296) : bits .and .u32 (x : Int) 2139095040 = ((x &&& 2139095040 : Nat) : Int) :=
  (bits_nat .u32 32 (by decide) (fun n h0 h1 => by rw [IntKind.wrap_u32]; omega) x 2139095040 (by omega) (by omega)).1
theorem bits_and_low (x : Nat) (hx : x < 4294967296) : bits .and .u32 (x : Int) 2147483647 = ((x % 2147483648 : Nat) : Int) := by
  rw [← and_low]
  exact (bits_nat .u32 32 (by decide) (fun n h0 h1 => by rw [IntKind.wrap_u32]; omega) x 2147483647 (by omega) (by omega)).1
theorem exp_zero {x : Nat} (hx : x < 4294967296) (h : x % 2147483648 < 8388608) : (bits .and .u32 (x : Int) 2139095040 == 0) = true := by
  rw [bits_and_exp x hx, (and_exp x hx).2 h]; rfl
theorem exp_pos {x : Nat} (hx : x < 4294967296) (h : ¬ x % 2147483648 < 8388608) : (bits .and .u32 (x : Int) 2139095040 == 0) = false := by
  rw [bits_and_exp x hx, beq_eq_false_iff_ne]
  intro e
  exact h ((and_exp x hx).1 (by exact_mod_cast e))

theorem order_min (r : Nat) (h : r < 2147483648) : (FloatKind.f32.format.order r 8388608 == some .lt) = decide (r < 8388608) := by
  have e1 : Ieee.single.signWeight = 2147483648 := by decide
  have e2 : Ieee.single.infRung = 2139095040 := by decide
  have e3 : Ieee.single.binade = 8388608 := by decide
  have e4 : Ieee.single.leastPlace = -149 := by decide
  have e5 : Ieee.single.read 8388608 = .number false 8388608 (-149) := by decide
  have e6 : r % 2147483648 = r := Nat.mod_eq_of_lt h
  have e7 : r / 2147483648 = 0 := by omega
  simp only [FloatKind.format, Ieee.Format.order, e5]
  simp only [Ieee.Format.read, e1, e2, e3, e4, e6, e7]
  split
  · rename_i h1
    have h0 : decide (r < 8388608) = true := by simpa using h1
    rw [h0]
    simp only [Ieee.Datum.order, Ieee.signed, beq_iff_eq, Option.some.injEq]
    refine Int.compare_eq_lt.2 ?_
    simp [Nat.shiftLeft_eq]
    omega
  · have h0 : decide (r < 8388608) = false := by simp; omega
    rw [h0, beq_eq_false_iff_ne]
    split
    · simp only [Ieee.Datum.order, Ieee.signed]
      intro h
      simp only [Option.some.injEq] at h
      have h := Int.compare_eq_lt.1 h
      rw [show min (-149 + ((r / 8388608 - 1 : Nat) : Int)) (-149) = -149 by omega] at h
      simp [Nat.shiftLeft_eq] at h
      have h3 : 0 < 2 ^ (r / 8388608 - 1) := Nat.two_pow_pos _
      have h4 : (8388608 + r % 8388608) * 1 ≤ (8388608 + r % 8388608) * 2 ^ (r / 8388608 - 1) := Nat.mul_le_mul_left _ h3
      rw [show (-149 + ((r / 8388608 - 1 : Nat) : Int) + 149).toNat = r / 8388608 - 1 by omega] at h
      generalize r / 8388608 - 1 = u at *
      have e : (((8388608 + r % 8388608) * 2 ^ u : Nat) : Int) = (8388608 + (r : Int) % 8388608) * 2 ^ u := by rw [Int.natCast_mul, Int.natCast_add, Int.natCast_emod, Int.natCast_pow]; rfl
      omega
    · split
      · simp [Ieee.Datum.order]
      · simp [Ieee.Datum.order]
end Go.Fk

namespace Go.Proofs.Ytmnenomjclhehaa
open Go.RowKit Go.Fk
end Go.Proofs.Ytmnenomjclhehaa

/- 'isNaN', 'bitsOf', 'SameSample' and their like in the model. -/
namespace Go.Proofs.Ytmnenomjclhehaa
open Go.RowKit Go.Fk

theorem i_isNaN (x : Nat) (w : World) : Calls Try.prog 53 #[.float .f32 x] w fun e w' => e = .returned (.bool (isNan .f32 x)) ∧ w = w' := by
  go_enter Try.func53, Try.ntmps53
  go_wp2
  go_ret
  exact ⟨rfl, rfl⟩
theorem s_l01NaN (x : Nat) (w : World) : Calls Try.prog 64 #[.float .f32 x] w fun e w' => e = .returned (.bool (isNan .f32 x)) ∧ w = w' := by
  go_enter Try.func64, Try.ntmps64
  go_wp2
  go_ret
  exact ⟨rfl, rfl⟩
theorem i_bitsOf (x : Nat) (w : World) : Calls Try.prog 35 #[.float .f32 x] w fun e w' => e = .returned (.int .u32 (can .f32 x)) ∧ w = w' := by
  cases h : isNan .f32 x
  all_goals
    go_enter Try.func35, Try.ntmps35
    go_wp2_with (go_at_call 53; refine (i_isNaN _ _).mono ?_; rintro e w' ⟨rfl, rfl⟩)
    go_ret
  · exact ⟨ret_i (by rw [can_of_not h]), rfl⟩
  · exact ⟨ret_i (by rw [can_of_nan h]; rfl), rfl⟩
theorem s_l01Bits (x : Nat) (w : World) : Calls Try.prog 52 #[.float .f32 x] w fun e w' => e = .returned (.int .u32 (can .f32 x)) ∧ w = w' := by
  cases h : isNan .f32 x
  all_goals
    go_enter Try.func52, Try.ntmps52
    go_wp2_with (go_at_call 64; refine (s_l01NaN _ _).mono ?_; rintro e w' ⟨rfl, rfl⟩)
    go_ret
  · exact ⟨ret_i (by rw [can_of_not h]), rfl⟩
  · exact ⟨ret_i (by rw [can_of_nan h]; rfl), rfl⟩
end Go.Proofs.Ytmnenomjclhehaa

/- Is a sample finite? -/
namespace Go.Fk
open Go Go.RowKit
/-- Is a sample finite? -/
def fin (x : Nat) : Bool := match FloatKind.f32.format.read x with | .number _ _ _ => true | _ => false
theorem fin_sub (x : Nat) : (FloatKind.f32.format.order (fop .sub .f32 x x) 0 == some .eq) = fin x := by
  cases hr : FloatKind.f32.format.read x with
  | nan s t =>
    have h : isNan .f32 x = true := by simp [isNan, hr, Ieee.Datum.isNaN]
    simp only [fin, hr, fop]
    rw [floatBits_nan_l h]
    decide
  | infinity s =>
    simp only [fin, hr, fop, floatBits, Ieee.Format.sub, Ieee.Datum.opposite, Ieee.Datum.sum]
    cases s <;> decide
  | number s m e =>
    simp only [fin, hr, fop, floatBits, Ieee.Format.sub, Ieee.Datum.opposite, Ieee.Datum.sum, Int.sub_self]
    have h1 : Ieee.signed s m (e - min e e).toNat + Ieee.signed (!s) m (e - min e e).toNat = 0 := by
      unfold Ieee.signed; cases s <;> simp <;> omega
    rw [h1]
    simp only [if_true, Option.map_some, Int.natAbs_zero, Ieee.Format.write, Ieee.Format.nearest]
    cases s <;> decide
end Go.Fk
namespace Go.Proofs.Ytmnenomjclhehaa
open Go.RowKit Go.Fk
end Go.Proofs.Ytmnenomjclhehaa

/- What a state keeps of a number; is a number finite? -/
namespace Go.Fk
open Go Go.RowKit
theorem fin_bits (x : Nat) : fin x = decide (x % 2147483648 < 2139095040) := by
  have e1 : Ieee.single.signWeight = 2147483648 := by decide
  have e2 : Ieee.single.infRung = 2139095040 := by decide
  have e3 : Ieee.single.binade = 8388608 := by decide
  have e4 : Ieee.single.leastPlace = -149 := by decide
  simp only [fin, FloatKind.format, Ieee.Format.read, e1, e2, e3, e4]
  split
  · rename_i s m e h
    split at h
    · simp; omega
    · split at h
      · simp; omega
      · split at h <;> cases h
  · rename_i h
    split at h
    · exact absurd rfl (h _ _ _)
    · split at h
      · exact absurd rfl (h _ _ _)
      · simp; omega
theorem and_exp255 (x : Nat) (hx : x < 4294967296) : ((x &&& 2139095040) = 2139095040) ↔ ¬ x % 2147483648 < 2139095040 := by
  have e : x &&& 2139095040 = (x >>> 23 &&& 255) <<< 23 := by
    rw [Nat.shiftLeft_and_distrib]
    apply Nat.eq_of_testBit_eq
    intro i
    simp only [Nat.testBit_and, Nat.testBit_shiftLeft, Nat.testBit_shiftRight]
    by_cases hi : 23 ≤ i
    · simp only [hi, decide_true, Bool.true_and, show 23 + (i - 23) = i by omega]
      congr 1
      rw [show (2139095040 : Nat) = 255 <<< 23 by decide, Nat.testBit_shiftLeft]
      simp [hi]
    · simp only [hi, decide_false, Bool.false_and]
      rw [show (2139095040 : Nat) = 255 <<< 23 by decide, Nat.testBit_shiftLeft]
      simp [hi]
  rw [e, show (255 : Nat) = 2 ^ 8 - 1 by decide, Nat.and_two_pow_sub_one_eq_mod, Nat.shiftLeft_eq, Nat.shiftRight_eq_div_pow]
  omega
theorem exp_full {x : Nat} (hx : x < 4294967296) : (bits .and .u32 (x : Int) 2139095040 == 2139095040) = !fin x := by
  rw [bits_and_exp x hx, fin_bits]
  have h := and_exp255 x hx
  by_cases c : x % 2147483648 < 2139095040
  · have : ¬ (x &&& 2139095040) = 2139095040 := fun e => (h.1 e) c
    simp only [c, decide_true, Bool.not_true, beq_eq_false_iff_ne]
    intro e
    exact this (Int.ofNat_inj.1 e)
  · simp only [c, decide_false, Bool.not_false, beq_iff_eq]
    rw [h.2 c]; rfl
/-- What a state keeps. -/
def kept (v : Nat) : Nat := if fin v = true then flush v else 0
theorem fin_can {a b : Nat} (h : can .f32 a = can .f32 b) : fin a = fin b := by
  cases hn : isNan .f32 a
  · rw [eq_of_can h hn]
  · have hm := (isNan_of_can h).symm.trans hn
    obtain ⟨s, t, h1⟩ := read_nan hn
    obtain ⟨s', t', h2⟩ := read_nan hm
    simp [fin, h1, h2]
theorem fin_num {a : Nat} (h : fin a = true) : isNan .f32 a = false := by
  cases hr : FloatKind.f32.format.read a with
  | nan s t => simp [fin, hr] at h
  | infinity s => simp [fin, hr] at h
  | number s m e => simp [isNan, hr, Ieee.Datum.isNaN]
theorem kept_can {a b : Nat} (h : can .f32 a = can .f32 b) : kept a = kept b := by
  unfold kept
  rw [← fin_can h]
  split
  · rename_i hf
    rw [eq_of_can h (fin_num hf)]
  · rfl
theorem fits_kept {b : Nat} (h : fits .f32 b) : fits .f32 (kept b) := by
  unfold kept; split
  · exact fits_flush h
  · simp [fits, Lit.wf]
theorem same0_fin {v : Nat} (h : sameB v 0 = true) : fin v = true := by
  have e : can .f32 v = can .f32 0 := by
    simp only [sameB, beq_iff_eq] at h
    exact_mod_cast h
  rw [fin_can e]; decide
end Go.Fk
namespace Go.Proofs.Ytmnenomjclhehaa
open Go.RowKit Go.Fk
end Go.Proofs.Ytmnenomjclhehaa

/- 'areUsed': the first numbers are finite, the others 0. -/
namespace Go.Fk
open Go Go.RowKit
def usedB (f : Nat → Nat) (n u : Nat) : Bool := (List.range n).all fun i => if i < u then fin (f i) else sameB (f i) 0
theorem usedB_fin {f : Nat → Nat} {n u i : Nat} (hi : i < u) (hu : u ≤ n) (h : fin (f i) = false) : usedB f n u = false := by
  simp only [usedB, List.all_eq_false, List.mem_range]
  exact ⟨i, by omega, by simp [hi, h]⟩
theorem usedB_zero {f : Nat → Nat} {n u i : Nat} (hi : u ≤ i) (hn : i < n) (h : sameB (f i) 0 = false) : usedB f n u = false := by
  simp only [usedB, List.all_eq_false, List.mem_range]
  exact ⟨i, hn, by simp [show ¬ i < u by omega, h]⟩
theorem usedB_yes {f : Nat → Nat} {n u : Nat} (h1 : ∀ i, i < u → fin (f i) = true) (h2 : ∀ i, u ≤ i → i < n → sameB (f i) 0 = true) : usedB f n u = true := by
  simp only [usedB, List.all_eq_true, List.mem_range]
  intro i hi
  by_cases c : i < u
  · simp [c, h1 i c]
  · simp [c, h2 i (by omega) hi]
/-- Are all finite? -/
def finB (f : Nat → Nat) (n : Nat) : Bool := (List.range n).all fun i => fin (f i)
theorem finB_no {f : Nat → Nat} {n i : Nat} (hi : i < n) (h : fin (f i) = false) : finB f n = false := by
  rw [Bool.eq_false_iff]; intro hh
  have := List.all_eq_true.1 hh i (List.mem_range.2 hi)
  rw [h] at this; cases this
theorem finB_yes {f : Nat → Nat} {n : Nat} (h : ∀ i, i < n → fin (f i) = true) : finB f n = true := List.all_eq_true.2 (fun i hi => h i (List.mem_range.1 hi))
theorem finB_all {f : Nat → Nat} {n : Nat} (h : finB f n = true) : ∀ i, i < n → fin (f i) = true := fun i hi => List.all_eq_true.1 h i (List.mem_range.2 hi)
theorem finB_ex {f : Nat → Nat} {n : Nat} (h : finB f n = false) : ∃ i, i < n ∧ fin (f i) = false := by
  apply Classical.byContradiction
  intro hn
  have : finB f n = true := finB_yes (fun i hi => by
    cases hb : fin (f i)
    · exact absurd ⟨i, hi, hb⟩ hn
    · rfl)
  rw [h] at this; cases this
end Go.Fk
namespace Go.Proofs.Ytmnenomjclhehaa
open Go.RowKit Go.Fk
end Go.Proofs.Ytmnenomjclhehaa

/- Values that lead to blocks' cells (never into the midst of a word): what one owns is read so. Lists of rings. Nothing here names a program. -/
namespace Go.Fk
open Go Go.RowKit
def CD.RdN (w : World) (B : Nat) : CD → Value → Prop
  | .int k z, v => CD.leaf (.int k z) v
  | .flt k x, v => CD.leaf (.flt k x) v
  | .fcn k x, v => CD.leaf (.fcn k x) v
  | .bool b, v => CD.leaf (.bool b) v
  | .str s, v => CD.leaf (.str s) v
  | .sl wd n x, v => (v = .slice none 0 0 ∧ n = 0) ∨ ∃ b o cap, v = .slice (some ⟨b, o, none⟩) n cap ∧ n ≤ cap ∧ cap ≤ maxLen ∧ ∀ i, i < n * wd → b < B ∧ ∃ u, w.cell? ⟨b, o + i, none⟩ = some u ∧ CD.RdN w B (x i) u
theorem CD.RdN.rd {w : World} {B : Nat} : ∀ {c : CD} {v : Value}, c.RdN w B v → c.Rd w B v := by
  intro c
  induction c with
  | sl wd n x ih =>
    intro v h
    rcases h with h | ⟨b, o, cap, h1, h2, h3, h4⟩
    · exact .inl h
    · exact .inr ⟨⟨b, o, none⟩, cap, h1, h2, h3, fun i hi => by obtain ⟨h5, u, h6, h7⟩ := h4 i hi; exact ⟨h5, u, by rw [add_none]; exact h6, ih i h7⟩⟩
  | _ => intro v h; exact h
theorem CD.RdN.le {w w' : World} {B : Nat} (hl : Fk.le w w') : ∀ {c : CD} {v : Value}, c.RdN w B v → c.RdN w' B v := by
  intro c
  induction c with
  | sl wd n x ih =>
    intro v h
    rcases h with h | ⟨b, o, cap, h1, h2, h3, h4⟩
    · exact .inl h
    · exact .inr ⟨b, o, cap, h1, h2, h3, fun i hi => by obtain ⟨h5, u, h6, h7⟩ := h4 i hi; exact ⟨h5, u, (Below.cell hl (cell_lt' h6)).trans h6, ih i h7⟩⟩
  | _ => intro v h; exact h
theorem CD.Lay.rdN {w : World} {B : Nat} : ∀ {c : CD} {S : Nat → Prop} {v : Value}, c.Lay w S v → (∀ j, S j → j < B) → c.RdN w B v := by
  intro c
  induction c with
  | sl wd n x ih =>
    intro S v h hS
    rcases h with h | ⟨b, o, cap, t, cs, h1, h2, h3, h4, h5, T, t1, t2, t3⟩
    · exact .inl h
    · refine .inr ⟨b, o, cap, h1, h2, h3, fun i hi => ?_⟩
      obtain ⟨u, hu, hl⟩ := t3 i hi
      exact ⟨hS b h4, u, (h5.cell? (o + i)).trans hu, ih i hl (fun j hj => hS j (t1 i j hj).1)⟩
  | _ => intro S v h _; exact h
theorem CD.RdN.form {w : World} {B wd n : Nat} {x : Nat → CD} {s : Value} (h : (CD.sl wd n x).RdN w B s) : (s = .slice none 0 0 ∧ n = 0) ∨ ∃ b o cap, s = .slice (some ⟨b, o, none⟩) n cap ∧ n ≤ cap ∧ cap ≤ maxLen := by
  rcases h with h | ⟨b, o, cap, h1, h2, h3, _⟩
  · exact .inl h
  · exact .inr ⟨b, o, cap, h1, h2, h3⟩
theorem CD.RdN.cell {w : World} {B wd n b o cap : Nat} {x : Nat → CD} (h : (CD.sl wd n x).RdN w B (.slice (some ⟨b, o, none⟩) n cap)) {i : Nat} (hi : i < n * wd) : ∃ u, w.cell? ⟨b, o + i, none⟩ = some u ∧ (x i).RdN w B u := by
  rcases h with ⟨h, _⟩ | ⟨b', o', cap', h1, _, _, h4⟩
  · cases h
  · simp only [Value.slice.injEq, Option.some.injEq, Addr.mk.injEq, and_true, true_and] at h1
    obtain ⟨⟨rfl, rfl⟩, rfl⟩ := h1
    obtain ⟨_, u, h5, h6⟩ := h4 i hi
    exact ⟨u, h5, h6⟩
def RdLN (w : World) (B : Nat) (cs : List CD) (vs : List Value) : Prop := vs.length = cs.length ∧ ∀ (i : Nat) (v : Value) (c : CD), vs[i]? = some v → cs[i]? = some c → c.RdN w B v
theorem RdLN.inv {w : World} {B : Nat} {c : CD} {cs : List CD} {vs : List Value} (h : RdLN w B (c :: cs) vs) : ∃ v vs', vs = v :: vs' ∧ c.RdN w B v ∧ RdLN w B cs vs' := by
  obtain ⟨h0, h1⟩ := h
  cases vs with
  | nil => simp at h0
  | cons v vs => exact ⟨v, vs, rfl, h1 0 v c rfl rfl, by simpa using h0, fun i v' c' hv hc => h1 (i + 1) v' c' (by simpa using hv) (by simpa using hc)⟩
theorem RdLN.inv0 {w : World} {B : Nat} {vs : List Value} (h : RdLN w B [] vs) : vs = [] := by
  have := h.1
  cases vs with
  | nil => rfl
  | cons => simp at this
theorem LayL.rdN {w : World} {B : Nat} {S : Nat → Prop} {cs : List CD} {vs : List Value} (h : LayL w S cs vs) (hS : ∀ j, S j → j < B) : RdLN w B cs vs := by
  obtain ⟨h0, T, t1, t2, t3⟩ := h
  exact ⟨h0, fun i v c hv hc => (t3 i v c hv hc).rdN (fun j hj => hS j (t1 i j hj))⟩
theorem RdLN.le {w w' : World} {B : Nat} {cs : List CD} {vs : List Value} (h : RdLN w B cs vs) (hl : Fk.le w w') : RdLN w' B cs vs := ⟨h.1, fun i v c hv hc => (h.2 i v c hv hc).le hl⟩
theorem RdLN.rd {w : World} {B : Nat} {cs : List CD} {vs : List Value} (h : RdLN w B cs vs) : RdL w B cs vs := ⟨h.1, fun i v c hv hc => (h.2 i v c hv hc).rd⟩
theorem Frg.layN {w0 w : World} {L : List Fact} (h : Frg w0 w L) {lo hi : Nat} {cs : List CD} {vs : List Value} (hm : layF lo hi cs vs ∈ L) : RdLN w hi cs vs := (h.lay hm).rdN (fun _ hj => hj.2)
/-- Do all hold? -/
def allB (p : Nat → Bool) (n : Nat) : Bool := (List.range n).all p
theorem allB_no {p : Nat → Bool} {n i : Nat} (hi : i < n) (h : p i = false) : allB p n = false := by
  rw [Bool.eq_false_iff]; intro hh
  have := List.all_eq_true.1 hh i (List.mem_range.2 hi)
  rw [h] at this; cases this
theorem allB_yes {p : Nat → Bool} {n : Nat} (h : ∀ i, i < n → p i = true) : allB p n = true := List.all_eq_true.2 (fun i hi => h i (List.mem_range.1 hi))
theorem allB_all {p : Nat → Bool} {n : Nat} (h : allB p n = true) : ∀ i, i < n → p i = true := fun i hi => List.all_eq_true.1 h i (List.mem_range.2 hi)
theorem allB_ex {p : Nat → Bool} {n : Nat} (h : allB p n = false) : ∃ i, i < n ∧ p i = false := by
  apply Classical.byContradiction
  intro hn
  have : allB p n = true := allB_yes (fun i hi => by
    cases hb : p i
    · exact absurd ⟨i, hi, hb⟩ hn
    · rfl)
  rw [h] at this; cases this
theorem finB_allB (f : Nat → Nat) (n : Nat) : finB f n = allB (fun i => fin (f i)) n := rfl
/-- The ring with an index in a list. -/
def rgN (x : Nat → CD) (k : Nat) : Nat := match x (k * 2) with | .sl _ n _ => n | _ => 0
def rgX (x : Nat → CD) (k : Nat) : Nat → Nat := match x (k * 2) with | .sl _ _ y => fun i => (y i).fx | _ => fun _ => 0
def rgK (x : Nat → CD) (k : Nat) : Int := match x (k * 2 + 1) with | .int _ z => z | _ => 0
def rgOk (x : Nat → CD) (k : Nat) : Bool := okRing (rgN x k) (rgK x k) && finB (rgX x k) (rgN x k)
/-- A list of rings. -/
def RgsOk (x : Nat → CD) (n : Nat) : Prop := ∀ k, k < n → (∃ y, x (k * 2) = .sl 1 (rgN x k) y ∧ (∀ i, i < rgN x k → (y i).flk = some .f32) ∧ rgX x k = fun i => (y i).fx) ∧ x (k * 2 + 1) = .int .i64 (rgK x k)
theorem rgs_ok {x : Nat → CD} {n : Nat} {e : Nat → Sh} (h : ∀ i, i < n → ∀ j, j < 2 → ShOk (e j) (x (i * 2 + j))) (h0 : ∃ f, e 0 = .sl 1 f ∧ f 0 = .flt .f32) (h1 : e 1 = .int .i64) : RgsOk x n := fun k hk => by
  obtain ⟨f, f0, f1⟩ := h0
  have a := h k hk 0 (by omega)
  have b := h k hk 1 (by omega)
  rw [f0] at a
  rw [h1] at b
  obtain ⟨m, y, e1, e2⟩ := a
  obtain ⟨z, e3⟩ := b
  have e1' : x (k * 2) = .sl 1 m y := by simpa using e1
  have n1 : rgN x k = m := by unfold rgN; rw [e1']
  refine ⟨⟨y, by rw [n1]; exact e1', ?_, by unfold rgX; rw [e1']⟩, ?_⟩
  · rw [n1]; exact ShOk.flts e2 f1
  · unfold rgK; rw [e3]
theorem RgsOk.rds {x : Nat → CD} {n k B : Nat} {w : World} {u : Value} (h : RgsOk x n) (hk : k < n) (hr : (x (k * 2)).Rd w B u) : RdS w B u (rgX x k) (rgN x k) := by
  obtain ⟨⟨y, e1, e2, e3⟩, _⟩ := h k hk
  rw [e1] at hr
  rw [e3]
  exact hr.rdf e2
theorem RgsOk.int {x : Nat → CD} {n k B : Nat} {w : World} {u : Value} (h : RgsOk x n) (hk : k < n) (hr : (x (k * 2 + 1)).Rd w B u) : u = .int .i64 (rgK x k) ∧ (Lit.int .i64 (rgK x k)).wf = true := by
  rw [(h k hk).2] at hr
  exact hr
/-- The rings of a list, where it lies. -/
theorem RgsOk.at {x : Nat → CD} {n k B b o cap : Nat} {w : World} (h : RgsOk x n) (hr : (CD.sl 2 n x).RdN w B (.slice (some ⟨b, o, none⟩) n cap)) (hk : k < n) : ∃ u, w.cell? ⟨b, o + k * 2, none⟩ = some u ∧ w.cell? ⟨b, o + k * 2 + 1, none⟩ = some (.int .i64 (rgK x k)) ∧ (Lit.int .i64 (rgK x k)).wf = true ∧ RdS w B u (rgX x k) (rgN x k) := by
  obtain ⟨u, h1, h2⟩ := hr.cell (i := k * 2) (by omega)
  obtain ⟨v, h3, h4⟩ := hr.cell (i := k * 2 + 1) (by omega)
  obtain ⟨rfl, h5⟩ := h.int hk h4.rd
  exact ⟨u, h1, by rw [Nat.add_assoc]; exact h3, h5, h.rds hk h2.rd⟩
end Go.Fk

/- The laws' helpers for Ring, over trees of data. -/
namespace Go.Proofs.Ytmnenomjclhehaa
open Go.RowKit Go.Fk
theorem inv_Ring {w : World} {S : Nat → Prop} {us : List Value} (n0 : Nat) (x0 : Nat → CD) (z1 : Int) (h : LayL w S (([(.sl 1 n0 x0), (.int .i64 z1)] : List CD).map CD.cp) us) : ∃ u0 : Value, u0.oneCell' = true ∧ us = [u0, .int .i64 z1] ∧ LayL w S (([(.sl 1 n0 x0), (.int .i64 z1)] : List CD).map CD.cp) [u0, .int .i64 z1] := by
  have h0 := h
  simp only [List.map_cons, List.map_nil] at h
  obtain ⟨u0, us0, _, _, rfl, l0, hh0, _, _, _⟩ := h.inv
  obtain ⟨u1, us1, _, _, rfl, l1, hh1, _, _, _⟩ := hh0.inv
  obtain ⟨rfl, _⟩ := l1
  obtain rfl := hh1.inv0
  exact ⟨u0, l0.one, rfl, h0⟩
end Go.Proofs.Ytmnenomjclhehaa

/- The laws' helpers for []Ring, over trees of data. -/
namespace Go.Proofs.Ytmnenomjclhehaa
open Go.RowKit Go.Fk
theorem sz_elRing (x : Nat → CD) (k : Nat) : sumTo (fun i => (x i).sz) ((k + 1) * 2) = sumTo (fun i => (x i).sz) (k * 2) + szL ((List.range 2).map (fun j => x (k * 2 + j))) := by
  rw [Nat.succ_mul, sumTo_add]; (simp [szL, sumTo, List.range_succ, List.sum_append]) <;> omega
theorem sz_atRing {n : Nat} (x : Nat → CD) (k : Nat) (hk : k < n) : sumTo (fun i => (x i).sz) (k * 2) + szL ((List.range 2).map (fun j => x (k * 2 + j))) ≤ sumTo (fun i => (x i).sz) (n * 2) := by
  rw [← sz_elRing]; exact sumTo_le _ (Nat.mul_le_mul_right _ hk)
end Go.Proofs.Ytmnenomjclhehaa

/- The laws' helpers for Pipe, over trees of data. -/
namespace Go.Proofs.Ytmnenomjclhehaa
open Go.RowKit Go.Fk
theorem invf_Pipe {w : World} {S : Nat → Prop} {us : List Value} (n0 : Nat) (x0 : Nat → CD) (n1 : Nat) (x1 : Nat → CD) (n2 : Nat) (x2 : Nat → CD) (z3 : Int) (c4 : CD) (c5 : CD) (c6 : CD) (c7 : CD) (c8 : CD) (b9 : Bool) (c10 : CD) (c11 : CD) (c12 : CD) (q4 : c4.flk = some .f32) (q5 : c5.flk = some .f32) (q6 : c6.flk = some .f32) (q7 : c7.flk = some .f32) (q8 : c8.flk = some .f32) (q10 : c10.flk = some .f32) (q11 : c11.flk = some .f32) (q12 : c12.flk = some .f32) (h : LayL w S (([(.sl 2 n0 x0), (.sl 2 n1 x1), (.sl 1 n2 x2), (.int .i64 z3), (c4), (c5), (c6), (c7), (c8), (.bool b9), (c10), (c11), (c12)] : List CD).map CD.cp) us) : ∃ (u0 : Value) (u1 : Value) (u2 : Value) (g4 : Nat) (g5 : Nat) (g6 : Nat) (g7 : Nat) (g8 : Nat) (g10 : Nat) (g11 : Nat) (g12 : Nat), u0.oneCell' = true ∧ u1.oneCell' = true ∧ u2.oneCell' = true ∧ us = [u0, u1, u2, .int .i64 z3, .float .f32 g4, .float .f32 g5, .float .f32 g6, .float .f32 g7, .float .f32 g8, .bool b9, .float .f32 g10, .float .f32 g11, .float .f32 g12] ∧ LayL w S (([(.sl 2 n0 x0), (.sl 2 n1 x1), (.sl 1 n2 x2), (.int .i64 z3), (c4), (c5), (c6), (c7), (c8), (.bool b9), (c10), (c11), (c12)] : List CD).map CD.cp) [u0, u1, u2, .int .i64 z3, .float .f32 g4, .float .f32 g5, .float .f32 g6, .float .f32 g7, .float .f32 g8, .bool b9, .float .f32 g10, .float .f32 g11, .float .f32 g12] := by
  have h0 := h
  simp only [List.map_cons, List.map_nil] at h
  obtain ⟨u0, us0, _, _, rfl, l0, hh0, _, _, _⟩ := h.inv
  obtain ⟨u1, us1, _, _, rfl, l1, hh1, _, _, _⟩ := hh0.inv
  obtain ⟨u2, us2, _, _, rfl, l2, hh2, _, _, _⟩ := hh1.inv
  obtain ⟨u3, us3, _, _, rfl, l3, hh3, _, _, _⟩ := hh2.inv
  obtain ⟨rfl, _⟩ := l3
  obtain ⟨u4, us4, _, _, rfl, l4, hh4, _, _, _⟩ := hh3.inv
  obtain ⟨g4, rfl⟩ := lay_fl q4 l4
  obtain ⟨u5, us5, _, _, rfl, l5, hh5, _, _, _⟩ := hh4.inv
  obtain ⟨g5, rfl⟩ := lay_fl q5 l5
  obtain ⟨u6, us6, _, _, rfl, l6, hh6, _, _, _⟩ := hh5.inv
  obtain ⟨g6, rfl⟩ := lay_fl q6 l6
  obtain ⟨u7, us7, _, _, rfl, l7, hh7, _, _, _⟩ := hh6.inv
  obtain ⟨g7, rfl⟩ := lay_fl q7 l7
  obtain ⟨u8, us8, _, _, rfl, l8, hh8, _, _, _⟩ := hh7.inv
  obtain ⟨g8, rfl⟩ := lay_fl q8 l8
  obtain ⟨u9, us9, _, _, rfl, l9, hh9, _, _, _⟩ := hh8.inv
  obtain rfl := l9
  obtain ⟨u10, us10, _, _, rfl, l10, hh10, _, _, _⟩ := hh9.inv
  obtain ⟨g10, rfl⟩ := lay_fl q10 l10
  obtain ⟨u11, us11, _, _, rfl, l11, hh11, _, _, _⟩ := hh10.inv
  obtain ⟨g11, rfl⟩ := lay_fl q11 l11
  obtain ⟨u12, us12, _, _, rfl, l12, hh12, _, _, _⟩ := hh11.inv
  obtain ⟨g12, rfl⟩ := lay_fl q12 l12
  obtain rfl := hh12.inv0
  exact ⟨u0, u1, u2, g4, g5, g6, g7, g8, g10, g11, g12, l0.one, l1.one, l2.one, rfl, h0⟩
end Go.Proofs.Ytmnenomjclhehaa

/- Rings in the laws' helpers, over facts of memory. -/
namespace Go.Fk
open Go Go.RowKit
theorem RdS.uniq {w : World} {B B' : Nat} {s : Value} {x x' : Nat → Nat} {n n' : Nat} (h : RdS w B s x n) (h' : RdS w B' s x' n') : n = n' ∧ ∀ i, i < n → x i = x' i := by
  rcases h with ⟨rfl, rfl⟩ | ⟨a, cap, rfl, _, _, h3⟩ <;> rcases h' with ⟨e, rfl⟩ | ⟨a', cap', e, _, _, h3'⟩
  · exact ⟨rfl, fun i hi => absurd hi (by omega)⟩
  · cases e
  · cases e
  · simp only [Value.slice.injEq, Option.some.injEq] at e
    obtain ⟨rfl, e2, rfl⟩ := e
    have e3 : n = n' := by omega
    subst e3
    refine ⟨rfl, fun i hi => ?_⟩
    obtain ⟨_, y, e1, _, e2⟩ := h3 i hi
    obtain ⟨_, y', e1', _, e2'⟩ := h3' i hi
    rw [e1] at e1'
    simp only [Option.some.injEq, Value.float.injEq, true_and] at e1'
    rw [← e2, ← e2', e1']
/-- What a copy of a ring is, whatever is known of it. -/
def KRing (w0 : World) (args : Array Value) (w : World) (v : Value) : Prop := ∀ s k B x n, args = #[.agg #[s, .int .i64 k]] → RdS w0 B s x n → ∃ s' B', v = .agg #[s', .int .i64 k] ∧ RdS w B' s' x n
theorem KRing.le {w0 w w' : World} {args : Array Value} {v : Value} (h : KRing w0 args w v) (hl : Fk.le w w') : KRing w0 args w' v := fun s k B x n e hr => by
  obtain ⟨s', B', e1, e2⟩ := h s k B x n e hr
  exact ⟨s', B', e1, e2.le hl⟩
end Go.Fk
namespace Go.Proofs.Ytmnenomjclhehaa
open Go.RowKit Go.Fk
end Go.Proofs.Ytmnenomjclhehaa

/- What append leaves, as a fact of memory. Nothing here names a program. -/
namespace Go.Fk
open Go Go.RowKit
def flist (y : Nat → Nat) (n : Nat) : List Value := (List.range n).map (fun j => .float .f32 (y j))
theorem flist_length (y : Nat → Nat) (n : Nat) : (flist y n).length = n := by simp [flist]
theorem flist_get {y : Nat → Nat} {n j : Nat} {u : Value} (h : (flist y n)[j]? = some u) : j < n ∧ u = .float .f32 (y j) := by
  obtain ⟨hj, e⟩ := List.getElem?_eq_some_iff.1 h
  rw [flist_length] at hj
  refine ⟨hj, ?_⟩
  rw [← e]; simp [flist]
theorem flist_get' (y : Nat → Nat) {n j : Nat} (h : j < n) : (flist y n)[j]? = some (.float .f32 (y j)) := by simp [flist, h]
theorem flist_one (y : Nat → Nat) (n : Nat) : ∀ u ∈ flist y n, u.oneCell' = true := by
  intro u hu
  simp only [flist, List.mem_map] at hu
  obtain ⟨j, _, rfl⟩ := hu; rfl
theorem flist_app (y z : Nat → Nat) (n m : Nat) : flist y n ++ flist z m = flist (fun j => if j < n then y j else z (j - n)) (n + m) := by
  apply List.ext_getElem?
  intro j
  by_cases h : j < n
  · rw [List.getElem?_append_left (by rw [flist_length]; exact h), flist_get' _ h, flist_get' _ (by omega), if_pos h]
  · rw [List.getElem?_append_right (by rw [flist_length]; omega), flist_length]
    by_cases h2 : j < n + m
    · rw [flist_get' _ (by omega), flist_get' _ h2, if_neg h]
    · rw [List.getElem?_eq_none (by rw [flist_length]; omega), List.getElem?_eq_none (by rw [flist_length]; omega)]
theorem own_of_row {w : World} {base : Nat} {v : Value} {n : Nat} {y x : Nat → Nat} (h : w.ownsRow base 28 1 v n (flist y n)) (hf : ∀ j, j < n → fits .f32 (y j) ∧ can .f32 (y j) = x j) : OwnS w base w.heap.size v x n := by
  obtain ⟨_, h⟩ := h
  rcases h with h | ⟨g, cap, cur, rfl, hb, hg, h1, h2, h3, h4⟩
  · exact .inl h
  · refine .inr ⟨g, 0, cap, cur, rfl, h1, h2, hb, (Array.getElem?_eq_some_iff.1 hg).1, hg, fun i hi => ⟨y i, ?_, hf i hi⟩⟩
    have h5 : (cur.toList.take (n * 1))[i]? = some (.float .f32 (y i)) := by rw [h4]; exact flist_get' y hi
    rw [Nat.mul_one, List.getElem?_take_of_lt hi] at h5
    rw [Nat.zero_add]; simpa using h5
theorem OwnS.get {w : World} {lo hi q0 n cap : Nat} {x : Nat → Nat} (h : OwnS w lo hi (.slice (some ⟨q0, 0, none⟩) n cap) x n) {i : Nat} (hi' : i < n) : ∃ y, w.cell? ⟨q0, i, none⟩ = some (.float .f32 y) ∧ fits .f32 y ∧ can .f32 y = x i := by
  rcases h with ⟨h, _⟩ | ⟨b, o, cap', cs, h1, h2, h3, h4, h5, h6, h7⟩
  · cases h
  · simp only [Value.slice.injEq, Option.some.injEq, Addr.mk.injEq, and_true] at h1
    obtain ⟨⟨rfl, rfl⟩, _⟩ := h1
    obtain ⟨y, e1, e2⟩ := h7 i hi'
    exact ⟨y, by rw [Nat.zero_add] at e1; exact (h6.cell? i).trans e1, e2⟩
/-- What append has left, in one block of its own. -/
theorem own_tight {w : World} {base : Nat} {v : Value} {n : Nat} {y x : Nat → Nat} (h : w.ownsRow base 28 1 v n (flist y n)) (h1n : 1 ≤ n) (hf : ∀ j, j < n → fits .f32 (y j) ∧ can .f32 (y j) = x j) :
    ∃ q cap cs, v = .slice (some ⟨q, 0, none⟩) n cap ∧ base ≤ q ∧ Row w q 28 cs ∧ OwnS w q (q + 1) v x n := by
  obtain ⟨_, h⟩ := h
  rcases h with ⟨_, h0⟩ | ⟨g, cap, cur, rfl, hb, hg, h1, h2, h3, h4⟩
  · omega
  · refine ⟨g, cap, cur, rfl, hb, hg, .inr ⟨g, 0, cap, cur, rfl, h1, h2, Nat.le_refl _, Nat.lt_succ_self _, hg, fun i hi => ⟨y i, ?_, hf i hi⟩⟩⟩
    have h5 : (cur.toList.take (n * 1))[i]? = some (.float .f32 (y i)) := by rw [h4]; exact flist_get' y hi
    rw [Nat.mul_one, List.getElem?_take_of_lt hi] at h5
    rw [Nat.zero_add]; simpa using h5
theorem le_of_grown {w w' : World} (h : w.grownBy w' none) : le w w' := ⟨h.os, h.tape, h.output, h.size, fun k hk => h.block k hk (by simp)⟩
/-- The raw words of a slice that can be read. -/
theorem RdS.raw {w : World} {B : Nat} {v : Value} {x : Nat → Nat} {n : Nat} (h : RdS w B v x n) (hn : 1 ≤ n) : ∃ (a : Addr) (cap : Nat) (y : Nat → Nat), v = .slice (some a) n cap ∧ n ≤ cap ∧ cap ≤ maxLen ∧ ∀ i, i < n → w.cell? (a.add i) = some (.float .f32 (y i)) ∧ fits .f32 (y i) ∧ can .f32 (y i) = x i := by
  rcases h with ⟨_, rfl⟩ | ⟨a, cap, rfl, h2, h3, h4⟩
  · omega
  · have : ∀ i, ∃ y, i < n → w.cell? (a.add i) = some (.float .f32 y) ∧ fits .f32 y ∧ can .f32 y = x i := fun i => by
      by_cases hi : i < n
      · obtain ⟨_, y, e⟩ := h4 i hi; exact ⟨y, fun _ => e⟩
      · exact ⟨0, fun h => absurd h hi⟩
    obtain ⟨y, hy⟩ := Classical.skolem.1 this
    exact ⟨a, cap, y, rfl, h2, h3, hy⟩
/-- The result's block g, of n cells, is written once; new blocks are made. -/
def outX (g : Nat) (t : TypeId) (n : Nat) (Fin : World → Array Value → Prop) (hm : ∀ w w' cs, le w w' → Fin w cs → Fin w' cs) : Ext where
  R w w' := Chg (· = g) w w' ∧ ((∃ cs, Row w g t cs ∧ cs.size = n) → ∃ cs, Row w' g t cs ∧ cs.size = n) ∧ ((∃ cs, Row w g t cs ∧ Fin w cs) → ∃ cs, Row w' g t cs ∧ Fin w' cs)
  refl w := ⟨Chg.refl _ _, id, id⟩
  trans := fun ⟨h1, h2, h3⟩ ⟨k1, k2, k3⟩ => ⟨h1.trans k1, fun h => k2 (h2 h), fun h => k3 (h3 h)⟩
  of_le := fun h => ⟨Chg.of_le h, fun ⟨cs, hr, hs⟩ => ⟨cs, hr.le h, hs⟩, fun ⟨cs, hr, hf⟩ => ⟨cs, hr.le h, hm _ _ _ h hf⟩⟩
theorem OwnS.chgS {w w' : World} {lo hi : Nat} {s : Value} {x : Nat → Nat} {n : Nat} {S : Nat → Prop} (h : OwnS w lo hi s x n) (k : Chg S w w') (hS : ∀ i, lo ≤ i → i < hi → ¬ S i) : OwnS w' lo hi s x n := by
  rcases h with h | ⟨b, o, cap, cs, h1, h2, h3, h4, h5, h6, h7⟩
  · exact .inl h
  · exact .inr ⟨b, o, cap, cs, h1, h2, h3, h4, h5, k.row h6 (hS b h4 h5), h7⟩
section
variable {P : Program} {ops : Array Oper} {W : World} {K : FuncId → Array Value → World → Value → Prop} {Q : Act → World → Prop} {F : Facts} {k : Nat} {o : Oper} {rest : List Oper} {a : Act}
variable {g : Nat} {t : TypeId} {m : Nat} {Fin : World → Array Value → Prop} {hm : ∀ w w' cs, le w w' → Fin w cs → Fin w' cs}
/-- A value of one cell is loaded, of a block that is not the result's. -/
theorem wpFreeD_cell (hg : o.guard = none) {ty : TypeId} {x : Operand} (hop : o.op = .load ty x) {ad : Addr} (hx : a.eval x = .pointer (some ad)) {v : Value} (hv : W.cell? ad = some v) (hne : ad.block ≠ g) (hu : ∀ w, (isAgg ty).run P w = .ok false w)
    (h : wpFreeD (outX g t m Fin hm) P ops .any W K Q rest (k + 1) (a.put o.dst v) (F.with k (fun _ => True))) : wpFreeD (outX g t m Fin hm) P ops .any W K Q (o :: rest) k a F := by
  refine wpFreeD_one hg v (fun w hw => ?_) h
  have hlt : ad.block < W.heap.size := World.block_lt_of_cell? W _ hv
  have hc : w.cell? ad = some v := (cell_of_heap (hw.1.block _ hlt hne)).trans hv
  have hl : (Instr.loadAt ty (.pointer (some ad))).run P w = .ok v w := by
    simp [Instr.loadAt, Instr.sureAddr, loadVar, hu, hc]
  simp [execOp, hop, hx, hl, Result.andThen]
/-- Append to a slice of no capacity: new memory is taken. -/
theorem wpFreeD_append {s x : Operand} (hg : o.guard = none) {t' : TypeId} (hop : o.op = Op.call { callee := Callee.builtin Builtin.append, args := #[s, x], argTypes := #[t', t'] }) {e : TypeId} (h1 : P.underlying t' = some (.slice e)) {i : TypeInfo} (h2 : P.info? e = some i) (h3 : i.zero = some (.float .f32 0)) (h4 : i.size = 1) (h5 : i.bytes = 4)
    {ao : Option Addr} (hs : a.eval s = .slice ao 0 0) {ad : Addr} {n c : Nat} {y : Nat → Nat} (hx : a.eval x = .slice (some ad) n c) (hn : 1 ≤ n) (hn2 : n ≤ 1048576) (hc : ∀ j, j < n → W.cell? (ad.add j) = some (.float .f32 (y j))) (hne : ad.block ≠ g)
    (h : ∀ q c', wpFreeD (outX g t m Fin hm) P ops .any W K Q rest (k + 1) (a.put o.dst (.slice (some ⟨q, 0, none⟩) n c')) (F.with k (fun w => ∃ B, W.heap.size ≤ B ∧ w.ownsRow B e 1 (.slice (some ⟨q, 0, none⟩) n c') n (flist y n) ∧ g < B))) (hgW : g < W.heap.size) : wpFreeD (outX g t m Fin hm) P ops .any W K Q (o :: rest) k a F := by
  refine ⟨fun w v => ∃ B, W.heap.size ≤ B ∧ w.ownsRow B e 1 v n (flist y n) ∧ g < B, ⟨fun v w w' hw hv => ?_, .inl ⟨by simp [Region.wanted, hg], fun w hw _ => ?_⟩⟩, fun v hv => ?_⟩
  rotate_left 2
  · obtain ⟨w, _, _, B, _, ho, _⟩ := hv
    rcases ho.2 with ⟨_, h0⟩ | ⟨q, c', cur, rfl, _⟩
    · omega
    · exact h q c'
  · obtain ⟨B, hB, ⟨ho1, ho⟩, hgB⟩ := hv
    refine ⟨B, hB, ⟨ho1, ?_⟩, hgB⟩
    rcases ho with ho | ⟨q, cap, cur, e1, e2, e3, e4⟩
    · exact .inl ho
    · exact .inr ⟨q, cap, cur, e1, e2, by have := hw.1.row (g := q) (t := e) (cs := cur) e3 (by omega); exact this, e4⟩
  · have hcw : ∀ j u, (flist y n)[j]? = some u → w.cell? (ad.add j) = some u := by
      intro j u hu
      obtain ⟨hj, rfl⟩ := flist_get hu
      have := hc j hj
      have hlt : (ad.add j).block < W.heap.size := World.block_lt_of_cell? W _ this
      exact (cell_of_heap (hw.1.block _ hlt (by rw [add_block]; exact hne))).trans this
    have hsz := hw.1.size
    cases ao with
    | none =>
      obtain ⟨v', w', hrun, hown, hgr, _⟩ := run_append_own (P := P) (w := w) w.heap.size t' o.type e i (.float .f32 0) 1 4 h1 h2 h3 h4 h5 rfl (by omega) (.slice none 0 0) 0 [] (World.ownsRow_nil w _ e 1) ad n c (flist y n) (by rw [flist_length]; omega) hcw (flist_one y n) (by unfold maxLen; omega) (by omega) (Nat.le_refl _)
      simp only [Nat.zero_add, List.nil_append] at hown
      simp [execOp, hop, resolve, invoke, builtin, hs, hx, hrun, Result.andThen, insideT]
      exact ⟨(outX g t m Fin hm).of_le (le_of_grown hgr), w.heap.size, hsz, hown, by omega⟩
    | some b =>
      obtain ⟨v', w', hrun, hown, hgr⟩ := run_append_arg_grows (P := P) w t' o.type e i (.float .f32 0) 1 4 h1 h2 h3 h4 h5 rfl (by omega) b 0 0 [] rfl (fun j u hu => by simp at hu) ad n c (flist y n) (by rw [flist_length]; omega) hcw (by omega) (by unfold maxLen; omega) (by omega)
      simp only [Nat.zero_add, List.nil_append] at hown
      simp [execOp, hop, resolve, invoke, builtin, hs, hx, hrun, Result.andThen, insideT]
      exact ⟨(outX g t m Fin hm).of_le (le_of_grown hgr), w.heap.size, hsz, hown, by omega⟩
/-- The result is stored. -/
theorem wpFreeD_out (hg : o.guard = none) {ty : TypeId} {x y : Operand} (hop : o.op = .store ty x y) (hx : a.eval x = .pointer (some ⟨g, 0, none⟩)) {cells : Array Value} (hy : a.eval y = .agg cells) (hty : ty = t) {old : Array Value} (hW : Row W g t old) (ho : old.size = m)
    (hF : ∀ w w', (outX g t m Fin hm).R W w → behind .any o F w → Chg (· = g) w w' → Fin w' cells) (hi : (P.info? ty).map (·.size) = some m) (hs : cells.size = m) (h1 : cells.all (·.oneCell') = true)
    (h : wpFreeD (outX g t m Fin hm) P ops .any W K Q rest (k + 1) (a.put o.dst undef) (F.with k (fun w => ∃ cs, Row w g t cs ∧ Fin w cs))) : wpFreeD (outX g t m Fin hm) P ops .any W K Q (o :: rest) k a F := by
  subst hty
  refine ⟨fun w v => v = undef ∧ ∃ cs, Row w g ty cs ∧ Fin w cs, ⟨fun v w w' hw hv => ⟨hv.1, hw.2.2 hv.2⟩, .inl ⟨by simp [Region.wanted, hg], fun w hw hbe => ?_⟩⟩, fun v hv => ?_⟩
  · obtain ⟨cs, hc, hcs⟩ := hw.2.1 ⟨old, hW, ho⟩
    have hrun := run_storeVar_row (P := P) w g ty ty cs cells hc (hs ▸ hi) (hcs.trans hs.symm) h1
    have : (execOp a.eval o).run P w = .ok .skip (w.setRow g cells) := by
      unfold execOp
      simp only [hop, hx, hy, Instr.storeAt, Instr.sureAddr, Sem.run_bind, Sem.run_pure, Result.andThen_ok, hrun]
    rw [this]
    have hrow : Row (w.setRow g cells) g ty cells := hc.setRow _
    have hch : Chg (· = g) w (w.setRow g cells) := (Chg.refl _ w).wrote (wrote_setRow hc) rfl
    have hfin := hF w _ hw hbe hch
    exact ⟨⟨hch, fun _ => ⟨cells, hrow, hs⟩, fun _ => ⟨cells, hrow, hfin⟩⟩, rfl, cells, hrow, hfin⟩
  · obtain ⟨w, _, _, rfl, _⟩ := hv
    exact wpFreeD_weaken _ _ _ _ _ (fun e w h => ⟨h.1, fun he => (h.2 he).2⟩) h
end
section
variable {E : Ext} {P : Program} {ops : Array Oper} {W : World} {K : FuncId → Array Value → World → Value → Prop} {Q : Act → World → Prop} {F : Facts} {k : Nat} {o : Oper} {rest : List Oper} {a : Act}
/-- A quiet operation: one value, in the very world. -/
theorem wpFreeD_quiet (hnc : simple o.op = true) (h : wpQuiet P ops (fun _ => True) (fun a' => wpFreeD E P ops .any W K Q rest (k + 1) a' (F.with k (fun _ => True))) [o] a) : wpFreeD E P ops .any W K Q (o :: rest) k a F := by
  simp only [wpQuiet] at h
  by_cases hw : Region.wanted o (yielded ops a.tmps) = true
  · rw [if_pos hw] at h
    obtain ⟨v, h1, h2⟩ := h
    refine ⟨fun _ u => u = v, ⟨fun _ _ _ _ h => h, .inl ⟨hw, fun w hw' _ => ?_⟩⟩, fun u hu => ?_⟩
    · have h3 := h1 w trivial
      unfold Oper.quietAt at h3
      generalize hrun : (execOp a.eval o).run P w = r at h3
      cases r with
      | ok n w' =>
        cases n <;> simp only [Oper.quietUpon] at h3 <;> simp only [insideT]
        case value u => exact ⟨by rw [h3.1]; exact E.refl w, h3.2⟩
        case skip => exact ⟨by rw [h3.1]; exact E.refl w, h3.2.symm⟩
        case enter f args => exact (noEnter hnc hrun).elim
      | halt x w' => simp only [Oper.quietUpon] at h3
    · obtain ⟨w, _, _, rfl⟩ := hu
      exact wpFreeD_weaken _ _ _ _ _ (fun e w h => ⟨h.1, fun _ => trivial⟩) h2
  · rw [if_neg hw] at h
    refine ⟨fun _ u => u = undef, ⟨fun _ _ _ _ h => h, .inr ⟨by simpa using hw, fun _ _ _ => rfl⟩⟩, fun u hu => ?_⟩
    obtain ⟨w, _, _, rfl⟩ := hu
    exact wpFreeD_weaken _ _ _ _ _ (fun e w h => ⟨h.1, fun _ => trivial⟩) h
/-- An operation of one value; what is known of those that it comes behind is carried on. -/
theorem wpFreeD_carry (hg : o.guard = none) (v : Value) (hr : ∀ w, E.R W w → (execOp a.eval o).run P w = .ok (.value v) w) (V : World → Prop) (hm : ∀ w w', E.R w w' → V w → V w') (hb : ∀ w, E.R W w → behind .any o F w → V w)
    (h : wpFreeD E P ops .any W K Q rest (k + 1) (a.put o.dst v) (F.with k V)) : wpFreeD E P ops .any W K Q (o :: rest) k a F := by
  refine ⟨fun w u => u = v ∧ V w, ⟨fun _ w w' hw h => ⟨h.1, hm w w' hw h.2⟩, .inl ⟨by simp [Region.wanted, hg], fun w hw hbe => ?_⟩⟩, fun u hu => ?_⟩
  · rw [hr w hw]; exact ⟨E.refl w, rfl, hb w hw hbe⟩
  · obtain ⟨w, _, _, rfl, _⟩ := hu
    exact wpFreeD_weaken _ _ _ _ _ (fun e w h => ⟨h.1, fun he => (h.2 he).2⟩) h
/-- An operation that makes one new block. -/
theorem wpFreeD_new (hg : o.guard = none) (f : Nat → Value) (ob : Obj) (hr : ∀ w, (execOp a.eval o).run P w = .ok (.value (f w.heap.size)) (w.alloc ob))
    (h : ∀ b, wpFreeD E P ops .any W K Q rest (k + 1) (a.put o.dst (f b)) (F.with k (fun _ => True))) : wpFreeD E P ops .any W K Q (o :: rest) k a F := by
  refine ⟨fun _ u => ∃ b, u = f b, ⟨fun _ _ _ _ h => h, .inl ⟨by simp [Region.wanted, hg], fun w hw _ => ?_⟩⟩, fun u hu => ?_⟩
  · rw [hr w]; exact ⟨E.of_le (le_alloc w ob), _, rfl⟩
  · obtain ⟨w, _, _, b, rfl⟩ := hu
    exact wpFreeD_weaken _ _ _ _ _ (fun e w h => ⟨h.1, fun _ => trivial⟩) (h b)
end
theorem run_empty {P : Program} (w : World) (t e : TypeId) (ie : TypeInfo) (hu : P.underlying t = some (.slice e)) (hie : P.info? e = some ie) : (Instr.buildSlice t 0 #[]).run P w = .ok (.slice (some ⟨w.heap.size, 0, none⟩) 0 0) (w.alloc (.cells #[] e)) := by
  have h : Instr.fill (fun i => some (i * ie.size, ie.size)) (Array.map (fun _ => (default : Value)) (Array.range 0)) [] = some #[] := by simp [Instr.fill]
  simp [Instr.buildSlice, run_underlying hu, sizeOf, typeInfo, hie, newRow, h]
theorem ownsRow_le {w w' : World} {B : Nat} {e : TypeId} {z : Nat} {v : Value} {n : Nat} {xs : List Value} (h : w.ownsRow B e z v n xs) (hl : le w w') : w'.ownsRow B e z v n xs := by
  obtain ⟨h1, h2⟩ := h
  refine ⟨h1, ?_⟩
  rcases h2 with h2 | ⟨q, cap, cur, e1, e2, e3, e4⟩
  · exact .inl h2
  · exact .inr ⟨q, cap, cur, e1, e2, by have := Row.le (g := q) (t := e) (cs := cur) e3 hl; exact this, e4⟩
/-- What a copy's result is. -/
def FinR (B : Nat) (e : TypeId) (n : Nat) (y : Nat → Nat) (k : Int) (w : World) (cs : Array Value) : Prop := ∃ s, cs = #[s, .int .i64 k] ∧ ∃ B', B ≤ B' ∧ w.ownsRow B' e 1 s n (flist y n)
theorem FinR_le (B : Nat) (e : TypeId) (n : Nat) (y : Nat → Nat) (k : Int) : ∀ w w' cs, le w w' → FinR B e n y k w cs → FinR B e n y k w' cs := fun _ _ _ hl ⟨s, h, B', hB, h2⟩ => ⟨s, h, B', hB, ownsRow_le h2 hl⟩
theorem ownsRow_out {g : Nat} {t : TypeId} {m : Nat} {Fin : World → Array Value → Prop} {hm : ∀ w w' cs, le w w' → Fin w cs → Fin w' cs} {w w' : World} {e : TypeId} {n B : Nat} {xs : List Value} {v : Value} (hw : (outX g t m Fin hm).R w w') (h : w.ownsRow B e 1 v n xs) (hg : g < B) : w'.ownsRow B e 1 v n xs := by
  obtain ⟨h1, h2⟩ := h
  refine ⟨h1, ?_⟩
  rcases h2 with h2 | ⟨q, cap, cur, e1, e2, e3, e4⟩
  · exact .inl h2
  · exact .inr ⟨q, cap, cur, e1, e2, by have := hw.1.row (g := q) (t := e) (cs := cur) e3 (by omega); exact this, e4⟩
theorem ownsRow_ch {g : Nat} {w w' : World} {e : TypeId} {n B : Nat} {xs : List Value} {v : Value} (hw : Chg (· = g) w w') (h : w.ownsRow B e 1 v n xs) (hg : g < B) : w'.ownsRow B e 1 v n xs := by
  obtain ⟨h1, h2⟩ := h
  refine ⟨h1, ?_⟩
  rcases h2 with h2 | ⟨q, cap, cur, e1, e2, e3, e4⟩
  · exact .inl h2
  · exact .inr ⟨q, cap, cur, e1, e2, by have := hw.row (g := q) (t := e) (cs := cur) e3 (by omega); exact this, e4⟩
theorem ownsRow_one {w : World} {B : Nat} {e : TypeId} {z : Nat} {v : Value} {n : Nat} {xs : List Value} (h : w.ownsRow B e z v n xs) : v.oneCell' = true := by
  rcases h.2 with ⟨rfl, _⟩ | ⟨q, cap, cur, rfl, _⟩ <;> rfl
namespace Frg
variable {w0 w w' : World}
/-- The two newest facts' blocks are written. -/
theorem chg2 {e1 e2 e1' e2' : Fact} {l : List Fact} (h : Frg w0 w (e1 :: e2 :: l)) (k : Chg (fun i => rng e1.lo e1.hi i ∨ rng e2.lo e2.hi i) w w') (p1 : e1'.p w') (p2 : e2'.p w') (l1 : e1'.lo = e1.lo) (h1 : e1'.hi = e1.hi) (l2 : e2'.lo = e2.lo) (h2 : e2'.hi = e2.hi) : Frg w0 w' (e1' :: e2' :: l) := by
  have f1 := h.facts e1 (by simp)
  have f2 := h.facts e2 (by simp)
  have a1 := List.pairwise_cons.1 h.apart
  have a2 := List.pairwise_cons.1 a1.2
  have b12 := a1.1 e2 (by simp)
  refine ⟨h.below.trans (k.below (fun i hi => by rcases hi with hi | hi; exact Nat.le_trans f1.1 hi.1; exact Nat.le_trans f2.1 hi.1) h.size), fun x hx => ?_, ?_⟩
  · rcases List.mem_cons.1 hx with rfl | hx
    · exact ⟨by omega, by have := k.size; omega, p1⟩
    rcases List.mem_cons.1 hx with rfl | hx
    · exact ⟨by omega, by have := k.size; omega, p2⟩
    · have hx' := h.facts x (by simp [hx])
      have ha := a2.1 x hx
      have ha1 := a1.1 x (by simp [hx])
      exact ⟨hx'.1, Nat.le_trans hx'.2.1 k.size, x.ok w w' hx'.2.2 (fun i a b => k.block i (by omega) (fun c => by rcases c with c | c <;> (have := c.1; omega)))⟩
  · refine List.pairwise_cons.2 ⟨fun x hx => ?_, List.pairwise_cons.2 ⟨fun x hx => by have := a2.1 x hx; omega, a2.2⟩⟩
    rcases List.mem_cons.1 hx with rfl | hx
    · omega
    · have := a1.1 x (by simp [hx]); omega
/-- A ring's struct and its samples, behind a push. -/
theorem pushed {g lo hi n : Nat} {t : TypeId} {cs cs' : Array Value} {s : Value} {x x' : Nat → Nat} {l : List Fact} (h : Frg w0 w (rowF g t cs :: ownF lo hi s x n :: l)) (hr : Row w' g t cs') (ho : OwnS w' lo hi s x' n) (k : Chg (fun i => i = g ∨ lo ≤ i ∧ i < hi) w w') : Frg w0 w' (rowF g t cs' :: ownF lo hi s x' n :: l) := by
  refine h.chg2 (k.mono (fun i hi' => ?_)) hr ho rfl rfl rfl rfl
  rcases hi' with rfl | hi'
  · exact .inl ⟨Nat.le_refl _, Nat.lt_succ_self _⟩
  · exact .inr hi'
theorem not_in {g lo hi n : Nat} {t : TypeId} {cs : Array Value} {s : Value} {x : Nat → Nat} {l : List Fact} (h : Frg w0 w (rowF g t cs :: ownF lo hi s x n :: l)) : ¬ (lo ≤ g ∧ g < hi) := by
  have a1 : hi ≤ g := (List.pairwise_cons.1 h.apart).1 (ownF lo hi s x n) (by simp)
  omega
/-- The result is stored: what it has is the call's own. -/
theorem fin1 {g lo hi n : Nat} {t : TypeId} {cs cs' : Array Value} {s : Value} {x : Nat → Nat} {e : Fact} {l : List Fact} (h : Frg w0 w (e :: ownF lo hi s x n :: rowF g t cs :: l)) (k : Wrote w w' g t cs') : OwnS w' w0.heap.size w'.heap.size s x n ∧ Fk.le w0 w' := by
  have a1 := (List.pairwise_cons.1 h.apart).2
  have a2 : g + 1 ≤ lo := (List.pairwise_cons.1 a1).1 (rowF g t cs) (by simp)
  have f1 := h.facts (ownF lo hi s x n) (by simp)
  have f2 := h.facts (rowF g t cs) (by simp)
  have hc : Chg (· = g) w w' := (Chg.refl _ w).wrote k rfl
  refine ⟨((OwnS.chgS f1.2.2 hc (fun i h1 h2 h3 => by have h1' : lo ≤ i := h1; have h3' : i = g := h3; omega)).mono f1.1 (Nat.le_trans f1.2.1 hc.size)), h.below.trans (hc.below (fun i hi => by have hi' : i = g := hi; subst hi'; exact f2.1) h.size)⟩
theorem fin0 {g lo hi n : Nat} {t : TypeId} {cs cs' : Array Value} {s : Value} {x : Nat → Nat} {l : List Fact} (h : Frg w0 w (ownF lo hi s x n :: rowF g t cs :: l)) (k : Wrote w w' g t cs') : OwnS w' w0.heap.size w'.heap.size s x n ∧ Fk.le w0 w' := by
  have a2 : g + 1 ≤ lo := (List.pairwise_cons.1 h.apart).1 (rowF g t cs) (by simp)
  have f1 := h.facts (ownF lo hi s x n) (by simp)
  have f2 := h.facts (rowF g t cs) (by simp)
  have hc : Chg (· = g) w w' := (Chg.refl _ w).wrote k rfl
  refine ⟨((OwnS.chgS f1.2.2 hc (fun i h1 h2 h3 => by have h1' : lo ≤ i := h1; have h3' : i = g := h3; omega)).mono f1.1 (Nat.le_trans f1.2.1 hc.size)), h.below.trans (hc.below (fun i hi => by have hi' : i = g := hi; subst hi'; exact f2.1) h.size)⟩
theorem fin2 {g lo hi n : Nat} {t : TypeId} {cs cs' : Array Value} {s : Value} {x : Nat → Nat} {e : Fact} {l : List Fact} (h : Frg w0 w (ownF lo hi s x n :: e :: rowF g t cs :: l)) (k : Wrote w w' g t cs') : OwnS w' w0.heap.size w'.heap.size s x n ∧ Fk.le w0 w' := by
  have a2 : g + 1 ≤ lo := (List.pairwise_cons.1 h.apart).1 (rowF g t cs) (by simp)
  have f1 := h.facts (ownF lo hi s x n) (by simp)
  have f2 := h.facts (rowF g t cs) (by simp)
  have hc : Chg (· = g) w w' := (Chg.refl _ w).wrote k rfl
  refine ⟨((OwnS.chgS f1.2.2 hc (fun i h1 h2 h3 => by have h1' : lo ≤ i := h1; have h3' : i = g := h3; omega)).mono f1.1 (Nat.le_trans f1.2.1 hc.size)), h.below.trans (hc.below (fun i hi => by have hi' : i = g := hi; subst hi'; exact f2.1) h.size)⟩
end Frg
end Go.Fk

/- Which filters are valid: the plain function, the model's contract and the program's. -/
namespace Go.Fk
open Go Go.RowKit
/-- How many numbers and states a kind uses. -/
def cU (k : Int) : Nat := if k = 1 ∨ k = 2 then 2 else if k = 3 ∨ k = 5 then 1 else 3
def sU (k : Int) : Nat := if k = 1 ∨ k = 2 then 1 else 2
/-- Is a filter valid? -/
def okF (k : Int) (a b c x y : Nat) : Bool := (decide (1 ≤ k) && decide (k ≤ 5)) && (usedB (tri a b c) 3 (cU k) && usedB (duo x y) 2 (sU k))
theorem okF_kind {k : Int} {a b c x y : Nat} (h : okF k a b c x y = true) : 1 ≤ k ∧ k ≤ 5 := by
  simp only [okF, Bool.and_eq_true, decide_eq_true_eq] at h; exact h.1
theorem okF_out {k : Int} {a b c x y : Nat} (h : ¬ (1 ≤ k ∧ k ≤ 5)) : okF k a b c x y = false := by
  cases e : okF k a b c x y
  · rfl
  · exact absurd (okF_kind e) h
theorem cU_le (k : Int) : cU k ≤ 3 := by unfold cU; split; omega; split <;> omega
theorem sU_le (k : Int) : sU k ≤ 2 := by unfold sU; split <;> omega
theorem Row.six {w : World} {g : Nat} {t : TypeId} {v0 v1 v2 v3 v4 v5 : Value} (h : Row w g t #[v0, v1, v2, v3, v4, v5]) :
    w.cell? ⟨g, 0, none⟩ = some v0 ∧ w.cell? ⟨g, 1, none⟩ = some v1 ∧ w.cell? ⟨g, 2, none⟩ = some v2 ∧ w.cell? ⟨g, 3, none⟩ = some v3 ∧ w.cell? ⟨g, 4, none⟩ = some v4 ∧ w.cell? ⟨g, 5, none⟩ = some v5 :=
  ⟨h.cell? 0, h.cell? 1, h.cell? 2, h.cell? 3, h.cell? 4, h.cell? 5⟩
theorem Row.tri {w : World} {g : Nat} {t : TypeId} {k : Int} {a b c x y : Nat} (h : Row w g t (#[.int .i64 k, .float .f32 a, .float .f32 b, .float .f32 c, .float .f32 x, .float .f32 y] : Array Value)) (i : Nat) (hi : i < 3) : w.cell? ⟨g, 1 + i, none⟩ = some (.float .f32 (tri a b c i)) := by
  match i, hi with
  | 0, _ => exact h.cell? 1
  | 1, _ => exact h.cell? 2
  | 2, _ => exact h.cell? 3
theorem Row.duo {w : World} {g : Nat} {t : TypeId} {k : Int} {a b c x y : Nat} (h : Row w g t (#[.int .i64 k, .float .f32 a, .float .f32 b, .float .f32 c, .float .f32 x, .float .f32 y] : Array Value)) (i : Nat) (hi : i < 2) : w.cell? ⟨g, 4 + i, none⟩ = some (.float .f32 (duo x y i)) := by
  match i, hi with
  | 0, _ => exact h.cell? 4
  | 1, _ => exact h.cell? 5
/-- A filter within a block. -/
structure FilAt (w : World) (g f : Nat) (k : Int) (a b c x y : Nat) : Prop where
  k0 : w.cell? ⟨g, f, none⟩ = some (.int .i64 k)
  tri : ∀ i, i < 3 → w.cell? ⟨g, f + 1 + i, none⟩ = some (.float .f32 (tri a b c i))
  duo : ∀ i, i < 2 → w.cell? ⟨g, f + 4 + i, none⟩ = some (.float .f32 (duo x y i))
theorem Row.filAt {w : World} {g : Nat} {t : TypeId} {k : Int} {a b c x y : Nat} (h : Row w g t (#[.int .i64 k, .float .f32 a, .float .f32 b, .float .f32 c, .float .f32 x, .float .f32 y] : Array Value)) : FilAt w g 0 k a b c x y :=
  ⟨h.six.1, fun i hi => by rw [Nat.zero_add]; exact h.tri i hi, fun i hi => by rw [Nat.zero_add]; exact h.duo i hi⟩
/-- A filter within a row. -/
structure FilIn (cs : Array Value) (f : Nat) (k : Int) (a b c x y : Nat) : Prop where
  k0 : cs[f]? = some (.int .i64 k)
  c1 : cs[f + 1]? = some (.float .f32 a)
  c2 : cs[f + 2]? = some (.float .f32 b)
  c3 : cs[f + 3]? = some (.float .f32 c)
  c4 : cs[f + 4]? = some (.float .f32 x)
  c5 : cs[f + 5]? = some (.float .f32 y)
theorem FilIn.at {cs : Array Value} {f : Nat} {k : Int} {a b c x y : Nat} (h : FilIn cs f k a b c x y) {w : World} {g : Nat} {t : TypeId} (hr : Row w g t cs) : FilAt w g f k a b c x y :=
  ⟨(hr.cell? f).trans h.k0, fun i hi => by
    match i, hi with
    | 0, _ => exact (hr.cell? (f + 1)).trans h.c1
    | 1, _ => exact (hr.cell? (f + 2)).trans h.c2
    | 2, _ => exact (hr.cell? (f + 3)).trans h.c3, fun i hi => by
    match i, hi with
    | 0, _ => exact (hr.cell? (f + 4)).trans h.c4
    | 1, _ => exact (hr.cell? (f + 5)).trans h.c5⟩
theorem fits_tri {a b c : Nat} (ha : fits .f32 a) (hb : fits .f32 b) (hc : fits .f32 c) : ∀ i, i < 3 → fits .f32 (tri a b c i) := by
  intro i hi
  match i, hi with
  | 0, _ => exact ha
  | 1, _ => exact hb
  | 2, _ => exact hc
theorem fits_duo {a b : Nat} (ha : fits .f32 a) (hb : fits .f32 b) : ∀ i, i < 2 → fits .f32 (duo a b i) := by
  intro i hi
  match i, hi with
  | 0, _ => exact ha
  | 1, _ => exact hb
end Go.Fk
namespace Go.Proofs.Ytmnenomjclhehaa
open Go.RowKit Go.Fk
end Go.Proofs.Ytmnenomjclhehaa

/- 'SameFilter' of both. -/
namespace Go.Fk
open Go Go.RowKit
/-- Are two rows the same? -/
def eqRow (f f' : Nat → Nat) (n : Nat) : Bool := (List.range n).all (fun j => sameB (f j) (f' j))
theorem eqRow_no {f f' : Nat → Nat} {n j : Nat} (hj : j < n) (h : sameB (f j) (f' j) = false) : eqRow f f' n = false := by
  rw [Bool.eq_false_iff]
  intro hh
  have := List.all_eq_true.1 hh j (List.mem_range.2 hj)
  rw [h] at this; cases this
theorem eqRow_yes {f f' : Nat → Nat} {n : Nat} (h : ∀ j, j < n → sameB (f j) (f' j) = true) : eqRow f f' n = true := List.all_eq_true.2 (fun j hj => h j (List.mem_range.1 hj))
theorem all_step {p : Nat → Prop} {k : Nat} (h : ∀ j, j < k → p j) (hk : p k) : ∀ j, j < k + 1 → p j := fun j hj => by
  by_cases e : j = k
  · rw [e]; exact hk
  · exact h j (by omega)
section
variable {P : Program} {ops : Array Oper} {w : World} {K : FuncId → Array Value → Value → Prop} {Q : Act → Prop} {o : Oper} {rest : List Oper} {a : Act} {C : World → Prop}
theorem wpLoose_anyW (hw : Region.wanted o (yielded ops a.tmps) = true) (V : Value → Prop) (h1 : ∀ n, within P (fun w' => ∃ m, w' = w.drewN m) K V ((execOp a.eval o).run P (w.drewN n)))
    (h2 : ∀ v, V v → wpLoose P ops (fun w' => ∃ m, w' = w.drewN m) K Q rest (a.put o.dst v)) : wpLoose P ops (fun w' => ∃ m, w' = w.drewN m) K Q (o :: rest) a :=
  ⟨V, .inl ⟨hw, fun w' hw' => by obtain ⟨n, rfl⟩ := hw'; exact h1 n⟩, h2⟩
theorem wpLoose_skip (hw : Region.wanted o (yielded ops a.tmps) = false) (h : wpLoose P ops C K Q rest (a.put o.dst undef)) : wpLoose P ops C K Q (o :: rest) a :=
  ⟨(· = undef), .inr ⟨hw, rfl⟩, fun v hv => by rw [hv]; exact h⟩
theorem wpLoose_nilW (hw : Region.wanted o (yielded ops a.tmps) = true) {x : Operand} (hop : o.op = Op.nilCheck x) {ad : Addr} (hx : a.eval x = .pointer (some ad))
    (hK : wpLoose P ops (fun w' => ∃ m, w' = w.drewN m) K Q rest (a.put o.dst (.pointer (some ad)))) : wpLoose P ops (fun w' => ∃ m, w' = w.drewN m) K Q (o :: rest) a := by
  refine wpLoose_anyW hw (· = .pointer (some ad)) (fun n => ?_) (by rintro v rfl; exact hK)
  simp [execOp, hop, hx, within, Result.andThen]
  exact ⟨_, rfl⟩
end
end Go.Fk
namespace Go.Proofs.Ytmnenomjclhehaa
open Go.RowKit Go.Fk
end Go.Proofs.Ytmnenomjclhehaa

/- Rings over facts of memory: 'ValidRing', 'SameRing' of both. -/
namespace Go.Fk
open Go Go.RowKit
theorem RdS.form {w : World} {B : Nat} {s : Value} {x : Nat → Nat} {n : Nat} (h : RdS w B s x n) : (s = .slice none 0 0 ∧ n = 0) ∨ ∃ (a : Addr) (cap : Nat), s = .slice (some a) n cap ∧ n ≤ cap ∧ cap ≤ maxLen := by
  rcases h with h | ⟨a, cap, h1, h2, h3, _⟩
  · exact .inl h
  · exact .inr ⟨a, cap, h1, h2, h3⟩
section
variable {P : Program} {w : World} {ops : Array Oper} {rest : List Oper} {o : Oper} {a : Act} {Q : Exit → Act → World → Prop}
/-- The length of a slice that can be read. -/
theorem wpList_lenR (hg : o.guard = none) {x : Operand} {t : TypeId} (hop : o.op = Op.call { callee := Callee.builtin Builtin.len, args := #[x], argTypes := #[t] }) {v : Value} (hx : a.eval x = v) {e : TypeId} (hu : P.underlying t = some (.slice e)) {w1 : World} {B : Nat} {y : Nat → Nat} {n : Nat} (hv : RdS w1 B v y n)
    (h : wpList P ops Q rest (a.put o.dst (.int .i64 n)) w) : wpList P ops Q (o :: rest) a w := by
  refine wpList_plain hg fun K hK' => ?_
  unfold Oper.wp
  rcases hv.form with ⟨rfl, rfl⟩ | ⟨ad, cap, rfl, _, _⟩
  all_goals
    simp [execOp, hop, hx, Result.andThen, resolve, invoke, builtin, Builtin.len_, run_underlying hu]
    exact hK' _ _ h
end
theorem sameB_can (x y : Nat) : sameB (can .f32 x) (can .f32 y) = sameB x y := by unfold sameB; rw [can_can, can_can]
theorem okRing_iff {n : Nat} {k : Int} : okRing n k = true ↔ 1 ≤ n ∧ n ≤ 1024 ∧ 0 ≤ k ∧ k < n := by
  unfold okRing; simp only [Bool.and_eq_true, decide_eq_true_eq]; omega
theorem okRing_j {n : Nat} {k : Int} (h : okRing n k = true) : 1 ≤ n ∧ n ≤ 1024 ∧ ∃ j : Nat, k = j ∧ j < n := by
  obtain ⟨h1, h2, h3, h4⟩ := okRing_iff.1 h
  exact ⟨h1, h2, k.toNat, by omega, by omega⟩
/-- Two slices of floats, compared. -/
def sameS (x x' : Nat → Nat) (n n' : Nat) : Bool := (n == n') && eqRow x x' n
theorem sameS_ne {x x' : Nat → Nat} {n n' : Nat} (h : n ≠ n') : sameS x x' n n' = false := by simp [sameS, h]
theorem sameS_eq {x x' : Nat → Nat} {n : Nat} : sameS x x' n n = eqRow x x' n := by simp [sameS]
end Go.Fk
namespace Go.Proofs.Ytmnenomjclhehaa
open Go.RowKit Go.Fk
end Go.Proofs.Ytmnenomjclhehaa

/- 'isWithin'. -/
namespace Go.Fk
open Go Go.RowKit
/-- Is a number from one to another? Not NaN. -/
def withinB (a l g : Nat) : Bool := (FloatKind.f32.format.order a l == some .gt || FloatKind.f32.format.order a l == some .eq) && (FloatKind.f32.format.order a g == some .lt || FloatKind.f32.format.order a g == some .eq)
end Go.Fk
namespace Go.Proofs.Ytmnenomjclhehaa
open Go.RowKit Go.Fk
end Go.Proofs.Ytmnenomjclhehaa

/- What pipes ask of their lists: 'l04All', 'l04Rings'; 'areScatters', 'isFiniteRing', 'areSections'. -/
namespace Go.Fk
open Go Go.RowKit
/-- Two lists of sections. -/
def secOk (x y : Nat → CD) (k : Nat) : Bool := rgOk x k && rgOk y k && (rgN x k == rgN y k)
theorem withinB_can {y x l g : Nat} (h : can .f32 y = x) : withinB y l g = withinB x l g := by
  unfold withinB; rw [← h, order_can_l, order_can_l]
def scB (x : Nat → Nat) (n : Nat) : Bool := allB (fun i => withinB (x i) 3212836864 1065353216) n
end Go.Fk
namespace Go.Proofs.Ytmnenomjclhehaa
open Go.RowKit Go.Fk
end Go.Proofs.Ytmnenomjclhehaa

/- Steps of a region that draws its order: guarded operations, loads of one cell, addresses of elements, new rows, lengths. Nothing here names a program. -/
namespace Go.Fk
open Go Go.RowKit
section
variable {E : Ext} {P : Program} {ops : Array Oper} {W : World} {K : FuncId → Array Value → World → Value → Prop} {Q : Act → World → Prop} {F : Facts} {k : Nat} {o : Oper} {rest : List Oper} {a : Act}
theorem wpFreeD_oneW (hw : Region.wanted o (yielded ops a.tmps) = true) (v : Value) (hr : ∀ w, E.R W w → (execOp a.eval o).run P w = .ok (.value v) w)
    (h : wpFreeD E P ops .any W K Q rest (k + 1) (a.put o.dst v) (F.with k (fun _ => True))) : wpFreeD E P ops .any W K Q (o :: rest) k a F := by
  refine ⟨fun _ u => u = v, ⟨fun _ _ _ _ h => h, .inl ⟨hw, fun w hw _ => ?_⟩⟩, fun u hu => ?_⟩
  · rw [hr w hw]; exact ⟨E.refl w, rfl⟩
  · obtain ⟨w, _, _, rfl⟩ := hu
    exact wpFreeD_weaken _ _ _ _ _ (fun e w h => ⟨h.1, fun _ => trivial⟩) h
theorem wpFreeD_skip (hw : Region.wanted o (yielded ops a.tmps) = false)
    (h : wpFreeD E P ops .any W K Q rest (k + 1) (a.put o.dst undef) (F.with k (fun _ => True))) : wpFreeD E P ops .any W K Q (o :: rest) k a F := by
  refine ⟨fun _ u => u = undef, ⟨fun _ _ _ _ h => h, .inr ⟨hw, fun w _ _ => rfl⟩⟩, fun u hu => ?_⟩
  obtain ⟨w, _, _, rfl⟩ := hu
  exact wpFreeD_weaken _ _ _ _ _ (fun e w h => ⟨h.1, fun _ => trivial⟩) h
theorem wpFreeD_callW (hw : Region.wanted o (yielded ops a.tmps) = true) {f : FuncId} {xs : Array Operand} {ts : Array TypeId} (hop : o.op = Op.call { callee := Callee.value (Operand.func f), args := xs, argTypes := ts }) {fn : Func} (hf : P.funcs[f]? = some fn)
    (hb : fn.body.isNone = false) (hn : (fn.name == "runtime.NumGoroutine") = false) {args : Array Value} (ha : xs.map a.eval = args) (hm : MonoT E (K f args))
    (h1 : ∀ w, E.R W w → behind .any o F w → Calls P f args w (fun e w' => ∃ v, e = .returned v ∧ le w w' ∧ K f args w' v)) (h2 : ∀ v, (∃ w, E.R W w ∧ (∀ e, F e w) ∧ K f args w v) → wpFreeD E P ops .any W K Q rest (k + 1) (a.put o.dst v) (F.with k (fun w => K f args w v))) : wpFreeD E P ops .any W K Q (o :: rest) k a F := by
  refine ⟨K f args, ⟨hm, .inl ⟨hw, fun w hw hbe => ?_⟩⟩, fun v hv => h2 v hv⟩
  rw [run_enter hop hf hb hn ha]
  refine ⟨E.refl w, (h1 w hw hbe).mono ?_, fun _ _ h => h⟩
  rintro e w' ⟨v, rfl, hl, hk⟩
  exact ⟨v, rfl, E.of_le hl, hk⟩
theorem wpFreeD_madeW (hwt : Region.wanted o (yielded ops a.tmps) = true) (f : Nat → Value) (t : TypeId) (cs : Array Value) (hr : ∀ w, (execOp a.eval o).run P w = .ok (.value (f w.heap.size)) (w.alloc (.cells cs t)))
    (h : ∀ b, wpFreeD leX P ops .any W K Q rest (k + 1) (a.put o.dst (f b)) (F.with k (fun w => ∃ b', f b = f b' ∧ Row w b' t cs))) : wpFreeD leX P ops .any W K Q (o :: rest) k a F := by
  refine ⟨fun w v => ∃ b', v = f b' ∧ Row w b' t cs, ⟨fun v w w' hw hv => ?_, .inl ⟨hwt, fun w hw _ => ?_⟩⟩, fun v hv => ?_⟩
  · obtain ⟨b', e, hrow⟩ := hv
    exact ⟨b', e, hrow.le hw⟩
  · rw [hr w]
    exact ⟨le_alloc w _, w.heap.size, rfl, Row.new w t cs⟩
  · obtain ⟨w, _, _, b, rfl, _⟩ := hv
    exact h b
theorem wpFreeD_load1 (hg : o.guard = none) {ty : TypeId} {x : Operand} (hop : o.op = .load ty x) {p : Addr} (hx : a.eval x = .pointer (some p)) {v : Value} (hv : ∀ w, E.R W w → w.cell? p = some v) (hu : ∀ w, (isAgg ty).run P w = .ok false w)
    (h : wpFreeD E P ops .any W K Q rest (k + 1) (a.put o.dst v) (F.with k (fun _ => True))) : wpFreeD E P ops .any W K Q (o :: rest) k a F := by
  refine wpFreeD_one hg v (fun w hw => ?_) h
  have hl : (Instr.loadAt ty (.pointer (some p))).run P w = .ok v w := by
    simp [Instr.loadAt, Instr.sureAddr, loadVar, hu, hv w hw]
  simp [execOp, hop, hx, hl, Result.andThen]
theorem wpFreeD_load1W (hw : Region.wanted o (yielded ops a.tmps) = true) {ty : TypeId} {x : Operand} (hop : o.op = .load ty x) {p : Addr} (hx : a.eval x = .pointer (some p)) {v : Value} (hv : ∀ w, E.R W w → w.cell? p = some v) (hu : ∀ w, (isAgg ty).run P w = .ok false w)
    (h : wpFreeD E P ops .any W K Q rest (k + 1) (a.put o.dst v) (F.with k (fun _ => True))) : wpFreeD E P ops .any W K Q (o :: rest) k a F := by
  refine wpFreeD_oneW hw v (fun w hw => ?_) h
  have hl : (Instr.loadAt ty (.pointer (some p))).run P w = .ok v w := by
    simp [Instr.loadAt, Instr.sureAddr, loadVar, hu, hv w hw]
  simp [execOp, hop, hx, hl, Result.andThen]
theorem wpFreeD_indexW0 (hg : o.guard = none) {t : TypeId} {x y : Operand} (hop : o.op = .indexAddr t x y) {b off n cap sz i : Nat} {kk : IntKind} {e : TypeId} (hx : a.eval x = .slice (some ⟨b, off, none⟩) n cap) (hy : a.eval y = .int kk (i : Int)) (hu : P.underlying t = some (.slice e)) (hs : (P.info? e).map (·.size) = some sz) (hi : i < n)
    (h : wpFreeD E P ops .any W K Q rest (k + 1) (a.put o.dst (.pointer (some ⟨b, off + i * sz, none⟩))) (F.with k (fun _ => True))) : wpFreeD E P ops .any W K Q (o :: rest) k a F :=
  wpFreeD_indexW hg hop hx hy hu hs hi (by rw [add_none]; exact h)
theorem wpFreeD_lenR (hg : o.guard = none) {x : Operand} {t : TypeId} (hop : o.op = Op.call { callee := Callee.builtin Builtin.len, args := #[x], argTypes := #[t] }) {v : Value} (hx : a.eval x = v) {e : TypeId} (hu : P.underlying t = some (.slice e)) {w1 : World} {B : Nat} {y : Nat → Nat} {n : Nat} (hv : RdS w1 B v y n)
    (h : wpFreeD E P ops .any W K Q rest (k + 1) (a.put o.dst (.int .i64 n)) (F.with k (fun _ => True))) : wpFreeD E P ops .any W K Q (o :: rest) k a F := by
  refine wpFreeD_one hg (.int .i64 n) (fun w _ => ?_) h
  rcases hv.form with ⟨rfl, rfl⟩ | ⟨ad, cap, rfl, _, _⟩
  all_goals
    simp [execOp, hop, hx, Result.andThen, resolve, invoke, builtin, Builtin.len_, run_underlying hu]
    try rfl
end
end Go.Fk

/- Pieces for bows and jets: guarded loads of structs in drawn regions; pairs of rings and of numbers. Nothing here names a program. -/
namespace Go.Fk
open Go Go.RowKit
section
variable {P : Program} {ops : Array Oper} {W : World} {K : FuncId → Array Value → World → Value → Prop} {Q : Act → World → Prop} {F : Facts} {k : Nat} {o : Oper} {rest : List Oper} {a : Act}
theorem wpFreeD_loadGW {w0 w1 : World} {L : List Fact} {n : Nat} (hF : Frg w0 w1 L) (hW : W = w1.drewN n) (hw : Region.wanted o (yielded ops a.tmps) = true) {ty : TypeId} {x : Operand} (hop : o.op = .load ty x) {g : Nat} (hx : a.eval x = .pointer (some ⟨g, 0, none⟩)) {t : TypeId} {cs : Array Value} {d : TypeDesc}
    (hm : rowF g t cs ∈ L) (hu : P.underlying ty = some d) (hd : (match d with | .struct _ | .array _ _ => true | _ => false) = true) {m : Nat} (hi : (P.info? ty).map (·.size) = some m) (hs : cs.size = m)
    (h : wpFreeD leX P ops .any W K Q rest (k + 1) (a.put o.dst (.agg cs)) (F.with k (fun _ => True))) : wpFreeD leX P ops .any W K Q (o :: rest) k a F := by
  subst hW hs
  refine wpFreeD_oneW hw (.agg cs) (fun w hw => ?_) h
  have := run_loadVar_row (P := P) w g t ty cs (0, 0) _ (((hF.row hm).drewN n).le hw) hu hd hi
  simp [execOp, hop, hx, Instr.loadAt, Instr.sureAddr, this, Result.andThen]
theorem wpFreeD_indexWG {E : Ext} (hw : Region.wanted o (yielded ops a.tmps) = true) {t : TypeId} {x y : Operand} (hop : o.op = .indexAddr t x y) {b off n cap sz i : Nat} {kk : IntKind} {e : TypeId} (hx : a.eval x = .slice (some ⟨b, off, none⟩) n cap) (hy : a.eval y = .int kk (i : Int)) (hu : P.underlying t = some (.slice e)) (hs : (P.info? e).map (·.size) = some sz) (hi : i < n)
    (h : wpFreeD E P ops .any W K Q rest (k + 1) (a.put o.dst (.pointer (some ⟨b, off + i * sz, none⟩))) (F.with k (fun _ => True))) : wpFreeD E P ops .any W K Q (o :: rest) k a F := by
  refine wpFreeD_oneW hw (.pointer (some ⟨b, off + i * sz, none⟩)) (fun w _ => ?_) h
  cases hq : P.info? e with
  | none => simp [hq] at hs
  | some inf =>
    have hz : inf.size = sz := by simpa [hq] using hs
    have h2 : (i : Int) < (n : Int) := by omega
    simp [execOp, hop, hx, hy, Instr.indexAt, asIntOf, run_underlying hu, sizeOf, typeInfo, hq, hz, h2, hi, Result.andThen, add_none]
end
theorem Row.at_part {w : World} {g : Nat} {t : TypeId} {cs : Array Value} (R : Row w g t cs) {f : Nat} {ds : List Value} (hp : ∀ j, j < ds.length → cs[f + j]? = ds[j]?) : ∀ (j : Nat) (v : Value), ds[j]? = some v → w.cell? ((⟨g, f, none⟩ : Addr).add j) = some v := fun j v hv => by
  rw [add_none, R.cell?, hp j (List.getElem?_eq_some_iff.1 hv).1, hv]
theorem CD.RdN.mono {w : World} {B B' : Nat} (hB : B ≤ B') : ∀ {c : CD} {v : Value}, c.RdN w B v → c.RdN w B' v := by
  intro c
  induction c with
  | sl wd n x ih =>
    intro v h
    rcases h with h | ⟨b, o, cap, h1, h2, h3, h4⟩
    · exact .inl h
    · exact .inr ⟨b, o, cap, h1, h2, h3, fun i hi => by obtain ⟨h5, u, h6, h7⟩ := h4 i hi; exact ⟨by omega, u, h6, ih i h7⟩⟩
  | _ => intro v h; exact h
theorem bool_ft (b : Bool) : b = false ∨ b = true := by cases b <;> simp
/-- A slice of floats, as a tree. -/
def slT (x : Nat → Nat) (n : Nat) : CD := .sl 1 n (fun i => .fcn .f32 (x i))
theorem slT_rds {x : Nat → Nat} {n B : Nat} {w : World} {s : Value} (h : (slT x n).RdN w B s) : RdS w B s x n := h.rd.rds
theorem CD.RdN.congr {w : World} {B : Nat} : ∀ {c d : CD} {v : Value}, c.RdN w B v → c.Eqv d → d.RdN w B v := by
  intro c
  induction c with
  | sl wd n x ih =>
    intro d v h he
    obtain ⟨y, rfl, hy⟩ := he
    rcases h with h | ⟨b, o, cap, h1, h2, h3, h4⟩
    · exact .inl h
    · exact .inr ⟨b, o, cap, h1, h2, h3, fun i hi => by obtain ⟨h5, u, h6, h7⟩ := h4 i hi; exact ⟨h5, u, h6, ih i h7 (hy i hi)⟩⟩
  | _ => intro d v h he; cases he; exact h
/-- A copy of a slice of floats. -/
theorem slT_cp {n : Nat} {x : Nat → CD} (h : ∀ i, i < n → (x i).flk = some .f32) : (CD.sl 1 n x).cp.Eqv (slT (fun i => (x i).fx) n) :=
  ⟨_, rfl, fun i hi => by show (x i).cn.Eqv (.fcn .f32 (x i).fx); rw [CD.cn_fl (h i (by simpa using hi))]; exact CD.Eqv.refl _⟩
/-- Two rings. -/
def rg2 (x y : Nat → Nat) (nx ny : Nat) (j k : Int) : Nat → CD
  | 0 => slT x nx
  | 1 => .int .i64 j
  | 2 => slT y ny
  | _ => .int .i64 k
theorem rg2_ok (x y : Nat → Nat) (nx ny : Nat) (j k : Int) : RgsOk (rg2 x y nx ny j k) 2 := fun i hi => by
  match i, hi with
  | 0, _ => exact ⟨⟨_, rfl, fun _ _ => rfl, rfl⟩, rfl⟩
  | 1, _ => exact ⟨⟨_, rfl, fun _ _ => rfl, rfl⟩, rfl⟩
def rngB (x : Nat → Nat) (n : Nat) (j : Int) : Bool := okRing n j && finB x n
theorem rg2_all (x y : Nat → Nat) (nx ny : Nat) (j k : Int) : allB (rgOk (rg2 x y nx ny j k)) 2 = (rngB x nx j && rngB y ny k) := by
  simp [allB, List.range_succ]; rfl
theorem rg2_rd {x y : Nat → Nat} {nx ny B b : Nat} {j k : Int} {w : World} {s t : Value} {ty : TypeId} (hs : (slT x nx).RdN w B s) (ht : (slT y ny).RdN w B t) (wj : (Lit.int .i64 j).wf = true) (wk : (Lit.int .i64 k).wf = true) (R : Row w b ty #[s, .int .i64 j, t, .int .i64 k]) :
    (CD.sl 2 2 (rg2 x y nx ny j k)).RdN w (max B (b + 1)) (.slice (some ⟨b, 0, none⟩) 2 2) := by
  refine .inr ⟨b, 0, 2, rfl, Nat.le_refl _, by decide, fun i hi => ⟨by omega, ?_⟩⟩
  match i, hi with
  | 0, _ => exact ⟨s, R.cell? 0, hs.mono (by omega)⟩
  | 1, _ => exact ⟨_, R.cell? 1, rfl, wj⟩
  | 2, _ => exact ⟨t, R.cell? 2, ht.mono (by omega)⟩
  | 3, _ => exact ⟨_, R.cell? 3, rfl, wk⟩
/-- Two numbers. -/
def two (m o : Nat) : Nat → Nat := fun i => match i with | 0 => can .f32 m | _ => can .f32 o
theorem fin_two (m o : Nat) : finB (two m o) 2 = (fin m && fin o) := by
  have e : ∀ z, fin (can .f32 z) = fin z := fun z => fin_can (can_can _ _)
  simp [finB, two, List.range_succ, e]
theorem two_rd {m o b : Nat} {w : World} {ty : TypeId} (hm : fits .f32 m) (ho : fits .f32 o) (R : Row w b ty #[.float .f32 m, .float .f32 o]) : RdS w (b + 1) (.slice (some ⟨b, 0, none⟩) 2 2) (two m o) 2 :=
  .inr ⟨⟨b, 0, none⟩, 2, rfl, Nat.le_refl _, by decide, fun i hi => ⟨Nat.lt_succ_self _, by rw [add_none, Nat.zero_add]; match i, hi with
    | 0, _ => exact ⟨m, R.cell? 0, hm, rfl⟩
    | 1, _ => exact ⟨o, R.cell? 1, ho, rfl⟩⟩⟩
/-- A new row that is known. -/
def OutSl (t : TypeId) (n : Nat) (cs : Array Value) (w : World) (e : Ending) (w' : World) : Prop := ∃ g, e = .returned (.slice (some ⟨g, 0, none⟩) n n) ∧ w.heap.size ≤ g ∧ Row w' g t cs ∧ le w w'
theorem Frg.rowS {w0 w w' : World} {L : List Fact} (h : Frg w0 w L) (k : Below w.heap.size w w') {g : Nat} {t : TypeId} {cs : Array Value} (hg : w.heap.size ≤ g) (hr : Row w' g t cs) : Frg w0 w' (rowF g t cs :: L) :=
  h.push k hr hg hr.lt
end Go.Fk

/- Deeds: their forms, and whether they are valid, of both. -/
namespace Go.Fk
open Go Go.RowKit
/-- How many numbers the text of a kind has. -/
def numD (k : Int) : Int := if k = 7 then 0 else if k = 8 then 0 else if k = 6 then 2 else 1
def isD (n : Int) (m : Bool) : Bool := decide (n = 0) || (m && decide (0 < n) && decide (n ≤ 999))
def okD (k a b : Int) : Bool := (decide (1 ≤ k) && decide (k ≤ 9)) && isD a (decide (1 ≤ numD k)) && isD b (decide (2 ≤ numD k))
theorem numD_is (k : Int) : numD k = 0 ∨ numD k = 1 ∨ numD k = 2 := by
  unfold numD
  split
  · exact .inl rfl
  split
  · exact .inl rfl
  split
  · exact .inr (.inr rfl)
  exact .inr (.inl rfl)
def formsD : Array Value := #[.string ⟨#[]⟩, .int .i64 0, .string ⟨#[103, 105, 118, 101]⟩, .int .i64 1, .string ⟨#[119, 111, 114, 107]⟩, .int .i64 1, .string ⟨#[100, 101, 108, 105, 118, 101, 114]⟩, .int .i64 1, .string ⟨#[99, 111, 112, 121]⟩, .int .i64 1, .string ⟨#[100, 114, 111, 112]⟩, .int .i64 1, .string ⟨#[115, 112, 111, 105, 108]⟩, .int .i64 2, .string ⟨#[115, 121, 110, 99]⟩, .int .i64 0, .string ⟨#[99, 114, 97, 115, 104]⟩, .int .i64 0, .string ⟨#[113, 117, 105, 116]⟩, .int .i64 1]
end Go.Fk
namespace Go.Proofs.Ytmnenomjclhehaa
open Go.RowKit Go.Fk
set_option maxRecDepth 100000 in
set_option maxHeartbeats 4000000 in
theorem infoForms : (Try.prog.info? 55).map (·.size) = some 20 := by kernel_rfl
set_option maxRecDepth 100000 in
set_option maxHeartbeats 4000000 in
theorem i_deedForms (w : World) : Calls Try.prog 30 #[] w fun e w' => e = .returned (.agg formsD) ∧ le w w' := by
  have E := hid (show (formsD : Array Value) = #[.string ⟨#[]⟩, .int .i64 0, .string ⟨#[103, 105, 118, 101]⟩, .int .i64 1, .string ⟨#[119, 111, 114, 107]⟩, .int .i64 1, .string ⟨#[100, 101, 108, 105, 118, 101, 114]⟩, .int .i64 1, .string ⟨#[99, 111, 112, 121]⟩, .int .i64 1, .string ⟨#[100, 114, 111, 112]⟩, .int .i64 1, .string ⟨#[115, 112, 111, 105, 108]⟩, .int .i64 2, .string ⟨#[115, 121, 110, 99]⟩, .int .i64 0, .string ⟨#[99, 114, 97, 115, 104]⟩, .int .i64 0, .string ⟨#[113, 117, 105, 116]⟩, .int .i64 1] from rfl)
  have F := (Frg.nil w).box 55 #[.string ⟨#[]⟩, .int .i64 0, .string ⟨#[]⟩, .int .i64 0, .string ⟨#[]⟩, .int .i64 0, .string ⟨#[]⟩, .int .i64 0, .string ⟨#[]⟩, .int .i64 0, .string ⟨#[]⟩, .int .i64 0, .string ⟨#[]⟩, .int .i64 0, .string ⟨#[]⟩, .int .i64 0, .string ⟨#[]⟩, .int .i64 0, .string ⟨#[]⟩, .int .i64 0]
  go_enter Try.func30, Try.ntmps30
  go_wp2_with (first | ((with_reducible refine listN F ?_); clear F; intro wN F) | (with_reducible refine stop_store rfl ?_))
  show wpList _ _ _ _ _ _
  refine wpList_storeD rfl rfl rfl (cells := #[.string ⟨#[]⟩, .int .i64 0, .string ⟨#[103, 105, 118, 101]⟩, .int .i64 1, .string ⟨#[119, 111, 114, 107]⟩, .int .i64 1, .string ⟨#[100, 101, 108, 105, 118, 101, 114]⟩, .int .i64 1, .string ⟨#[99, 111, 112, 121]⟩, .int .i64 1, .string ⟨#[100, 114, 111, 112]⟩, .int .i64 1, .string ⟨#[115, 112, 111, 105, 108]⟩, .int .i64 2, .string ⟨#[115, 121, 110, 99]⟩, .int .i64 0, .string ⟨#[99, 114, 97, 115, 104]⟩, .int .i64 0, .string ⟨#[113, 117, 105, 116]⟩, .int .i64 1]) rfl (F.row m0) infoForms rfl (by (simp only [List.all_toArray', List.all_cons, List.all_nil, Bool.and_true, Bool.true_and]) <;> rfl) (fun w6 K => ?_)
  have R := hid K.row
  replace F := F.wrI0 K
  go_wp2
  exact bodyPost_ret (results_row1 rfl _ _ _ _ _ rfl R.out Try.underlying55 rfl infoForms) rfl ⟨by rw [E.out], F.below⟩
set_option maxRecDepth 100000 in
set_option maxHeartbeats 4000000 in
theorem i_isDeedNumber (n : Int) (m : Bool) (w : World) : Calls Try.prog 31 #[.int .i64 n, .bool m] w fun e w' => e = .returned (.bool (isD n m)) ∧ w = w' := by
  cases m <;> by_cases h0 : n = 0 <;> by_cases h1 : 0 < n <;> by_cases h2 : n ≤ 999
  all_goals
    first
    | (exfalso; omega)
    | (go_enter Try.func31, Try.ntmps31
       go_wp2
       go_ret
       exact ⟨ret_b (by unfold isD; first | (simp [h0, h1, h2]; done) | (have b0 : (n == 0) = false := (by simpa using h0); simp [b0, h0, h1, h2] <;> omega)), rfl⟩)
set_option maxRecDepth 100000 in
set_option maxHeartbeats 4000000 in
theorem s_l10Numbers (k : Int) (w : World) : Calls Try.prog 29 #[.int .i64 k] w fun e w' => e = .returned (.int .i64 (numD k)) ∧ w = w' := by
  by_cases h7 : k = 7
  · subst h7
    go_enter Try.func29, Try.ntmps29
    go_wp2
    go_ret
    exact ⟨rfl, rfl⟩
  by_cases h8 : k = 8
  · subst h8
    go_enter Try.func29, Try.ntmps29
    go_wp2
    go_ret
    exact ⟨rfl, rfl⟩
  by_cases h6 : k = 6
  · subst h6
    go_enter Try.func29, Try.ntmps29
    go_wp2
    go_ret
    exact ⟨rfl, rfl⟩
  go_enter Try.func29, Try.ntmps29
  go_wp2
  go_ret
  exact ⟨ret_i (by unfold numD; simp [h7, h8, h6]), rfl⟩
set_option maxRecDepth 100000 in
set_option maxHeartbeats 4000000 in
theorem i_ValidDeed (k a b : Int) (w : World) : Calls Try.prog 10 #[.agg #[.int .i64 k, .int .i64 a, .int .i64 b]] w (Out_b (okD k a b) w) := by
  by_cases h1 : ¬ 1 ≤ k
  · have E := hid (show okD k a b = false by unfold okD; simp [h1])
    have F := (Frg.nil w).box 25 #[.int .i64 k, .int .i64 a, .int .i64 b]
    have e1 : k < 1 := by omega
    go_enter Try.func10, Try.ntmps10
    go_wp2_with (first | ((with_reducible refine listN F ?_); clear F; intro wN F))
    go_ret
    exact ⟨ret_b E.out.symm, F.below⟩
  by_cases h2 : ¬ k ≤ 9
  · have E := hid (show okD k a b = false by unfold okD; simp [h2])
    have F := (Frg.nil w).box 25 #[.int .i64 k, .int .i64 a, .int .i64 b]
    have e1 : ¬ k < 1 := by omega
    have e2 : 9 < k := by omega
    go_enter Try.func10, Try.ntmps10
    go_wp2_with (first | ((with_reducible refine listN F ?_); clear F; intro wN F))
    go_ret
    exact ⟨ret_b E.out.symm, F.below⟩
  have hk : k = 1 ∨ k = 2 ∨ k = 3 ∨ k = 4 ∨ k = 5 ∨ k = 6 ∨ k = 7 ∨ k = 8 ∨ k = 9 := by omega
  clear h1 h2
  have HD := hid (i_isDeedNumber)
  have HF := hid (i_deedForms)
  rcases hk with rfl | hk
  · have F := (Frg.nil w).box 25 #[.int .i64 1, .int .i64 a, .int .i64 b]
    have E := hid (show okD 1 a b = (isD a true && isD b false) from rfl)
    go_enter Try.func10, Try.ntmps10
    go_wp2_with (first | ((with_reducible refine listN F ?_); clear F; intro wN F))
    first | (refine wpAt0 F ?_; clear F; intro wN F) | (refine wpAtN F ?_; clear F; intro wN F)
    have FD := F.drewN 1
    refine region_freeD (E := leX) (fun f args _ v => v = .agg formsD) (by kernel_rfl) (by kernel_rfl) ?_
    refine wpFreeD_callB rfl rfl Try.func30 (by kernel_rfl) (by kernel_rfl) (args := #[]) (by simp [Act.eval]) (fun v w1 w2 hw hv => hv) (fun w1 hw1 _ => (HF.out w1).mono ?_) ?_
    · rintro e w2 ⟨rfl, hl⟩
      exact ⟨_, rfl, hl, rfl⟩
    rintro v ⟨_, _, _, hv⟩
    replace hv : v = .agg formsD := hv
    subst hv
    simp only [Act.put, List.setIfInBounds_toArray, List.set_cons_succ, List.set_cons_zero]
    refine wpFreeD_one rfl (.pointer (some ⟨w.heap.size, 0, none⟩)) (fun w1 _ => by kernel_rfl) ?_
    simp only [Act.put, List.setIfInBounds_toArray, List.set_cons_succ, List.set_cons_zero]
    refine wpFreeD_load1 rfl rfl rfl (p := ⟨w.heap.size, 0, none⟩) (v := .int .i64 1) (fun w1 h1 => by rw [((FD.le h1).row m0).cell?]; rfl) ukindInt64 ?_
    simp only [Act.put, List.setIfInBounds_toArray, List.set_cons_succ, List.set_cons_zero]
    refine wpFreeD_one rfl (.agg #[.string ⟨#[103, 105, 118, 101]⟩, .int .i64 1]) (fun w1 _ => by kernel_rfl) ?_
    simp only [Act.put, List.setIfInBounds_toArray, List.set_cons_succ, List.set_cons_zero]
    refine wpFreeD_one rfl (.int .i64 1) (fun w1 _ => by kernel_rfl) ?_
    simp only [Act.put, List.setIfInBounds_toArray, List.set_cons_succ, List.set_cons_zero]
    refine wpFreeD_one rfl (.int .i64 1) (fun w1 _ => by kernel_rfl) ?_
    simp only [Act.put, List.setIfInBounds_toArray, List.set_cons_succ, List.set_cons_zero]
    refine wpFreeD_nil (fun wR hwR hF => ?_)
    clear hF
    replace F := FD.le hwR
    clear hwR FD
    have c1 := hid (show wR.cell? ⟨w.heap.size, 1, none⟩ = some (.int .i64 a) by rw [(F.row m0).cell?]; rfl)
    have c2 := hid (show wR.cell? ⟨w.heap.size, 2, none⟩ = some (.int .i64 b) by rw [(F.row m0).cell?]; rfl)
    have HA := hid (fun (w : World) => i_isDeedNumber a true w)
    have HB := hid (fun (w : World) => i_isDeedNumber b false w)
    clear HD HF
    rcases bool_ft (isD a true) with da | da
    · rw [da] at HA E
      clear da
      go_wp2_with (first | ((with_reducible refine listN F ?_); clear F; intro wN F) | ((with_reducible refine at_load rfl ?_); first | (with_reducible refine wpList_load1G rfl (p := ⟨w.heap.size, 1, none⟩) rfl (v := .int .i64 a) (by kernel_rfl) c1.out ukindInt64 ?_) | (with_reducible refine wpList_load1G rfl (p := ⟨w.heap.size, 2, none⟩) rfl (v := .int .i64 b) (by kernel_rfl) c2.out ukindInt64 ?_)) | (go_at_call 31; first | ((with_reducible refine (HA.out _).mono ?_); rintro e w1 ⟨rfl, rfl⟩; skip) | ((with_reducible refine (HB.out _).mono ?_); rintro e w1 ⟨rfl, rfl⟩; skip)))
      go_ret
      exact ⟨ret_b (by rw [E.out]; rfl), F.below⟩
    · rw [da] at HA E
      clear da
      go_wp2_with (first | ((with_reducible refine listN F ?_); clear F; intro wN F) | ((with_reducible refine at_load rfl ?_); first | (with_reducible refine wpList_load1G rfl (p := ⟨w.heap.size, 1, none⟩) rfl (v := .int .i64 a) (by kernel_rfl) c1.out ukindInt64 ?_) | (with_reducible refine wpList_load1G rfl (p := ⟨w.heap.size, 2, none⟩) rfl (v := .int .i64 b) (by kernel_rfl) c2.out ukindInt64 ?_)) | (go_at_call 31; first | ((with_reducible refine (HA.out _).mono ?_); rintro e w1 ⟨rfl, rfl⟩; skip) | ((with_reducible refine (HB.out _).mono ?_); rintro e w1 ⟨rfl, rfl⟩; skip)))
      go_ret
      exact ⟨ret_b (by rw [E.out]; rfl), F.below⟩
  rcases hk with rfl | hk
  · have F := (Frg.nil w).box 25 #[.int .i64 2, .int .i64 a, .int .i64 b]
    have E := hid (show okD 2 a b = (isD a true && isD b false) from rfl)
    go_enter Try.func10, Try.ntmps10
    go_wp2_with (first | ((with_reducible refine listN F ?_); clear F; intro wN F))
    first | (refine wpAt0 F ?_; clear F; intro wN F) | (refine wpAtN F ?_; clear F; intro wN F)
    have FD := F.drewN 1
    refine region_freeD (E := leX) (fun f args _ v => v = .agg formsD) (by kernel_rfl) (by kernel_rfl) ?_
    refine wpFreeD_callB rfl rfl Try.func30 (by kernel_rfl) (by kernel_rfl) (args := #[]) (by simp [Act.eval]) (fun v w1 w2 hw hv => hv) (fun w1 hw1 _ => (HF.out w1).mono ?_) ?_
    · rintro e w2 ⟨rfl, hl⟩
      exact ⟨_, rfl, hl, rfl⟩
    rintro v ⟨_, _, _, hv⟩
    replace hv : v = .agg formsD := hv
    subst hv
    simp only [Act.put, List.setIfInBounds_toArray, List.set_cons_succ, List.set_cons_zero]
    refine wpFreeD_one rfl (.pointer (some ⟨w.heap.size, 0, none⟩)) (fun w1 _ => by kernel_rfl) ?_
    simp only [Act.put, List.setIfInBounds_toArray, List.set_cons_succ, List.set_cons_zero]
    refine wpFreeD_load1 rfl rfl rfl (p := ⟨w.heap.size, 0, none⟩) (v := .int .i64 2) (fun w1 h1 => by rw [((FD.le h1).row m0).cell?]; rfl) ukindInt64 ?_
    simp only [Act.put, List.setIfInBounds_toArray, List.set_cons_succ, List.set_cons_zero]
    refine wpFreeD_one rfl (.agg #[.string ⟨#[119, 111, 114, 107]⟩, .int .i64 1]) (fun w1 _ => by kernel_rfl) ?_
    simp only [Act.put, List.setIfInBounds_toArray, List.set_cons_succ, List.set_cons_zero]
    refine wpFreeD_one rfl (.int .i64 1) (fun w1 _ => by kernel_rfl) ?_
    simp only [Act.put, List.setIfInBounds_toArray, List.set_cons_succ, List.set_cons_zero]
    refine wpFreeD_one rfl (.int .i64 1) (fun w1 _ => by kernel_rfl) ?_
    simp only [Act.put, List.setIfInBounds_toArray, List.set_cons_succ, List.set_cons_zero]
    refine wpFreeD_nil (fun wR hwR hF => ?_)
    clear hF
    replace F := FD.le hwR
    clear hwR FD
    have c1 := hid (show wR.cell? ⟨w.heap.size, 1, none⟩ = some (.int .i64 a) by rw [(F.row m0).cell?]; rfl)
    have c2 := hid (show wR.cell? ⟨w.heap.size, 2, none⟩ = some (.int .i64 b) by rw [(F.row m0).cell?]; rfl)
    have HA := hid (fun (w : World) => i_isDeedNumber a true w)
    have HB := hid (fun (w : World) => i_isDeedNumber b false w)
    clear HD HF
    rcases bool_ft (isD a true) with da | da
    · rw [da] at HA E
      clear da
      go_wp2_with (first | ((with_reducible refine listN F ?_); clear F; intro wN F) | ((with_reducible refine at_load rfl ?_); first | (with_reducible refine wpList_load1G rfl (p := ⟨w.heap.size, 1, none⟩) rfl (v := .int .i64 a) (by kernel_rfl) c1.out ukindInt64 ?_) | (with_reducible refine wpList_load1G rfl (p := ⟨w.heap.size, 2, none⟩) rfl (v := .int .i64 b) (by kernel_rfl) c2.out ukindInt64 ?_)) | (go_at_call 31; first | ((with_reducible refine (HA.out _).mono ?_); rintro e w1 ⟨rfl, rfl⟩; skip) | ((with_reducible refine (HB.out _).mono ?_); rintro e w1 ⟨rfl, rfl⟩; skip)))
      go_ret
      exact ⟨ret_b (by rw [E.out]; rfl), F.below⟩
    · rw [da] at HA E
      clear da
      go_wp2_with (first | ((with_reducible refine listN F ?_); clear F; intro wN F) | ((with_reducible refine at_load rfl ?_); first | (with_reducible refine wpList_load1G rfl (p := ⟨w.heap.size, 1, none⟩) rfl (v := .int .i64 a) (by kernel_rfl) c1.out ukindInt64 ?_) | (with_reducible refine wpList_load1G rfl (p := ⟨w.heap.size, 2, none⟩) rfl (v := .int .i64 b) (by kernel_rfl) c2.out ukindInt64 ?_)) | (go_at_call 31; first | ((with_reducible refine (HA.out _).mono ?_); rintro e w1 ⟨rfl, rfl⟩; skip) | ((with_reducible refine (HB.out _).mono ?_); rintro e w1 ⟨rfl, rfl⟩; skip)))
      go_ret
      exact ⟨ret_b (by rw [E.out]; rfl), F.below⟩
  rcases hk with rfl | hk
  · have F := (Frg.nil w).box 25 #[.int .i64 3, .int .i64 a, .int .i64 b]
    have E := hid (show okD 3 a b = (isD a true && isD b false) from rfl)
    go_enter Try.func10, Try.ntmps10
    go_wp2_with (first | ((with_reducible refine listN F ?_); clear F; intro wN F))
    first | (refine wpAt0 F ?_; clear F; intro wN F) | (refine wpAtN F ?_; clear F; intro wN F)
    have FD := F.drewN 1
    refine region_freeD (E := leX) (fun f args _ v => v = .agg formsD) (by kernel_rfl) (by kernel_rfl) ?_
    refine wpFreeD_callB rfl rfl Try.func30 (by kernel_rfl) (by kernel_rfl) (args := #[]) (by simp [Act.eval]) (fun v w1 w2 hw hv => hv) (fun w1 hw1 _ => (HF.out w1).mono ?_) ?_
    · rintro e w2 ⟨rfl, hl⟩
      exact ⟨_, rfl, hl, rfl⟩
    rintro v ⟨_, _, _, hv⟩
    replace hv : v = .agg formsD := hv
    subst hv
    simp only [Act.put, List.setIfInBounds_toArray, List.set_cons_succ, List.set_cons_zero]
    refine wpFreeD_one rfl (.pointer (some ⟨w.heap.size, 0, none⟩)) (fun w1 _ => by kernel_rfl) ?_
    simp only [Act.put, List.setIfInBounds_toArray, List.set_cons_succ, List.set_cons_zero]
    refine wpFreeD_load1 rfl rfl rfl (p := ⟨w.heap.size, 0, none⟩) (v := .int .i64 3) (fun w1 h1 => by rw [((FD.le h1).row m0).cell?]; rfl) ukindInt64 ?_
    simp only [Act.put, List.setIfInBounds_toArray, List.set_cons_succ, List.set_cons_zero]
    refine wpFreeD_one rfl (.agg #[.string ⟨#[100, 101, 108, 105, 118, 101, 114]⟩, .int .i64 1]) (fun w1 _ => by kernel_rfl) ?_
    simp only [Act.put, List.setIfInBounds_toArray, List.set_cons_succ, List.set_cons_zero]
    refine wpFreeD_one rfl (.int .i64 1) (fun w1 _ => by kernel_rfl) ?_
    simp only [Act.put, List.setIfInBounds_toArray, List.set_cons_succ, List.set_cons_zero]
    refine wpFreeD_one rfl (.int .i64 1) (fun w1 _ => by kernel_rfl) ?_
    simp only [Act.put, List.setIfInBounds_toArray, List.set_cons_succ, List.set_cons_zero]
    refine wpFreeD_nil (fun wR hwR hF => ?_)
    clear hF
    replace F := FD.le hwR
    clear hwR FD
    have c1 := hid (show wR.cell? ⟨w.heap.size, 1, none⟩ = some (.int .i64 a) by rw [(F.row m0).cell?]; rfl)
    have c2 := hid (show wR.cell? ⟨w.heap.size, 2, none⟩ = some (.int .i64 b) by rw [(F.row m0).cell?]; rfl)
    have HA := hid (fun (w : World) => i_isDeedNumber a true w)
    have HB := hid (fun (w : World) => i_isDeedNumber b false w)
    clear HD HF
    rcases bool_ft (isD a true) with da | da
    · rw [da] at HA E
      clear da
      go_wp2_with (first | ((with_reducible refine listN F ?_); clear F; intro wN F) | ((with_reducible refine at_load rfl ?_); first | (with_reducible refine wpList_load1G rfl (p := ⟨w.heap.size, 1, none⟩) rfl (v := .int .i64 a) (by kernel_rfl) c1.out ukindInt64 ?_) | (with_reducible refine wpList_load1G rfl (p := ⟨w.heap.size, 2, none⟩) rfl (v := .int .i64 b) (by kernel_rfl) c2.out ukindInt64 ?_)) | (go_at_call 31; first | ((with_reducible refine (HA.out _).mono ?_); rintro e w1 ⟨rfl, rfl⟩; skip) | ((with_reducible refine (HB.out _).mono ?_); rintro e w1 ⟨rfl, rfl⟩; skip)))
      go_ret
      exact ⟨ret_b (by rw [E.out]; rfl), F.below⟩
    · rw [da] at HA E
      clear da
      go_wp2_with (first | ((with_reducible refine listN F ?_); clear F; intro wN F) | ((with_reducible refine at_load rfl ?_); first | (with_reducible refine wpList_load1G rfl (p := ⟨w.heap.size, 1, none⟩) rfl (v := .int .i64 a) (by kernel_rfl) c1.out ukindInt64 ?_) | (with_reducible refine wpList_load1G rfl (p := ⟨w.heap.size, 2, none⟩) rfl (v := .int .i64 b) (by kernel_rfl) c2.out ukindInt64 ?_)) | (go_at_call 31; first | ((with_reducible refine (HA.out _).mono ?_); rintro e w1 ⟨rfl, rfl⟩; skip) | ((with_reducible refine (HB.out _).mono ?_); rintro e w1 ⟨rfl, rfl⟩; skip)))
      go_ret
      exact ⟨ret_b (by rw [E.out]; rfl), F.below⟩
  rcases hk with rfl | hk
  · have F := (Frg.nil w).box 25 #[.int .i64 4, .int .i64 a, .int .i64 b]
    have E := hid (show okD 4 a b = (isD a true && isD b false) from rfl)
    go_enter Try.func10, Try.ntmps10
    go_wp2_with (first | ((with_reducible refine listN F ?_); clear F; intro wN F))
    first | (refine wpAt0 F ?_; clear F; intro wN F) | (refine wpAtN F ?_; clear F; intro wN F)
    have FD := F.drewN 1
    refine region_freeD (E := leX) (fun f args _ v => v = .agg formsD) (by kernel_rfl) (by kernel_rfl) ?_
    refine wpFreeD_callB rfl rfl Try.func30 (by kernel_rfl) (by kernel_rfl) (args := #[]) (by simp [Act.eval]) (fun v w1 w2 hw hv => hv) (fun w1 hw1 _ => (HF.out w1).mono ?_) ?_
    · rintro e w2 ⟨rfl, hl⟩
      exact ⟨_, rfl, hl, rfl⟩
    rintro v ⟨_, _, _, hv⟩
    replace hv : v = .agg formsD := hv
    subst hv
    simp only [Act.put, List.setIfInBounds_toArray, List.set_cons_succ, List.set_cons_zero]
    refine wpFreeD_one rfl (.pointer (some ⟨w.heap.size, 0, none⟩)) (fun w1 _ => by kernel_rfl) ?_
    simp only [Act.put, List.setIfInBounds_toArray, List.set_cons_succ, List.set_cons_zero]
    refine wpFreeD_load1 rfl rfl rfl (p := ⟨w.heap.size, 0, none⟩) (v := .int .i64 4) (fun w1 h1 => by rw [((FD.le h1).row m0).cell?]; rfl) ukindInt64 ?_
    simp only [Act.put, List.setIfInBounds_toArray, List.set_cons_succ, List.set_cons_zero]
    refine wpFreeD_one rfl (.agg #[.string ⟨#[99, 111, 112, 121]⟩, .int .i64 1]) (fun w1 _ => by kernel_rfl) ?_
    simp only [Act.put, List.setIfInBounds_toArray, List.set_cons_succ, List.set_cons_zero]
    refine wpFreeD_one rfl (.int .i64 1) (fun w1 _ => by kernel_rfl) ?_
    simp only [Act.put, List.setIfInBounds_toArray, List.set_cons_succ, List.set_cons_zero]
    refine wpFreeD_one rfl (.int .i64 1) (fun w1 _ => by kernel_rfl) ?_
    simp only [Act.put, List.setIfInBounds_toArray, List.set_cons_succ, List.set_cons_zero]
    refine wpFreeD_nil (fun wR hwR hF => ?_)
    clear hF
    replace F := FD.le hwR
    clear hwR FD
    have c1 := hid (show wR.cell? ⟨w.heap.size, 1, none⟩ = some (.int .i64 a) by rw [(F.row m0).cell?]; rfl)
    have c2 := hid (show wR.cell? ⟨w.heap.size, 2, none⟩ = some (.int .i64 b) by rw [(F.row m0).cell?]; rfl)
    have HA := hid (fun (w : World) => i_isDeedNumber a true w)
    have HB := hid (fun (w : World) => i_isDeedNumber b false w)
    clear HD HF
    rcases bool_ft (isD a true) with da | da
    · rw [da] at HA E
      clear da
      go_wp2_with (first | ((with_reducible refine listN F ?_); clear F; intro wN F) | ((with_reducible refine at_load rfl ?_); first | (with_reducible refine wpList_load1G rfl (p := ⟨w.heap.size, 1, none⟩) rfl (v := .int .i64 a) (by kernel_rfl) c1.out ukindInt64 ?_) | (with_reducible refine wpList_load1G rfl (p := ⟨w.heap.size, 2, none⟩) rfl (v := .int .i64 b) (by kernel_rfl) c2.out ukindInt64 ?_)) | (go_at_call 31; first | ((with_reducible refine (HA.out _).mono ?_); rintro e w1 ⟨rfl, rfl⟩; skip) | ((with_reducible refine (HB.out _).mono ?_); rintro e w1 ⟨rfl, rfl⟩; skip)))
      go_ret
      exact ⟨ret_b (by rw [E.out]; rfl), F.below⟩
    · rw [da] at HA E
      clear da
      go_wp2_with (first | ((with_reducible refine listN F ?_); clear F; intro wN F) | ((with_reducible refine at_load rfl ?_); first | (with_reducible refine wpList_load1G rfl (p := ⟨w.heap.size, 1, none⟩) rfl (v := .int .i64 a) (by kernel_rfl) c1.out ukindInt64 ?_) | (with_reducible refine wpList_load1G rfl (p := ⟨w.heap.size, 2, none⟩) rfl (v := .int .i64 b) (by kernel_rfl) c2.out ukindInt64 ?_)) | (go_at_call 31; first | ((with_reducible refine (HA.out _).mono ?_); rintro e w1 ⟨rfl, rfl⟩; skip) | ((with_reducible refine (HB.out _).mono ?_); rintro e w1 ⟨rfl, rfl⟩; skip)))
      go_ret
      exact ⟨ret_b (by rw [E.out]; rfl), F.below⟩
  rcases hk with rfl | hk
  · have F := (Frg.nil w).box 25 #[.int .i64 5, .int .i64 a, .int .i64 b]
    have E := hid (show okD 5 a b = (isD a true && isD b false) from rfl)
    go_enter Try.func10, Try.ntmps10
    go_wp2_with (first | ((with_reducible refine listN F ?_); clear F; intro wN F))
    first | (refine wpAt0 F ?_; clear F; intro wN F) | (refine wpAtN F ?_; clear F; intro wN F)
    have FD := F.drewN 1
    refine region_freeD (E := leX) (fun f args _ v => v = .agg formsD) (by kernel_rfl) (by kernel_rfl) ?_
    refine wpFreeD_callB rfl rfl Try.func30 (by kernel_rfl) (by kernel_rfl) (args := #[]) (by simp [Act.eval]) (fun v w1 w2 hw hv => hv) (fun w1 hw1 _ => (HF.out w1).mono ?_) ?_
    · rintro e w2 ⟨rfl, hl⟩
      exact ⟨_, rfl, hl, rfl⟩
    rintro v ⟨_, _, _, hv⟩
    replace hv : v = .agg formsD := hv
    subst hv
    simp only [Act.put, List.setIfInBounds_toArray, List.set_cons_succ, List.set_cons_zero]
    refine wpFreeD_one rfl (.pointer (some ⟨w.heap.size, 0, none⟩)) (fun w1 _ => by kernel_rfl) ?_
    simp only [Act.put, List.setIfInBounds_toArray, List.set_cons_succ, List.set_cons_zero]
    refine wpFreeD_load1 rfl rfl rfl (p := ⟨w.heap.size, 0, none⟩) (v := .int .i64 5) (fun w1 h1 => by rw [((FD.le h1).row m0).cell?]; rfl) ukindInt64 ?_
    simp only [Act.put, List.setIfInBounds_toArray, List.set_cons_succ, List.set_cons_zero]
    refine wpFreeD_one rfl (.agg #[.string ⟨#[100, 114, 111, 112]⟩, .int .i64 1]) (fun w1 _ => by kernel_rfl) ?_
    simp only [Act.put, List.setIfInBounds_toArray, List.set_cons_succ, List.set_cons_zero]
    refine wpFreeD_one rfl (.int .i64 1) (fun w1 _ => by kernel_rfl) ?_
    simp only [Act.put, List.setIfInBounds_toArray, List.set_cons_succ, List.set_cons_zero]
    refine wpFreeD_one rfl (.int .i64 1) (fun w1 _ => by kernel_rfl) ?_
    simp only [Act.put, List.setIfInBounds_toArray, List.set_cons_succ, List.set_cons_zero]
    refine wpFreeD_nil (fun wR hwR hF => ?_)
    clear hF
    replace F := FD.le hwR
    clear hwR FD
    have c1 := hid (show wR.cell? ⟨w.heap.size, 1, none⟩ = some (.int .i64 a) by rw [(F.row m0).cell?]; rfl)
    have c2 := hid (show wR.cell? ⟨w.heap.size, 2, none⟩ = some (.int .i64 b) by rw [(F.row m0).cell?]; rfl)
    have HA := hid (fun (w : World) => i_isDeedNumber a true w)
    have HB := hid (fun (w : World) => i_isDeedNumber b false w)
    clear HD HF
    rcases bool_ft (isD a true) with da | da
    · rw [da] at HA E
      clear da
      go_wp2_with (first | ((with_reducible refine listN F ?_); clear F; intro wN F) | ((with_reducible refine at_load rfl ?_); first | (with_reducible refine wpList_load1G rfl (p := ⟨w.heap.size, 1, none⟩) rfl (v := .int .i64 a) (by kernel_rfl) c1.out ukindInt64 ?_) | (with_reducible refine wpList_load1G rfl (p := ⟨w.heap.size, 2, none⟩) rfl (v := .int .i64 b) (by kernel_rfl) c2.out ukindInt64 ?_)) | (go_at_call 31; first | ((with_reducible refine (HA.out _).mono ?_); rintro e w1 ⟨rfl, rfl⟩; skip) | ((with_reducible refine (HB.out _).mono ?_); rintro e w1 ⟨rfl, rfl⟩; skip)))
      go_ret
      exact ⟨ret_b (by rw [E.out]; rfl), F.below⟩
    · rw [da] at HA E
      clear da
      go_wp2_with (first | ((with_reducible refine listN F ?_); clear F; intro wN F) | ((with_reducible refine at_load rfl ?_); first | (with_reducible refine wpList_load1G rfl (p := ⟨w.heap.size, 1, none⟩) rfl (v := .int .i64 a) (by kernel_rfl) c1.out ukindInt64 ?_) | (with_reducible refine wpList_load1G rfl (p := ⟨w.heap.size, 2, none⟩) rfl (v := .int .i64 b) (by kernel_rfl) c2.out ukindInt64 ?_)) | (go_at_call 31; first | ((with_reducible refine (HA.out _).mono ?_); rintro e w1 ⟨rfl, rfl⟩; skip) | ((with_reducible refine (HB.out _).mono ?_); rintro e w1 ⟨rfl, rfl⟩; skip)))
      go_ret
      exact ⟨ret_b (by rw [E.out]; rfl), F.below⟩
  rcases hk with rfl | hk
  · have F := (Frg.nil w).box 25 #[.int .i64 6, .int .i64 a, .int .i64 b]
    have E := hid (show okD 6 a b = (isD a true && isD b true) from rfl)
    go_enter Try.func10, Try.ntmps10
    go_wp2_with (first | ((with_reducible refine listN F ?_); clear F; intro wN F))
    first | (refine wpAt0 F ?_; clear F; intro wN F) | (refine wpAtN F ?_; clear F; intro wN F)
    have FD := F.drewN 1
    refine region_freeD (E := leX) (fun f args _ v => v = .agg formsD) (by kernel_rfl) (by kernel_rfl) ?_
    refine wpFreeD_callB rfl rfl Try.func30 (by kernel_rfl) (by kernel_rfl) (args := #[]) (by simp [Act.eval]) (fun v w1 w2 hw hv => hv) (fun w1 hw1 _ => (HF.out w1).mono ?_) ?_
    · rintro e w2 ⟨rfl, hl⟩
      exact ⟨_, rfl, hl, rfl⟩
    rintro v ⟨_, _, _, hv⟩
    replace hv : v = .agg formsD := hv
    subst hv
    simp only [Act.put, List.setIfInBounds_toArray, List.set_cons_succ, List.set_cons_zero]
    refine wpFreeD_one rfl (.pointer (some ⟨w.heap.size, 0, none⟩)) (fun w1 _ => by kernel_rfl) ?_
    simp only [Act.put, List.setIfInBounds_toArray, List.set_cons_succ, List.set_cons_zero]
    refine wpFreeD_load1 rfl rfl rfl (p := ⟨w.heap.size, 0, none⟩) (v := .int .i64 6) (fun w1 h1 => by rw [((FD.le h1).row m0).cell?]; rfl) ukindInt64 ?_
    simp only [Act.put, List.setIfInBounds_toArray, List.set_cons_succ, List.set_cons_zero]
    refine wpFreeD_one rfl (.agg #[.string ⟨#[115, 112, 111, 105, 108]⟩, .int .i64 2]) (fun w1 _ => by kernel_rfl) ?_
    simp only [Act.put, List.setIfInBounds_toArray, List.set_cons_succ, List.set_cons_zero]
    refine wpFreeD_one rfl (.int .i64 2) (fun w1 _ => by kernel_rfl) ?_
    simp only [Act.put, List.setIfInBounds_toArray, List.set_cons_succ, List.set_cons_zero]
    refine wpFreeD_one rfl (.int .i64 2) (fun w1 _ => by kernel_rfl) ?_
    simp only [Act.put, List.setIfInBounds_toArray, List.set_cons_succ, List.set_cons_zero]
    refine wpFreeD_nil (fun wR hwR hF => ?_)
    clear hF
    replace F := FD.le hwR
    clear hwR FD
    have c1 := hid (show wR.cell? ⟨w.heap.size, 1, none⟩ = some (.int .i64 a) by rw [(F.row m0).cell?]; rfl)
    have c2 := hid (show wR.cell? ⟨w.heap.size, 2, none⟩ = some (.int .i64 b) by rw [(F.row m0).cell?]; rfl)
    have HA := hid (fun (w : World) => i_isDeedNumber a true w)
    have HB := hid (fun (w : World) => i_isDeedNumber b true w)
    clear HD HF
    rcases bool_ft (isD a true) with da | da
    · rw [da] at HA E
      clear da
      go_wp2_with (first | ((with_reducible refine listN F ?_); clear F; intro wN F) | ((with_reducible refine at_load rfl ?_); first | (with_reducible refine wpList_load1G rfl (p := ⟨w.heap.size, 1, none⟩) rfl (v := .int .i64 a) (by kernel_rfl) c1.out ukindInt64 ?_) | (with_reducible refine wpList_load1G rfl (p := ⟨w.heap.size, 2, none⟩) rfl (v := .int .i64 b) (by kernel_rfl) c2.out ukindInt64 ?_)) | (go_at_call 31; first | ((with_reducible refine (HA.out _).mono ?_); rintro e w1 ⟨rfl, rfl⟩; skip) | ((with_reducible refine (HB.out _).mono ?_); rintro e w1 ⟨rfl, rfl⟩; skip)))
      go_ret
      exact ⟨ret_b (by rw [E.out]; rfl), F.below⟩
    · rw [da] at HA E
      clear da
      go_wp2_with (first | ((with_reducible refine listN F ?_); clear F; intro wN F) | ((with_reducible refine at_load rfl ?_); first | (with_reducible refine wpList_load1G rfl (p := ⟨w.heap.size, 1, none⟩) rfl (v := .int .i64 a) (by kernel_rfl) c1.out ukindInt64 ?_) | (with_reducible refine wpList_load1G rfl (p := ⟨w.heap.size, 2, none⟩) rfl (v := .int .i64 b) (by kernel_rfl) c2.out ukindInt64 ?_)) | (go_at_call 31; first | ((with_reducible refine (HA.out _).mono ?_); rintro e w1 ⟨rfl, rfl⟩; skip) | ((with_reducible refine (HB.out _).mono ?_); rintro e w1 ⟨rfl, rfl⟩; skip)))
      go_ret
      exact ⟨ret_b (by rw [E.out]; rfl), F.below⟩
  rcases hk with rfl | hk
  · have F := (Frg.nil w).box 25 #[.int .i64 7, .int .i64 a, .int .i64 b]
    have E := hid (show okD 7 a b = (isD a false && isD b false) from rfl)
    go_enter Try.func10, Try.ntmps10
    go_wp2_with (first | ((with_reducible refine listN F ?_); clear F; intro wN F))
    first | (refine wpAt0 F ?_; clear F; intro wN F) | (refine wpAtN F ?_; clear F; intro wN F)
    have FD := F.drewN 1
    refine region_freeD (E := leX) (fun f args _ v => v = .agg formsD) (by kernel_rfl) (by kernel_rfl) ?_
    refine wpFreeD_callB rfl rfl Try.func30 (by kernel_rfl) (by kernel_rfl) (args := #[]) (by simp [Act.eval]) (fun v w1 w2 hw hv => hv) (fun w1 hw1 _ => (HF.out w1).mono ?_) ?_
    · rintro e w2 ⟨rfl, hl⟩
      exact ⟨_, rfl, hl, rfl⟩
    rintro v ⟨_, _, _, hv⟩
    replace hv : v = .agg formsD := hv
    subst hv
    simp only [Act.put, List.setIfInBounds_toArray, List.set_cons_succ, List.set_cons_zero]
    refine wpFreeD_one rfl (.pointer (some ⟨w.heap.size, 0, none⟩)) (fun w1 _ => by kernel_rfl) ?_
    simp only [Act.put, List.setIfInBounds_toArray, List.set_cons_succ, List.set_cons_zero]
    refine wpFreeD_load1 rfl rfl rfl (p := ⟨w.heap.size, 0, none⟩) (v := .int .i64 7) (fun w1 h1 => by rw [((FD.le h1).row m0).cell?]; rfl) ukindInt64 ?_
    simp only [Act.put, List.setIfInBounds_toArray, List.set_cons_succ, List.set_cons_zero]
    refine wpFreeD_one rfl (.agg #[.string ⟨#[115, 121, 110, 99]⟩, .int .i64 0]) (fun w1 _ => by kernel_rfl) ?_
    simp only [Act.put, List.setIfInBounds_toArray, List.set_cons_succ, List.set_cons_zero]
    refine wpFreeD_one rfl (.int .i64 0) (fun w1 _ => by kernel_rfl) ?_
    simp only [Act.put, List.setIfInBounds_toArray, List.set_cons_succ, List.set_cons_zero]
    refine wpFreeD_one rfl (.int .i64 0) (fun w1 _ => by kernel_rfl) ?_
    simp only [Act.put, List.setIfInBounds_toArray, List.set_cons_succ, List.set_cons_zero]
    refine wpFreeD_nil (fun wR hwR hF => ?_)
    clear hF
    replace F := FD.le hwR
    clear hwR FD
    have c1 := hid (show wR.cell? ⟨w.heap.size, 1, none⟩ = some (.int .i64 a) by rw [(F.row m0).cell?]; rfl)
    have c2 := hid (show wR.cell? ⟨w.heap.size, 2, none⟩ = some (.int .i64 b) by rw [(F.row m0).cell?]; rfl)
    have HA := hid (fun (w : World) => i_isDeedNumber a false w)
    have HB := hid (fun (w : World) => i_isDeedNumber b false w)
    clear HD HF
    rcases bool_ft (isD a false) with da | da
    · rw [da] at HA E
      clear da
      go_wp2_with (first | ((with_reducible refine listN F ?_); clear F; intro wN F) | ((with_reducible refine at_load rfl ?_); first | (with_reducible refine wpList_load1G rfl (p := ⟨w.heap.size, 1, none⟩) rfl (v := .int .i64 a) (by kernel_rfl) c1.out ukindInt64 ?_) | (with_reducible refine wpList_load1G rfl (p := ⟨w.heap.size, 2, none⟩) rfl (v := .int .i64 b) (by kernel_rfl) c2.out ukindInt64 ?_)) | (go_at_call 31; first | ((with_reducible refine (HA.out _).mono ?_); rintro e w1 ⟨rfl, rfl⟩; skip) | ((with_reducible refine (HB.out _).mono ?_); rintro e w1 ⟨rfl, rfl⟩; skip)))
      go_ret
      exact ⟨ret_b (by rw [E.out]; rfl), F.below⟩
    · rw [da] at HA E
      clear da
      go_wp2_with (first | ((with_reducible refine listN F ?_); clear F; intro wN F) | ((with_reducible refine at_load rfl ?_); first | (with_reducible refine wpList_load1G rfl (p := ⟨w.heap.size, 1, none⟩) rfl (v := .int .i64 a) (by kernel_rfl) c1.out ukindInt64 ?_) | (with_reducible refine wpList_load1G rfl (p := ⟨w.heap.size, 2, none⟩) rfl (v := .int .i64 b) (by kernel_rfl) c2.out ukindInt64 ?_)) | (go_at_call 31; first | ((with_reducible refine (HA.out _).mono ?_); rintro e w1 ⟨rfl, rfl⟩; skip) | ((with_reducible refine (HB.out _).mono ?_); rintro e w1 ⟨rfl, rfl⟩; skip)))
      go_ret
      exact ⟨ret_b (by rw [E.out]; rfl), F.below⟩
  rcases hk with rfl | hk
  · have F := (Frg.nil w).box 25 #[.int .i64 8, .int .i64 a, .int .i64 b]
    have E := hid (show okD 8 a b = (isD a false && isD b false) from rfl)
    go_enter Try.func10, Try.ntmps10
    go_wp2_with (first | ((with_reducible refine listN F ?_); clear F; intro wN F))
    first | (refine wpAt0 F ?_; clear F; intro wN F) | (refine wpAtN F ?_; clear F; intro wN F)
    have FD := F.drewN 1
    refine region_freeD (E := leX) (fun f args _ v => v = .agg formsD) (by kernel_rfl) (by kernel_rfl) ?_
    refine wpFreeD_callB rfl rfl Try.func30 (by kernel_rfl) (by kernel_rfl) (args := #[]) (by simp [Act.eval]) (fun v w1 w2 hw hv => hv) (fun w1 hw1 _ => (HF.out w1).mono ?_) ?_
    · rintro e w2 ⟨rfl, hl⟩
      exact ⟨_, rfl, hl, rfl⟩
    rintro v ⟨_, _, _, hv⟩
    replace hv : v = .agg formsD := hv
    subst hv
    simp only [Act.put, List.setIfInBounds_toArray, List.set_cons_succ, List.set_cons_zero]
    refine wpFreeD_one rfl (.pointer (some ⟨w.heap.size, 0, none⟩)) (fun w1 _ => by kernel_rfl) ?_
    simp only [Act.put, List.setIfInBounds_toArray, List.set_cons_succ, List.set_cons_zero]
    refine wpFreeD_load1 rfl rfl rfl (p := ⟨w.heap.size, 0, none⟩) (v := .int .i64 8) (fun w1 h1 => by rw [((FD.le h1).row m0).cell?]; rfl) ukindInt64 ?_
    simp only [Act.put, List.setIfInBounds_toArray, List.set_cons_succ, List.set_cons_zero]
    refine wpFreeD_one rfl (.agg #[.string ⟨#[99, 114, 97, 115, 104]⟩, .int .i64 0]) (fun w1 _ => by kernel_rfl) ?_
    simp only [Act.put, List.setIfInBounds_toArray, List.set_cons_succ, List.set_cons_zero]
    refine wpFreeD_one rfl (.int .i64 0) (fun w1 _ => by kernel_rfl) ?_
    simp only [Act.put, List.setIfInBounds_toArray, List.set_cons_succ, List.set_cons_zero]
    refine wpFreeD_one rfl (.int .i64 0) (fun w1 _ => by kernel_rfl) ?_
    simp only [Act.put, List.setIfInBounds_toArray, List.set_cons_succ, List.set_cons_zero]
    refine wpFreeD_nil (fun wR hwR hF => ?_)
    clear hF
    replace F := FD.le hwR
    clear hwR FD
    have c1 := hid (show wR.cell? ⟨w.heap.size, 1, none⟩ = some (.int .i64 a) by rw [(F.row m0).cell?]; rfl)
    have c2 := hid (show wR.cell? ⟨w.heap.size, 2, none⟩ = some (.int .i64 b) by rw [(F.row m0).cell?]; rfl)
    have HA := hid (fun (w : World) => i_isDeedNumber a false w)
    have HB := hid (fun (w : World) => i_isDeedNumber b false w)
    clear HD HF
    rcases bool_ft (isD a false) with da | da
    · rw [da] at HA E
      clear da
      go_wp2_with (first | ((with_reducible refine listN F ?_); clear F; intro wN F) | ((with_reducible refine at_load rfl ?_); first | (with_reducible refine wpList_load1G rfl (p := ⟨w.heap.size, 1, none⟩) rfl (v := .int .i64 a) (by kernel_rfl) c1.out ukindInt64 ?_) | (with_reducible refine wpList_load1G rfl (p := ⟨w.heap.size, 2, none⟩) rfl (v := .int .i64 b) (by kernel_rfl) c2.out ukindInt64 ?_)) | (go_at_call 31; first | ((with_reducible refine (HA.out _).mono ?_); rintro e w1 ⟨rfl, rfl⟩; skip) | ((with_reducible refine (HB.out _).mono ?_); rintro e w1 ⟨rfl, rfl⟩; skip)))
      go_ret
      exact ⟨ret_b (by rw [E.out]; rfl), F.below⟩
    · rw [da] at HA E
      clear da
      go_wp2_with (first | ((with_reducible refine listN F ?_); clear F; intro wN F) | ((with_reducible refine at_load rfl ?_); first | (with_reducible refine wpList_load1G rfl (p := ⟨w.heap.size, 1, none⟩) rfl (v := .int .i64 a) (by kernel_rfl) c1.out ukindInt64 ?_) | (with_reducible refine wpList_load1G rfl (p := ⟨w.heap.size, 2, none⟩) rfl (v := .int .i64 b) (by kernel_rfl) c2.out ukindInt64 ?_)) | (go_at_call 31; first | ((with_reducible refine (HA.out _).mono ?_); rintro e w1 ⟨rfl, rfl⟩; skip) | ((with_reducible refine (HB.out _).mono ?_); rintro e w1 ⟨rfl, rfl⟩; skip)))
      go_ret
      exact ⟨ret_b (by rw [E.out]; rfl), F.below⟩
  subst hk
  have F := (Frg.nil w).box 25 #[.int .i64 9, .int .i64 a, .int .i64 b]
  have E := hid (show okD 9 a b = (isD a true && isD b false) from rfl)
  go_enter Try.func10, Try.ntmps10
  go_wp2_with (first | ((with_reducible refine listN F ?_); clear F; intro wN F))
  first | (refine wpAt0 F ?_; clear F; intro wN F) | (refine wpAtN F ?_; clear F; intro wN F)
  have FD := F.drewN 1
  refine region_freeD (E := leX) (fun f args _ v => v = .agg formsD) (by kernel_rfl) (by kernel_rfl) ?_
  refine wpFreeD_callB rfl rfl Try.func30 (by kernel_rfl) (by kernel_rfl) (args := #[]) (by simp [Act.eval]) (fun v w1 w2 hw hv => hv) (fun w1 hw1 _ => (HF.out w1).mono ?_) ?_
  · rintro e w2 ⟨rfl, hl⟩
    exact ⟨_, rfl, hl, rfl⟩
  rintro v ⟨_, _, _, hv⟩
  replace hv : v = .agg formsD := hv
  subst hv
  simp only [Act.put, List.setIfInBounds_toArray, List.set_cons_succ, List.set_cons_zero]
  refine wpFreeD_one rfl (.pointer (some ⟨w.heap.size, 0, none⟩)) (fun w1 _ => by kernel_rfl) ?_
  simp only [Act.put, List.setIfInBounds_toArray, List.set_cons_succ, List.set_cons_zero]
  refine wpFreeD_load1 rfl rfl rfl (p := ⟨w.heap.size, 0, none⟩) (v := .int .i64 9) (fun w1 h1 => by rw [((FD.le h1).row m0).cell?]; rfl) ukindInt64 ?_
  simp only [Act.put, List.setIfInBounds_toArray, List.set_cons_succ, List.set_cons_zero]
  refine wpFreeD_one rfl (.agg #[.string ⟨#[113, 117, 105, 116]⟩, .int .i64 1]) (fun w1 _ => by kernel_rfl) ?_
  simp only [Act.put, List.setIfInBounds_toArray, List.set_cons_succ, List.set_cons_zero]
  refine wpFreeD_one rfl (.int .i64 1) (fun w1 _ => by kernel_rfl) ?_
  simp only [Act.put, List.setIfInBounds_toArray, List.set_cons_succ, List.set_cons_zero]
  refine wpFreeD_one rfl (.int .i64 1) (fun w1 _ => by kernel_rfl) ?_
  simp only [Act.put, List.setIfInBounds_toArray, List.set_cons_succ, List.set_cons_zero]
  refine wpFreeD_nil (fun wR hwR hF => ?_)
  clear hF
  replace F := FD.le hwR
  clear hwR FD
  have c1 := hid (show wR.cell? ⟨w.heap.size, 1, none⟩ = some (.int .i64 a) by rw [(F.row m0).cell?]; rfl)
  have c2 := hid (show wR.cell? ⟨w.heap.size, 2, none⟩ = some (.int .i64 b) by rw [(F.row m0).cell?]; rfl)
  have HA := hid (fun (w : World) => i_isDeedNumber a true w)
  have HB := hid (fun (w : World) => i_isDeedNumber b false w)
  clear HD HF
  rcases bool_ft (isD a true) with da | da
  · rw [da] at HA E
    clear da
    go_wp2_with (first | ((with_reducible refine listN F ?_); clear F; intro wN F) | ((with_reducible refine at_load rfl ?_); first | (with_reducible refine wpList_load1G rfl (p := ⟨w.heap.size, 1, none⟩) rfl (v := .int .i64 a) (by kernel_rfl) c1.out ukindInt64 ?_) | (with_reducible refine wpList_load1G rfl (p := ⟨w.heap.size, 2, none⟩) rfl (v := .int .i64 b) (by kernel_rfl) c2.out ukindInt64 ?_)) | (go_at_call 31; first | ((with_reducible refine (HA.out _).mono ?_); rintro e w1 ⟨rfl, rfl⟩; skip) | ((with_reducible refine (HB.out _).mono ?_); rintro e w1 ⟨rfl, rfl⟩; skip)))
    go_ret
    exact ⟨ret_b (by rw [E.out]; rfl), F.below⟩
  · rw [da] at HA E
    clear da
    go_wp2_with (first | ((with_reducible refine listN F ?_); clear F; intro wN F) | ((with_reducible refine at_load rfl ?_); first | (with_reducible refine wpList_load1G rfl (p := ⟨w.heap.size, 1, none⟩) rfl (v := .int .i64 a) (by kernel_rfl) c1.out ukindInt64 ?_) | (with_reducible refine wpList_load1G rfl (p := ⟨w.heap.size, 2, none⟩) rfl (v := .int .i64 b) (by kernel_rfl) c2.out ukindInt64 ?_)) | (go_at_call 31; first | ((with_reducible refine (HA.out _).mono ?_); rintro e w1 ⟨rfl, rfl⟩; skip) | ((with_reducible refine (HB.out _).mono ?_); rintro e w1 ⟨rfl, rfl⟩; skip)))
    go_ret
    exact ⟨ret_b (by rw [E.out]; rfl), F.below⟩
set_option maxRecDepth 100000 in
set_option maxHeartbeats 4000000 in
theorem s_ValidDeed (k a b : Int) (w : World) : Calls Try.prog 8 #[.agg #[.int .i64 k, .int .i64 a, .int .i64 b]] w (Out_b (okD k a b) w) := by
  have F := (Frg.nil w).box 25 #[.int .i64 k, .int .i64 a, .int .i64 b]
  have HK := hid (fun (w : World) => s_In k 1 9 w)
  have HA := hid (fun (w : World) => s_In a 0 999 w)
  have HB := hid (fun (w : World) => s_In b 0 999 w)
  have HN := hid (fun (w : World) => s_l10Numbers k w)
  rcases bool_ft (decide (1 ≤ k) && decide (k ≤ 9)) with dk | dk
  · have E := hid (show okD k a b = false by unfold okD; rw [dk]; rfl)
    rw [dk] at HK
    clear dk
    go_enter Try.func8, Try.ntmps8
    go_wp2_with (first | ((with_reducible refine listN F ?_); clear F; intro wN F) | ((with_reducible refine at_load rfl ?_); first | (with_reducible refine wpList_load1G rfl (p := ⟨w.heap.size, 0, none⟩) rfl (v := .int .i64 k) (by kernel_rfl) (by rw [(F.row m0).cell?]; rfl) ukindInt64 ?_) | (with_reducible refine wpList_load1G rfl (p := ⟨w.heap.size, 1, none⟩) rfl (v := .int .i64 a) (by kernel_rfl) (by rw [(F.row m0).cell?]; rfl) ukindInt64 ?_) | (with_reducible refine wpList_load1G rfl (p := ⟨w.heap.size, 2, none⟩) rfl (v := .int .i64 b) (by kernel_rfl) (by rw [(F.row m0).cell?]; rfl) ukindInt64 ?_)) | (go_at_call 28; first | ((with_reducible refine (HK.out _).mono ?_); rintro e w1 ⟨rfl, rfl⟩; skip) | ((with_reducible refine (HA.out _).mono ?_); rintro e w1 ⟨rfl, rfl⟩; skip) | ((with_reducible refine (HB.out _).mono ?_); rintro e w1 ⟨rfl, rfl⟩; skip)) | (go_at_call 29; ((with_reducible refine (HN.out _).mono ?_); rintro e w1 ⟨rfl, rfl⟩; skip)))
    go_ret
    exact ⟨ret_b E.out.symm, F.below⟩
  have tk := dk
  rw [dk] at HK
  clear dk
  rcases bool_ft (decide (0 ≤ a) && decide (a ≤ 999)) with da | da
  · have E := hid (show okD k a b = false by
      have hx : isD a (decide (1 ≤ numD k)) = false := by
        simp only [Bool.and_eq_false_iff, decide_eq_false_iff_not] at da
        unfold isD
        have b0 : ¬ a = 0 := by omega
        rcases da with da | da <;> simp [b0] <;> omega
      unfold okD; rw [hx]; simp)
    rw [da] at HA
    clear da
    go_enter Try.func8, Try.ntmps8
    go_wp2_with (first | ((with_reducible refine listN F ?_); clear F; intro wN F) | ((with_reducible refine at_load rfl ?_); first | (with_reducible refine wpList_load1G rfl (p := ⟨w.heap.size, 0, none⟩) rfl (v := .int .i64 k) (by kernel_rfl) (by rw [(F.row m0).cell?]; rfl) ukindInt64 ?_) | (with_reducible refine wpList_load1G rfl (p := ⟨w.heap.size, 1, none⟩) rfl (v := .int .i64 a) (by kernel_rfl) (by rw [(F.row m0).cell?]; rfl) ukindInt64 ?_) | (with_reducible refine wpList_load1G rfl (p := ⟨w.heap.size, 2, none⟩) rfl (v := .int .i64 b) (by kernel_rfl) (by rw [(F.row m0).cell?]; rfl) ukindInt64 ?_)) | (go_at_call 28; first | ((with_reducible refine (HK.out _).mono ?_); rintro e w1 ⟨rfl, rfl⟩; skip) | ((with_reducible refine (HA.out _).mono ?_); rintro e w1 ⟨rfl, rfl⟩; skip) | ((with_reducible refine (HB.out _).mono ?_); rintro e w1 ⟨rfl, rfl⟩; skip)) | (go_at_call 29; ((with_reducible refine (HN.out _).mono ?_); rintro e w1 ⟨rfl, rfl⟩; skip)))
    go_ret
    exact ⟨ret_b E.out.symm, F.below⟩
  have ta := da
  rw [da] at HA
  clear da
  rcases bool_ft (decide (0 ≤ b) && decide (b ≤ 999)) with db | db
  · have E := hid (show okD k a b = false by
      have hx : isD b (decide (2 ≤ numD k)) = false := by
        simp only [Bool.and_eq_false_iff, decide_eq_false_iff_not] at db
        unfold isD
        have b0 : ¬ b = 0 := by omega
        rcases db with db | db <;> simp [b0] <;> omega
      unfold okD; rw [hx]; simp)
    rw [db] at HB
    clear db
    go_enter Try.func8, Try.ntmps8
    go_wp2_with (first | ((with_reducible refine listN F ?_); clear F; intro wN F) | ((with_reducible refine at_load rfl ?_); first | (with_reducible refine wpList_load1G rfl (p := ⟨w.heap.size, 0, none⟩) rfl (v := .int .i64 k) (by kernel_rfl) (by rw [(F.row m0).cell?]; rfl) ukindInt64 ?_) | (with_reducible refine wpList_load1G rfl (p := ⟨w.heap.size, 1, none⟩) rfl (v := .int .i64 a) (by kernel_rfl) (by rw [(F.row m0).cell?]; rfl) ukindInt64 ?_) | (with_reducible refine wpList_load1G rfl (p := ⟨w.heap.size, 2, none⟩) rfl (v := .int .i64 b) (by kernel_rfl) (by rw [(F.row m0).cell?]; rfl) ukindInt64 ?_)) | (go_at_call 28; first | ((with_reducible refine (HK.out _).mono ?_); rintro e w1 ⟨rfl, rfl⟩; skip) | ((with_reducible refine (HA.out _).mono ?_); rintro e w1 ⟨rfl, rfl⟩; skip) | ((with_reducible refine (HB.out _).mono ?_); rintro e w1 ⟨rfl, rfl⟩; skip)) | (go_at_call 29; ((with_reducible refine (HN.out _).mono ?_); rintro e w1 ⟨rfl, rfl⟩; skip)))
    go_ret
    exact ⟨ret_b E.out.symm, F.below⟩
  have tb := db
  rw [db] at HB
  clear db
  have hn := numD_is k
  simp only [Bool.and_eq_true, decide_eq_true_eq] at ta tb
  have hta := hid ta; have htb := hid tb
  clear ta tb
  rcases hn with hn | hn
  · have E := hid (show okD k a b = (isD a false && isD b false) by unfold okD; rw [tk, hn]; rfl)
    rw [hn] at HN
    clear hn tk
    by_cases a0 : a = 0 <;> by_cases b0 : b = 0 <;> (try subst a0) <;> (try subst b0)
    all_goals
      go_enter Try.func8, Try.ntmps8
      go_wp2_with (first | ((with_reducible refine listN F ?_); clear F; intro wN F) | ((with_reducible refine at_load rfl ?_); first | (with_reducible refine wpList_load1G rfl (p := ⟨w.heap.size, 0, none⟩) rfl (v := .int .i64 k) (by kernel_rfl) (by rw [(F.row m0).cell?]; rfl) ukindInt64 ?_) | (with_reducible refine wpList_load1G rfl (p := ⟨w.heap.size, 1, none⟩) rfl (v := .int .i64 a) (by kernel_rfl) (by rw [(F.row m0).cell?]; rfl) ukindInt64 ?_) | (with_reducible refine wpList_load1G rfl (p := ⟨w.heap.size, 2, none⟩) rfl (v := .int .i64 b) (by kernel_rfl) (by rw [(F.row m0).cell?]; rfl) ukindInt64 ?_)) | (go_at_call 28; first | ((with_reducible refine (HK.out _).mono ?_); rintro e w1 ⟨rfl, rfl⟩; skip) | ((with_reducible refine (HA.out _).mono ?_); rintro e w1 ⟨rfl, rfl⟩; skip) | ((with_reducible refine (HB.out _).mono ?_); rintro e w1 ⟨rfl, rfl⟩; skip)) | (go_at_call 29; ((with_reducible refine (HN.out _).mono ?_); rintro e w1 ⟨rfl, rfl⟩; skip)))
      go_ret
      exact ⟨ret_b (by rw [E.out]; have := hta.out; have := htb.out; unfold isD; first | (simp [a0, b0] <;> omega) | (simp [a0] <;> omega) | (simp [b0] <;> omega) | (simp <;> omega)), F.below⟩
  rcases hn with hn | hn
  · have E := hid (show okD k a b = (isD a true && isD b false) by unfold okD; rw [tk, hn]; rfl)
    rw [hn] at HN
    clear hn tk
    by_cases a0 : a = 0 <;> by_cases b0 : b = 0 <;> (try subst a0) <;> (try subst b0)
    all_goals
      go_enter Try.func8, Try.ntmps8
      go_wp2_with (first | ((with_reducible refine listN F ?_); clear F; intro wN F) | ((with_reducible refine at_load rfl ?_); first | (with_reducible refine wpList_load1G rfl (p := ⟨w.heap.size, 0, none⟩) rfl (v := .int .i64 k) (by kernel_rfl) (by rw [(F.row m0).cell?]; rfl) ukindInt64 ?_) | (with_reducible refine wpList_load1G rfl (p := ⟨w.heap.size, 1, none⟩) rfl (v := .int .i64 a) (by kernel_rfl) (by rw [(F.row m0).cell?]; rfl) ukindInt64 ?_) | (with_reducible refine wpList_load1G rfl (p := ⟨w.heap.size, 2, none⟩) rfl (v := .int .i64 b) (by kernel_rfl) (by rw [(F.row m0).cell?]; rfl) ukindInt64 ?_)) | (go_at_call 28; first | ((with_reducible refine (HK.out _).mono ?_); rintro e w1 ⟨rfl, rfl⟩; skip) | ((with_reducible refine (HA.out _).mono ?_); rintro e w1 ⟨rfl, rfl⟩; skip) | ((with_reducible refine (HB.out _).mono ?_); rintro e w1 ⟨rfl, rfl⟩; skip)) | (go_at_call 29; ((with_reducible refine (HN.out _).mono ?_); rintro e w1 ⟨rfl, rfl⟩; skip)))
      go_ret
      exact ⟨ret_b (by rw [E.out]; have := hta.out; have := htb.out; unfold isD; first | (simp [a0, b0] <;> omega) | (simp [a0] <;> omega) | (simp [b0] <;> omega) | (simp <;> omega)), F.below⟩
  have E := hid (show okD k a b = (isD a true && isD b true) by unfold okD; rw [tk, hn]; rfl)
  rw [hn] at HN
  clear hn tk
  by_cases a0 : a = 0 <;> by_cases b0 : b = 0 <;> (try subst a0) <;> (try subst b0)
  all_goals
    go_enter Try.func8, Try.ntmps8
    go_wp2_with (first | ((with_reducible refine listN F ?_); clear F; intro wN F) | ((with_reducible refine at_load rfl ?_); first | (with_reducible refine wpList_load1G rfl (p := ⟨w.heap.size, 0, none⟩) rfl (v := .int .i64 k) (by kernel_rfl) (by rw [(F.row m0).cell?]; rfl) ukindInt64 ?_) | (with_reducible refine wpList_load1G rfl (p := ⟨w.heap.size, 1, none⟩) rfl (v := .int .i64 a) (by kernel_rfl) (by rw [(F.row m0).cell?]; rfl) ukindInt64 ?_) | (with_reducible refine wpList_load1G rfl (p := ⟨w.heap.size, 2, none⟩) rfl (v := .int .i64 b) (by kernel_rfl) (by rw [(F.row m0).cell?]; rfl) ukindInt64 ?_)) | (go_at_call 28; first | ((with_reducible refine (HK.out _).mono ?_); rintro e w1 ⟨rfl, rfl⟩; skip) | ((with_reducible refine (HA.out _).mono ?_); rintro e w1 ⟨rfl, rfl⟩; skip) | ((with_reducible refine (HB.out _).mono ?_); rintro e w1 ⟨rfl, rfl⟩; skip)) | (go_at_call 29; ((with_reducible refine (HN.out _).mono ?_); rintro e w1 ⟨rfl, rfl⟩; skip)))
    go_ret
    exact ⟨ret_b (by rw [E.out]; have := hta.out; have := htb.out; unfold isD; first | (simp [a0, b0] <;> omega) | (simp [a0] <;> omega) | (simp [b0] <;> omega) | (simp <;> omega)), F.below⟩
end Go.Proofs.Ytmnenomjclhehaa

/- The walk of 'FnExactValidDeed'. -/
namespace Go.Proofs.Ytmnenomjclhehaa.fnExactValidDeed
open Go.RowKit Go.Fk
set_option maxRecDepth 100000 in
set_option maxHeartbeats 4000000 in
theorem walk (cs0 : List CD) (vs0 : List Value) (w : World) (k0 : HasShL shDeed cs0) (z0 : RdL w w.heap.size cs0 vs0) :
    Calls Try.prog 3 #[.agg vs0.toArray] w fun e w' => e = .returned (.bool true) ∧ Below w.heap.size w w' := by
  obtain ⟨k, a, b, rfl⟩ := deed_vals z0 k0
  clear k0 z0
  have HT := hid (toDeed_lit k a b)
  have HS := hid (s_ValidDeed k a b)
  have HI := hid (fun (w' : World) (h : le w w') => i_ValidDeed k a b w')
  have F := (Frg.nil w).box 23 #[.int .i64 k, .int .i64 a, .int .i64 b]
  go_enter Try.func3, Try.ntmps3
  go_wp2_with (first | ((with_reducible refine listN F ?_); clear F; intro wN F) | ((with_reducible refine at_load rfl ?_); (refine wpList_loadG F rfl rfl rfl m0 Try.underlying23 rfl uinfoDeedL rfl ?_)) | (go_at_call 9; ((with_reducible refine (HT.out _).mono ?_); rintro e w1 ⟨rfl, hl1⟩; replace F := F.le hl1; clear hl1)) | (go_at_call 8; ((with_reducible refine (HS.out _).mono ?_); rintro e w1 ⟨rfl, hl1⟩; replace F := F.le hl1; clear hl1)) | (go_at_call 10; ((with_reducible refine (HI.out _ F.below).mono ?_); rintro e w1 ⟨rfl, hl1⟩; replace F := F.le hl1; clear hl1)))
  go_ret
  exact ⟨rfl, F.below⟩
end Go.Proofs.Ytmnenomjclhehaa.fnExactValidDeed
