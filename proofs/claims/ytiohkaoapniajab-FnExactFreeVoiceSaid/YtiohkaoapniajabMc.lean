/- Texts of the walk, laid in one file. -/
import Derived.Test.YtiohkaoapniajabMb
set_option linter.unusedVariables false
set_option linter.unusedSimpArgs false
/- Sizes of types, kinds of their cells; the kinds of data. -/
namespace Go.Fk
open Go Go.RowKit
theorem partFilter_C (v0 v1 v2 v3 v4 v5 : Value) : ∀ j, j < [v1, v2, v3].length → (#[v0, v1, v2, v3, v4, v5] : Array Value)[1 + j]? = [v1, v2, v3][j]? := fun j hj => by match j, hj with | 0, _ => rfl | 1, _ => rfl | 2, _ => rfl
theorem partFilter_S (v0 v1 v2 v3 v4 v5 : Value) : ∀ j, j < [v4, v5].length → (#[v0, v1, v2, v3, v4, v5] : Array Value)[4 + j]? = [v4, v5][j]? := fun j hj => by match j, hj with | 0, _ => rfl | 1, _ => rfl
theorem partString_Loop (v0 v1 v2 v3 v4 v5 v6 v7 v8 v9 v10 v11 v12 v13 v14 : Value) : ∀ j, j < [v0, v1].length → (#[v0, v1, v2, v3, v4, v5, v6, v7, v8, v9, v10, v11, v12, v13, v14] : Array Value)[0 + j]? = [v0, v1][j]? := fun j hj => by match j, hj with | 0, _ => rfl | 1, _ => rfl
theorem partString_Tune (v0 v1 v2 v3 v4 v5 v6 v7 v8 v9 v10 v11 v12 v13 v14 : Value) : ∀ j, j < [v2, v3, v4, v5, v6, v7].length → (#[v0, v1, v2, v3, v4, v5, v6, v7, v8, v9, v10, v11, v12, v13, v14] : Array Value)[2 + j]? = [v2, v3, v4, v5, v6, v7][j]? := fun j hj => by match j, hj with | 0, _ => rfl | 1, _ => rfl | 2, _ => rfl | 3, _ => rfl | 4, _ => rfl | 5, _ => rfl
theorem partString_Damp (v0 v1 v2 v3 v4 v5 v6 v7 v8 v9 v10 v11 v12 v13 v14 : Value) : ∀ j, j < [v8, v9, v10, v11, v12, v13].length → (#[v0, v1, v2, v3, v4, v5, v6, v7, v8, v9, v10, v11, v12, v13, v14] : Array Value)[8 + j]? = [v8, v9, v10, v11, v12, v13][j]? := fun j hj => by match j, hj with | 0, _ => rfl | 1, _ => rfl | 2, _ => rfl | 3, _ => rfl | 4, _ => rfl | 5, _ => rfl
theorem partPipe_End (v0 v1 v2 v3 v4 v5 v6 v7 v8 v9 v10 v11 v12 : Value) : ∀ j, j < [v3, v4, v5, v6, v7, v8].length → (#[v0, v1, v2, v3, v4, v5, v6, v7, v8, v9, v10, v11, v12] : Array Value)[3 + j]? = [v3, v4, v5, v6, v7, v8][j]? := fun j hj => by match j, hj with | 0, _ => rfl | 1, _ => rfl | 2, _ => rfl | 3, _ => rfl | 4, _ => rfl | 5, _ => rfl
theorem partBow_Neck (v0 v1 v2 v3 v4 v5 v6 v7 v8 v9 v10 v11 : Value) : ∀ j, j < [v0, v1].length → (#[v0, v1, v2, v3, v4, v5, v6, v7, v8, v9, v10, v11] : Array Value)[0 + j]? = [v0, v1][j]? := fun j hj => by match j, hj with | 0, _ => rfl | 1, _ => rfl
theorem partBow_Bridge (v0 v1 v2 v3 v4 v5 v6 v7 v8 v9 v10 v11 : Value) : ∀ j, j < [v2, v3].length → (#[v0, v1, v2, v3, v4, v5, v6, v7, v8, v9, v10, v11] : Array Value)[2 + j]? = [v2, v3][j]? := fun j hj => by match j, hj with | 0, _ => rfl | 1, _ => rfl
theorem partBow_Damp (v0 v1 v2 v3 v4 v5 v6 v7 v8 v9 v10 v11 : Value) : ∀ j, j < [v4, v5, v6, v7, v8, v9].length → (#[v0, v1, v2, v3, v4, v5, v6, v7, v8, v9, v10, v11] : Array Value)[4 + j]? = [v4, v5, v6, v7, v8, v9][j]? := fun j hj => by match j, hj with | 0, _ => rfl | 1, _ => rfl | 2, _ => rfl | 3, _ => rfl | 4, _ => rfl | 5, _ => rfl
theorem partJet_Throat (v0 v1 v2 v3 v4 v5 v6 v7 v8 v9 v10 v11 v12 v13 v14 v15 v16 v17 : Value) : ∀ j, j < [v0, v1].length → (#[v0, v1, v2, v3, v4, v5, v6, v7, v8, v9, v10, v11, v12, v13, v14, v15, v16, v17] : Array Value)[0 + j]? = [v0, v1][j]? := fun j hj => by match j, hj with | 0, _ => rfl | 1, _ => rfl
theorem partJet_Bore (v0 v1 v2 v3 v4 v5 v6 v7 v8 v9 v10 v11 v12 v13 v14 v15 v16 v17 : Value) : ∀ j, j < [v2, v3].length → (#[v0, v1, v2, v3, v4, v5, v6, v7, v8, v9, v10, v11, v12, v13, v14, v15, v16, v17] : Array Value)[2 + j]? = [v2, v3][j]? := fun j hj => by match j, hj with | 0, _ => rfl | 1, _ => rfl
theorem partJet_Low (v0 v1 v2 v3 v4 v5 v6 v7 v8 v9 v10 v11 v12 v13 v14 v15 v16 v17 : Value) : ∀ j, j < [v4, v5, v6, v7, v8, v9].length → (#[v0, v1, v2, v3, v4, v5, v6, v7, v8, v9, v10, v11, v12, v13, v14, v15, v16, v17] : Array Value)[4 + j]? = [v4, v5, v6, v7, v8, v9][j]? := fun j hj => by match j, hj with | 0, _ => rfl | 1, _ => rfl | 2, _ => rfl | 3, _ => rfl | 4, _ => rfl | 5, _ => rfl
theorem partJet_Dc (v0 v1 v2 v3 v4 v5 v6 v7 v8 v9 v10 v11 v12 v13 v14 v15 v16 v17 : Value) : ∀ j, j < [v10, v11, v12, v13, v14, v15].length → (#[v0, v1, v2, v3, v4, v5, v6, v7, v8, v9, v10, v11, v12, v13, v14, v15, v16, v17] : Array Value)[10 + j]? = [v10, v11, v12, v13, v14, v15][j]? := fun j hj => by match j, hj with | 0, _ => rfl | 1, _ => rfl | 2, _ => rfl | 3, _ => rfl | 4, _ => rfl | 5, _ => rfl
theorem partComb_Ring (v0 v1 v2 : Value) : ∀ j, j < [v0, v1].length → (#[v0, v1, v2] : Array Value)[0 + j]? = [v0, v1][j]? := fun j hj => by match j, hj with | 0, _ => rfl | 1, _ => rfl
theorem partScore_Tuning (v0 v1 v2 v3 v4 v5 : Value) : ∀ j, j < [v1, v2, v3].length → (#[v0, v1, v2, v3, v4, v5] : Array Value)[1 + j]? = [v1, v2, v3][j]? := fun j hj => by match j, hj with | 0, _ => rfl | 1, _ => rfl | 2, _ => rfl
theorem partVoice_String (v0 v1 v2 v3 v4 v5 v6 v7 v8 v9 v10 v11 v12 v13 v14 v15 v16 v17 v18 v19 v20 v21 v22 v23 v24 v25 v26 v27 v28 v29 v30 v31 v32 v33 v34 v35 v36 v37 v38 v39 v40 v41 v42 v43 v44 : Value) : ∀ j, j < [v5, v6, v7, v8, v9, v10, v11, v12, v13, v14, v15, v16, v17, v18, v19].length → (#[v0, v1, v2, v3, v4, v5, v6, v7, v8, v9, v10, v11, v12, v13, v14, v15, v16, v17, v18, v19, v20, v21, v22, v23, v24, v25, v26, v27, v28, v29, v30, v31, v32, v33, v34, v35, v36, v37, v38, v39, v40, v41, v42, v43, v44] : Array Value)[5 + j]? = [v5, v6, v7, v8, v9, v10, v11, v12, v13, v14, v15, v16, v17, v18, v19][j]? := fun j hj => by match j, hj with | 0, _ => rfl | 1, _ => rfl | 2, _ => rfl | 3, _ => rfl | 4, _ => rfl | 5, _ => rfl | 6, _ => rfl | 7, _ => rfl | 8, _ => rfl | 9, _ => rfl | 10, _ => rfl | 11, _ => rfl | 12, _ => rfl | 13, _ => rfl | 14, _ => rfl
theorem partVoice_Pipe (v0 v1 v2 v3 v4 v5 v6 v7 v8 v9 v10 v11 v12 v13 v14 v15 v16 v17 v18 v19 v20 v21 v22 v23 v24 v25 v26 v27 v28 v29 v30 v31 v32 v33 v34 v35 v36 v37 v38 v39 v40 v41 v42 v43 v44 : Value) : ∀ j, j < [v20, v21, v22, v23, v24, v25, v26, v27, v28, v29, v30, v31, v32].length → (#[v0, v1, v2, v3, v4, v5, v6, v7, v8, v9, v10, v11, v12, v13, v14, v15, v16, v17, v18, v19, v20, v21, v22, v23, v24, v25, v26, v27, v28, v29, v30, v31, v32, v33, v34, v35, v36, v37, v38, v39, v40, v41, v42, v43, v44] : Array Value)[20 + j]? = [v20, v21, v22, v23, v24, v25, v26, v27, v28, v29, v30, v31, v32][j]? := fun j hj => by match j, hj with | 0, _ => rfl | 1, _ => rfl | 2, _ => rfl | 3, _ => rfl | 4, _ => rfl | 5, _ => rfl | 6, _ => rfl | 7, _ => rfl | 8, _ => rfl | 9, _ => rfl | 10, _ => rfl | 11, _ => rfl | 12, _ => rfl
theorem partVoice_Bow (v0 v1 v2 v3 v4 v5 v6 v7 v8 v9 v10 v11 v12 v13 v14 v15 v16 v17 v18 v19 v20 v21 v22 v23 v24 v25 v26 v27 v28 v29 v30 v31 v32 v33 v34 v35 v36 v37 v38 v39 v40 v41 v42 v43 v44 : Value) : ∀ j, j < [v33, v34, v35, v36, v37, v38, v39, v40, v41, v42, v43, v44].length → (#[v0, v1, v2, v3, v4, v5, v6, v7, v8, v9, v10, v11, v12, v13, v14, v15, v16, v17, v18, v19, v20, v21, v22, v23, v24, v25, v26, v27, v28, v29, v30, v31, v32, v33, v34, v35, v36, v37, v38, v39, v40, v41, v42, v43, v44] : Array Value)[33 + j]? = [v33, v34, v35, v36, v37, v38, v39, v40, v41, v42, v43, v44][j]? := fun j hj => by match j, hj with | 0, _ => rfl | 1, _ => rfl | 2, _ => rfl | 3, _ => rfl | 4, _ => rfl | 5, _ => rfl | 6, _ => rfl | 7, _ => rfl | 8, _ => rfl | 9, _ => rfl | 10, _ => rfl | 11, _ => rfl
theorem partPlayer_Score (v0 v1 v2 v3 v4 v5 v6 v7 v8 v9 : Value) : ∀ j, j < [v0, v1, v2, v3, v4, v5].length → (#[v0, v1, v2, v3, v4, v5, v6, v7, v8, v9] : Array Value)[0 + j]? = [v0, v1, v2, v3, v4, v5][j]? := fun j hj => by match j, hj with | 0, _ => rfl | 1, _ => rfl | 2, _ => rfl | 3, _ => rfl | 4, _ => rfl | 5, _ => rfl
theorem szL_take (cs : List CD) : ∀ k, szL (cs.take k) ≤ szL cs := by
  induction cs with
  | nil => intro k; simp
  | cons c cs ih =>
    intro k
    cases k with
    | zero => exact Nat.zero_le _
    | succ k => have := ih k; simp only [szL, List.take_succ_cons, List.map_cons, List.sum_cons] at this ⊢; omega
theorem szL_drop (cs : List CD) : ∀ k, szL (cs.drop k) ≤ szL cs := by
  induction cs with
  | nil => intro k; simp
  | cons c cs ih =>
    intro k
    cases k with
    | zero => exact Nat.le_refl _
    | succ k => have := ih k; simp only [szL, List.drop_succ_cons, List.map_cons, List.sum_cons] at this ⊢; omega
/-- A part of a struct is no greater than all of it. -/
theorem szL_le {cs ds : List CD} {m : Nat} (h : szL cs ≤ m) (i k : Nat) (e : (cs.drop i).take k = ds) : szL ds ≤ m := e ▸ Nat.le_trans (szL_take _ _) (Nat.le_trans (szL_drop _ _) h)
theorem szC_le {cs : List CD} {c : CD} {m : Nat} (h : szL cs ≤ m) (i : Nat) (e : (cs.drop i).take 1 = [c]) : c.sz ≤ m := by
  have := szL_le h i 1 e
  simpa [szL] using this
def shRing : List Sh := [.sl 1 (fun j => [.flt .f32].getD j .bool), .int .i64]
def shFilter : List Sh := [.int .i64, .flt .f32, .flt .f32, .flt .f32, .flt .f32, .flt .f32]
def shString : List Sh := [.sl 1 (fun j => [.flt .f32].getD j .bool), .int .i64, .int .i64, .flt .f32, .flt .f32, .flt .f32, .flt .f32, .flt .f32, .int .i64, .flt .f32, .flt .f32, .flt .f32, .flt .f32, .flt .f32, .flt .f32]
def shPipe : List Sh := [.sl 2 (fun j => [.sl 1 (fun j => [.flt .f32].getD j .bool), .int .i64].getD j .bool), .sl 2 (fun j => [.sl 1 (fun j => [.flt .f32].getD j .bool), .int .i64].getD j .bool), .sl 1 (fun j => [.flt .f32].getD j .bool), .int .i64, .flt .f32, .flt .f32, .flt .f32, .flt .f32, .flt .f32, .bool, .flt .f32, .flt .f32, .flt .f32]
def shBow : List Sh := [.sl 1 (fun j => [.flt .f32].getD j .bool), .int .i64, .sl 1 (fun j => [.flt .f32].getD j .bool), .int .i64, .int .i64, .flt .f32, .flt .f32, .flt .f32, .flt .f32, .flt .f32, .flt .f32, .flt .f32]
def shJet : List Sh := [.sl 1 (fun j => [.flt .f32].getD j .bool), .int .i64, .sl 1 (fun j => [.flt .f32].getD j .bool), .int .i64, .int .i64, .flt .f32, .flt .f32, .flt .f32, .flt .f32, .flt .f32, .int .i64, .flt .f32, .flt .f32, .flt .f32, .flt .f32, .flt .f32, .flt .f32, .flt .f32]
def shComb : List Sh := [.sl 1 (fun j => [.flt .f32].getD j .bool), .int .i64, .flt .f32]
def shTap : List Sh := [.int .i64, .flt .f32]
def shTuning : List Sh := [.flt .f32, .flt .f32, .sl 1 (fun j => [.flt .f32].getD j .bool)]
def shInstrument : List Sh := [.str, .int .i64, .flt .f32, .flt .f32, .flt .f32]
def shEvent : List Sh := [.int .i64, .int .i64, .int .i64, .int .i64, .int .i64, .flt .f32]
def shScore : List Sh := [.flt .f32, .flt .f32, .flt .f32, .sl 1 (fun j => [.flt .f32].getD j .bool), .sl 5 (fun j => [.str, .int .i64, .flt .f32, .flt .f32, .flt .f32].getD j .bool), .sl 6 (fun j => [.int .i64, .int .i64, .int .i64, .int .i64, .int .i64, .flt .f32].getD j .bool)]
def shVoice : List Sh := [.int .i64, .int .i64, .int .i64, .bool, .flt .f32, .sl 1 (fun j => [.flt .f32].getD j .bool), .int .i64, .int .i64, .flt .f32, .flt .f32, .flt .f32, .flt .f32, .flt .f32, .int .i64, .flt .f32, .flt .f32, .flt .f32, .flt .f32, .flt .f32, .flt .f32, .sl 2 (fun j => [.sl 1 (fun j => [.flt .f32].getD j .bool), .int .i64].getD j .bool), .sl 2 (fun j => [.sl 1 (fun j => [.flt .f32].getD j .bool), .int .i64].getD j .bool), .sl 1 (fun j => [.flt .f32].getD j .bool), .int .i64, .flt .f32, .flt .f32, .flt .f32, .flt .f32, .flt .f32, .bool, .flt .f32, .flt .f32, .flt .f32, .sl 1 (fun j => [.flt .f32].getD j .bool), .int .i64, .sl 1 (fun j => [.flt .f32].getD j .bool), .int .i64, .int .i64, .flt .f32, .flt .f32, .flt .f32, .flt .f32, .flt .f32, .flt .f32, .flt .f32]
def shPlayer : List Sh := [.flt .f32, .flt .f32, .flt .f32, .sl 1 (fun j => [.flt .f32].getD j .bool), .sl 5 (fun j => [.str, .int .i64, .flt .f32, .flt .f32, .flt .f32].getD j .bool), .sl 6 (fun j => [.int .i64, .int .i64, .int .i64, .int .i64, .int .i64, .flt .f32].getD j .bool), .sl 45 (fun j => [.int .i64, .int .i64, .int .i64, .bool, .flt .f32, .sl 1 (fun j => [.flt .f32].getD j .bool), .int .i64, .int .i64, .flt .f32, .flt .f32, .flt .f32, .flt .f32, .flt .f32, .int .i64, .flt .f32, .flt .f32, .flt .f32, .flt .f32, .flt .f32, .flt .f32, .sl 2 (fun j => [.sl 1 (fun j => [.flt .f32].getD j .bool), .int .i64].getD j .bool), .sl 2 (fun j => [.sl 1 (fun j => [.flt .f32].getD j .bool), .int .i64].getD j .bool), .sl 1 (fun j => [.flt .f32].getD j .bool), .int .i64, .flt .f32, .flt .f32, .flt .f32, .flt .f32, .flt .f32, .bool, .flt .f32, .flt .f32, .flt .f32, .sl 1 (fun j => [.flt .f32].getD j .bool), .int .i64, .sl 1 (fun j => [.flt .f32].getD j .bool), .int .i64, .int .i64, .flt .f32, .flt .f32, .flt .f32, .flt .f32, .flt .f32, .flt .f32, .flt .f32].getD j .bool), .int .i64, .int .i64, .int .i64]
section
variable {P : Program} {w : World} {ops : Array Oper} {rest : List Oper} {o : Oper} {a : Act} {Q : Exit → Act → World → Prop}
/-- A value of one cell is loaded. -/
theorem wpList_load1 {w0 : World} {L : List Fact} (hF : Frg w0 w L) (hg : o.guard = none) {ty : TypeId} {x : Operand} (hop : o.op = .load ty x) {g f : Nat} (hx : a.eval x = .pointer (some ⟨g, f, none⟩)) {t : TypeId} {cs : Array Value} (hm : rowF g t cs ∈ L) {v : Value} (hv : cs[f]? = some v) (hu : ∀ w, (isAgg ty).run P w = .ok false w)
    (h : wpList P ops Q rest (a.put o.dst v) w) : wpList P ops Q (o :: rest) a w := by
  refine wpList_plain hg fun K hK' => ?_
  unfold Oper.wp execOp
  have hc : w.cell? ⟨g, f, none⟩ = some v := by rw [(hF.row hm).cell?, hv]
  have hl : (Instr.loadAt ty (.pointer (some ⟨g, f, none⟩))).run P w = .ok v w := by
    simp [Instr.loadAt, Instr.sureAddr, loadVar, hu, hc]
  simp [hop, hx, hl, Result.andThen]
  exact hK' _ _ h
/-- A value of one cell is stored. -/
theorem wpList_store1 (hg : o.guard = none) {ty : TypeId} {x y : Operand} (hop : o.op = .store ty x y) {g f : Nat} (hx : a.eval x = .pointer (some ⟨g, f, none⟩)) {v : Value} (hy : a.eval y = v) {t : TypeId} {old : Array Value}
    (hr : Row w g t old) (hi : (P.info? ty).map (·.size) = some 1) (ho : f < old.size) (h1 : v.oneCell' = true) (cs' : Array Value) (hcs : old.setIfInBounds f v = cs')
    (h : ∀ w', Wrote w w' g t cs' → wpList P ops Q rest (a.put o.dst undef) w') : wpList P ops Q (o :: rest) a w := by
  refine wpList_plain hg fun K hK' => ?_
  unfold Oper.wp execOp
  have hw := wrote_setCells [v] f old w hr
  simp only [patch, hcs, World.setCells] at hw
  have hc : w.cell? ⟨g, f, none⟩ = some old[f] := by rw [hr.cell?, Array.getElem?_eq_getElem ho]
  have hs : (store ⟨g, f, none⟩ v .plain).run P w = .ok () (w.setCell ⟨g, f, none⟩ v) := by rw [run_store P w _ v _ h1, hc]; simp [hr.frozen f]
  have hvc : v.cells = #[v] := by cases v <;> first | rfl | simp [Value.oneCell'] at h1
  cases hq : P.info? ty with
  | none => simp [hq] at hi
  | some i =>
    have hz : i.size = 1 := by simpa [hq] using hi
    have hl : (Instr.storeAt ty (.pointer (some ⟨g, f, none⟩)) v).run P w = .ok () (w.setCell ⟨g, f, none⟩ v) := by
      simp [Instr.storeAt, Instr.sureAddr, storeVar, sizeOf, typeInfo, hq, hz, hvc, storeCells, Addr.add, hs, Sem.run_bind]
    simp [hop, hx, hy, hl, Result.andThen]
    exact hK' _ _ (h _ hw)
end
end Go.Fk
namespace Go.Proofs.Ytiohkaoapniajab
open Go.RowKit Go.Fk
theorem uinfoRingI : (Try.prog.info? 25).map (·.size) = some 2 := by kernel_rfl
theorem uinfoFilterI : (Try.prog.info? 29).map (·.size) = some 6 := by kernel_rfl
theorem uinfoStringI : (Try.prog.info? 31).map (·.size) = some 15 := by kernel_rfl
theorem uinfoPipeI : (Try.prog.info? 34).map (·.size) = some 13 := by kernel_rfl
theorem uinfoBowI : (Try.prog.info? 36).map (·.size) = some 12 := by kernel_rfl
theorem uinfoVoiceI : (Try.prog.info? 38).map (·.size) = some 45 := by kernel_rfl
theorem uinfoFloat32A2 : (Try.prog.info? 27).map (·.size) = some 2 := by kernel_rfl
theorem uinfoFloat32A3 : (Try.prog.info? 26).map (·.size) = some 3 := by kernel_rfl
theorem ukindFilterSI : ∀ w : World, (isAgg 81).run Try.prog w = .ok false w := fun w => by kernel_rfl
theorem ukindRingSI : ∀ w : World, (isAgg 32).run Try.prog w = .ok false w := fun w => by kernel_rfl
theorem ukindFloat32S : ∀ w : World, (isAgg 23).run Try.prog w = .ok false w := fun w => by kernel_rfl
theorem ukindBool : ∀ w : World, (isAgg 4).run Try.prog w = .ok false w := fun w => by kernel_rfl
theorem ukindFloat32 : ∀ w : World, (isAgg 22).run Try.prog w = .ok false w := fun w => by kernel_rfl
theorem ukindInt64 : ∀ w : World, (isAgg 2).run Try.prog w = .ok false w := fun w => by kernel_rfl
theorem ukindString : ∀ w : World, (isAgg 9).run Try.prog w = .ok false w := fun w => by kernel_rfl
theorem makeW_Ring (n : Nat) (hn : n ≤ 1048576) : ∃ cs : Array Value, cs.size = n * 2 ∧ ∀ w, (Instr.makeSlice 32 (.int .i64 (n : Int)) (.int .i64 (n : Int))).run Try.prog w = .ok (.slice (some ⟨w.heap.size, 0, none⟩) n n) (w.alloc (.cells cs 25)) := run_make_wide _ _ 2 Try.underlying32 (by kernel_rfl) n hn
theorem makeW_Filter (n : Nat) (hn : n ≤ 1048576) : ∃ cs : Array Value, cs.size = n * 6 ∧ ∀ w, (Instr.makeSlice 81 (.int .i64 (n : Int)) (.int .i64 (n : Int))).run Try.prog w = .ok (.slice (some ⟨w.heap.size, 0, none⟩) n n) (w.alloc (.cells cs 29)) := run_make_wide _ _ 6 Try.underlying81 (by kernel_rfl) n hn
theorem uinfo1FilterSI : (Try.prog.info? 81).map (·.size) = some 1 := by kernel_rfl
theorem uinfo1RingSI : (Try.prog.info? 32).map (·.size) = some 1 := by kernel_rfl
theorem uinfo1Float32S : (Try.prog.info? 23).map (·.size) = some 1 := by kernel_rfl
theorem uinfo1Bool : (Try.prog.info? 4).map (·.size) = some 1 := by kernel_rfl
theorem uinfo1Float32 : (Try.prog.info? 22).map (·.size) = some 1 := by kernel_rfl
theorem uinfo1Int64 : (Try.prog.info? 2).map (·.size) = some 1 := by kernel_rfl
theorem uinfo1String : (Try.prog.info? 9).map (·.size) = some 1 := by kernel_rfl
theorem eqU_Float32S (B B' n : Nat) (x : Nat → CD) (s s' : Value) (w : World) (h : (CD.sl 1 n x).Rd w B s) (h' : (CD.sl 1 n x).Rd w B' s') (hsh : ∀ i, i < n → ∀ j, j < 1 → ShOk ([Sh.flt .f32].getD j .bool) (x (i * 1 + j))) (hz : CD.sz (CD.sl 1 n x) ≤ 1048576) :
    Calls Try.prog 22 #[s, s'] w (OutT w) := by
  have hf := ShOk.flts hsh rfl
  rw [CD.sz_flts hf] at hz
  exact (eqR B B' s s' _ n w hz (h.rdf hf) (h'.rdf hf)).mono (fun e w' ⟨h1, m, h2⟩ => ⟨h1, h2 ▸ le_drewN _ _⟩)
end Go.Proofs.Ytiohkaoapniajab

/- The laws' helpers for Ring, over trees of data. -/
namespace Go.Proofs.Ytiohkaoapniajab
open Go.RowKit Go.Fk
set_option maxRecDepth 100000 in
set_option maxHeartbeats 4000000 in
theorem eqU_Ring (B B' : Nat) (cs : List CD) (vs vs' : List Value) (w : World) (h : RdL w B cs vs) (h' : RdL w B' cs vs') (hsh : ShOkL shRing cs) (hz : szL cs ≤ 1048576) :
    Calls Try.prog 19 #[.agg vs.toArray, .agg vs'.toArray] w (OutT w) := by
  obtain ⟨c0, cs, rfl, q0, hsh⟩ := hsh.inv
  obtain ⟨c1, cs, rfl, q1, hsh⟩ := hsh.inv
  obtain rfl := hsh.inv0
  obtain ⟨v0, vs, rfl, r0, h⟩ := h.inv
  obtain ⟨v1, vs, rfl, r1, h⟩ := h.inv
  obtain rfl := h.inv0
  obtain ⟨v0', vs', rfl, r0', h'⟩ := h'.inv
  obtain ⟨v1', vs', rfl, r1', h'⟩ := h'.inv
  obtain rfl := h'.inv0
  obtain ⟨z1, rfl⟩ := q1
  obtain ⟨rfl, wf1⟩ := r1
  obtain ⟨rfl, wf1'⟩ := r1'
  have HZ := hid hz
  obtain ⟨n0, x0, rfl, q0⟩ := q0
  have H0 := hid (fun (w' : World) (hl : le w w') => eqU_Float32S B B' _ _ v0 v0' w' (r0.le hl) (r0'.le hl) q0 (szC_le HZ.out 0 rfl))
  have F := ((Frg.nil w).box 25 #[v0, .int .i64 z1]).box 25 #[v0', .int .i64 z1]
  simp only [World.size_alloc] at F
  clear hz HZ
  go_enter Try.func19, Try.ntmps19
  go_wp2_with (first | ((with_reducible refine listN F ?_); clear F; intro wN F) | ((with_reducible refine at_load rfl ?_); first | (with_reducible refine wpList_load1 F rfl rfl rfl (by first | exact m0 | exact m1) (f := 0) (v := v0) rfl ukindFloat32S ?_) | (with_reducible refine wpList_load1 F rfl rfl rfl (by first | exact m0 | exact m1) (f := 1) (v := .int .i64 z1) rfl ukindInt64 ?_) | (with_reducible refine wpList_load1 F rfl rfl rfl (by first | exact m0 | exact m1) (f := 0) (v := v0') rfl ukindFloat32S ?_) | (with_reducible refine wpList_load1 F rfl rfl rfl (by first | exact m0 | exact m1) (f := 1) (v := .int .i64 z1) rfl ukindInt64 ?_)) | (go_at_call 22; ((with_reducible refine (H0.out _ F.below).mono ?_); rintro e w1 ⟨rfl, hl⟩; replace F := F.le hl; clear hl)))
  go_ret
  first | exact ⟨rfl, F.below⟩ | exact ⟨rfl, below_drewN F.below _⟩
theorem inv_Ring {w : World} {S : Nat → Prop} {us : List Value} (n0 : Nat) (x0 : Nat → CD) (z1 : Int) (h : LayL w S (([(.sl 1 n0 x0), (.int .i64 z1)] : List CD).map CD.cp) us) : ∃ u0 : Value, u0.oneCell' = true ∧ us = [u0, .int .i64 z1] ∧ LayL w S (([(.sl 1 n0 x0), (.int .i64 z1)] : List CD).map CD.cp) [u0, .int .i64 z1] := by
  have h0 := h
  simp only [List.map_cons, List.map_nil] at h
  obtain ⟨u0, us0, _, _, rfl, l0, hh0, _, _, _⟩ := h.inv
  obtain ⟨u1, us1, _, _, rfl, l1, hh1, _, _, _⟩ := hh0.inv
  obtain ⟨rfl, _⟩ := l1
  obtain rfl := hh1.inv0
  exact ⟨u0, l0.one, rfl, h0⟩
end Go.Proofs.Ytiohkaoapniajab

/- The laws' helpers for String, over trees of data. -/
namespace Go.Proofs.Ytiohkaoapniajab
open Go.RowKit Go.Fk
set_option maxRecDepth 100000 in
set_option maxHeartbeats 4000000 in
theorem eqU_String (B B' : Nat) (cs : List CD) (vs vs' : List Value) (w : World) (h : RdL w B cs vs) (h' : RdL w B' cs vs') (hsh : ShOkL shString cs) (hz : szL cs ≤ 1048576) :
    Calls Try.prog 10 #[.agg vs.toArray, .agg vs'.toArray] w (OutT w) := by
  obtain ⟨c0, cs, rfl, q0, hsh⟩ := hsh.inv
  obtain ⟨c1, cs, rfl, q1, hsh⟩ := hsh.inv
  obtain ⟨c2, cs, rfl, q2, hsh⟩ := hsh.inv
  obtain ⟨c3, cs, rfl, q3, hsh⟩ := hsh.inv
  obtain ⟨c4, cs, rfl, q4, hsh⟩ := hsh.inv
  obtain ⟨c5, cs, rfl, q5, hsh⟩ := hsh.inv
  obtain ⟨c6, cs, rfl, q6, hsh⟩ := hsh.inv
  obtain ⟨c7, cs, rfl, q7, hsh⟩ := hsh.inv
  obtain ⟨c8, cs, rfl, q8, hsh⟩ := hsh.inv
  obtain ⟨c9, cs, rfl, q9, hsh⟩ := hsh.inv
  obtain ⟨c10, cs, rfl, q10, hsh⟩ := hsh.inv
  obtain ⟨c11, cs, rfl, q11, hsh⟩ := hsh.inv
  obtain ⟨c12, cs, rfl, q12, hsh⟩ := hsh.inv
  obtain ⟨c13, cs, rfl, q13, hsh⟩ := hsh.inv
  obtain ⟨c14, cs, rfl, q14, hsh⟩ := hsh.inv
  obtain rfl := hsh.inv0
  obtain ⟨v0, vs, rfl, r0, h⟩ := h.inv
  obtain ⟨v1, vs, rfl, r1, h⟩ := h.inv
  obtain ⟨v2, vs, rfl, r2, h⟩ := h.inv
  obtain ⟨v3, vs, rfl, r3, h⟩ := h.inv
  obtain ⟨v4, vs, rfl, r4, h⟩ := h.inv
  obtain ⟨v5, vs, rfl, r5, h⟩ := h.inv
  obtain ⟨v6, vs, rfl, r6, h⟩ := h.inv
  obtain ⟨v7, vs, rfl, r7, h⟩ := h.inv
  obtain ⟨v8, vs, rfl, r8, h⟩ := h.inv
  obtain ⟨v9, vs, rfl, r9, h⟩ := h.inv
  obtain ⟨v10, vs, rfl, r10, h⟩ := h.inv
  obtain ⟨v11, vs, rfl, r11, h⟩ := h.inv
  obtain ⟨v12, vs, rfl, r12, h⟩ := h.inv
  obtain ⟨v13, vs, rfl, r13, h⟩ := h.inv
  obtain ⟨v14, vs, rfl, r14, h⟩ := h.inv
  obtain rfl := h.inv0
  obtain ⟨v0', vs', rfl, r0', h'⟩ := h'.inv
  obtain ⟨v1', vs', rfl, r1', h'⟩ := h'.inv
  obtain ⟨v2', vs', rfl, r2', h'⟩ := h'.inv
  obtain ⟨v3', vs', rfl, r3', h'⟩ := h'.inv
  obtain ⟨v4', vs', rfl, r4', h'⟩ := h'.inv
  obtain ⟨v5', vs', rfl, r5', h'⟩ := h'.inv
  obtain ⟨v6', vs', rfl, r6', h'⟩ := h'.inv
  obtain ⟨v7', vs', rfl, r7', h'⟩ := h'.inv
  obtain ⟨v8', vs', rfl, r8', h'⟩ := h'.inv
  obtain ⟨v9', vs', rfl, r9', h'⟩ := h'.inv
  obtain ⟨v10', vs', rfl, r10', h'⟩ := h'.inv
  obtain ⟨v11', vs', rfl, r11', h'⟩ := h'.inv
  obtain ⟨v12', vs', rfl, r12', h'⟩ := h'.inv
  obtain ⟨v13', vs', rfl, r13', h'⟩ := h'.inv
  obtain ⟨v14', vs', rfl, r14', h'⟩ := h'.inv
  obtain rfl := h'.inv0
  obtain ⟨z1, rfl⟩ := q1
  obtain ⟨rfl, wf1⟩ := r1
  obtain ⟨rfl, wf1'⟩ := r1'
  obtain ⟨z2, rfl⟩ := q2
  obtain ⟨rfl, wf2⟩ := r2
  obtain ⟨rfl, wf2'⟩ := r2'
  have q3 : c3.flk = some .f32 := q3
  obtain ⟨y3, rfl, f3, e3⟩ := r3.fl q3
  obtain ⟨y3', rfl, f3', e3'⟩ := r3'.fl q3
  have q4 : c4.flk = some .f32 := q4
  obtain ⟨y4, rfl, f4, e4⟩ := r4.fl q4
  obtain ⟨y4', rfl, f4', e4'⟩ := r4'.fl q4
  have q5 : c5.flk = some .f32 := q5
  obtain ⟨y5, rfl, f5, e5⟩ := r5.fl q5
  obtain ⟨y5', rfl, f5', e5'⟩ := r5'.fl q5
  have q6 : c6.flk = some .f32 := q6
  obtain ⟨y6, rfl, f6, e6⟩ := r6.fl q6
  obtain ⟨y6', rfl, f6', e6'⟩ := r6'.fl q6
  have q7 : c7.flk = some .f32 := q7
  obtain ⟨y7, rfl, f7, e7⟩ := r7.fl q7
  obtain ⟨y7', rfl, f7', e7'⟩ := r7'.fl q7
  obtain ⟨z8, rfl⟩ := q8
  obtain ⟨rfl, wf8⟩ := r8
  obtain ⟨rfl, wf8'⟩ := r8'
  have q9 : c9.flk = some .f32 := q9
  obtain ⟨y9, rfl, f9, e9⟩ := r9.fl q9
  obtain ⟨y9', rfl, f9', e9'⟩ := r9'.fl q9
  have q10 : c10.flk = some .f32 := q10
  obtain ⟨y10, rfl, f10, e10⟩ := r10.fl q10
  obtain ⟨y10', rfl, f10', e10'⟩ := r10'.fl q10
  have q11 : c11.flk = some .f32 := q11
  obtain ⟨y11, rfl, f11, e11⟩ := r11.fl q11
  obtain ⟨y11', rfl, f11', e11'⟩ := r11'.fl q11
  have q12 : c12.flk = some .f32 := q12
  obtain ⟨y12, rfl, f12, e12⟩ := r12.fl q12
  obtain ⟨y12', rfl, f12', e12'⟩ := r12'.fl q12
  have q13 : c13.flk = some .f32 := q13
  obtain ⟨y13, rfl, f13, e13⟩ := r13.fl q13
  obtain ⟨y13', rfl, f13', e13'⟩ := r13'.fl q13
  have q14 : c14.flk = some .f32 := q14
  obtain ⟨y14, rfl, f14, e14⟩ := r14.fl q14
  obtain ⟨y14', rfl, f14', e14'⟩ := r14'.fl q14
  have HZ := hid hz
  have H0 := hid (fun (w' : World) (hl : le w w') => eqU_Ring B B' [c0, .int .i64 z1] [v0, .int .i64 z1] [v0', .int .i64 z1] w' (RdL.cons (c := c0) (r0.le hl) (RdL.cons (c := .int .i64 z1) ⟨rfl, wf1⟩ (RdL.nil _ _))) (RdL.cons (c := c0) (r0'.le hl) (RdL.cons (c := .int .i64 z1) ⟨rfl, wf1'⟩ (RdL.nil _ _))) (ShOkL.cons q0 (ShOkL.cons ⟨_, rfl⟩ (ShOkL.nil))) (szL_le HZ.out 0 2 rfl))
  have H1 := hid (fun (w' : World) => eqFil_yes z2 y3 y4 y5 y6 y7 y3' y4' y5' y6' y7' w' (e3.trans e3'.symm) (e4.trans e4'.symm) (e5.trans e5'.symm) (e6.trans e6'.symm) (e7.trans e7'.symm))
  have H2 := hid (fun (w' : World) => eqFil_yes z8 y9 y10 y11 y12 y13 y9' y10' y11' y12' y13' w' (e9.trans e9'.symm) (e10.trans e10'.symm) (e11.trans e11'.symm) (e12.trans e12'.symm) (e13.trans e13'.symm))
  have E14 := hid (e14.trans e14'.symm)
  have F := ((Frg.nil w).box 31 #[v0, .int .i64 z1, .int .i64 z2, .float .f32 y3, .float .f32 y4, .float .f32 y5, .float .f32 y6, .float .f32 y7, .int .i64 z8, .float .f32 y9, .float .f32 y10, .float .f32 y11, .float .f32 y12, .float .f32 y13, .float .f32 y14]).box 31 #[v0', .int .i64 z1, .int .i64 z2, .float .f32 y3', .float .f32 y4', .float .f32 y5', .float .f32 y6', .float .f32 y7', .int .i64 z8, .float .f32 y9', .float .f32 y10', .float .f32 y11', .float .f32 y12', .float .f32 y13', .float .f32 y14']
  simp only [World.size_alloc] at F
  clear hz HZ
  go_enter Try.func10, Try.ntmps10
  go_wp2_with (first | ((with_reducible refine listN F ?_); clear F; intro wN F) | ((with_reducible refine at_load rfl ?_); first | (with_reducible refine wpList_loadGP F rfl rfl rfl (by first | exact m0 | exact m1) Try.underlying25 rfl [v0, .int .i64 z1] (partString_Loop (v0) (.int .i64 z1) (.int .i64 z2) (.float .f32 y3) (.float .f32 y4) (.float .f32 y5) (.float .f32 y6) (.float .f32 y7) (.int .i64 z8) (.float .f32 y9) (.float .f32 y10) (.float .f32 y11) (.float .f32 y12) (.float .f32 y13) (.float .f32 y14)) uinfoRingI rfl ?_) | (with_reducible refine wpList_loadGP F rfl rfl rfl (by first | exact m0 | exact m1) Try.underlying29 rfl [.int .i64 z2, .float .f32 y3, .float .f32 y4, .float .f32 y5, .float .f32 y6, .float .f32 y7] (partString_Tune (v0) (.int .i64 z1) (.int .i64 z2) (.float .f32 y3) (.float .f32 y4) (.float .f32 y5) (.float .f32 y6) (.float .f32 y7) (.int .i64 z8) (.float .f32 y9) (.float .f32 y10) (.float .f32 y11) (.float .f32 y12) (.float .f32 y13) (.float .f32 y14)) uinfoFilterI rfl ?_) | (with_reducible refine wpList_loadGP F rfl rfl rfl (by first | exact m0 | exact m1) Try.underlying29 rfl [.int .i64 z8, .float .f32 y9, .float .f32 y10, .float .f32 y11, .float .f32 y12, .float .f32 y13] (partString_Damp (v0) (.int .i64 z1) (.int .i64 z2) (.float .f32 y3) (.float .f32 y4) (.float .f32 y5) (.float .f32 y6) (.float .f32 y7) (.int .i64 z8) (.float .f32 y9) (.float .f32 y10) (.float .f32 y11) (.float .f32 y12) (.float .f32 y13) (.float .f32 y14)) uinfoFilterI rfl ?_) | (with_reducible refine wpList_load1 F rfl rfl rfl (by first | exact m0 | exact m1) (f := 14) (v := .float .f32 y14) rfl ukindFloat32 ?_) | (with_reducible refine wpList_loadGP F rfl rfl rfl (by first | exact m0 | exact m1) Try.underlying25 rfl [v0', .int .i64 z1] (partString_Loop (v0') (.int .i64 z1) (.int .i64 z2) (.float .f32 y3') (.float .f32 y4') (.float .f32 y5') (.float .f32 y6') (.float .f32 y7') (.int .i64 z8) (.float .f32 y9') (.float .f32 y10') (.float .f32 y11') (.float .f32 y12') (.float .f32 y13') (.float .f32 y14')) uinfoRingI rfl ?_) | (with_reducible refine wpList_loadGP F rfl rfl rfl (by first | exact m0 | exact m1) Try.underlying29 rfl [.int .i64 z2, .float .f32 y3', .float .f32 y4', .float .f32 y5', .float .f32 y6', .float .f32 y7'] (partString_Tune (v0') (.int .i64 z1) (.int .i64 z2) (.float .f32 y3') (.float .f32 y4') (.float .f32 y5') (.float .f32 y6') (.float .f32 y7') (.int .i64 z8) (.float .f32 y9') (.float .f32 y10') (.float .f32 y11') (.float .f32 y12') (.float .f32 y13') (.float .f32 y14')) uinfoFilterI rfl ?_) | (with_reducible refine wpList_loadGP F rfl rfl rfl (by first | exact m0 | exact m1) Try.underlying29 rfl [.int .i64 z8, .float .f32 y9', .float .f32 y10', .float .f32 y11', .float .f32 y12', .float .f32 y13'] (partString_Damp (v0') (.int .i64 z1) (.int .i64 z2) (.float .f32 y3') (.float .f32 y4') (.float .f32 y5') (.float .f32 y6') (.float .f32 y7') (.int .i64 z8) (.float .f32 y9') (.float .f32 y10') (.float .f32 y11') (.float .f32 y12') (.float .f32 y13') (.float .f32 y14')) uinfoFilterI rfl ?_) | (with_reducible refine wpList_load1 F rfl rfl rfl (by first | exact m0 | exact m1) (f := 14) (v := .float .f32 y14') rfl ukindFloat32 ?_)) | (go_at_call 19; ((with_reducible refine (H0.out _ F.below).mono ?_); rintro e w1 ⟨rfl, hl⟩; replace F := F.le hl; clear hl)) | (go_at_call 20; ((with_reducible refine (H1.out _).mono ?_); rintro e w1 ⟨rfl, hl⟩; replace F := F.le hl; clear hl)) | (go_at_call 20; ((with_reducible refine (H2.out _).mono ?_); rintro e w1 ⟨rfl, hl⟩; replace F := F.le hl; clear hl)) | ((with_reducible refine at_convert rfl ?_); (with_reducible refine wpList_widen rfl rfl rfl Try.underlying22 Try.underlying44 ?_; intro s1 n1 h1 f1)) | (go_at_call 9; ((with_reducible refine (sameFloat_yes _ _ _ (by first | exact (Hid.out ‹Hid (can .f64 _ = can .f64 (widen y14))›).trans ((congrArg (can .f64) (widen_congr E14.out)).trans (Hid.out ‹Hid (can .f64 _ = can .f64 (widen y14'))›).symm))).mono ?_); rintro e w7 ⟨rfl, dq7, rfl⟩; skip)))
  go_ret
  first | exact ⟨rfl, F.below⟩ | exact ⟨rfl, below_drewN F.below _⟩
theorem invf_String {w : World} {S : Nat → Prop} {us : List Value} (n0 : Nat) (x0 : Nat → CD) (z1 : Int) (z2 : Int) (c3 : CD) (c4 : CD) (c5 : CD) (c6 : CD) (c7 : CD) (z8 : Int) (c9 : CD) (c10 : CD) (c11 : CD) (c12 : CD) (c13 : CD) (c14 : CD) (q3 : c3.flk = some .f32) (q4 : c4.flk = some .f32) (q5 : c5.flk = some .f32) (q6 : c6.flk = some .f32) (q7 : c7.flk = some .f32) (q9 : c9.flk = some .f32) (q10 : c10.flk = some .f32) (q11 : c11.flk = some .f32) (q12 : c12.flk = some .f32) (q13 : c13.flk = some .f32) (q14 : c14.flk = some .f32) (h : LayL w S (([(.sl 1 n0 x0), (.int .i64 z1), (.int .i64 z2), (c3), (c4), (c5), (c6), (c7), (.int .i64 z8), (c9), (c10), (c11), (c12), (c13), (c14)] : List CD).map CD.cp) us) : ∃ (u0 : Value) (g3 : Nat) (g4 : Nat) (g5 : Nat) (g6 : Nat) (g7 : Nat) (g9 : Nat) (g10 : Nat) (g11 : Nat) (g12 : Nat) (g13 : Nat) (g14 : Nat), u0.oneCell' = true ∧ us = [u0, .int .i64 z1, .int .i64 z2, .float .f32 g3, .float .f32 g4, .float .f32 g5, .float .f32 g6, .float .f32 g7, .int .i64 z8, .float .f32 g9, .float .f32 g10, .float .f32 g11, .float .f32 g12, .float .f32 g13, .float .f32 g14] ∧ LayL w S (([(.sl 1 n0 x0), (.int .i64 z1), (.int .i64 z2), (c3), (c4), (c5), (c6), (c7), (.int .i64 z8), (c9), (c10), (c11), (c12), (c13), (c14)] : List CD).map CD.cp) [u0, .int .i64 z1, .int .i64 z2, .float .f32 g3, .float .f32 g4, .float .f32 g5, .float .f32 g6, .float .f32 g7, .int .i64 z8, .float .f32 g9, .float .f32 g10, .float .f32 g11, .float .f32 g12, .float .f32 g13, .float .f32 g14] := by
  have h0 := h
  simp only [List.map_cons, List.map_nil] at h
  obtain ⟨u0, us0, _, _, rfl, l0, hh0, _, _, _⟩ := h.inv
  obtain ⟨u1, us1, _, _, rfl, l1, hh1, _, _, _⟩ := hh0.inv
  obtain ⟨rfl, _⟩ := l1
  obtain ⟨u2, us2, _, _, rfl, l2, hh2, _, _, _⟩ := hh1.inv
  obtain ⟨rfl, _⟩ := l2
  obtain ⟨u3, us3, _, _, rfl, l3, hh3, _, _, _⟩ := hh2.inv
  obtain ⟨g3, rfl⟩ := lay_fl q3 l3
  obtain ⟨u4, us4, _, _, rfl, l4, hh4, _, _, _⟩ := hh3.inv
  obtain ⟨g4, rfl⟩ := lay_fl q4 l4
  obtain ⟨u5, us5, _, _, rfl, l5, hh5, _, _, _⟩ := hh4.inv
  obtain ⟨g5, rfl⟩ := lay_fl q5 l5
  obtain ⟨u6, us6, _, _, rfl, l6, hh6, _, _, _⟩ := hh5.inv
  obtain ⟨g6, rfl⟩ := lay_fl q6 l6
  obtain ⟨u7, us7, _, _, rfl, l7, hh7, _, _, _⟩ := hh6.inv
  obtain ⟨g7, rfl⟩ := lay_fl q7 l7
  obtain ⟨u8, us8, _, _, rfl, l8, hh8, _, _, _⟩ := hh7.inv
  obtain ⟨rfl, _⟩ := l8
  obtain ⟨u9, us9, _, _, rfl, l9, hh9, _, _, _⟩ := hh8.inv
  obtain ⟨g9, rfl⟩ := lay_fl q9 l9
  obtain ⟨u10, us10, _, _, rfl, l10, hh10, _, _, _⟩ := hh9.inv
  obtain ⟨g10, rfl⟩ := lay_fl q10 l10
  obtain ⟨u11, us11, _, _, rfl, l11, hh11, _, _, _⟩ := hh10.inv
  obtain ⟨g11, rfl⟩ := lay_fl q11 l11
  obtain ⟨u12, us12, _, _, rfl, l12, hh12, _, _, _⟩ := hh11.inv
  obtain ⟨g12, rfl⟩ := lay_fl q12 l12
  obtain ⟨u13, us13, _, _, rfl, l13, hh13, _, _, _⟩ := hh12.inv
  obtain ⟨g13, rfl⟩ := lay_fl q13 l13
  obtain ⟨u14, us14, _, _, rfl, l14, hh14, _, _, _⟩ := hh13.inv
  obtain ⟨g14, rfl⟩ := lay_fl q14 l14
  obtain rfl := hh14.inv0
  exact ⟨u0, g3, g4, g5, g6, g7, g9, g10, g11, g12, g13, g14, l0.one, rfl, h0⟩
end Go.Proofs.Ytiohkaoapniajab

/- The laws' helpers for []Ring, over trees of data. -/
namespace Go.Proofs.Ytiohkaoapniajab
open Go.RowKit Go.Fk
theorem sz_elRing (x : Nat → CD) (k : Nat) : sumTo (fun i => (x i).sz) ((k + 1) * 2) = sumTo (fun i => (x i).sz) (k * 2) + szL ((List.range 2).map (fun j => x (k * 2 + j))) := by
  rw [Nat.succ_mul, sumTo_add]; (simp [szL, sumTo, List.range_succ, List.sum_append]) <;> omega
theorem sz_atRing {n : Nat} (x : Nat → CD) (k : Nat) (hk : k < n) : sumTo (fun i => (x i).sz) (k * 2) + szL ((List.range 2).map (fun j => x (k * 2 + j))) ≤ sumTo (fun i => (x i).sz) (n * 2) := by
  rw [← sz_elRing]; exact sumTo_le _ (Nat.mul_le_mul_right _ hk)
set_option maxRecDepth 100000 in
set_option maxHeartbeats 4000000 in
theorem eqU_RingS (B B' n : Nat) (x : Nat → CD) (s s' : Value) (w : World) (h : (CD.sl 2 n x).Rd w B s) (h' : (CD.sl 2 n x).Rd w B' s') (hsh : ∀ i, i < n → ∀ j, j < 2 → ShOk (shRing.getD j .bool) (x (i * 2 + j))) (hz : CD.sz (CD.sl 2 n x) ≤ 1048576) :
    Calls Try.prog 21 #[s, s'] w (OutT w) := by
  have hzz := hid hz
  simp only [CD.sz] at hz
  by_cases h0 : n = 0
  · have hrd := hid h; have hrd' := hid h'
    subst h0
    clear h h' hz hzz hsh
    go_enter Try.func21, Try.ntmps21
    go_wp2_with (first | (with_reducible refine wpList_lenC rfl rfl rfl Try.underlying32 hrd.out ?_) | (with_reducible refine wpList_lenC rfl rfl rfl Try.underlying32 hrd'.out ?_))
    go_loop [5] (fun i => i = .int .i64 0) (fun _ => 0)
    case atStart => rfl
    case round =>
      obtain rfl := hrel
      go_wp2_with (first | (with_reducible refine wpList_lenC rfl rfl rfl Try.underlying32 hrd.out ?_) | (with_reducible refine wpList_lenC rfl rfl rfl Try.underlying32 hrd'.out ?_))
      go_ret
      exact ⟨rfl, le_refl _⟩
  have HE := hid (fun k (hk : k < n) a cap (e : s = .slice (some a) n cap) => (CD.Rd.elem (w := w) (B := B) (wd := 2) (x := x) (cap := cap) (a := a) (e ▸ h) hk))
  have HE' := hid (fun k (hk : k < n) a cap (e : s' = .slice (some a) n cap) => (CD.Rd.elem (w := w) (B := B') (wd := 2) (x := x) (cap := cap) (a := a) (e ▸ h') hk))
  rcases h.form with ⟨_, e0⟩ | ⟨a, cap, rfl, hc, hm⟩
  · exact absurd e0 h0
  rcases h'.form with ⟨_, e0⟩ | ⟨a', cap', rfl, hc', hm'⟩
  · exact absurd e0 h0
  have HQ := hid hsh
  unfold maxLen at hm hm'
  clear h h' hsh h0
  go_enter Try.func21, Try.ntmps21
  go_wp2
  go_loopw [5] (fun i wr => ∃ k : Nat, k ≤ n ∧ i = .int .i64 k ∧ Hid (le w wr)) (fun i _ => n - (intOf i).toNat)
  case atStart => exact ⟨0, by omega, rfl, le_refl _⟩
  case round =>
    obtain ⟨k, hk, rfl, HL⟩ := hrel
    rename_i wr _
    by_cases hlt : k < n
    · obtain ⟨vs, hvl, hvc, hvr⟩ := HE.out k hlt a cap rfl
      obtain ⟨vs', hvl', hvc', hvr'⟩ := HE'.out k hlt a' cap' rfl
      have hat := sz_atRing x k hlt
      have HQE := hid (fun (w' : World) (hl : le wr w') => eqU_Ring B B' _ vs vs' w' (hvr.le (le_trans HL.out hl)) (hvr'.le (le_trans HL.out hl)) (ShOk.elem (l := shRing) HQ.out hlt) (by omega))
      have gvc := hid (fun (w' : World) (hl : le wr w') j v (hv : vs[j]? = some v) => (Below.cell (le_trans HL.out hl) (cell_lt' (hvc j v hv))).trans (hvc j v hv))
      have gvc' := hid (fun (w' : World) (hl : le wr w') j v (hv : vs'[j]? = some v) => (Below.cell (le_trans HL.out hl) (cell_lt' (hvc' j v hv))).trans (hvc' j v hv))
      have hvl := hid hvl; have hvl' := hid hvl'
      clear hvc hvr hvc' hvr' hat
      go_wp2_with fail
      refine region_freeD (E := leX) (fun f args w v => v = .bool true) (by kernel_rfl) (by kernel_rfl) ?_
      refine wpFreeD_one rfl (.slice (some a) n cap) (fun w1 _ => by kernel_rfl) ?_
      simp only [Act.put, List.setIfInBounds_toArray, List.set_cons_succ, List.set_cons_zero]
      refine wpFreeD_one rfl (.int .i64 k) (fun w1 _ => by kernel_rfl) ?_
      simp only [Act.put, List.setIfInBounds_toArray, List.set_cons_succ, List.set_cons_zero]
      refine wpFreeD_indexW rfl rfl rfl rfl Try.underlying32 uinfoRingI hlt ?_
      simp only [Act.put, List.setIfInBounds_toArray, List.set_cons_succ, List.set_cons_zero]
      refine wpFreeD_loadW rfl rfl rfl vs (fun w1 h1 j v hv => gvc.out w1 (le_trans (le_drewN _ _) h1) j v hv) Try.underlying25 rfl uinfoRingI hvl.out ?_
      simp only [Act.put, List.setIfInBounds_toArray, List.set_cons_succ, List.set_cons_zero]
      refine wpFreeD_one rfl (.slice (some a') n cap') (fun w1 _ => by kernel_rfl) ?_
      simp only [Act.put, List.setIfInBounds_toArray, List.set_cons_succ, List.set_cons_zero]
      refine wpFreeD_one rfl (.int .i64 k) (fun w1 _ => by kernel_rfl) ?_
      simp only [Act.put, List.setIfInBounds_toArray, List.set_cons_succ, List.set_cons_zero]
      refine wpFreeD_indexW rfl rfl rfl rfl Try.underlying32 uinfoRingI hlt ?_
      simp only [Act.put, List.setIfInBounds_toArray, List.set_cons_succ, List.set_cons_zero]
      refine wpFreeD_loadW rfl rfl rfl vs' (fun w1 h1 j v hv => gvc'.out w1 (le_trans (le_drewN _ _) h1) j v hv) Try.underlying25 rfl uinfoRingI hvl'.out ?_
      simp only [Act.put, List.setIfInBounds_toArray, List.set_cons_succ, List.set_cons_zero]
      refine wpFreeD_callB rfl rfl Try.func19 (by kernel_rfl) (by kernel_rfl) (args := #[.agg vs.toArray, .agg vs'.toArray]) (by simp [Act.eval]) (fun v w1 w2 hw hv => hv) (fun w1 hw1 _ => (HQE.out w1 (le_trans (le_drewN _ _) hw1)).mono ?_) ?_
      · rintro e w2 ⟨rfl, hl⟩
        exact ⟨_, rfl, hl, rfl⟩
      rintro v ⟨_, _, _, rfl⟩
      simp only [Act.put, List.setIfInBounds_toArray, List.set_cons_succ, List.set_cons_zero]
      refine wpFreeD_one rfl (.bool false) (fun w1 _ => by kernel_rfl) ?_
      simp only [Act.put, List.setIfInBounds_toArray, List.set_cons_succ, List.set_cons_zero]
      refine wpFreeD_nil (fun wR hwR _ => ?_)
      have HL1 := hid (le_trans HL.out (le_trans (le_drewN _ _) hwR))
      clear hwR
      go_wp2
      go_roundw
      case rel => exact ⟨k + 1, by omega, by go_num, HL1.out⟩
      case measure => simp [intOf]; omega
    · obtain rfl : k = n := by omega
      go_wp2
      go_ret
      exact ⟨rfl, HL.out⟩
end Go.Proofs.Ytiohkaoapniajab

/- The laws' helpers for Pipe, over trees of data. -/
namespace Go.Proofs.Ytiohkaoapniajab
open Go.RowKit Go.Fk
set_option maxRecDepth 100000 in
set_option maxHeartbeats 4000000 in
theorem eqU_Pipe (B B' : Nat) (cs : List CD) (vs vs' : List Value) (w : World) (h : RdL w B cs vs) (h' : RdL w B' cs vs') (hsh : ShOkL shPipe cs) (hz : szL cs ≤ 1048576) :
    Calls Try.prog 11 #[.agg vs.toArray, .agg vs'.toArray] w (OutT w) := by
  obtain ⟨c0, cs, rfl, q0, hsh⟩ := hsh.inv
  obtain ⟨c1, cs, rfl, q1, hsh⟩ := hsh.inv
  obtain ⟨c2, cs, rfl, q2, hsh⟩ := hsh.inv
  obtain ⟨c3, cs, rfl, q3, hsh⟩ := hsh.inv
  obtain ⟨c4, cs, rfl, q4, hsh⟩ := hsh.inv
  obtain ⟨c5, cs, rfl, q5, hsh⟩ := hsh.inv
  obtain ⟨c6, cs, rfl, q6, hsh⟩ := hsh.inv
  obtain ⟨c7, cs, rfl, q7, hsh⟩ := hsh.inv
  obtain ⟨c8, cs, rfl, q8, hsh⟩ := hsh.inv
  obtain ⟨c9, cs, rfl, q9, hsh⟩ := hsh.inv
  obtain ⟨c10, cs, rfl, q10, hsh⟩ := hsh.inv
  obtain ⟨c11, cs, rfl, q11, hsh⟩ := hsh.inv
  obtain ⟨c12, cs, rfl, q12, hsh⟩ := hsh.inv
  obtain rfl := hsh.inv0
  obtain ⟨v0, vs, rfl, r0, h⟩ := h.inv
  obtain ⟨v1, vs, rfl, r1, h⟩ := h.inv
  obtain ⟨v2, vs, rfl, r2, h⟩ := h.inv
  obtain ⟨v3, vs, rfl, r3, h⟩ := h.inv
  obtain ⟨v4, vs, rfl, r4, h⟩ := h.inv
  obtain ⟨v5, vs, rfl, r5, h⟩ := h.inv
  obtain ⟨v6, vs, rfl, r6, h⟩ := h.inv
  obtain ⟨v7, vs, rfl, r7, h⟩ := h.inv
  obtain ⟨v8, vs, rfl, r8, h⟩ := h.inv
  obtain ⟨v9, vs, rfl, r9, h⟩ := h.inv
  obtain ⟨v10, vs, rfl, r10, h⟩ := h.inv
  obtain ⟨v11, vs, rfl, r11, h⟩ := h.inv
  obtain ⟨v12, vs, rfl, r12, h⟩ := h.inv
  obtain rfl := h.inv0
  obtain ⟨v0', vs', rfl, r0', h'⟩ := h'.inv
  obtain ⟨v1', vs', rfl, r1', h'⟩ := h'.inv
  obtain ⟨v2', vs', rfl, r2', h'⟩ := h'.inv
  obtain ⟨v3', vs', rfl, r3', h'⟩ := h'.inv
  obtain ⟨v4', vs', rfl, r4', h'⟩ := h'.inv
  obtain ⟨v5', vs', rfl, r5', h'⟩ := h'.inv
  obtain ⟨v6', vs', rfl, r6', h'⟩ := h'.inv
  obtain ⟨v7', vs', rfl, r7', h'⟩ := h'.inv
  obtain ⟨v8', vs', rfl, r8', h'⟩ := h'.inv
  obtain ⟨v9', vs', rfl, r9', h'⟩ := h'.inv
  obtain ⟨v10', vs', rfl, r10', h'⟩ := h'.inv
  obtain ⟨v11', vs', rfl, r11', h'⟩ := h'.inv
  obtain ⟨v12', vs', rfl, r12', h'⟩ := h'.inv
  obtain rfl := h'.inv0
  obtain ⟨z3, rfl⟩ := q3
  obtain ⟨rfl, wf3⟩ := r3
  obtain ⟨rfl, wf3'⟩ := r3'
  have q4 : c4.flk = some .f32 := q4
  obtain ⟨y4, rfl, f4, e4⟩ := r4.fl q4
  obtain ⟨y4', rfl, f4', e4'⟩ := r4'.fl q4
  have q5 : c5.flk = some .f32 := q5
  obtain ⟨y5, rfl, f5, e5⟩ := r5.fl q5
  obtain ⟨y5', rfl, f5', e5'⟩ := r5'.fl q5
  have q6 : c6.flk = some .f32 := q6
  obtain ⟨y6, rfl, f6, e6⟩ := r6.fl q6
  obtain ⟨y6', rfl, f6', e6'⟩ := r6'.fl q6
  have q7 : c7.flk = some .f32 := q7
  obtain ⟨y7, rfl, f7, e7⟩ := r7.fl q7
  obtain ⟨y7', rfl, f7', e7'⟩ := r7'.fl q7
  have q8 : c8.flk = some .f32 := q8
  obtain ⟨y8, rfl, f8, e8⟩ := r8.fl q8
  obtain ⟨y8', rfl, f8', e8'⟩ := r8'.fl q8
  obtain ⟨b9, rfl⟩ := q9
  obtain rfl := r9
  obtain rfl := r9'
  have q10 : c10.flk = some .f32 := q10
  obtain ⟨y10, rfl, f10, e10⟩ := r10.fl q10
  obtain ⟨y10', rfl, f10', e10'⟩ := r10'.fl q10
  have q11 : c11.flk = some .f32 := q11
  obtain ⟨y11, rfl, f11, e11⟩ := r11.fl q11
  obtain ⟨y11', rfl, f11', e11'⟩ := r11'.fl q11
  have q12 : c12.flk = some .f32 := q12
  obtain ⟨y12, rfl, f12, e12⟩ := r12.fl q12
  obtain ⟨y12', rfl, f12', e12'⟩ := r12'.fl q12
  have HZ := hid hz
  obtain ⟨n0, x0, rfl, q0⟩ := q0
  have H0 := hid (fun (w' : World) (hl : le w w') => eqU_RingS B B' _ _ v0 v0' w' (r0.le hl) (r0'.le hl) q0 (szC_le HZ.out 0 rfl))
  obtain ⟨n1, x1, rfl, q1⟩ := q1
  have H1 := hid (fun (w' : World) (hl : le w w') => eqU_RingS B B' _ _ v1 v1' w' (r1.le hl) (r1'.le hl) q1 (szC_le HZ.out 1 rfl))
  obtain ⟨n2, x2, rfl, q2⟩ := q2
  have H2 := hid (fun (w' : World) (hl : le w w') => eqU_Float32S B B' _ _ v2 v2' w' (r2.le hl) (r2'.le hl) q2 (szC_le HZ.out 2 rfl))
  have H3 := hid (fun (w' : World) => eqFil_yes z3 y4 y5 y6 y7 y8 y4' y5' y6' y7' y8' w' (e4.trans e4'.symm) (e5.trans e5'.symm) (e6.trans e6'.symm) (e7.trans e7'.symm) (e8.trans e8'.symm))
  have E10 := hid (e10.trans e10'.symm)
  have E11 := hid (e11.trans e11'.symm)
  have E12 := hid (e12.trans e12'.symm)
  have F := ((Frg.nil w).box 34 #[v0, v1, v2, .int .i64 z3, .float .f32 y4, .float .f32 y5, .float .f32 y6, .float .f32 y7, .float .f32 y8, .bool b9, .float .f32 y10, .float .f32 y11, .float .f32 y12]).box 34 #[v0', v1', v2', .int .i64 z3, .float .f32 y4', .float .f32 y5', .float .f32 y6', .float .f32 y7', .float .f32 y8', .bool b9, .float .f32 y10', .float .f32 y11', .float .f32 y12']
  simp only [World.size_alloc] at F
  clear hz HZ
  go_enter Try.func11, Try.ntmps11
  go_wp2_with (first | ((with_reducible refine listN F ?_); clear F; intro wN F) | ((with_reducible refine at_load rfl ?_); first | (with_reducible refine wpList_load1 F rfl rfl rfl (by first | exact m0 | exact m1) (f := 0) (v := v0) rfl ukindRingSI ?_) | (with_reducible refine wpList_load1 F rfl rfl rfl (by first | exact m0 | exact m1) (f := 1) (v := v1) rfl ukindRingSI ?_) | (with_reducible refine wpList_load1 F rfl rfl rfl (by first | exact m0 | exact m1) (f := 2) (v := v2) rfl ukindFloat32S ?_) | (with_reducible refine wpList_loadGP F rfl rfl rfl (by first | exact m0 | exact m1) Try.underlying29 rfl [.int .i64 z3, .float .f32 y4, .float .f32 y5, .float .f32 y6, .float .f32 y7, .float .f32 y8] (partPipe_End (v0) (v1) (v2) (.int .i64 z3) (.float .f32 y4) (.float .f32 y5) (.float .f32 y6) (.float .f32 y7) (.float .f32 y8) (.bool b9) (.float .f32 y10) (.float .f32 y11) (.float .f32 y12)) uinfoFilterI rfl ?_) | (with_reducible refine wpList_load1 F rfl rfl rfl (by first | exact m0 | exact m1) (f := 9) (v := .bool b9) rfl ukindBool ?_) | (with_reducible refine wpList_load1 F rfl rfl rfl (by first | exact m0 | exact m1) (f := 10) (v := .float .f32 y10) rfl ukindFloat32 ?_) | (with_reducible refine wpList_load1 F rfl rfl rfl (by first | exact m0 | exact m1) (f := 11) (v := .float .f32 y11) rfl ukindFloat32 ?_) | (with_reducible refine wpList_load1 F rfl rfl rfl (by first | exact m0 | exact m1) (f := 12) (v := .float .f32 y12) rfl ukindFloat32 ?_) | (with_reducible refine wpList_load1 F rfl rfl rfl (by first | exact m0 | exact m1) (f := 0) (v := v0') rfl ukindRingSI ?_) | (with_reducible refine wpList_load1 F rfl rfl rfl (by first | exact m0 | exact m1) (f := 1) (v := v1') rfl ukindRingSI ?_) | (with_reducible refine wpList_load1 F rfl rfl rfl (by first | exact m0 | exact m1) (f := 2) (v := v2') rfl ukindFloat32S ?_) | (with_reducible refine wpList_loadGP F rfl rfl rfl (by first | exact m0 | exact m1) Try.underlying29 rfl [.int .i64 z3, .float .f32 y4', .float .f32 y5', .float .f32 y6', .float .f32 y7', .float .f32 y8'] (partPipe_End (v0') (v1') (v2') (.int .i64 z3) (.float .f32 y4') (.float .f32 y5') (.float .f32 y6') (.float .f32 y7') (.float .f32 y8') (.bool b9) (.float .f32 y10') (.float .f32 y11') (.float .f32 y12')) uinfoFilterI rfl ?_) | (with_reducible refine wpList_load1 F rfl rfl rfl (by first | exact m0 | exact m1) (f := 9) (v := .bool b9) rfl ukindBool ?_) | (with_reducible refine wpList_load1 F rfl rfl rfl (by first | exact m0 | exact m1) (f := 10) (v := .float .f32 y10') rfl ukindFloat32 ?_) | (with_reducible refine wpList_load1 F rfl rfl rfl (by first | exact m0 | exact m1) (f := 11) (v := .float .f32 y11') rfl ukindFloat32 ?_) | (with_reducible refine wpList_load1 F rfl rfl rfl (by first | exact m0 | exact m1) (f := 12) (v := .float .f32 y12') rfl ukindFloat32 ?_)) | (go_at_call 21; ((with_reducible refine (H0.out _ F.below).mono ?_); rintro e w1 ⟨rfl, hl⟩; replace F := F.le hl; clear hl)) | (go_at_call 21; ((with_reducible refine (H1.out _ F.below).mono ?_); rintro e w1 ⟨rfl, hl⟩; replace F := F.le hl; clear hl)) | (go_at_call 22; ((with_reducible refine (H2.out _ F.below).mono ?_); rintro e w1 ⟨rfl, hl⟩; replace F := F.le hl; clear hl)) | (go_at_call 20; ((with_reducible refine (H3.out _).mono ?_); rintro e w1 ⟨rfl, hl⟩; replace F := F.le hl; clear hl)) | ((with_reducible refine at_convert rfl ?_); (with_reducible refine wpList_widen rfl rfl rfl Try.underlying22 Try.underlying44 ?_; intro s1 n1 h1 f1)) | (go_at_call 9; ((with_reducible refine (sameFloat_yes _ _ _ (by first | exact (Hid.out ‹Hid (can .f64 _ = can .f64 (widen y10))›).trans ((congrArg (can .f64) (widen_congr E10.out)).trans (Hid.out ‹Hid (can .f64 _ = can .f64 (widen y10'))›).symm) | exact (Hid.out ‹Hid (can .f64 _ = can .f64 (widen y11))›).trans ((congrArg (can .f64) (widen_congr E11.out)).trans (Hid.out ‹Hid (can .f64 _ = can .f64 (widen y11'))›).symm) | exact (Hid.out ‹Hid (can .f64 _ = can .f64 (widen y12))›).trans ((congrArg (can .f64) (widen_congr E12.out)).trans (Hid.out ‹Hid (can .f64 _ = can .f64 (widen y12'))›).symm))).mono ?_); rintro e w7 ⟨rfl, dq7, rfl⟩; skip)))
  go_ret
  first | exact ⟨rfl, F.below⟩ | exact ⟨rfl, below_drewN F.below _⟩
theorem invf_Pipe {w : World} {S : Nat → Prop} {us : List Value} (n0 : Nat) (x0 : Nat → CD) (n1 : Nat) (x1 : Nat → CD) (n2 : Nat) (x2 : Nat → CD) (z3 : Int) (c4 : CD) (c5 : CD) (c6 : CD) (c7 : CD) (c8 : CD) (b9 : Bool) (c10 : CD) (c11 : CD) (c12 : CD) (q4 : c4.flk = some .f32) (q5 : c5.flk = some .f32) (q6 : c6.flk = some .f32) (q7 : c7.flk = some .f32) (q8 : c8.flk = some .f32) (q10 : c10.flk = some .f32) (q11 : c11.flk = some .f32) (q12 : c12.flk = some .f32) (h : LayL w S (([(.sl 2 n0 x0), (.sl 2 n1 x1), (.sl 1 n2 x2), (.int .i64 z3), (c4), (c5), (c6), (c7), (c8), (.bool b9), (c10), (c11), (c12)] : List CD).map CD.cp) us) : ∃ (u0 : Value) (u1 : Value) (u2 : Value) (g4 : Nat) (g5 : Nat) (g6 : Nat) (g7 : Nat) (g8 : Nat) (g10 : Nat) (g11 : Nat) (g12 : Nat), u0.oneCell' = true ∧ u1.oneCell' = true ∧ u2.oneCell' = true ∧ us = [u0, u1, u2, .int .i64 z3, .float .f32 g4, .float .f32 g5, .float .f32 g6, .float .f32 g7, .float .f32 g8, .bool b9, .float .f32 g10, .float .f32 g11, .float .f32 g12] ∧ LayL w S (([(.sl 2 n0 x0), (.sl 2 n1 x1), (.sl 1 n2 x2), (.int .i64 z3), (c4), (c5), (c6), (c7), (c8), (.bool b9), (c10), (c11), (c12)] : List CD).map CD.cp) [u0, u1, u2, .int .i64 z3, .float .f32 g4, .float .f32 g5, .float .f32 g6, .float .f32 g7, .float .f32 g8, .bool b9, .float .f32 g10, .float .f32 g11, .float .f32 g12] := by
  have h0 := h
  simp only [List.map_cons, List.map_nil] at h
  obtain ⟨u0, us0, _, _, rfl, l0, hh0, _, _, _⟩ := h.inv
  obtain ⟨u1, us1, _, _, rfl, l1, hh1, _, _, _⟩ := hh0.inv
  obtain ⟨u2, us2, _, _, rfl, l2, hh2, _, _, _⟩ := hh1.inv
  obtain ⟨u3, us3, _, _, rfl, l3, hh3, _, _, _⟩ := hh2.inv
  obtain ⟨rfl, _⟩ := l3
  obtain ⟨u4, us4, _, _, rfl, l4, hh4, _, _, _⟩ := hh3.inv
  obtain ⟨g4, rfl⟩ := lay_fl q4 l4
  obtain ⟨u5, us5, _, _, rfl, l5, hh5, _, _, _⟩ := hh4.inv
  obtain ⟨g5, rfl⟩ := lay_fl q5 l5
  obtain ⟨u6, us6, _, _, rfl, l6, hh6, _, _, _⟩ := hh5.inv
  obtain ⟨g6, rfl⟩ := lay_fl q6 l6
  obtain ⟨u7, us7, _, _, rfl, l7, hh7, _, _, _⟩ := hh6.inv
  obtain ⟨g7, rfl⟩ := lay_fl q7 l7
  obtain ⟨u8, us8, _, _, rfl, l8, hh8, _, _, _⟩ := hh7.inv
  obtain ⟨g8, rfl⟩ := lay_fl q8 l8
  obtain ⟨u9, us9, _, _, rfl, l9, hh9, _, _, _⟩ := hh8.inv
  obtain rfl := l9
  obtain ⟨u10, us10, _, _, rfl, l10, hh10, _, _, _⟩ := hh9.inv
  obtain ⟨g10, rfl⟩ := lay_fl q10 l10
  obtain ⟨u11, us11, _, _, rfl, l11, hh11, _, _, _⟩ := hh10.inv
  obtain ⟨g11, rfl⟩ := lay_fl q11 l11
  obtain ⟨u12, us12, _, _, rfl, l12, hh12, _, _, _⟩ := hh11.inv
  obtain ⟨g12, rfl⟩ := lay_fl q12 l12
  obtain rfl := hh12.inv0
  exact ⟨u0, u1, u2, g4, g5, g6, g7, g8, g10, g11, g12, l0.one, l1.one, l2.one, rfl, h0⟩
end Go.Proofs.Ytiohkaoapniajab

/- The laws' helpers for Bow, over trees of data. -/
namespace Go.Proofs.Ytiohkaoapniajab
open Go.RowKit Go.Fk
set_option maxRecDepth 100000 in
set_option maxHeartbeats 4000000 in
theorem eqU_Bow (B B' : Nat) (cs : List CD) (vs vs' : List Value) (w : World) (h : RdL w B cs vs) (h' : RdL w B' cs vs') (hsh : ShOkL shBow cs) (hz : szL cs ≤ 1048576) :
    Calls Try.prog 12 #[.agg vs.toArray, .agg vs'.toArray] w (OutT w) := by
  obtain ⟨c0, cs, rfl, q0, hsh⟩ := hsh.inv
  obtain ⟨c1, cs, rfl, q1, hsh⟩ := hsh.inv
  obtain ⟨c2, cs, rfl, q2, hsh⟩ := hsh.inv
  obtain ⟨c3, cs, rfl, q3, hsh⟩ := hsh.inv
  obtain ⟨c4, cs, rfl, q4, hsh⟩ := hsh.inv
  obtain ⟨c5, cs, rfl, q5, hsh⟩ := hsh.inv
  obtain ⟨c6, cs, rfl, q6, hsh⟩ := hsh.inv
  obtain ⟨c7, cs, rfl, q7, hsh⟩ := hsh.inv
  obtain ⟨c8, cs, rfl, q8, hsh⟩ := hsh.inv
  obtain ⟨c9, cs, rfl, q9, hsh⟩ := hsh.inv
  obtain ⟨c10, cs, rfl, q10, hsh⟩ := hsh.inv
  obtain ⟨c11, cs, rfl, q11, hsh⟩ := hsh.inv
  obtain rfl := hsh.inv0
  obtain ⟨v0, vs, rfl, r0, h⟩ := h.inv
  obtain ⟨v1, vs, rfl, r1, h⟩ := h.inv
  obtain ⟨v2, vs, rfl, r2, h⟩ := h.inv
  obtain ⟨v3, vs, rfl, r3, h⟩ := h.inv
  obtain ⟨v4, vs, rfl, r4, h⟩ := h.inv
  obtain ⟨v5, vs, rfl, r5, h⟩ := h.inv
  obtain ⟨v6, vs, rfl, r6, h⟩ := h.inv
  obtain ⟨v7, vs, rfl, r7, h⟩ := h.inv
  obtain ⟨v8, vs, rfl, r8, h⟩ := h.inv
  obtain ⟨v9, vs, rfl, r9, h⟩ := h.inv
  obtain ⟨v10, vs, rfl, r10, h⟩ := h.inv
  obtain ⟨v11, vs, rfl, r11, h⟩ := h.inv
  obtain rfl := h.inv0
  obtain ⟨v0', vs', rfl, r0', h'⟩ := h'.inv
  obtain ⟨v1', vs', rfl, r1', h'⟩ := h'.inv
  obtain ⟨v2', vs', rfl, r2', h'⟩ := h'.inv
  obtain ⟨v3', vs', rfl, r3', h'⟩ := h'.inv
  obtain ⟨v4', vs', rfl, r4', h'⟩ := h'.inv
  obtain ⟨v5', vs', rfl, r5', h'⟩ := h'.inv
  obtain ⟨v6', vs', rfl, r6', h'⟩ := h'.inv
  obtain ⟨v7', vs', rfl, r7', h'⟩ := h'.inv
  obtain ⟨v8', vs', rfl, r8', h'⟩ := h'.inv
  obtain ⟨v9', vs', rfl, r9', h'⟩ := h'.inv
  obtain ⟨v10', vs', rfl, r10', h'⟩ := h'.inv
  obtain ⟨v11', vs', rfl, r11', h'⟩ := h'.inv
  obtain rfl := h'.inv0
  obtain ⟨z1, rfl⟩ := q1
  obtain ⟨rfl, wf1⟩ := r1
  obtain ⟨rfl, wf1'⟩ := r1'
  obtain ⟨z3, rfl⟩ := q3
  obtain ⟨rfl, wf3⟩ := r3
  obtain ⟨rfl, wf3'⟩ := r3'
  obtain ⟨z4, rfl⟩ := q4
  obtain ⟨rfl, wf4⟩ := r4
  obtain ⟨rfl, wf4'⟩ := r4'
  have q5 : c5.flk = some .f32 := q5
  obtain ⟨y5, rfl, f5, e5⟩ := r5.fl q5
  obtain ⟨y5', rfl, f5', e5'⟩ := r5'.fl q5
  have q6 : c6.flk = some .f32 := q6
  obtain ⟨y6, rfl, f6, e6⟩ := r6.fl q6
  obtain ⟨y6', rfl, f6', e6'⟩ := r6'.fl q6
  have q7 : c7.flk = some .f32 := q7
  obtain ⟨y7, rfl, f7, e7⟩ := r7.fl q7
  obtain ⟨y7', rfl, f7', e7'⟩ := r7'.fl q7
  have q8 : c8.flk = some .f32 := q8
  obtain ⟨y8, rfl, f8, e8⟩ := r8.fl q8
  obtain ⟨y8', rfl, f8', e8'⟩ := r8'.fl q8
  have q9 : c9.flk = some .f32 := q9
  obtain ⟨y9, rfl, f9, e9⟩ := r9.fl q9
  obtain ⟨y9', rfl, f9', e9'⟩ := r9'.fl q9
  have q10 : c10.flk = some .f32 := q10
  obtain ⟨y10, rfl, f10, e10⟩ := r10.fl q10
  obtain ⟨y10', rfl, f10', e10'⟩ := r10'.fl q10
  have q11 : c11.flk = some .f32 := q11
  obtain ⟨y11, rfl, f11, e11⟩ := r11.fl q11
  obtain ⟨y11', rfl, f11', e11'⟩ := r11'.fl q11
  have HZ := hid hz
  have H0 := hid (fun (w' : World) (hl : le w w') => eqU_Ring B B' [c0, .int .i64 z1] [v0, .int .i64 z1] [v0', .int .i64 z1] w' (RdL.cons (c := c0) (r0.le hl) (RdL.cons (c := .int .i64 z1) ⟨rfl, wf1⟩ (RdL.nil _ _))) (RdL.cons (c := c0) (r0'.le hl) (RdL.cons (c := .int .i64 z1) ⟨rfl, wf1'⟩ (RdL.nil _ _))) (ShOkL.cons q0 (ShOkL.cons ⟨_, rfl⟩ (ShOkL.nil))) (szL_le HZ.out 0 2 rfl))
  have H1 := hid (fun (w' : World) (hl : le w w') => eqU_Ring B B' [c2, .int .i64 z3] [v2, .int .i64 z3] [v2', .int .i64 z3] w' (RdL.cons (c := c2) (r2.le hl) (RdL.cons (c := .int .i64 z3) ⟨rfl, wf3⟩ (RdL.nil _ _))) (RdL.cons (c := c2) (r2'.le hl) (RdL.cons (c := .int .i64 z3) ⟨rfl, wf3'⟩ (RdL.nil _ _))) (ShOkL.cons q2 (ShOkL.cons ⟨_, rfl⟩ (ShOkL.nil))) (szL_le HZ.out 2 2 rfl))
  have H2 := hid (fun (w' : World) => eqFil_yes z4 y5 y6 y7 y8 y9 y5' y6' y7' y8' y9' w' (e5.trans e5'.symm) (e6.trans e6'.symm) (e7.trans e7'.symm) (e8.trans e8'.symm) (e9.trans e9'.symm))
  have E10 := hid (e10.trans e10'.symm)
  have E11 := hid (e11.trans e11'.symm)
  have F := ((Frg.nil w).box 36 #[v0, .int .i64 z1, v2, .int .i64 z3, .int .i64 z4, .float .f32 y5, .float .f32 y6, .float .f32 y7, .float .f32 y8, .float .f32 y9, .float .f32 y10, .float .f32 y11]).box 36 #[v0', .int .i64 z1, v2', .int .i64 z3, .int .i64 z4, .float .f32 y5', .float .f32 y6', .float .f32 y7', .float .f32 y8', .float .f32 y9', .float .f32 y10', .float .f32 y11']
  simp only [World.size_alloc] at F
  clear hz HZ
  go_enter Try.func12, Try.ntmps12
  go_wp2_with (first | ((with_reducible refine listN F ?_); clear F; intro wN F) | ((with_reducible refine at_load rfl ?_); first | (with_reducible refine wpList_loadGP F rfl rfl rfl (by first | exact m0 | exact m1) Try.underlying25 rfl [v0, .int .i64 z1] (partBow_Neck (v0) (.int .i64 z1) (v2) (.int .i64 z3) (.int .i64 z4) (.float .f32 y5) (.float .f32 y6) (.float .f32 y7) (.float .f32 y8) (.float .f32 y9) (.float .f32 y10) (.float .f32 y11)) uinfoRingI rfl ?_) | (with_reducible refine wpList_loadGP F rfl rfl rfl (by first | exact m0 | exact m1) Try.underlying25 rfl [v2, .int .i64 z3] (partBow_Bridge (v0) (.int .i64 z1) (v2) (.int .i64 z3) (.int .i64 z4) (.float .f32 y5) (.float .f32 y6) (.float .f32 y7) (.float .f32 y8) (.float .f32 y9) (.float .f32 y10) (.float .f32 y11)) uinfoRingI rfl ?_) | (with_reducible refine wpList_loadGP F rfl rfl rfl (by first | exact m0 | exact m1) Try.underlying29 rfl [.int .i64 z4, .float .f32 y5, .float .f32 y6, .float .f32 y7, .float .f32 y8, .float .f32 y9] (partBow_Damp (v0) (.int .i64 z1) (v2) (.int .i64 z3) (.int .i64 z4) (.float .f32 y5) (.float .f32 y6) (.float .f32 y7) (.float .f32 y8) (.float .f32 y9) (.float .f32 y10) (.float .f32 y11)) uinfoFilterI rfl ?_) | (with_reducible refine wpList_load1 F rfl rfl rfl (by first | exact m0 | exact m1) (f := 10) (v := .float .f32 y10) rfl ukindFloat32 ?_) | (with_reducible refine wpList_load1 F rfl rfl rfl (by first | exact m0 | exact m1) (f := 11) (v := .float .f32 y11) rfl ukindFloat32 ?_) | (with_reducible refine wpList_loadGP F rfl rfl rfl (by first | exact m0 | exact m1) Try.underlying25 rfl [v0', .int .i64 z1] (partBow_Neck (v0') (.int .i64 z1) (v2') (.int .i64 z3) (.int .i64 z4) (.float .f32 y5') (.float .f32 y6') (.float .f32 y7') (.float .f32 y8') (.float .f32 y9') (.float .f32 y10') (.float .f32 y11')) uinfoRingI rfl ?_) | (with_reducible refine wpList_loadGP F rfl rfl rfl (by first | exact m0 | exact m1) Try.underlying25 rfl [v2', .int .i64 z3] (partBow_Bridge (v0') (.int .i64 z1) (v2') (.int .i64 z3) (.int .i64 z4) (.float .f32 y5') (.float .f32 y6') (.float .f32 y7') (.float .f32 y8') (.float .f32 y9') (.float .f32 y10') (.float .f32 y11')) uinfoRingI rfl ?_) | (with_reducible refine wpList_loadGP F rfl rfl rfl (by first | exact m0 | exact m1) Try.underlying29 rfl [.int .i64 z4, .float .f32 y5', .float .f32 y6', .float .f32 y7', .float .f32 y8', .float .f32 y9'] (partBow_Damp (v0') (.int .i64 z1) (v2') (.int .i64 z3) (.int .i64 z4) (.float .f32 y5') (.float .f32 y6') (.float .f32 y7') (.float .f32 y8') (.float .f32 y9') (.float .f32 y10') (.float .f32 y11')) uinfoFilterI rfl ?_) | (with_reducible refine wpList_load1 F rfl rfl rfl (by first | exact m0 | exact m1) (f := 10) (v := .float .f32 y10') rfl ukindFloat32 ?_) | (with_reducible refine wpList_load1 F rfl rfl rfl (by first | exact m0 | exact m1) (f := 11) (v := .float .f32 y11') rfl ukindFloat32 ?_)) | (go_at_call 19; ((with_reducible refine (H0.out _ F.below).mono ?_); rintro e w1 ⟨rfl, hl⟩; replace F := F.le hl; clear hl)) | (go_at_call 19; ((with_reducible refine (H1.out _ F.below).mono ?_); rintro e w1 ⟨rfl, hl⟩; replace F := F.le hl; clear hl)) | (go_at_call 20; ((with_reducible refine (H2.out _).mono ?_); rintro e w1 ⟨rfl, hl⟩; replace F := F.le hl; clear hl)) | ((with_reducible refine at_convert rfl ?_); (with_reducible refine wpList_widen rfl rfl rfl Try.underlying22 Try.underlying44 ?_; intro s1 n1 h1 f1)) | (go_at_call 9; ((with_reducible refine (sameFloat_yes _ _ _ (by first | exact (Hid.out ‹Hid (can .f64 _ = can .f64 (widen y10))›).trans ((congrArg (can .f64) (widen_congr E10.out)).trans (Hid.out ‹Hid (can .f64 _ = can .f64 (widen y10'))›).symm) | exact (Hid.out ‹Hid (can .f64 _ = can .f64 (widen y11))›).trans ((congrArg (can .f64) (widen_congr E11.out)).trans (Hid.out ‹Hid (can .f64 _ = can .f64 (widen y11'))›).symm))).mono ?_); rintro e w7 ⟨rfl, dq7, rfl⟩; skip)))
  go_ret
  first | exact ⟨rfl, F.below⟩ | exact ⟨rfl, below_drewN F.below _⟩
theorem invf_Bow {w : World} {S : Nat → Prop} {us : List Value} (n0 : Nat) (x0 : Nat → CD) (z1 : Int) (n2 : Nat) (x2 : Nat → CD) (z3 : Int) (z4 : Int) (c5 : CD) (c6 : CD) (c7 : CD) (c8 : CD) (c9 : CD) (c10 : CD) (c11 : CD) (q5 : c5.flk = some .f32) (q6 : c6.flk = some .f32) (q7 : c7.flk = some .f32) (q8 : c8.flk = some .f32) (q9 : c9.flk = some .f32) (q10 : c10.flk = some .f32) (q11 : c11.flk = some .f32) (h : LayL w S (([(.sl 1 n0 x0), (.int .i64 z1), (.sl 1 n2 x2), (.int .i64 z3), (.int .i64 z4), (c5), (c6), (c7), (c8), (c9), (c10), (c11)] : List CD).map CD.cp) us) : ∃ (u0 : Value) (u2 : Value) (g5 : Nat) (g6 : Nat) (g7 : Nat) (g8 : Nat) (g9 : Nat) (g10 : Nat) (g11 : Nat), u0.oneCell' = true ∧ u2.oneCell' = true ∧ us = [u0, .int .i64 z1, u2, .int .i64 z3, .int .i64 z4, .float .f32 g5, .float .f32 g6, .float .f32 g7, .float .f32 g8, .float .f32 g9, .float .f32 g10, .float .f32 g11] ∧ LayL w S (([(.sl 1 n0 x0), (.int .i64 z1), (.sl 1 n2 x2), (.int .i64 z3), (.int .i64 z4), (c5), (c6), (c7), (c8), (c9), (c10), (c11)] : List CD).map CD.cp) [u0, .int .i64 z1, u2, .int .i64 z3, .int .i64 z4, .float .f32 g5, .float .f32 g6, .float .f32 g7, .float .f32 g8, .float .f32 g9, .float .f32 g10, .float .f32 g11] := by
  have h0 := h
  simp only [List.map_cons, List.map_nil] at h
  obtain ⟨u0, us0, _, _, rfl, l0, hh0, _, _, _⟩ := h.inv
  obtain ⟨u1, us1, _, _, rfl, l1, hh1, _, _, _⟩ := hh0.inv
  obtain ⟨rfl, _⟩ := l1
  obtain ⟨u2, us2, _, _, rfl, l2, hh2, _, _, _⟩ := hh1.inv
  obtain ⟨u3, us3, _, _, rfl, l3, hh3, _, _, _⟩ := hh2.inv
  obtain ⟨rfl, _⟩ := l3
  obtain ⟨u4, us4, _, _, rfl, l4, hh4, _, _, _⟩ := hh3.inv
  obtain ⟨rfl, _⟩ := l4
  obtain ⟨u5, us5, _, _, rfl, l5, hh5, _, _, _⟩ := hh4.inv
  obtain ⟨g5, rfl⟩ := lay_fl q5 l5
  obtain ⟨u6, us6, _, _, rfl, l6, hh6, _, _, _⟩ := hh5.inv
  obtain ⟨g6, rfl⟩ := lay_fl q6 l6
  obtain ⟨u7, us7, _, _, rfl, l7, hh7, _, _, _⟩ := hh6.inv
  obtain ⟨g7, rfl⟩ := lay_fl q7 l7
  obtain ⟨u8, us8, _, _, rfl, l8, hh8, _, _, _⟩ := hh7.inv
  obtain ⟨g8, rfl⟩ := lay_fl q8 l8
  obtain ⟨u9, us9, _, _, rfl, l9, hh9, _, _, _⟩ := hh8.inv
  obtain ⟨g9, rfl⟩ := lay_fl q9 l9
  obtain ⟨u10, us10, _, _, rfl, l10, hh10, _, _, _⟩ := hh9.inv
  obtain ⟨g10, rfl⟩ := lay_fl q10 l10
  obtain ⟨u11, us11, _, _, rfl, l11, hh11, _, _, _⟩ := hh10.inv
  obtain ⟨g11, rfl⟩ := lay_fl q11 l11
  obtain rfl := hh11.inv0
  exact ⟨u0, u2, g5, g6, g7, g8, g9, g10, g11, l0.one, l2.one, rfl, h0⟩
end Go.Proofs.Ytiohkaoapniajab

/- The laws' helpers for Voice, over trees of data. -/
namespace Go.Proofs.Ytiohkaoapniajab
open Go.RowKit Go.Fk
set_option maxRecDepth 100000 in
set_option maxHeartbeats 4000000 in
theorem eqU_Voice (B B' : Nat) (cs : List CD) (vs vs' : List Value) (w : World) (h : RdL w B cs vs) (h' : RdL w B' cs vs') (hsh : ShOkL shVoice cs) (hz : szL cs ≤ 1048576) :
    Calls Try.prog 6 #[.agg vs.toArray, .agg vs'.toArray] w (OutT w) := by
  obtain ⟨c0, cs, rfl, q0, hsh⟩ := hsh.inv
  obtain ⟨c1, cs, rfl, q1, hsh⟩ := hsh.inv
  obtain ⟨c2, cs, rfl, q2, hsh⟩ := hsh.inv
  obtain ⟨c3, cs, rfl, q3, hsh⟩ := hsh.inv
  obtain ⟨c4, cs, rfl, q4, hsh⟩ := hsh.inv
  obtain ⟨c5, cs, rfl, q5, hsh⟩ := hsh.inv
  obtain ⟨c6, cs, rfl, q6, hsh⟩ := hsh.inv
  obtain ⟨c7, cs, rfl, q7, hsh⟩ := hsh.inv
  obtain ⟨c8, cs, rfl, q8, hsh⟩ := hsh.inv
  obtain ⟨c9, cs, rfl, q9, hsh⟩ := hsh.inv
  obtain ⟨c10, cs, rfl, q10, hsh⟩ := hsh.inv
  obtain ⟨c11, cs, rfl, q11, hsh⟩ := hsh.inv
  obtain ⟨c12, cs, rfl, q12, hsh⟩ := hsh.inv
  obtain ⟨c13, cs, rfl, q13, hsh⟩ := hsh.inv
  obtain ⟨c14, cs, rfl, q14, hsh⟩ := hsh.inv
  obtain ⟨c15, cs, rfl, q15, hsh⟩ := hsh.inv
  obtain ⟨c16, cs, rfl, q16, hsh⟩ := hsh.inv
  obtain ⟨c17, cs, rfl, q17, hsh⟩ := hsh.inv
  obtain ⟨c18, cs, rfl, q18, hsh⟩ := hsh.inv
  obtain ⟨c19, cs, rfl, q19, hsh⟩ := hsh.inv
  obtain ⟨c20, cs, rfl, q20, hsh⟩ := hsh.inv
  obtain ⟨c21, cs, rfl, q21, hsh⟩ := hsh.inv
  obtain ⟨c22, cs, rfl, q22, hsh⟩ := hsh.inv
  obtain ⟨c23, cs, rfl, q23, hsh⟩ := hsh.inv
  obtain ⟨c24, cs, rfl, q24, hsh⟩ := hsh.inv
  obtain ⟨c25, cs, rfl, q25, hsh⟩ := hsh.inv
  obtain ⟨c26, cs, rfl, q26, hsh⟩ := hsh.inv
  obtain ⟨c27, cs, rfl, q27, hsh⟩ := hsh.inv
  obtain ⟨c28, cs, rfl, q28, hsh⟩ := hsh.inv
  obtain ⟨c29, cs, rfl, q29, hsh⟩ := hsh.inv
  obtain ⟨c30, cs, rfl, q30, hsh⟩ := hsh.inv
  obtain ⟨c31, cs, rfl, q31, hsh⟩ := hsh.inv
  obtain ⟨c32, cs, rfl, q32, hsh⟩ := hsh.inv
  obtain ⟨c33, cs, rfl, q33, hsh⟩ := hsh.inv
  obtain ⟨c34, cs, rfl, q34, hsh⟩ := hsh.inv
  obtain ⟨c35, cs, rfl, q35, hsh⟩ := hsh.inv
  obtain ⟨c36, cs, rfl, q36, hsh⟩ := hsh.inv
  obtain ⟨c37, cs, rfl, q37, hsh⟩ := hsh.inv
  obtain ⟨c38, cs, rfl, q38, hsh⟩ := hsh.inv
  obtain ⟨c39, cs, rfl, q39, hsh⟩ := hsh.inv
  obtain ⟨c40, cs, rfl, q40, hsh⟩ := hsh.inv
  obtain ⟨c41, cs, rfl, q41, hsh⟩ := hsh.inv
  obtain ⟨c42, cs, rfl, q42, hsh⟩ := hsh.inv
  obtain ⟨c43, cs, rfl, q43, hsh⟩ := hsh.inv
  obtain ⟨c44, cs, rfl, q44, hsh⟩ := hsh.inv
  obtain rfl := hsh.inv0
  obtain ⟨v0, vs, rfl, r0, h⟩ := h.inv
  obtain ⟨v1, vs, rfl, r1, h⟩ := h.inv
  obtain ⟨v2, vs, rfl, r2, h⟩ := h.inv
  obtain ⟨v3, vs, rfl, r3, h⟩ := h.inv
  obtain ⟨v4, vs, rfl, r4, h⟩ := h.inv
  obtain ⟨v5, vs, rfl, r5, h⟩ := h.inv
  obtain ⟨v6, vs, rfl, r6, h⟩ := h.inv
  obtain ⟨v7, vs, rfl, r7, h⟩ := h.inv
  obtain ⟨v8, vs, rfl, r8, h⟩ := h.inv
  obtain ⟨v9, vs, rfl, r9, h⟩ := h.inv
  obtain ⟨v10, vs, rfl, r10, h⟩ := h.inv
  obtain ⟨v11, vs, rfl, r11, h⟩ := h.inv
  obtain ⟨v12, vs, rfl, r12, h⟩ := h.inv
  obtain ⟨v13, vs, rfl, r13, h⟩ := h.inv
  obtain ⟨v14, vs, rfl, r14, h⟩ := h.inv
  obtain ⟨v15, vs, rfl, r15, h⟩ := h.inv
  obtain ⟨v16, vs, rfl, r16, h⟩ := h.inv
  obtain ⟨v17, vs, rfl, r17, h⟩ := h.inv
  obtain ⟨v18, vs, rfl, r18, h⟩ := h.inv
  obtain ⟨v19, vs, rfl, r19, h⟩ := h.inv
  obtain ⟨v20, vs, rfl, r20, h⟩ := h.inv
  obtain ⟨v21, vs, rfl, r21, h⟩ := h.inv
  obtain ⟨v22, vs, rfl, r22, h⟩ := h.inv
  obtain ⟨v23, vs, rfl, r23, h⟩ := h.inv
  obtain ⟨v24, vs, rfl, r24, h⟩ := h.inv
  obtain ⟨v25, vs, rfl, r25, h⟩ := h.inv
  obtain ⟨v26, vs, rfl, r26, h⟩ := h.inv
  obtain ⟨v27, vs, rfl, r27, h⟩ := h.inv
  obtain ⟨v28, vs, rfl, r28, h⟩ := h.inv
  obtain ⟨v29, vs, rfl, r29, h⟩ := h.inv
  obtain ⟨v30, vs, rfl, r30, h⟩ := h.inv
  obtain ⟨v31, vs, rfl, r31, h⟩ := h.inv
  obtain ⟨v32, vs, rfl, r32, h⟩ := h.inv
  obtain ⟨v33, vs, rfl, r33, h⟩ := h.inv
  obtain ⟨v34, vs, rfl, r34, h⟩ := h.inv
  obtain ⟨v35, vs, rfl, r35, h⟩ := h.inv
  obtain ⟨v36, vs, rfl, r36, h⟩ := h.inv
  obtain ⟨v37, vs, rfl, r37, h⟩ := h.inv
  obtain ⟨v38, vs, rfl, r38, h⟩ := h.inv
  obtain ⟨v39, vs, rfl, r39, h⟩ := h.inv
  obtain ⟨v40, vs, rfl, r40, h⟩ := h.inv
  obtain ⟨v41, vs, rfl, r41, h⟩ := h.inv
  obtain ⟨v42, vs, rfl, r42, h⟩ := h.inv
  obtain ⟨v43, vs, rfl, r43, h⟩ := h.inv
  obtain ⟨v44, vs, rfl, r44, h⟩ := h.inv
  obtain rfl := h.inv0
  obtain ⟨v0', vs', rfl, r0', h'⟩ := h'.inv
  obtain ⟨v1', vs', rfl, r1', h'⟩ := h'.inv
  obtain ⟨v2', vs', rfl, r2', h'⟩ := h'.inv
  obtain ⟨v3', vs', rfl, r3', h'⟩ := h'.inv
  obtain ⟨v4', vs', rfl, r4', h'⟩ := h'.inv
  obtain ⟨v5', vs', rfl, r5', h'⟩ := h'.inv
  obtain ⟨v6', vs', rfl, r6', h'⟩ := h'.inv
  obtain ⟨v7', vs', rfl, r7', h'⟩ := h'.inv
  obtain ⟨v8', vs', rfl, r8', h'⟩ := h'.inv
  obtain ⟨v9', vs', rfl, r9', h'⟩ := h'.inv
  obtain ⟨v10', vs', rfl, r10', h'⟩ := h'.inv
  obtain ⟨v11', vs', rfl, r11', h'⟩ := h'.inv
  obtain ⟨v12', vs', rfl, r12', h'⟩ := h'.inv
  obtain ⟨v13', vs', rfl, r13', h'⟩ := h'.inv
  obtain ⟨v14', vs', rfl, r14', h'⟩ := h'.inv
  obtain ⟨v15', vs', rfl, r15', h'⟩ := h'.inv
  obtain ⟨v16', vs', rfl, r16', h'⟩ := h'.inv
  obtain ⟨v17', vs', rfl, r17', h'⟩ := h'.inv
  obtain ⟨v18', vs', rfl, r18', h'⟩ := h'.inv
  obtain ⟨v19', vs', rfl, r19', h'⟩ := h'.inv
  obtain ⟨v20', vs', rfl, r20', h'⟩ := h'.inv
  obtain ⟨v21', vs', rfl, r21', h'⟩ := h'.inv
  obtain ⟨v22', vs', rfl, r22', h'⟩ := h'.inv
  obtain ⟨v23', vs', rfl, r23', h'⟩ := h'.inv
  obtain ⟨v24', vs', rfl, r24', h'⟩ := h'.inv
  obtain ⟨v25', vs', rfl, r25', h'⟩ := h'.inv
  obtain ⟨v26', vs', rfl, r26', h'⟩ := h'.inv
  obtain ⟨v27', vs', rfl, r27', h'⟩ := h'.inv
  obtain ⟨v28', vs', rfl, r28', h'⟩ := h'.inv
  obtain ⟨v29', vs', rfl, r29', h'⟩ := h'.inv
  obtain ⟨v30', vs', rfl, r30', h'⟩ := h'.inv
  obtain ⟨v31', vs', rfl, r31', h'⟩ := h'.inv
  obtain ⟨v32', vs', rfl, r32', h'⟩ := h'.inv
  obtain ⟨v33', vs', rfl, r33', h'⟩ := h'.inv
  obtain ⟨v34', vs', rfl, r34', h'⟩ := h'.inv
  obtain ⟨v35', vs', rfl, r35', h'⟩ := h'.inv
  obtain ⟨v36', vs', rfl, r36', h'⟩ := h'.inv
  obtain ⟨v37', vs', rfl, r37', h'⟩ := h'.inv
  obtain ⟨v38', vs', rfl, r38', h'⟩ := h'.inv
  obtain ⟨v39', vs', rfl, r39', h'⟩ := h'.inv
  obtain ⟨v40', vs', rfl, r40', h'⟩ := h'.inv
  obtain ⟨v41', vs', rfl, r41', h'⟩ := h'.inv
  obtain ⟨v42', vs', rfl, r42', h'⟩ := h'.inv
  obtain ⟨v43', vs', rfl, r43', h'⟩ := h'.inv
  obtain ⟨v44', vs', rfl, r44', h'⟩ := h'.inv
  obtain rfl := h'.inv0
  obtain ⟨z0, rfl⟩ := q0
  obtain ⟨rfl, wf0⟩ := r0
  obtain ⟨rfl, wf0'⟩ := r0'
  obtain ⟨z1, rfl⟩ := q1
  obtain ⟨rfl, wf1⟩ := r1
  obtain ⟨rfl, wf1'⟩ := r1'
  obtain ⟨z2, rfl⟩ := q2
  obtain ⟨rfl, wf2⟩ := r2
  obtain ⟨rfl, wf2'⟩ := r2'
  obtain ⟨b3, rfl⟩ := q3
  obtain rfl := r3
  obtain rfl := r3'
  have q4 : c4.flk = some .f32 := q4
  obtain ⟨y4, rfl, f4, e4⟩ := r4.fl q4
  obtain ⟨y4', rfl, f4', e4'⟩ := r4'.fl q4
  obtain ⟨z6, rfl⟩ := q6
  obtain ⟨rfl, wf6⟩ := r6
  obtain ⟨rfl, wf6'⟩ := r6'
  obtain ⟨z7, rfl⟩ := q7
  obtain ⟨rfl, wf7⟩ := r7
  obtain ⟨rfl, wf7'⟩ := r7'
  have q8 : c8.flk = some .f32 := q8
  obtain ⟨y8, rfl, f8, e8⟩ := r8.fl q8
  obtain ⟨y8', rfl, f8', e8'⟩ := r8'.fl q8
  have q9 : c9.flk = some .f32 := q9
  obtain ⟨y9, rfl, f9, e9⟩ := r9.fl q9
  obtain ⟨y9', rfl, f9', e9'⟩ := r9'.fl q9
  have q10 : c10.flk = some .f32 := q10
  obtain ⟨y10, rfl, f10, e10⟩ := r10.fl q10
  obtain ⟨y10', rfl, f10', e10'⟩ := r10'.fl q10
  have q11 : c11.flk = some .f32 := q11
  obtain ⟨y11, rfl, f11, e11⟩ := r11.fl q11
  obtain ⟨y11', rfl, f11', e11'⟩ := r11'.fl q11
  have q12 : c12.flk = some .f32 := q12
  obtain ⟨y12, rfl, f12, e12⟩ := r12.fl q12
  obtain ⟨y12', rfl, f12', e12'⟩ := r12'.fl q12
  obtain ⟨z13, rfl⟩ := q13
  obtain ⟨rfl, wf13⟩ := r13
  obtain ⟨rfl, wf13'⟩ := r13'
  have q14 : c14.flk = some .f32 := q14
  obtain ⟨y14, rfl, f14, e14⟩ := r14.fl q14
  obtain ⟨y14', rfl, f14', e14'⟩ := r14'.fl q14
  have q15 : c15.flk = some .f32 := q15
  obtain ⟨y15, rfl, f15, e15⟩ := r15.fl q15
  obtain ⟨y15', rfl, f15', e15'⟩ := r15'.fl q15
  have q16 : c16.flk = some .f32 := q16
  obtain ⟨y16, rfl, f16, e16⟩ := r16.fl q16
  obtain ⟨y16', rfl, f16', e16'⟩ := r16'.fl q16
  have q17 : c17.flk = some .f32 := q17
  obtain ⟨y17, rfl, f17, e17⟩ := r17.fl q17
  obtain ⟨y17', rfl, f17', e17'⟩ := r17'.fl q17
  have q18 : c18.flk = some .f32 := q18
  obtain ⟨y18, rfl, f18, e18⟩ := r18.fl q18
  obtain ⟨y18', rfl, f18', e18'⟩ := r18'.fl q18
  have q19 : c19.flk = some .f32 := q19
  obtain ⟨y19, rfl, f19, e19⟩ := r19.fl q19
  obtain ⟨y19', rfl, f19', e19'⟩ := r19'.fl q19
  obtain ⟨z23, rfl⟩ := q23
  obtain ⟨rfl, wf23⟩ := r23
  obtain ⟨rfl, wf23'⟩ := r23'
  have q24 : c24.flk = some .f32 := q24
  obtain ⟨y24, rfl, f24, e24⟩ := r24.fl q24
  obtain ⟨y24', rfl, f24', e24'⟩ := r24'.fl q24
  have q25 : c25.flk = some .f32 := q25
  obtain ⟨y25, rfl, f25, e25⟩ := r25.fl q25
  obtain ⟨y25', rfl, f25', e25'⟩ := r25'.fl q25
  have q26 : c26.flk = some .f32 := q26
  obtain ⟨y26, rfl, f26, e26⟩ := r26.fl q26
  obtain ⟨y26', rfl, f26', e26'⟩ := r26'.fl q26
  have q27 : c27.flk = some .f32 := q27
  obtain ⟨y27, rfl, f27, e27⟩ := r27.fl q27
  obtain ⟨y27', rfl, f27', e27'⟩ := r27'.fl q27
  have q28 : c28.flk = some .f32 := q28
  obtain ⟨y28, rfl, f28, e28⟩ := r28.fl q28
  obtain ⟨y28', rfl, f28', e28'⟩ := r28'.fl q28
  obtain ⟨b29, rfl⟩ := q29
  obtain rfl := r29
  obtain rfl := r29'
  have q30 : c30.flk = some .f32 := q30
  obtain ⟨y30, rfl, f30, e30⟩ := r30.fl q30
  obtain ⟨y30', rfl, f30', e30'⟩ := r30'.fl q30
  have q31 : c31.flk = some .f32 := q31
  obtain ⟨y31, rfl, f31, e31⟩ := r31.fl q31
  obtain ⟨y31', rfl, f31', e31'⟩ := r31'.fl q31
  have q32 : c32.flk = some .f32 := q32
  obtain ⟨y32, rfl, f32, e32⟩ := r32.fl q32
  obtain ⟨y32', rfl, f32', e32'⟩ := r32'.fl q32
  obtain ⟨z34, rfl⟩ := q34
  obtain ⟨rfl, wf34⟩ := r34
  obtain ⟨rfl, wf34'⟩ := r34'
  obtain ⟨z36, rfl⟩ := q36
  obtain ⟨rfl, wf36⟩ := r36
  obtain ⟨rfl, wf36'⟩ := r36'
  obtain ⟨z37, rfl⟩ := q37
  obtain ⟨rfl, wf37⟩ := r37
  obtain ⟨rfl, wf37'⟩ := r37'
  have q38 : c38.flk = some .f32 := q38
  obtain ⟨y38, rfl, f38, e38⟩ := r38.fl q38
  obtain ⟨y38', rfl, f38', e38'⟩ := r38'.fl q38
  have q39 : c39.flk = some .f32 := q39
  obtain ⟨y39, rfl, f39, e39⟩ := r39.fl q39
  obtain ⟨y39', rfl, f39', e39'⟩ := r39'.fl q39
  have q40 : c40.flk = some .f32 := q40
  obtain ⟨y40, rfl, f40, e40⟩ := r40.fl q40
  obtain ⟨y40', rfl, f40', e40'⟩ := r40'.fl q40
  have q41 : c41.flk = some .f32 := q41
  obtain ⟨y41, rfl, f41, e41⟩ := r41.fl q41
  obtain ⟨y41', rfl, f41', e41'⟩ := r41'.fl q41
  have q42 : c42.flk = some .f32 := q42
  obtain ⟨y42, rfl, f42, e42⟩ := r42.fl q42
  obtain ⟨y42', rfl, f42', e42'⟩ := r42'.fl q42
  have q43 : c43.flk = some .f32 := q43
  obtain ⟨y43, rfl, f43, e43⟩ := r43.fl q43
  obtain ⟨y43', rfl, f43', e43'⟩ := r43'.fl q43
  have q44 : c44.flk = some .f32 := q44
  obtain ⟨y44, rfl, f44, e44⟩ := r44.fl q44
  obtain ⟨y44', rfl, f44', e44'⟩ := r44'.fl q44
  have HZ := hid hz
  have E4 := hid (e4.trans e4'.symm)
  have H5 := hid (fun (w' : World) (hl : le w w') => eqU_String B B' [c5, .int .i64 z6, .int .i64 z7, c8, c9, c10, c11, c12, .int .i64 z13, c14, c15, c16, c17, c18, c19] [v5, .int .i64 z6, .int .i64 z7, .float .f32 y8, .float .f32 y9, .float .f32 y10, .float .f32 y11, .float .f32 y12, .int .i64 z13, .float .f32 y14, .float .f32 y15, .float .f32 y16, .float .f32 y17, .float .f32 y18, .float .f32 y19] [v5', .int .i64 z6, .int .i64 z7, .float .f32 y8', .float .f32 y9', .float .f32 y10', .float .f32 y11', .float .f32 y12', .int .i64 z13, .float .f32 y14', .float .f32 y15', .float .f32 y16', .float .f32 y17', .float .f32 y18', .float .f32 y19'] w' (RdL.cons (c := c5) (r5.le hl) (RdL.cons (c := .int .i64 z6) ⟨rfl, wf6⟩ (RdL.cons (c := .int .i64 z7) ⟨rfl, wf7⟩ (RdL.cons (c := c8) (r8.le hl) (RdL.cons (c := c9) (r9.le hl) (RdL.cons (c := c10) (r10.le hl) (RdL.cons (c := c11) (r11.le hl) (RdL.cons (c := c12) (r12.le hl) (RdL.cons (c := .int .i64 z13) ⟨rfl, wf13⟩ (RdL.cons (c := c14) (r14.le hl) (RdL.cons (c := c15) (r15.le hl) (RdL.cons (c := c16) (r16.le hl) (RdL.cons (c := c17) (r17.le hl) (RdL.cons (c := c18) (r18.le hl) (RdL.cons (c := c19) (r19.le hl) (RdL.nil _ _)))))))))))))))) (RdL.cons (c := c5) (r5'.le hl) (RdL.cons (c := .int .i64 z6) ⟨rfl, wf6'⟩ (RdL.cons (c := .int .i64 z7) ⟨rfl, wf7'⟩ (RdL.cons (c := c8) (r8'.le hl) (RdL.cons (c := c9) (r9'.le hl) (RdL.cons (c := c10) (r10'.le hl) (RdL.cons (c := c11) (r11'.le hl) (RdL.cons (c := c12) (r12'.le hl) (RdL.cons (c := .int .i64 z13) ⟨rfl, wf13'⟩ (RdL.cons (c := c14) (r14'.le hl) (RdL.cons (c := c15) (r15'.le hl) (RdL.cons (c := c16) (r16'.le hl) (RdL.cons (c := c17) (r17'.le hl) (RdL.cons (c := c18) (r18'.le hl) (RdL.cons (c := c19) (r19'.le hl) (RdL.nil _ _)))))))))))))))) (ShOkL.cons q5 (ShOkL.cons ⟨_, rfl⟩ (ShOkL.cons ⟨_, rfl⟩ (ShOkL.cons q8 (ShOkL.cons q9 (ShOkL.cons q10 (ShOkL.cons q11 (ShOkL.cons q12 (ShOkL.cons ⟨_, rfl⟩ (ShOkL.cons q14 (ShOkL.cons q15 (ShOkL.cons q16 (ShOkL.cons q17 (ShOkL.cons q18 (ShOkL.cons q19 (ShOkL.nil)))))))))))))))) (szL_le HZ.out 5 15 rfl))
  have H6 := hid (fun (w' : World) (hl : le w w') => eqU_Pipe B B' [c20, c21, c22, .int .i64 z23, c24, c25, c26, c27, c28, .bool b29, c30, c31, c32] [v20, v21, v22, .int .i64 z23, .float .f32 y24, .float .f32 y25, .float .f32 y26, .float .f32 y27, .float .f32 y28, .bool b29, .float .f32 y30, .float .f32 y31, .float .f32 y32] [v20', v21', v22', .int .i64 z23, .float .f32 y24', .float .f32 y25', .float .f32 y26', .float .f32 y27', .float .f32 y28', .bool b29, .float .f32 y30', .float .f32 y31', .float .f32 y32'] w' (RdL.cons (c := c20) (r20.le hl) (RdL.cons (c := c21) (r21.le hl) (RdL.cons (c := c22) (r22.le hl) (RdL.cons (c := .int .i64 z23) ⟨rfl, wf23⟩ (RdL.cons (c := c24) (r24.le hl) (RdL.cons (c := c25) (r25.le hl) (RdL.cons (c := c26) (r26.le hl) (RdL.cons (c := c27) (r27.le hl) (RdL.cons (c := c28) (r28.le hl) (RdL.cons (c := .bool b29) rfl (RdL.cons (c := c30) (r30.le hl) (RdL.cons (c := c31) (r31.le hl) (RdL.cons (c := c32) (r32.le hl) (RdL.nil _ _)))))))))))))) (RdL.cons (c := c20) (r20'.le hl) (RdL.cons (c := c21) (r21'.le hl) (RdL.cons (c := c22) (r22'.le hl) (RdL.cons (c := .int .i64 z23) ⟨rfl, wf23'⟩ (RdL.cons (c := c24) (r24'.le hl) (RdL.cons (c := c25) (r25'.le hl) (RdL.cons (c := c26) (r26'.le hl) (RdL.cons (c := c27) (r27'.le hl) (RdL.cons (c := c28) (r28'.le hl) (RdL.cons (c := .bool b29) rfl (RdL.cons (c := c30) (r30'.le hl) (RdL.cons (c := c31) (r31'.le hl) (RdL.cons (c := c32) (r32'.le hl) (RdL.nil _ _)))))))))))))) (ShOkL.cons q20 (ShOkL.cons q21 (ShOkL.cons q22 (ShOkL.cons ⟨_, rfl⟩ (ShOkL.cons q24 (ShOkL.cons q25 (ShOkL.cons q26 (ShOkL.cons q27 (ShOkL.cons q28 (ShOkL.cons ⟨_, rfl⟩ (ShOkL.cons q30 (ShOkL.cons q31 (ShOkL.cons q32 (ShOkL.nil)))))))))))))) (szL_le HZ.out 20 13 rfl))
  have H7 := hid (fun (w' : World) (hl : le w w') => eqU_Bow B B' [c33, .int .i64 z34, c35, .int .i64 z36, .int .i64 z37, c38, c39, c40, c41, c42, c43, c44] [v33, .int .i64 z34, v35, .int .i64 z36, .int .i64 z37, .float .f32 y38, .float .f32 y39, .float .f32 y40, .float .f32 y41, .float .f32 y42, .float .f32 y43, .float .f32 y44] [v33', .int .i64 z34, v35', .int .i64 z36, .int .i64 z37, .float .f32 y38', .float .f32 y39', .float .f32 y40', .float .f32 y41', .float .f32 y42', .float .f32 y43', .float .f32 y44'] w' (RdL.cons (c := c33) (r33.le hl) (RdL.cons (c := .int .i64 z34) ⟨rfl, wf34⟩ (RdL.cons (c := c35) (r35.le hl) (RdL.cons (c := .int .i64 z36) ⟨rfl, wf36⟩ (RdL.cons (c := .int .i64 z37) ⟨rfl, wf37⟩ (RdL.cons (c := c38) (r38.le hl) (RdL.cons (c := c39) (r39.le hl) (RdL.cons (c := c40) (r40.le hl) (RdL.cons (c := c41) (r41.le hl) (RdL.cons (c := c42) (r42.le hl) (RdL.cons (c := c43) (r43.le hl) (RdL.cons (c := c44) (r44.le hl) (RdL.nil _ _))))))))))))) (RdL.cons (c := c33) (r33'.le hl) (RdL.cons (c := .int .i64 z34) ⟨rfl, wf34'⟩ (RdL.cons (c := c35) (r35'.le hl) (RdL.cons (c := .int .i64 z36) ⟨rfl, wf36'⟩ (RdL.cons (c := .int .i64 z37) ⟨rfl, wf37'⟩ (RdL.cons (c := c38) (r38'.le hl) (RdL.cons (c := c39) (r39'.le hl) (RdL.cons (c := c40) (r40'.le hl) (RdL.cons (c := c41) (r41'.le hl) (RdL.cons (c := c42) (r42'.le hl) (RdL.cons (c := c43) (r43'.le hl) (RdL.cons (c := c44) (r44'.le hl) (RdL.nil _ _))))))))))))) (ShOkL.cons q33 (ShOkL.cons ⟨_, rfl⟩ (ShOkL.cons q35 (ShOkL.cons ⟨_, rfl⟩ (ShOkL.cons ⟨_, rfl⟩ (ShOkL.cons q38 (ShOkL.cons q39 (ShOkL.cons q40 (ShOkL.cons q41 (ShOkL.cons q42 (ShOkL.cons q43 (ShOkL.cons q44 (ShOkL.nil))))))))))))) (szL_le HZ.out 33 12 rfl))
  have F := ((Frg.nil w).box 38 #[.int .i64 z0, .int .i64 z1, .int .i64 z2, .bool b3, .float .f32 y4, v5, .int .i64 z6, .int .i64 z7, .float .f32 y8, .float .f32 y9, .float .f32 y10, .float .f32 y11, .float .f32 y12, .int .i64 z13, .float .f32 y14, .float .f32 y15, .float .f32 y16, .float .f32 y17, .float .f32 y18, .float .f32 y19, v20, v21, v22, .int .i64 z23, .float .f32 y24, .float .f32 y25, .float .f32 y26, .float .f32 y27, .float .f32 y28, .bool b29, .float .f32 y30, .float .f32 y31, .float .f32 y32, v33, .int .i64 z34, v35, .int .i64 z36, .int .i64 z37, .float .f32 y38, .float .f32 y39, .float .f32 y40, .float .f32 y41, .float .f32 y42, .float .f32 y43, .float .f32 y44]).box 38 #[.int .i64 z0, .int .i64 z1, .int .i64 z2, .bool b3, .float .f32 y4', v5', .int .i64 z6, .int .i64 z7, .float .f32 y8', .float .f32 y9', .float .f32 y10', .float .f32 y11', .float .f32 y12', .int .i64 z13, .float .f32 y14', .float .f32 y15', .float .f32 y16', .float .f32 y17', .float .f32 y18', .float .f32 y19', v20', v21', v22', .int .i64 z23, .float .f32 y24', .float .f32 y25', .float .f32 y26', .float .f32 y27', .float .f32 y28', .bool b29, .float .f32 y30', .float .f32 y31', .float .f32 y32', v33', .int .i64 z34, v35', .int .i64 z36, .int .i64 z37, .float .f32 y38', .float .f32 y39', .float .f32 y40', .float .f32 y41', .float .f32 y42', .float .f32 y43', .float .f32 y44']
  simp only [World.size_alloc] at F
  clear hz HZ
  go_enter Try.func6, Try.ntmps6
  go_wp2_with (first | ((with_reducible refine listN F ?_); clear F; intro wN F) | ((with_reducible refine at_load rfl ?_); first | (with_reducible refine wpList_load1 F rfl rfl rfl (by first | exact m0 | exact m1) (f := 0) (v := .int .i64 z0) rfl ukindInt64 ?_) | (with_reducible refine wpList_load1 F rfl rfl rfl (by first | exact m0 | exact m1) (f := 1) (v := .int .i64 z1) rfl ukindInt64 ?_) | (with_reducible refine wpList_load1 F rfl rfl rfl (by first | exact m0 | exact m1) (f := 2) (v := .int .i64 z2) rfl ukindInt64 ?_) | (with_reducible refine wpList_load1 F rfl rfl rfl (by first | exact m0 | exact m1) (f := 3) (v := .bool b3) rfl ukindBool ?_) | (with_reducible refine wpList_load1 F rfl rfl rfl (by first | exact m0 | exact m1) (f := 4) (v := .float .f32 y4) rfl ukindFloat32 ?_) | (with_reducible refine wpList_loadGP F rfl rfl rfl (by first | exact m0 | exact m1) Try.underlying31 rfl [v5, .int .i64 z6, .int .i64 z7, .float .f32 y8, .float .f32 y9, .float .f32 y10, .float .f32 y11, .float .f32 y12, .int .i64 z13, .float .f32 y14, .float .f32 y15, .float .f32 y16, .float .f32 y17, .float .f32 y18, .float .f32 y19] (partVoice_String (.int .i64 z0) (.int .i64 z1) (.int .i64 z2) (.bool b3) (.float .f32 y4) (v5) (.int .i64 z6) (.int .i64 z7) (.float .f32 y8) (.float .f32 y9) (.float .f32 y10) (.float .f32 y11) (.float .f32 y12) (.int .i64 z13) (.float .f32 y14) (.float .f32 y15) (.float .f32 y16) (.float .f32 y17) (.float .f32 y18) (.float .f32 y19) (v20) (v21) (v22) (.int .i64 z23) (.float .f32 y24) (.float .f32 y25) (.float .f32 y26) (.float .f32 y27) (.float .f32 y28) (.bool b29) (.float .f32 y30) (.float .f32 y31) (.float .f32 y32) (v33) (.int .i64 z34) (v35) (.int .i64 z36) (.int .i64 z37) (.float .f32 y38) (.float .f32 y39) (.float .f32 y40) (.float .f32 y41) (.float .f32 y42) (.float .f32 y43) (.float .f32 y44)) uinfoStringI rfl ?_) | (with_reducible refine wpList_loadGP F rfl rfl rfl (by first | exact m0 | exact m1) Try.underlying34 rfl [v20, v21, v22, .int .i64 z23, .float .f32 y24, .float .f32 y25, .float .f32 y26, .float .f32 y27, .float .f32 y28, .bool b29, .float .f32 y30, .float .f32 y31, .float .f32 y32] (partVoice_Pipe (.int .i64 z0) (.int .i64 z1) (.int .i64 z2) (.bool b3) (.float .f32 y4) (v5) (.int .i64 z6) (.int .i64 z7) (.float .f32 y8) (.float .f32 y9) (.float .f32 y10) (.float .f32 y11) (.float .f32 y12) (.int .i64 z13) (.float .f32 y14) (.float .f32 y15) (.float .f32 y16) (.float .f32 y17) (.float .f32 y18) (.float .f32 y19) (v20) (v21) (v22) (.int .i64 z23) (.float .f32 y24) (.float .f32 y25) (.float .f32 y26) (.float .f32 y27) (.float .f32 y28) (.bool b29) (.float .f32 y30) (.float .f32 y31) (.float .f32 y32) (v33) (.int .i64 z34) (v35) (.int .i64 z36) (.int .i64 z37) (.float .f32 y38) (.float .f32 y39) (.float .f32 y40) (.float .f32 y41) (.float .f32 y42) (.float .f32 y43) (.float .f32 y44)) uinfoPipeI rfl ?_) | (with_reducible refine wpList_loadGP F rfl rfl rfl (by first | exact m0 | exact m1) Try.underlying36 rfl [v33, .int .i64 z34, v35, .int .i64 z36, .int .i64 z37, .float .f32 y38, .float .f32 y39, .float .f32 y40, .float .f32 y41, .float .f32 y42, .float .f32 y43, .float .f32 y44] (partVoice_Bow (.int .i64 z0) (.int .i64 z1) (.int .i64 z2) (.bool b3) (.float .f32 y4) (v5) (.int .i64 z6) (.int .i64 z7) (.float .f32 y8) (.float .f32 y9) (.float .f32 y10) (.float .f32 y11) (.float .f32 y12) (.int .i64 z13) (.float .f32 y14) (.float .f32 y15) (.float .f32 y16) (.float .f32 y17) (.float .f32 y18) (.float .f32 y19) (v20) (v21) (v22) (.int .i64 z23) (.float .f32 y24) (.float .f32 y25) (.float .f32 y26) (.float .f32 y27) (.float .f32 y28) (.bool b29) (.float .f32 y30) (.float .f32 y31) (.float .f32 y32) (v33) (.int .i64 z34) (v35) (.int .i64 z36) (.int .i64 z37) (.float .f32 y38) (.float .f32 y39) (.float .f32 y40) (.float .f32 y41) (.float .f32 y42) (.float .f32 y43) (.float .f32 y44)) uinfoBowI rfl ?_) | (with_reducible refine wpList_load1 F rfl rfl rfl (by first | exact m0 | exact m1) (f := 0) (v := .int .i64 z0) rfl ukindInt64 ?_) | (with_reducible refine wpList_load1 F rfl rfl rfl (by first | exact m0 | exact m1) (f := 1) (v := .int .i64 z1) rfl ukindInt64 ?_) | (with_reducible refine wpList_load1 F rfl rfl rfl (by first | exact m0 | exact m1) (f := 2) (v := .int .i64 z2) rfl ukindInt64 ?_) | (with_reducible refine wpList_load1 F rfl rfl rfl (by first | exact m0 | exact m1) (f := 3) (v := .bool b3) rfl ukindBool ?_) | (with_reducible refine wpList_load1 F rfl rfl rfl (by first | exact m0 | exact m1) (f := 4) (v := .float .f32 y4') rfl ukindFloat32 ?_) | (with_reducible refine wpList_loadGP F rfl rfl rfl (by first | exact m0 | exact m1) Try.underlying31 rfl [v5', .int .i64 z6, .int .i64 z7, .float .f32 y8', .float .f32 y9', .float .f32 y10', .float .f32 y11', .float .f32 y12', .int .i64 z13, .float .f32 y14', .float .f32 y15', .float .f32 y16', .float .f32 y17', .float .f32 y18', .float .f32 y19'] (partVoice_String (.int .i64 z0) (.int .i64 z1) (.int .i64 z2) (.bool b3) (.float .f32 y4') (v5') (.int .i64 z6) (.int .i64 z7) (.float .f32 y8') (.float .f32 y9') (.float .f32 y10') (.float .f32 y11') (.float .f32 y12') (.int .i64 z13) (.float .f32 y14') (.float .f32 y15') (.float .f32 y16') (.float .f32 y17') (.float .f32 y18') (.float .f32 y19') (v20') (v21') (v22') (.int .i64 z23) (.float .f32 y24') (.float .f32 y25') (.float .f32 y26') (.float .f32 y27') (.float .f32 y28') (.bool b29) (.float .f32 y30') (.float .f32 y31') (.float .f32 y32') (v33') (.int .i64 z34) (v35') (.int .i64 z36) (.int .i64 z37) (.float .f32 y38') (.float .f32 y39') (.float .f32 y40') (.float .f32 y41') (.float .f32 y42') (.float .f32 y43') (.float .f32 y44')) uinfoStringI rfl ?_) | (with_reducible refine wpList_loadGP F rfl rfl rfl (by first | exact m0 | exact m1) Try.underlying34 rfl [v20', v21', v22', .int .i64 z23, .float .f32 y24', .float .f32 y25', .float .f32 y26', .float .f32 y27', .float .f32 y28', .bool b29, .float .f32 y30', .float .f32 y31', .float .f32 y32'] (partVoice_Pipe (.int .i64 z0) (.int .i64 z1) (.int .i64 z2) (.bool b3) (.float .f32 y4') (v5') (.int .i64 z6) (.int .i64 z7) (.float .f32 y8') (.float .f32 y9') (.float .f32 y10') (.float .f32 y11') (.float .f32 y12') (.int .i64 z13) (.float .f32 y14') (.float .f32 y15') (.float .f32 y16') (.float .f32 y17') (.float .f32 y18') (.float .f32 y19') (v20') (v21') (v22') (.int .i64 z23) (.float .f32 y24') (.float .f32 y25') (.float .f32 y26') (.float .f32 y27') (.float .f32 y28') (.bool b29) (.float .f32 y30') (.float .f32 y31') (.float .f32 y32') (v33') (.int .i64 z34) (v35') (.int .i64 z36) (.int .i64 z37) (.float .f32 y38') (.float .f32 y39') (.float .f32 y40') (.float .f32 y41') (.float .f32 y42') (.float .f32 y43') (.float .f32 y44')) uinfoPipeI rfl ?_) | (with_reducible refine wpList_loadGP F rfl rfl rfl (by first | exact m0 | exact m1) Try.underlying36 rfl [v33', .int .i64 z34, v35', .int .i64 z36, .int .i64 z37, .float .f32 y38', .float .f32 y39', .float .f32 y40', .float .f32 y41', .float .f32 y42', .float .f32 y43', .float .f32 y44'] (partVoice_Bow (.int .i64 z0) (.int .i64 z1) (.int .i64 z2) (.bool b3) (.float .f32 y4') (v5') (.int .i64 z6) (.int .i64 z7) (.float .f32 y8') (.float .f32 y9') (.float .f32 y10') (.float .f32 y11') (.float .f32 y12') (.int .i64 z13) (.float .f32 y14') (.float .f32 y15') (.float .f32 y16') (.float .f32 y17') (.float .f32 y18') (.float .f32 y19') (v20') (v21') (v22') (.int .i64 z23) (.float .f32 y24') (.float .f32 y25') (.float .f32 y26') (.float .f32 y27') (.float .f32 y28') (.bool b29) (.float .f32 y30') (.float .f32 y31') (.float .f32 y32') (v33') (.int .i64 z34) (v35') (.int .i64 z36) (.int .i64 z37) (.float .f32 y38') (.float .f32 y39') (.float .f32 y40') (.float .f32 y41') (.float .f32 y42') (.float .f32 y43') (.float .f32 y44')) uinfoBowI rfl ?_)) | (go_at_call 10; ((with_reducible refine (H5.out _ F.below).mono ?_); rintro e w1 ⟨rfl, hl⟩; replace F := F.le hl; clear hl)) | (go_at_call 11; ((with_reducible refine (H6.out _ F.below).mono ?_); rintro e w1 ⟨rfl, hl⟩; replace F := F.le hl; clear hl)) | (go_at_call 12; ((with_reducible refine (H7.out _ F.below).mono ?_); rintro e w1 ⟨rfl, hl⟩; replace F := F.le hl; clear hl)) | ((with_reducible refine at_convert rfl ?_); (with_reducible refine wpList_widen rfl rfl rfl Try.underlying22 Try.underlying44 ?_; intro s1 n1 h1 f1)) | (go_at_call 9; ((with_reducible refine (sameFloat_yes _ _ _ (by first | exact (Hid.out ‹Hid (can .f64 _ = can .f64 (widen y4))›).trans ((congrArg (can .f64) (widen_congr E4.out)).trans (Hid.out ‹Hid (can .f64 _ = can .f64 (widen y4'))›).symm))).mono ?_); rintro e w7 ⟨rfl, dq7, rfl⟩; skip)))
  go_ret
  first | exact ⟨rfl, F.below⟩ | exact ⟨rfl, below_drewN F.below _⟩
theorem invf_Voice {w : World} {S : Nat → Prop} {us : List Value} (z0 : Int) (z1 : Int) (z2 : Int) (b3 : Bool) (c4 : CD) (n5 : Nat) (x5 : Nat → CD) (z6 : Int) (z7 : Int) (c8 : CD) (c9 : CD) (c10 : CD) (c11 : CD) (c12 : CD) (z13 : Int) (c14 : CD) (c15 : CD) (c16 : CD) (c17 : CD) (c18 : CD) (c19 : CD) (n20 : Nat) (x20 : Nat → CD) (n21 : Nat) (x21 : Nat → CD) (n22 : Nat) (x22 : Nat → CD) (z23 : Int) (c24 : CD) (c25 : CD) (c26 : CD) (c27 : CD) (c28 : CD) (b29 : Bool) (c30 : CD) (c31 : CD) (c32 : CD) (n33 : Nat) (x33 : Nat → CD) (z34 : Int) (n35 : Nat) (x35 : Nat → CD) (z36 : Int) (z37 : Int) (c38 : CD) (c39 : CD) (c40 : CD) (c41 : CD) (c42 : CD) (c43 : CD) (c44 : CD) (q4 : c4.flk = some .f32) (q8 : c8.flk = some .f32) (q9 : c9.flk = some .f32) (q10 : c10.flk = some .f32) (q11 : c11.flk = some .f32) (q12 : c12.flk = some .f32) (q14 : c14.flk = some .f32) (q15 : c15.flk = some .f32) (q16 : c16.flk = some .f32) (q17 : c17.flk = some .f32) (q18 : c18.flk = some .f32) (q19 : c19.flk = some .f32) (q24 : c24.flk = some .f32) (q25 : c25.flk = some .f32) (q26 : c26.flk = some .f32) (q27 : c27.flk = some .f32) (q28 : c28.flk = some .f32) (q30 : c30.flk = some .f32) (q31 : c31.flk = some .f32) (q32 : c32.flk = some .f32) (q38 : c38.flk = some .f32) (q39 : c39.flk = some .f32) (q40 : c40.flk = some .f32) (q41 : c41.flk = some .f32) (q42 : c42.flk = some .f32) (q43 : c43.flk = some .f32) (q44 : c44.flk = some .f32) (h : LayL w S (([(.int .i64 z0), (.int .i64 z1), (.int .i64 z2), (.bool b3), (c4), (.sl 1 n5 x5), (.int .i64 z6), (.int .i64 z7), (c8), (c9), (c10), (c11), (c12), (.int .i64 z13), (c14), (c15), (c16), (c17), (c18), (c19), (.sl 2 n20 x20), (.sl 2 n21 x21), (.sl 1 n22 x22), (.int .i64 z23), (c24), (c25), (c26), (c27), (c28), (.bool b29), (c30), (c31), (c32), (.sl 1 n33 x33), (.int .i64 z34), (.sl 1 n35 x35), (.int .i64 z36), (.int .i64 z37), (c38), (c39), (c40), (c41), (c42), (c43), (c44)] : List CD).map CD.cp) us) : ∃ (g4 : Nat) (u5 : Value) (g8 : Nat) (g9 : Nat) (g10 : Nat) (g11 : Nat) (g12 : Nat) (g14 : Nat) (g15 : Nat) (g16 : Nat) (g17 : Nat) (g18 : Nat) (g19 : Nat) (u20 : Value) (u21 : Value) (u22 : Value) (g24 : Nat) (g25 : Nat) (g26 : Nat) (g27 : Nat) (g28 : Nat) (g30 : Nat) (g31 : Nat) (g32 : Nat) (u33 : Value) (u35 : Value) (g38 : Nat) (g39 : Nat) (g40 : Nat) (g41 : Nat) (g42 : Nat) (g43 : Nat) (g44 : Nat), u5.oneCell' = true ∧ u20.oneCell' = true ∧ u21.oneCell' = true ∧ u22.oneCell' = true ∧ u33.oneCell' = true ∧ u35.oneCell' = true ∧ us = [.int .i64 z0, .int .i64 z1, .int .i64 z2, .bool b3, .float .f32 g4, u5, .int .i64 z6, .int .i64 z7, .float .f32 g8, .float .f32 g9, .float .f32 g10, .float .f32 g11, .float .f32 g12, .int .i64 z13, .float .f32 g14, .float .f32 g15, .float .f32 g16, .float .f32 g17, .float .f32 g18, .float .f32 g19, u20, u21, u22, .int .i64 z23, .float .f32 g24, .float .f32 g25, .float .f32 g26, .float .f32 g27, .float .f32 g28, .bool b29, .float .f32 g30, .float .f32 g31, .float .f32 g32, u33, .int .i64 z34, u35, .int .i64 z36, .int .i64 z37, .float .f32 g38, .float .f32 g39, .float .f32 g40, .float .f32 g41, .float .f32 g42, .float .f32 g43, .float .f32 g44] ∧ LayL w S (([(.int .i64 z0), (.int .i64 z1), (.int .i64 z2), (.bool b3), (c4), (.sl 1 n5 x5), (.int .i64 z6), (.int .i64 z7), (c8), (c9), (c10), (c11), (c12), (.int .i64 z13), (c14), (c15), (c16), (c17), (c18), (c19), (.sl 2 n20 x20), (.sl 2 n21 x21), (.sl 1 n22 x22), (.int .i64 z23), (c24), (c25), (c26), (c27), (c28), (.bool b29), (c30), (c31), (c32), (.sl 1 n33 x33), (.int .i64 z34), (.sl 1 n35 x35), (.int .i64 z36), (.int .i64 z37), (c38), (c39), (c40), (c41), (c42), (c43), (c44)] : List CD).map CD.cp) [.int .i64 z0, .int .i64 z1, .int .i64 z2, .bool b3, .float .f32 g4, u5, .int .i64 z6, .int .i64 z7, .float .f32 g8, .float .f32 g9, .float .f32 g10, .float .f32 g11, .float .f32 g12, .int .i64 z13, .float .f32 g14, .float .f32 g15, .float .f32 g16, .float .f32 g17, .float .f32 g18, .float .f32 g19, u20, u21, u22, .int .i64 z23, .float .f32 g24, .float .f32 g25, .float .f32 g26, .float .f32 g27, .float .f32 g28, .bool b29, .float .f32 g30, .float .f32 g31, .float .f32 g32, u33, .int .i64 z34, u35, .int .i64 z36, .int .i64 z37, .float .f32 g38, .float .f32 g39, .float .f32 g40, .float .f32 g41, .float .f32 g42, .float .f32 g43, .float .f32 g44] := by
  have h0 := h
  simp only [List.map_cons, List.map_nil] at h
  obtain ⟨u0, us0, _, _, rfl, l0, hh0, _, _, _⟩ := h.inv
  obtain ⟨rfl, _⟩ := l0
  obtain ⟨u1, us1, _, _, rfl, l1, hh1, _, _, _⟩ := hh0.inv
  obtain ⟨rfl, _⟩ := l1
  obtain ⟨u2, us2, _, _, rfl, l2, hh2, _, _, _⟩ := hh1.inv
  obtain ⟨rfl, _⟩ := l2
  obtain ⟨u3, us3, _, _, rfl, l3, hh3, _, _, _⟩ := hh2.inv
  obtain rfl := l3
  obtain ⟨u4, us4, _, _, rfl, l4, hh4, _, _, _⟩ := hh3.inv
  obtain ⟨g4, rfl⟩ := lay_fl q4 l4
  obtain ⟨u5, us5, _, _, rfl, l5, hh5, _, _, _⟩ := hh4.inv
  obtain ⟨u6, us6, _, _, rfl, l6, hh6, _, _, _⟩ := hh5.inv
  obtain ⟨rfl, _⟩ := l6
  obtain ⟨u7, us7, _, _, rfl, l7, hh7, _, _, _⟩ := hh6.inv
  obtain ⟨rfl, _⟩ := l7
  obtain ⟨u8, us8, _, _, rfl, l8, hh8, _, _, _⟩ := hh7.inv
  obtain ⟨g8, rfl⟩ := lay_fl q8 l8
  obtain ⟨u9, us9, _, _, rfl, l9, hh9, _, _, _⟩ := hh8.inv
  obtain ⟨g9, rfl⟩ := lay_fl q9 l9
  obtain ⟨u10, us10, _, _, rfl, l10, hh10, _, _, _⟩ := hh9.inv
  obtain ⟨g10, rfl⟩ := lay_fl q10 l10
  obtain ⟨u11, us11, _, _, rfl, l11, hh11, _, _, _⟩ := hh10.inv
  obtain ⟨g11, rfl⟩ := lay_fl q11 l11
  obtain ⟨u12, us12, _, _, rfl, l12, hh12, _, _, _⟩ := hh11.inv
  obtain ⟨g12, rfl⟩ := lay_fl q12 l12
  obtain ⟨u13, us13, _, _, rfl, l13, hh13, _, _, _⟩ := hh12.inv
  obtain ⟨rfl, _⟩ := l13
  obtain ⟨u14, us14, _, _, rfl, l14, hh14, _, _, _⟩ := hh13.inv
  obtain ⟨g14, rfl⟩ := lay_fl q14 l14
  obtain ⟨u15, us15, _, _, rfl, l15, hh15, _, _, _⟩ := hh14.inv
  obtain ⟨g15, rfl⟩ := lay_fl q15 l15
  obtain ⟨u16, us16, _, _, rfl, l16, hh16, _, _, _⟩ := hh15.inv
  obtain ⟨g16, rfl⟩ := lay_fl q16 l16
  obtain ⟨u17, us17, _, _, rfl, l17, hh17, _, _, _⟩ := hh16.inv
  obtain ⟨g17, rfl⟩ := lay_fl q17 l17
  obtain ⟨u18, us18, _, _, rfl, l18, hh18, _, _, _⟩ := hh17.inv
  obtain ⟨g18, rfl⟩ := lay_fl q18 l18
  obtain ⟨u19, us19, _, _, rfl, l19, hh19, _, _, _⟩ := hh18.inv
  obtain ⟨g19, rfl⟩ := lay_fl q19 l19
  obtain ⟨u20, us20, _, _, rfl, l20, hh20, _, _, _⟩ := hh19.inv
  obtain ⟨u21, us21, _, _, rfl, l21, hh21, _, _, _⟩ := hh20.inv
  obtain ⟨u22, us22, _, _, rfl, l22, hh22, _, _, _⟩ := hh21.inv
  obtain ⟨u23, us23, _, _, rfl, l23, hh23, _, _, _⟩ := hh22.inv
  obtain ⟨rfl, _⟩ := l23
  obtain ⟨u24, us24, _, _, rfl, l24, hh24, _, _, _⟩ := hh23.inv
  obtain ⟨g24, rfl⟩ := lay_fl q24 l24
  obtain ⟨u25, us25, _, _, rfl, l25, hh25, _, _, _⟩ := hh24.inv
  obtain ⟨g25, rfl⟩ := lay_fl q25 l25
  obtain ⟨u26, us26, _, _, rfl, l26, hh26, _, _, _⟩ := hh25.inv
  obtain ⟨g26, rfl⟩ := lay_fl q26 l26
  obtain ⟨u27, us27, _, _, rfl, l27, hh27, _, _, _⟩ := hh26.inv
  obtain ⟨g27, rfl⟩ := lay_fl q27 l27
  obtain ⟨u28, us28, _, _, rfl, l28, hh28, _, _, _⟩ := hh27.inv
  obtain ⟨g28, rfl⟩ := lay_fl q28 l28
  obtain ⟨u29, us29, _, _, rfl, l29, hh29, _, _, _⟩ := hh28.inv
  obtain rfl := l29
  obtain ⟨u30, us30, _, _, rfl, l30, hh30, _, _, _⟩ := hh29.inv
  obtain ⟨g30, rfl⟩ := lay_fl q30 l30
  obtain ⟨u31, us31, _, _, rfl, l31, hh31, _, _, _⟩ := hh30.inv
  obtain ⟨g31, rfl⟩ := lay_fl q31 l31
  obtain ⟨u32, us32, _, _, rfl, l32, hh32, _, _, _⟩ := hh31.inv
  obtain ⟨g32, rfl⟩ := lay_fl q32 l32
  obtain ⟨u33, us33, _, _, rfl, l33, hh33, _, _, _⟩ := hh32.inv
  obtain ⟨u34, us34, _, _, rfl, l34, hh34, _, _, _⟩ := hh33.inv
  obtain ⟨rfl, _⟩ := l34
  obtain ⟨u35, us35, _, _, rfl, l35, hh35, _, _, _⟩ := hh34.inv
  obtain ⟨u36, us36, _, _, rfl, l36, hh36, _, _, _⟩ := hh35.inv
  obtain ⟨rfl, _⟩ := l36
  obtain ⟨u37, us37, _, _, rfl, l37, hh37, _, _, _⟩ := hh36.inv
  obtain ⟨rfl, _⟩ := l37
  obtain ⟨u38, us38, _, _, rfl, l38, hh38, _, _, _⟩ := hh37.inv
  obtain ⟨g38, rfl⟩ := lay_fl q38 l38
  obtain ⟨u39, us39, _, _, rfl, l39, hh39, _, _, _⟩ := hh38.inv
  obtain ⟨g39, rfl⟩ := lay_fl q39 l39
  obtain ⟨u40, us40, _, _, rfl, l40, hh40, _, _, _⟩ := hh39.inv
  obtain ⟨g40, rfl⟩ := lay_fl q40 l40
  obtain ⟨u41, us41, _, _, rfl, l41, hh41, _, _, _⟩ := hh40.inv
  obtain ⟨g41, rfl⟩ := lay_fl q41 l41
  obtain ⟨u42, us42, _, _, rfl, l42, hh42, _, _, _⟩ := hh41.inv
  obtain ⟨g42, rfl⟩ := lay_fl q42 l42
  obtain ⟨u43, us43, _, _, rfl, l43, hh43, _, _, _⟩ := hh42.inv
  obtain ⟨g43, rfl⟩ := lay_fl q43 l43
  obtain ⟨u44, us44, _, _, rfl, l44, hh44, _, _, _⟩ := hh43.inv
  obtain ⟨g44, rfl⟩ := lay_fl q44 l44
  obtain rfl := hh44.inv0
  exact ⟨g4, u5, g8, g9, g10, g11, g12, g14, g15, g16, g17, g18, g19, u20, u21, u22, g24, g25, g26, g27, g28, g30, g31, g32, u33, u35, g38, g39, g40, g41, g42, g43, g44, l5.one, l20.one, l21.one, l22.one, l33.one, l35.one, rfl, h0⟩
end Go.Proofs.Ytiohkaoapniajab

/- A free voice, and the marks of what is empty. -/
namespace Go.Fk
open Go Go.RowKit
theorem zero_leaf {w : World} {B : Nat} : (CD.flt .f32 0).Rd w B (.float .f32 0) := by
  exact ⟨rfl, by first | decide | (unfold fits; decide) | simp [fits, Lit.wf]⟩
def freeV : List Value := [.int .i64 (-1), .int .i64 0, .int .i64 0, .bool false, .float .f32 0, .slice none 0 0, .int .i64 0, .int .i64 0, .float .f32 0, .float .f32 0, .float .f32 0, .float .f32 0, .float .f32 0, .int .i64 0, .float .f32 0, .float .f32 0, .float .f32 0, .float .f32 0, .float .f32 0, .float .f32 0, .slice none 0 0, .slice none 0 0, .slice none 0 0, .int .i64 0, .float .f32 0, .float .f32 0, .float .f32 0, .float .f32 0, .float .f32 0, .bool false, .float .f32 0, .float .f32 0, .float .f32 0, .slice none 0 0, .int .i64 0, .slice none 0 0, .int .i64 0, .int .i64 0, .float .f32 0, .float .f32 0, .float .f32 0, .float .f32 0, .float .f32 0, .float .f32 0, .float .f32 0]
def freeC : List CD := [.int .i64 (-1), .int .i64 0, .int .i64 0, .bool false, .flt .f32 0, .sl 1 0 (fun _ => .bool false), .int .i64 0, .int .i64 0, .flt .f32 0, .flt .f32 0, .flt .f32 0, .flt .f32 0, .flt .f32 0, .int .i64 0, .flt .f32 0, .flt .f32 0, .flt .f32 0, .flt .f32 0, .flt .f32 0, .flt .f32 0, .sl 2 0 (fun _ => .bool false), .sl 2 0 (fun _ => .bool false), .sl 1 0 (fun _ => .bool false), .int .i64 0, .flt .f32 0, .flt .f32 0, .flt .f32 0, .flt .f32 0, .flt .f32 0, .bool false, .flt .f32 0, .flt .f32 0, .flt .f32 0, .sl 1 0 (fun _ => .bool false), .int .i64 0, .sl 1 0 (fun _ => .bool false), .int .i64 0, .int .i64 0, .flt .f32 0, .flt .f32 0, .flt .f32 0, .flt .f32 0, .flt .f32 0, .flt .f32 0, .flt .f32 0]
set_option maxRecDepth 100000 in
theorem free_rd (w : World) (B : Nat) : RdL w B freeC freeV := (RdL.cons ⟨rfl, by decide⟩ (RdL.cons ⟨rfl, by decide⟩ (RdL.cons ⟨rfl, by decide⟩ (RdL.cons rfl (RdL.cons zero_leaf (RdL.cons (.inl ⟨rfl, rfl⟩) (RdL.cons ⟨rfl, by decide⟩ (RdL.cons ⟨rfl, by decide⟩ (RdL.cons zero_leaf (RdL.cons zero_leaf (RdL.cons zero_leaf (RdL.cons zero_leaf (RdL.cons zero_leaf (RdL.cons ⟨rfl, by decide⟩ (RdL.cons zero_leaf (RdL.cons zero_leaf (RdL.cons zero_leaf (RdL.cons zero_leaf (RdL.cons zero_leaf (RdL.cons zero_leaf (RdL.cons (.inl ⟨rfl, rfl⟩) (RdL.cons (.inl ⟨rfl, rfl⟩) (RdL.cons (.inl ⟨rfl, rfl⟩) (RdL.cons ⟨rfl, by decide⟩ (RdL.cons zero_leaf (RdL.cons zero_leaf (RdL.cons zero_leaf (RdL.cons zero_leaf (RdL.cons zero_leaf (RdL.cons rfl (RdL.cons zero_leaf (RdL.cons zero_leaf (RdL.cons zero_leaf (RdL.cons (.inl ⟨rfl, rfl⟩) (RdL.cons ⟨rfl, by decide⟩ (RdL.cons (.inl ⟨rfl, rfl⟩) (RdL.cons ⟨rfl, by decide⟩ (RdL.cons ⟨rfl, by decide⟩ (RdL.cons zero_leaf (RdL.cons zero_leaf (RdL.cons zero_leaf (RdL.cons zero_leaf (RdL.cons zero_leaf (RdL.cons zero_leaf (RdL.cons zero_leaf (RdL.nil _ _))))))))))))))))))))))))))))))))))))))))))))))
end Go.Fk
namespace Go.Proofs.Ytiohkaoapniajab
open Go.RowKit Go.Fk
set_option maxRecDepth 100000 in
theorem free_ok : ShOkL shVoice freeC := (ShOkL.cons ⟨_, rfl⟩ (ShOkL.cons ⟨_, rfl⟩ (ShOkL.cons ⟨_, rfl⟩ (ShOkL.cons ⟨_, rfl⟩ (ShOkL.cons rfl (ShOkL.cons ⟨_, _, rfl, fun i hi => absurd hi (Nat.not_lt_zero i)⟩ (ShOkL.cons ⟨_, rfl⟩ (ShOkL.cons ⟨_, rfl⟩ (ShOkL.cons rfl (ShOkL.cons rfl (ShOkL.cons rfl (ShOkL.cons rfl (ShOkL.cons rfl (ShOkL.cons ⟨_, rfl⟩ (ShOkL.cons rfl (ShOkL.cons rfl (ShOkL.cons rfl (ShOkL.cons rfl (ShOkL.cons rfl (ShOkL.cons rfl (ShOkL.cons ⟨_, _, rfl, fun i hi => absurd hi (Nat.not_lt_zero i)⟩ (ShOkL.cons ⟨_, _, rfl, fun i hi => absurd hi (Nat.not_lt_zero i)⟩ (ShOkL.cons ⟨_, _, rfl, fun i hi => absurd hi (Nat.not_lt_zero i)⟩ (ShOkL.cons ⟨_, rfl⟩ (ShOkL.cons rfl (ShOkL.cons rfl (ShOkL.cons rfl (ShOkL.cons rfl (ShOkL.cons rfl (ShOkL.cons ⟨_, rfl⟩ (ShOkL.cons rfl (ShOkL.cons rfl (ShOkL.cons rfl (ShOkL.cons ⟨_, _, rfl, fun i hi => absurd hi (Nat.not_lt_zero i)⟩ (ShOkL.cons ⟨_, rfl⟩ (ShOkL.cons ⟨_, _, rfl, fun i hi => absurd hi (Nat.not_lt_zero i)⟩ (ShOkL.cons ⟨_, rfl⟩ (ShOkL.cons ⟨_, rfl⟩ (ShOkL.cons rfl (ShOkL.cons rfl (ShOkL.cons rfl (ShOkL.cons rfl (ShOkL.cons rfl (ShOkL.cons rfl (ShOkL.cons rfl ShOkL.nil)))))))))))))))))))))))))))))))))))))))))))))
set_option maxRecDepth 100000 in
set_option maxHeartbeats 4000000 in
theorem nil_markFloat32S (k : Int) (w : World) : Calls Try.prog 25 #[.slice none 0 0, .int .i64 k] w fun e w' => e = .returned (.int .i64 k) ∧ w' = w := by
  go_enter Try.func25, Try.ntmps25
  go_wp2
  go_loop [1, 5] (fun k' i => k' = .int .i64 k ∧ i = .int .i64 0) (fun _ _ => 0)
  case atStart => exact ⟨rfl, rfl⟩
  case round =>
    obtain ⟨rfl, rfl⟩ := hrel
    go_wp2
    go_ret
    exact ⟨rfl, rfl⟩
set_option maxRecDepth 100000 in
set_option maxHeartbeats 4000000 in
theorem nil_markRingS (k : Int) (w : World) : Calls Try.prog 24 #[.slice none 0 0, .int .i64 k] w fun e w' => e = .returned (.int .i64 k) ∧ w' = w := by
  go_enter Try.func24, Try.ntmps24
  go_wp2
  go_loop [1, 5] (fun k' i => k' = .int .i64 k ∧ i = .int .i64 0) (fun _ _ => 0)
  case atStart => exact ⟨rfl, rfl⟩
  case round =>
    obtain ⟨rfl, rfl⟩ := hrel
    go_wp2
    go_ret
    exact ⟨rfl, rfl⟩
set_option maxRecDepth 100000 in
set_option maxHeartbeats 4000000 in
theorem nil_heldFloat32S (k : Int) (w : World) : Calls Try.prog 28 #[.slice none 0 0, .int .i64 k] w fun e w' => e = .returned (.int .i64 k) ∧ w' = w := by
  go_enter Try.func28, Try.ntmps28
  go_wp2
  go_loop [1, 5] (fun k' i => k' = .int .i64 k ∧ i = .int .i64 0) (fun _ _ => 0)
  case atStart => exact ⟨rfl, rfl⟩
  case round =>
    obtain ⟨rfl, rfl⟩ := hrel
    go_wp2
    go_ret
    exact ⟨rfl, rfl⟩
set_option maxRecDepth 100000 in
set_option maxHeartbeats 4000000 in
theorem nil_heldRingS (k : Int) (w : World) : Calls Try.prog 27 #[.slice none 0 0, .int .i64 k] w fun e w' => e = .returned (.int .i64 k) ∧ w' = w := by
  go_enter Try.func27, Try.ntmps27
  go_wp2
  go_loop [1, 5] (fun k' i => k' = .int .i64 k ∧ i = .int .i64 0) (fun _ _ => 0)
  case atStart => exact ⟨rfl, rfl⟩
  case round =>
    obtain ⟨rfl, rfl⟩ := hrel
    go_wp2
    go_ret
    exact ⟨rfl, rfl⟩
set_option maxRecDepth 100000 in
set_option maxHeartbeats 4000000 in
theorem nil_markVoice (k : Int) (hk : 0 ≤ k) (w : World) : Calls Try.prog 7 #[.agg freeV.toArray, .int .i64 k] w fun e w' => e = .returned (.int .i64 k) ∧ le w w' := by
  have h0 : ¬ k < 0 := by omega
  unfold freeV
  go_enter Try.func7, Try.ntmps7
  go_wp2_with (first | (go_at_call 25; ((with_reducible refine (nil_markFloat32S _ _).mono ?_); rintro e w1 ⟨rfl, rfl⟩; skip)) | (go_at_call 24; ((with_reducible refine (nil_markRingS _ _).mono ?_); rintro e w1 ⟨rfl, rfl⟩; skip)) | (go_at_call 28; ((with_reducible refine (nil_heldFloat32S _ _).mono ?_); rintro e w1 ⟨rfl, rfl⟩; skip)) | (go_at_call 27; ((with_reducible refine (nil_heldRingS _ _).mono ?_); rintro e w1 ⟨rfl, rfl⟩; skip)) | go_in)
  go_ret
  first | exact ⟨rfl, le_refl _⟩ | exact ⟨rfl, by repeat' (first | exact Nat.le_refl _ | exact le_refl _ | refine Below.alloc ?_ ?_ _ | (simp only [World.size_alloc] <;> omega))⟩
set_option maxRecDepth 100000 in
set_option maxHeartbeats 4000000 in
theorem nil_heldVoice (k : Int) (hk : 0 ≤ k) (w : World) : Calls Try.prog 8 #[.agg freeV.toArray, .int .i64 k] w fun e w' => e = .returned (.int .i64 k) ∧ le w w' := by
  have h0 : ¬ k < 0 := by omega
  unfold freeV
  go_enter Try.func8, Try.ntmps8
  go_wp2_with (first | (go_at_call 25; ((with_reducible refine (nil_markFloat32S _ _).mono ?_); rintro e w1 ⟨rfl, rfl⟩; skip)) | (go_at_call 24; ((with_reducible refine (nil_markRingS _ _).mono ?_); rintro e w1 ⟨rfl, rfl⟩; skip)) | (go_at_call 28; ((with_reducible refine (nil_heldFloat32S _ _).mono ?_); rintro e w1 ⟨rfl, rfl⟩; skip)) | (go_at_call 27; ((with_reducible refine (nil_heldRingS _ _).mono ?_); rintro e w1 ⟨rfl, rfl⟩; skip)) | go_in)
  go_ret
  first | exact ⟨rfl, le_refl _⟩ | exact ⟨rfl, by repeat' (first | exact Nat.le_refl _ | exact le_refl _ | refine Below.alloc ?_ ?_ _ | (simp only [World.size_alloc] <;> omega))⟩
set_option maxRecDepth 100000 in
set_option maxHeartbeats 4000000 in
theorem s_FreeVoice (w : World) : Calls Try.prog 4 #[] w fun e w' => e = .returned (.agg freeV.toArray) ∧ le w w' := by
  have F := (Frg.nil w).box 38 #[.int .i64 0, .int .i64 0, .int .i64 0, .bool false, .float .f32 0, .slice none 0 0, .int .i64 0, .int .i64 0, .float .f32 0, .float .f32 0, .float .f32 0, .float .f32 0, .float .f32 0, .int .i64 0, .float .f32 0, .float .f32 0, .float .f32 0, .float .f32 0, .float .f32 0, .float .f32 0, .slice none 0 0, .slice none 0 0, .slice none 0 0, .int .i64 0, .float .f32 0, .float .f32 0, .float .f32 0, .float .f32 0, .float .f32 0, .bool false, .float .f32 0, .float .f32 0, .float .f32 0, .slice none 0 0, .int .i64 0, .slice none 0 0, .int .i64 0, .int .i64 0, .float .f32 0, .float .f32 0, .float .f32 0, .float .f32 0, .float .f32 0, .float .f32 0, .float .f32 0]
  go_enter Try.func4, Try.ntmps4
  go_wp2_with (first | ((with_reducible refine listN F ?_); clear F; intro wN F) | (with_reducible refine stop_store rfl ?_))
  show wpList _ _ _ _ _ _
  refine wpList_storeD rfl rfl rfl (cells := #[.int .i64 (-1), .int .i64 0, .int .i64 0, .bool false, .float .f32 0, .slice none 0 0, .int .i64 0, .int .i64 0, .float .f32 0, .float .f32 0, .float .f32 0, .float .f32 0, .float .f32 0, .int .i64 0, .float .f32 0, .float .f32 0, .float .f32 0, .float .f32 0, .float .f32 0, .float .f32 0, .slice none 0 0, .slice none 0 0, .slice none 0 0, .int .i64 0, .float .f32 0, .float .f32 0, .float .f32 0, .float .f32 0, .float .f32 0, .bool false, .float .f32 0, .float .f32 0, .float .f32 0, .slice none 0 0, .int .i64 0, .slice none 0 0, .int .i64 0, .int .i64 0, .float .f32 0, .float .f32 0, .float .f32 0, .float .f32 0, .float .f32 0, .float .f32 0, .float .f32 0]) rfl (F.row m0) uinfoVoiceI rfl (by simp [Value.oneCell']) (fun w6 K => ?_)
  have R := hid K.row
  replace F := F.wr0 K
  clear K
  go_wp2
  exact bodyPost_ret (results_row1 rfl _ _ _ _ _ rfl R.out Try.underlying38 rfl uinfoVoiceI) rfl ⟨rfl, F.below⟩
set_option maxRecDepth 100000 in
set_option maxHeartbeats 4000000 in
theorem i_FreeVoice (w : World) : Calls Try.prog 5 #[] w fun e w' => e = .returned (.agg freeV.toArray) ∧ le w w' := by
  have F := (Frg.nil w).box 38 #[.int .i64 0, .int .i64 0, .int .i64 0, .bool false, .float .f32 0, .slice none 0 0, .int .i64 0, .int .i64 0, .float .f32 0, .float .f32 0, .float .f32 0, .float .f32 0, .float .f32 0, .int .i64 0, .float .f32 0, .float .f32 0, .float .f32 0, .float .f32 0, .float .f32 0, .float .f32 0, .slice none 0 0, .slice none 0 0, .slice none 0 0, .int .i64 0, .float .f32 0, .float .f32 0, .float .f32 0, .float .f32 0, .float .f32 0, .bool false, .float .f32 0, .float .f32 0, .float .f32 0, .slice none 0 0, .int .i64 0, .slice none 0 0, .int .i64 0, .int .i64 0, .float .f32 0, .float .f32 0, .float .f32 0, .float .f32 0, .float .f32 0, .float .f32 0, .float .f32 0]
  go_enter Try.func5, Try.ntmps5
  go_wp2_with (first | ((with_reducible refine listN F ?_); clear F; intro wN F) | (with_reducible refine stop_store rfl ?_))
  show wpList _ _ _ _ _ _
  refine wpList_storeD rfl rfl rfl (cells := #[.int .i64 (-1), .int .i64 0, .int .i64 0, .bool false, .float .f32 0, .slice none 0 0, .int .i64 0, .int .i64 0, .float .f32 0, .float .f32 0, .float .f32 0, .float .f32 0, .float .f32 0, .int .i64 0, .float .f32 0, .float .f32 0, .float .f32 0, .float .f32 0, .float .f32 0, .float .f32 0, .slice none 0 0, .slice none 0 0, .slice none 0 0, .int .i64 0, .float .f32 0, .float .f32 0, .float .f32 0, .float .f32 0, .float .f32 0, .bool false, .float .f32 0, .float .f32 0, .float .f32 0, .slice none 0 0, .int .i64 0, .slice none 0 0, .int .i64 0, .int .i64 0, .float .f32 0, .float .f32 0, .float .f32 0, .float .f32 0, .float .f32 0, .float .f32 0, .float .f32 0]) rfl (F.row m0) uinfoVoiceI rfl (by simp [Value.oneCell']) (fun w6 K => ?_)
  have R := hid K.row
  replace F := F.wr0 K
  clear K
  go_wp2
  exact bodyPost_ret (results_row1 rfl _ _ _ _ _ rfl R.out Try.underlying38 rfl uinfoVoiceI) rfl ⟨rfl, F.below⟩
end Go.Proofs.Ytiohkaoapniajab

/- The walk of 'FnExactFreeVoice'. -/
namespace Go.Proofs.Ytiohkaoapniajab.fnExactFreeVoice
open Go.RowKit Go.Fk
set_option maxRecDepth 100000 in
set_option maxHeartbeats 4000000 in
theorem walk (w : World) :
    Calls Try.prog 3 #[] w fun e w' => e = .returned (.bool true) ∧ Below w.heap.size w w' := by
  have F := Frg.nil w
  go_enter Try.func3, Try.ntmps3
  go_wp2_with (first | ((with_reducible refine listN F ?_); clear F; intro wN F) | ((with_reducible refine at_load rfl ?_); (with_reducible refine wpList_loadG F rfl rfl rfl (by first | exact m0 | exact m1 | exact m2 | exact m3 | exact m4 | exact m5 | exact m6 | exact m7 | exact m8) Try.underlying38 rfl uinfoVoiceI rfl ?_)) | ((with_reducible refine at_store rfl ?_); (refine wpList_storeG F rfl rfl rfl rfl rfl uinfoVoiceI rfl (by (simp only [List.all_toArray', List.all_cons, List.all_nil, Bool.and_true, Bool.true_and]) <;> rfl) ?_; clear F; intro W F zW; clear zW)) | (go_at_call 4; ((with_reducible refine (s_FreeVoice _).mono ?_); rintro e w1 ⟨rfl, hl⟩; replace F := F.le hl; clear hl)) | (go_at_call 5; ((with_reducible refine (i_FreeVoice _).mono ?_); rintro e w1 ⟨rfl, hl⟩; replace F := F.le hl; clear hl)) | (go_at_call 6; ((with_reducible refine (eqU_Voice 0 0 freeC freeV freeV _ (free_rd _ _) (free_rd _ _) free_ok (by decide)).mono ?_); rintro e w1 ⟨rfl, hl⟩; replace F := F.le hl; clear hl)) | (go_at_call 7; ((with_reducible refine (nil_markVoice 1 (by decide) _).mono ?_); rintro e w1 ⟨rfl, hl⟩; replace F := F.le hl; clear hl)) | (go_at_call 8; ((with_reducible refine (nil_heldVoice 1 (by decide) _).mono ?_); rintro e w1 ⟨rfl, hl⟩; replace F := F.le hl; clear hl)))
  go_ret
  first | exact ⟨rfl, F.below⟩ | exact ⟨rfl, below_drewN F.below _⟩
end Go.Proofs.Ytiohkaoapniajab.fnExactFreeVoice
