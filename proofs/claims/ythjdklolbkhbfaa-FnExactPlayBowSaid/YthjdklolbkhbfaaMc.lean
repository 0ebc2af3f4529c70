/- Texts of the walk, laid in one file. -/
import Derived.Test.YthjdklolbkhbfaaRows
import Derived.Handy
import Derived.Below
import Derived.Test.YthjdklolbkhbfaaMb
set_option linter.unusedVariables false
set_option linter.unusedSimpArgs false
/- Filters: 'laws.toFilter', 'laws.eqFilter'. -/
namespace Go.Fk
open Go Go.RowKit
/-- A row of three, of two. -/
def tri (a b c : Nat) : Nat → Nat | 0 => a | 1 => b | _ => c
def duo (a b : Nat) : Nat → Nat | 0 => a | _ => b
theorem tri_tab (a b c : Nat) : ftab .f32 (tri a b c) 3 = #[.float .f32 a, .float .f32 b, .float .f32 c] := rfl
theorem duo_tab (a b : Nat) : ftab .f32 (duo a b) 2 = #[.float .f32 a, .float .f32 b] := rfl
theorem fil_tab (k : Int) (a b c x y : Nat) : ((#[.int .i64 k, .float .f32 a, .float .f32 b, .float .f32 c, .float .f32 x, .float .f32 y] : Array Value) : Array Value).size = 6 := rfl
theorem tri_can {a b c a' b' c' : Nat} (h1 : can .f32 a = can .f32 a') (h2 : can .f32 b = can .f32 b') (h3 : can .f32 c = can .f32 c') : ∀ j, j < 3 → can .f32 (tri a b c j) = can .f32 (tri a' b' c' j) := by
  intro j hj
  match j, hj with
  | 0, _ => exact h1
  | 1, _ => exact h2
  | 2, _ => exact h3
theorem duo_can {a b a' b' : Nat} (h1 : can .f32 a = can .f32 a') (h2 : can .f32 b = can .f32 b') : ∀ j, j < 2 → can .f32 (duo a b j) = can .f32 (duo a' b' j) := by
  intro j hj
  match j, hj with
  | 0, _ => exact h1
  | 1, _ => exact h2
end Go.Fk
namespace Go.Proofs.Ythjdklolbkhbfaa
open Go.RowKit Go.Fk
theorem infoFil : (Try.prog.info? 36).map (·.size) = some 6 := by kernel_rfl
theorem info3 : (Try.prog.info? 26).map (·.size) = some 3 := by kernel_rfl
theorem info2 : (Try.prog.info? 27).map (·.size) = some 2 := by kernel_rfl
theorem infoFilL : (Try.prog.info? 29).map (·.size) = some 6 := by kernel_rfl
theorem eqFil_yes (k : Int) (a b c x y a' b' c' x' y' : Nat) (w : World) (h1 : can .f32 a = can .f32 a') (h2 : can .f32 b = can .f32 b') (h3 : can .f32 c = can .f32 c') (h4 : can .f32 x = can .f32 x') (h5 : can .f32 y = can .f32 y') :
    Calls Try.prog 34 #[(.agg #[.int .i64 k, .float .f32 a, .float .f32 b, .float .f32 c, .float .f32 x, .float .f32 y]), (.agg #[.int .i64 k, .float .f32 a', .float .f32 b', .float .f32 c', .float .f32 x', .float .f32 y'])] w fun e w' => e = .returned (.bool true) ∧ Below w.heap.size w w' := by
  have H3 := hid (tri_can h1 h2 h3)
  have H2 := hid (duo_can h4 h5)
  clear h1 h2 h3 h4 h5
  go_enter Try.func34, Try.ntmps34
  go_upto_region 1 with (fail)
  obtain ⟨W, hW⟩ : ∃ W, W = (w.alloc (.cells (#[.int .i64 k, .float .f32 a, .float .f32 b, .float .f32 c, .float .f32 x, .float .f32 y] : Array Value) 36)).alloc (.cells (#[.int .i64 k, .float .f32 a', .float .f32 b', .float .f32 c', .float .f32 x', .float .f32 y'] : Array Value) 36) := ⟨_, rfl⟩
  rw [← hW]
  have R1 : Row W w.heap.size 36 (#[.int .i64 k, .float .f32 a, .float .f32 b, .float .f32 c, .float .f32 x, .float .f32 y] : Array Value) := by rw [hW]; exact (Row.new _ _ _).alloc _
  have R2 : Row W (w.heap.size + 1) 36 (#[.int .i64 k, .float .f32 a', .float .f32 b', .float .f32 c', .float .f32 x', .float .f32 y'] : Array Value) := by rw [hW]; exact Row.new' _ _ _ (by simp)
  have hb : Below w.heap.size w W := by rw [hW]; repeat' (first | (with_reducible exact Below.refl _ _) | (with_reducible assumption) | (with_reducible refine below_drewN ?_ _) | (with_reducible refine Below.alloc ?_ ?_ _) | (with_reducible refine Below.drew ?_) | (with_reducible refine Below.setCell ?_ ?_ _) | go_size)
  have c1 := R1.cell? 0
  have c2 := R2.cell? 0
  clear hW
  go_wp2_with (first | (with_reducible refine wpList_load3 rfl rfl rfl (by with_reducible assumption) Try.underlying26 rfl info3 ?_) | (with_reducible refine wpList_load2 rfl rfl rfl (by with_reducible assumption) Try.underlying27 rfl info2 ?_) | (go_at_call 58; refine (eqA3_yes (tri a b c) (tri a' b' c') _ H3.out).mono ?_; rintro e w1 ⟨rfl, hb1⟩; replace R1 := R1.below hb1 (by have := R1.lt; omega); replace R2 := R2.below hb1 (by have := R2.lt; omega)) | (go_at_call 59; refine (eqA2_yes (duo x y) (duo x' y') _ H2.out).mono ?_; rintro e w2 ⟨rfl, hb2⟩))
  go_ret
  exact ⟨rfl, le_trans (le_trans hb hb1) hb2⟩
theorem toA3_lit (a b c : Nat) (w : World) : Calls Try.prog 48 #[.agg #[.float .f32 a, .float .f32 b, .float .f32 c]] w fun e w' => e = .returned (.agg #[.float .f32 a, .float .f32 b, .float .f32 c]) ∧ Below w.heap.size w w' := by
  have h := toA3_any (tri a b c) w
  rwa [tri_tab] at h
theorem toA2_lit (a b : Nat) (w : World) : Calls Try.prog 49 #[.agg #[.float .f32 a, .float .f32 b]] w fun e w' => e = .returned (.agg #[.float .f32 a, .float .f32 b]) ∧ Below w.heap.size w w' := by
  have h := toA2_any (duo a b) w
  rwa [duo_tab] at h
set_option maxRecDepth 100000 in
theorem toFil_any (k : Int) (a b c x y : Nat) (w : World) : Calls Try.prog 28 #[(.agg #[.int .i64 k, .float .f32 a, .float .f32 b, .float .f32 c, .float .f32 x, .float .f32 y])] w fun e w' => e = .returned (.agg #[.int .i64 k, .float .f32 a, .float .f32 b, .float .f32 c, .float .f32 x, .float .f32 y]) ∧ Below w.heap.size w w' := by
  go_enter Try.func28, Try.ntmps28
  go_upto_region 2 with (fail)
  obtain ⟨W, hW⟩ : ∃ W, W = ((w.alloc (.cells (#[.int .i64 k, .float .f32 a, .float .f32 b, .float .f32 c, .float .f32 x, .float .f32 y] : Array Value) 29)).alloc (.cells (#[.int .i64 0, .float .f32 0, .float .f32 0, .float .f32 0, .float .f32 0, .float .f32 0] : Array Value) 36)).alloc (.cells (#[.int .i64 0, .float .f32 0, .float .f32 0, .float .f32 0, .float .f32 0, .float .f32 0] : Array Value) 36) := ⟨_, rfl⟩
  rw [← hW]
  have R1 : Row W w.heap.size 29 (#[.int .i64 k, .float .f32 a, .float .f32 b, .float .f32 c, .float .f32 x, .float .f32 y] : Array Value) := by rw [hW]; exact ((Row.new _ _ _).alloc _).alloc _
  have R2 : Row W (w.heap.size + 1) 36 (#[.int .i64 0, .float .f32 0, .float .f32 0, .float .f32 0, .float .f32 0, .float .f32 0] : Array Value) := by rw [hW]; exact (Row.new' _ _ _ (by simp)).alloc _
  have R3 : Row W (w.heap.size + 1 + 1) 36 (#[.int .i64 0, .float .f32 0, .float .f32 0, .float .f32 0, .float .f32 0, .float .f32 0] : Array Value) := by rw [hW]; exact Row.new' _ _ _ (by simp)
  have hb : le w W := by rw [hW]; unfold le; repeat' (first | (with_reducible exact Below.refl _ _) | (with_reducible assumption) | (with_reducible refine below_drewN ?_ _) | (with_reducible refine Below.alloc ?_ ?_ _) | (with_reducible refine Below.drew ?_) | (with_reducible refine Below.setCell ?_ ?_ _) | go_size)
  have c1 := R1.cell? 0
  have c3 := R3.cell? 0
  have f3 := R3.frozen 0
  have hs := R3.lt
  clear hW
  go_upto_region 3 with (fail)
  obtain ⟨V, hV⟩ : ∃ V, V = W.setCell ⟨w.heap.size + 1 + 1, 0, none⟩ (.int .i64 k) := ⟨_, rfl⟩
  rw [← hV]
  replace R1 := R1.other ⟨w.heap.size + 1 + 1, 0, none⟩ (.int .i64 k) (by simp; omega)
  rw [← hV] at R1
  replace R2 := R2.other ⟨w.heap.size + 1 + 1, 0, none⟩ (.int .i64 k) (by simp)
  rw [← hV] at R2
  replace R3 : Row V (w.heap.size + 1 + 1) 36 (#[.int .i64 k, .float .f32 0, .float .f32 0, .float .f32 0, .float .f32 0, .float .f32 0] : Array Value) := by rw [hV]; exact R3.set 0 _
  replace hb : le w V := by rw [hV]; exact Below.setCell hb (by simp; omega) _
  clear hV c1 c3 f3
  go_wp2_with (first | (with_reducible refine wpList_load3 rfl rfl rfl (by with_reducible assumption) Try.underlying26 rfl info3 ?_) | (with_reducible refine wpList_load2 rfl rfl rfl (by with_reducible assumption) Try.underlying27 rfl info2 ?_) | (go_at_call 48; refine (toA3_lit a b c _).mono ?_; rintro e w1 ⟨rfl, hb1⟩; replace R1 := R1.below hb1 R1.lt; replace R2 := R2.below hb1 R2.lt; replace R3 := R3.below hb1 R3.lt; replace hb := le_trans hb hb1) | (go_at_call 49; refine (toA2_lit x y _).mono ?_; rintro e w1 ⟨rfl, hb1⟩; replace R1 := R1.below hb1 R1.lt; replace R2 := R2.below hb1 R2.lt; replace R3 := R3.below hb1 R3.lt; replace hb := le_trans hb hb1) | (refine wpList_store3 (u1 := .float .f32 a) (u2 := .float .f32 b) (u3 := .float .f32 c) rfl rfl rfl rfl R3 info3 (by simp [Value.oneCell']) ?_; intro w2 K; replace R1 := K.other _ _ _ (by omega) R1; replace R2 := K.other _ _ _ (by omega) R2; replace R3 := K.row; replace hb := K.below _ _ hb (by omega); clear K) | (refine wpList_store2 (u1 := .float .f32 x) (u2 := .float .f32 y) rfl rfl rfl rfl R3 info2 (by simp [Value.oneCell']) ?_; intro w2 K; replace R1 := K.other _ _ _ (by omega) R1; replace R2 := K.other _ _ _ (by omega) R2; replace R3 := K.row; replace hb := K.below _ _ hb (by omega); clear K) | (with_reducible refine wpList_loadDn rfl rfl rfl R3 Try.underlying36 rfl infoFil (by simp) ?_) | (refine wpList_storeD rfl rfl rfl rfl R2 infoFil rfl (by simp [Value.oneCell']) ?_; intro w2 K; replace R2 := K.row; replace hb := K.below _ _ hb (by omega); clear K))
  exact bodyPost_ret (results_row1 rfl _ _ _ _ _ rfl R2 Try.underlying36 rfl infoFil) rfl ⟨rfl, hb⟩
end Go.Proofs.Ythjdklolbkhbfaa

/- Sizes of types, kinds of their cells; the kinds of data. -/
namespace Go.Fk
open Go Go.RowKit
theorem partFilter_C (v0 v1 v2 v3 v4 v5 : Value) : ∀ j, j < [v1, v2, v3].length → (#[v0, v1, v2, v3, v4, v5] : Array Value)[1 + j]? = [v1, v2, v3][j]? := fun j hj => by match j, hj with | 0, _ => rfl | 1, _ => rfl | 2, _ => rfl
theorem partFilter_S (v0 v1 v2 v3 v4 v5 : Value) : ∀ j, j < [v4, v5].length → (#[v0, v1, v2, v3, v4, v5] : Array Value)[4 + j]? = [v4, v5][j]? := fun j hj => by match j, hj with | 0, _ => rfl | 1, _ => rfl
theorem partString_Loop (v0 v1 v2 v3 v4 v5 v6 v7 v8 v9 v10 v11 v12 v13 v14 : Value) : ∀ j, j < [v0, v1].length → (#[v0, v1, v2, v3, v4, v5, v6, v7, v8, v9, v10, v11, v12, v13, v14] : Array Value)[0 + j]? = [v0, v1][j]? := fun j hj => by match j, hj with | 0, _ => rfl | 1, _ => rfl
theorem partString_Tune (v0 v1 v2 v3 v4 v5 v6 v7 v8 v9 v10 v11 v12 v13 v14 : Value) : ∀ j, j < [v2, v3, v4, v5, v6, v7].length → (#[v0, v1, v2, v3, v4, v5, v6, v7, v8, v9, v10, v11, v12, v13, v14] : Array Value)[2 + j]? = [v2, v3, v4, v5, v6, v7][j]? := fun j hj => by match j, hj with | 0, _ => rfl | 1, _ => rfl | 2, _ => rfl | 3, _ => rfl | 4, _ => rfl | 5, _ => rfl
theorem partString_Damp (v0 v1 v2 v3 v4 v5 v6 v7 v8 v9 v10 v11 v12 v13 v14 : Value) : ∀ j, j < [v8, v9, v10, v11, v12, v13].length → (#[v0, v1, v2, v3, v4, v5, v6, v7, v8, v9, v10, v11, v12, v13, v14] : Array Value)[8 + j]? = [v8, v9, v10, v11, v12, v13][j]? := fun j hj => by match j, hj with | 0, _ => rfl | 1, _ => rfl | 2, _ => rfl | 3, _ => rfl | 4, _ => rfl | 5, _ => rfl
theorem partPipe_End (v0 v1 v2 v3 v4 v5 v6 v7 v8 v9 v10 v11 v12 : Value) : ∀ j, j < [v3, v4, v5, v6, v7, v8].length → (#[v0, v1, v2, v3, v4, v5, v6, v7, v8, v9, v10, v11, v12] : Array Value)[3 + j]? = [v3, v4, v5, v6, v7, v8][j]? := fun j hj => by match j, hj with | 0, _ => rfl | 1, _ => rfl | 2, _ => rfl | 3, _ => rfl | 4, _ => rfl | 5, _ => rfl
theorem partBow_Neck (v0 v1 v2 v3 v4 v5 v6 v7 v8 v9 v10 v11 : Value) : ∀ j, j < [v0, v1].length → (#[v0, v1, v2, v3, v4, v5, v6, v7, v8, v9, v10, v11] : Array Value)[0 + j]? = [v0, v1][j]? := fun j hj => by match j, hj with | 0, _ => rfl | 1, _ => rfl
theorem partBow_Bridge (v0 v1 v2 v3 v4 v5 v6 v7 v8 v9 v10 v11 : Value) : ∀ j, j < [v2, v3].length → (#[v0, v1, v2, v3, v4, v5, v6, v7, v8, v9, v10, v11] : Array Value)[2 + j]? = [v2, v3][j]? := fun j hj => by match j, hj with | 0, _ => rfl | 1, _ => rfl
theorem partBow_Damp (v0 v1 v2 v3 v4 v5 v6 v7 v8 v9 v10 v11 : Value) : ∀ j, j < [v4, v5, v6, v7, v8, v9].length → (#[v0, v1, v2, v3, v4, v5, v6, v7, v8, v9, v10, v11] : Array Value)[4 + j]? = [v4, v5, v6, v7, v8, v9][j]? := fun j hj => by match j, hj with | 0, _ => rfl | 1, _ => rfl | 2, _ => rfl | 3, _ => rfl | 4, _ => rfl | 5, _ => rfl
theorem partJet_Throat (v0 v1 v2 v3 v4 v5 v6 v7 v8 v9 v10 v11 v12 v13 v14 v15 v16 v17 : Value) : ∀ j, j < [v0, v1].length → (#[v0, v1, v2, v3, v4, v5, v6, v7, v8, v9, v10, v11, v12, v13, v14, v15, v16, v17] : Array Value)[0 + j]? = [v0, v1][j]? := fun j hj => by match j, hj with | 0, _ => rfl | 1, _ => rfl
theorem partJet_Bore (v0 v1 v2 v3 v4 v5 v6 v7 v8 v9 v10 v11 v12 v13 v14 v15 v16 v17 : Value) : ∀ j, j < [v2, v3].length → (#[v0, v1, v2, v3, v4, v5, v6, v7, v8, v9, v10, v11, v12, v13, v14, v15, v16, v17] : Array Value)[2 + j]? = [v2, v3][j]? := fun j hj => by match j, hj with | 0, _ => rfl | 1, _ => rfl
theorem partJet_Low (v0 v1 v2 v3 v4 v5 v6 v7 v8 v9 v10 v11 v12 v13 v14 v15 v16 v17 : Value) : ∀ j, j < [v4, v5, v6, v7, v8, v9].length → (#[v0, v1, v2, v3, v4, v5, v6, v7, v8, v9, v10, v11, v12, v13, v14, v15, v16, v17] : Array Value)[4 + j]? = [v4, v5, v6, v7, v8, v9][j]? := fun j hj => by match j, hj with | 0, _ => rfl | 1, _ => rfl | 2, _ => rfl | 3, _ => rfl | 4, _ => rfl | 5, _ => rfl
theorem partJet_Dc (v0 v1 v2 v3 v4 v5 v6 v7 v8 v9 v10 v11 v12 v13 v14 v15 v16 v17 : Value) : ∀ j, j < [v10, v11, v12, v13, v14, v15].length → (#[v0, v1, v2, v3, v4, v5, v6, v7, v8, v9, v10, v11, v12, v13, v14, v15, v16, v17] : Array Value)[10 + j]? = [v10, v11, v12, v13, v14, v15][j]? := fun j hj => by match j, hj with | 0, _ => rfl | 1, _ => rfl | 2, _ => rfl | 3, _ => rfl | 4, _ => rfl | 5, _ => rfl
theorem partComb_Ring (v0 v1 v2 : Value) : ∀ j, j < [v0, v1].length → (#[v0, v1, v2] : Array Value)[0 + j]? = [v0, v1][j]? := fun j hj => by match j, hj with | 0, _ => rfl | 1, _ => rfl
theorem partScore_Tuning (v0 v1 v2 v3 v4 v5 : Value) : ∀ j, j < [v1, v2, v3].length → (#[v0, v1, v2, v3, v4, v5] : Array Value)[1 + j]? = [v1, v2, v3][j]? := fun j hj => by match j, hj with | 0, _ => rfl | 1, _ => rfl | 2, _ => rfl
theorem partVoice_String (v0 v1 v2 v3 v4 v5 v6 v7 v8 v9 v10 v11 v12 v13 v14 v15 v16 v17 v18 v19 v20 v21 v22 v23 v24 v25 v26 v27 v28 v29 v30 v31 v32 v33 v34 v35 v36 v37 v38 v39 v40 v41 v42 v43 v44 : Value) : ∀ j, j < [v5, v6, v7, v8, v9, v10, v11, v12, v13, v14, v15, v16, v17, v18, v19].length → (#[v0, v1, v2, v3, v4, v5, v6, v7, v8, v9, v10, v11, v12, v13, v14, v15, v16, v17, v18, v19, v20, v21, v22, v23, v24, v25, v26, v27, v28, v29, v30, v31, v32, v33, v34, v35, v36, v37, v38, v39, v40, v41, v42, v43, v44] : Array Value)[5 + j]? = [v5, v6, v7, v8, v9, v10, v11, v12, v13, v14, v15, v16, v17, v18, v19][j]? := fun j hj => by match j, hj with | 0, _ => rfl | 1, _ => rfl | 2, _ => rfl | 3, _ => rfl | 4, _ => rfl | 5, _ => rfl | 6, _ => rfl | 7, _ => rfl | 8, _ => rfl | 9, _ => rfl | 10, _ => rfl | 11, _ => rfl | 12, _ => rfl | 13, _ => rfl | 14, _ => rfl
theorem partVoice_Pipe (v0 v1 v2 v3 v4 v5 v6 v7 v8 v9 v10 v11 v12 v13 v14 v15 v16 v17 v18 v19 v20 v21 v22 v23 v24 v25 v26 v27 v28 v29 v30 v31 v32 v33 v34 v35 v36 v37 v38 v39 v40 v41 v42 v43 v44 : Value) : ∀ j, j < [v20, v21, v22, v23, v24, v25, v26, v27, v28, v29, v30, v31, v32].length → (#[v0, v1, v2, v3, v4, v5, v6, v7, v8, v9, v10, v11, v12, v13, v14, v15, v16, v17, v18, v19, v20, v21, v22, v23, v24, v25, v26, v27, v28, v29, v30, v31, v32, v33, v34, v35, v36, v37, v38, v39, v40, v41, v42, v43, v44] : Array Value)[20 + j]? = [v20, v21, v22, v23, v24, v25, v26, v27, v28, v29, v30, v31, v32][j]? := fun j hj => by match j, hj with | 0, _ => rfl | 1, _ => rfl | 2, _ => rfl | 3, _ => rfl | 4, _ => rfl | 5, _ => rfl | 6, _ => rfl | 7, _ => rfl | 8, _ => rfl | 9, _ => rfl | 10, _ => rfl | 11, _ => rfl | 12, _ => rfl
theorem partVoice_Bow (v0 v1 v2 v3 v4 v5 v6 v7 v8 v9 v10 v11 v12 v13 v14 v15 v16 v17 v18 v19 v20 v21 v22 v23 v24 v25 v26 v27 v28 v29 v30 v31 v32 v33 v34 v35 v36 v37 v38 v39 v40 v41 v42 v43 v44 : Value) : ∀ j, j < [v33, v34, v35, v36, v37, v38, v39, v40, v41, v42, v43, v44].length → (#[v0, v1, v2, v3, v4, v5, v6, v7, v8, v9, v10, v11, v12, v13, v14, v15, v16, v17, v18, v19, v20, v21, v22, v23, v24, v25, v26, v27, v28, v29, v30, v31, v32, v33, v34, v35, v36, v37, v38, v39, v40, v41, v42, v43, v44] : Array Value)[33 + j]? = [v33, v34, v35, v36, v37, v38, v39, v40, v41, v42, v43, v44][j]? := fun j hj => by match j, hj with | 0, _ => rfl | 1, _ => rfl | 2, _ => rfl | 3, _ => rfl | 4, _ => rfl | 5, _ => rfl | 6, _ => rfl | 7, _ => rfl | 8, _ => rfl | 9, _ => rfl | 10, _ => rfl | 11, _ => rfl
theorem partPlayer_Score (v0 v1 v2 v3 v4 v5 v6 v7 v8 v9 : Value) : ∀ j, j < [v0, v1, v2, v3, v4, v5].length → (#[v0, v1, v2, v3, v4, v5, v6, v7, v8, v9] : Array Value)[0 + j]? = [v0, v1, v2, v3, v4, v5][j]? := fun j hj => by match j, hj with | 0, _ => rfl | 1, _ => rfl | 2, _ => rfl | 3, _ => rfl | 4, _ => rfl | 5, _ => rfl
theorem partStage_Score (v0 v1 v2 v3 v4 v5 v6 v7 v8 : Value) : ∀ j, j < [v0, v1, v2, v3, v4, v5].length → (#[v0, v1, v2, v3, v4, v5, v6, v7, v8] : Array Value)[0 + j]? = [v0, v1, v2, v3, v4, v5][j]? := fun j hj => by match j, hj with | 0, _ => rfl | 1, _ => rfl | 2, _ => rfl | 3, _ => rfl | 4, _ => rfl | 5, _ => rfl
theorem szL_take (cs : List CD) : ∀ k, szL (cs.take k) ≤ szL cs := by
  induction cs with
  | nil => intro k; simp
  | cons c cs ih =>
    intro k
    cases k with
    | zero => exact Nat.zero_le _
    | succ k => have := ih k; simp only [szL, List.take_succ_cons, List.map_cons, List.sum_cons] at this ⊢; omega
theorem szL_drop (cs : List CD) : ∀ k, szL (cs.drop k) ≤ szL cs := by
  induction cs with
  | nil => intro k; simp
  | cons c cs ih =>
    intro k
    cases k with
    | zero => exact Nat.le_refl _
    | succ k => have := ih k; simp only [szL, List.drop_succ_cons, List.map_cons, List.sum_cons] at this ⊢; omega
/-- A part of a struct is no greater than all of it. -/
theorem szL_le {cs ds : List CD} {m : Nat} (h : szL cs ≤ m) (i k : Nat) (e : (cs.drop i).take k = ds) : szL ds ≤ m := e ▸ Nat.le_trans (szL_take _ _) (Nat.le_trans (szL_drop _ _) h)
theorem szC_le {cs : List CD} {c : CD} {m : Nat} (h : szL cs ≤ m) (i : Nat) (e : (cs.drop i).take 1 = [c]) : c.sz ≤ m := by
  have := szL_le h i 1 e
  simpa [szL] using this
def shRing : List Sh := [.sl 1 (fun j => [.flt .f32].getD j .bool), .int .i64]
def shFilter : List Sh := [.int .i64, .flt .f32, .flt .f32, .flt .f32, .flt .f32, .flt .f32]
def shString : List Sh := [.sl 1 (fun j => [.flt .f32].getD j .bool), .int .i64, .int .i64, .flt .f32, .flt .f32, .flt .f32, .flt .f32, .flt .f32, .int .i64, .flt .f32, .flt .f32, .flt .f32, .flt .f32, .flt .f32, .flt .f32]
def shPipe : List Sh := [.sl 2 (fun j => [.sl 1 (fun j => [.flt .f32].getD j .bool), .int .i64].getD j .bool), .sl 2 (fun j => [.sl 1 (fun j => [.flt .f32].getD j .bool), .int .i64].getD j .bool), .sl 1 (fun j => [.flt .f32].getD j .bool), .int .i64, .flt .f32, .flt .f32, .flt .f32, .flt .f32, .flt .f32, .bool, .flt .f32, .flt .f32, .flt .f32]
def shBow : List Sh := [.sl 1 (fun j => [.flt .f32].getD j .bool), .int .i64, .sl 1 (fun j => [.flt .f32].getD j .bool), .int .i64, .int .i64, .flt .f32, .flt .f32, .flt .f32, .flt .f32, .flt .f32, .flt .f32, .flt .f32]
def shJet : List Sh := [.sl 1 (fun j => [.flt .f32].getD j .bool), .int .i64, .sl 1 (fun j => [.flt .f32].getD j .bool), .int .i64, .int .i64, .flt .f32, .flt .f32, .flt .f32, .flt .f32, .flt .f32, .int .i64, .flt .f32, .flt .f32, .flt .f32, .flt .f32, .flt .f32, .flt .f32, .flt .f32]
def shComb : List Sh := [.sl 1 (fun j => [.flt .f32].getD j .bool), .int .i64, .flt .f32]
def shTap : List Sh := [.int .i64, .flt .f32]
def shTuning : List Sh := [.flt .f32, .flt .f32, .sl 1 (fun j => [.flt .f32].getD j .bool)]
def shInstrument : List Sh := [.str, .int .i64, .flt .f32, .flt .f32, .flt .f32]
def shEvent : List Sh := [.int .i64, .int .i64, .int .i64, .int .i64, .int .i64, .flt .f32]
def shScore : List Sh := [.flt .f32, .flt .f32, .flt .f32, .sl 1 (fun j => [.flt .f32].getD j .bool), .sl 5 (fun j => [.str, .int .i64, .flt .f32, .flt .f32, .flt .f32].getD j .bool), .sl 6 (fun j => [.int .i64, .int .i64, .int .i64, .int .i64, .int .i64, .flt .f32].getD j .bool)]
def shVoice : List Sh := [.int .i64, .int .i64, .int .i64, .bool, .flt .f32, .sl 1 (fun j => [.flt .f32].getD j .bool), .int .i64, .int .i64, .flt .f32, .flt .f32, .flt .f32, .flt .f32, .flt .f32, .int .i64, .flt .f32, .flt .f32, .flt .f32, .flt .f32, .flt .f32, .flt .f32, .sl 2 (fun j => [.sl 1 (fun j => [.flt .f32].getD j .bool), .int .i64].getD j .bool), .sl 2 (fun j => [.sl 1 (fun j => [.flt .f32].getD j .bool), .int .i64].getD j .bool), .sl 1 (fun j => [.flt .f32].getD j .bool), .int .i64, .flt .f32, .flt .f32, .flt .f32, .flt .f32, .flt .f32, .bool, .flt .f32, .flt .f32, .flt .f32, .sl 1 (fun j => [.flt .f32].getD j .bool), .int .i64, .sl 1 (fun j => [.flt .f32].getD j .bool), .int .i64, .int .i64, .flt .f32, .flt .f32, .flt .f32, .flt .f32, .flt .f32, .flt .f32, .flt .f32]
def shPlayer : List Sh := [.flt .f32, .flt .f32, .flt .f32, .sl 1 (fun j => [.flt .f32].getD j .bool), .sl 5 (fun j => [.str, .int .i64, .flt .f32, .flt .f32, .flt .f32].getD j .bool), .sl 6 (fun j => [.int .i64, .int .i64, .int .i64, .int .i64, .int .i64, .flt .f32].getD j .bool), .sl 45 (fun j => [.int .i64, .int .i64, .int .i64, .bool, .flt .f32, .sl 1 (fun j => [.flt .f32].getD j .bool), .int .i64, .int .i64, .flt .f32, .flt .f32, .flt .f32, .flt .f32, .flt .f32, .int .i64, .flt .f32, .flt .f32, .flt .f32, .flt .f32, .flt .f32, .flt .f32, .sl 2 (fun j => [.sl 1 (fun j => [.flt .f32].getD j .bool), .int .i64].getD j .bool), .sl 2 (fun j => [.sl 1 (fun j => [.flt .f32].getD j .bool), .int .i64].getD j .bool), .sl 1 (fun j => [.flt .f32].getD j .bool), .int .i64, .flt .f32, .flt .f32, .flt .f32, .flt .f32, .flt .f32, .bool, .flt .f32, .flt .f32, .flt .f32, .sl 1 (fun j => [.flt .f32].getD j .bool), .int .i64, .sl 1 (fun j => [.flt .f32].getD j .bool), .int .i64, .int .i64, .flt .f32, .flt .f32, .flt .f32, .flt .f32, .flt .f32, .flt .f32, .flt .f32].getD j .bool), .int .i64, .int .i64, .int .i64]
def shStage : List Sh := [.flt .f32, .flt .f32, .flt .f32, .sl 1 (fun j => [.flt .f32].getD j .bool), .sl 5 (fun j => [.str, .int .i64, .flt .f32, .flt .f32, .flt .f32].getD j .bool), .sl 6 (fun j => [.int .i64, .int .i64, .int .i64, .int .i64, .int .i64, .flt .f32].getD j .bool), .int .i64, .int .i64, .int .i64]
def shDeed : List Sh := [.int .i64, .int .i64, .int .i64]
section
variable {P : Program} {w : World} {ops : Array Oper} {rest : List Oper} {o : Oper} {a : Act} {Q : Exit → Act → World → Prop}
/-- A value of one cell is loaded. -/
theorem wpList_load1 {w0 : World} {L : List Fact} (hF : Frg w0 w L) (hg : o.guard = none) {ty : TypeId} {x : Operand} (hop : o.op = .load ty x) {g f : Nat} (hx : a.eval x = .pointer (some ⟨g, f, none⟩)) {t : TypeId} {cs : Array Value} (hm : rowF g t cs ∈ L) {v : Value} (hv : cs[f]? = some v) (hu : ∀ w, (isAgg ty).run P w = .ok false w)
    (h : wpList P ops Q rest (a.put o.dst v) w) : wpList P ops Q (o :: rest) a w := by
  refine wpList_plain hg fun K hK' => ?_
  unfold Oper.wp execOp
  have hc : w.cell? ⟨g, f, none⟩ = some v := by rw [(hF.row hm).cell?, hv]
  have hl : (Instr.loadAt ty (.pointer (some ⟨g, f, none⟩))).run P w = .ok v w := by
    simp [Instr.loadAt, Instr.sureAddr, loadVar, hu, hc]
  simp [hop, hx, hl, Result.andThen]
  exact hK' _ _ h
/-- A value of one cell is stored. -/
theorem wpList_store1 (hg : o.guard = none) {ty : TypeId} {x y : Operand} (hop : o.op = .store ty x y) {g f : Nat} (hx : a.eval x = .pointer (some ⟨g, f, none⟩)) {v : Value} (hy : a.eval y = v) {t : TypeId} {old : Array Value}
    (hr : Row w g t old) (hi : (P.info? ty).map (·.size) = some 1) (ho : f < old.size) (h1 : v.oneCell' = true) (cs' : Array Value) (hcs : old.setIfInBounds f v = cs')
    (h : ∀ w', Wrote w w' g t cs' → wpList P ops Q rest (a.put o.dst undef) w') : wpList P ops Q (o :: rest) a w := by
  refine wpList_plain hg fun K hK' => ?_
  unfold Oper.wp execOp
  have hw := wrote_setCells [v] f old w hr
  simp only [patch, hcs, World.setCells] at hw
  have hc : w.cell? ⟨g, f, none⟩ = some old[f] := by rw [hr.cell?, Array.getElem?_eq_getElem ho]
  have hs : (store ⟨g, f, none⟩ v .plain).run P w = .ok () (w.setCell ⟨g, f, none⟩ v) := by rw [run_store P w _ v _ h1, hc]; simp [hr.frozen f]
  have hvc : v.cells = #[v] := by cases v <;> first | rfl | simp [Value.oneCell'] at h1
  cases hq : P.info? ty with
  | none => simp [hq] at hi
  | some i =>
    have hz : i.size = 1 := by simpa [hq] using hi
    have hl : (Instr.storeAt ty (.pointer (some ⟨g, f, none⟩)) v).run P w = .ok () (w.setCell ⟨g, f, none⟩ v) := by
      simp [Instr.storeAt, Instr.sureAddr, storeVar, sizeOf, typeInfo, hq, hz, hvc, storeCells, Addr.add, hs, Sem.run_bind]
    simp [hop, hx, hy, hl, Result.andThen]
    exact hK' _ _ (h _ hw)
end
end Go.Fk
namespace Go.Proofs.Ythjdklolbkhbfaa
open Go.RowKit Go.Fk
theorem uinfoRingL : (Try.prog.info? 24).map (·.size) = some 2 := by kernel_rfl
theorem uinfoRingI : (Try.prog.info? 35).map (·.size) = some 2 := by kernel_rfl
theorem uinfoFilterL : (Try.prog.info? 29).map (·.size) = some 6 := by kernel_rfl
theorem uinfoFilterI : (Try.prog.info? 36).map (·.size) = some 6 := by kernel_rfl
theorem uinfoBowL : (Try.prog.info? 31).map (·.size) = some 12 := by kernel_rfl
theorem uinfoBowI : (Try.prog.info? 38).map (·.size) = some 12 := by kernel_rfl
theorem uinfoFloat32A2 : (Try.prog.info? 27).map (·.size) = some 2 := by kernel_rfl
theorem uinfoFloat32A3 : (Try.prog.info? 26).map (·.size) = some 3 := by kernel_rfl
theorem ukindFilterSI : ∀ w : World, (isAgg 120).run Try.prog w = .ok false w := fun w => by kernel_rfl
theorem ukindRingSI : ∀ w : World, (isAgg 74).run Try.prog w = .ok false w := fun w => by kernel_rfl
theorem ukindFloat32S : ∀ w : World, (isAgg 22).run Try.prog w = .ok false w := fun w => by kernel_rfl
theorem ukindBool : ∀ w : World, (isAgg 4).run Try.prog w = .ok false w := fun w => by kernel_rfl
theorem ukindFloat32 : ∀ w : World, (isAgg 25).run Try.prog w = .ok false w := fun w => by kernel_rfl
theorem ukindInt64 : ∀ w : World, (isAgg 2).run Try.prog w = .ok false w := fun w => by kernel_rfl
theorem ukindString : ∀ w : World, (isAgg 9).run Try.prog w = .ok false w := fun w => by kernel_rfl
theorem makeW_Ring (n : Nat) (hn : n ≤ 1048576) : ∃ cs : Array Value, cs.size = n * 2 ∧ ∀ w, (Instr.makeSlice 74 (.int .i64 (n : Int)) (.int .i64 (n : Int))).run Try.prog w = .ok (.slice (some ⟨w.heap.size, 0, none⟩) n n) (w.alloc (.cells cs 35)) := run_make_wide _ _ 2 Try.underlying74 (by kernel_rfl) n hn
theorem makeW_Filter (n : Nat) (hn : n ≤ 1048576) : ∃ cs : Array Value, cs.size = n * 6 ∧ ∀ w, (Instr.makeSlice 120 (.int .i64 (n : Int)) (.int .i64 (n : Int))).run Try.prog w = .ok (.slice (some ⟨w.heap.size, 0, none⟩) n n) (w.alloc (.cells cs 36)) := run_make_wide _ _ 6 Try.underlying120 (by kernel_rfl) n hn
theorem uinfo1FilterSI : (Try.prog.info? 120).map (·.size) = some 1 := by kernel_rfl
theorem uinfo1RingSI : (Try.prog.info? 74).map (·.size) = some 1 := by kernel_rfl
theorem uinfo1Float32S : (Try.prog.info? 22).map (·.size) = some 1 := by kernel_rfl
theorem uinfo1Bool : (Try.prog.info? 4).map (·.size) = some 1 := by kernel_rfl
theorem uinfo1Float32 : (Try.prog.info? 25).map (·.size) = some 1 := by kernel_rfl
theorem uinfo1Int64 : (Try.prog.info? 2).map (·.size) = some 1 := by kernel_rfl
theorem uinfo1String : (Try.prog.info? 9).map (·.size) = some 1 := by kernel_rfl
theorem szU_Float32S (B n : Nat) (x : Nat → CD) (s : Value) (m r : Int) (w : World) (h : (CD.sl 1 n x).Rd w B s) (hsh : ∀ i, i < n → ∀ j, j < 1 → ShOk ([Sh.flt .f32].getD j .bool) (x (i * 1 + j))) (h0 : 0 ≤ m) (h1 : m ≤ 1048576) (hr : lessBy m (CD.sz (CD.sl 1 n x)) = r) :
    Calls Try.prog 41 #[s, .int .i64 m] w (OutI r w) := by
  have hf := ShOk.flts hsh rfl
  rw [CD.sz_flts hf] at hr
  have hd := h.rdf hf
  obtain ⟨y, hy, _⟩ := hd.slIn
  subst hr
  by_cases g : m - (n : Int) < 0
  · rw [lessBy_neg g]
    exact (szS_no s y n m w hy h0 h1 hd.small g).mono (fun e w' ⟨h1, h2⟩ => ⟨h1, h2 ▸ le_refl _⟩)
  · rw [lessBy_pos g]
    exact (szS_yes s y n m w hy h0 h1 hd.small (by omega)).mono (fun e w' ⟨h1, h2⟩ => ⟨h1, h2 ▸ le_refl _⟩)
theorem eqU_Float32S (B B' n : Nat) (x : Nat → CD) (s s' : Value) (w : World) (h : (CD.sl 1 n x).Rd w B s) (h' : (CD.sl 1 n x).Rd w B' s') (hsh : ∀ i, i < n → ∀ j, j < 1 → ShOk ([Sh.flt .f32].getD j .bool) (x (i * 1 + j))) (hz : CD.sz (CD.sl 1 n x) ≤ 1048576) :
    Calls Try.prog 19 #[s, s'] w (OutT w) := by
  have hf := ShOk.flts hsh rfl
  rw [CD.sz_flts hf] at hz
  exact (eqR B B' s s' _ n w hz (h.rdf hf) (h'.rdf hf)).mono (fun e w' ⟨h1, m, h2⟩ => ⟨h1, h2 ▸ le_drewN _ _⟩)
theorem toU_Float32S (B n : Nat) (x : Nat → CD) (s : Value) (w : World) (h : (CD.sl 1 n x).Rd w B s) (hsh : ∀ i, i < n → ∀ j, j < 1 → ShOk ([Sh.flt .f32].getD j .bool) (x (i * 1 + j))) (hz : CD.sz (CD.sl 1 n x) ≤ 1048576) :
    Calls Try.prog 17 #[s] w (OutC (CD.sl 1 n x).cp w) := by
  have hf := ShOk.flts hsh rfl
  rw [CD.sz_flts hf] at hz
  refine (toR B s _ n w (h.rdf hf) hz).mono ?_
  rintro e w' ⟨u, rfl, ho, hl⟩
  exact ⟨u, rfl, ho.lay.congr ⟨_, rfl, fun i hi => by rw [CD.cn_fl (hf i (by simpa using hi))]; exact CD.Eqv.refl _⟩, hl⟩
end Go.Proofs.Ythjdklolbkhbfaa

/- Arguments opened, type by type. -/
namespace Go.Proofs.Ythjdklolbkhbfaa
open Go.RowKit Go.Fk Go.ChangeShapes
section
variable {H : Type} {enc : TypeId × Value → H} {w : World} {base : Nat} {spare : Nat → Bool} {held : Bool}
set_option maxRecDepth 100000 in
theorem opens_RingL : Opens enc Try.prog w base spare held 24 shRing := by
  have o0 : Opens enc Try.prog w base spare held 22 [.sl 1 (fun j => [.flt .f32].getD j .bool)] := (opens_slice Try.underlying22 (by kernel_rfl) (opens_flt Try.underlying25 (by kernel_rfl)))
  have o1 : Opens enc Try.prog w base spare held 2 [.int .i64] := (opens_int Try.underlying2 (by kernel_rfl))
  exact (show Opens enc Try.prog w base spare held 24 ([.sl 1 (fun j => [.flt .f32].getD j .bool)] ++ ([.int .i64] ++ [])) from opens_struct Try.underlying24 (by kernel_rfl) (fldO_cons (l1 := [.sl 1 (fun j => [.flt .f32].getD j .bool)]) (l2 := ([.int .i64] ++ [])) rfl o0 (fldO_cons (l1 := [.int .i64]) (l2 := []) rfl o1 (fldO_nil _))))
set_option maxRecDepth 100000 in
theorem opens_FilterL : Opens enc Try.prog w base spare held 29 shFilter := by
  have o0 : Opens enc Try.prog w base spare held 2 [.int .i64] := (opens_int Try.underlying2 (by kernel_rfl))
  have o1 : Opens enc Try.prog w base spare held 26 [.flt .f32, .flt .f32, .flt .f32] := (opens_array Try.underlying26 (by kernel_rfl) (opens_flt Try.underlying25 (by kernel_rfl)))
  have o2 : Opens enc Try.prog w base spare held 27 [.flt .f32, .flt .f32] := (opens_array Try.underlying27 (by kernel_rfl) (opens_flt Try.underlying25 (by kernel_rfl)))
  exact (show Opens enc Try.prog w base spare held 29 ([.int .i64] ++ ([.flt .f32, .flt .f32, .flt .f32] ++ ([.flt .f32, .flt .f32] ++ []))) from opens_struct Try.underlying29 (by kernel_rfl) (fldO_cons (l1 := [.int .i64]) (l2 := ([.flt .f32, .flt .f32, .flt .f32] ++ ([.flt .f32, .flt .f32] ++ []))) rfl o0 (fldO_cons (l1 := [.flt .f32, .flt .f32, .flt .f32]) (l2 := ([.flt .f32, .flt .f32] ++ [])) rfl o1 (fldO_cons (l1 := [.flt .f32, .flt .f32]) (l2 := []) rfl o2 (fldO_nil _)))))
set_option maxRecDepth 100000 in
theorem opens_BowL : Opens enc Try.prog w base spare held 31 shBow := by
  have o0 : Opens enc Try.prog w base spare held 24 shRing := opens_RingL
  have o1 : Opens enc Try.prog w base spare held 24 shRing := opens_RingL
  have o2 : Opens enc Try.prog w base spare held 29 shFilter := opens_FilterL
  have o3 : Opens enc Try.prog w base spare held 25 [.flt .f32] := (opens_flt Try.underlying25 (by kernel_rfl))
  have o4 : Opens enc Try.prog w base spare held 25 [.flt .f32] := (opens_flt Try.underlying25 (by kernel_rfl))
  exact (show Opens enc Try.prog w base spare held 31 (shRing ++ (shRing ++ (shFilter ++ ([.flt .f32] ++ ([.flt .f32] ++ []))))) from opens_struct Try.underlying31 (by kernel_rfl) (fldO_cons (l1 := shRing) (l2 := (shRing ++ (shFilter ++ ([.flt .f32] ++ ([.flt .f32] ++ []))))) rfl o0 (fldO_cons (l1 := shRing) (l2 := (shFilter ++ ([.flt .f32] ++ ([.flt .f32] ++ [])))) rfl o1 (fldO_cons (l1 := shFilter) (l2 := ([.flt .f32] ++ ([.flt .f32] ++ []))) rfl o2 (fldO_cons (l1 := [.flt .f32]) (l2 := ([.flt .f32] ++ [])) rfl o3 (fldO_cons (l1 := [.flt .f32]) (l2 := []) rfl o4 (fldO_nil _)))))))
end
end Go.Proofs.Ythjdklolbkhbfaa

/- What functions give, by their results' kinds. Nothing here names a program. -/
namespace Go.Fk
open Go Go.RowKit
def Out_b (ar0 : Bool) (w : World) (e : Ending) (w' : World) : Prop := e = .returned (.bool ar0) ∧ le w w'
def Out_rfi (xr0 : Nat → Nat) (nr0 : Nat) (kr0 : Int) (ar1 : Nat) (ar2 : Int) (w : World) (e : Ending) (w' : World) : Prop := ∃ (v0 : Value) (v1 : Nat), e = .returned (.tuple #[.agg #[v0, .int .i64 kr0], .float .f32 v1, .int .i64 ar2]) ∧ OwnS w' w.heap.size w'.heap.size v0 xr0 nr0 ∧ can .f32 v1 = ar1 ∧ le w w'
def Out_fi (ar0 : Nat) (ar1 : Int) (w : World) (e : Ending) (w' : World) : Prop := ∃ (v0 : Nat), e = .returned (.tuple #[.float .f32 v0, .int .i64 ar1]) ∧ can .f32 v0 = ar0 ∧ le w w'
def Out_ri (xr0 : Nat → Nat) (nr0 : Nat) (kr0 : Int) (ar1 : Int) (w : World) (e : Ending) (w' : World) : Prop := ∃ (v0 : Value), e = .returned (.tuple #[.agg #[v0, .int .i64 kr0], .int .i64 ar1]) ∧ OwnS w' w.heap.size w'.heap.size v0 xr0 nr0 ∧ le w w'
def Out_si (xr0 : Nat → Nat) (nr0 : Nat) (kr0 : Int) (tkr0 : Int) (tar0 : Nat) (tbr0 : Nat) (tcr0 : Nat) (txr0 : Nat) (tyr0 : Nat) (dkr0 : Int) (dar0 : Nat) (dbr0 : Nat) (dcr0 : Nat) (dxr0 : Nat) (dyr0 : Nat) (lr0 : Nat) (ar1 : Int) (w : World) (e : Ending) (w' : World) : Prop := ∃ (v0 : Value), e = .returned (.tuple #[.agg #[v0, .int .i64 kr0, .int .i64 tkr0, .float .f32 tar0, .float .f32 tbr0, .float .f32 tcr0, .float .f32 txr0, .float .f32 tyr0, .int .i64 dkr0, .float .f32 dar0, .float .f32 dbr0, .float .f32 dcr0, .float .f32 dxr0, .float .f32 dyr0, .float .f32 lr0], .int .i64 ar1]) ∧ OwnS w' w.heap.size w'.heap.size v0 xr0 nr0 ∧ le w w'
def Out_sfi (xr0 : Nat → Nat) (nr0 : Nat) (kr0 : Int) (tkr0 : Int) (tar0 : Nat) (tbr0 : Nat) (tcr0 : Nat) (txr0 : Nat) (tyr0 : Nat) (dkr0 : Int) (dar0 : Nat) (dbr0 : Nat) (dcr0 : Nat) (dxr0 : Nat) (dyr0 : Nat) (lr0 : Nat) (ar1 : Nat) (ar2 : Int) (w : World) (e : Ending) (w' : World) : Prop := ∃ (v0 : Value) (v1 : Nat), e = .returned (.tuple #[.agg #[v0, .int .i64 kr0, .int .i64 tkr0, .float .f32 tar0, .float .f32 tbr0, .float .f32 tcr0, .float .f32 txr0, .float .f32 tyr0, .int .i64 dkr0, .float .f32 dar0, .float .f32 dbr0, .float .f32 dcr0, .float .f32 dxr0, .float .f32 dyr0, .float .f32 lr0], .float .f32 v1, .int .i64 ar2]) ∧ OwnS w' w.heap.size w'.heap.size v0 xr0 nr0 ∧ can .f32 v1 = ar1 ∧ le w w'
def Out_sui (xr0 : Nat → Nat) (nr0 : Nat) (kr0 : Int) (tkr0 : Int) (tar0 : Nat) (tbr0 : Nat) (tcr0 : Nat) (txr0 : Nat) (tyr0 : Nat) (dkr0 : Int) (dar0 : Nat) (dbr0 : Nat) (dcr0 : Nat) (dxr0 : Nat) (dyr0 : Nat) (lr0 : Nat) (ar1 : Int) (ar2 : Int) (w : World) (e : Ending) (w' : World) : Prop := ∃ (v0 : Value), e = .returned (.tuple #[.agg #[v0, .int .i64 kr0, .int .i64 tkr0, .float .f32 tar0, .float .f32 tbr0, .float .f32 tcr0, .float .f32 txr0, .float .f32 tyr0, .int .i64 dkr0, .float .f32 dar0, .float .f32 dbr0, .float .f32 dcr0, .float .f32 dxr0, .float .f32 dyr0, .float .f32 lr0], .int .u32 ar1, .int .i64 ar2]) ∧ OwnS w' w.heap.size w'.heap.size v0 xr0 nr0 ∧ le w w'
def Out_sli (xr0 : Nat → Nat) (nr0 : Nat) (kr0 : Int) (tkr0 : Int) (tar0 : Nat) (tbr0 : Nat) (tcr0 : Nat) (txr0 : Nat) (tyr0 : Nat) (dkr0 : Int) (dar0 : Nat) (dbr0 : Nat) (dcr0 : Nat) (dxr0 : Nat) (dyr0 : Nat) (lr0 : Nat) (xr1 : Nat → Nat) (nr1 : Nat) (ar2 : Int) (w : World) (e : Ending) (w' : World) : Prop := ∃ (v0 : Value) (v1 : Value) (q : Nat), e = .returned (.tuple #[.agg #[v0, .int .i64 kr0, .int .i64 tkr0, .float .f32 tar0, .float .f32 tbr0, .float .f32 tcr0, .float .f32 txr0, .float .f32 tyr0, .int .i64 dkr0, .float .f32 dar0, .float .f32 dbr0, .float .f32 dcr0, .float .f32 dxr0, .float .f32 dyr0, .float .f32 lr0], v1, .int .i64 ar2]) ∧ OwnS w' w.heap.size q v0 xr0 nr0 ∧ OwnS w' q w'.heap.size v1 xr1 nr1 ∧ w.heap.size ≤ q ∧ q ≤ w'.heap.size ∧ le w w'
def Out_bi (ar0 : Bool) (ar1 : Int) (w : World) (e : Ending) (w' : World) : Prop := e = .returned (.tuple #[.bool ar0, .int .i64 ar1]) ∧ le w w'
def Out_ii (ar0 : Int) (ar1 : Int) (w : World) (e : Ending) (w' : World) : Prop := e = .returned (.tuple #[.int .i64 ar0, .int .i64 ar1]) ∧ le w w'
def Out_s (xr0 : Nat → Nat) (nr0 : Nat) (kr0 : Int) (tkr0 : Int) (tar0 : Nat) (tbr0 : Nat) (tcr0 : Nat) (txr0 : Nat) (tyr0 : Nat) (dkr0 : Int) (dar0 : Nat) (dbr0 : Nat) (dcr0 : Nat) (dxr0 : Nat) (dyr0 : Nat) (lr0 : Nat) (w : World) (e : Ending) (w' : World) : Prop := ∃ (v0 : Value), e = .returned (.agg #[v0, .int .i64 kr0, .int .i64 tkr0, .float .f32 tar0, .float .f32 tbr0, .float .f32 tcr0, .float .f32 txr0, .float .f32 tyr0, .int .i64 dkr0, .float .f32 dar0, .float .f32 dbr0, .float .f32 dcr0, .float .f32 dxr0, .float .f32 dyr0, .float .f32 lr0]) ∧ OwnS w' w.heap.size w'.heap.size v0 xr0 nr0 ∧ le w w'
def Out_li (xr0 : Nat → Nat) (nr0 : Nat) (ar1 : Int) (w : World) (e : Ending) (w' : World) : Prop := ∃ (v0 : Value), e = .returned (.tuple #[v0, .int .i64 ar1]) ∧ OwnS w' w.heap.size w'.heap.size v0 xr0 nr0 ∧ le w w'
def Out_f (ar0 : Nat) (w : World) (e : Ending) (w' : World) : Prop := ∃ (v0 : Nat), e = .returned (.float .f32 v0) ∧ can .f32 v0 = ar0 ∧ le w w'
end Go.Fk

/- 'toRing' of the laws. -/
namespace Go.Fk
open Go Go.RowKit
theorem SlIn.le {w w' : World} {v : Value} {x : Nat → Nat} {n : Nat} (h : SlIn w v x n) (hl : Fk.le w w') : SlIn w' v x n := by
  rcases h with h | ⟨a, cap, h1, h2, h3, h4⟩
  · exact .inl h
  · exact .inr ⟨a, cap, h1, h2, h3, fun i hi => ⟨(Below.cell hl (cell_lt (h4 i hi).1)).trans (h4 i hi).1, (h4 i hi).2⟩⟩
theorem SlIn.small {w : World} {v : Value} {x : Nat → Nat} {n : Nat} (h : SlIn w v x n) : n ≤ 9223372036854775807 := by
  rcases h with ⟨_, rfl⟩ | ⟨a, cap, h1, h2, h3, h4⟩
  · omega
  · unfold maxLen at h3; omega
end Go.Fk
namespace Go.Proofs.Ythjdklolbkhbfaa
open Go.RowKit Go.Fk
set_option maxRecDepth 100000 in
set_option maxHeartbeats 1000000 in
theorem toRing_any (s : Value) (x : Nat → Nat) (n : Nat) (k : Int) (w : World) (hs : SlIn w s x n) (hn : n ≤ 1048576) :
    Calls Try.prog 27 #[.agg #[s, .int .i64 k]] w fun e w' => ∃ b, e = .returned (.agg #[.slice (some ⟨b, 0, none⟩) n n, .int .i64 k]) ∧ w.heap.size ≤ b ∧ Row w' b 25 (ftab .f32 x n) ∧ le w w' := by
  have F := (((Frm.nil w).box 24 #[s, .int .i64 k]).box 35 #[.slice none 0 0, .int .i64 0]).box 35 #[.slice none 0 0, .int .i64 0]
  simp only [World.size_alloc] at F
  have HS := hid (hs.le F.below)
  clear hs
  go_enter Try.func27, Try.ntmps27
  go_upto_region 2 with (fail)
  obtain ⟨W, hW⟩ : ∃ W, W = ((w.alloc (.cells #[s, .int .i64 k] 24)).alloc (.cells #[.slice none 0 0, .int .i64 0] 35)).alloc (.cells #[.slice none 0 0, .int .i64 0] 35) := ⟨_, rfl⟩
  rw [← hW] at F HS ⊢
  have hz : W.heap.size = w.heap.size + 1 + 1 + 1 := by rw [hW]; simp
  clear hW
  have R1 := F.row (g := w.heap.size) (t := 24) (cs := #[s, .int .i64 k]) (List.mem_cons_of_mem _ (List.mem_cons_of_mem _ List.mem_cons_self))
  have c1 := R1.cell? 0
  replace R1 := hid R1
  replace F := hid F
  have HZ := hid hz
  go_wp2_with (go_at_call 17; ((with_reducible refine (toS s x n W HS.out hn).mono ?_); rintro e w2 ⟨rfl, hr, hl⟩; rw [HZ.out] at hr; have G := F.out.le hl; have d1 : w2.cell? ⟨w.heap.size, 1, none⟩ = some (.int .i64 k) := (G.row (g := w.heap.size) (t := 24) (cs := #[s, .int .i64 k]) (List.mem_cons_of_mem _ (List.mem_cons_of_mem _ List.mem_cons_self))).cell? 1; have T3 := G.row (g := w.heap.size + 1 + 1) (t := 35) (cs := #[.slice none 0 0, .int .i64 0]) List.mem_cons_self; have T2 := G.row (g := w.heap.size + 1) (t := 35) (cs := #[.slice none 0 0, .int .i64 0]) (List.mem_cons_of_mem _ List.mem_cons_self); have d3 : w2.cell? ⟨w.heap.size + 1 + 1, 0, none⟩ = some (.slice none 0 0) := T3.cell? 0; have d4 : w2.cell? ⟨w.heap.size + 1 + 1, 1, none⟩ = some (.int .i64 0) := T3.cell? 1; have e0 : w2.cell? ⟨w.heap.size + 1, 0, none⟩ = some (.slice none 0 0) := T2.cell? 0; have e1 : w2.cell? ⟨w.heap.size + 1, 1, none⟩ = some (.int .i64 0) := T2.cell? 1; have g0 := T2.frozen 0; have g1 := T2.frozen 1; have f3 := T3.frozen 0; have f4 := T3.frozen 1; replace T3 := hid T3; replace T2 := hid T2; have HB := hid G.below; have HR := hid hr; have HW := hid hl.size; clear hr hl G))
  have Z : ∀ (W : World) (v v' : Value), Row W (w.heap.size + 1) 35 #[v, v'] → ∀ u u', Row ((W.setCell ⟨w.heap.size + 1, 0, none⟩ u).setCell ⟨w.heap.size + 1, 1, none⟩ u') (w.heap.size + 1) 35 #[u, u'] := fun W v v' h u u' => (h.set 0 u).set 1 u'
  have N2 := T2.out.other ⟨w.heap.size + 1 + 1, 0, none⟩ (.slice (some ⟨w.heap.size + 1 + 1 + 1, 0, none⟩) n n) (by simp)
  replace N2 := N2.other ⟨w.heap.size + 1 + 1, 1, none⟩ (.int .i64 k) (by simp)
  have N := HR.out.other ⟨w.heap.size + 1 + 1, 0, none⟩ (.slice (some ⟨w.heap.size + 1 + 1 + 1, 0, none⟩) n n) (by simp)
  replace N := N.other ⟨w.heap.size + 1 + 1, 1, none⟩ (.int .i64 k) (by simp)
  replace N := N.other ⟨w.heap.size + 1, 0, none⟩ (.slice (some ⟨w.heap.size + 1 + 1 + 1, 0, none⟩) n n) (by simp; omega)
  replace N := N.other ⟨w.heap.size + 1, 1, none⟩ (.int .i64 k) (by simp; omega)
  have B := Below.setCell (Below.setCell (Below.setCell (Below.setCell HB.out (p := ⟨w.heap.size + 1 + 1, 0, none⟩) (by simp; omega) (.slice (some ⟨w.heap.size + 1 + 1 + 1, 0, none⟩) n n)) (p := ⟨w.heap.size + 1 + 1, 1, none⟩) (by simp; omega) (.int .i64 k)) (p := ⟨w.heap.size + 1, 0, none⟩) (by simp) (.slice (some ⟨w.heap.size + 1 + 1 + 1, 0, none⟩) n n)) (p := ⟨w.heap.size + 1, 1, none⟩) (by simp) (.int .i64 k)
  exact bodyPost_ret (results_row1 rfl _ _ _ _ _ rfl (Z _ _ _ N2 _ _) Try.underlying35 rfl infoRing) rfl ⟨_, rfl, by omega, N, B⟩
end Go.Proofs.Ythjdklolbkhbfaa

/- 'szRing' and 'ValidRing' of both. -/
namespace Go.Fk
open Go Go.RowKit
def okRing (n : Nat) (k : Int) : Bool := (decide (1 ≤ (n : Int)) && decide ((n : Int) ≤ 1024)) && (decide (0 ≤ k) && decide (k < (n : Int)))
end Go.Fk
namespace Go.Proofs.Ythjdklolbkhbfaa
open Go.RowKit Go.Fk
theorem szRing_no (s : Value) (x : Nat → Nat) (n : Nat) (k : Int) (w : World) (hs : SlIn w s x n) (hn : ¬ n ≤ 1048576) :
    Calls Try.prog 22 #[.agg #[s, .int .i64 k], .int .i64 1048576] w fun e w' => e = .returned (.int .i64 (-1)) ∧ le w w' := by
  have HS := hid (hs.le (le_alloc w (.cells #[s, .int .i64 k] 24)))
  have HN := hid hs.small
  have HL := hid (le_alloc w (.cells #[s, .int .i64 k] 24))
  clear hs
  go_enter Try.func22, Try.ntmps22
  go_wp2_with (go_at_call 41; ((with_reducible refine (szS_no s x n 1048576 _ HS.out (by omega) (by omega) HN.out (by omega)).mono ?_); rintro e w2 ⟨rfl, rfl⟩))
  go_ret
  exact ⟨rfl, HL.out⟩
theorem szRing_yes (s : Value) (x : Nat → Nat) (n : Nat) (k : Int) (w : World) (hs : SlIn w s x n) (hn : n ≤ 1048576) :
    Calls Try.prog 22 #[.agg #[s, .int .i64 k], .int .i64 1048576] w fun e w' => e = .returned (.int .i64 (1048576 - n)) ∧ le w w' := by
  have HS := hid (hs.le (le_alloc w (.cells #[s, .int .i64 k] 24)))
  have HN := hid hs.small
  have HL := hid (le_alloc w (.cells #[s, .int .i64 k] 24))
  clear hs
  go_enter Try.func22, Try.ntmps22
  go_wp2_with (go_at_call 41; ((with_reducible refine (szS_yes s x n 1048576 _ HS.out (by omega) (by omega) HN.out (by omega)).mono ?_); rintro e w2 ⟨rfl, rfl⟩))
  go_ret
  exact ⟨rfl, HL.out⟩
set_option maxHeartbeats 2000000 in
theorem i_ValidRing (b n : Nat) (k : Int) (w : World) : Calls Try.prog 84 #[.agg #[.slice (some ⟨b, 0, none⟩) n n, .int .i64 k]] w fun e w' => e = .returned (.bool (okRing n k)) ∧ le w w' := by
  have HL := hid (le_alloc w (.cells #[.slice (some ⟨b, 0, none⟩) n n, .int .i64 k] 35))
  obtain ⟨z, hz⟩ : ∃ z, z = okRing n k := ⟨_, rfl⟩
  rw [← hz]
  unfold okRing at hz
  by_cases h1 : 1 ≤ (n : Int) <;> by_cases h2 : (n : Int) ≤ 1024 <;> by_cases h3 : 0 ≤ k <;> by_cases h4 : k < (n : Int)
  all_goals first | (exfalso; omega) | skip
  all_goals
    simp only [h1, h2, h3, h4, decide_true, decide_false, Bool.and_true, Bool.and_false, Bool.true_and, Bool.false_and] at hz
    have HZ := hid hz
    clear hz
    go_enter Try.func84, Try.ntmps84
    go_wp2
    go_ret
    exact ⟨ret_b HZ.out.symm, HL.out⟩
end Go.Proofs.Ythjdklolbkhbfaa

/- What math.Float32bits and math.Float32frombits give. -/
namespace Go.Proofs.Ythjdklolbkhbfaa
open Go.RowKit Go.Fk

@[go_sem] theorem run_f32bits (x : Nat) (w : World) : (callFunc 69 #[.float .f32 x]).run Try.prog w = .ok (.value (.int .u32 x)) w := by
  rw [run_callFunc_extern (e := Extern.MathFloatBits.float32bits) Try.func69 (by kernel_rfl) (by kernel_rfl) (by kernel_rfl) (by kernel_rfl)]; rfl
end Go.Proofs.Ythjdklolbkhbfaa

/- What math.Float32frombits gives. -/
namespace Go.Proofs.Ythjdklolbkhbfaa
open Go.RowKit Go.Fk

@[go_sem] theorem run_f32from (x : Int) (w : World) : (callFunc 68 #[.int .u32 x]).run Try.prog w = .ok (.value (.float .f32 x.toNat)) w := by
  rw [run_callFunc_extern (e := Extern.MathFloatBits.float32frombits) Try.func68 (by kernel_rfl) (by kernel_rfl) (by kernel_rfl) (by kernel_rfl)]; rfl
end Go.Proofs.Ythjdklolbkhbfaa

/- Flushing: the plain function, the bits that it looks at, and the contracts of 'FlushSample' and 'l01Flush'. -/
namespace Go.Fk
open Go Go.RowKit

def flush (b : Nat) : Nat := if b % 2147483648 < 8388608 then 0 else b

theorem fits_flush {b : Nat} (h : fits .f32 b) : fits .f32 (flush b) := by
  unfold flush; split
  · simp [fits, Lit.wf]
  · exact h
theorem fits32 {b : Nat} (h : fits .f32 b) : b < 4294967296 := by
  simp only [fits, Lit.wf, decide_eq_true_eq] at h; omega

theorem and_low (x : Nat) : x &&& 2147483647 = x % 2147483648 := Nat.and_two_pow_sub_one_eq_mod x 31
theorem and_exp (x : Nat) (hx : x < 4294967296) : ((x &&& 2139095040) = 0) ↔ x % 2147483648 < 8388608 := by
  have e : x &&& 2139095040 = (x >>> 23 &&& 255) <<< 23 := by
    rw [Nat.shiftLeft_and_distrib]
    apply Nat.eq_of_testBit_eq
    intro i
    simp only [Nat.testBit_and, Nat.testBit_shiftLeft, Nat.testBit_shiftRight]
    by_cases hi : 23 ≤ i
    · simp only [hi, decide_true, Bool.true_and, show 23 + (i - 23) = i by omega]
      congr 1
      rw [show (2139095040 : Nat) = 255 <<< 23 by decide, Nat.testBit_shiftLeft]
      simp [hi]
    · simp only [hi, decide_false, Bool.false_and]
      rw [show (2139095040 : Nat) = 255 <<< 23 by decide, Nat.testBit_shiftLeft]
      simp [hi]
  rw [e, show (255 : Nat) = 2 ^ 8 - 1 by decide, Nat.and_two_pow_sub_one_eq_mod, Nat.shiftLeft_eq, Nat.shiftRight_eq_div_pow]
  omega

theorem bits_and_exp (x : Nat) (hx : x < 4294967296) : bits .and .u32 (x : Int) 2139095040 = ((x &&& 2139095040 : Nat) : Int) :=
  (bits_nat .u32 32 (by decide) (fun n h0 h1 => by rw [IntKind.wrap_u32]; omega) x 2139095040 (by omega) (by omega)).1
theorem bits_and_low (x : Nat) (hx : x < 4294967296) : bits .and .u32 (x : Int) 2147483647 = ((x % 2147483648 : Nat) : Int) := by
  rw [← and_low]
  exact (bits_nat .u32 32 (by decide) (fun n h0 h1 => by rw [IntKind.wrap_u32]; omega) x 2147483647 (by omega) (by omega)).1
theorem exp_zero {x : Nat} (hx : x < 4294967296) (h : x % 2147483648 < 8388608) : (bits .and .u32 (x : Int) 2139095040 == 0) = true := by
  rw [bits_and_exp x hx, (and_exp x hx).2 h]; rfl
theorem exp_pos {x : Nat} (hx : x < 4294967296) (h : ¬ x % 2147483648 < 8388608) : (bits .and .u32 (x : Int) 2139095040 == 0) = false := by
  rw [bits_and_exp x hx, beq_eq_false_iff_ne]
  intro e
  exact h ((and_exp x hx).1 (by exact_mod_cast e))

theorem order_min (r : Nat) (h : r < 2147483648) : (FloatKind.f32.format.order r 8388608 == some .lt) = decide (r < 8388608) := by
  have e1 : Ieee.single.signWeight = 2147483648 := by decide
  have e2 : Ieee.single.infRung = 2139095040 := by decide
  have e3 : Ieee.single.binade = 8388608 := by decide
  have e4 : Ieee.single.leastPlace = -149 := by decide
  have e5 : Ieee.single.read 8388608 = .number false 8388608 (-149) := by decide
  have e6 : r % 2147483648 = r := Nat.mod_eq_of_lt h
  have e7 : r / 2147483648 = 0 := by omega
  simp only [FloatKind.format, Ieee.Format.order, e5]
  simp only [Ieee.Format.read, e1, e2, e3, e4, e6, e7]
  split
  · rename_i h1
    have h0 : decide (r < 8388608) = true := by simpa using h1
    rw [h0]
    simp only [Ieee.Datum.order, Ieee.signed, beq_iff_eq, Option.some.injEq]
    refine Int.compare_eq_lt.2 ?_
    simp [Nat.shiftLeft_eq]
    omega
  · have h0 : decide (r < 8388608) = false := by simp; omega
    rw [h0, beq_eq_false_iff_ne]
    split
    · simp only [Ieee.Datum.order, Ieee.signed]
      intro h
      simp only [Option.some.injEq] at h
      have h := Int.compare_eq_lt.1 h
      rw [show min (-149 + ((r / 8388608 - 1 : Nat) : Int)) (-149) = -149 by omega] at h
      simp [Nat.shiftLeft_eq] at h
      have h3 : 0 < 2 ^ (r / 8388608 - 1) := Nat.two_pow_pos _
      have h4 : (8388608 + r % 8388608) * 1 ≤ (8388608 + r % 8388608) * 2 ^ (r / 8388608 - 1) := Nat.mul_le_mul_left _ h3
      rw [show (-149 + ((r / 8388608 - 1 : Nat) : Int) + 149).toNat = r / 8388608 - 1 by omega] at h
      generalize r / 8388608 - 1 = u at *
      have e : (((8388608 + r % 8388608) * 2 ^ u : Nat) : Int) = (8388608 + (r : Int) % 8388608) * 2 ^ u := by rw [Int.natCast_mul, Int.natCast_add, Int.natCast_emod, Int.natCast_pow]; rfl
      omega
    · split
      · simp [Ieee.Datum.order]
      · simp [Ieee.Datum.order]
end Go.Fk

namespace Go.Proofs.Ythjdklolbkhbfaa
open Go.RowKit Go.Fk
theorem i_FlushSample (x : Nat) (w : World) (hx : fits .f32 x) : Calls Try.prog 86 #[.float .f32 x] w fun e w' => e = .returned (.float .f32 (flush x)) ∧ w = w' := by
  by_cases h : x % 2147483648 < 8388608
  · have hz := exp_zero (fits32 hx) h
    go_enter Try.func86, Try.ntmps86
    go_wp2
    go_ret
    exact ⟨ret_f (by rw [flush, if_pos h]), rfl⟩
  · have hz := exp_pos (fits32 hx) h
    go_enter Try.func86, Try.ntmps86
    go_wp2
    go_ret
    exact ⟨ret_f (by rw [flush, if_neg h]), rfl⟩
theorem s_l01Abs (x : Nat) (w : World) (hx : fits .f32 x) : Calls Try.prog 47 #[.float .f32 x] w fun e w' => e = .returned (.float .f32 (x % 2147483648)) ∧ w = w' := by
  go_enter Try.func47, Try.ntmps47
  go_wp2
  go_ret
  exact ⟨ret_f (by rw [bits_and_low x (fits32 hx)]; omega), rfl⟩
theorem s_l01Flush (x : Nat) (w : World) (hx : fits .f32 x) : Calls Try.prog 79 #[.float .f32 x] w fun e w' => e = .returned (.float .f32 (flush x)) ∧ w = w' := by
  have ho := order_min (x % 2147483648) (by omega)
  by_cases h : x % 2147483648 < 8388608
  · rw [decide_eq_true h] at ho
    go_enter Try.func79, Try.ntmps79
    go_wp2_with (go_at_call 47; refine (s_l01Abs _ _ hx).mono ?_; rintro e w' ⟨rfl, rfl⟩)
    go_ret
    exact ⟨ret_f (by rw [flush, if_pos h]), rfl⟩
  · rw [decide_eq_false h] at ho
    go_enter Try.func79, Try.ntmps79
    go_wp2_with (go_at_call 47; refine (s_l01Abs _ _ hx).mono ?_; rintro e w' ⟨rfl, rfl⟩)
    go_ret
    exact ⟨ret_f (by rw [flush, if_neg h]), rfl⟩
end Go.Proofs.Ythjdklolbkhbfaa

/- 'isNaN', 'bitsOf', 'SameSample' and their like in the model. -/
namespace Go.Proofs.Ythjdklolbkhbfaa
open Go.RowKit Go.Fk

theorem i_isNaN (x : Nat) (w : World) : Calls Try.prog 91 #[.float .f32 x] w fun e w' => e = .returned (.bool (isNan .f32 x)) ∧ w = w' := by
  go_enter Try.func91, Try.ntmps91
  go_wp2
  go_ret
  exact ⟨rfl, rfl⟩
theorem s_l01NaN (x : Nat) (w : World) : Calls Try.prog 81 #[.float .f32 x] w fun e w' => e = .returned (.bool (isNan .f32 x)) ∧ w = w' := by
  go_enter Try.func81, Try.ntmps81
  go_wp2
  go_ret
  exact ⟨rfl, rfl⟩
theorem i_bitsOf (x : Nat) (w : World) : Calls Try.prog 90 #[.float .f32 x] w fun e w' => e = .returned (.int .u32 (can .f32 x)) ∧ w = w' := by
  cases h : isNan .f32 x
  all_goals
    go_enter Try.func90, Try.ntmps90
    go_wp2_with (go_at_call 91; refine (i_isNaN _ _).mono ?_; rintro e w' ⟨rfl, rfl⟩)
    go_ret
  · exact ⟨ret_i (by rw [can_of_not h]), rfl⟩
  · exact ⟨ret_i (by rw [can_of_nan h]; rfl), rfl⟩
theorem i_SameSample (x y : Nat) (w : World) : Calls Try.prog 89 #[.float .f32 x, .float .f32 y] w fun e w' => e = .returned (.bool (sameB x y)) ∧ w = w' := by
  go_enter Try.func89, Try.ntmps89
  go_wp2_with (go_at_call 90; refine (i_bitsOf _ _).mono ?_; rintro e w' ⟨rfl, rfl⟩)
  go_ret
  exact ⟨rfl, rfl⟩
theorem s_l01Same (x y : Nat) (w : World) : Calls Try.prog 67 #[.float .f32 x, .float .f32 y] w fun e w' => e = .returned (.bool (sameB x y)) ∧ w = w' := by
  cases h : isNan .f32 x <;> cases h2 : isNan .f32 y
  all_goals
    go_enter Try.func67, Try.ntmps67
    go_wp2_with (go_at_call 81; refine (s_l01NaN _ _).mono ?_; rintro e w' ⟨rfl, rfl⟩)
    go_ret
  · exact ⟨ret_b (sameB_num h h2).symm, rfl⟩
  · exact ⟨ret_b (sameB_mix (by rw [h, h2]; simp)).symm, rfl⟩
  · exact ⟨ret_b (sameB_mix (by rw [h, h2]; simp)).symm, rfl⟩
  · exact ⟨ret_b (sameB_nan h h2).symm, rfl⟩
end Go.Proofs.Ythjdklolbkhbfaa

/- Is a sample finite? -/
namespace Go.Fk
open Go Go.RowKit
/-- Is a sample finite? -/
def fin (x : Nat) : Bool := match FloatKind.f32.format.read x with | .number _ _ _ => true | _ => false
theorem fin_sub (x : Nat) : (FloatKind.f32.format.order (fop .sub .f32 x x) 0 == some .eq) = fin x := by
  cases hr : FloatKind.f32.format.read x with
  | nan s t =>
    have h : isNan .f32 x = true := by simp [isNan, hr, Ieee.Datum.isNaN]
    simp only [fin, hr, fop]
    rw [floatBits_nan_l h]
    decide
  | infinity s =>
    simp only [fin, hr, fop, floatBits, Ieee.Format.sub, Ieee.Datum.opposite, Ieee.Datum.sum]
    cases s <;> decide
  | number s m e =>
    simp only [fin, hr, fop, floatBits, Ieee.Format.sub, Ieee.Datum.opposite, Ieee.Datum.sum, Int.sub_self]
    have h1 : Ieee.signed s m (e - min e e).toNat + Ieee.signed (!s) m (e - min e e).toNat = 0 := by
      unfold Ieee.signed; cases s <;> simp <;> omega
    rw [h1]
    simp only [if_true, Option.map_some, Int.natAbs_zero, Ieee.Format.write, Ieee.Format.nearest]
    cases s <;> decide
end Go.Fk
namespace Go.Proofs.Ythjdklolbkhbfaa
open Go.RowKit Go.Fk
theorem s_l01Finite (x : Nat) (w : World) : Calls Try.prog 66 #[.float .f32 x] w fun e w' => e = .returned (.bool (fin x)) ∧ ∃ n, w' = w.drewN n := by
  go_enter Try.func66, Try.ntmps66
  go_wp2_with (with_reducible refine wpList_farith rfl rfl rfl rfl rfl ?_; intro r n hr hf)
  go_ret
  refine ⟨ret_b ?_, n, rfl⟩
  rw [← fin_sub, order_congr (hr.out.trans (can_fop _ _ _ _).symm) rfl]
end Go.Proofs.Ythjdklolbkhbfaa

/- What a state keeps of a number; is a number finite? -/
namespace Go.Fk
open Go Go.RowKit
theorem fin_bits (x : Nat) : fin x = decide (x % 2147483648 < 2139095040) := by
  have e1 : Ieee.single.signWeight = 2147483648 := by decide
  have e2 : Ieee.single.infRung = 2139095040 := by decide
  have e3 : Ieee.single.binade = 8388608 := by decide
  have e4 : Ieee.single.leastPlace = -149 := by decide
  simp only [fin, FloatKind.format, Ieee.Format.read, e1, e2, e3, e4]
  split
  · rename_i s m e h
    split at h
    · simp; omega
    · split at h
      · simp; omega
      · split at h <;> cases h
  · rename_i h
    split at h
    · exact absurd rfl (h _ _ _)
    · split at h
      · exact absurd rfl (h _ _ _)
      · simp; omega
theorem and_exp255 (x : Nat) (hx : x < 4294967296) : ((x &&& 2139095040) = 2139095040) ↔ ¬ x % 2147483648 < 2139095040 := by
  have e : x &&& 2139095040 = (x >>> 23 &&& 255) <<< 23 := by
    rw [Nat.shiftLeft_and_distrib]
    apply Nat.eq_of_testBit_eq
    intro i
    simp only [Nat.testBit_and, Nat.testBit_shiftLeft, Nat.testBit_shiftRight]
    by_cases hi : 23 ≤ i
    · simp only [hi, decide_true, Bool.true_and, show 23 + (i - 23) = i by omega]
      congr 1
      rw [show (2139095040 : Nat) = 255 <<< 23 by decide, Nat.testBit_shiftLeft]
      simp [hi]
    · simp only [hi, decide_false, Bool.false_and]
      rw [show (2139095040 : Nat) = 255 <<< 23 by decide, Nat.testBit_shiftLeft]
      simp [hi]
  rw [e, show (255 : Nat) = 2 ^ 8 - 1 by decide, Nat.and_two_pow_sub_one_eq_mod, Nat.shiftLeft_eq, Nat.shiftRight_eq_div_pow]
  omega
theorem exp_full {x : Nat} (hx : x < 4294967296) : (bits .and .u32 (x : Int) 2139095040 == 2139095040) = !fin x := by
  rw [bits_and_exp x hx, fin_bits]
  have h := and_exp255 x hx
  by_cases c : x % 2147483648 < 2139095040
  · have : ¬ (x &&& 2139095040) = 2139095040 := fun e => (h.1 e) c
    simp only [c, decide_true, Bool.not_true, beq_eq_false_iff_ne]
    intro e
    exact this (Int.ofNat_inj.1 e)
  · simp only [c, decide_false, Bool.not_false, beq_iff_eq]
    rw [h.2 c]; rfl
/-- What a state keeps. -/
def kept (v : Nat) : Nat := if fin v = true then flush v else 0
theorem fin_can {a b : Nat} (h : can .f32 a = can .f32 b) : fin a = fin b := by
  cases hn : isNan .f32 a
  · rw [eq_of_can h hn]
  · have hm := (isNan_of_can h).symm.trans hn
    obtain ⟨s, t, h1⟩ := read_nan hn
    obtain ⟨s', t', h2⟩ := read_nan hm
    simp [fin, h1, h2]
theorem fin_num {a : Nat} (h : fin a = true) : isNan .f32 a = false := by
  cases hr : FloatKind.f32.format.read a with
  | nan s t => simp [fin, hr] at h
  | infinity s => simp [fin, hr] at h
  | number s m e => simp [isNan, hr, Ieee.Datum.isNaN]
theorem kept_can {a b : Nat} (h : can .f32 a = can .f32 b) : kept a = kept b := by
  unfold kept
  rw [← fin_can h]
  split
  · rename_i hf
    rw [eq_of_can h (fin_num hf)]
  · rfl
theorem fits_kept {b : Nat} (h : fits .f32 b) : fits .f32 (kept b) := by
  unfold kept; split
  · exact fits_flush h
  · simp [fits, Lit.wf]
theorem same0_fin {v : Nat} (h : sameB v 0 = true) : fin v = true := by
  have e : can .f32 v = can .f32 0 := by
    simp only [sameB, beq_iff_eq] at h
    exact_mod_cast h
  rw [fin_can e]; decide
end Go.Fk
namespace Go.Proofs.Ythjdklolbkhbfaa
open Go.RowKit Go.Fk
theorem i_isFinite (x : Nat) (w : World) (hx : fits .f32 x) : Calls Try.prog 85 #[.float .f32 x] w fun e w' => e = .returned (.bool (fin x)) ∧ w = w' := by
  have hz := exp_full (fits32 hx)
  go_enter Try.func85, Try.ntmps85
  go_wp2
  go_ret
  refine ⟨ret_b ?_, rfl⟩
  rw [bne, hz, Bool.not_not]
theorem i_kept (x : Nat) (w : World) (hx : fits .f32 x) : Calls Try.prog 77 #[.float .f32 x] w fun e w' => e = .returned (.float .f32 (kept x)) ∧ w = w' := by
  cases h : fin x
  all_goals
    go_enter Try.func77, Try.ntmps77
    go_wp2_with (first | (go_at_call 85; refine (i_isFinite _ _ hx).mono ?_; rintro e w' ⟨rfl, rfl⟩) | (go_at_call 86; refine (i_FlushSample _ _ hx).mono ?_; rintro e w' ⟨rfl, rfl⟩))
    go_ret
    exact ⟨ret_f (by simp [kept, h]), rfl⟩
theorem s_Kept (x : Nat) (w : World) (hx : fits .f32 x) : Calls Try.prog 61 #[.float .f32 x] w fun e w' => e = .returned (.float .f32 (kept x)) ∧ ∃ n, w' = w.drewN n := by
  cases h : fin x
  all_goals
    go_enter Try.func61, Try.ntmps61
    go_wp2_with (first | (go_at_call 66; refine (s_l01Finite _ _).mono ?_; rintro e w' ⟨rfl, n0, rfl⟩) | (go_at_call 79; refine (s_l01Flush _ _ hx).mono ?_; rintro e w' ⟨rfl, rfl⟩))
    go_ret
    exact ⟨ret_f (by simp [kept, h]), _, rfl⟩
end Go.Proofs.Ythjdklolbkhbfaa

/- 'areUsed': the first numbers are finite, the others 0. -/
namespace Go.Fk
open Go Go.RowKit
def usedB (f : Nat → Nat) (n u : Nat) : Bool := (List.range n).all fun i => if i < u then fin (f i) else sameB (f i) 0
theorem usedB_fin {f : Nat → Nat} {n u i : Nat} (hi : i < u) (hu : u ≤ n) (h : fin (f i) = false) : usedB f n u = false := by
  simp only [usedB, List.all_eq_false, List.mem_range]
  exact ⟨i, by omega, by simp [hi, h]⟩
theorem usedB_zero {f : Nat → Nat} {n u i : Nat} (hi : u ≤ i) (hn : i < n) (h : sameB (f i) 0 = false) : usedB f n u = false := by
  simp only [usedB, List.all_eq_false, List.mem_range]
  exact ⟨i, hn, by simp [show ¬ i < u by omega, h]⟩
theorem usedB_yes {f : Nat → Nat} {n u : Nat} (h1 : ∀ i, i < u → fin (f i) = true) (h2 : ∀ i, u ≤ i → i < n → sameB (f i) 0 = true) : usedB f n u = true := by
  simp only [usedB, List.all_eq_true, List.mem_range]
  intro i hi
  by_cases c : i < u
  · simp [c, h1 i c]
  · simp [c, h2 i (by omega) hi]
/-- Are all finite? -/
def finB (f : Nat → Nat) (n : Nat) : Bool := (List.range n).all fun i => fin (f i)
theorem finB_no {f : Nat → Nat} {n i : Nat} (hi : i < n) (h : fin (f i) = false) : finB f n = false := by
  rw [Bool.eq_false_iff]; intro hh
  have := List.all_eq_true.1 hh i (List.mem_range.2 hi)
  rw [h] at this; cases this
theorem finB_yes {f : Nat → Nat} {n : Nat} (h : ∀ i, i < n → fin (f i) = true) : finB f n = true := List.all_eq_true.2 (fun i hi => h i (List.mem_range.1 hi))
theorem finB_all {f : Nat → Nat} {n : Nat} (h : finB f n = true) : ∀ i, i < n → fin (f i) = true := fun i hi => List.all_eq_true.1 h i (List.mem_range.2 hi)
theorem finB_ex {f : Nat → Nat} {n : Nat} (h : finB f n = false) : ∃ i, i < n ∧ fin (f i) = false := by
  apply Classical.byContradiction
  intro hn
  have : finB f n = true := finB_yes (fun i hi => by
    cases hb : fin (f i)
    · exact absurd ⟨i, hi, hb⟩ hn
    · rfl)
  rw [h] at this; cases this
end Go.Fk
namespace Go.Proofs.Ythjdklolbkhbfaa
open Go.RowKit Go.Fk
set_option maxHeartbeats 1000000 in
theorem i_areFinite (f : Nat → Nat) (a : Addr) (u cap : Nat) (w : World) (hu : u ≤ 9223372036854775807) (hf : ∀ i, i < u → fits .f32 (f i)) (hc : ∀ i, i < u → w.cell? (a.add i) = some (.float .f32 (f i))) :
    Calls Try.prog 73 #[.slice (some a) u cap] w fun e w' => e = .returned (.bool (finB f u)) ∧ w = w' := by
  have Hf := hid hf; have Hc := hid hc; clear hf hc
  go_enter Try.func73, Try.ntmps73
  go_wp2
  go_loop [7] (fun i => ∃ j : Nat, j ≤ u ∧ i = .int .i64 j ∧ Hid (∀ i, i < j → fin (f i) = true)) (fun i => u - (intOf i).toNat)
  case atStart => exact ⟨0, by omega, rfl, fun i hi => absurd hi (by omega)⟩
  case round =>
    obtain ⟨j, hj, rfl, HJ⟩ := hrel
    by_cases hlt : j < u
    · have cj := Hc.out j (by omega)
      have fj := hid (Hf.out j (by omega))
      cases hb : fin (f j)
      · go_wp2_with (go_at_call 85; refine (i_isFinite _ _ fj).mono ?_; rintro e w' ⟨rfl, rfl⟩)
        go_ret
        exact ⟨ret_b (finB_no hlt hb).symm, rfl⟩
      · go_wp2_with (go_at_call 85; refine (i_isFinite _ _ fj).mono ?_; rintro e w' ⟨rfl, rfl⟩)
        go_round
        case rel => exact ⟨j + 1, by omega, by go_num, fun i hi => by rcases Nat.lt_or_ge i j with h | h; exact HJ.out i h; rw [show i = j by omega]; exact hb⟩
        case measure => simp [intOf]; omega
    · obtain rfl : j = u := by omega
      go_wp2
      go_ret
      exact ⟨ret_b (finB_yes HJ.out).symm, rfl⟩
theorem i_areFinite_nil (f : Nat → Nat) (w : World) : Calls Try.prog 73 #[.slice none 0 0] w fun e w' => e = .returned (.bool (finB f 0)) ∧ w = w' := by
  go_enter Try.func73, Try.ntmps73
  go_wp2
  go_loop [7] (fun i => i = .int .i64 0) (fun _ => 0)
  case atStart => rfl
  case round =>
    obtain rfl := hrel
    go_wp2
    go_ret
    exact ⟨rfl, rfl⟩
set_option maxHeartbeats 1000000 in
theorem i_areUsed (f : Nat → Nat) (g o n u : Nat) (w : World) (hn : n < 100) (hu : u ≤ n) (hf : ∀ i, i < n → fits .f32 (f i)) (hc : ∀ i, i < n → w.cell? ⟨g, o + i, none⟩ = some (.float .f32 (f i))) :
    Calls Try.prog 83 #[.slice (some ⟨g, o, none⟩) n n, .int .i64 u] w fun e w' => e = .returned (.bool (usedB f n u)) ∧ w = w' := by
  have HA := hid (fun (w : World) (hc : ∀ i, i < n → w.cell? ⟨g, o + i, none⟩ = some (.float .f32 (f i))) => i_areFinite f ⟨g, o, none⟩ u n w (by omega) (fun i hi => hf i (by omega)) (fun i hi => by rw [add_none]; exact hc i (by omega)))
  have Hc := hid hc; clear hf hc
  obtain ⟨z, hz⟩ : ∃ z, z = finB f u := ⟨_, rfl⟩
  rw [← hz] at HA
  cases z
  · obtain ⟨i, hi, hb⟩ := finB_ex hz.symm
    have HZ := hid (usedB_fin hi hu hb)
    clear hz hb hi
    go_enter Try.func83, Try.ntmps83
    go_wp2_with (go_at_call 73; refine (HA.out _ Hc.out).mono ?_; rintro e w' ⟨rfl, rfl⟩)
    go_ret
    exact ⟨ret_b HZ.out.symm, rfl⟩
  have HJ := hid (finB_all hz.symm)
  clear hz
  rcases Nat.lt_or_ge u n with hlt0 | hge0
  · have h1 : (u : Int) ≤ n := by omega
    have h2 : (u : Int) < n := by omega
    go_enter Try.func83, Try.ntmps83
    go_wp2_with (go_at_call 73; refine (HA.out _ Hc.out).mono ?_; rintro e w' ⟨rfl, rfl⟩)
    go_loop [16] (fun i => ∃ k : Nat, k ≤ n - u ∧ i = .int .i64 k ∧ Hid (∀ i, u ≤ i → i < u + k → sameB (f i) 0 = true)) (fun i => (n - u) - (intOf i).toNat)
    case atStart => exact ⟨0, by omega, rfl, fun i h1 h2 => absurd h2 (by omega)⟩
    case round =>
      obtain ⟨k, hk, rfl, HK⟩ := hrel
      by_cases hkt : k < n - u
      · have ck : w.cell? ⟨g, o + u + k, none⟩ = some (.float .f32 (f (u + k))) := by rw [Nat.add_assoc]; exact Hc.out (u + k) (by omega)
        have k1 : (k : Int) < (n : Int) - u := by omega
        cases hb : sameB (f (u + k)) 0
        · go_wp2_with (go_at_call 89; refine (i_SameSample _ _ _).mono ?_; rintro e w' ⟨rfl, rfl⟩)
          go_ret
          exact ⟨ret_b (usedB_zero (show u ≤ u + k by omega) (by omega) hb).symm, rfl⟩
        · go_wp2_with (go_at_call 89; refine (i_SameSample _ _ _).mono ?_; rintro e w' ⟨rfl, rfl⟩)
          go_round
          case rel => exact ⟨k + 1, by omega, by go_num, fun i h1 h2 => by rcases Nat.lt_or_ge i (u + k) with h | h; exact HK.out i h1 h; rw [show i = u + k by omega]; exact hb⟩
          case measure => simp [intOf]; omega
      · have k1 : ¬ (k : Int) < (n : Int) - u := by omega
        go_wp2
        go_ret
        exact ⟨ret_b (usedB_yes (HJ.out) (fun i h1 h2 => HK.out i h1 (by omega))).symm, rfl⟩
  · obtain rfl : u = n := by omega
    clear hu hge0
    go_enter Try.func83, Try.ntmps83
    go_wp2_with (go_at_call 73; refine (HA.out _ Hc.out).mono ?_; rintro e w' ⟨rfl, rfl⟩)
    go_loop [16] (fun i => i = .int .i64 0) (fun i => 0)
    case atStart => rfl
    case round =>
      obtain rfl := hrel
      go_wp2
      go_ret
      exact ⟨ret_b (usedB_yes (HJ.out) (fun i h1 h2 => absurd h2 (by omega))).symm, rfl⟩
end Go.Proofs.Ythjdklolbkhbfaa

/- Values that lead to blocks' cells (never into the midst of a word): what one owns is read so. Lists of rings. Nothing here names a program. -/
namespace Go.Fk
open Go Go.RowKit
def CD.RdN (w : World) (B : Nat) : CD → Value → Prop
  | .int k z, v => CD.leaf (.int k z) v
  | .flt k x, v => CD.leaf (.flt k x) v
  | .fcn k x, v => CD.leaf (.fcn k x) v
  | .bool b, v => CD.leaf (.bool b) v
  | .str s, v => CD.leaf (.str s) v
  | .sl wd n x, v => (v = .slice none 0 0 ∧ n = 0) ∨ ∃ b o cap, v = .slice (some ⟨b, o, none⟩) n cap ∧ n ≤ cap ∧ cap ≤ maxLen ∧ ∀ i, i < n * wd → b < B ∧ ∃ u, w.cell? ⟨b, o + i, none⟩ = some u ∧ CD.RdN w B (x i) u
theorem CD.RdN.rd {w : World} {B : Nat} : ∀ {c : CD} {v : Value}, c.RdN w B v → c.Rd w B v := by
  intro c
  induction c with
  | sl wd n x ih =>
    intro v h
    rcases h with h | ⟨b, o, cap, h1, h2, h3, h4⟩
    · exact .inl h
    · exact .inr ⟨⟨b, o, none⟩, cap, h1, h2, h3, fun i hi => by obtain ⟨h5, u, h6, h7⟩ := h4 i hi; exact ⟨h5, u, by rw [add_none]; exact h6, ih i h7⟩⟩
  | _ => intro v h; exact h
theorem CD.RdN.le {w w' : World} {B : Nat} (hl : Fk.le w w') : ∀ {c : CD} {v : Value}, c.RdN w B v → c.RdN w' B v := by
  intro c
  induction c with
  | sl wd n x ih =>
    intro v h
    rcases h with h | ⟨b, o, cap, h1, h2, h3, h4⟩
    · exact .inl h
    · exact .inr ⟨b, o, cap, h1, h2, h3, fun i hi => by obtain ⟨h5, u, h6, h7⟩ := h4 i hi; exact ⟨h5, u, (Below.cell hl (cell_lt' h6)).trans h6, ih i h7⟩⟩
  | _ => intro v h; exact h
theorem CD.Lay.rdN {w : World} {B : Nat} : ∀ {c : CD} {S : Nat → Prop} {v : Value}, c.Lay w S v → (∀ j, S j → j < B) → c.RdN w B v := by
  intro c
  induction c with
  | sl wd n x ih =>
    intro S v h hS
    rcases h with h | ⟨b, o, cap, t, cs, h1, h2, h3, h4, h5, T, t1, t2, t3⟩
    · exact .inl h
    · refine .inr ⟨b, o, cap, h1, h2, h3, fun i hi => ?_⟩
      obtain ⟨u, hu, hl⟩ := t3 i hi
      exact ⟨hS b h4, u, (h5.cell? (o + i)).trans hu, ih i hl (fun j hj => hS j (t1 i j hj).1)⟩
  | _ => intro S v h _; exact h
theorem CD.RdN.form {w : World} {B wd n : Nat} {x : Nat → CD} {s : Value} (h : (CD.sl wd n x).RdN w B s) : (s = .slice none 0 0 ∧ n = 0) ∨ ∃ b o cap, s = .slice (some ⟨b, o, none⟩) n cap ∧ n ≤ cap ∧ cap ≤ maxLen := by
  rcases h with h | ⟨b, o, cap, h1, h2, h3, _⟩
  · exact .inl h
  · exact .inr ⟨b, o, cap, h1, h2, h3⟩
theorem CD.RdN.cell {w : World} {B wd n b o cap : Nat} {x : Nat → CD} (h : (CD.sl wd n x).RdN w B (.slice (some ⟨b, o, none⟩) n cap)) {i : Nat} (hi : i < n * wd) : ∃ u, w.cell? ⟨b, o + i, none⟩ = some u ∧ (x i).RdN w B u := by
  rcases h with ⟨h, _⟩ | ⟨b', o', cap', h1, _, _, h4⟩
  · cases h
  · simp only [Value.slice.injEq, Option.some.injEq, Addr.mk.injEq, and_true, true_and] at h1
    obtain ⟨⟨rfl, rfl⟩, rfl⟩ := h1
    obtain ⟨_, u, h5, h6⟩ := h4 i hi
    exact ⟨u, h5, h6⟩
def RdLN (w : World) (B : Nat) (cs : List CD) (vs : List Value) : Prop := vs.length = cs.length ∧ ∀ (i : Nat) (v : Value) (c : CD), vs[i]? = some v → cs[i]? = some c → c.RdN w B v
theorem RdLN.inv {w : World} {B : Nat} {c : CD} {cs : List CD} {vs : List Value} (h : RdLN w B (c :: cs) vs) : ∃ v vs', vs = v :: vs' ∧ c.RdN w B v ∧ RdLN w B cs vs' := by
  obtain ⟨h0, h1⟩ := h
  cases vs with
  | nil => simp at h0
  | cons v vs => exact ⟨v, vs, rfl, h1 0 v c rfl rfl, by simpa using h0, fun i v' c' hv hc => h1 (i + 1) v' c' (by simpa using hv) (by simpa using hc)⟩
theorem RdLN.inv0 {w : World} {B : Nat} {vs : List Value} (h : RdLN w B [] vs) : vs = [] := by
  have := h.1
  cases vs with
  | nil => rfl
  | cons => simp at this
theorem LayL.rdN {w : World} {B : Nat} {S : Nat → Prop} {cs : List CD} {vs : List Value} (h : LayL w S cs vs) (hS : ∀ j, S j → j < B) : RdLN w B cs vs := by
  obtain ⟨h0, T, t1, t2, t3⟩ := h
  exact ⟨h0, fun i v c hv hc => (t3 i v c hv hc).rdN (fun j hj => hS j (t1 i j hj))⟩
theorem RdLN.le {w w' : World} {B : Nat} {cs : List CD} {vs : List Value} (h : RdLN w B cs vs) (hl : Fk.le w w') : RdLN w' B cs vs := ⟨h.1, fun i v c hv hc => (h.2 i v c hv hc).le hl⟩
theorem RdLN.rd {w : World} {B : Nat} {cs : List CD} {vs : List Value} (h : RdLN w B cs vs) : RdL w B cs vs := ⟨h.1, fun i v c hv hc => (h.2 i v c hv hc).rd⟩
theorem Frg.layN {w0 w : World} {L : List Fact} (h : Frg w0 w L) {lo hi : Nat} {cs : List CD} {vs : List Value} (hm : layF lo hi cs vs ∈ L) : RdLN w hi cs vs := (h.lay hm).rdN (fun _ hj => hj.2)
/-- Do all hold? -/
def allB (p : Nat → Bool) (n : Nat) : Bool := (List.range n).all p
theorem allB_no {p : Nat → Bool} {n i : Nat} (hi : i < n) (h : p i = false) : allB p n = false := by
  rw [Bool.eq_false_iff]; intro hh
  have := List.all_eq_true.1 hh i (List.mem_range.2 hi)
  rw [h] at this; cases this
theorem allB_yes {p : Nat → Bool} {n : Nat} (h : ∀ i, i < n → p i = true) : allB p n = true := List.all_eq_true.2 (fun i hi => h i (List.mem_range.1 hi))
theorem allB_all {p : Nat → Bool} {n : Nat} (h : allB p n = true) : ∀ i, i < n → p i = true := fun i hi => List.all_eq_true.1 h i (List.mem_range.2 hi)
theorem allB_ex {p : Nat → Bool} {n : Nat} (h : allB p n = false) : ∃ i, i < n ∧ p i = false := by
  apply Classical.byContradiction
  intro hn
  have : allB p n = true := allB_yes (fun i hi => by
    cases hb : p i
    · exact absurd ⟨i, hi, hb⟩ hn
    · rfl)
  rw [h] at this; cases this
theorem finB_allB (f : Nat → Nat) (n : Nat) : finB f n = allB (fun i => fin (f i)) n := rfl
/-- The ring with an index in a list. -/
def rgN (x : Nat → CD) (k : Nat) : Nat := match x (k * 2) with | .sl _ n _ => n | _ => 0
def rgX (x : Nat → CD) (k : Nat) : Nat → Nat := match x (k * 2) with | .sl _ _ y => fun i => (y i).fx | _ => fun _ => 0
def rgK (x : Nat → CD) (k : Nat) : Int := match x (k * 2 + 1) with | .int _ z => z | _ => 0
def rgOk (x : Nat → CD) (k : Nat) : Bool := okRing (rgN x k) (rgK x k) && finB (rgX x k) (rgN x k)
/-- A list of rings. -/
def RgsOk (x : Nat → CD) (n : Nat) : Prop := ∀ k, k < n → (∃ y, x (k * 2) = .sl 1 (rgN x k) y ∧ (∀ i, i < rgN x k → (y i).flk = some .f32) ∧ rgX x k = fun i => (y i).fx) ∧ x (k * 2 + 1) = .int .i64 (rgK x k)
theorem rgs_ok {x : Nat → CD} {n : Nat} {e : Nat → Sh} (h : ∀ i, i < n → ∀ j, j < 2 → ShOk (e j) (x (i * 2 + j))) (h0 : ∃ f, e 0 = .sl 1 f ∧ f 0 = .flt .f32) (h1 : e 1 = .int .i64) : RgsOk x n := fun k hk => by
  obtain ⟨f, f0, f1⟩ := h0
  have a := h k hk 0 (by omega)
  have b := h k hk 1 (by omega)
  rw [f0] at a
  rw [h1] at b
  obtain ⟨m, y, e1, e2⟩ := a
  obtain ⟨z, e3⟩ := b
  have e1' : x (k * 2) = .sl 1 m y := by simpa using e1
  have n1 : rgN x k = m := by unfold rgN; rw [e1']
  refine ⟨⟨y, by rw [n1]; exact e1', ?_, by unfold rgX; rw [e1']⟩, ?_⟩
  · rw [n1]; exact ShOk.flts e2 f1
  · unfold rgK; rw [e3]
theorem RgsOk.rds {x : Nat → CD} {n k B : Nat} {w : World} {u : Value} (h : RgsOk x n) (hk : k < n) (hr : (x (k * 2)).Rd w B u) : RdS w B u (rgX x k) (rgN x k) := by
  obtain ⟨⟨y, e1, e2, e3⟩, _⟩ := h k hk
  rw [e1] at hr
  rw [e3]
  exact hr.rdf e2
theorem RgsOk.int {x : Nat → CD} {n k B : Nat} {w : World} {u : Value} (h : RgsOk x n) (hk : k < n) (hr : (x (k * 2 + 1)).Rd w B u) : u = .int .i64 (rgK x k) ∧ (Lit.int .i64 (rgK x k)).wf = true := by
  rw [(h k hk).2] at hr
  exact hr
/-- The rings of a list, where it lies. -/
theorem RgsOk.at {x : Nat → CD} {n k B b o cap : Nat} {w : World} (h : RgsOk x n) (hr : (CD.sl 2 n x).RdN w B (.slice (some ⟨b, o, none⟩) n cap)) (hk : k < n) : ∃ u, w.cell? ⟨b, o + k * 2, none⟩ = some u ∧ w.cell? ⟨b, o + k * 2 + 1, none⟩ = some (.int .i64 (rgK x k)) ∧ (Lit.int .i64 (rgK x k)).wf = true ∧ RdS w B u (rgX x k) (rgN x k) := by
  obtain ⟨u, h1, h2⟩ := hr.cell (i := k * 2) (by omega)
  obtain ⟨v, h3, h4⟩ := hr.cell (i := k * 2 + 1) (by omega)
  obtain ⟨rfl, h5⟩ := h.int hk h4.rd
  exact ⟨u, h1, by rw [Nat.add_assoc]; exact h3, h5, h.rds hk h2.rd⟩
end Go.Fk

/- Marks: what the laws write into memory that one owns, by trees of data. Nothing here names a program. -/
namespace Go.Fk
open Go Go.RowKit
/-- How many marks an element takes. -/
def CD.mkE : CD → Nat
  | .sl wd n x => sumTo (fun i => (x i).mkE) (n * wd)
  | _ => 1
/-- What an element is behind them. -/
def CD.mk : CD → Int → CD
  | .int k _, z => .int k z
  | .flt k _, z => .fcn k (floatOfInt k z)
  | .fcn k _, z => .fcn k (floatOfInt k z)
  | .sl wd n x, z => .sl wd n (fun i => (x i).mk (z + (sumTo (fun j => (x j).mkE) i : Nat)))
  | c, _ => c
/-- The same for a cell that comes as a value: only what it leads to is marked. -/
def CD.mt : CD → Nat
  | .sl wd n x => (CD.sl wd n x).mkE
  | _ => 0
def CD.mkT : CD → Int → CD
  | .sl wd n x, z => (CD.sl wd n x).mk z
  | c, _ => c
def mtL : List CD → Nat
  | [] => 0
  | c :: cs => c.mt + mtL cs
def mkL : List CD → Int → List CD
  | [], _ => []
  | c :: cs, z => c.mkT z :: mkL cs (z + (c.mt : Nat))
theorem mtL_append (a b : List CD) : mtL (a ++ b) = mtL a + mtL b := by
  induction a with
  | nil => simp [mtL]
  | cons c a ih => simp only [List.cons_append, mtL, ih]; omega
theorem mkL_append (a b : List CD) : ∀ z : Int, mkL (a ++ b) z = mkL a z ++ mkL b (z + (mtL a : Nat)) := by
  induction a with
  | nil => intro z; simp [mkL, mtL]
  | cons c a ih => intro z; simp only [List.cons_append, mkL, ih, mtL]; congr 3; push_cast; omega
theorem mkL_length (a : List CD) : ∀ z : Int, (mkL a z).length = a.length := by
  induction a with
  | nil => intro z; rfl
  | cons c a ih => intro z; simp [mkL, ih]
theorem CD.mt_fl {c : CD} {k : FloatKind} (h : c.flk = some k) : c.mt = 0 := by
  cases c <;> simp [CD.flk] at h <;> rfl
theorem CD.mkT_fl {c : CD} {k : FloatKind} (h : c.flk = some k) (z : Int) : c.mkT z = c := by
  cases c <;> simp [CD.flk] at h <;> rfl
theorem mkE_flts {n : Nat} {x : Nat → CD} (h : ∀ i, i < n → (x i).flk = some .f32) {m : Nat} (hm : m ≤ n) : sumTo (fun i => (x i).mkE) m = m := by
  induction m with
  | zero => rfl
  | succ m ih =>
    simp only [sumTo]
    rw [ih (by omega)]
    have := h m (by omega)
    cases hx : x m <;> rw [hx] at this <;> simp [CD.flk] at this <;> rfl
theorem CD.mt_flts {n : Nat} {x : Nat → CD} (h : ∀ i, i < n → (x i).flk = some .f32) : (CD.sl 1 n x).mt = n := by
  simp only [CD.mt, CD.mkE, Nat.mul_one]
  exact mkE_flts h (Nat.le_refl _)
/-- A slice of floats, marked. -/
theorem CD.mk_flts {n : Nat} {x : Nat → CD} (h : ∀ i, i < n → (x i).flk = some .f32) (z : Int) : (CD.sl 1 n (fun i => .fcn .f32 (markW z i))).Eqv ((CD.sl 1 n x).mkT z) := by
  refine ⟨_, rfl, fun i hi => ?_⟩
  have hi' : i < n := by simpa using hi
  have hf := h i hi'
  rw [mkE_flts h (by omega)]
  cases hx : x i <;> rw [hx] at hf <;> simp [CD.flk] at hf <;> subst hf <;> exact CD.Eqv.refl _
theorem CD.Eqv.symm : ∀ {c d : CD}, c.Eqv d → d.Eqv c := by
  intro c
  induction c with
  | sl wd n x ih => intro d h; obtain ⟨y, rfl, hy⟩ := h; exact ⟨x, rfl, fun i hi => ih i (hy i hi)⟩
  | _ => intro d h; cases h; rfl
/-- A cell that does not lead to memory. -/
def CD.noS (c : CD) : Prop := ∀ wd n x, c ≠ .sl wd n x
theorem CD.noS.mt {c : CD} (h : c.noS) : c.mt = 0 := by
  cases c with
  | sl wd n x => exact absurd rfl (h wd n x)
  | _ => rfl
theorem CD.noS.mkT {c : CD} (h : c.noS) (z : Int) : c.mkT z = c := by
  cases c with
  | sl wd n x => exact absurd rfl (h wd n x)
  | _ => rfl
theorem noS_fl {c : CD} {k : FloatKind} (h : c.flk = some k) : c.noS := flk_ne h
theorem noS_int {k : IntKind} {z : Int} : (CD.int k z).noS := by intro a b c e; cases e
theorem noS_bool {b : Bool} : (CD.bool b).noS := by intro a b c e; cases e
theorem noS_str {b : ByteArray} : (CD.str b).noS := by intro a b c e; cases e
theorem noL_nil : ∀ c ∈ ([] : List CD), c.noS := fun c h => by cases h
theorem noL_cons {c : CD} {cs : List CD} (h : c.noS) (hs : ∀ d ∈ cs, d.noS) : ∀ d ∈ c :: cs, d.noS := fun d hd => by
  rcases List.mem_cons.1 hd with rfl | hd
  · exact h
  · exact hs d hd
theorem mkL_leaf {cs : List CD} (h : ∀ c ∈ cs, c.noS) : mtL cs = 0 ∧ ∀ z, mkL cs z = cs := by
  induction cs with
  | nil => exact ⟨rfl, fun _ => rfl⟩
  | cons c cs ih =>
    obtain ⟨h1, h2⟩ := ih (fun d hd => h d (List.mem_cons_of_mem _ hd))
    have h0 := h c List.mem_cons_self
    exact ⟨by simp [mtL, h0.mt, h1], fun z => by simp [mkL, h0.mkT, h2]⟩
theorem mkL_leaf_end {a cs : List CD} (h : ∀ c ∈ cs, c.noS) (z : Int) : mkL (a ++ cs) z = mkL a z ++ cs := by
  rw [mkL_append, (mkL_leaf h).2]
theorem LayL.atz {w : World} {S : Nat → Prop} {cs : List CD} {vs : List Value} {z z' : Int} (h : LayL w S (mkL cs z) vs) (e : z = z') : LayL w S (mkL cs z') vs := e ▸ h
theorem RdL.atz {w : World} {B : Nat} {cs : List CD} {vs : List Value} {z z' : Int} (h : RdL w B (mkL cs z) vs) (e : z = z') : RdL w B (mkL cs z') vs := e ▸ h
/-- What does not lead to memory stands anywhere. -/
theorem LayL.leafs {w w' : World} {S S' : Nat → Prop} {cs : List CD} {vs : List Value} (hc : ∀ c ∈ cs, c.noS) (h : LayL w S cs vs) (z : Int) : LayL w' S' (mkL cs z) vs := by
  rw [(mkL_leaf hc).2]
  obtain ⟨h0, T, t1, t2, t3⟩ := h
  refine ⟨h0, fun _ _ => False, fun _ _ h => h.elim, fun _ _ _ h => h.elim, fun i v c hv hc' => ?_⟩
  have h1 := t3 i v c hv hc'
  have h2 := hc c (List.mem_of_getElem? hc')
  cases c with
  | sl wd n x => exact absurd rfl (h2 wd n x)
  | _ => exact h1
theorem RdL.leafs {w : World} {B : Nat} {cs : List CD} {vs : List Value} {z : Int} (hc : ∀ c ∈ cs, c.noS) (h : RdL w B (mkL cs z) vs) : RdL w B cs vs := by
  rwa [(mkL_leaf hc).2] at h
theorem LayL.lt {w : World} {S : Nat → Prop} {cs : List CD} {vs : List Value} (h : LayL w S cs vs) : LayL w (fun j => S j ∧ j < w.heap.size) cs vs := by
  obtain ⟨h0, T, t1, t2, t3⟩ := h
  exact ⟨h0, fun i j => T i j ∧ j < w.heap.size, fun i j h => ⟨t1 i j h.1, h.2⟩, fun i i' j a b => t2 i i' j a.1 b.1, fun i v c hv hc => (t3 i v c hv hc).lt⟩
theorem LayL.split {w : World} {S : Nat → Prop} {a b : List CD} {vs : List Value} (h : LayL w S (a ++ b) vs) : ∃ va vb S1 S2, vs = va ++ vb ∧ LayL w S1 a va ∧ LayL w S2 b vb ∧ (∀ j, S1 j → S j) ∧ (∀ j, S2 j → S j) ∧ (∀ j, S1 j → S2 j → False) := by
  obtain ⟨h0, T, t1, t2, t3⟩ := h
  have hl : vs.length = a.length + b.length := by simpa using h0
  refine ⟨vs.take a.length, vs.drop a.length, fun j => ∃ i, i < a.length ∧ T i j, fun j => ∃ i, T (a.length + i) j, (List.take_append_drop _ _).symm, ⟨by simp; omega, fun i j => i < a.length ∧ T i j, fun i j h => ⟨i, h⟩, fun i i' j x y => t2 i i' j x.2 y.2, fun i v c hv hc => ?_⟩, ⟨by simp; omega, fun i j => T (a.length + i) j, fun i j h => ⟨i, h⟩, fun i i' j x y => by have := t2 _ _ j x y; omega, fun i v c hv hc => ?_⟩, fun j ⟨i, h⟩ => t1 i j h.2, fun j ⟨i, h⟩ => t1 _ j h, fun j ⟨i, h⟩ ⟨i', h'⟩ => by have := t2 _ _ j h.2 h'; omega⟩
  · have hi : i < a.length := (List.getElem?_eq_some_iff.1 hc).1
    refine (t3 i v c (by rw [List.getElem?_take] at hv; simpa [hi] using hv) (by rw [List.getElem?_append_left hi]; exact hc)).mono (fun j hj => ⟨hi, hj⟩)
  · exact t3 (a.length + i) v c (by rw [List.getElem?_drop] at hv; exact hv) (by rw [List.getElem?_append_right (by omega)]; simpa using hc)
theorem RdL.split {w : World} {B : Nat} {a b : List CD} {vs : List Value} (h : RdL w B (a ++ b) vs) : ∃ va vb, vs = va ++ vb ∧ RdL w B a va ∧ RdL w B b vb := by
  obtain ⟨h0, h1⟩ := h
  have hl : vs.length = a.length + b.length := by simpa using h0
  refine ⟨vs.take a.length, vs.drop a.length, (List.take_append_drop _ _).symm, ⟨by simp; omega, fun i v c hv hc => ?_⟩, ⟨by simp; omega, fun i v c hv hc => ?_⟩⟩
  · have hi : i < a.length := (List.getElem?_eq_some_iff.1 hc).1
    exact h1 i v c (by rw [List.getElem?_take] at hv; simpa [hi] using hv) (by rw [List.getElem?_append_left hi]; exact hc)
  · exact h1 (a.length + i) v c (by rw [List.getElem?_drop] at hv; exact hv) (by rw [List.getElem?_append_right (by omega)]; simpa using hc)
/-- What lies apart from what has turned, stands. -/
theorem LayL.apart {w w' : World} {S T : Nat → Prop} {cs : List CD} {vs : List Value} (h : LayL w S cs vs) (k : Chg T w w') (hd : ∀ j, S j → T j → False) : LayL w' S cs vs :=
  (h.lt.ok (fun j hj => k.block j hj.2 (fun hT => hd j hj.1 hT))).mono (fun _ hj => hj.1)
/-- The frame over a base in which older blocks have turned as well. -/
theorem Frg.rebase {w0 w w' : World} {L : List Fact} (h : Frg w0 w L) {S : Nat → Prop} (k : Chg S w w') (hS : ∀ j, S j → j < w0.heap.size) : ∃ wb, Frg wb w' L ∧ Chg S w0 wb ∧ wb.heap.size = w0.heap.size ∧ ∀ j, j < w0.heap.size → wb.heap[j]? = w'.heap[j]? := by
  have hz : w0.heap.size ≤ w'.heap.size := Nat.le_trans h.below.size k.size
  have hh : ∀ j, j < w0.heap.size → (w'.heap.extract 0 w0.heap.size)[j]? = w'.heap[j]? := fun j hj => by
    rw [Array.getElem?_extract]; simp; intro hq; omega
  have hs : (w'.heap.extract 0 w0.heap.size).size = w0.heap.size := by simp; omega
  refine ⟨{ w' with heap := w'.heap.extract 0 w0.heap.size }, ⟨⟨rfl, rfl, rfl, by show _ ≤ _; rw [hs]; exact hz, fun j hj => ?_⟩, fun e he => ?_, h.apart⟩, ⟨k.os.trans h.below.os, k.tape.trans h.below.tape, k.output.trans h.below.output, by show _ ≤ _; rw [hs]; exact Nat.le_refl _, fun j hj hn => ?_⟩, hs, hh⟩
  · have hj' : j < w0.heap.size := by have : j < (w'.heap.extract 0 w0.heap.size).size := hj; omega
    exact (hh j hj').symm
  · obtain ⟨h1, h2, h3⟩ := h.facts e he
    refine ⟨by show _ ≤ _; rw [hs]; exact h1, Nat.le_trans h2 k.size, e.ok w w' h3 (fun i hi1 hi2 => k.block i (by omega) (fun hq => by have := hS i hq; omega))⟩
  · show (w'.heap.extract 0 w0.heap.size)[j]? = w0.heap[j]?
    rw [hh j hj, k.block j (Nat.lt_of_lt_of_le hj h.below.size) hn, h.below.block j hj]
/-- A fact, by its place in the list, is turned. -/
theorem Frg.markAt {w0 w w' : World} {L : List Fact} (i : Nat) {lo hi : Nat} {cs cs' : List CD} {us : List Value} (h : Frg w0 w L) (hp : LayL w' (rng lo hi) cs' us) (k : Chg (rng lo hi) w w') (hi' : L[i]? = some (layF lo hi cs us)) : Frg w0 w' (L.set i (layF lo hi cs' us)) := by
  obtain ⟨hlt, he⟩ := List.getElem?_eq_some_iff.1 hi'
  have e1 : L = L.take i ++ layF lo hi cs us :: L.drop (i + 1) := by
    rw [← he, List.getElem_cons_drop, List.take_append_drop]
  have e2 : L.set i (layF lo hi cs' us) = L.take i ++ layF lo hi cs' us :: L.drop (i + 1) := List.set_eq_take_append_cons_drop.trans (if_pos hlt)
  rw [e2]
  rw [e1] at h
  exact Frg.chg _ (e' := layF lo hi cs' us) h k hp rfl rfl
theorem mkE_cn : ∀ c : CD, c.cn.mkE = c.mkE := by
  intro c
  induction c with
  | sl wd n x ih => simp only [CD.cn, CD.mkE]; congr 1; funext i; exact ih i
  | _ => rfl
theorem mt_cp (c : CD) : c.cp.mt = c.mt := by
  cases c with
  | sl wd n x => exact mkE_cn (.sl wd n x)
  | _ => rfl
theorem mtL_cp (cs : List CD) : mtL (cs.map CD.cp) = mtL cs := by
  induction cs with
  | nil => rfl
  | cons c cs ih => simp only [List.map_cons, mtL, mt_cp, ih]
end Go.Fk
namespace Go.Proofs.Ythjdklolbkhbfaa
open Go.RowKit Go.Fk
set_option maxHeartbeats 1000000 in
theorem markU_Float32S (S : Nat → Prop) (n : Nat) (x : Nat → CD) (s : Value) (z : Int) (w : World) (hn : mtL [CD.sl 1 n x] ≤ 1048576) (hz : 0 ≤ z) (hz2 : z ≤ 1073741824) (hx : ∀ i, i < n → ∀ j, j < 1 → ShOk ([Sh.flt .f32].getD j .bool) (x (i * 1 + j))) (hs : LayL w S [.sl 1 n x] [s]) :
    Calls Try.prog 20 #[s, .int .i64 z] w fun e w' => e = .returned (.int .i64 (z + (mtL [CD.sl 1 n x] : Nat))) ∧ LayL w' S (mkL [.sl 1 n x] z) [s] ∧ Chg S w w' := by
  have hx' := ShOk.flts hx rfl
  have em : mtL [CD.sl 1 n x] = n := by simp only [mtL, CD.mt_flts hx']; omega
  rw [em] at hn ⊢
  obtain ⟨v, vs, S1, S2, e0, hl, _, hS, _, _⟩ := hs.inv
  obtain ⟨rfl, rfl⟩ : s = v ∧ [] = vs := by simpa using e0
  have key : ∀ w', (CD.sl 1 n (fun i => .fcn .f32 (markW z i))).Lay w' S1 s → LayL w' S (mkL [.sl 1 n x] z) [s] := fun w' h => LayL.cons (h.congr (CD.mk_flts hx' z)) (LayL.nil _ (fun _ => False)) hS (fun _ h => h.elim) (fun _ _ h => h)
  have KEY := hid key; clear key e0 hs em
  rcases hl with ⟨rfl, rfl⟩ | ⟨b, o, cap, t, cs, rfl, hc, hg, hb, hr, T, t1, t2, t3⟩
  · go_enter Try.func20, Try.ntmps20
    go_wp2
    go_loop [1, 5] (fun m i => m = .int .i64 z ∧ i = .int .i64 0) (fun _ _ => 0)
    case atStart => exact ⟨rfl, rfl⟩
    case round =>
      obtain ⟨rfl, rfl⟩ := hrel
      go_wp2
      go_ret
      exact ⟨ret_i (by simp), KEY.out _ (.inl ⟨rfl, rfl⟩), Chg.refl _ _⟩
  · have hxx : ∀ j, j < n → ∃ y, cs[o + j]? = some (.float .f32 y) ∧ fits .f32 y := fun j hj => by
      obtain ⟨u, hu, hl⟩ := t3 j (by simpa using hj)
      have hl' : (x j).Rd w (w.heap.size) u := hl.lt.rd (fun j hj => hj.2)
      obtain ⟨y, rfl, e2, e3⟩ := hl'.fl (hx' j hj)
      exact ⟨y, hu, e2⟩
    have HR := hid hr; have HX := hid hxx; have HB := hid (hS b hb); have HS := hid hb; clear hr hx hxx t1 t2 t3 T hb hx'
    go_enter Try.func20, Try.ntmps20
    go_wp2
    go_loopw [1, 5] (fun m i wr => ∃ k : Nat, k ≤ n ∧ i = .int .i64 k ∧ m = .int .i64 (z + k) ∧ Hid (∃ ds, Row wr b t ds ∧ ∀ j, j < n → ∃ y, ds[o + j]? = some (.float .f32 y) ∧ fits .f32 y ∧ (j < k → can .f32 y = markW z j)) ∧ Hid (Chg S w wr)) (fun _ i _ => n - (intOf i).toNat)
    case atStart => exact ⟨0, by omega, rfl, by simp, ⟨cs, HR.out, fun j hj => by obtain ⟨y, e1, e2⟩ := HX.out j hj; exact ⟨y, e1, e2, fun h => absurd h (by omega)⟩⟩, Chg.refl _ _⟩
    case round =>
      obtain ⟨k, hk, rfl, rfl, HO, HU⟩ := hrel
      by_cases hlt : k < n
      · rename_i wr _
        obtain ⟨ds, hd, hy⟩ := HO.out
        obtain ⟨y0, c0, _⟩ := hy k hlt
        have c2 : wr.cell? ⟨b, o + k, none⟩ = some (.float .f32 y0) := (hd.cell? (o + k)).trans c0
        have f2 := hd.frozen (o + k)
        have HD := hid hd; have HY := hid hy; have HC := hid c0
        clear hd hy c0 HO
        go_wp2
        go_roundw
        case rel =>
          refine ⟨k + 1, by omega, by go_num, by go_num, ⟨_, HD.out.set (o + k) (.float .f32 (markW z k)), fun j hj => ?_⟩, Chg.setCell HU.out HB.out _⟩
          by_cases e : j = k
          · subst e
            refine ⟨markW z j, ?_, ?_, fun _ => ?_⟩
            · rw [Array.getElem?_setIfInBounds_self_of_lt (Array.getElem?_eq_some_iff.1 HC.out).1]
            · exact floatOfInt_wf .f32 _
            · exact can_int _
          · obtain ⟨y, e1, e2, e3⟩ := HY.out j hj
            exact ⟨y, by rw [Array.getElem?_setIfInBounds_ne (by omega)]; exact e1, e2, fun h => e3 (by omega)⟩
        case measure => simp [intOf]; omega
      · obtain rfl : k = n := by omega
        go_wp2
        go_ret
        obtain ⟨ds, hd, hy⟩ := HO.out
        exact ⟨rfl, KEY.out _ (.inr ⟨b, o, cap, t, ds, rfl, hc, hg, HS.out, hd, fun _ _ => False, fun _ _ h => h.elim, fun _ _ _ h => h.elim, fun j hj => by obtain ⟨y, e1, e2, e3⟩ := hy j (by simpa using hj); exact ⟨_, e1, y, rfl, e2, e3 (by simpa using hj)⟩⟩), HU.out⟩
theorem heldU_Float32S (B n : Nat) (x : Nat → CD) (s : Value) (z : Int) (w : World) (hn : mtL [CD.sl 1 n x] ≤ 1048576) (hz : 0 ≤ z) (hz2 : z ≤ 1073741824) (hx : ∀ i, i < n → ∀ j, j < 1 → ShOk ([Sh.flt .f32].getD j .bool) (x (i * 1 + j))) (hs : RdL w B (mkL [.sl 1 n x] z) [s]) :
    Calls Try.prog 21 #[s, .int .i64 z] w fun e w' => e = .returned (.int .i64 (z + (mtL [CD.sl 1 n x] : Nat))) ∧ le w w' := by
  have hx' := ShOk.flts hx rfl
  have em : mtL [CD.sl 1 n x] = n := by simp only [mtL, CD.mt_flts hx']; omega
  rw [em] at hn ⊢
  have h0 := hs.2 0 s _ rfl rfl
  exact (heldR B s n z w hn hz hz2 (h0.congr (CD.mk_flts hx' z).symm).rds).mono (fun e w' ⟨h1, h2⟩ => ⟨h1, h2 ▸ le_refl _⟩)
end Go.Proofs.Ythjdklolbkhbfaa

/- What functions give that make a struct with memory of its own. Nothing here names a program. -/
namespace Go.Fk
open Go Go.RowKit
def OutV_Ti (ar0 : List CD) (ar1 : Int) (w : World) (e : Ending) (w' : World) : Prop := ∃ (us : List Value), e = .returned (.tuple #[.agg us.toArray, .int .i64 ar1]) ∧ LayL w' (rng w.heap.size w'.heap.size) ar0 us ∧ le w w'
def OutV_Tfi (ar0 : List CD) (ar1 : Nat) (ar2 : Int) (w : World) (e : Ending) (w' : World) : Prop := ∃ (us : List Value) (v1 : Nat), e = .returned (.tuple #[.agg us.toArray, .float .f32 v1, .int .i64 ar2]) ∧ LayL w' (rng w.heap.size w'.heap.size) ar0 us ∧ le w w' ∧ can .f32 v1 = ar1
def OutV_Tli (ar0 : List CD) (xr1 : Nat → Nat) (nr1 : Nat) (ar2 : Int) (w : World) (e : Ending) (w' : World) : Prop := ∃ (us : List Value) (v1 : Value) (q : Nat), e = .returned (.tuple #[.agg us.toArray, v1, .int .i64 ar2]) ∧ LayL w' (rng w.heap.size q) ar0 us ∧ le w w' ∧ OwnS w' q w'.heap.size v1 xr1 nr1 ∧ w.heap.size ≤ q ∧ q ≤ w'.heap.size
def OutV_T (ar0 : List CD) (w : World) (e : Ending) (w' : World) : Prop := ∃ (us : List Value), e = .returned (.agg us.toArray) ∧ LayL w' (rng w.heap.size w'.heap.size) ar0 us ∧ le w w'
/-- Two results with memory: a struct, and a slice of floats behind it. -/
theorem Frg.lay2 {w0 w w' : World} {L : List Fact} (h : Frg w0 w L) (k : Below w.heap.size w w') {q : Nat} {cs : List CD} {us : List Value} {s : Value} {x : Nat → Nat} {n : Nat} (he : LayL w' (rng w.heap.size q) cs us) (ho : OwnS w' q w'.heap.size s x n) (h1 : w.heap.size ≤ q) (h2 : q ≤ w'.heap.size) : Frg w0 w' (ownF q w'.heap.size s x n :: layF w.heap.size q cs us :: L) := by
  have F1 := h.le k
  refine ⟨F1.below, fun e he' => ?_, .cons (fun x hx => ?_) (.cons (fun x hx => Nat.le_trans (h.facts x hx).2.1 (Nat.le_refl _)) F1.apart)⟩
  · rcases List.mem_cons.1 he' with rfl | he'
    · exact ⟨Nat.le_trans h.below.size h1, Nat.le_refl _, ho⟩
    · rcases List.mem_cons.1 he' with rfl | he'
      · exact ⟨h.below.size, h2, he⟩
      · exact F1.facts e he'
  · rcases List.mem_cons.1 hx with rfl | hx
    · exact Nat.le_refl _
    · exact Nat.le_trans (h.facts x hx).2.1 h1
end Go.Fk

/- Laws for operations that are guarded and wanted. Nothing here names a program. -/
namespace Go.Fk
open Go Go.RowKit
section
variable {P : Program} {w : World} {ops : Array Oper} {rest : List Oper} {o : Oper} {a : Act} {Q : Exit → Act → World → Prop}
theorem wpList_wanted (hw : Region.wanted o (yielded ops a.tmps) = true) (h : ∀ K : Act → World → Prop, (∀ a w, wpList P ops Q rest a w → K a w) → o.wp P a w K Q) : wpList P ops Q (o :: rest) a w :=
  wpList_step fun K hK => by simp only [hw, if_true]; exact h K hK
theorem wpList_widenG {src dst : TypeId} {x : Operand} (hop : o.op = Op.convert src dst x) {b : Nat} (hx : a.eval x = .float .f32 b)
    (hs : P.underlying src = some (.float .f32)) (hd : P.underlying dst = some (.float .f64)) (hw : Region.wanted o (yielded ops a.tmps) = true)
    (hK : ∀ r n, Hid (can .f64 r = can .f64 (widen b)) → Hid (fits .f64 r) → wpList P ops Q rest (a.put o.dst (.float .f64 r)) (w.drewN n)) : wpList P ops Q (o :: rest) a w := by
  refine wpList_wanted hw fun K hK' => ?_
  obtain ⟨r, n, hrun, hr, hf⟩ := run_widen (P := P) w src dst b hs hd
  unfold Oper.wp
  simp [execOp, hop, hx, hrun, Result.andThen]
  exact hK' _ _ (hK r n hr hf)
end
end Go.Fk

/- The laws' helpers for Ring, over trees of data. -/
namespace Go.Proofs.Ythjdklolbkhbfaa
open Go.RowKit Go.Fk
set_option maxRecDepth 100000 in
set_option maxHeartbeats 4000000 in
theorem szU_Ring (B : Nat) (cs : List CD) (vs : List Value) (m r : Int) (w : World) (h : RdL w B cs vs) (hsh : ShOkL shRing cs) (h0 : 0 ≤ m) (h1 : m ≤ 1048576) (hr : lessBy m (szL cs) = r) :
    Calls Try.prog 22 #[.agg vs.toArray, .int .i64 m] w (OutI r w) := by
  obtain ⟨c0, cs, rfl, q0, hsh⟩ := hsh.inv
  obtain ⟨c1, cs, rfl, q1, hsh⟩ := hsh.inv
  obtain rfl := hsh.inv0
  obtain ⟨v0, vs, rfl, r0, h⟩ := h.inv
  obtain ⟨v1, vs, rfl, r1, h⟩ := h.inv
  obtain rfl := h.inv0
  obtain ⟨z1, rfl⟩ := q1
  obtain ⟨rfl, wf1⟩ := r1
  obtain ⟨n0, x0, rfl, q0⟩ := q0
  obtain ⟨a0, ha0⟩ : ∃ a : Nat, a = CD.sz (.sl 1 n0 x0) := ⟨_, rfl⟩
  have H0 := hid (fun (m r : Int) (w' : World) (hl : le w w') (h0 : 0 ≤ m) (h1 : m ≤ 1048576) (hr : lessBy m a0 = r) => szU_Float32S B _ _ v0 m r w' (r0.le hl) q0 h0 h1 (ha0 ▸ hr))
  replace hr : Hid (lessBy m (a0) = r) := by rw [← hr]; congr 1; try (first | (simp only [szL, List.map_cons, List.map_nil, List.sum_cons, List.sum_nil, CD.sz, ha0]; done) | (simp only [szL, List.map_cons, List.map_nil, List.sum_cons, List.sum_nil, CD.sz, ha0]; omega))
  clear ha0
  have F := (Frg.nil w).box 24 #[v0, .int .i64 z1]
  by_cases g0 : m - (a0 : Int) < 0
  · have er : r = -1 := by have := hr.out; rw [lessBy_neg (by omega)] at this; omega
    subst er
    clear hr
    go_enter Try.func22, Try.ntmps22
    go_wp2_with (first | ((with_reducible refine at_load rfl ?_); first | (with_reducible refine wpList_load1 F rfl rfl rfl (by first | exact m0) (f := 0) (v := v0) rfl ukindFloat32S ?_) | (with_reducible refine wpList_load1 F rfl rfl rfl (by first | exact m0) (f := 1) (v := .int .i64 z1) rfl ukindInt64 ?_)) | (go_at_call 41; ((with_reducible refine (H0.out m (-1 : Int) _ F.below (by omega) (by omega) (by exact lessBy_neg (by omega))).mono ?_); rintro e w1 ⟨rfl, hl⟩; replace F := F.le hl; clear hl)))
    go_ret
    exact ⟨rfl, F.below⟩
  · skip
    have er : r = (m - (a0 : Int)) := by have := hr.out; rw [lessBy_pos (by omega)] at this; omega
    subst er
    clear hr
    go_enter Try.func22, Try.ntmps22
    go_wp2_with (first | ((with_reducible refine at_load rfl ?_); first | (with_reducible refine wpList_load1 F rfl rfl rfl (by first | exact m0) (f := 0) (v := v0) rfl ukindFloat32S ?_) | (with_reducible refine wpList_load1 F rfl rfl rfl (by first | exact m0) (f := 1) (v := .int .i64 z1) rfl ukindInt64 ?_)) | (go_at_call 41; ((with_reducible refine (H0.out m (m - (a0 : Int)) _ F.below (by omega) (by omega) (by exact lessBy_pos (by omega))).mono ?_); rintro e w1 ⟨rfl, hl⟩; replace F := F.le hl; clear hl)))
    go_ret
    exact ⟨rfl, F.below⟩
set_option maxRecDepth 100000 in
set_option maxHeartbeats 4000000 in
theorem eqU_Ring (B B' : Nat) (cs : List CD) (vs vs' : List Value) (w : World) (h : RdL w B cs vs) (h' : RdL w B' cs vs') (hsh : ShOkL shRing cs) (hz : szL cs ≤ 1048576) :
    Calls Try.prog 33 #[.agg vs.toArray, .agg vs'.toArray] w (OutT w) := by
  obtain ⟨c0, cs, rfl, q0, hsh⟩ := hsh.inv
  obtain ⟨c1, cs, rfl, q1, hsh⟩ := hsh.inv
  obtain rfl := hsh.inv0
  obtain ⟨v0, vs, rfl, r0, h⟩ := h.inv
  obtain ⟨v1, vs, rfl, r1, h⟩ := h.inv
  obtain rfl := h.inv0
  obtain ⟨v0', vs', rfl, r0', h'⟩ := h'.inv
  obtain ⟨v1', vs', rfl, r1', h'⟩ := h'.inv
  obtain rfl := h'.inv0
  obtain ⟨z1, rfl⟩ := q1
  obtain ⟨rfl, wf1⟩ := r1
  obtain ⟨rfl, wf1'⟩ := r1'
  have HZ := hid hz
  obtain ⟨n0, x0, rfl, q0⟩ := q0
  have H0 := hid (fun (w' : World) (hl : le w w') => eqU_Float32S B B' _ _ v0 v0' w' (r0.le hl) (r0'.le hl) q0 (szC_le HZ.out 0 rfl))
  have F := ((Frg.nil w).box 35 #[v0, .int .i64 z1]).box 35 #[v0', .int .i64 z1]
  simp only [World.size_alloc] at F
  clear hz HZ
  go_enter Try.func33, Try.ntmps33
  go_wp2_with (first | ((with_reducible refine listN F ?_); clear F; intro wN F) | ((with_reducible refine at_load rfl ?_); first | (with_reducible refine wpList_load1 F rfl rfl rfl (by first | exact m0 | exact m1) (f := 0) (v := v0) rfl ukindFloat32S ?_) | (with_reducible refine wpList_load1 F rfl rfl rfl (by first | exact m0 | exact m1) (f := 1) (v := .int .i64 z1) rfl ukindInt64 ?_) | (with_reducible refine wpList_load1 F rfl rfl rfl (by first | exact m0 | exact m1) (f := 0) (v := v0') rfl ukindFloat32S ?_) | (with_reducible refine wpList_load1 F rfl rfl rfl (by first | exact m0 | exact m1) (f := 1) (v := .int .i64 z1) rfl ukindInt64 ?_)) | (go_at_call 19; ((with_reducible refine (H0.out _ F.below).mono ?_); rintro e w1 ⟨rfl, hl⟩; replace F := F.le hl; clear hl)))
  go_ret
  first | exact ⟨rfl, F.below⟩ | exact ⟨rfl, below_drewN F.below _⟩
theorem inv_Ring {w : World} {S : Nat → Prop} {us : List Value} (n0 : Nat) (x0 : Nat → CD) (z1 : Int) (h : LayL w S (([(.sl 1 n0 x0), (.int .i64 z1)] : List CD).map CD.cp) us) : ∃ u0 : Value, u0.oneCell' = true ∧ us = [u0, .int .i64 z1] ∧ LayL w S (([(.sl 1 n0 x0), (.int .i64 z1)] : List CD).map CD.cp) [u0, .int .i64 z1] := by
  have h0 := h
  simp only [List.map_cons, List.map_nil] at h
  obtain ⟨u0, us0, _, _, rfl, l0, hh0, _, _, _⟩ := h.inv
  obtain ⟨u1, us1, _, _, rfl, l1, hh1, _, _, _⟩ := hh0.inv
  obtain ⟨rfl, _⟩ := l1
  obtain rfl := hh1.inv0
  exact ⟨u0, l0.one, rfl, h0⟩
set_option maxRecDepth 100000 in
set_option maxHeartbeats 4000000 in
theorem toU_Ring (B : Nat) (cs : List CD) (vs : List Value) (w : World) (h : RdL w B cs vs) (hsh : ShOkL shRing cs) (hz : szL cs ≤ 1048576) :
    Calls Try.prog 27 #[.agg vs.toArray] w (OutA' (cs.map CD.cp) w) := by
  obtain ⟨c0, cs, rfl, q0, hsh⟩ := hsh.inv
  obtain ⟨c1, cs, rfl, q1, hsh⟩ := hsh.inv
  obtain rfl := hsh.inv0
  obtain ⟨v0, vs, rfl, r0, h⟩ := h.inv
  obtain ⟨v1, vs, rfl, r1, h⟩ := h.inv
  obtain rfl := h.inv0
  obtain ⟨z1, rfl⟩ := q1
  obtain ⟨rfl, wf1⟩ := r1
  have HZ := hid hz
  obtain ⟨n0, x0, rfl, q0⟩ := q0
  have H0 := hid (fun (w' : World) (hl : le w w') => toU_Float32S B _ _ v0 w' (r0.le hl) q0 (szC_le HZ.out 0 rfl))
  have F := (((Frg.nil w).box 24 #[v0, .int .i64 z1]).box 35 #[.slice none 0 0, .int .i64 0]).box 35 #[.slice none 0 0, .int .i64 0]
  simp only [World.size_alloc] at F
  clear hz HZ
  go_enter Try.func27, Try.ntmps27
  go_wp2_with (first | ((with_reducible refine listN F ?_); clear F; intro wN F) | ((with_reducible refine at_load rfl ?_); first | (with_reducible refine wpList_load1 F rfl rfl rfl (by first | exact m0 | exact m1 | exact m2 | exact m3) (f := 0) (v := v0) rfl ukindFloat32S ?_) | (with_reducible refine wpList_load1 F rfl rfl rfl (by first | exact m0 | exact m1 | exact m2 | exact m3) (f := 1) (v := .int .i64 z1) rfl ukindInt64 ?_)) | (go_at_call 17; ((with_reducible refine (H0.out _ F.below).mono ?_); rintro e w1 ⟨u0, rfl, ho, hl⟩; have O0 := hid ho.one; replace F := F.lay1 hl (LayL.cons ho (LayL.nil _ (fun _ => False)) (fun _ h => h) (fun _ h => h.elim) (fun _ _ h => h)); clear ho hl)) | (with_reducible refine stop_store rfl ?_))
  show wpList _ _ _ _ _ _
  refine wpList_store1 rfl rfl (f := 0) rfl rfl (F.row m1) uinfo1Float32S (by simp) O0.out #[u0, .int .i64 0] rfl (fun w2 K => ?_)
  replace F := F.wrI1 (cs' := #[u0, .int .i64 0]) K
  clear K
  go_wp2_with (first | ((with_reducible refine listN F ?_); clear F; intro wN F) | ((with_reducible refine at_load rfl ?_); first | (with_reducible refine wpList_load1 F rfl rfl rfl (by first | exact m0 | exact m1 | exact m2 | exact m3 | exact m4) (f := 0) (v := v0) rfl ukindFloat32S ?_) | (with_reducible refine wpList_load1 F rfl rfl rfl (by first | exact m0 | exact m1 | exact m2 | exact m3 | exact m4) (f := 1) (v := .int .i64 z1) rfl ukindInt64 ?_)) | (with_reducible refine stop_store rfl ?_))
  show wpList _ _ _ _ _ _
  refine wpList_store1 rfl rfl (f := 1) rfl rfl (F.row m1) uinfo1Int64 (by simp) rfl #[u0, .int .i64 z1] rfl (fun w2 K => ?_)
  replace F := F.wrI1 (cs' := #[u0, .int .i64 z1]) K
  clear K
  go_wp2_with (first | ((with_reducible refine listN F ?_); clear F; intro wN F) | ((with_reducible refine at_load rfl ?_); (with_reducible refine wpList_loadG F rfl rfl rfl (by first | exact m0 | exact m1) Try.underlying35 rfl uinfoRingI rfl ?_)) | (with_reducible refine stop_store rfl ?_))
  show wpList _ _ _ _ _ _
  refine wpList_storeD rfl rfl rfl (cells := #[u0, .int .i64 z1]) rfl (F.row m2) uinfoRingI rfl (by (simp only [List.all_toArray', List.all_cons, List.all_nil, Bool.and_true, Bool.true_and, O0.out]) <;> rfl) (fun w6 K => ?_)
  have R := hid K.row
  replace F := F.wrI2 K
  have E0 := Eaten.start F
  replace E0 := Eaten.leaf (c := .int .i64 z1) (v := .int .i64 z1) E0 (show CD.Lay _ _ _ _ from ⟨rfl, wf1⟩)
  replace E0 := Eaten.eat F E0
  replace F := F.tl
  have L := hid (show LayL _ _ _ _ ∧ le w _ from ⟨E0.fin, F.below⟩)
  clear K F E0
  go_wp2
  exact bodyPost_ret (results_row1 rfl _ _ _ _ _ rfl R.out Try.underlying35 rfl uinfoRingI) rfl ⟨[u0, .int .i64 z1], rfl, L.out.1, L.out.2⟩
end Go.Proofs.Ythjdklolbkhbfaa

/- The laws' helpers for Bow, over trees of data. -/
namespace Go.Proofs.Ythjdklolbkhbfaa
open Go.RowKit Go.Fk
set_option maxRecDepth 100000 in
set_option maxHeartbeats 4000000 in
theorem szU_Bow (B : Nat) (cs : List CD) (vs : List Value) (m r : Int) (w : World) (h : RdL w B cs vs) (hsh : ShOkL shBow cs) (h0 : 0 ≤ m) (h1 : m ≤ 1048576) (hr : lessBy m (szL cs) = r) :
    Calls Try.prog 6 #[.agg vs.toArray, .int .i64 m] w (OutI r w) := by
  obtain ⟨c0, cs, rfl, q0, hsh⟩ := hsh.inv
  obtain ⟨c1, cs, rfl, q1, hsh⟩ := hsh.inv
  obtain ⟨c2, cs, rfl, q2, hsh⟩ := hsh.inv
  obtain ⟨c3, cs, rfl, q3, hsh⟩ := hsh.inv
  obtain ⟨c4, cs, rfl, q4, hsh⟩ := hsh.inv
  obtain ⟨c5, cs, rfl, q5, hsh⟩ := hsh.inv
  obtain ⟨c6, cs, rfl, q6, hsh⟩ := hsh.inv
  obtain ⟨c7, cs, rfl, q7, hsh⟩ := hsh.inv
  obtain ⟨c8, cs, rfl, q8, hsh⟩ := hsh.inv
  obtain ⟨c9, cs, rfl, q9, hsh⟩ := hsh.inv
  obtain ⟨c10, cs, rfl, q10, hsh⟩ := hsh.inv
  obtain ⟨c11, cs, rfl, q11, hsh⟩ := hsh.inv
  obtain rfl := hsh.inv0
  obtain ⟨v0, vs, rfl, r0, h⟩ := h.inv
  obtain ⟨v1, vs, rfl, r1, h⟩ := h.inv
  obtain ⟨v2, vs, rfl, r2, h⟩ := h.inv
  obtain ⟨v3, vs, rfl, r3, h⟩ := h.inv
  obtain ⟨v4, vs, rfl, r4, h⟩ := h.inv
  obtain ⟨v5, vs, rfl, r5, h⟩ := h.inv
  obtain ⟨v6, vs, rfl, r6, h⟩ := h.inv
  obtain ⟨v7, vs, rfl, r7, h⟩ := h.inv
  obtain ⟨v8, vs, rfl, r8, h⟩ := h.inv
  obtain ⟨v9, vs, rfl, r9, h⟩ := h.inv
  obtain ⟨v10, vs, rfl, r10, h⟩ := h.inv
  obtain ⟨v11, vs, rfl, r11, h⟩ := h.inv
  obtain rfl := h.inv0
  obtain ⟨z1, rfl⟩ := q1
  obtain ⟨rfl, wf1⟩ := r1
  obtain ⟨z3, rfl⟩ := q3
  obtain ⟨rfl, wf3⟩ := r3
  obtain ⟨z4, rfl⟩ := q4
  obtain ⟨rfl, wf4⟩ := r4
  have q5 : c5.flk = some .f32 := q5
  obtain ⟨y5, rfl, f5, e5⟩ := r5.fl q5
  have q6 : c6.flk = some .f32 := q6
  obtain ⟨y6, rfl, f6, e6⟩ := r6.fl q6
  have q7 : c7.flk = some .f32 := q7
  obtain ⟨y7, rfl, f7, e7⟩ := r7.fl q7
  have q8 : c8.flk = some .f32 := q8
  obtain ⟨y8, rfl, f8, e8⟩ := r8.fl q8
  have q9 : c9.flk = some .f32 := q9
  obtain ⟨y9, rfl, f9, e9⟩ := r9.fl q9
  have q10 : c10.flk = some .f32 := q10
  obtain ⟨y10, rfl, f10, e10⟩ := r10.fl q10
  have q11 : c11.flk = some .f32 := q11
  obtain ⟨y11, rfl, f11, e11⟩ := r11.fl q11
  obtain ⟨a0, ha0⟩ : ∃ a : Nat, a = szL [c0, .int .i64 z1] := ⟨_, rfl⟩
  have H0 := hid (fun (m r : Int) (w' : World) (hl : le w w') (h0 : 0 ≤ m) (h1 : m ≤ 1048576) (hr : lessBy m a0 = r) => szU_Ring B _ [v0, .int .i64 z1] m r w' (RdL.cons (c := c0) (r0.le hl) (RdL.cons (c := .int .i64 z1) ⟨rfl, wf1⟩ (RdL.nil _ _))) (ShOkL.cons q0 (ShOkL.cons ⟨_, rfl⟩ (ShOkL.nil))) h0 h1 (ha0 ▸ hr))
  obtain ⟨a1, ha1⟩ : ∃ a : Nat, a = szL [c2, .int .i64 z3] := ⟨_, rfl⟩
  have H1 := hid (fun (m r : Int) (w' : World) (hl : le w w') (h0 : 0 ≤ m) (h1 : m ≤ 1048576) (hr : lessBy m a1 = r) => szU_Ring B _ [v2, .int .i64 z3] m r w' (RdL.cons (c := c2) (r2.le hl) (RdL.cons (c := .int .i64 z3) ⟨rfl, wf3⟩ (RdL.nil _ _))) (ShOkL.cons q2 (ShOkL.cons ⟨_, rfl⟩ (ShOkL.nil))) h0 h1 (ha1 ▸ hr))
  replace hr : Hid (lessBy m (a0 + a1) = r) := by rw [← hr]; congr 1; try (first | (simp only [szL, List.map_cons, List.map_nil, List.sum_cons, List.sum_nil, CD.sz, ha0, ha1, CD.sz_fl q5, CD.sz_fl q6, CD.sz_fl q7, CD.sz_fl q8, CD.sz_fl q9, CD.sz_fl q10, CD.sz_fl q11]; done) | (simp only [szL, List.map_cons, List.map_nil, List.sum_cons, List.sum_nil, CD.sz, ha0, ha1, CD.sz_fl q5, CD.sz_fl q6, CD.sz_fl q7, CD.sz_fl q8, CD.sz_fl q9, CD.sz_fl q10, CD.sz_fl q11]; omega))
  clear ha0 ha1
  have F := (Frg.nil w).box 31 #[v0, .int .i64 z1, v2, .int .i64 z3, .int .i64 z4, .float .f32 y5, .float .f32 y6, .float .f32 y7, .float .f32 y8, .float .f32 y9, .float .f32 y10, .float .f32 y11]
  by_cases g0 : m - (a0 : Int) < 0
  · have er : r = -1 := by have := hr.out; rw [lessBy_neg (by omega)] at this; omega
    subst er
    clear hr
    go_enter Try.func6, Try.ntmps6
    go_wp2_with (first | ((with_reducible refine at_load rfl ?_); first | (with_reducible refine wpList_loadGP F rfl rfl rfl (by first | exact m0) Try.underlying24 rfl [v0, .int .i64 z1] (partBow_Neck (v0) (.int .i64 z1) (v2) (.int .i64 z3) (.int .i64 z4) (.float .f32 y5) (.float .f32 y6) (.float .f32 y7) (.float .f32 y8) (.float .f32 y9) (.float .f32 y10) (.float .f32 y11)) uinfoRingL rfl ?_) | (with_reducible refine wpList_loadGP F rfl rfl rfl (by first | exact m0) Try.underlying24 rfl [v2, .int .i64 z3] (partBow_Bridge (v0) (.int .i64 z1) (v2) (.int .i64 z3) (.int .i64 z4) (.float .f32 y5) (.float .f32 y6) (.float .f32 y7) (.float .f32 y8) (.float .f32 y9) (.float .f32 y10) (.float .f32 y11)) uinfoRingL rfl ?_) | (with_reducible refine wpList_loadGP F rfl rfl rfl (by first | exact m0) Try.underlying29 rfl [.int .i64 z4, .float .f32 y5, .float .f32 y6, .float .f32 y7, .float .f32 y8, .float .f32 y9] (partBow_Damp (v0) (.int .i64 z1) (v2) (.int .i64 z3) (.int .i64 z4) (.float .f32 y5) (.float .f32 y6) (.float .f32 y7) (.float .f32 y8) (.float .f32 y9) (.float .f32 y10) (.float .f32 y11)) uinfoFilterL rfl ?_) | (with_reducible refine wpList_load1 F rfl rfl rfl (by first | exact m0) (f := 10) (v := .float .f32 y10) rfl ukindFloat32 ?_) | (with_reducible refine wpList_load1 F rfl rfl rfl (by first | exact m0) (f := 11) (v := .float .f32 y11) rfl ukindFloat32 ?_)) | (go_at_call 22; ((with_reducible refine (H0.out m (-1 : Int) _ F.below (by omega) (by omega) (by exact lessBy_neg (by omega))).mono ?_); rintro e w1 ⟨rfl, hl⟩; replace F := F.le hl; clear hl)))
    go_ret
    exact ⟨rfl, F.below⟩
  · skip
    by_cases g1 : (m - (a0 : Int)) - (a1 : Int) < 0
    · have er : r = -1 := by have := hr.out; rw [lessBy_neg (by omega)] at this; omega
      subst er
      clear hr
      go_enter Try.func6, Try.ntmps6
      go_wp2_with (first | ((with_reducible refine at_load rfl ?_); first | (with_reducible refine wpList_loadGP F rfl rfl rfl (by first | exact m0) Try.underlying24 rfl [v0, .int .i64 z1] (partBow_Neck (v0) (.int .i64 z1) (v2) (.int .i64 z3) (.int .i64 z4) (.float .f32 y5) (.float .f32 y6) (.float .f32 y7) (.float .f32 y8) (.float .f32 y9) (.float .f32 y10) (.float .f32 y11)) uinfoRingL rfl ?_) | (with_reducible refine wpList_loadGP F rfl rfl rfl (by first | exact m0) Try.underlying24 rfl [v2, .int .i64 z3] (partBow_Bridge (v0) (.int .i64 z1) (v2) (.int .i64 z3) (.int .i64 z4) (.float .f32 y5) (.float .f32 y6) (.float .f32 y7) (.float .f32 y8) (.float .f32 y9) (.float .f32 y10) (.float .f32 y11)) uinfoRingL rfl ?_) | (with_reducible refine wpList_loadGP F rfl rfl rfl (by first | exact m0) Try.underlying29 rfl [.int .i64 z4, .float .f32 y5, .float .f32 y6, .float .f32 y7, .float .f32 y8, .float .f32 y9] (partBow_Damp (v0) (.int .i64 z1) (v2) (.int .i64 z3) (.int .i64 z4) (.float .f32 y5) (.float .f32 y6) (.float .f32 y7) (.float .f32 y8) (.float .f32 y9) (.float .f32 y10) (.float .f32 y11)) uinfoFilterL rfl ?_) | (with_reducible refine wpList_load1 F rfl rfl rfl (by first | exact m0) (f := 10) (v := .float .f32 y10) rfl ukindFloat32 ?_) | (with_reducible refine wpList_load1 F rfl rfl rfl (by first | exact m0) (f := 11) (v := .float .f32 y11) rfl ukindFloat32 ?_)) | (go_at_call 22; ((with_reducible refine (H0.out m (m - (a0 : Int)) _ F.below (by omega) (by omega) (by exact lessBy_pos (by omega))).mono ?_); rintro e w1 ⟨rfl, hl⟩; replace F := F.le hl; clear hl)) | (go_at_call 22; ((with_reducible refine (H1.out (m - (a0 : Int)) (-1 : Int) _ F.below (by omega) (by omega) (by exact lessBy_neg (by omega))).mono ?_); rintro e w1 ⟨rfl, hl⟩; replace F := F.le hl; clear hl)))
      go_ret
      exact ⟨rfl, F.below⟩
    · skip
      have er : r = ((m - (a0 : Int)) - (a1 : Int)) := by have := hr.out; rw [lessBy_pos (by omega)] at this; omega
      subst er
      clear hr
      go_enter Try.func6, Try.ntmps6
      go_wp2_with (first | ((with_reducible refine at_load rfl ?_); first | (with_reducible refine wpList_loadGP F rfl rfl rfl (by first | exact m0) Try.underlying24 rfl [v0, .int .i64 z1] (partBow_Neck (v0) (.int .i64 z1) (v2) (.int .i64 z3) (.int .i64 z4) (.float .f32 y5) (.float .f32 y6) (.float .f32 y7) (.float .f32 y8) (.float .f32 y9) (.float .f32 y10) (.float .f32 y11)) uinfoRingL rfl ?_) | (with_reducible refine wpList_loadGP F rfl rfl rfl (by first | exact m0) Try.underlying24 rfl [v2, .int .i64 z3] (partBow_Bridge (v0) (.int .i64 z1) (v2) (.int .i64 z3) (.int .i64 z4) (.float .f32 y5) (.float .f32 y6) (.float .f32 y7) (.float .f32 y8) (.float .f32 y9) (.float .f32 y10) (.float .f32 y11)) uinfoRingL rfl ?_) | (with_reducible refine wpList_loadGP F rfl rfl rfl (by first | exact m0) Try.underlying29 rfl [.int .i64 z4, .float .f32 y5, .float .f32 y6, .float .f32 y7, .float .f32 y8, .float .f32 y9] (partBow_Damp (v0) (.int .i64 z1) (v2) (.int .i64 z3) (.int .i64 z4) (.float .f32 y5) (.float .f32 y6) (.float .f32 y7) (.float .f32 y8) (.float .f32 y9) (.float .f32 y10) (.float .f32 y11)) uinfoFilterL rfl ?_) | (with_reducible refine wpList_load1 F rfl rfl rfl (by first | exact m0) (f := 10) (v := .float .f32 y10) rfl ukindFloat32 ?_) | (with_reducible refine wpList_load1 F rfl rfl rfl (by first | exact m0) (f := 11) (v := .float .f32 y11) rfl ukindFloat32 ?_)) | (go_at_call 22; ((with_reducible refine (H0.out m (m - (a0 : Int)) _ F.below (by omega) (by omega) (by exact lessBy_pos (by omega))).mono ?_); rintro e w1 ⟨rfl, hl⟩; replace F := F.le hl; clear hl)) | (go_at_call 22; ((with_reducible refine (H1.out (m - (a0 : Int)) ((m - (a0 : Int)) - (a1 : Int)) _ F.below (by omega) (by omega) (by exact lessBy_pos (by omega))).mono ?_); rintro e w1 ⟨rfl, hl⟩; replace F := F.le hl; clear hl)))
      go_ret
      exact ⟨rfl, F.below⟩
set_option maxRecDepth 100000 in
set_option maxHeartbeats 4000000 in
theorem eqU_Bow (B B' : Nat) (cs : List CD) (vs vs' : List Value) (w : World) (h : RdL w B cs vs) (h' : RdL w B' cs vs') (hsh : ShOkL shBow cs) (hz : szL cs ≤ 1048576) :
    Calls Try.prog 10 #[.agg vs.toArray, .agg vs'.toArray] w (OutT w) := by
  obtain ⟨c0, cs, rfl, q0, hsh⟩ := hsh.inv
  obtain ⟨c1, cs, rfl, q1, hsh⟩ := hsh.inv
  obtain ⟨c2, cs, rfl, q2, hsh⟩ := hsh.inv
  obtain ⟨c3, cs, rfl, q3, hsh⟩ := hsh.inv
  obtain ⟨c4, cs, rfl, q4, hsh⟩ := hsh.inv
  obtain ⟨c5, cs, rfl, q5, hsh⟩ := hsh.inv
  obtain ⟨c6, cs, rfl, q6, hsh⟩ := hsh.inv
  obtain ⟨c7, cs, rfl, q7, hsh⟩ := hsh.inv
  obtain ⟨c8, cs, rfl, q8, hsh⟩ := hsh.inv
  obtain ⟨c9, cs, rfl, q9, hsh⟩ := hsh.inv
  obtain ⟨c10, cs, rfl, q10, hsh⟩ := hsh.inv
  obtain ⟨c11, cs, rfl, q11, hsh⟩ := hsh.inv
  obtain rfl := hsh.inv0
  obtain ⟨v0, vs, rfl, r0, h⟩ := h.inv
  obtain ⟨v1, vs, rfl, r1, h⟩ := h.inv
  obtain ⟨v2, vs, rfl, r2, h⟩ := h.inv
  obtain ⟨v3, vs, rfl, r3, h⟩ := h.inv
  obtain ⟨v4, vs, rfl, r4, h⟩ := h.inv
  obtain ⟨v5, vs, rfl, r5, h⟩ := h.inv
  obtain ⟨v6, vs, rfl, r6, h⟩ := h.inv
  obtain ⟨v7, vs, rfl, r7, h⟩ := h.inv
  obtain ⟨v8, vs, rfl, r8, h⟩ := h.inv
  obtain ⟨v9, vs, rfl, r9, h⟩ := h.inv
  obtain ⟨v10, vs, rfl, r10, h⟩ := h.inv
  obtain ⟨v11, vs, rfl, r11, h⟩ := h.inv
  obtain rfl := h.inv0
  obtain ⟨v0', vs', rfl, r0', h'⟩ := h'.inv
  obtain ⟨v1', vs', rfl, r1', h'⟩ := h'.inv
  obtain ⟨v2', vs', rfl, r2', h'⟩ := h'.inv
  obtain ⟨v3', vs', rfl, r3', h'⟩ := h'.inv
  obtain ⟨v4', vs', rfl, r4', h'⟩ := h'.inv
  obtain ⟨v5', vs', rfl, r5', h'⟩ := h'.inv
  obtain ⟨v6', vs', rfl, r6', h'⟩ := h'.inv
  obtain ⟨v7', vs', rfl, r7', h'⟩ := h'.inv
  obtain ⟨v8', vs', rfl, r8', h'⟩ := h'.inv
  obtain ⟨v9', vs', rfl, r9', h'⟩ := h'.inv
  obtain ⟨v10', vs', rfl, r10', h'⟩ := h'.inv
  obtain ⟨v11', vs', rfl, r11', h'⟩ := h'.inv
  obtain rfl := h'.inv0
  obtain ⟨z1, rfl⟩ := q1
  obtain ⟨rfl, wf1⟩ := r1
  obtain ⟨rfl, wf1'⟩ := r1'
  obtain ⟨z3, rfl⟩ := q3
  obtain ⟨rfl, wf3⟩ := r3
  obtain ⟨rfl, wf3'⟩ := r3'
  obtain ⟨z4, rfl⟩ := q4
  obtain ⟨rfl, wf4⟩ := r4
  obtain ⟨rfl, wf4'⟩ := r4'
  have q5 : c5.flk = some .f32 := q5
  obtain ⟨y5, rfl, f5, e5⟩ := r5.fl q5
  obtain ⟨y5', rfl, f5', e5'⟩ := r5'.fl q5
  have q6 : c6.flk = some .f32 := q6
  obtain ⟨y6, rfl, f6, e6⟩ := r6.fl q6
  obtain ⟨y6', rfl, f6', e6'⟩ := r6'.fl q6
  have q7 : c7.flk = some .f32 := q7
  obtain ⟨y7, rfl, f7, e7⟩ := r7.fl q7
  obtain ⟨y7', rfl, f7', e7'⟩ := r7'.fl q7
  have q8 : c8.flk = some .f32 := q8
  obtain ⟨y8, rfl, f8, e8⟩ := r8.fl q8
  obtain ⟨y8', rfl, f8', e8'⟩ := r8'.fl q8
  have q9 : c9.flk = some .f32 := q9
  obtain ⟨y9, rfl, f9, e9⟩ := r9.fl q9
  obtain ⟨y9', rfl, f9', e9'⟩ := r9'.fl q9
  have q10 : c10.flk = some .f32 := q10
  obtain ⟨y10, rfl, f10, e10⟩ := r10.fl q10
  obtain ⟨y10', rfl, f10', e10'⟩ := r10'.fl q10
  have q11 : c11.flk = some .f32 := q11
  obtain ⟨y11, rfl, f11, e11⟩ := r11.fl q11
  obtain ⟨y11', rfl, f11', e11'⟩ := r11'.fl q11
  have HZ := hid hz
  have H0 := hid (fun (w' : World) (hl : le w w') => eqU_Ring B B' [c0, .int .i64 z1] [v0, .int .i64 z1] [v0', .int .i64 z1] w' (RdL.cons (c := c0) (r0.le hl) (RdL.cons (c := .int .i64 z1) ⟨rfl, wf1⟩ (RdL.nil _ _))) (RdL.cons (c := c0) (r0'.le hl) (RdL.cons (c := .int .i64 z1) ⟨rfl, wf1'⟩ (RdL.nil _ _))) (ShOkL.cons q0 (ShOkL.cons ⟨_, rfl⟩ (ShOkL.nil))) (szL_le HZ.out 0 2 rfl))
  have H1 := hid (fun (w' : World) (hl : le w w') => eqU_Ring B B' [c2, .int .i64 z3] [v2, .int .i64 z3] [v2', .int .i64 z3] w' (RdL.cons (c := c2) (r2.le hl) (RdL.cons (c := .int .i64 z3) ⟨rfl, wf3⟩ (RdL.nil _ _))) (RdL.cons (c := c2) (r2'.le hl) (RdL.cons (c := .int .i64 z3) ⟨rfl, wf3'⟩ (RdL.nil _ _))) (ShOkL.cons q2 (ShOkL.cons ⟨_, rfl⟩ (ShOkL.nil))) (szL_le HZ.out 2 2 rfl))
  have H2 := hid (fun (w' : World) => eqFil_yes z4 y5 y6 y7 y8 y9 y5' y6' y7' y8' y9' w' (e5.trans e5'.symm) (e6.trans e6'.symm) (e7.trans e7'.symm) (e8.trans e8'.symm) (e9.trans e9'.symm))
  have E10 := hid (e10.trans e10'.symm)
  have E11 := hid (e11.trans e11'.symm)
  have F := ((Frg.nil w).box 38 #[v0, .int .i64 z1, v2, .int .i64 z3, .int .i64 z4, .float .f32 y5, .float .f32 y6, .float .f32 y7, .float .f32 y8, .float .f32 y9, .float .f32 y10, .float .f32 y11]).box 38 #[v0', .int .i64 z1, v2', .int .i64 z3, .int .i64 z4, .float .f32 y5', .float .f32 y6', .float .f32 y7', .float .f32 y8', .float .f32 y9', .float .f32 y10', .float .f32 y11']
  simp only [World.size_alloc] at F
  clear hz HZ
  go_enter Try.func10, Try.ntmps10
  go_wp2_with (first | ((with_reducible refine listN F ?_); clear F; intro wN F) | ((with_reducible refine at_load rfl ?_); first | (with_reducible refine wpList_loadGP F rfl rfl rfl (by first | exact m0 | exact m1) Try.underlying35 rfl [v0, .int .i64 z1] (partBow_Neck (v0) (.int .i64 z1) (v2) (.int .i64 z3) (.int .i64 z4) (.float .f32 y5) (.float .f32 y6) (.float .f32 y7) (.float .f32 y8) (.float .f32 y9) (.float .f32 y10) (.float .f32 y11)) uinfoRingI rfl ?_) | (with_reducible refine wpList_loadGP F rfl rfl rfl (by first | exact m0 | exact m1) Try.underlying35 rfl [v2, .int .i64 z3] (partBow_Bridge (v0) (.int .i64 z1) (v2) (.int .i64 z3) (.int .i64 z4) (.float .f32 y5) (.float .f32 y6) (.float .f32 y7) (.float .f32 y8) (.float .f32 y9) (.float .f32 y10) (.float .f32 y11)) uinfoRingI rfl ?_) | (with_reducible refine wpList_loadGP F rfl rfl rfl (by first | exact m0 | exact m1) Try.underlying36 rfl [.int .i64 z4, .float .f32 y5, .float .f32 y6, .float .f32 y7, .float .f32 y8, .float .f32 y9] (partBow_Damp (v0) (.int .i64 z1) (v2) (.int .i64 z3) (.int .i64 z4) (.float .f32 y5) (.float .f32 y6) (.float .f32 y7) (.float .f32 y8) (.float .f32 y9) (.float .f32 y10) (.float .f32 y11)) uinfoFilterI rfl ?_) | (with_reducible refine wpList_load1 F rfl rfl rfl (by first | exact m0 | exact m1) (f := 10) (v := .float .f32 y10) rfl ukindFloat32 ?_) | (with_reducible refine wpList_load1 F rfl rfl rfl (by first | exact m0 | exact m1) (f := 11) (v := .float .f32 y11) rfl ukindFloat32 ?_) | (with_reducible refine wpList_loadGP F rfl rfl rfl (by first | exact m0 | exact m1) Try.underlying35 rfl [v0', .int .i64 z1] (partBow_Neck (v0') (.int .i64 z1) (v2') (.int .i64 z3) (.int .i64 z4) (.float .f32 y5') (.float .f32 y6') (.float .f32 y7') (.float .f32 y8') (.float .f32 y9') (.float .f32 y10') (.float .f32 y11')) uinfoRingI rfl ?_) | (with_reducible refine wpList_loadGP F rfl rfl rfl (by first | exact m0 | exact m1) Try.underlying35 rfl [v2', .int .i64 z3] (partBow_Bridge (v0') (.int .i64 z1) (v2') (.int .i64 z3) (.int .i64 z4) (.float .f32 y5') (.float .f32 y6') (.float .f32 y7') (.float .f32 y8') (.float .f32 y9') (.float .f32 y10') (.float .f32 y11')) uinfoRingI rfl ?_) | (with_reducible refine wpList_loadGP F rfl rfl rfl (by first | exact m0 | exact m1) Try.underlying36 rfl [.int .i64 z4, .float .f32 y5', .float .f32 y6', .float .f32 y7', .float .f32 y8', .float .f32 y9'] (partBow_Damp (v0') (.int .i64 z1) (v2') (.int .i64 z3) (.int .i64 z4) (.float .f32 y5') (.float .f32 y6') (.float .f32 y7') (.float .f32 y8') (.float .f32 y9') (.float .f32 y10') (.float .f32 y11')) uinfoFilterI rfl ?_) | (with_reducible refine wpList_load1 F rfl rfl rfl (by first | exact m0 | exact m1) (f := 10) (v := .float .f32 y10') rfl ukindFloat32 ?_) | (with_reducible refine wpList_load1 F rfl rfl rfl (by first | exact m0 | exact m1) (f := 11) (v := .float .f32 y11') rfl ukindFloat32 ?_)) | (go_at_call 33; ((with_reducible refine (H0.out _ F.below).mono ?_); rintro e w1 ⟨rfl, hl⟩; replace F := F.le hl; clear hl)) | (go_at_call 33; ((with_reducible refine (H1.out _ F.below).mono ?_); rintro e w1 ⟨rfl, hl⟩; replace F := F.le hl; clear hl)) | (go_at_call 34; ((with_reducible refine (H2.out _).mono ?_); rintro e w1 ⟨rfl, hl⟩; replace F := F.le hl; clear hl)) | ((with_reducible refine at_convert rfl ?_); (with_reducible refine wpList_widen rfl rfl rfl Try.underlying25 Try.underlying45 ?_; intro s1 n1 h1 f1)) | (go_at_call 13; ((with_reducible refine (sameFloat_yes _ _ _ (by first | exact (Hid.out ‹Hid (can .f64 _ = can .f64 (widen y10))›).trans ((congrArg (can .f64) (widen_congr E10.out)).trans (Hid.out ‹Hid (can .f64 _ = can .f64 (widen y10'))›).symm) | exact (Hid.out ‹Hid (can .f64 _ = can .f64 (widen y11))›).trans ((congrArg (can .f64) (widen_congr E11.out)).trans (Hid.out ‹Hid (can .f64 _ = can .f64 (widen y11'))›).symm))).mono ?_); rintro e w7 ⟨rfl, dq7, rfl⟩; skip)))
  go_ret
  first | exact ⟨rfl, F.below⟩ | exact ⟨rfl, below_drewN F.below _⟩
theorem invf_Bow {w : World} {S : Nat → Prop} {us : List Value} (n0 : Nat) (x0 : Nat → CD) (z1 : Int) (n2 : Nat) (x2 : Nat → CD) (z3 : Int) (z4 : Int) (c5 : CD) (c6 : CD) (c7 : CD) (c8 : CD) (c9 : CD) (c10 : CD) (c11 : CD) (q5 : c5.flk = some .f32) (q6 : c6.flk = some .f32) (q7 : c7.flk = some .f32) (q8 : c8.flk = some .f32) (q9 : c9.flk = some .f32) (q10 : c10.flk = some .f32) (q11 : c11.flk = some .f32) (h : LayL w S (([(.sl 1 n0 x0), (.int .i64 z1), (.sl 1 n2 x2), (.int .i64 z3), (.int .i64 z4), (c5), (c6), (c7), (c8), (c9), (c10), (c11)] : List CD).map CD.cp) us) : ∃ (u0 : Value) (u2 : Value) (g5 : Nat) (g6 : Nat) (g7 : Nat) (g8 : Nat) (g9 : Nat) (g10 : Nat) (g11 : Nat), u0.oneCell' = true ∧ u2.oneCell' = true ∧ us = [u0, .int .i64 z1, u2, .int .i64 z3, .int .i64 z4, .float .f32 g5, .float .f32 g6, .float .f32 g7, .float .f32 g8, .float .f32 g9, .float .f32 g10, .float .f32 g11] ∧ LayL w S (([(.sl 1 n0 x0), (.int .i64 z1), (.sl 1 n2 x2), (.int .i64 z3), (.int .i64 z4), (c5), (c6), (c7), (c8), (c9), (c10), (c11)] : List CD).map CD.cp) [u0, .int .i64 z1, u2, .int .i64 z3, .int .i64 z4, .float .f32 g5, .float .f32 g6, .float .f32 g7, .float .f32 g8, .float .f32 g9, .float .f32 g10, .float .f32 g11] := by
  have h0 := h
  simp only [List.map_cons, List.map_nil] at h
  obtain ⟨u0, us0, _, _, rfl, l0, hh0, _, _, _⟩ := h.inv
  obtain ⟨u1, us1, _, _, rfl, l1, hh1, _, _, _⟩ := hh0.inv
  obtain ⟨rfl, _⟩ := l1
  obtain ⟨u2, us2, _, _, rfl, l2, hh2, _, _, _⟩ := hh1.inv
  obtain ⟨u3, us3, _, _, rfl, l3, hh3, _, _, _⟩ := hh2.inv
  obtain ⟨rfl, _⟩ := l3
  obtain ⟨u4, us4, _, _, rfl, l4, hh4, _, _, _⟩ := hh3.inv
  obtain ⟨rfl, _⟩ := l4
  obtain ⟨u5, us5, _, _, rfl, l5, hh5, _, _, _⟩ := hh4.inv
  obtain ⟨g5, rfl⟩ := lay_fl q5 l5
  obtain ⟨u6, us6, _, _, rfl, l6, hh6, _, _, _⟩ := hh5.inv
  obtain ⟨g6, rfl⟩ := lay_fl q6 l6
  obtain ⟨u7, us7, _, _, rfl, l7, hh7, _, _, _⟩ := hh6.inv
  obtain ⟨g7, rfl⟩ := lay_fl q7 l7
  obtain ⟨u8, us8, _, _, rfl, l8, hh8, _, _, _⟩ := hh7.inv
  obtain ⟨g8, rfl⟩ := lay_fl q8 l8
  obtain ⟨u9, us9, _, _, rfl, l9, hh9, _, _, _⟩ := hh8.inv
  obtain ⟨g9, rfl⟩ := lay_fl q9 l9
  obtain ⟨u10, us10, _, _, rfl, l10, hh10, _, _, _⟩ := hh9.inv
  obtain ⟨g10, rfl⟩ := lay_fl q10 l10
  obtain ⟨u11, us11, _, _, rfl, l11, hh11, _, _, _⟩ := hh10.inv
  obtain ⟨g11, rfl⟩ := lay_fl q11 l11
  obtain rfl := hh11.inv0
  exact ⟨u0, u2, g5, g6, g7, g8, g9, g10, g11, l0.one, l2.one, rfl, h0⟩
set_option maxRecDepth 100000 in
set_option maxHeartbeats 4000000 in
theorem toU_Bow (B : Nat) (cs : List CD) (vs : List Value) (w : World) (h : RdL w B cs vs) (hsh : ShOkL shBow cs) (hz : szL cs ≤ 1048576) :
    Calls Try.prog 8 #[.agg vs.toArray] w (OutA' (cs.map CD.cp) w) := by
  obtain ⟨c0, cs, rfl, q0, hsh⟩ := hsh.inv
  obtain ⟨c1, cs, rfl, q1, hsh⟩ := hsh.inv
  obtain ⟨c2, cs, rfl, q2, hsh⟩ := hsh.inv
  obtain ⟨c3, cs, rfl, q3, hsh⟩ := hsh.inv
  obtain ⟨c4, cs, rfl, q4, hsh⟩ := hsh.inv
  obtain ⟨c5, cs, rfl, q5, hsh⟩ := hsh.inv
  obtain ⟨c6, cs, rfl, q6, hsh⟩ := hsh.inv
  obtain ⟨c7, cs, rfl, q7, hsh⟩ := hsh.inv
  obtain ⟨c8, cs, rfl, q8, hsh⟩ := hsh.inv
  obtain ⟨c9, cs, rfl, q9, hsh⟩ := hsh.inv
  obtain ⟨c10, cs, rfl, q10, hsh⟩ := hsh.inv
  obtain ⟨c11, cs, rfl, q11, hsh⟩ := hsh.inv
  obtain rfl := hsh.inv0
  obtain ⟨v0, vs, rfl, r0, h⟩ := h.inv
  obtain ⟨v1, vs, rfl, r1, h⟩ := h.inv
  obtain ⟨v2, vs, rfl, r2, h⟩ := h.inv
  obtain ⟨v3, vs, rfl, r3, h⟩ := h.inv
  obtain ⟨v4, vs, rfl, r4, h⟩ := h.inv
  obtain ⟨v5, vs, rfl, r5, h⟩ := h.inv
  obtain ⟨v6, vs, rfl, r6, h⟩ := h.inv
  obtain ⟨v7, vs, rfl, r7, h⟩ := h.inv
  obtain ⟨v8, vs, rfl, r8, h⟩ := h.inv
  obtain ⟨v9, vs, rfl, r9, h⟩ := h.inv
  obtain ⟨v10, vs, rfl, r10, h⟩ := h.inv
  obtain ⟨v11, vs, rfl, r11, h⟩ := h.inv
  obtain rfl := h.inv0
  obtain ⟨z1, rfl⟩ := q1
  obtain ⟨rfl, wf1⟩ := r1
  obtain ⟨z3, rfl⟩ := q3
  obtain ⟨rfl, wf3⟩ := r3
  obtain ⟨z4, rfl⟩ := q4
  obtain ⟨rfl, wf4⟩ := r4
  have q5 : c5.flk = some .f32 := q5
  obtain ⟨y5, rfl, f5, e5⟩ := r5.fl q5
  have q6 : c6.flk = some .f32 := q6
  obtain ⟨y6, rfl, f6, e6⟩ := r6.fl q6
  have q7 : c7.flk = some .f32 := q7
  obtain ⟨y7, rfl, f7, e7⟩ := r7.fl q7
  have q8 : c8.flk = some .f32 := q8
  obtain ⟨y8, rfl, f8, e8⟩ := r8.fl q8
  have q9 : c9.flk = some .f32 := q9
  obtain ⟨y9, rfl, f9, e9⟩ := r9.fl q9
  have q10 : c10.flk = some .f32 := q10
  obtain ⟨y10, rfl, f10, e10⟩ := r10.fl q10
  have q11 : c11.flk = some .f32 := q11
  obtain ⟨y11, rfl, f11, e11⟩ := r11.fl q11
  have HZ := hid hz
  have H0 := hid (fun (w' : World) (hl : le w w') => toU_Ring B [c0, .int .i64 z1] [v0, .int .i64 z1] w' (RdL.cons (c := c0) (r0.le hl) (RdL.cons (c := .int .i64 z1) ⟨rfl, wf1⟩ (RdL.nil _ _))) (ShOkL.cons q0 (ShOkL.cons ⟨_, rfl⟩ (ShOkL.nil))) (szL_le HZ.out 0 2 rfl))
  have H1 := hid (fun (w' : World) (hl : le w w') => toU_Ring B [c2, .int .i64 z3] [v2, .int .i64 z3] w' (RdL.cons (c := c2) (r2.le hl) (RdL.cons (c := .int .i64 z3) ⟨rfl, wf3⟩ (RdL.nil _ _))) (ShOkL.cons q2 (ShOkL.cons ⟨_, rfl⟩ (ShOkL.nil))) (szL_le HZ.out 2 2 rfl))
  obtain ⟨n0, x0, rfl, -⟩ := q0
  obtain ⟨n2, x2, rfl, -⟩ := q2
  have F := (((Frg.nil w).box 31 #[v0, .int .i64 z1, v2, .int .i64 z3, .int .i64 z4, .float .f32 y5, .float .f32 y6, .float .f32 y7, .float .f32 y8, .float .f32 y9, .float .f32 y10, .float .f32 y11]).box 38 #[.slice none 0 0, .int .i64 0, .slice none 0 0, .int .i64 0, .int .i64 0, .float .f32 0, .float .f32 0, .float .f32 0, .float .f32 0, .float .f32 0, .float .f32 0, .float .f32 0]).box 38 #[.slice none 0 0, .int .i64 0, .slice none 0 0, .int .i64 0, .int .i64 0, .float .f32 0, .float .f32 0, .float .f32 0, .float .f32 0, .float .f32 0, .float .f32 0, .float .f32 0]
  simp only [World.size_alloc] at F
  clear hz HZ
  go_enter Try.func8, Try.ntmps8
  go_wp2_with (first | ((with_reducible refine listN F ?_); clear F; intro wN F) | ((with_reducible refine at_load rfl ?_); first | (with_reducible refine wpList_loadGP F rfl rfl rfl (by first | exact m0 | exact m1 | exact m2 | exact m3) Try.underlying24 rfl [v0, .int .i64 z1] (partBow_Neck (v0) (.int .i64 z1) (v2) (.int .i64 z3) (.int .i64 z4) (.float .f32 y5) (.float .f32 y6) (.float .f32 y7) (.float .f32 y8) (.float .f32 y9) (.float .f32 y10) (.float .f32 y11)) uinfoRingL rfl ?_) | (with_reducible refine wpList_loadGP F rfl rfl rfl (by first | exact m0 | exact m1 | exact m2 | exact m3) Try.underlying24 rfl [v2, .int .i64 z3] (partBow_Bridge (v0) (.int .i64 z1) (v2) (.int .i64 z3) (.int .i64 z4) (.float .f32 y5) (.float .f32 y6) (.float .f32 y7) (.float .f32 y8) (.float .f32 y9) (.float .f32 y10) (.float .f32 y11)) uinfoRingL rfl ?_) | (with_reducible refine wpList_loadGP F rfl rfl rfl (by first | exact m0 | exact m1 | exact m2 | exact m3) Try.underlying29 rfl [.int .i64 z4, .float .f32 y5, .float .f32 y6, .float .f32 y7, .float .f32 y8, .float .f32 y9] (partBow_Damp (v0) (.int .i64 z1) (v2) (.int .i64 z3) (.int .i64 z4) (.float .f32 y5) (.float .f32 y6) (.float .f32 y7) (.float .f32 y8) (.float .f32 y9) (.float .f32 y10) (.float .f32 y11)) uinfoFilterL rfl ?_) | (with_reducible refine wpList_load1 F rfl rfl rfl (by first | exact m0 | exact m1 | exact m2 | exact m3) (f := 10) (v := .float .f32 y10) rfl ukindFloat32 ?_) | (with_reducible refine wpList_load1 F rfl rfl rfl (by first | exact m0 | exact m1 | exact m2 | exact m3) (f := 11) (v := .float .f32 y11) rfl ukindFloat32 ?_)) | (go_at_call 27; ((with_reducible refine (H0.out _ F.below).mono ?_); rintro e w1 ⟨us, rfl, ho, hl⟩; obtain ⟨u0, O0, rfl, ho⟩ := inv_Ring _ _ _ ho; have O0 := hid O0; replace F := F.lay1 hl ho; clear ho hl)) | (with_reducible refine stop_store rfl ?_))
  show wpList _ _ _ _ _ _
  refine wpList_storeP rfl rfl rfl (f := 0) (cells := [u0, .int .i64 z1]) rfl (F.row m1) uinfoRingI (by simp) (by (simp only [List.all_toArray', List.all_cons, List.all_nil, Bool.and_true, Bool.true_and, O0.out]) <;> rfl) (fun w2 K => ?_)
  replace F := F.wrI1 (cs' := #[u0, .int .i64 z1, .slice none 0 0, .int .i64 0, .int .i64 0, .float .f32 0, .float .f32 0, .float .f32 0, .float .f32 0, .float .f32 0, .float .f32 0, .float .f32 0]) K
  clear K
  go_wp2_with (first | ((with_reducible refine listN F ?_); clear F; intro wN F) | ((with_reducible refine at_load rfl ?_); first | (with_reducible refine wpList_loadGP F rfl rfl rfl (by first | exact m0 | exact m1 | exact m2 | exact m3 | exact m4) Try.underlying24 rfl [v0, .int .i64 z1] (partBow_Neck (v0) (.int .i64 z1) (v2) (.int .i64 z3) (.int .i64 z4) (.float .f32 y5) (.float .f32 y6) (.float .f32 y7) (.float .f32 y8) (.float .f32 y9) (.float .f32 y10) (.float .f32 y11)) uinfoRingL rfl ?_) | (with_reducible refine wpList_loadGP F rfl rfl rfl (by first | exact m0 | exact m1 | exact m2 | exact m3 | exact m4) Try.underlying24 rfl [v2, .int .i64 z3] (partBow_Bridge (v0) (.int .i64 z1) (v2) (.int .i64 z3) (.int .i64 z4) (.float .f32 y5) (.float .f32 y6) (.float .f32 y7) (.float .f32 y8) (.float .f32 y9) (.float .f32 y10) (.float .f32 y11)) uinfoRingL rfl ?_) | (with_reducible refine wpList_loadGP F rfl rfl rfl (by first | exact m0 | exact m1 | exact m2 | exact m3 | exact m4) Try.underlying29 rfl [.int .i64 z4, .float .f32 y5, .float .f32 y6, .float .f32 y7, .float .f32 y8, .float .f32 y9] (partBow_Damp (v0) (.int .i64 z1) (v2) (.int .i64 z3) (.int .i64 z4) (.float .f32 y5) (.float .f32 y6) (.float .f32 y7) (.float .f32 y8) (.float .f32 y9) (.float .f32 y10) (.float .f32 y11)) uinfoFilterL rfl ?_) | (with_reducible refine wpList_load1 F rfl rfl rfl (by first | exact m0 | exact m1 | exact m2 | exact m3 | exact m4) (f := 10) (v := .float .f32 y10) rfl ukindFloat32 ?_) | (with_reducible refine wpList_load1 F rfl rfl rfl (by first | exact m0 | exact m1 | exact m2 | exact m3 | exact m4) (f := 11) (v := .float .f32 y11) rfl ukindFloat32 ?_)) | (go_at_call 27; ((with_reducible refine (H1.out _ F.below).mono ?_); rintro e w1 ⟨us, rfl, ho, hl⟩; obtain ⟨u2, O2, rfl, ho⟩ := inv_Ring _ _ _ ho; have O2 := hid O2; replace F := F.lay1 hl ho; clear ho hl)) | (with_reducible refine stop_store rfl ?_))
  show wpList _ _ _ _ _ _
  refine wpList_storeP rfl rfl rfl (f := 2) (cells := [u2, .int .i64 z3]) rfl (F.row m2) uinfoRingI (by simp) (by (simp only [List.all_toArray', List.all_cons, List.all_nil, Bool.and_true, Bool.true_and, O2.out]) <;> rfl) (fun w2 K => ?_)
  replace F := F.wrI2 (cs' := #[u0, .int .i64 z1, u2, .int .i64 z3, .int .i64 0, .float .f32 0, .float .f32 0, .float .f32 0, .float .f32 0, .float .f32 0, .float .f32 0, .float .f32 0]) K
  clear K
  go_wp2_with (first | ((with_reducible refine listN F ?_); clear F; intro wN F) | ((with_reducible refine at_load rfl ?_); first | (with_reducible refine wpList_loadGP F rfl rfl rfl (by first | exact m0 | exact m1 | exact m2 | exact m3 | exact m4 | exact m5) Try.underlying24 rfl [v0, .int .i64 z1] (partBow_Neck (v0) (.int .i64 z1) (v2) (.int .i64 z3) (.int .i64 z4) (.float .f32 y5) (.float .f32 y6) (.float .f32 y7) (.float .f32 y8) (.float .f32 y9) (.float .f32 y10) (.float .f32 y11)) uinfoRingL rfl ?_) | (with_reducible refine wpList_loadGP F rfl rfl rfl (by first | exact m0 | exact m1 | exact m2 | exact m3 | exact m4 | exact m5) Try.underlying24 rfl [v2, .int .i64 z3] (partBow_Bridge (v0) (.int .i64 z1) (v2) (.int .i64 z3) (.int .i64 z4) (.float .f32 y5) (.float .f32 y6) (.float .f32 y7) (.float .f32 y8) (.float .f32 y9) (.float .f32 y10) (.float .f32 y11)) uinfoRingL rfl ?_) | (with_reducible refine wpList_loadGP F rfl rfl rfl (by first | exact m0 | exact m1 | exact m2 | exact m3 | exact m4 | exact m5) Try.underlying29 rfl [.int .i64 z4, .float .f32 y5, .float .f32 y6, .float .f32 y7, .float .f32 y8, .float .f32 y9] (partBow_Damp (v0) (.int .i64 z1) (v2) (.int .i64 z3) (.int .i64 z4) (.float .f32 y5) (.float .f32 y6) (.float .f32 y7) (.float .f32 y8) (.float .f32 y9) (.float .f32 y10) (.float .f32 y11)) uinfoFilterL rfl ?_) | (with_reducible refine wpList_load1 F rfl rfl rfl (by first | exact m0 | exact m1 | exact m2 | exact m3 | exact m4 | exact m5) (f := 10) (v := .float .f32 y10) rfl ukindFloat32 ?_) | (with_reducible refine wpList_load1 F rfl rfl rfl (by first | exact m0 | exact m1 | exact m2 | exact m3 | exact m4 | exact m5) (f := 11) (v := .float .f32 y11) rfl ukindFloat32 ?_)) | (go_at_call 28; ((with_reducible refine (toFil_any _ _ _ _ _ _ _).mono ?_); rintro e w1 ⟨rfl, hl⟩; replace F := F.le hl; clear hl)) | (with_reducible refine stop_store rfl ?_))
  show wpList _ _ _ _ _ _
  refine wpList_storeP rfl rfl rfl (f := 4) (cells := [.int .i64 z4, .float .f32 y5, .float .f32 y6, .float .f32 y7, .float .f32 y8, .float .f32 y9]) rfl (F.row m2) uinfoFilterI (by simp) (by (simp only [List.all_toArray', List.all_cons, List.all_nil, Bool.and_true, Bool.true_and]) <;> rfl) (fun w2 K => ?_)
  replace F := F.wrI2 (cs' := #[u0, .int .i64 z1, u2, .int .i64 z3, .int .i64 z4, .float .f32 y5, .float .f32 y6, .float .f32 y7, .float .f32 y8, .float .f32 y9, .float .f32 0, .float .f32 0]) K
  clear K
  go_wp2_with (first | ((with_reducible refine listN F ?_); clear F; intro wN F) | ((with_reducible refine at_load rfl ?_); first | (with_reducible refine wpList_loadGP F rfl rfl rfl (by first | exact m0 | exact m1 | exact m2 | exact m3 | exact m4 | exact m5) Try.underlying24 rfl [v0, .int .i64 z1] (partBow_Neck (v0) (.int .i64 z1) (v2) (.int .i64 z3) (.int .i64 z4) (.float .f32 y5) (.float .f32 y6) (.float .f32 y7) (.float .f32 y8) (.float .f32 y9) (.float .f32 y10) (.float .f32 y11)) uinfoRingL rfl ?_) | (with_reducible refine wpList_loadGP F rfl rfl rfl (by first | exact m0 | exact m1 | exact m2 | exact m3 | exact m4 | exact m5) Try.underlying24 rfl [v2, .int .i64 z3] (partBow_Bridge (v0) (.int .i64 z1) (v2) (.int .i64 z3) (.int .i64 z4) (.float .f32 y5) (.float .f32 y6) (.float .f32 y7) (.float .f32 y8) (.float .f32 y9) (.float .f32 y10) (.float .f32 y11)) uinfoRingL rfl ?_) | (with_reducible refine wpList_loadGP F rfl rfl rfl (by first | exact m0 | exact m1 | exact m2 | exact m3 | exact m4 | exact m5) Try.underlying29 rfl [.int .i64 z4, .float .f32 y5, .float .f32 y6, .float .f32 y7, .float .f32 y8, .float .f32 y9] (partBow_Damp (v0) (.int .i64 z1) (v2) (.int .i64 z3) (.int .i64 z4) (.float .f32 y5) (.float .f32 y6) (.float .f32 y7) (.float .f32 y8) (.float .f32 y9) (.float .f32 y10) (.float .f32 y11)) uinfoFilterL rfl ?_) | (with_reducible refine wpList_load1 F rfl rfl rfl (by first | exact m0 | exact m1 | exact m2 | exact m3 | exact m4 | exact m5) (f := 10) (v := .float .f32 y10) rfl ukindFloat32 ?_) | (with_reducible refine wpList_load1 F rfl rfl rfl (by first | exact m0 | exact m1 | exact m2 | exact m3 | exact m4 | exact m5) (f := 11) (v := .float .f32 y11) rfl ukindFloat32 ?_)) | (with_reducible refine stop_store rfl ?_))
  show wpList _ _ _ _ _ _
  refine wpList_store1 rfl rfl (f := 10) rfl rfl (F.row m2) uinfo1Float32 (by simp) rfl #[u0, .int .i64 z1, u2, .int .i64 z3, .int .i64 z4, .float .f32 y5, .float .f32 y6, .float .f32 y7, .float .f32 y8, .float .f32 y9, .float .f32 y10, .float .f32 0] rfl (fun w2 K => ?_)
  replace F := F.wrI2 (cs' := #[u0, .int .i64 z1, u2, .int .i64 z3, .int .i64 z4, .float .f32 y5, .float .f32 y6, .float .f32 y7, .float .f32 y8, .float .f32 y9, .float .f32 y10, .float .f32 0]) K
  clear K
  go_wp2_with (first | ((with_reducible refine listN F ?_); clear F; intro wN F) | ((with_reducible refine at_load rfl ?_); first | (with_reducible refine wpList_loadGP F rfl rfl rfl (by first | exact m0 | exact m1 | exact m2 | exact m3 | exact m4 | exact m5) Try.underlying24 rfl [v0, .int .i64 z1] (partBow_Neck (v0) (.int .i64 z1) (v2) (.int .i64 z3) (.int .i64 z4) (.float .f32 y5) (.float .f32 y6) (.float .f32 y7) (.float .f32 y8) (.float .f32 y9) (.float .f32 y10) (.float .f32 y11)) uinfoRingL rfl ?_) | (with_reducible refine wpList_loadGP F rfl rfl rfl (by first | exact m0 | exact m1 | exact m2 | exact m3 | exact m4 | exact m5) Try.underlying24 rfl [v2, .int .i64 z3] (partBow_Bridge (v0) (.int .i64 z1) (v2) (.int .i64 z3) (.int .i64 z4) (.float .f32 y5) (.float .f32 y6) (.float .f32 y7) (.float .f32 y8) (.float .f32 y9) (.float .f32 y10) (.float .f32 y11)) uinfoRingL rfl ?_) | (with_reducible refine wpList_loadGP F rfl rfl rfl (by first | exact m0 | exact m1 | exact m2 | exact m3 | exact m4 | exact m5) Try.underlying29 rfl [.int .i64 z4, .float .f32 y5, .float .f32 y6, .float .f32 y7, .float .f32 y8, .float .f32 y9] (partBow_Damp (v0) (.int .i64 z1) (v2) (.int .i64 z3) (.int .i64 z4) (.float .f32 y5) (.float .f32 y6) (.float .f32 y7) (.float .f32 y8) (.float .f32 y9) (.float .f32 y10) (.float .f32 y11)) uinfoFilterL rfl ?_) | (with_reducible refine wpList_load1 F rfl rfl rfl (by first | exact m0 | exact m1 | exact m2 | exact m3 | exact m4 | exact m5) (f := 10) (v := .float .f32 y10) rfl ukindFloat32 ?_) | (with_reducible refine wpList_load1 F rfl rfl rfl (by first | exact m0 | exact m1 | exact m2 | exact m3 | exact m4 | exact m5) (f := 11) (v := .float .f32 y11) rfl ukindFloat32 ?_)) | (with_reducible refine stop_store rfl ?_))
  show wpList _ _ _ _ _ _
  refine wpList_store1 rfl rfl (f := 11) rfl rfl (F.row m2) uinfo1Float32 (by simp) rfl #[u0, .int .i64 z1, u2, .int .i64 z3, .int .i64 z4, .float .f32 y5, .float .f32 y6, .float .f32 y7, .float .f32 y8, .float .f32 y9, .float .f32 y10, .float .f32 y11] rfl (fun w2 K => ?_)
  replace F := F.wrI2 (cs' := #[u0, .int .i64 z1, u2, .int .i64 z3, .int .i64 z4, .float .f32 y5, .float .f32 y6, .float .f32 y7, .float .f32 y8, .float .f32 y9, .float .f32 y10, .float .f32 y11]) K
  clear K
  go_wp2_with (first | ((with_reducible refine listN F ?_); clear F; intro wN F) | ((with_reducible refine at_load rfl ?_); (with_reducible refine wpList_loadG F rfl rfl rfl (by first | exact m0 | exact m1 | exact m2) Try.underlying38 rfl uinfoBowI rfl ?_)) | (with_reducible refine stop_store rfl ?_))
  show wpList _ _ _ _ _ _
  refine wpList_storeD rfl rfl rfl (cells := #[u0, .int .i64 z1, u2, .int .i64 z3, .int .i64 z4, .float .f32 y5, .float .f32 y6, .float .f32 y7, .float .f32 y8, .float .f32 y9, .float .f32 y10, .float .f32 y11]) rfl (F.row m3) uinfoBowI rfl (by (simp only [List.all_toArray', List.all_cons, List.all_nil, Bool.and_true, Bool.true_and, O0.out, O2.out]) <;> rfl) (fun w6 K => ?_)
  have R := hid K.row
  replace F := F.wrI3 K
  have E0 := Eaten.start F
  replace E0 := Eaten.leaf (c := CD.cp c11) (v := .float .f32 y11) E0 (r11.leafLay (flk_ne q11))
  replace E0 := Eaten.leaf (c := CD.cp c10) (v := .float .f32 y10) E0 (r10.leafLay (flk_ne q10))
  replace E0 := Eaten.leaf (c := CD.cp c9) (v := .float .f32 y9) E0 (r9.leafLay (flk_ne q9))
  replace E0 := Eaten.leaf (c := CD.cp c8) (v := .float .f32 y8) E0 (r8.leafLay (flk_ne q8))
  replace E0 := Eaten.leaf (c := CD.cp c7) (v := .float .f32 y7) E0 (r7.leafLay (flk_ne q7))
  replace E0 := Eaten.leaf (c := CD.cp c6) (v := .float .f32 y6) E0 (r6.leafLay (flk_ne q6))
  replace E0 := Eaten.leaf (c := CD.cp c5) (v := .float .f32 y5) E0 (r5.leafLay (flk_ne q5))
  replace E0 := Eaten.leaf (c := .int .i64 z4) (v := .int .i64 z4) E0 (show CD.Lay _ _ _ _ from ⟨rfl, wf4⟩)
  replace E0 := Eaten.eat F E0
  replace F := F.tl
  replace E0 := Eaten.eat F E0
  replace F := F.tl
  have L := hid (show LayL _ _ _ _ ∧ le w _ from ⟨E0.fin, F.below⟩)
  clear K F E0
  go_wp2
  exact bodyPost_ret (results_row1 rfl _ _ _ _ _ rfl R.out Try.underlying38 rfl uinfoBowI) rfl ⟨[u0, .int .i64 z1, u2, .int .i64 z3, .int .i64 z4, .float .f32 y5, .float .f32 y6, .float .f32 y7, .float .f32 y8, .float .f32 y9, .float .f32 y10, .float .f32 y11], rfl, L.out.1, L.out.2⟩
end Go.Proofs.Ythjdklolbkhbfaa

/- The laws' helpers for Ring, over trees of data. -/
namespace Go.Proofs.Ythjdklolbkhbfaa
open Go.RowKit Go.Fk
theorem mtU_Ring {cs : List CD} (hsh : ShOkL shRing cs) : mtL cs = szL cs := by
  obtain ⟨c0, cs, rfl, q0, hsh⟩ := hsh.inv
  obtain ⟨c1, cs, rfl, q1, hsh⟩ := hsh.inv
  obtain rfl := hsh.inv0
  obtain ⟨n0, x0, rfl, q0⟩ := q0
  obtain ⟨z1, rfl⟩ := q1
  simp only [mtL, szL, List.map_cons, List.map_nil, List.sum_cons, List.sum_nil, CD.mt_flts (ShOk.flts q0 rfl), CD.sz_flts (ShOk.flts q0 rfl)]
  simp [CD.mt, CD.sz]
set_option maxRecDepth 100000 in
set_option maxHeartbeats 4000000 in
theorem markU_Ring (S : Nat → Prop) (cs : List CD) (vs : List Value) (z : Int) (w : World) (hsh : ShOkL shRing cs) (hn : mtL cs ≤ 1048576) (hz : 0 ≤ z) (hz2 : z + (mtL cs : Nat) ≤ 16777216) (h : LayL w S cs vs) :
    Calls Try.prog 38 #[.agg vs.toArray, .int .i64 z] w fun e w' => e = .returned (.int .i64 (z + (mtL cs : Nat))) ∧ LayL w' S (mkL cs z) vs ∧ Chg S w w' := by
  obtain ⟨c0, cs, rfl, q0, hsh⟩ := hsh.inv
  obtain ⟨c1, cs, rfl, q1, hsh⟩ := hsh.inv
  obtain rfl := hsh.inv0
  obtain ⟨n0, x0, rfl, q0⟩ := q0
  obtain ⟨z1, rfl⟩ := q1
  obtain ⟨a0, ha0⟩ : ∃ a : Nat, a = mtL ([.sl 1 n0 x0] : List CD) := ⟨_, rfl⟩
  have hs : mtL ([.sl 1 n0 x0, .int .i64 z1] : List CD) = a0 := by
    rw [show ([.sl 1 n0 x0, .int .i64 z1] : List CD) = ([.sl 1 n0 x0] : List CD) ++ ([.int .i64 z1] : List CD) from rfl]
    simp only [mtL_append]
    have l1 := (mkL_leaf (cs := [.int .i64 z1]) (noL_cons noS_int noL_nil)).1
    omega
  rw [hs] at hn hz2 ⊢
  obtain ⟨g0, r0, A0, B0, rfl, l0, h0, a0_, b0_, d0⟩ := LayL.split (a := [.sl 1 n0 x0]) (b := [.int .i64 z1]) h
  have l1 := h0
  have L0 := hid l0
  obtain ⟨v0, rr, _, _, rfl, e0, l0, _, _, _⟩ := l0.inv
  obtain rfl := l0.inv0
  have L1 := hid l1
  obtain ⟨v1, rr, _, _, rfl, e1, l1, _, _, _⟩ := l1.inv
  obtain rfl := l1.inv0
  have SS0 : ∀ j, A0 j → S j := fun j x => a0_ j x
  have K0 := hid (L0.out.lt)
  have F := (Frg.nil w).box 35 #[v0, v1]
  have CH := hid (Chg.refl S w)
  obtain ⟨N0, hN0⟩ : ∃ N0, N0 = w.heap.size := ⟨_, rfl⟩
  have HW := hid hN0; have SZ := hid hN0; clear hN0
  have M0 : ∀ (zz : Int) (w1 : World), 0 ≤ zz → zz + (a0 : Int) ≤ 16777216 → LayL w1 (fun j => A0 j ∧ j < w.heap.size) ([.sl 1 n0 x0] : List CD) [v0] → Calls Try.prog 20 #[v0, .int .i64 zz] w1 fun e w2 => e = .returned (.int .i64 (zz + (a0 : Int))) ∧ LayL w2 (fun j => A0 j ∧ j < w.heap.size) (mkL ([.sl 1 n0 x0] : List CD) zz) [v0] ∧ Chg (fun j => A0 j ∧ j < w.heap.size) w1 w2 := by
    intro zz w1 h0 h1 h
    rw [ha0] at h1 ⊢
    exact markU_Float32S _ n0 x0 v0 zz _ (by omega) h0 (by omega) q0 h
  replace M0 := hid M0
  replace ha0 := hid ha0
  replace hs := hid hs
  go_enter Try.func38, Try.ntmps38
  go_wp2_with (first | ((with_reducible refine listN F ?_); clear F; intro wN F) | ((with_reducible refine at_load rfl ?_); first | (with_reducible refine wpList_load1 F rfl rfl rfl (by first | exact m0 | exact m1 | exact m2) (f := 0) (v := v0) rfl ukindFloat32S ?_) | (with_reducible refine wpList_load1 F rfl rfl rfl (by first | exact m0 | exact m1 | exact m2) (f := 1) (v := v1) rfl ukindInt64 ?_)))
  first | ((with_reducible refine callAt0 F ?_); clear F; intro wN F) | ((with_reducible refine callAtN F ?_); clear F; intro wN F)
  refine (M0.out z _ (by omega) (by omega) (K0.out.le F.below)).mono ?_
  rintro e w4 ⟨rfl, hl, hc⟩
  obtain ⟨wb0, F2, hcb, hsz, heq⟩ := F.rebase hc (fun j hj => by have := hj.2; have := SZ.out; have := HW.out; omega)
  replace K0 := hid (hl.ok (fun j hj => heq j (by have := hj.2; have := SZ.out; have := HW.out; omega)))
  replace CH := hid (CH.out.trans (hcb.mono (fun j x => SS0 j x.1)))
  replace SZ := hid (SZ.out.trans hsz.symm)
  clear hl heq hcb hsz hc F
  have F := F2
  clear F2
  go_wp2_with (first | ((with_reducible refine listN F ?_); clear F; intro wN F) | ((with_reducible refine at_load rfl ?_); first | (with_reducible refine wpList_load1 F rfl rfl rfl (by first | exact m0 | exact m1 | exact m2) (f := 0) (v := v0) rfl ukindFloat32S ?_) | (with_reducible refine wpList_load1 F rfl rfl rfl (by first | exact m0 | exact m1 | exact m2) (f := 1) (v := v1) rfl ukindInt64 ?_)))
  go_ret
  replace ha0 := ha0.out
  replace hs := hs.out
  refine ⟨ret_i (by omega), ?_, CH.out.le F.below⟩
  rw [show ([.sl 1 n0 x0, .int .i64 z1] : List CD) = (([.sl 1 n0 x0] : List CD) ++ ([.int .i64 z1] : List CD)) from rfl]
  simp only [mkL_append]
  have lf1 := (mkL_leaf (cs := [.int .i64 z1]) (noL_cons noS_int noL_nil)).1
  exact (LayL.append (((K0.out.le F.below).mono (fun j x => x.1)).atz (by omega)) (L1.out.leafs (noL_cons noS_int noL_nil) _) a0_ b0_ d0)
set_option maxRecDepth 100000 in
set_option maxHeartbeats 4000000 in
theorem heldU_Ring (B : Nat) (cs : List CD) (vs : List Value) (z : Int) (w : World) (hsh : ShOkL shRing cs) (hn : mtL cs ≤ 1048576) (hz : 0 ≤ z) (hz2 : z + (mtL cs : Nat) ≤ 16777216) (h : RdL w B (mkL cs z) vs) :
    Calls Try.prog 39 #[.agg vs.toArray, .int .i64 z] w fun e w' => e = .returned (.int .i64 (z + (mtL cs : Nat))) ∧ le w w' := by
  obtain ⟨c0, cs, rfl, q0, hsh⟩ := hsh.inv
  obtain ⟨c1, cs, rfl, q1, hsh⟩ := hsh.inv
  obtain rfl := hsh.inv0
  obtain ⟨n0, x0, rfl, q0⟩ := q0
  obtain ⟨z1, rfl⟩ := q1
  obtain ⟨a0, ha0⟩ : ∃ a : Nat, a = mtL ([.sl 1 n0 x0] : List CD) := ⟨_, rfl⟩
  have hs : mtL ([.sl 1 n0 x0, .int .i64 z1] : List CD) = a0 := by
    rw [show ([.sl 1 n0 x0, .int .i64 z1] : List CD) = ([.sl 1 n0 x0] : List CD) ++ ([.int .i64 z1] : List CD) from rfl]
    simp only [mtL_append]
    have l1 := (mkL_leaf (cs := [.int .i64 z1]) (noL_cons noS_int noL_nil)).1
    omega
  rw [hs] at hn hz2 ⊢
  have lf1 := (mkL_leaf (cs := [.int .i64 z1]) (noL_cons noS_int noL_nil)).1
  rw [show ([.sl 1 n0 x0, .int .i64 z1] : List CD) = (([.sl 1 n0 x0] : List CD) ++ ([.int .i64 z1] : List CD)) from rfl] at h
  simp only [mkL_append] at h
  obtain ⟨g0, r0, rfl, l0, h0⟩ := h.split
  have l1 := h0
  replace l0 := l0.atz (z' := z) (by omega)
  have L0 := hid l0
  simp only [mkL] at l0
  obtain ⟨v0, rr, rfl, e0, l0⟩ := l0.inv
  obtain rfl := l0.inv0
  replace l1 := l1.leafs (noL_cons noS_int noL_nil)
  have L1 := hid l1
  obtain ⟨v1, rr, rfl, e1, l1⟩ := l1.inv
  obtain rfl := l1.inv0
  have F := (Frg.nil w).box 35 #[v0, v1]
  have hz_0 : ¬ ((z + (a0 : Int)) < 0) := by omega
  have M0 : ∀ (w1 : World), le w w1 → Calls Try.prog 21 #[v0, .int .i64 z] w1 fun e w2 => e = .returned (.int .i64 (z + (a0 : Int))) ∧ le w1 w2 := by
    intro w1 h
    rw [show (a0 : Int) = (mtL ([.sl 1 n0 x0] : List CD) : Nat) by rw [ha0]]
    exact heldU_Float32S _ n0 x0 v0 z _ (by omega) (by omega) (by omega) q0 (L0.out.le h)
  replace M0 := hid M0
  replace ha0 := hid ha0
  replace hs := hid hs
  go_enter Try.func39, Try.ntmps39
  go_wp2_with (first | ((with_reducible refine listN F ?_); clear F; intro wN F) | ((with_reducible refine at_load rfl ?_); first | (with_reducible refine wpList_load1 F rfl rfl rfl (by first | exact m0 | exact m1 | exact m2) (f := 0) (v := v0) rfl ukindFloat32S ?_) | (with_reducible refine wpList_load1 F rfl rfl rfl (by first | exact m0 | exact m1 | exact m2) (f := 1) (v := v1) rfl ukindInt64 ?_)) | (go_at_call 21; ((with_reducible refine (M0.out _ F.below).mono ?_); rintro e w1 ⟨rfl, hl⟩; replace F := F.le hl; clear hl)))
  go_ret
  exact ⟨ret_i (by omega), F.below⟩
end Go.Proofs.Ythjdklolbkhbfaa

/- The laws' helpers for Bow, over trees of data. -/
namespace Go.Proofs.Ythjdklolbkhbfaa
open Go.RowKit Go.Fk
theorem mtU_Bow {cs : List CD} (hsh : ShOkL shBow cs) : mtL cs = szL cs := by
  obtain ⟨c0, cs, rfl, q0, hsh⟩ := hsh.inv
  obtain ⟨c1, cs, rfl, q1, hsh⟩ := hsh.inv
  obtain ⟨c2, cs, rfl, q2, hsh⟩ := hsh.inv
  obtain ⟨c3, cs, rfl, q3, hsh⟩ := hsh.inv
  obtain ⟨c4, cs, rfl, q4, hsh⟩ := hsh.inv
  obtain ⟨c5, cs, rfl, q5, hsh⟩ := hsh.inv
  obtain ⟨c6, cs, rfl, q6, hsh⟩ := hsh.inv
  obtain ⟨c7, cs, rfl, q7, hsh⟩ := hsh.inv
  obtain ⟨c8, cs, rfl, q8, hsh⟩ := hsh.inv
  obtain ⟨c9, cs, rfl, q9, hsh⟩ := hsh.inv
  obtain ⟨c10, cs, rfl, q10, hsh⟩ := hsh.inv
  obtain ⟨c11, cs, rfl, q11, hsh⟩ := hsh.inv
  obtain rfl := hsh.inv0
  obtain ⟨n0, x0, rfl, q0⟩ := q0
  obtain ⟨z1, rfl⟩ := q1
  obtain ⟨n2, x2, rfl, q2⟩ := q2
  obtain ⟨z3, rfl⟩ := q3
  obtain ⟨z4, rfl⟩ := q4
  have q5 : c5.flk = some .f32 := q5
  have q6 : c6.flk = some .f32 := q6
  have q7 : c7.flk = some .f32 := q7
  have q8 : c8.flk = some .f32 := q8
  have q9 : c9.flk = some .f32 := q9
  have q10 : c10.flk = some .f32 := q10
  have q11 : c11.flk = some .f32 := q11
  simp only [mtL, szL, List.map_cons, List.map_nil, List.sum_cons, List.sum_nil, CD.mt_flts (ShOk.flts q0 rfl), CD.sz_flts (ShOk.flts q0 rfl), CD.mt_flts (ShOk.flts q2 rfl), CD.sz_flts (ShOk.flts q2 rfl), CD.mt_fl q5, CD.sz_fl q5, CD.mt_fl q6, CD.sz_fl q6, CD.mt_fl q7, CD.sz_fl q7, CD.mt_fl q8, CD.sz_fl q8, CD.mt_fl q9, CD.sz_fl q9, CD.mt_fl q10, CD.sz_fl q10, CD.mt_fl q11, CD.sz_fl q11]
  simp [CD.mt, CD.sz]
set_option maxRecDepth 100000 in
set_option maxHeartbeats 4000000 in
theorem markU_Bow (S : Nat → Prop) (cs : List CD) (vs : List Value) (z : Int) (w : World) (hsh : ShOkL shBow cs) (hn : mtL cs ≤ 1048576) (hz : 0 ≤ z) (hz2 : z + (mtL cs : Nat) ≤ 16777216) (h : LayL w S cs vs) :
    Calls Try.prog 14 #[.agg vs.toArray, .int .i64 z] w fun e w' => e = .returned (.int .i64 (z + (mtL cs : Nat))) ∧ LayL w' S (mkL cs z) vs ∧ Chg S w w' := by
  obtain ⟨c0, cs, rfl, q0, hsh⟩ := hsh.inv
  obtain ⟨c1, cs, rfl, q1, hsh⟩ := hsh.inv
  obtain ⟨c2, cs, rfl, q2, hsh⟩ := hsh.inv
  obtain ⟨c3, cs, rfl, q3, hsh⟩ := hsh.inv
  obtain ⟨c4, cs, rfl, q4, hsh⟩ := hsh.inv
  obtain ⟨c5, cs, rfl, q5, hsh⟩ := hsh.inv
  obtain ⟨c6, cs, rfl, q6, hsh⟩ := hsh.inv
  obtain ⟨c7, cs, rfl, q7, hsh⟩ := hsh.inv
  obtain ⟨c8, cs, rfl, q8, hsh⟩ := hsh.inv
  obtain ⟨c9, cs, rfl, q9, hsh⟩ := hsh.inv
  obtain ⟨c10, cs, rfl, q10, hsh⟩ := hsh.inv
  obtain ⟨c11, cs, rfl, q11, hsh⟩ := hsh.inv
  obtain rfl := hsh.inv0
  obtain ⟨z1, rfl⟩ := q1
  obtain ⟨z3, rfl⟩ := q3
  obtain ⟨z4, rfl⟩ := q4
  have q5 : c5.flk = some .f32 := q5
  have q6 : c6.flk = some .f32 := q6
  have q7 : c7.flk = some .f32 := q7
  have q8 : c8.flk = some .f32 := q8
  have q9 : c9.flk = some .f32 := q9
  have q10 : c10.flk = some .f32 := q10
  have q11 : c11.flk = some .f32 := q11
  obtain ⟨a0, ha0⟩ : ∃ a : Nat, a = mtL ([c0, .int .i64 z1] : List CD) := ⟨_, rfl⟩
  obtain ⟨a1, ha1⟩ : ∃ a : Nat, a = mtL ([c2, .int .i64 z3] : List CD) := ⟨_, rfl⟩
  have hs : mtL ([c0, .int .i64 z1, c2, .int .i64 z3, .int .i64 z4, c5, c6, c7, c8, c9, c10, c11] : List CD) = a0 + a1 := by
    rw [show ([c0, .int .i64 z1, c2, .int .i64 z3, .int .i64 z4, c5, c6, c7, c8, c9, c10, c11] : List CD) = ([c0, .int .i64 z1] : List CD) ++ ([c2, .int .i64 z3] : List CD) ++ ([.int .i64 z4, c5, c6, c7, c8, c9, c10, c11] : List CD) from rfl]
    simp only [mtL_append]
    have l2 := (mkL_leaf (cs := [.int .i64 z4, c5, c6, c7, c8, c9, c10, c11]) (noL_cons noS_int (noL_cons (noS_fl q5) (noL_cons (noS_fl q6) (noL_cons (noS_fl q7) (noL_cons (noS_fl q8) (noL_cons (noS_fl q9) (noL_cons (noS_fl q10) (noL_cons (noS_fl q11) noL_nil))))))))).1
    omega
  rw [hs] at hn hz2 ⊢
  obtain ⟨g0, r0, A0, B0, rfl, l0, h0, a0_, b0_, d0⟩ := LayL.split (a := [c0, .int .i64 z1]) (b := [c2, .int .i64 z3, .int .i64 z4, c5, c6, c7, c8, c9, c10, c11]) h
  obtain ⟨g1, r1, A1, B1, rfl, l1, h1, a1_, b1_, d1⟩ := LayL.split (a := [c2, .int .i64 z3]) (b := [.int .i64 z4, c5, c6, c7, c8, c9, c10, c11]) h0
  have l2 := h1
  have L0 := hid l0
  obtain ⟨v0, rr, _, _, rfl, e0, l0, _, _, _⟩ := l0.inv
  obtain ⟨v1, rr, _, _, rfl, e1, l0, _, _, _⟩ := l0.inv
  obtain rfl := l0.inv0
  obtain ⟨rfl, wf1⟩ := e1
  have L1 := hid l1
  obtain ⟨v2, rr, _, _, rfl, e2, l1, _, _, _⟩ := l1.inv
  obtain ⟨v3, rr, _, _, rfl, e3, l1, _, _, _⟩ := l1.inv
  obtain rfl := l1.inv0
  obtain ⟨rfl, wf3⟩ := e3
  have L2 := hid l2
  obtain ⟨v4, rr, _, _, rfl, e4, l2, _, _, _⟩ := l2.inv
  obtain ⟨v5, rr, _, _, rfl, e5, l2, _, _, _⟩ := l2.inv
  obtain ⟨v6, rr, _, _, rfl, e6, l2, _, _, _⟩ := l2.inv
  obtain ⟨v7, rr, _, _, rfl, e7, l2, _, _, _⟩ := l2.inv
  obtain ⟨v8, rr, _, _, rfl, e8, l2, _, _, _⟩ := l2.inv
  obtain ⟨v9, rr, _, _, rfl, e9, l2, _, _, _⟩ := l2.inv
  obtain ⟨v10, rr, _, _, rfl, e10, l2, _, _, _⟩ := l2.inv
  obtain ⟨v11, rr, _, _, rfl, e11, l2, _, _, _⟩ := l2.inv
  obtain rfl := l2.inv0
  have SS0 : ∀ j, A0 j → S j := fun j x => a0_ j x
  have SS1 : ∀ j, A1 j → S j := fun j x => b0_ j (a1_ j x)
  have D0_1 : ∀ j, A0 j → A1 j → False := fun j y x => d0 j y (a1_ j x)
  have K0 := hid (L0.out.lt)
  have K1 := hid (L1.out.lt)
  have F := (Frg.nil w).box 38 #[v0, .int .i64 z1, v2, .int .i64 z3, v4, v5, v6, v7, v8, v9, v10, v11]
  have CH := hid (Chg.refl S w)
  obtain ⟨N0, hN0⟩ : ∃ N0, N0 = w.heap.size := ⟨_, rfl⟩
  have HW := hid hN0; have SZ := hid hN0; clear hN0
  have M0 : ∀ (zz : Int) (w1 : World), 0 ≤ zz → zz + (a0 : Int) ≤ 16777216 → LayL w1 (fun j => A0 j ∧ j < w.heap.size) ([c0, .int .i64 z1] : List CD) [v0, .int .i64 z1] → Calls Try.prog 38 #[.agg #[v0, .int .i64 z1], .int .i64 zz] w1 fun e w2 => e = .returned (.int .i64 (zz + (a0 : Int))) ∧ LayL w2 (fun j => A0 j ∧ j < w.heap.size) (mkL ([c0, .int .i64 z1] : List CD) zz) [v0, .int .i64 z1] ∧ Chg (fun j => A0 j ∧ j < w.heap.size) w1 w2 := by
    intro zz w1 h0 h1 h
    rw [ha0] at h1 ⊢
    exact markU_Ring _ _ _ zz _ (ShOkL.cons q0 (ShOkL.cons ⟨_, rfl⟩ (ShOkL.nil))) (by omega) h0 (by omega) h
  replace M0 := hid M0
  have M1 : ∀ (zz : Int) (w1 : World), 0 ≤ zz → zz + (a1 : Int) ≤ 16777216 → LayL w1 (fun j => A1 j ∧ j < w.heap.size) ([c2, .int .i64 z3] : List CD) [v2, .int .i64 z3] → Calls Try.prog 38 #[.agg #[v2, .int .i64 z3], .int .i64 zz] w1 fun e w2 => e = .returned (.int .i64 (zz + (a1 : Int))) ∧ LayL w2 (fun j => A1 j ∧ j < w.heap.size) (mkL ([c2, .int .i64 z3] : List CD) zz) [v2, .int .i64 z3] ∧ Chg (fun j => A1 j ∧ j < w.heap.size) w1 w2 := by
    intro zz w1 h0 h1 h
    rw [ha1] at h1 ⊢
    exact markU_Ring _ _ _ zz _ (ShOkL.cons q2 (ShOkL.cons ⟨_, rfl⟩ (ShOkL.nil))) (by omega) h0 (by omega) h
  replace M1 := hid M1
  replace ha0 := hid ha0
  replace ha1 := hid ha1
  replace hs := hid hs
  go_enter Try.func14, Try.ntmps14
  go_wp2_with (first | ((with_reducible refine listN F ?_); clear F; intro wN F) | ((with_reducible refine at_load rfl ?_); first | (with_reducible refine wpList_loadGP F rfl rfl rfl (by first | exact m0 | exact m1 | exact m2) Try.underlying35 rfl [v0, .int .i64 z1] (partBow_Neck (v0) (.int .i64 z1) (v2) (.int .i64 z3) (v4) (v5) (v6) (v7) (v8) (v9) (v10) (v11)) uinfoRingI rfl ?_) | (with_reducible refine wpList_loadGP F rfl rfl rfl (by first | exact m0 | exact m1 | exact m2) Try.underlying35 rfl [v2, .int .i64 z3] (partBow_Bridge (v0) (.int .i64 z1) (v2) (.int .i64 z3) (v4) (v5) (v6) (v7) (v8) (v9) (v10) (v11)) uinfoRingI rfl ?_) | (with_reducible refine wpList_loadGP F rfl rfl rfl (by first | exact m0 | exact m1 | exact m2) Try.underlying36 rfl [v4, v5, v6, v7, v8, v9] (partBow_Damp (v0) (.int .i64 z1) (v2) (.int .i64 z3) (v4) (v5) (v6) (v7) (v8) (v9) (v10) (v11)) uinfoFilterI rfl ?_) | (with_reducible refine wpList_load1 F rfl rfl rfl (by first | exact m0 | exact m1 | exact m2) (f := 10) (v := v10) rfl ukindFloat32 ?_) | (with_reducible refine wpList_load1 F rfl rfl rfl (by first | exact m0 | exact m1 | exact m2) (f := 11) (v := v11) rfl ukindFloat32 ?_)))
  first | ((with_reducible refine callAt0 F ?_); clear F; intro wN F) | ((with_reducible refine callAtN F ?_); clear F; intro wN F)
  refine (M0.out z _ (by omega) (by omega) (K0.out.le F.below)).mono ?_
  rintro e w4 ⟨rfl, hl, hc⟩
  obtain ⟨wb0, F2, hcb, hsz, heq⟩ := F.rebase hc (fun j hj => by have := hj.2; have := SZ.out; have := HW.out; omega)
  replace K0 := hid (hl.ok (fun j hj => heq j (by have := hj.2; have := SZ.out; have := HW.out; omega)))
  replace K1 := hid (K1.out.apart hcb (fun j x y => D0_1 j y.1 x.1))
  replace CH := hid (CH.out.trans (hcb.mono (fun j x => SS0 j x.1)))
  replace SZ := hid (SZ.out.trans hsz.symm)
  clear hl heq hcb hsz hc F
  have F := F2
  clear F2
  go_wp2_with (first | ((with_reducible refine listN F ?_); clear F; intro wN F) | ((with_reducible refine at_load rfl ?_); first | (with_reducible refine wpList_loadGP F rfl rfl rfl (by first | exact m0 | exact m1 | exact m2) Try.underlying35 rfl [v0, .int .i64 z1] (partBow_Neck (v0) (.int .i64 z1) (v2) (.int .i64 z3) (v4) (v5) (v6) (v7) (v8) (v9) (v10) (v11)) uinfoRingI rfl ?_) | (with_reducible refine wpList_loadGP F rfl rfl rfl (by first | exact m0 | exact m1 | exact m2) Try.underlying35 rfl [v2, .int .i64 z3] (partBow_Bridge (v0) (.int .i64 z1) (v2) (.int .i64 z3) (v4) (v5) (v6) (v7) (v8) (v9) (v10) (v11)) uinfoRingI rfl ?_) | (with_reducible refine wpList_loadGP F rfl rfl rfl (by first | exact m0 | exact m1 | exact m2) Try.underlying36 rfl [v4, v5, v6, v7, v8, v9] (partBow_Damp (v0) (.int .i64 z1) (v2) (.int .i64 z3) (v4) (v5) (v6) (v7) (v8) (v9) (v10) (v11)) uinfoFilterI rfl ?_) | (with_reducible refine wpList_load1 F rfl rfl rfl (by first | exact m0 | exact m1 | exact m2) (f := 10) (v := v10) rfl ukindFloat32 ?_) | (with_reducible refine wpList_load1 F rfl rfl rfl (by first | exact m0 | exact m1 | exact m2) (f := 11) (v := v11) rfl ukindFloat32 ?_)))
  first | ((with_reducible refine callAt0 F ?_); clear F; intro wN F) | ((with_reducible refine callAtN F ?_); clear F; intro wN F)
  refine (M1.out (z + (a0 : Int)) _ (by omega) (by omega) (K1.out.le F.below)).mono ?_
  rintro e w4 ⟨rfl, hl, hc⟩
  obtain ⟨wb1, F2, hcb, hsz, heq⟩ := F.rebase hc (fun j hj => by have := hj.2; have := SZ.out; have := HW.out; omega)
  replace K1 := hid (hl.ok (fun j hj => heq j (by have := hj.2; have := SZ.out; have := HW.out; omega)))
  replace K0 := hid (K0.out.apart hcb (fun j x y => D0_1 j x.1 y.1))
  replace CH := hid (CH.out.trans (hcb.mono (fun j x => SS1 j x.1)))
  replace SZ := hid (SZ.out.trans hsz.symm)
  clear hl heq hcb hsz hc F
  have F := F2
  clear F2
  go_wp2_with (first | ((with_reducible refine listN F ?_); clear F; intro wN F) | ((with_reducible refine at_load rfl ?_); first | (with_reducible refine wpList_loadGP F rfl rfl rfl (by first | exact m0 | exact m1 | exact m2) Try.underlying35 rfl [v0, .int .i64 z1] (partBow_Neck (v0) (.int .i64 z1) (v2) (.int .i64 z3) (v4) (v5) (v6) (v7) (v8) (v9) (v10) (v11)) uinfoRingI rfl ?_) | (with_reducible refine wpList_loadGP F rfl rfl rfl (by first | exact m0 | exact m1 | exact m2) Try.underlying35 rfl [v2, .int .i64 z3] (partBow_Bridge (v0) (.int .i64 z1) (v2) (.int .i64 z3) (v4) (v5) (v6) (v7) (v8) (v9) (v10) (v11)) uinfoRingI rfl ?_) | (with_reducible refine wpList_loadGP F rfl rfl rfl (by first | exact m0 | exact m1 | exact m2) Try.underlying36 rfl [v4, v5, v6, v7, v8, v9] (partBow_Damp (v0) (.int .i64 z1) (v2) (.int .i64 z3) (v4) (v5) (v6) (v7) (v8) (v9) (v10) (v11)) uinfoFilterI rfl ?_) | (with_reducible refine wpList_load1 F rfl rfl rfl (by first | exact m0 | exact m1 | exact m2) (f := 10) (v := v10) rfl ukindFloat32 ?_) | (with_reducible refine wpList_load1 F rfl rfl rfl (by first | exact m0 | exact m1 | exact m2) (f := 11) (v := v11) rfl ukindFloat32 ?_)))
  go_ret
  replace ha0 := ha0.out
  replace ha1 := ha1.out
  replace hs := hs.out
  refine ⟨ret_i (by omega), ?_, CH.out.le F.below⟩
  rw [show ([c0, .int .i64 z1, c2, .int .i64 z3, .int .i64 z4, c5, c6, c7, c8, c9, c10, c11] : List CD) = (([c0, .int .i64 z1] : List CD) ++ (([c2, .int .i64 z3] : List CD) ++ ([.int .i64 z4, c5, c6, c7, c8, c9, c10, c11] : List CD))) from rfl]
  simp only [mkL_append]
  have lf2 := (mkL_leaf (cs := [.int .i64 z4, c5, c6, c7, c8, c9, c10, c11]) (noL_cons noS_int (noL_cons (noS_fl q5) (noL_cons (noS_fl q6) (noL_cons (noS_fl q7) (noL_cons (noS_fl q8) (noL_cons (noS_fl q9) (noL_cons (noS_fl q10) (noL_cons (noS_fl q11) noL_nil))))))))).1
  exact (LayL.append (((K0.out.le F.below).mono (fun j x => x.1)).atz (by omega)) (LayL.append (((K1.out.le F.below).mono (fun j x => x.1)).atz (by omega)) (L2.out.leafs (noL_cons noS_int (noL_cons (noS_fl q5) (noL_cons (noS_fl q6) (noL_cons (noS_fl q7) (noL_cons (noS_fl q8) (noL_cons (noS_fl q9) (noL_cons (noS_fl q10) (noL_cons (noS_fl q11) noL_nil)))))))) _) a1_ b1_ d1) a0_ b0_ d0)
set_option maxRecDepth 100000 in
set_option maxHeartbeats 4000000 in
theorem heldU_Bow (B : Nat) (cs : List CD) (vs : List Value) (z : Int) (w : World) (hsh : ShOkL shBow cs) (hn : mtL cs ≤ 1048576) (hz : 0 ≤ z) (hz2 : z + (mtL cs : Nat) ≤ 16777216) (h : RdL w B (mkL cs z) vs) :
    Calls Try.prog 15 #[.agg vs.toArray, .int .i64 z] w fun e w' => e = .returned (.int .i64 (z + (mtL cs : Nat))) ∧ le w w' := by
  obtain ⟨c0, cs, rfl, q0, hsh⟩ := hsh.inv
  obtain ⟨c1, cs, rfl, q1, hsh⟩ := hsh.inv
  obtain ⟨c2, cs, rfl, q2, hsh⟩ := hsh.inv
  obtain ⟨c3, cs, rfl, q3, hsh⟩ := hsh.inv
  obtain ⟨c4, cs, rfl, q4, hsh⟩ := hsh.inv
  obtain ⟨c5, cs, rfl, q5, hsh⟩ := hsh.inv
  obtain ⟨c6, cs, rfl, q6, hsh⟩ := hsh.inv
  obtain ⟨c7, cs, rfl, q7, hsh⟩ := hsh.inv
  obtain ⟨c8, cs, rfl, q8, hsh⟩ := hsh.inv
  obtain ⟨c9, cs, rfl, q9, hsh⟩ := hsh.inv
  obtain ⟨c10, cs, rfl, q10, hsh⟩ := hsh.inv
  obtain ⟨c11, cs, rfl, q11, hsh⟩ := hsh.inv
  obtain rfl := hsh.inv0
  obtain ⟨z1, rfl⟩ := q1
  obtain ⟨z3, rfl⟩ := q3
  obtain ⟨z4, rfl⟩ := q4
  have q5 : c5.flk = some .f32 := q5
  have q6 : c6.flk = some .f32 := q6
  have q7 : c7.flk = some .f32 := q7
  have q8 : c8.flk = some .f32 := q8
  have q9 : c9.flk = some .f32 := q9
  have q10 : c10.flk = some .f32 := q10
  have q11 : c11.flk = some .f32 := q11
  obtain ⟨a0, ha0⟩ : ∃ a : Nat, a = mtL ([c0, .int .i64 z1] : List CD) := ⟨_, rfl⟩
  obtain ⟨a1, ha1⟩ : ∃ a : Nat, a = mtL ([c2, .int .i64 z3] : List CD) := ⟨_, rfl⟩
  have hs : mtL ([c0, .int .i64 z1, c2, .int .i64 z3, .int .i64 z4, c5, c6, c7, c8, c9, c10, c11] : List CD) = a0 + a1 := by
    rw [show ([c0, .int .i64 z1, c2, .int .i64 z3, .int .i64 z4, c5, c6, c7, c8, c9, c10, c11] : List CD) = ([c0, .int .i64 z1] : List CD) ++ ([c2, .int .i64 z3] : List CD) ++ ([.int .i64 z4, c5, c6, c7, c8, c9, c10, c11] : List CD) from rfl]
    simp only [mtL_append]
    have l2 := (mkL_leaf (cs := [.int .i64 z4, c5, c6, c7, c8, c9, c10, c11]) (noL_cons noS_int (noL_cons (noS_fl q5) (noL_cons (noS_fl q6) (noL_cons (noS_fl q7) (noL_cons (noS_fl q8) (noL_cons (noS_fl q9) (noL_cons (noS_fl q10) (noL_cons (noS_fl q11) noL_nil))))))))).1
    omega
  rw [hs] at hn hz2 ⊢
  have lf2 := (mkL_leaf (cs := [.int .i64 z4, c5, c6, c7, c8, c9, c10, c11]) (noL_cons noS_int (noL_cons (noS_fl q5) (noL_cons (noS_fl q6) (noL_cons (noS_fl q7) (noL_cons (noS_fl q8) (noL_cons (noS_fl q9) (noL_cons (noS_fl q10) (noL_cons (noS_fl q11) noL_nil))))))))).1
  rw [show ([c0, .int .i64 z1, c2, .int .i64 z3, .int .i64 z4, c5, c6, c7, c8, c9, c10, c11] : List CD) = (([c0, .int .i64 z1] : List CD) ++ (([c2, .int .i64 z3] : List CD) ++ ([.int .i64 z4, c5, c6, c7, c8, c9, c10, c11] : List CD))) from rfl] at h
  simp only [mkL_append] at h
  obtain ⟨g0, r0, rfl, l0, h0⟩ := h.split
  obtain ⟨g1, r1, rfl, l1, h1⟩ := h0.split
  have l2 := h1
  replace l0 := l0.atz (z' := z) (by omega)
  have L0 := hid l0
  simp only [mkL] at l0
  obtain ⟨v0, rr, rfl, e0, l0⟩ := l0.inv
  obtain ⟨v1, rr, rfl, e1, l0⟩ := l0.inv
  obtain rfl := l0.inv0
  obtain ⟨rfl, wf1⟩ := e1
  replace l1 := l1.atz (z' := (z + (a0 : Int))) (by omega)
  have L1 := hid l1
  simp only [mkL] at l1
  obtain ⟨v2, rr, rfl, e2, l1⟩ := l1.inv
  obtain ⟨v3, rr, rfl, e3, l1⟩ := l1.inv
  obtain rfl := l1.inv0
  obtain ⟨rfl, wf3⟩ := e3
  replace l2 := l2.leafs (noL_cons noS_int (noL_cons (noS_fl q5) (noL_cons (noS_fl q6) (noL_cons (noS_fl q7) (noL_cons (noS_fl q8) (noL_cons (noS_fl q9) (noL_cons (noS_fl q10) (noL_cons (noS_fl q11) noL_nil))))))))
  have L2 := hid l2
  obtain ⟨v4, rr, rfl, e4, l2⟩ := l2.inv
  obtain ⟨v5, rr, rfl, e5, l2⟩ := l2.inv
  obtain ⟨v6, rr, rfl, e6, l2⟩ := l2.inv
  obtain ⟨v7, rr, rfl, e7, l2⟩ := l2.inv
  obtain ⟨v8, rr, rfl, e8, l2⟩ := l2.inv
  obtain ⟨v9, rr, rfl, e9, l2⟩ := l2.inv
  obtain ⟨v10, rr, rfl, e10, l2⟩ := l2.inv
  obtain ⟨v11, rr, rfl, e11, l2⟩ := l2.inv
  obtain rfl := l2.inv0
  have F := (Frg.nil w).box 38 #[v0, .int .i64 z1, v2, .int .i64 z3, v4, v5, v6, v7, v8, v9, v10, v11]
  have hz_0 : ¬ ((z + (a0 : Int)) < 0) := by omega
  have hz_1 : ¬ (((z + (a0 : Int)) + (a1 : Int)) < 0) := by omega
  have M0 : ∀ (w1 : World), le w w1 → Calls Try.prog 39 #[.agg #[v0, .int .i64 z1], .int .i64 z] w1 fun e w2 => e = .returned (.int .i64 (z + (a0 : Int))) ∧ le w1 w2 := by
    intro w1 h
    rw [show (a0 : Int) = (mtL ([c0, .int .i64 z1] : List CD) : Nat) by rw [ha0]]
    exact heldU_Ring _ _ _ z _ (ShOkL.cons q0 (ShOkL.cons ⟨_, rfl⟩ (ShOkL.nil))) (by omega) (by omega) (by omega) (L0.out.le h)
  replace M0 := hid M0
  have M1 : ∀ (w1 : World), le w w1 → Calls Try.prog 39 #[.agg #[v2, .int .i64 z3], .int .i64 (z + (a0 : Int))] w1 fun e w2 => e = .returned (.int .i64 ((z + (a0 : Int)) + (a1 : Int))) ∧ le w1 w2 := by
    intro w1 h
    rw [show (a1 : Int) = (mtL ([c2, .int .i64 z3] : List CD) : Nat) by rw [ha1]]
    exact heldU_Ring _ _ _ (z + (a0 : Int)) _ (ShOkL.cons q2 (ShOkL.cons ⟨_, rfl⟩ (ShOkL.nil))) (by omega) (by omega) (by omega) (L1.out.le h)
  replace M1 := hid M1
  replace ha0 := hid ha0
  replace ha1 := hid ha1
  replace hs := hid hs
  go_enter Try.func15, Try.ntmps15
  go_wp2_with (first | ((with_reducible refine listN F ?_); clear F; intro wN F) | ((with_reducible refine at_load rfl ?_); first | (with_reducible refine wpList_loadGP F rfl rfl rfl (by first | exact m0 | exact m1 | exact m2) Try.underlying35 rfl [v0, .int .i64 z1] (partBow_Neck (v0) (.int .i64 z1) (v2) (.int .i64 z3) (v4) (v5) (v6) (v7) (v8) (v9) (v10) (v11)) uinfoRingI rfl ?_) | (with_reducible refine wpList_loadGP F rfl rfl rfl (by first | exact m0 | exact m1 | exact m2) Try.underlying35 rfl [v2, .int .i64 z3] (partBow_Bridge (v0) (.int .i64 z1) (v2) (.int .i64 z3) (v4) (v5) (v6) (v7) (v8) (v9) (v10) (v11)) uinfoRingI rfl ?_) | (with_reducible refine wpList_loadGP F rfl rfl rfl (by first | exact m0 | exact m1 | exact m2) Try.underlying36 rfl [v4, v5, v6, v7, v8, v9] (partBow_Damp (v0) (.int .i64 z1) (v2) (.int .i64 z3) (v4) (v5) (v6) (v7) (v8) (v9) (v10) (v11)) uinfoFilterI rfl ?_) | (with_reducible refine wpList_load1 F rfl rfl rfl (by first | exact m0 | exact m1 | exact m2) (f := 10) (v := v10) rfl ukindFloat32 ?_) | (with_reducible refine wpList_load1 F rfl rfl rfl (by first | exact m0 | exact m1 | exact m2) (f := 11) (v := v11) rfl ukindFloat32 ?_)) | (go_at_call 39; ((with_reducible refine (M0.out _ F.below).mono ?_); rintro e w1 ⟨rfl, hl⟩; replace F := F.le hl; clear hl)) | (go_at_call 39; ((with_reducible refine (M1.out _ F.below).mono ?_); rintro e w1 ⟨rfl, hl⟩; replace F := F.le hl; clear hl)))
  go_ret
  exact ⟨ret_i (by omega), F.below⟩
end Go.Proofs.Ythjdklolbkhbfaa
