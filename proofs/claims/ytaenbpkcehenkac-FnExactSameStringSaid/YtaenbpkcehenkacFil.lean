/- Filters: 'laws.toFilter', 'laws.eqFilter'. -/
import Derived.Test.YtaenbpkcehenkacArr
import Derived.Test.YtaenbpkcehenkacRow2
namespace Go.Fk
open Go Go.RowKit
/-- A row of three, of two. -/
def tri (a b c : Nat) : Nat → Nat | 0 => a | 1 => b | _ => c
def duo (a b : Nat) : Nat → Nat | 0 => a | _ => b
theorem tri_tab (a b c : Nat) : ftab .f32 (tri a b c) 3 = #[.float .f32 a, .float .f32 b, .float .f32 c] := rfl
theorem duo_tab (a b : Nat) : ftab .f32 (duo a b) 2 = #[.float .f32 a, .float .f32 b] := rfl
theorem fil_tab (k : Int) (a b c x y : Nat) : ((#[.int .i64 k, .float .f32 a, .float .f32 b, .float .f32 c, .float .f32 x, .float .f32 y] : Array Value) : Array Value).size = 6 := rfl
theorem tri_can {a b c a' b' c' : Nat} (h1 : can .f32 a = can .f32 a') (h2 : can .f32 b = can .f32 b') (h3 : can .f32 c = can .f32 c') : ∀ j, j < 3 → can .f32 (tri a b c j) = can .f32 (tri a' b' c' j) := by
  intro j hj
  match j, hj with
  | 0, _ => exact h1
  | 1, _ => exact h2
  | 2, _ => exact h3
theorem duo_can {a b a' b' : Nat} (h1 : can .f32 a = can .f32 a') (h2 : can .f32 b = can .f32 b') : ∀ j, j < 2 → can .f32 (duo a b j) = can .f32 (duo a' b' j) := by
  intro j hj
  match j, hj with
  | 0, _ => exact h1
  | 1, _ => exact h2
end Go.Fk
namespace Go.Proofs.Ytaenbpkcehenkac
open Go.RowKit Go.Fk
theorem infoFil : (Try.prog.info? 29).map (·.size) = some 6 := by kernel_rfl
theorem info3 : (Try.prog.info? 26).map (·.size) = some 3 := by kernel_rfl
theorem info2 : (Try.prog.info? 27).map (·.size) = some 2 := by kernel_rfl
theorem infoFilL : (Try.prog.info? 38).map (·.size) = some 6 := by kernel_rfl
theorem eqFil_yes (k : Int) (a b c x y a' b' c' x' y' : Nat) (w : World) (h1 : can .f32 a = can .f32 a') (h2 : can .f32 b = can .f32 b') (h3 : can .f32 c = can .f32 c') (h4 : can .f32 x = can .f32 x') (h5 : can .f32 y = can .f32 y') :
    Calls Try.prog 59 #[(.agg #[.int .i64 k, .float .f32 a, .float .f32 b, .float .f32 c, .float .f32 x, .float .f32 y]), (.agg #[.int .i64 k, .float .f32 a', .float .f32 b', .float .f32 c', .float .f32 x', .float .f32 y'])] w fun e w' => e = .returned (.bool true) ∧ Below w.heap.size w w' := by
  have H3 := hid (tri_can h1 h2 h3)
  have H2 := hid (duo_can h4 h5)
  clear h1 h2 h3 h4 h5
  go_enter Try.func59, Try.ntmps59
  go_upto_region 1 with (fail)
  obtain ⟨W, hW⟩ : ∃ W, W = (w.alloc (.cells (#[.int .i64 k, .float .f32 a, .float .f32 b, .float .f32 c, .float .f32 x, .float .f32 y] : Array Value) 29)).alloc (.cells (#[.int .i64 k, .float .f32 a', .float .f32 b', .float .f32 c', .float .f32 x', .float .f32 y'] : Array Value) 29) := ⟨_, rfl⟩
  rw [← hW]
  have R1 : Row W w.heap.size 29 (#[.int .i64 k, .float .f32 a, .float .f32 b, .float .f32 c, .float .f32 x, .float .f32 y] : Array Value) := by rw [hW]; exact (Row.new _ _ _).alloc _
  have R2 : Row W (w.heap.size + 1) 29 (#[.int .i64 k, .float .f32 a', .float .f32 b', .float .f32 c', .float .f32 x', .float .f32 y'] : Array Value) := by rw [hW]; exact Row.new' _ _ _ (by simp)
  have hb : Below w.heap.size w W := by rw [hW]; repeat' (first | (with_reducible exact Below.refl _ _) | (with_reducible assumption) | (with_reducible refine below_drewN ?_ _) | (with_reducible refine Below.alloc ?_ ?_ _) | (with_reducible refine Below.drew ?_) | (with_reducible refine Below.setCell ?_ ?_ _) | go_size)
  have c1 := R1.cell? 0
  have c2 := R2.cell? 0
  clear hW
  go_wp2_with (first | (with_reducible refine wpList_load3 rfl rfl rfl (by with_reducible assumption) Try.underlying26 rfl info3 ?_) | (with_reducible refine wpList_load2 rfl rfl rfl (by with_reducible assumption) Try.underlying27 rfl info2 ?_) | (go_at_call 94; refine (eqA3_yes (tri a b c) (tri a' b' c') _ H3.out).mono ?_; rintro e w1 ⟨rfl, hb1⟩; replace R1 := R1.below hb1 (by have := R1.lt; omega); replace R2 := R2.below hb1 (by have := R2.lt; omega)) | (go_at_call 95; refine (eqA2_yes (duo x y) (duo x' y') _ H2.out).mono ?_; rintro e w2 ⟨rfl, hb2⟩))
  go_ret
  exact ⟨rfl, le_trans (le_trans hb hb1) hb2⟩
theorem toA3_lit (a b c : Nat) (w : World) : Calls Try.prog 99 #[.agg #[.float .f32 a, .float .f32 b, .float .f32 c]] w fun e w' => e = .returned (.agg #[.float .f32 a, .float .f32 b, .float .f32 c]) ∧ Below w.heap.size w w' := by
  have h := toA3_any (tri a b c) w
  rwa [tri_tab] at h
theorem toA2_lit (a b : Nat) (w : World) : Calls Try.prog 100 #[.agg #[.float .f32 a, .float .f32 b]] w fun e w' => e = .returned (.agg #[.float .f32 a, .float .f32 b]) ∧ Below w.heap.size w w' := by
  have h := toA2_any (duo a b) w
  rwa [duo_tab] at h
set_option maxRecDepth 100000 in
theorem toFil_any (k : Int) (a b c x y : Nat) (w : World) : Calls Try.prog 65 #[(.agg #[.int .i64 k, .float .f32 a, .float .f32 b, .float .f32 c, .float .f32 x, .float .f32 y])] w fun e w' => e = .returned (.agg #[.int .i64 k, .float .f32 a, .float .f32 b, .float .f32 c, .float .f32 x, .float .f32 y]) ∧ Below w.heap.size w w' := by
  go_enter Try.func65, Try.ntmps65
  go_upto_region 2 with (fail)
  obtain ⟨W, hW⟩ : ∃ W, W = ((w.alloc (.cells (#[.int .i64 k, .float .f32 a, .float .f32 b, .float .f32 c, .float .f32 x, .float .f32 y] : Array Value) 38)).alloc (.cells (#[.int .i64 0, .float .f32 0, .float .f32 0, .float .f32 0, .float .f32 0, .float .f32 0] : Array Value) 29)).alloc (.cells (#[.int .i64 0, .float .f32 0, .float .f32 0, .float .f32 0, .float .f32 0, .float .f32 0] : Array Value) 29) := ⟨_, rfl⟩
  rw [← hW]
  have R1 : Row W w.heap.size 38 (#[.int .i64 k, .float .f32 a, .float .f32 b, .float .f32 c, .float .f32 x, .float .f32 y] : Array Value) := by rw [hW]; exact ((Row.new _ _ _).alloc _).alloc _
  have R2 : Row W (w.heap.size + 1) 29 (#[.int .i64 0, .float .f32 0, .float .f32 0, .float .f32 0, .float .f32 0, .float .f32 0] : Array Value) := by rw [hW]; exact (Row.new' _ _ _ (by simp)).alloc _
  have R3 : Row W (w.heap.size + 1 + 1) 29 (#[.int .i64 0, .float .f32 0, .float .f32 0, .float .f32 0, .float .f32 0, .float .f32 0] : Array Value) := by rw [hW]; exact Row.new' _ _ _ (by simp)
  have hb : le w W := by rw [hW]; unfold le; repeat' (first | (with_reducible exact Below.refl _ _) | (with_reducible assumption) | (with_reducible refine below_drewN ?_ _) | (with_reducible refine Below.alloc ?_ ?_ _) | (with_reducible refine Below.drew ?_) | (with_reducible refine Below.setCell ?_ ?_ _) | go_size)
  have c1 := R1.cell? 0
  have c3 := R3.cell? 0
  have f3 := R3.frozen 0
  have hs := R3.lt
  clear hW
  go_upto_region 3 with (fail)
  obtain ⟨V, hV⟩ : ∃ V, V = W.setCell ⟨w.heap.size + 1 + 1, 0, none⟩ (.int .i64 k) := ⟨_, rfl⟩
  rw [← hV]
  replace R1 := R1.other ⟨w.heap.size + 1 + 1, 0, none⟩ (.int .i64 k) (by simp; omega)
  rw [← hV] at R1
  replace R2 := R2.other ⟨w.heap.size + 1 + 1, 0, none⟩ (.int .i64 k) (by simp)
  rw [← hV] at R2
  replace R3 : Row V (w.heap.size + 1 + 1) 29 (#[.int .i64 k, .float .f32 0, .float .f32 0, .float .f32 0, .float .f32 0, .float .f32 0] : Array Value) := by rw [hV]; exact R3.set 0 _
  replace hb : le w V := by rw [hV]; exact Below.setCell hb (by simp; omega) _
  clear hV c1 c3 f3
  go_wp2_with (first | (with_reducible refine wpList_load3 rfl rfl rfl (by with_reducible assumption) Try.underlying26 rfl info3 ?_) | (with_reducible refine wpList_load2 rfl rfl rfl (by with_reducible assumption) Try.underlying27 rfl info2 ?_) | (go_at_call 99; refine (toA3_lit a b c _).mono ?_; rintro e w1 ⟨rfl, hb1⟩; replace R1 := R1.below hb1 R1.lt; replace R2 := R2.below hb1 R2.lt; replace R3 := R3.below hb1 R3.lt; replace hb := le_trans hb hb1) | (go_at_call 100; refine (toA2_lit x y _).mono ?_; rintro e w1 ⟨rfl, hb1⟩; replace R1 := R1.below hb1 R1.lt; replace R2 := R2.below hb1 R2.lt; replace R3 := R3.below hb1 R3.lt; replace hb := le_trans hb hb1) | (refine wpList_store3 (u1 := .float .f32 a) (u2 := .float .f32 b) (u3 := .float .f32 c) rfl rfl rfl rfl R3 info3 (by simp [Value.oneCell']) ?_; intro w2 K; replace R1 := K.other _ _ _ (by omega) R1; replace R2 := K.other _ _ _ (by omega) R2; replace R3 := K.row; replace hb := K.below _ _ hb (by omega); clear K) | (refine wpList_store2 (u1 := .float .f32 x) (u2 := .float .f32 y) rfl rfl rfl rfl R3 info2 (by simp [Value.oneCell']) ?_; intro w2 K; replace R1 := K.other _ _ _ (by omega) R1; replace R2 := K.other _ _ _ (by omega) R2; replace R3 := K.row; replace hb := K.below _ _ hb (by omega); clear K) | (with_reducible refine wpList_loadDn rfl rfl rfl R3 Try.underlying29 rfl infoFil (by simp) ?_) | (refine wpList_storeD rfl rfl rfl rfl R2 infoFil rfl (by simp [Value.oneCell']) ?_; intro w2 K; replace R2 := K.row; replace hb := K.below _ _ hb (by omega); clear K))
  exact bodyPost_ret (results_row1 rfl _ _ _ _ _ rfl R2 Try.underlying29 rfl infoFil) rfl ⟨rfl, hb⟩
end Go.Proofs.Ytaenbpkcehenkac
