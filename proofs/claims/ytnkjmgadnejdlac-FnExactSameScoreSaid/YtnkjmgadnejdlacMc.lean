/- Texts of the walk, laid in one file. -/
import Derived.Test.YtnkjmgadnejdlacRows
import Derived.Handy
import Derived.Below
import Derived.Test.YtnkjmgadnejdlacMb
set_option linter.unusedVariables false
set_option linter.unusedSimpArgs false
/- Arrays of floats: 'laws.toX', 'laws.eqX' of [3]float32, [2]float32, Table. -/
namespace Go.Proofs.Ytnkjmgadnejdlac
open Go.RowKit Go.Fk
theorem infoA3 : (Try.prog.info? 26).map (·.size) = some 3 := by kernel_rfl
theorem allocA3 (w : World) : (Instr.alloc 26 true (.tuple #[])).run Try.prog w = .ok (.pointer (some ⟨w.heap.size, 0, none⟩)) (w.alloc (.cells (ftab .f32 (fun _ => 0) 3) 26)) := by kernel_rfl
theorem eqA3_yes (x y : Nat → Nat) (w : World) (h : ∀ j, j < 3 → can .f32 (x j) = can .f32 (y j)) :
    Calls Try.prog 91 #[.agg (ftab .f32 x 3), .agg (ftab .f32 y 3)] w fun e w' => e = .returned (.bool true) ∧ Below w.heap.size w w' := by
  have H := hid h; clear h
  go_enter Try.func91, Try.ntmps91
  go_wp2
  go_loopw [5] (fun i wr => ∃ k : Nat, k ≤ 3 ∧ i = .int .i64 k ∧ Row wr w.heap.size 26 (ftab .f32 x 3) ∧ Row wr (w.heap.size + 1) 26 (ftab .f32 y 3) ∧ Below w.heap.size w wr) (fun i _ => 3 - (intOf i).toNat)
  case atStart =>
    exact ⟨0, by omega, rfl, (Row.new w _ _).alloc _, Row.new' _ _ _ (by simp), by repeat' (first | (with_reducible exact Below.refl _ _) | (with_reducible assumption) | (with_reducible refine below_drewN ?_ _) | (with_reducible refine Below.alloc ?_ ?_ _) | (with_reducible refine Below.drew ?_) | (with_reducible refine Below.setCell ?_ ?_ _) | go_size)⟩
  case round =>
    obtain ⟨k, hk, rfl, hA, hB, hb⟩ := hrel
    by_cases hlt : k < 3
    · have c1 := hA.ftab hlt
      have c2 := hB.ftab hlt
      have HA := hid hA; clear hA
      have HB := hid hB; clear hB
      have hxy := hid (H.out k hlt)
      go_wp2_with fail
      refine wp_region_loose (fun _ _ v => v = .bool true) (by kernel_rfl) (by kernel_rfl) ?_
      repeat (first | (with_reducible refine wpLoose_widen rfl rfl rfl Try.underlying25 Try.underlying94 ?_; intro r hr hf; simp only [Act.put, List.setIfInBounds_toArray, List.set_cons_succ, List.set_cons_zero]) | (refine wpLoose_quiet rfl ?_; go_big_quiet_step (fail); refine wpQuiet_nil ?_))
      refine wpLoose_any rfl (· = .bool true) (fun n => ?_) ?_
      · go_simp
        refine loose_of (sameFloat_yes _ _ _ ?_)
        have hr1 := ‹Hid (can .f64 _ = can .f64 (widen (x k)))›
        exact hr1.out.trans ((congrArg (can .f64) (widen_congr hxy)).trans hr.out.symm)
      · rintro v rfl
        simp only [Act.put, List.setIfInBounds_toArray, List.set_cons_succ, List.set_cons_zero]
        repeat (refine wpLoose_quiet rfl ?_; go_big_quiet_step (fail); refine wpQuiet_nil ?_)
        refine wpLoose_nil (fun n => ?_)
        go_wp2
        go_roundw
        case rel => exact ⟨k + 1, by omega, by go_num, HA.out.drewN _, HB.out.drewN _, below_drewN hb _⟩
        case measure => simp [intOf]; omega
    · obtain rfl : k = 3 := by omega
      have HA := hid hA; clear hA
      have HB := hid hB; clear hB
      go_wp2
      go_ret
      exact ⟨rfl, hb⟩
theorem toA3_any (x : Nat → Nat) (w : World) : Calls Try.prog 84 #[.agg (ftab .f32 x 3)] w fun e w' => e = .returned (.agg (ftab .f32 x 3)) ∧ Below w.heap.size w w' := by
  go_enter Try.func84, Try.ntmps84
  go_wp2
  go_loopw [4] (fun i wr => ∃ k : Nat, k ≤ 3 ∧ i = .int .i64 k ∧ Row wr w.heap.size 26 (ftab .f32 x 3) ∧ (∃ z, Row wr (w.heap.size + 1) 26 (ftab .f32 z 3)) ∧ Row wr (w.heap.size + 1 + 1) 26 (ftab .f32 (fun j => if j < k then x j else 0) 3) ∧ Below w.heap.size w wr) (fun i _ => 3 - (intOf i).toNat)
  case atStart =>
    refine ⟨0, by omega, rfl, ?_, ⟨fun _ => 0, ?_⟩, ?_, by repeat' (first | (with_reducible exact Below.refl _ _) | (with_reducible assumption) | (with_reducible refine below_drewN ?_ _) | (with_reducible refine Below.alloc ?_ ?_ _) | (with_reducible refine Below.drew ?_) | (with_reducible refine Below.setCell ?_ ?_ _) | go_size)⟩
    · exact ((Row.new w _ _).alloc _).alloc _
    · exact (Row.new' _ _ _ (by simp)).alloc _
    · exact Row.new' _ _ _ (by simp)
  case round =>
    obtain ⟨k, hk, rfl, hA, ⟨z, hZ⟩, hO, hb⟩ := hrel
    by_cases hlt : k < 3
    · have c1 := hA.ftab hlt
      have c2 := hO.ftab hlt
      have f2 := hO.frozen k
      have HA := hid hA; clear hA
      have HZ := hid hZ; clear hZ
      have HO := hid hO; clear hO
      go_wp2
      go_roundw
      case rel =>
        refine ⟨k + 1, by omega, by go_num, HA.out.other _ _ (by simp; omega), ⟨z, HZ.out.other _ _ (by simp)⟩, ?_, hb.setCell (by simp; omega) _⟩
        have h := HO.out.set k (.float .f32 (x k))
        rw [set_ftab] at h
        rw [show (fun j => if j < k + 1 then x j else 0) = (fun j => if j = k then x k else if j < k then x j else 0) from ?_]
        · exact h
        · funext j
          by_cases e : j = k
          · subst e; simp
          · simp [e, show (j < k + 1) = (j < k) by simp; omega]
      case measure => simp [intOf]; omega
    · obtain rfl : k = 3 := by omega
      rw [show ftab .f32 (fun j => if j < 3 then x j else 0) 3 = ftab .f32 x 3 from ftab_congr (fun j hj => if_pos hj)] at hO
      have HA := hid hA; clear hA
      have hsz : (Try.prog.info? 26).map (·.size) = some (ftab .f32 x 3).size := by rw [size_ftab]; exact infoA3
      go_wp2_with (first | (with_reducible refine wpList_loadA rfl rfl rfl hO Try.underlying26 hsz ?_) | (with_reducible refine wpList_storeA rfl rfl rfl rfl hZ hsz (by rw [size_ftab, size_ftab]) (one_ftab _ _ _) ?_))
      exact bodyPost_ret (results_cell_row rfl _ _ _ _ _ (0, 0) _ rfl (hZ.setRow _) Try.underlying26 rfl hsz) rfl ⟨rfl, below_setRow hb (by omega) _⟩
theorem infoA2 : (Try.prog.info? 27).map (·.size) = some 2 := by kernel_rfl
theorem allocA2 (w : World) : (Instr.alloc 27 true (.tuple #[])).run Try.prog w = .ok (.pointer (some ⟨w.heap.size, 0, none⟩)) (w.alloc (.cells (ftab .f32 (fun _ => 0) 2) 27)) := by kernel_rfl
theorem eqA2_yes (x y : Nat → Nat) (w : World) (h : ∀ j, j < 2 → can .f32 (x j) = can .f32 (y j)) :
    Calls Try.prog 92 #[.agg (ftab .f32 x 2), .agg (ftab .f32 y 2)] w fun e w' => e = .returned (.bool true) ∧ Below w.heap.size w w' := by
  have H := hid h; clear h
  go_enter Try.func92, Try.ntmps92
  go_wp2
  go_loopw [5] (fun i wr => ∃ k : Nat, k ≤ 2 ∧ i = .int .i64 k ∧ Row wr w.heap.size 27 (ftab .f32 x 2) ∧ Row wr (w.heap.size + 1) 27 (ftab .f32 y 2) ∧ Below w.heap.size w wr) (fun i _ => 2 - (intOf i).toNat)
  case atStart =>
    exact ⟨0, by omega, rfl, (Row.new w _ _).alloc _, Row.new' _ _ _ (by simp), by repeat' (first | (with_reducible exact Below.refl _ _) | (with_reducible assumption) | (with_reducible refine below_drewN ?_ _) | (with_reducible refine Below.alloc ?_ ?_ _) | (with_reducible refine Below.drew ?_) | (with_reducible refine Below.setCell ?_ ?_ _) | go_size)⟩
  case round =>
    obtain ⟨k, hk, rfl, hA, hB, hb⟩ := hrel
    by_cases hlt : k < 2
    · have c1 := hA.ftab hlt
      have c2 := hB.ftab hlt
      have HA := hid hA; clear hA
      have HB := hid hB; clear hB
      have hxy := hid (H.out k hlt)
      go_wp2_with fail
      refine wp_region_loose (fun _ _ v => v = .bool true) (by kernel_rfl) (by kernel_rfl) ?_
      repeat (first | (with_reducible refine wpLoose_widen rfl rfl rfl Try.underlying25 Try.underlying94 ?_; intro r hr hf; simp only [Act.put, List.setIfInBounds_toArray, List.set_cons_succ, List.set_cons_zero]) | (refine wpLoose_quiet rfl ?_; go_big_quiet_step (fail); refine wpQuiet_nil ?_))
      refine wpLoose_any rfl (· = .bool true) (fun n => ?_) ?_
      · go_simp
        refine loose_of (sameFloat_yes _ _ _ ?_)
        have hr1 := ‹Hid (can .f64 _ = can .f64 (widen (x k)))›
        exact hr1.out.trans ((congrArg (can .f64) (widen_congr hxy)).trans hr.out.symm)
      · rintro v rfl
        simp only [Act.put, List.setIfInBounds_toArray, List.set_cons_succ, List.set_cons_zero]
        repeat (refine wpLoose_quiet rfl ?_; go_big_quiet_step (fail); refine wpQuiet_nil ?_)
        refine wpLoose_nil (fun n => ?_)
        go_wp2
        go_roundw
        case rel => exact ⟨k + 1, by omega, by go_num, HA.out.drewN _, HB.out.drewN _, below_drewN hb _⟩
        case measure => simp [intOf]; omega
    · obtain rfl : k = 2 := by omega
      have HA := hid hA; clear hA
      have HB := hid hB; clear hB
      go_wp2
      go_ret
      exact ⟨rfl, hb⟩
theorem toA2_any (x : Nat → Nat) (w : World) : Calls Try.prog 85 #[.agg (ftab .f32 x 2)] w fun e w' => e = .returned (.agg (ftab .f32 x 2)) ∧ Below w.heap.size w w' := by
  go_enter Try.func85, Try.ntmps85
  go_wp2
  go_loopw [4] (fun i wr => ∃ k : Nat, k ≤ 2 ∧ i = .int .i64 k ∧ Row wr w.heap.size 27 (ftab .f32 x 2) ∧ (∃ z, Row wr (w.heap.size + 1) 27 (ftab .f32 z 2)) ∧ Row wr (w.heap.size + 1 + 1) 27 (ftab .f32 (fun j => if j < k then x j else 0) 2) ∧ Below w.heap.size w wr) (fun i _ => 2 - (intOf i).toNat)
  case atStart =>
    refine ⟨0, by omega, rfl, ?_, ⟨fun _ => 0, ?_⟩, ?_, by repeat' (first | (with_reducible exact Below.refl _ _) | (with_reducible assumption) | (with_reducible refine below_drewN ?_ _) | (with_reducible refine Below.alloc ?_ ?_ _) | (with_reducible refine Below.drew ?_) | (with_reducible refine Below.setCell ?_ ?_ _) | go_size)⟩
    · exact ((Row.new w _ _).alloc _).alloc _
    · exact (Row.new' _ _ _ (by simp)).alloc _
    · exact Row.new' _ _ _ (by simp)
  case round =>
    obtain ⟨k, hk, rfl, hA, ⟨z, hZ⟩, hO, hb⟩ := hrel
    by_cases hlt : k < 2
    · have c1 := hA.ftab hlt
      have c2 := hO.ftab hlt
      have f2 := hO.frozen k
      have HA := hid hA; clear hA
      have HZ := hid hZ; clear hZ
      have HO := hid hO; clear hO
      go_wp2
      go_roundw
      case rel =>
        refine ⟨k + 1, by omega, by go_num, HA.out.other _ _ (by simp; omega), ⟨z, HZ.out.other _ _ (by simp)⟩, ?_, hb.setCell (by simp; omega) _⟩
        have h := HO.out.set k (.float .f32 (x k))
        rw [set_ftab] at h
        rw [show (fun j => if j < k + 1 then x j else 0) = (fun j => if j = k then x k else if j < k then x j else 0) from ?_]
        · exact h
        · funext j
          by_cases e : j = k
          · subst e; simp
          · simp [e, show (j < k + 1) = (j < k) by simp; omega]
      case measure => simp [intOf]; omega
    · obtain rfl : k = 2 := by omega
      rw [show ftab .f32 (fun j => if j < 2 then x j else 0) 2 = ftab .f32 x 2 from ftab_congr (fun j hj => if_pos hj)] at hO
      have HA := hid hA; clear hA
      have hsz : (Try.prog.info? 27).map (·.size) = some (ftab .f32 x 2).size := by rw [size_ftab]; exact infoA2
      go_wp2_with (first | (with_reducible refine wpList_loadA rfl rfl rfl hO Try.underlying27 hsz ?_) | (with_reducible refine wpList_storeA rfl rfl rfl rfl hZ hsz (by rw [size_ftab, size_ftab]) (one_ftab _ _ _) ?_))
      exact bodyPost_ret (results_cell_row rfl _ _ _ _ _ (0, 0) _ rfl (hZ.setRow _) Try.underlying27 rfl hsz) rfl ⟨rfl, below_setRow hb (by omega) _⟩
end Go.Proofs.Ytnkjmgadnejdlac

/- Filters: 'laws.toFilter', 'laws.eqFilter'. -/
namespace Go.Fk
open Go Go.RowKit
/-- A row of three, of two. -/
def tri (a b c : Nat) : Nat → Nat | 0 => a | 1 => b | _ => c
def duo (a b : Nat) : Nat → Nat | 0 => a | _ => b
theorem tri_tab (a b c : Nat) : ftab .f32 (tri a b c) 3 = #[.float .f32 a, .float .f32 b, .float .f32 c] := rfl
theorem duo_tab (a b : Nat) : ftab .f32 (duo a b) 2 = #[.float .f32 a, .float .f32 b] := rfl
theorem fil_tab (k : Int) (a b c x y : Nat) : ((#[.int .i64 k, .float .f32 a, .float .f32 b, .float .f32 c, .float .f32 x, .float .f32 y] : Array Value) : Array Value).size = 6 := rfl
theorem tri_can {a b c a' b' c' : Nat} (h1 : can .f32 a = can .f32 a') (h2 : can .f32 b = can .f32 b') (h3 : can .f32 c = can .f32 c') : ∀ j, j < 3 → can .f32 (tri a b c j) = can .f32 (tri a' b' c' j) := by
  intro j hj
  match j, hj with
  | 0, _ => exact h1
  | 1, _ => exact h2
  | 2, _ => exact h3
theorem duo_can {a b a' b' : Nat} (h1 : can .f32 a = can .f32 a') (h2 : can .f32 b = can .f32 b') : ∀ j, j < 2 → can .f32 (duo a b j) = can .f32 (duo a' b' j) := by
  intro j hj
  match j, hj with
  | 0, _ => exact h1
  | 1, _ => exact h2
end Go.Fk
namespace Go.Proofs.Ytnkjmgadnejdlac
open Go.RowKit Go.Fk
theorem infoFil : (Try.prog.info? 35).map (·.size) = some 6 := by kernel_rfl
theorem info3 : (Try.prog.info? 26).map (·.size) = some 3 := by kernel_rfl
theorem info2 : (Try.prog.info? 27).map (·.size) = some 2 := by kernel_rfl
theorem infoFilL : (Try.prog.info? 29).map (·.size) = some 6 := by kernel_rfl
theorem eqFil_yes (k : Int) (a b c x y a' b' c' x' y' : Nat) (w : World) (h1 : can .f32 a = can .f32 a') (h2 : can .f32 b = can .f32 b') (h3 : can .f32 c = can .f32 c') (h4 : can .f32 x = can .f32 x') (h5 : can .f32 y = can .f32 y') :
    Calls Try.prog 45 #[(.agg #[.int .i64 k, .float .f32 a, .float .f32 b, .float .f32 c, .float .f32 x, .float .f32 y]), (.agg #[.int .i64 k, .float .f32 a', .float .f32 b', .float .f32 c', .float .f32 x', .float .f32 y'])] w fun e w' => e = .returned (.bool true) ∧ Below w.heap.size w w' := by
  have H3 := hid (tri_can h1 h2 h3)
  have H2 := hid (duo_can h4 h5)
  clear h1 h2 h3 h4 h5
  go_enter Try.func45, Try.ntmps45
  go_upto_region 1 with (fail)
  obtain ⟨W, hW⟩ : ∃ W, W = (w.alloc (.cells (#[.int .i64 k, .float .f32 a, .float .f32 b, .float .f32 c, .float .f32 x, .float .f32 y] : Array Value) 35)).alloc (.cells (#[.int .i64 k, .float .f32 a', .float .f32 b', .float .f32 c', .float .f32 x', .float .f32 y'] : Array Value) 35) := ⟨_, rfl⟩
  rw [← hW]
  have R1 : Row W w.heap.size 35 (#[.int .i64 k, .float .f32 a, .float .f32 b, .float .f32 c, .float .f32 x, .float .f32 y] : Array Value) := by rw [hW]; exact (Row.new _ _ _).alloc _
  have R2 : Row W (w.heap.size + 1) 35 (#[.int .i64 k, .float .f32 a', .float .f32 b', .float .f32 c', .float .f32 x', .float .f32 y'] : Array Value) := by rw [hW]; exact Row.new' _ _ _ (by simp)
  have hb : Below w.heap.size w W := by rw [hW]; repeat' (first | (with_reducible exact Below.refl _ _) | (with_reducible assumption) | (with_reducible refine below_drewN ?_ _) | (with_reducible refine Below.alloc ?_ ?_ _) | (with_reducible refine Below.drew ?_) | (with_reducible refine Below.setCell ?_ ?_ _) | go_size)
  have c1 := R1.cell? 0
  have c2 := R2.cell? 0
  clear hW
  go_wp2_with (first | (with_reducible refine wpList_load3 rfl rfl rfl (by with_reducible assumption) Try.underlying26 rfl info3 ?_) | (with_reducible refine wpList_load2 rfl rfl rfl (by with_reducible assumption) Try.underlying27 rfl info2 ?_) | (go_at_call 91; refine (eqA3_yes (tri a b c) (tri a' b' c') _ H3.out).mono ?_; rintro e w1 ⟨rfl, hb1⟩; replace R1 := R1.below hb1 (by have := R1.lt; omega); replace R2 := R2.below hb1 (by have := R2.lt; omega)) | (go_at_call 92; refine (eqA2_yes (duo x y) (duo x' y') _ H2.out).mono ?_; rintro e w2 ⟨rfl, hb2⟩))
  go_ret
  exact ⟨rfl, le_trans (le_trans hb hb1) hb2⟩
theorem toA3_lit (a b c : Nat) (w : World) : Calls Try.prog 84 #[.agg #[.float .f32 a, .float .f32 b, .float .f32 c]] w fun e w' => e = .returned (.agg #[.float .f32 a, .float .f32 b, .float .f32 c]) ∧ Below w.heap.size w w' := by
  have h := toA3_any (tri a b c) w
  rwa [tri_tab] at h
theorem toA2_lit (a b : Nat) (w : World) : Calls Try.prog 85 #[.agg #[.float .f32 a, .float .f32 b]] w fun e w' => e = .returned (.agg #[.float .f32 a, .float .f32 b]) ∧ Below w.heap.size w w' := by
  have h := toA2_any (duo a b) w
  rwa [duo_tab] at h
set_option maxRecDepth 100000 in
theorem toFil_any (k : Int) (a b c x y : Nat) (w : World) : Calls Try.prog 39 #[(.agg #[.int .i64 k, .float .f32 a, .float .f32 b, .float .f32 c, .float .f32 x, .float .f32 y])] w fun e w' => e = .returned (.agg #[.int .i64 k, .float .f32 a, .float .f32 b, .float .f32 c, .float .f32 x, .float .f32 y]) ∧ Below w.heap.size w w' := by
  go_enter Try.func39, Try.ntmps39
  go_upto_region 2 with (fail)
  obtain ⟨W, hW⟩ : ∃ W, W = ((w.alloc (.cells (#[.int .i64 k, .float .f32 a, .float .f32 b, .float .f32 c, .float .f32 x, .float .f32 y] : Array Value) 29)).alloc (.cells (#[.int .i64 0, .float .f32 0, .float .f32 0, .float .f32 0, .float .f32 0, .float .f32 0] : Array Value) 35)).alloc (.cells (#[.int .i64 0, .float .f32 0, .float .f32 0, .float .f32 0, .float .f32 0, .float .f32 0] : Array Value) 35) := ⟨_, rfl⟩
  rw [← hW]
  have R1 : Row W w.heap.size 29 (#[.int .i64 k, .float .f32 a, .float .f32 b, .float .f32 c, .float .f32 x, .float .f32 y] : Array Value) := by rw [hW]; exact ((Row.new _ _ _).alloc _).alloc _
  have R2 : Row W (w.heap.size + 1) 35 (#[.int .i64 0, .float .f32 0, .float .f32 0, .float .f32 0, .float .f32 0, .float .f32 0] : Array Value) := by rw [hW]; exact (Row.new' _ _ _ (by simp)).alloc _
  have R3 : Row W (w.heap.size + 1 + 1) 35 (#[.int .i64 0, .float .f32 0, .float .f32 0, .float .f32 0, .float .f32 0, .float .f32 0] : Array Value) := by rw [hW]; exact Row.new' _ _ _ (by simp)
  have hb : le w W := by rw [hW]; unfold le; repeat' (first | (with_reducible exact Below.refl _ _) | (with_reducible assumption) | (with_reducible refine below_drewN ?_ _) | (with_reducible refine Below.alloc ?_ ?_ _) | (with_reducible refine Below.drew ?_) | (with_reducible refine Below.setCell ?_ ?_ _) | go_size)
  have c1 := R1.cell? 0
  have c3 := R3.cell? 0
  have f3 := R3.frozen 0
  have hs := R3.lt
  clear hW
  go_upto_region 3 with (fail)
  obtain ⟨V, hV⟩ : ∃ V, V = W.setCell ⟨w.heap.size + 1 + 1, 0, none⟩ (.int .i64 k) := ⟨_, rfl⟩
  rw [← hV]
  replace R1 := R1.other ⟨w.heap.size + 1 + 1, 0, none⟩ (.int .i64 k) (by simp; omega)
  rw [← hV] at R1
  replace R2 := R2.other ⟨w.heap.size + 1 + 1, 0, none⟩ (.int .i64 k) (by simp)
  rw [← hV] at R2
  replace R3 : Row V (w.heap.size + 1 + 1) 35 (#[.int .i64 k, .float .f32 0, .float .f32 0, .float .f32 0, .float .f32 0, .float .f32 0] : Array Value) := by rw [hV]; exact R3.set 0 _
  replace hb : le w V := by rw [hV]; exact Below.setCell hb (by simp; omega) _
  clear hV c1 c3 f3
  go_wp2_with (first | (with_reducible refine wpList_load3 rfl rfl rfl (by with_reducible assumption) Try.underlying26 rfl info3 ?_) | (with_reducible refine wpList_load2 rfl rfl rfl (by with_reducible assumption) Try.underlying27 rfl info2 ?_) | (go_at_call 84; refine (toA3_lit a b c _).mono ?_; rintro e w1 ⟨rfl, hb1⟩; replace R1 := R1.below hb1 R1.lt; replace R2 := R2.below hb1 R2.lt; replace R3 := R3.below hb1 R3.lt; replace hb := le_trans hb hb1) | (go_at_call 85; refine (toA2_lit x y _).mono ?_; rintro e w1 ⟨rfl, hb1⟩; replace R1 := R1.below hb1 R1.lt; replace R2 := R2.below hb1 R2.lt; replace R3 := R3.below hb1 R3.lt; replace hb := le_trans hb hb1) | (refine wpList_store3 (u1 := .float .f32 a) (u2 := .float .f32 b) (u3 := .float .f32 c) rfl rfl rfl rfl R3 info3 (by simp [Value.oneCell']) ?_; intro w2 K; replace R1 := K.other _ _ _ (by omega) R1; replace R2 := K.other _ _ _ (by omega) R2; replace R3 := K.row; replace hb := K.below _ _ hb (by omega); clear K) | (refine wpList_store2 (u1 := .float .f32 x) (u2 := .float .f32 y) rfl rfl rfl rfl R3 info2 (by simp [Value.oneCell']) ?_; intro w2 K; replace R1 := K.other _ _ _ (by omega) R1; replace R2 := K.other _ _ _ (by omega) R2; replace R3 := K.row; replace hb := K.below _ _ hb (by omega); clear K) | (with_reducible refine wpList_loadDn rfl rfl rfl R3 Try.underlying35 rfl infoFil (by simp) ?_) | (refine wpList_storeD rfl rfl rfl rfl R2 infoFil rfl (by simp [Value.oneCell']) ?_; intro w2 K; replace R2 := K.row; replace hb := K.below _ _ hb (by omega); clear K))
  exact bodyPost_ret (results_row1 rfl _ _ _ _ _ rfl R2 Try.underlying35 rfl infoFil) rfl ⟨rfl, hb⟩
end Go.Proofs.Ytnkjmgadnejdlac

/- Sizes of types, kinds of their cells; the kinds of data. -/
namespace Go.Fk
open Go Go.RowKit
theorem partFilter_C (v0 v1 v2 v3 v4 v5 : Value) : ∀ j, j < [v1, v2, v3].length → (#[v0, v1, v2, v3, v4, v5] : Array Value)[1 + j]? = [v1, v2, v3][j]? := fun j hj => by match j, hj with | 0, _ => rfl | 1, _ => rfl | 2, _ => rfl
theorem partFilter_S (v0 v1 v2 v3 v4 v5 : Value) : ∀ j, j < [v4, v5].length → (#[v0, v1, v2, v3, v4, v5] : Array Value)[4 + j]? = [v4, v5][j]? := fun j hj => by match j, hj with | 0, _ => rfl | 1, _ => rfl
theorem partString_Loop (v0 v1 v2 v3 v4 v5 v6 v7 v8 v9 v10 v11 v12 v13 v14 : Value) : ∀ j, j < [v0, v1].length → (#[v0, v1, v2, v3, v4, v5, v6, v7, v8, v9, v10, v11, v12, v13, v14] : Array Value)[0 + j]? = [v0, v1][j]? := fun j hj => by match j, hj with | 0, _ => rfl | 1, _ => rfl
theorem partString_Tune (v0 v1 v2 v3 v4 v5 v6 v7 v8 v9 v10 v11 v12 v13 v14 : Value) : ∀ j, j < [v2, v3, v4, v5, v6, v7].length → (#[v0, v1, v2, v3, v4, v5, v6, v7, v8, v9, v10, v11, v12, v13, v14] : Array Value)[2 + j]? = [v2, v3, v4, v5, v6, v7][j]? := fun j hj => by match j, hj with | 0, _ => rfl | 1, _ => rfl | 2, _ => rfl | 3, _ => rfl | 4, _ => rfl | 5, _ => rfl
theorem partString_Damp (v0 v1 v2 v3 v4 v5 v6 v7 v8 v9 v10 v11 v12 v13 v14 : Value) : ∀ j, j < [v8, v9, v10, v11, v12, v13].length → (#[v0, v1, v2, v3, v4, v5, v6, v7, v8, v9, v10, v11, v12, v13, v14] : Array Value)[8 + j]? = [v8, v9, v10, v11, v12, v13][j]? := fun j hj => by match j, hj with | 0, _ => rfl | 1, _ => rfl | 2, _ => rfl | 3, _ => rfl | 4, _ => rfl | 5, _ => rfl
theorem partPipe_End (v0 v1 v2 v3 v4 v5 v6 v7 v8 v9 v10 v11 v12 : Value) : ∀ j, j < [v3, v4, v5, v6, v7, v8].length → (#[v0, v1, v2, v3, v4, v5, v6, v7, v8, v9, v10, v11, v12] : Array Value)[3 + j]? = [v3, v4, v5, v6, v7, v8][j]? := fun j hj => by match j, hj with | 0, _ => rfl | 1, _ => rfl | 2, _ => rfl | 3, _ => rfl | 4, _ => rfl | 5, _ => rfl
theorem partBow_Neck (v0 v1 v2 v3 v4 v5 v6 v7 v8 v9 v10 v11 : Value) : ∀ j, j < [v0, v1].length → (#[v0, v1, v2, v3, v4, v5, v6, v7, v8, v9, v10, v11] : Array Value)[0 + j]? = [v0, v1][j]? := fun j hj => by match j, hj with | 0, _ => rfl | 1, _ => rfl
theorem partBow_Bridge (v0 v1 v2 v3 v4 v5 v6 v7 v8 v9 v10 v11 : Value) : ∀ j, j < [v2, v3].length → (#[v0, v1, v2, v3, v4, v5, v6, v7, v8, v9, v10, v11] : Array Value)[2 + j]? = [v2, v3][j]? := fun j hj => by match j, hj with | 0, _ => rfl | 1, _ => rfl
theorem partBow_Damp (v0 v1 v2 v3 v4 v5 v6 v7 v8 v9 v10 v11 : Value) : ∀ j, j < [v4, v5, v6, v7, v8, v9].length → (#[v0, v1, v2, v3, v4, v5, v6, v7, v8, v9, v10, v11] : Array Value)[4 + j]? = [v4, v5, v6, v7, v8, v9][j]? := fun j hj => by match j, hj with | 0, _ => rfl | 1, _ => rfl | 2, _ => rfl | 3, _ => rfl | 4, _ => rfl | 5, _ => rfl
theorem partJet_Throat (v0 v1 v2 v3 v4 v5 v6 v7 v8 v9 v10 v11 v12 v13 v14 v15 v16 v17 : Value) : ∀ j, j < [v0, v1].length → (#[v0, v1, v2, v3, v4, v5, v6, v7, v8, v9, v10, v11, v12, v13, v14, v15, v16, v17] : Array Value)[0 + j]? = [v0, v1][j]? := fun j hj => by match j, hj with | 0, _ => rfl | 1, _ => rfl
theorem partJet_Bore (v0 v1 v2 v3 v4 v5 v6 v7 v8 v9 v10 v11 v12 v13 v14 v15 v16 v17 : Value) : ∀ j, j < [v2, v3].length → (#[v0, v1, v2, v3, v4, v5, v6, v7, v8, v9, v10, v11, v12, v13, v14, v15, v16, v17] : Array Value)[2 + j]? = [v2, v3][j]? := fun j hj => by match j, hj with | 0, _ => rfl | 1, _ => rfl
theorem partJet_Low (v0 v1 v2 v3 v4 v5 v6 v7 v8 v9 v10 v11 v12 v13 v14 v15 v16 v17 : Value) : ∀ j, j < [v4, v5, v6, v7, v8, v9].length → (#[v0, v1, v2, v3, v4, v5, v6, v7, v8, v9, v10, v11, v12, v13, v14, v15, v16, v17] : Array Value)[4 + j]? = [v4, v5, v6, v7, v8, v9][j]? := fun j hj => by match j, hj with | 0, _ => rfl | 1, _ => rfl | 2, _ => rfl | 3, _ => rfl | 4, _ => rfl | 5, _ => rfl
theorem partJet_Dc (v0 v1 v2 v3 v4 v5 v6 v7 v8 v9 v10 v11 v12 v13 v14 v15 v16 v17 : Value) : ∀ j, j < [v10, v11, v12, v13, v14, v15].length → (#[v0, v1, v2, v3, v4, v5, v6, v7, v8, v9, v10, v11, v12, v13, v14, v15, v16, v17] : Array Value)[10 + j]? = [v10, v11, v12, v13, v14, v15][j]? := fun j hj => by match j, hj with | 0, _ => rfl | 1, _ => rfl | 2, _ => rfl | 3, _ => rfl | 4, _ => rfl | 5, _ => rfl
theorem partComb_Ring (v0 v1 v2 : Value) : ∀ j, j < [v0, v1].length → (#[v0, v1, v2] : Array Value)[0 + j]? = [v0, v1][j]? := fun j hj => by match j, hj with | 0, _ => rfl | 1, _ => rfl
theorem partScore_Tuning (v0 v1 v2 v3 v4 v5 : Value) : ∀ j, j < [v1, v2, v3].length → (#[v0, v1, v2, v3, v4, v5] : Array Value)[1 + j]? = [v1, v2, v3][j]? := fun j hj => by match j, hj with | 0, _ => rfl | 1, _ => rfl | 2, _ => rfl
def shRing : List Sh := [.sl 1 (fun j => [.flt .f32].getD j .bool), .int .i64]
def shFilter : List Sh := [.int .i64, .flt .f32, .flt .f32, .flt .f32, .flt .f32, .flt .f32]
def shString : List Sh := [.sl 1 (fun j => [.flt .f32].getD j .bool), .int .i64, .int .i64, .flt .f32, .flt .f32, .flt .f32, .flt .f32, .flt .f32, .int .i64, .flt .f32, .flt .f32, .flt .f32, .flt .f32, .flt .f32, .flt .f32]
def shPipe : List Sh := [.sl 2 (fun j => [.sl 1 (fun j => [.flt .f32].getD j .bool), .int .i64].getD j .bool), .sl 2 (fun j => [.sl 1 (fun j => [.flt .f32].getD j .bool), .int .i64].getD j .bool), .sl 1 (fun j => [.flt .f32].getD j .bool), .int .i64, .flt .f32, .flt .f32, .flt .f32, .flt .f32, .flt .f32, .bool, .flt .f32, .flt .f32, .flt .f32]
def shBow : List Sh := [.sl 1 (fun j => [.flt .f32].getD j .bool), .int .i64, .sl 1 (fun j => [.flt .f32].getD j .bool), .int .i64, .int .i64, .flt .f32, .flt .f32, .flt .f32, .flt .f32, .flt .f32, .flt .f32, .flt .f32]
def shJet : List Sh := [.sl 1 (fun j => [.flt .f32].getD j .bool), .int .i64, .sl 1 (fun j => [.flt .f32].getD j .bool), .int .i64, .int .i64, .flt .f32, .flt .f32, .flt .f32, .flt .f32, .flt .f32, .int .i64, .flt .f32, .flt .f32, .flt .f32, .flt .f32, .flt .f32, .flt .f32, .flt .f32]
def shComb : List Sh := [.sl 1 (fun j => [.flt .f32].getD j .bool), .int .i64, .flt .f32]
def shTap : List Sh := [.int .i64, .flt .f32]
def shTuning : List Sh := [.flt .f32, .flt .f32, .sl 1 (fun j => [.flt .f32].getD j .bool)]
def shInstrument : List Sh := [.str, .int .i64, .flt .f32, .flt .f32, .flt .f32]
def shEvent : List Sh := [.int .i64, .int .i64, .int .i64, .int .i64, .int .i64, .flt .f32]
def shScore : List Sh := [.flt .f32, .flt .f32, .flt .f32, .sl 1 (fun j => [.flt .f32].getD j .bool), .sl 5 (fun j => [.str, .int .i64, .flt .f32, .flt .f32, .flt .f32].getD j .bool), .sl 6 (fun j => [.int .i64, .int .i64, .int .i64, .int .i64, .int .i64, .flt .f32].getD j .bool)]
section
variable {P : Program} {w : World} {ops : Array Oper} {rest : List Oper} {o : Oper} {a : Act} {Q : Exit → Act → World → Prop}
/-- A value of one cell is loaded. -/
theorem wpList_load1 {w0 : World} {L : List Fact} (hF : Frg w0 w L) (hg : o.guard = none) {ty : TypeId} {x : Operand} (hop : o.op = .load ty x) {g f : Nat} (hx : a.eval x = .pointer (some ⟨g, f, none⟩)) {t : TypeId} {cs : Array Value} (hm : rowF g t cs ∈ L) {v : Value} (hv : cs[f]? = some v) (hu : ∀ w, (isAgg ty).run P w = .ok false w)
    (h : wpList P ops Q rest (a.put o.dst v) w) : wpList P ops Q (o :: rest) a w := by
  refine wpList_plain hg fun K hK' => ?_
  unfold Oper.wp execOp
  have hc : w.cell? ⟨g, f, none⟩ = some v := by rw [(hF.row hm).cell?, hv]
  have hl : (Instr.loadAt ty (.pointer (some ⟨g, f, none⟩))).run P w = .ok v w := by
    simp [Instr.loadAt, Instr.sureAddr, loadVar, hu, hc]
  simp [hop, hx, hl, Result.andThen]
  exact hK' _ _ h
/-- A value of one cell is stored. -/
theorem wpList_store1 (hg : o.guard = none) {ty : TypeId} {x y : Operand} (hop : o.op = .store ty x y) {g f : Nat} (hx : a.eval x = .pointer (some ⟨g, f, none⟩)) {v : Value} (hy : a.eval y = v) {t : TypeId} {old : Array Value}
    (hr : Row w g t old) (hi : (P.info? ty).map (·.size) = some 1) (ho : f < old.size) (h1 : v.oneCell' = true) (cs' : Array Value) (hcs : old.setIfInBounds f v = cs')
    (h : ∀ w', Wrote w w' g t cs' → wpList P ops Q rest (a.put o.dst undef) w') : wpList P ops Q (o :: rest) a w := by
  refine wpList_plain hg fun K hK' => ?_
  unfold Oper.wp execOp
  have hw := wrote_setCells [v] f old w hr
  simp only [patch, hcs, World.setCells] at hw
  have hc : w.cell? ⟨g, f, none⟩ = some old[f] := by rw [hr.cell?, Array.getElem?_eq_getElem ho]
  have hs : (store ⟨g, f, none⟩ v .plain).run P w = .ok () (w.setCell ⟨g, f, none⟩ v) := by rw [run_store P w _ v _ h1, hc]; simp [hr.frozen f]
  have hvc : v.cells = #[v] := by cases v <;> first | rfl | simp [Value.oneCell'] at h1
  cases hq : P.info? ty with
  | none => simp [hq] at hi
  | some i =>
    have hz : i.size = 1 := by simpa [hq] using hi
    have hl : (Instr.storeAt ty (.pointer (some ⟨g, f, none⟩)) v).run P w = .ok () (w.setCell ⟨g, f, none⟩ v) := by
      simp [Instr.storeAt, Instr.sureAddr, storeVar, sizeOf, typeInfo, hq, hz, hvc, storeCells, Addr.add, hs, Sem.run_bind]
    simp [hop, hx, hy, hl, Result.andThen]
    exact hK' _ _ (h _ hw)
end
end Go.Fk
namespace Go.Proofs.Ytnkjmgadnejdlac
open Go.RowKit Go.Fk
theorem uinfoRingL : (Try.prog.info? 24).map (·.size) = some 2 := by kernel_rfl
theorem uinfoRingI : (Try.prog.info? 34).map (·.size) = some 2 := by kernel_rfl
theorem uinfoFilterL : (Try.prog.info? 29).map (·.size) = some 6 := by kernel_rfl
theorem uinfoFilterI : (Try.prog.info? 35).map (·.size) = some 6 := by kernel_rfl
theorem uinfoBowL : (Try.prog.info? 31).map (·.size) = some 12 := by kernel_rfl
theorem uinfoBowI : (Try.prog.info? 37).map (·.size) = some 12 := by kernel_rfl
theorem uinfoJetL : (Try.prog.info? 48).map (·.size) = some 18 := by kernel_rfl
theorem uinfoJetI : (Try.prog.info? 51).map (·.size) = some 18 := by kernel_rfl
theorem uinfoTuningL : (Try.prog.info? 59).map (·.size) = some 3 := by kernel_rfl
theorem uinfoTuningI : (Try.prog.info? 66).map (·.size) = some 3 := by kernel_rfl
theorem uinfoInstrumentL : (Try.prog.info? 159).map (·.size) = some 5 := by kernel_rfl
theorem uinfoInstrumentI : (Try.prog.info? 163).map (·.size) = some 5 := by kernel_rfl
theorem uinfoEventL : (Try.prog.info? 166).map (·.size) = some 6 := by kernel_rfl
theorem uinfoEventI : (Try.prog.info? 111).map (·.size) = some 6 := by kernel_rfl
theorem uinfoScoreL : (Try.prog.info? 63).map (·.size) = some 6 := by kernel_rfl
theorem uinfoScoreI : (Try.prog.info? 70).map (·.size) = some 6 := by kernel_rfl
theorem uinfoFloat32A2 : (Try.prog.info? 27).map (·.size) = some 2 := by kernel_rfl
theorem uinfoFloat32A3 : (Try.prog.info? 26).map (·.size) = some 3 := by kernel_rfl
theorem ukindEventSL : ∀ w : World, (isAgg 61).run Try.prog w = .ok false w := fun w => by kernel_rfl
theorem ukindEventSI : ∀ w : World, (isAgg 68).run Try.prog w = .ok false w := fun w => by kernel_rfl
theorem ukindFilterSI : ∀ w : World, (isAgg 186).run Try.prog w = .ok false w := fun w => by kernel_rfl
theorem ukindInstrumentSL : ∀ w : World, (isAgg 60).run Try.prog w = .ok false w := fun w => by kernel_rfl
theorem ukindInstrumentSI : ∀ w : World, (isAgg 67).run Try.prog w = .ok false w := fun w => by kernel_rfl
theorem ukindRingSI : ∀ w : World, (isAgg 124).run Try.prog w = .ok false w := fun w => by kernel_rfl
theorem ukindFloat32S : ∀ w : World, (isAgg 22).run Try.prog w = .ok false w := fun w => by kernel_rfl
theorem ukindBool : ∀ w : World, (isAgg 4).run Try.prog w = .ok false w := fun w => by kernel_rfl
theorem ukindFloat32 : ∀ w : World, (isAgg 25).run Try.prog w = .ok false w := fun w => by kernel_rfl
theorem ukindInt64 : ∀ w : World, (isAgg 2).run Try.prog w = .ok false w := fun w => by kernel_rfl
theorem ukindString : ∀ w : World, (isAgg 9).run Try.prog w = .ok false w := fun w => by kernel_rfl
theorem makeW_Ring (n : Nat) (hn : n ≤ 1048576) : ∃ cs : Array Value, cs.size = n * 2 ∧ ∀ w, (Instr.makeSlice 124 (.int .i64 (n : Int)) (.int .i64 (n : Int))).run Try.prog w = .ok (.slice (some ⟨w.heap.size, 0, none⟩) n n) (w.alloc (.cells cs 34)) := run_make_wide _ _ 2 Try.underlying124 (by kernel_rfl) n hn
theorem makeW_Filter (n : Nat) (hn : n ≤ 1048576) : ∃ cs : Array Value, cs.size = n * 6 ∧ ∀ w, (Instr.makeSlice 186 (.int .i64 (n : Int)) (.int .i64 (n : Int))).run Try.prog w = .ok (.slice (some ⟨w.heap.size, 0, none⟩) n n) (w.alloc (.cells cs 35)) := run_make_wide _ _ 6 Try.underlying186 (by kernel_rfl) n hn
theorem makeW_Instrument (n : Nat) (hn : n ≤ 1048576) : ∃ cs : Array Value, cs.size = n * 5 ∧ ∀ w, (Instr.makeSlice 67 (.int .i64 (n : Int)) (.int .i64 (n : Int))).run Try.prog w = .ok (.slice (some ⟨w.heap.size, 0, none⟩) n n) (w.alloc (.cells cs 163)) := run_make_wide _ _ 5 Try.underlying67 (by kernel_rfl) n hn
theorem makeW_Event (n : Nat) (hn : n ≤ 1048576) : ∃ cs : Array Value, cs.size = n * 6 ∧ ∀ w, (Instr.makeSlice 68 (.int .i64 (n : Int)) (.int .i64 (n : Int))).run Try.prog w = .ok (.slice (some ⟨w.heap.size, 0, none⟩) n n) (w.alloc (.cells cs 111)) := run_make_wide _ _ 6 Try.underlying68 (by kernel_rfl) n hn
theorem uinfo1EventSL : (Try.prog.info? 61).map (·.size) = some 1 := by kernel_rfl
theorem uinfo1EventSI : (Try.prog.info? 68).map (·.size) = some 1 := by kernel_rfl
theorem uinfo1FilterSI : (Try.prog.info? 186).map (·.size) = some 1 := by kernel_rfl
theorem uinfo1InstrumentSL : (Try.prog.info? 60).map (·.size) = some 1 := by kernel_rfl
theorem uinfo1InstrumentSI : (Try.prog.info? 67).map (·.size) = some 1 := by kernel_rfl
theorem uinfo1RingSI : (Try.prog.info? 124).map (·.size) = some 1 := by kernel_rfl
theorem uinfo1Float32S : (Try.prog.info? 22).map (·.size) = some 1 := by kernel_rfl
theorem uinfo1Bool : (Try.prog.info? 4).map (·.size) = some 1 := by kernel_rfl
theorem uinfo1Float32 : (Try.prog.info? 25).map (·.size) = some 1 := by kernel_rfl
theorem uinfo1Int64 : (Try.prog.info? 2).map (·.size) = some 1 := by kernel_rfl
theorem uinfo1String : (Try.prog.info? 9).map (·.size) = some 1 := by kernel_rfl
theorem szU_Float32S (B n : Nat) (x : Nat → CD) (s : Value) (m r : Int) (w : World) (h : (CD.sl 1 n x).Rd w B s) (hsh : ∀ i, i < n → ∀ j, j < 1 → ShOk ([Sh.flt .f32].getD j .bool) (x (i * 1 + j))) (h0 : 0 ≤ m) (h1 : m ≤ 1048576) (hr : lessBy m (CD.sz (CD.sl 1 n x)) = r) :
    Calls Try.prog 74 #[s, .int .i64 m] w (OutI r w) := by
  have hf := ShOk.flts hsh rfl
  rw [CD.sz_flts hf] at hr
  have hd := h.rdf hf
  obtain ⟨y, hy, _⟩ := hd.slIn
  subst hr
  by_cases g : m - (n : Int) < 0
  · rw [lessBy_neg g]
    exact (szS_no s y n m w hy h0 h1 hd.small g).mono (fun e w' ⟨h1, h2⟩ => ⟨h1, h2 ▸ le_refl _⟩)
  · rw [lessBy_pos g]
    exact (szS_yes s y n m w hy h0 h1 hd.small (by omega)).mono (fun e w' ⟨h1, h2⟩ => ⟨h1, h2 ▸ le_refl _⟩)
theorem eqU_Float32S (B B' n : Nat) (x : Nat → CD) (s s' : Value) (w : World) (h : (CD.sl 1 n x).Rd w B s) (h' : (CD.sl 1 n x).Rd w B' s') (hsh : ∀ i, i < n → ∀ j, j < 1 → ShOk ([Sh.flt .f32].getD j .bool) (x (i * 1 + j))) (hz : CD.sz (CD.sl 1 n x) ≤ 1048576) :
    Calls Try.prog 90 #[s, s'] w (OutT w) := by
  have hf := ShOk.flts hsh rfl
  rw [CD.sz_flts hf] at hz
  exact (eqR B B' s s' _ n w hz (h.rdf hf) (h'.rdf hf)).mono (fun e w' ⟨h1, m, h2⟩ => ⟨h1, h2 ▸ le_drewN _ _⟩)
theorem toU_Float32S (B n : Nat) (x : Nat → CD) (s : Value) (w : World) (h : (CD.sl 1 n x).Rd w B s) (hsh : ∀ i, i < n → ∀ j, j < 1 → ShOk ([Sh.flt .f32].getD j .bool) (x (i * 1 + j))) (hz : CD.sz (CD.sl 1 n x) ≤ 1048576) :
    Calls Try.prog 83 #[s] w (OutC (CD.sl 1 n x).cp w) := by
  have hf := ShOk.flts hsh rfl
  rw [CD.sz_flts hf] at hz
  refine (toR B s _ n w (h.rdf hf) hz).mono ?_
  rintro e w' ⟨u, rfl, ho, hl⟩
  exact ⟨u, rfl, ho.lay.congr ⟨_, rfl, fun i hi => by rw [CD.cn_fl (hf i (by simpa using hi))]; exact CD.Eqv.refl _⟩, hl⟩
end Go.Proofs.Ytnkjmgadnejdlac

/- Arguments opened, type by type. -/
namespace Go.Proofs.Ytnkjmgadnejdlac
open Go.RowKit Go.Fk Go.ChangeShapes
section
variable {H : Type} {enc : TypeId × Value → H} {w : World} {base : Nat} {spare : Nat → Bool} {held : Bool}
set_option maxRecDepth 100000 in
theorem opens_RingL : Opens enc Try.prog w base spare held 24 shRing := by
  have o0 : Opens enc Try.prog w base spare held 22 [.sl 1 (fun j => [.flt .f32].getD j .bool)] := (opens_slice Try.underlying22 (by kernel_rfl) (opens_flt Try.underlying25 (by kernel_rfl)))
  have o1 : Opens enc Try.prog w base spare held 2 [.int .i64] := (opens_int Try.underlying2 (by kernel_rfl))
  exact (show Opens enc Try.prog w base spare held 24 ([.sl 1 (fun j => [.flt .f32].getD j .bool)] ++ ([.int .i64] ++ [])) from opens_struct Try.underlying24 (by kernel_rfl) (fldO_cons (l1 := [.sl 1 (fun j => [.flt .f32].getD j .bool)]) (l2 := ([.int .i64] ++ [])) rfl o0 (fldO_cons (l1 := [.int .i64]) (l2 := []) rfl o1 (fldO_nil _))))
set_option maxRecDepth 100000 in
theorem opens_FilterL : Opens enc Try.prog w base spare held 29 shFilter := by
  have o0 : Opens enc Try.prog w base spare held 2 [.int .i64] := (opens_int Try.underlying2 (by kernel_rfl))
  have o1 : Opens enc Try.prog w base spare held 26 [.flt .f32, .flt .f32, .flt .f32] := (opens_array Try.underlying26 (by kernel_rfl) (opens_flt Try.underlying25 (by kernel_rfl)))
  have o2 : Opens enc Try.prog w base spare held 27 [.flt .f32, .flt .f32] := (opens_array Try.underlying27 (by kernel_rfl) (opens_flt Try.underlying25 (by kernel_rfl)))
  exact (show Opens enc Try.prog w base spare held 29 ([.int .i64] ++ ([.flt .f32, .flt .f32, .flt .f32] ++ ([.flt .f32, .flt .f32] ++ []))) from opens_struct Try.underlying29 (by kernel_rfl) (fldO_cons (l1 := [.int .i64]) (l2 := ([.flt .f32, .flt .f32, .flt .f32] ++ ([.flt .f32, .flt .f32] ++ []))) rfl o0 (fldO_cons (l1 := [.flt .f32, .flt .f32, .flt .f32]) (l2 := ([.flt .f32, .flt .f32] ++ [])) rfl o1 (fldO_cons (l1 := [.flt .f32, .flt .f32]) (l2 := []) rfl o2 (fldO_nil _)))))
set_option maxRecDepth 100000 in
theorem opens_BowL : Opens enc Try.prog w base spare held 31 shBow := by
  have o0 : Opens enc Try.prog w base spare held 24 shRing := opens_RingL
  have o1 : Opens enc Try.prog w base spare held 24 shRing := opens_RingL
  have o2 : Opens enc Try.prog w base spare held 29 shFilter := opens_FilterL
  have o3 : Opens enc Try.prog w base spare held 25 [.flt .f32] := (opens_flt Try.underlying25 (by kernel_rfl))
  have o4 : Opens enc Try.prog w base spare held 25 [.flt .f32] := (opens_flt Try.underlying25 (by kernel_rfl))
  exact (show Opens enc Try.prog w base spare held 31 (shRing ++ (shRing ++ (shFilter ++ ([.flt .f32] ++ ([.flt .f32] ++ []))))) from opens_struct Try.underlying31 (by kernel_rfl) (fldO_cons (l1 := shRing) (l2 := (shRing ++ (shFilter ++ ([.flt .f32] ++ ([.flt .f32] ++ []))))) rfl o0 (fldO_cons (l1 := shRing) (l2 := (shFilter ++ ([.flt .f32] ++ ([.flt .f32] ++ [])))) rfl o1 (fldO_cons (l1 := shFilter) (l2 := ([.flt .f32] ++ ([.flt .f32] ++ []))) rfl o2 (fldO_cons (l1 := [.flt .f32]) (l2 := ([.flt .f32] ++ [])) rfl o3 (fldO_cons (l1 := [.flt .f32]) (l2 := []) rfl o4 (fldO_nil _)))))))
set_option maxRecDepth 100000 in
theorem opens_JetL : Opens enc Try.prog w base spare held 48 shJet := by
  have o0 : Opens enc Try.prog w base spare held 24 shRing := opens_RingL
  have o1 : Opens enc Try.prog w base spare held 24 shRing := opens_RingL
  have o2 : Opens enc Try.prog w base spare held 29 shFilter := opens_FilterL
  have o3 : Opens enc Try.prog w base spare held 29 shFilter := opens_FilterL
  have o4 : Opens enc Try.prog w base spare held 25 [.flt .f32] := (opens_flt Try.underlying25 (by kernel_rfl))
  have o5 : Opens enc Try.prog w base spare held 25 [.flt .f32] := (opens_flt Try.underlying25 (by kernel_rfl))
  exact (show Opens enc Try.prog w base spare held 48 (shRing ++ (shRing ++ (shFilter ++ (shFilter ++ ([.flt .f32] ++ ([.flt .f32] ++ [])))))) from opens_struct Try.underlying48 (by kernel_rfl) (fldO_cons (l1 := shRing) (l2 := (shRing ++ (shFilter ++ (shFilter ++ ([.flt .f32] ++ ([.flt .f32] ++ [])))))) rfl o0 (fldO_cons (l1 := shRing) (l2 := (shFilter ++ (shFilter ++ ([.flt .f32] ++ ([.flt .f32] ++ []))))) rfl o1 (fldO_cons (l1 := shFilter) (l2 := (shFilter ++ ([.flt .f32] ++ ([.flt .f32] ++ [])))) rfl o2 (fldO_cons (l1 := shFilter) (l2 := ([.flt .f32] ++ ([.flt .f32] ++ []))) rfl o3 (fldO_cons (l1 := [.flt .f32]) (l2 := ([.flt .f32] ++ [])) rfl o4 (fldO_cons (l1 := [.flt .f32]) (l2 := []) rfl o5 (fldO_nil _))))))))
set_option maxRecDepth 100000 in
theorem opens_TuningL : Opens enc Try.prog w base spare held 59 shTuning := by
  have o0 : Opens enc Try.prog w base spare held 25 [.flt .f32] := (opens_flt Try.underlying25 (by kernel_rfl))
  have o1 : Opens enc Try.prog w base spare held 25 [.flt .f32] := (opens_flt Try.underlying25 (by kernel_rfl))
  have o2 : Opens enc Try.prog w base spare held 22 [.sl 1 (fun j => [.flt .f32].getD j .bool)] := (opens_slice Try.underlying22 (by kernel_rfl) (opens_flt Try.underlying25 (by kernel_rfl)))
  exact (show Opens enc Try.prog w base spare held 59 ([.flt .f32] ++ ([.flt .f32] ++ ([.sl 1 (fun j => [.flt .f32].getD j .bool)] ++ []))) from opens_struct Try.underlying59 (by kernel_rfl) (fldO_cons (l1 := [.flt .f32]) (l2 := ([.flt .f32] ++ ([.sl 1 (fun j => [.flt .f32].getD j .bool)] ++ []))) rfl o0 (fldO_cons (l1 := [.flt .f32]) (l2 := ([.sl 1 (fun j => [.flt .f32].getD j .bool)] ++ [])) rfl o1 (fldO_cons (l1 := [.sl 1 (fun j => [.flt .f32].getD j .bool)]) (l2 := []) rfl o2 (fldO_nil _)))))
set_option maxRecDepth 100000 in
theorem opens_InstrumentL : Opens enc Try.prog w base spare held 159 shInstrument := by
  have o0 : Opens enc Try.prog w base spare held 9 [.str] := (opens_str Try.underlying9 (by kernel_rfl))
  have o1 : Opens enc Try.prog w base spare held 2 [.int .i64] := (opens_int Try.underlying2 (by kernel_rfl))
  have o2 : Opens enc Try.prog w base spare held 25 [.flt .f32] := (opens_flt Try.underlying25 (by kernel_rfl))
  have o3 : Opens enc Try.prog w base spare held 25 [.flt .f32] := (opens_flt Try.underlying25 (by kernel_rfl))
  have o4 : Opens enc Try.prog w base spare held 25 [.flt .f32] := (opens_flt Try.underlying25 (by kernel_rfl))
  exact (show Opens enc Try.prog w base spare held 159 ([.str] ++ ([.int .i64] ++ ([.flt .f32] ++ ([.flt .f32] ++ ([.flt .f32] ++ []))))) from opens_struct Try.underlying159 (by kernel_rfl) (fldO_cons (l1 := [.str]) (l2 := ([.int .i64] ++ ([.flt .f32] ++ ([.flt .f32] ++ ([.flt .f32] ++ []))))) rfl o0 (fldO_cons (l1 := [.int .i64]) (l2 := ([.flt .f32] ++ ([.flt .f32] ++ ([.flt .f32] ++ [])))) rfl o1 (fldO_cons (l1 := [.flt .f32]) (l2 := ([.flt .f32] ++ ([.flt .f32] ++ []))) rfl o2 (fldO_cons (l1 := [.flt .f32]) (l2 := ([.flt .f32] ++ [])) rfl o3 (fldO_cons (l1 := [.flt .f32]) (l2 := []) rfl o4 (fldO_nil _)))))))
set_option maxRecDepth 100000 in
theorem opens_EventL : Opens enc Try.prog w base spare held 166 shEvent := by
  have o0 : Opens enc Try.prog w base spare held 2 [.int .i64] := (opens_int Try.underlying2 (by kernel_rfl))
  have o1 : Opens enc Try.prog w base spare held 2 [.int .i64] := (opens_int Try.underlying2 (by kernel_rfl))
  have o2 : Opens enc Try.prog w base spare held 2 [.int .i64] := (opens_int Try.underlying2 (by kernel_rfl))
  have o3 : Opens enc Try.prog w base spare held 2 [.int .i64] := (opens_int Try.underlying2 (by kernel_rfl))
  have o4 : Opens enc Try.prog w base spare held 2 [.int .i64] := (opens_int Try.underlying2 (by kernel_rfl))
  have o5 : Opens enc Try.prog w base spare held 25 [.flt .f32] := (opens_flt Try.underlying25 (by kernel_rfl))
  exact (show Opens enc Try.prog w base spare held 166 ([.int .i64] ++ ([.int .i64] ++ ([.int .i64] ++ ([.int .i64] ++ ([.int .i64] ++ ([.flt .f32] ++ [])))))) from opens_struct Try.underlying166 (by kernel_rfl) (fldO_cons (l1 := [.int .i64]) (l2 := ([.int .i64] ++ ([.int .i64] ++ ([.int .i64] ++ ([.int .i64] ++ ([.flt .f32] ++ [])))))) rfl o0 (fldO_cons (l1 := [.int .i64]) (l2 := ([.int .i64] ++ ([.int .i64] ++ ([.int .i64] ++ ([.flt .f32] ++ []))))) rfl o1 (fldO_cons (l1 := [.int .i64]) (l2 := ([.int .i64] ++ ([.int .i64] ++ ([.flt .f32] ++ [])))) rfl o2 (fldO_cons (l1 := [.int .i64]) (l2 := ([.int .i64] ++ ([.flt .f32] ++ []))) rfl o3 (fldO_cons (l1 := [.int .i64]) (l2 := ([.flt .f32] ++ [])) rfl o4 (fldO_cons (l1 := [.flt .f32]) (l2 := []) rfl o5 (fldO_nil _))))))))
set_option maxRecDepth 100000 in
theorem opens_ScoreL : Opens enc Try.prog w base spare held 63 shScore := by
  have o0 : Opens enc Try.prog w base spare held 25 [.flt .f32] := (opens_flt Try.underlying25 (by kernel_rfl))
  have o1 : Opens enc Try.prog w base spare held 59 shTuning := opens_TuningL
  have o2 : Opens enc Try.prog w base spare held 60 [.sl 5 (fun j => [.str, .int .i64, .flt .f32, .flt .f32, .flt .f32].getD j .bool)] := (opens_slice Try.underlying60 (by kernel_rfl) opens_InstrumentL)
  have o3 : Opens enc Try.prog w base spare held 61 [.sl 6 (fun j => [.int .i64, .int .i64, .int .i64, .int .i64, .int .i64, .flt .f32].getD j .bool)] := (opens_slice Try.underlying61 (by kernel_rfl) opens_EventL)
  exact (show Opens enc Try.prog w base spare held 63 ([.flt .f32] ++ (shTuning ++ ([.sl 5 (fun j => [.str, .int .i64, .flt .f32, .flt .f32, .flt .f32].getD j .bool)] ++ ([.sl 6 (fun j => [.int .i64, .int .i64, .int .i64, .int .i64, .int .i64, .flt .f32].getD j .bool)] ++ [])))) from opens_struct Try.underlying63 (by kernel_rfl) (fldO_cons (l1 := [.flt .f32]) (l2 := (shTuning ++ ([.sl 5 (fun j => [.str, .int .i64, .flt .f32, .flt .f32, .flt .f32].getD j .bool)] ++ ([.sl 6 (fun j => [.int .i64, .int .i64, .int .i64, .int .i64, .int .i64, .flt .f32].getD j .bool)] ++ [])))) rfl o0 (fldO_cons (l1 := shTuning) (l2 := ([.sl 5 (fun j => [.str, .int .i64, .flt .f32, .flt .f32, .flt .f32].getD j .bool)] ++ ([.sl 6 (fun j => [.int .i64, .int .i64, .int .i64, .int .i64, .int .i64, .flt .f32].getD j .bool)] ++ []))) rfl o1 (fldO_cons (l1 := [.sl 5 (fun j => [.str, .int .i64, .flt .f32, .flt .f32, .flt .f32].getD j .bool)]) (l2 := ([.sl 6 (fun j => [.int .i64, .int .i64, .int .i64, .int .i64, .int .i64, .flt .f32].getD j .bool)] ++ [])) rfl o2 (fldO_cons (l1 := [.sl 6 (fun j => [.int .i64, .int .i64, .int .i64, .int .i64, .int .i64, .flt .f32].getD j .bool)]) (l2 := []) rfl o3 (fldO_nil _))))))
end
end Go.Proofs.Ytnkjmgadnejdlac

/- What functions give, by their results' kinds. Nothing here names a program. -/
namespace Go.Fk
open Go Go.RowKit
def Out_b (ar0 : Bool) (w : World) (e : Ending) (w' : World) : Prop := e = .returned (.bool ar0) ∧ le w w'
def Out_rfi (xr0 : Nat → Nat) (nr0 : Nat) (kr0 : Int) (ar1 : Nat) (ar2 : Int) (w : World) (e : Ending) (w' : World) : Prop := ∃ (v0 : Value) (v1 : Nat), e = .returned (.tuple #[.agg #[v0, .int .i64 kr0], .float .f32 v1, .int .i64 ar2]) ∧ OwnS w' w.heap.size w'.heap.size v0 xr0 nr0 ∧ can .f32 v1 = ar1 ∧ le w w'
def Out_fi (ar0 : Nat) (ar1 : Int) (w : World) (e : Ending) (w' : World) : Prop := ∃ (v0 : Nat), e = .returned (.tuple #[.float .f32 v0, .int .i64 ar1]) ∧ can .f32 v0 = ar0 ∧ le w w'
def Out_ri (xr0 : Nat → Nat) (nr0 : Nat) (kr0 : Int) (ar1 : Int) (w : World) (e : Ending) (w' : World) : Prop := ∃ (v0 : Value), e = .returned (.tuple #[.agg #[v0, .int .i64 kr0], .int .i64 ar1]) ∧ OwnS w' w.heap.size w'.heap.size v0 xr0 nr0 ∧ le w w'
def Out_si (xr0 : Nat → Nat) (nr0 : Nat) (kr0 : Int) (tkr0 : Int) (tar0 : Nat) (tbr0 : Nat) (tcr0 : Nat) (txr0 : Nat) (tyr0 : Nat) (dkr0 : Int) (dar0 : Nat) (dbr0 : Nat) (dcr0 : Nat) (dxr0 : Nat) (dyr0 : Nat) (lr0 : Nat) (ar1 : Int) (w : World) (e : Ending) (w' : World) : Prop := ∃ (v0 : Value), e = .returned (.tuple #[.agg #[v0, .int .i64 kr0, .int .i64 tkr0, .float .f32 tar0, .float .f32 tbr0, .float .f32 tcr0, .float .f32 txr0, .float .f32 tyr0, .int .i64 dkr0, .float .f32 dar0, .float .f32 dbr0, .float .f32 dcr0, .float .f32 dxr0, .float .f32 dyr0, .float .f32 lr0], .int .i64 ar1]) ∧ OwnS w' w.heap.size w'.heap.size v0 xr0 nr0 ∧ le w w'
def Out_sfi (xr0 : Nat → Nat) (nr0 : Nat) (kr0 : Int) (tkr0 : Int) (tar0 : Nat) (tbr0 : Nat) (tcr0 : Nat) (txr0 : Nat) (tyr0 : Nat) (dkr0 : Int) (dar0 : Nat) (dbr0 : Nat) (dcr0 : Nat) (dxr0 : Nat) (dyr0 : Nat) (lr0 : Nat) (ar1 : Nat) (ar2 : Int) (w : World) (e : Ending) (w' : World) : Prop := ∃ (v0 : Value) (v1 : Nat), e = .returned (.tuple #[.agg #[v0, .int .i64 kr0, .int .i64 tkr0, .float .f32 tar0, .float .f32 tbr0, .float .f32 tcr0, .float .f32 txr0, .float .f32 tyr0, .int .i64 dkr0, .float .f32 dar0, .float .f32 dbr0, .float .f32 dcr0, .float .f32 dxr0, .float .f32 dyr0, .float .f32 lr0], .float .f32 v1, .int .i64 ar2]) ∧ OwnS w' w.heap.size w'.heap.size v0 xr0 nr0 ∧ can .f32 v1 = ar1 ∧ le w w'
def Out_sui (xr0 : Nat → Nat) (nr0 : Nat) (kr0 : Int) (tkr0 : Int) (tar0 : Nat) (tbr0 : Nat) (tcr0 : Nat) (txr0 : Nat) (tyr0 : Nat) (dkr0 : Int) (dar0 : Nat) (dbr0 : Nat) (dcr0 : Nat) (dxr0 : Nat) (dyr0 : Nat) (lr0 : Nat) (ar1 : Int) (ar2 : Int) (w : World) (e : Ending) (w' : World) : Prop := ∃ (v0 : Value), e = .returned (.tuple #[.agg #[v0, .int .i64 kr0, .int .i64 tkr0, .float .f32 tar0, .float .f32 tbr0, .float .f32 tcr0, .float .f32 txr0, .float .f32 tyr0, .int .i64 dkr0, .float .f32 dar0, .float .f32 dbr0, .float .f32 dcr0, .float .f32 dxr0, .float .f32 dyr0, .float .f32 lr0], .int .u32 ar1, .int .i64 ar2]) ∧ OwnS w' w.heap.size w'.heap.size v0 xr0 nr0 ∧ le w w'
def Out_sli (xr0 : Nat → Nat) (nr0 : Nat) (kr0 : Int) (tkr0 : Int) (tar0 : Nat) (tbr0 : Nat) (tcr0 : Nat) (txr0 : Nat) (tyr0 : Nat) (dkr0 : Int) (dar0 : Nat) (dbr0 : Nat) (dcr0 : Nat) (dxr0 : Nat) (dyr0 : Nat) (lr0 : Nat) (xr1 : Nat → Nat) (nr1 : Nat) (ar2 : Int) (w : World) (e : Ending) (w' : World) : Prop := ∃ (v0 : Value) (v1 : Value) (q : Nat), e = .returned (.tuple #[.agg #[v0, .int .i64 kr0, .int .i64 tkr0, .float .f32 tar0, .float .f32 tbr0, .float .f32 tcr0, .float .f32 txr0, .float .f32 tyr0, .int .i64 dkr0, .float .f32 dar0, .float .f32 dbr0, .float .f32 dcr0, .float .f32 dxr0, .float .f32 dyr0, .float .f32 lr0], v1, .int .i64 ar2]) ∧ OwnS w' w.heap.size q v0 xr0 nr0 ∧ OwnS w' q w'.heap.size v1 xr1 nr1 ∧ w.heap.size ≤ q ∧ q ≤ w'.heap.size ∧ le w w'
def Out_bi (ar0 : Bool) (ar1 : Int) (w : World) (e : Ending) (w' : World) : Prop := e = .returned (.tuple #[.bool ar0, .int .i64 ar1]) ∧ le w w'
def Out_ii (ar0 : Int) (ar1 : Int) (w : World) (e : Ending) (w' : World) : Prop := e = .returned (.tuple #[.int .i64 ar0, .int .i64 ar1]) ∧ le w w'
def Out_s (xr0 : Nat → Nat) (nr0 : Nat) (kr0 : Int) (tkr0 : Int) (tar0 : Nat) (tbr0 : Nat) (tcr0 : Nat) (txr0 : Nat) (tyr0 : Nat) (dkr0 : Int) (dar0 : Nat) (dbr0 : Nat) (dcr0 : Nat) (dxr0 : Nat) (dyr0 : Nat) (lr0 : Nat) (w : World) (e : Ending) (w' : World) : Prop := ∃ (v0 : Value), e = .returned (.agg #[v0, .int .i64 kr0, .int .i64 tkr0, .float .f32 tar0, .float .f32 tbr0, .float .f32 tcr0, .float .f32 txr0, .float .f32 tyr0, .int .i64 dkr0, .float .f32 dar0, .float .f32 dbr0, .float .f32 dcr0, .float .f32 dxr0, .float .f32 dyr0, .float .f32 lr0]) ∧ OwnS w' w.heap.size w'.heap.size v0 xr0 nr0 ∧ le w w'
def Out_li (xr0 : Nat → Nat) (nr0 : Nat) (ar1 : Int) (w : World) (e : Ending) (w' : World) : Prop := ∃ (v0 : Value), e = .returned (.tuple #[v0, .int .i64 ar1]) ∧ OwnS w' w.heap.size w'.heap.size v0 xr0 nr0 ∧ le w w'
def Out_f (ar0 : Nat) (w : World) (e : Ending) (w' : World) : Prop := ∃ (v0 : Nat), e = .returned (.float .f32 v0) ∧ can .f32 v0 = ar0 ∧ le w w'
end Go.Fk

/- 'toRing' of the laws. -/
namespace Go.Fk
open Go Go.RowKit
theorem SlIn.le {w w' : World} {v : Value} {x : Nat → Nat} {n : Nat} (h : SlIn w v x n) (hl : Fk.le w w') : SlIn w' v x n := by
  rcases h with h | ⟨a, cap, h1, h2, h3, h4⟩
  · exact .inl h
  · exact .inr ⟨a, cap, h1, h2, h3, fun i hi => ⟨(Below.cell hl (cell_lt (h4 i hi).1)).trans (h4 i hi).1, (h4 i hi).2⟩⟩
theorem SlIn.small {w : World} {v : Value} {x : Nat → Nat} {n : Nat} (h : SlIn w v x n) : n ≤ 9223372036854775807 := by
  rcases h with ⟨_, rfl⟩ | ⟨a, cap, h1, h2, h3, h4⟩
  · omega
  · unfold maxLen at h3; omega
end Go.Fk
namespace Go.Proofs.Ytnkjmgadnejdlac
open Go.RowKit Go.Fk
set_option maxRecDepth 100000 in
set_option maxHeartbeats 1000000 in
theorem toRing_any (s : Value) (x : Nat → Nat) (n : Nat) (k : Int) (w : World) (hs : SlIn w s x n) (hn : n ≤ 1048576) :
    Calls Try.prog 38 #[.agg #[s, .int .i64 k]] w fun e w' => ∃ b, e = .returned (.agg #[.slice (some ⟨b, 0, none⟩) n n, .int .i64 k]) ∧ w.heap.size ≤ b ∧ Row w' b 25 (ftab .f32 x n) ∧ le w w' := by
  have F := (((Frm.nil w).box 24 #[s, .int .i64 k]).box 34 #[.slice none 0 0, .int .i64 0]).box 34 #[.slice none 0 0, .int .i64 0]
  simp only [World.size_alloc] at F
  have HS := hid (hs.le F.below)
  clear hs
  go_enter Try.func38, Try.ntmps38
  go_upto_region 2 with (fail)
  obtain ⟨W, hW⟩ : ∃ W, W = ((w.alloc (.cells #[s, .int .i64 k] 24)).alloc (.cells #[.slice none 0 0, .int .i64 0] 34)).alloc (.cells #[.slice none 0 0, .int .i64 0] 34) := ⟨_, rfl⟩
  rw [← hW] at F HS ⊢
  have hz : W.heap.size = w.heap.size + 1 + 1 + 1 := by rw [hW]; simp
  clear hW
  have R1 := F.row (g := w.heap.size) (t := 24) (cs := #[s, .int .i64 k]) (List.mem_cons_of_mem _ (List.mem_cons_of_mem _ List.mem_cons_self))
  have c1 := R1.cell? 0
  replace R1 := hid R1
  replace F := hid F
  have HZ := hid hz
  go_wp2_with (go_at_call 83; ((with_reducible refine (toS s x n W HS.out hn).mono ?_); rintro e w2 ⟨rfl, hr, hl⟩; rw [HZ.out] at hr; have G := F.out.le hl; have d1 : w2.cell? ⟨w.heap.size, 1, none⟩ = some (.int .i64 k) := (G.row (g := w.heap.size) (t := 24) (cs := #[s, .int .i64 k]) (List.mem_cons_of_mem _ (List.mem_cons_of_mem _ List.mem_cons_self))).cell? 1; have T3 := G.row (g := w.heap.size + 1 + 1) (t := 34) (cs := #[.slice none 0 0, .int .i64 0]) List.mem_cons_self; have T2 := G.row (g := w.heap.size + 1) (t := 34) (cs := #[.slice none 0 0, .int .i64 0]) (List.mem_cons_of_mem _ List.mem_cons_self); have d3 : w2.cell? ⟨w.heap.size + 1 + 1, 0, none⟩ = some (.slice none 0 0) := T3.cell? 0; have d4 : w2.cell? ⟨w.heap.size + 1 + 1, 1, none⟩ = some (.int .i64 0) := T3.cell? 1; have e0 : w2.cell? ⟨w.heap.size + 1, 0, none⟩ = some (.slice none 0 0) := T2.cell? 0; have e1 : w2.cell? ⟨w.heap.size + 1, 1, none⟩ = some (.int .i64 0) := T2.cell? 1; have g0 := T2.frozen 0; have g1 := T2.frozen 1; have f3 := T3.frozen 0; have f4 := T3.frozen 1; replace T3 := hid T3; replace T2 := hid T2; have HB := hid G.below; have HR := hid hr; have HW := hid hl.size; clear hr hl G))
  have Z : ∀ (W : World) (v v' : Value), Row W (w.heap.size + 1) 34 #[v, v'] → ∀ u u', Row ((W.setCell ⟨w.heap.size + 1, 0, none⟩ u).setCell ⟨w.heap.size + 1, 1, none⟩ u') (w.heap.size + 1) 34 #[u, u'] := fun W v v' h u u' => (h.set 0 u).set 1 u'
  have N2 := T2.out.other ⟨w.heap.size + 1 + 1, 0, none⟩ (.slice (some ⟨w.heap.size + 1 + 1 + 1, 0, none⟩) n n) (by simp)
  replace N2 := N2.other ⟨w.heap.size + 1 + 1, 1, none⟩ (.int .i64 k) (by simp)
  have N := HR.out.other ⟨w.heap.size + 1 + 1, 0, none⟩ (.slice (some ⟨w.heap.size + 1 + 1 + 1, 0, none⟩) n n) (by simp)
  replace N := N.other ⟨w.heap.size + 1 + 1, 1, none⟩ (.int .i64 k) (by simp)
  replace N := N.other ⟨w.heap.size + 1, 0, none⟩ (.slice (some ⟨w.heap.size + 1 + 1 + 1, 0, none⟩) n n) (by simp; omega)
  replace N := N.other ⟨w.heap.size + 1, 1, none⟩ (.int .i64 k) (by simp; omega)
  have B := Below.setCell (Below.setCell (Below.setCell (Below.setCell HB.out (p := ⟨w.heap.size + 1 + 1, 0, none⟩) (by simp; omega) (.slice (some ⟨w.heap.size + 1 + 1 + 1, 0, none⟩) n n)) (p := ⟨w.heap.size + 1 + 1, 1, none⟩) (by simp; omega) (.int .i64 k)) (p := ⟨w.heap.size + 1, 0, none⟩) (by simp) (.slice (some ⟨w.heap.size + 1 + 1 + 1, 0, none⟩) n n)) (p := ⟨w.heap.size + 1, 1, none⟩) (by simp) (.int .i64 k)
  exact bodyPost_ret (results_row1 rfl _ _ _ _ _ rfl (Z _ _ _ N2 _ _) Try.underlying34 rfl infoRing) rfl ⟨_, rfl, by omega, N, B⟩
end Go.Proofs.Ytnkjmgadnejdlac

/- 'szRing' and 'ValidRing' of both. -/
namespace Go.Fk
open Go Go.RowKit
def okRing (n : Nat) (k : Int) : Bool := (decide (1 ≤ (n : Int)) && decide ((n : Int) ≤ 1024)) && (decide (0 ≤ k) && decide (k < (n : Int)))
end Go.Fk
namespace Go.Proofs.Ytnkjmgadnejdlac
open Go.RowKit Go.Fk
theorem szRing_no (s : Value) (x : Nat → Nat) (n : Nat) (k : Int) (w : World) (hs : SlIn w s x n) (hn : ¬ n ≤ 1048576) :
    Calls Try.prog 34 #[.agg #[s, .int .i64 k], .int .i64 1048576] w fun e w' => e = .returned (.int .i64 (-1)) ∧ le w w' := by
  have HS := hid (hs.le (le_alloc w (.cells #[s, .int .i64 k] 24)))
  have HN := hid hs.small
  have HL := hid (le_alloc w (.cells #[s, .int .i64 k] 24))
  clear hs
  go_enter Try.func34, Try.ntmps34
  go_wp2_with (go_at_call 74; ((with_reducible refine (szS_no s x n 1048576 _ HS.out (by omega) (by omega) HN.out (by omega)).mono ?_); rintro e w2 ⟨rfl, rfl⟩))
  go_ret
  exact ⟨rfl, HL.out⟩
theorem szRing_yes (s : Value) (x : Nat → Nat) (n : Nat) (k : Int) (w : World) (hs : SlIn w s x n) (hn : n ≤ 1048576) :
    Calls Try.prog 34 #[.agg #[s, .int .i64 k], .int .i64 1048576] w fun e w' => e = .returned (.int .i64 (1048576 - n)) ∧ le w w' := by
  have HS := hid (hs.le (le_alloc w (.cells #[s, .int .i64 k] 24)))
  have HN := hid hs.small
  have HL := hid (le_alloc w (.cells #[s, .int .i64 k] 24))
  clear hs
  go_enter Try.func34, Try.ntmps34
  go_wp2_with (go_at_call 74; ((with_reducible refine (szS_yes s x n 1048576 _ HS.out (by omega) (by omega) HN.out (by omega)).mono ?_); rintro e w2 ⟨rfl, rfl⟩))
  go_ret
  exact ⟨rfl, HL.out⟩
set_option maxHeartbeats 2000000 in
theorem i_ValidRing (b n : Nat) (k : Int) (w : World) : Calls Try.prog 147 #[.agg #[.slice (some ⟨b, 0, none⟩) n n, .int .i64 k]] w fun e w' => e = .returned (.bool (okRing n k)) ∧ le w w' := by
  have HL := hid (le_alloc w (.cells #[.slice (some ⟨b, 0, none⟩) n n, .int .i64 k] 34))
  obtain ⟨z, hz⟩ : ∃ z, z = okRing n k := ⟨_, rfl⟩
  rw [← hz]
  unfold okRing at hz
  by_cases h1 : 1 ≤ (n : Int) <;> by_cases h2 : (n : Int) ≤ 1024 <;> by_cases h3 : 0 ≤ k <;> by_cases h4 : k < (n : Int)
  all_goals first | (exfalso; omega) | skip
  all_goals
    simp only [h1, h2, h3, h4, decide_true, decide_false, Bool.and_true, Bool.and_false, Bool.true_and, Bool.false_and] at hz
    have HZ := hid hz
    clear hz
    go_enter Try.func147, Try.ntmps147
    go_wp2
    go_ret
    exact ⟨ret_b HZ.out.symm, HL.out⟩
end Go.Proofs.Ytnkjmgadnejdlac

/- What math.Float32bits and math.Float32frombits give. -/
namespace Go.Proofs.Ytnkjmgadnejdlac
open Go.RowKit Go.Fk

@[go_sem] theorem run_f32bits (x : Nat) (w : World) : (callFunc 99 #[.float .f32 x]).run Try.prog w = .ok (.value (.int .u32 x)) w := by
  rw [run_callFunc_extern (e := Extern.MathFloatBits.float32bits) Try.func99 (by kernel_rfl) (by kernel_rfl) (by kernel_rfl) (by kernel_rfl)]; rfl
end Go.Proofs.Ytnkjmgadnejdlac

/- What math.Float32frombits gives. -/
namespace Go.Proofs.Ytnkjmgadnejdlac
open Go.RowKit Go.Fk

@[go_sem] theorem run_f32from (x : Int) (w : World) : (callFunc 144 #[.int .u32 x]).run Try.prog w = .ok (.value (.float .f32 x.toNat)) w := by
  rw [run_callFunc_extern (e := Extern.MathFloatBits.float32frombits) Try.func144 (by kernel_rfl) (by kernel_rfl) (by kernel_rfl) (by kernel_rfl)]; rfl
end Go.Proofs.Ytnkjmgadnejdlac

/- Flushing: the plain function, the bits that it looks at, and the contracts of 'FlushSample' and 'l01Flush'. -/
namespace Go.Fk
open Go Go.RowKit

def flush (b : Nat) : Nat := if b % 2147483648 < 8388608 then 0 else b

theorem fits_flush {b : Nat} (h : fits .f32 b) : fits .f32 (flush b) := by
  unfold flush; split
  · simp [fits, Lit.wf]
  · exact h
theorem fits32 {b : Nat} (h : fits .f32 b) : b < 4294967296 := by
  simp only [fits, Lit.wf, decide_eq_true_eq] at h; omega

theorem and_low (x : Nat) : x &&& 2147483647 = x % 2147483648 := Nat.and_two_pow_sub_one_eq_mod x 31
theorem and_exp (x : Nat) (hx : x < 4294967296) : ((x &&& 2139095040) = 0) ↔ x % 2147483648 < 8388608 := by
  have e : x &&& 2139095040 = (x >>> 23 &&& 255) <<< 23 := by
    rw [Nat.shiftLeft_and_distrib]
    apply Nat.eq_of_testBit_eq
    intro i
    simp only [Nat.testBit_and, Nat.testBit_shiftLeft, Nat.testBit_shiftRight]
    by_cases hi : 23 ≤ i
    · simp only [hi, decide_true, Bool.true_and, show 23 + (i - 23) = i by omega]
      congr 1
      rw [show (2139095040 : Nat) = 255 <<< 23 by decide, Nat.testBit_shiftLeft]
      simp [hi]
    · simp only [hi, decide_false, Bool.false_and]
      rw [show (2139095040 : Nat) = 255 <<< 23 by decide, Nat.testBit_shiftLeft]
      simp [hi]
  rw [e, show (255 : Nat) = 2 ^ 8 - 1 by decide, Nat.and_two_pow_sub_one_eq_mod, Nat.shiftLeft_eq, Nat.shiftRight_eq_div_pow]
  omega

theorem bits_and_exp (x : Nat) (hx : x < 4294967296) : bits .and .u32 (x : Int) 2139095040 = ((x &&& 2139095040 : Nat) : Int) :=
  (bits_nat .u32 32 (by decide) (fun n h0 h1 => by rw [IntKind.wrap_u32]; omega) x 2139095040 (by omega) (by omega)).1
theorem bits_and_low (x : Nat) (hx : x < 4294967296) : bits .and .u32 (x : Int) 2147483647 = ((x % 2147483648 : Nat) : Int) := by
  rw [← and_low]
  exact (bits_nat .u32 32 (by decide) (fun n h0 h1 => by rw [IntKind.wrap_u32]; omega) x 2147483647 (by omega) (by omega)).1
theorem exp_zero {x : Nat} (hx : x < 4294967296) (h : x % 2147483648 < 8388608) : (bits .and .u32 (x : Int) 2139095040 == 0) = true := by
  rw [bits_and_exp x hx, (and_exp x hx).2 h]; rfl
theorem exp_pos {x : Nat} (hx : x < 4294967296) (h : ¬ x % 2147483648 < 8388608) : (bits .and .u32 (x : Int) 2139095040 == 0) = false := by
  rw [bits_and_exp x hx, beq_eq_false_iff_ne]
  intro e
  exact h ((and_exp x hx).1 (by exact_mod_cast e))

theorem order_min (r : Nat) (h : r < 2147483648) : (FloatKind.f32.format.order r 8388608 == some .lt) = decide (r < 8388608) := by
  have e1 : Ieee.single.signWeight = 2147483648 := by decide
  have e2 : Ieee.single.infRung = 2139095040 := by decide
  have e3 : Ieee.single.binade = 8388608 := by decide
  have e4 : Ieee.single.leastPlace = -149 := by decide
  have e5 : Ieee.single.read 8388608 = .number false 8388608 (-149) := by decide
  have e6 : r % 2147483648 = r := Nat.mod_eq_of_lt h
  have e7 : r / 2147483648 = 0 := by omega
  simp only [FloatKind.format, Ieee.Format.order, e5]
  simp only [Ieee.Format.read, e1, e2, e3, e4, e6, e7]
  split
  · rename_i h1
    have h0 : decide (r < 8388608) = true := by simpa using h1
    rw [h0]
    simp only [Ieee.Datum.order, Ieee.signed, beq_iff_eq, Option.some.injEq]
    refine Int.compare_eq_lt.2 ?_
    simp [Nat.shiftLeft_eq]
    omega
  · have h0 : decide (r < 8388608) = false := by simp; omega
    rw [h0, beq_eq_false_iff_ne]
    split
    · simp only [Ieee.Datum.order, Ieee.signed]
      intro h
      simp only [Option.some.injEq] at h
      have h := Int.compare_eq_lt.1 h
      rw [show min (-149 + ((r / 8388608 - 1 : Nat) : Int)) (-149) = -149 by omega] at h
      simp [Nat.shiftLeft_eq] at h
      have h3 : 0 < 2 ^ (r / 8388608 - 1) := Nat.two_pow_pos _
      have h4 : (8388608 + r % 8388608) * 1 ≤ (8388608 + r % 8388608) * 2 ^ (r / 8388608 - 1) := Nat.mul_le_mul_left _ h3
      rw [show (-149 + ((r / 8388608 - 1 : Nat) : Int) + 149).toNat = r / 8388608 - 1 by omega] at h
      generalize r / 8388608 - 1 = u at *
      have e : (((8388608 + r % 8388608) * 2 ^ u : Nat) : Int) = (8388608 + (r : Int) % 8388608) * 2 ^ u := by rw [Int.natCast_mul, Int.natCast_add, Int.natCast_emod, Int.natCast_pow]; rfl
      omega
    · split
      · simp [Ieee.Datum.order]
      · simp [Ieee.Datum.order]
end Go.Fk

namespace Go.Proofs.Ytnkjmgadnejdlac
open Go.RowKit Go.Fk
theorem i_FlushSample (x : Nat) (w : World) (hx : fits .f32 x) : Calls Try.prog 195 #[.float .f32 x] w fun e w' => e = .returned (.float .f32 (flush x)) ∧ w = w' := by
  by_cases h : x % 2147483648 < 8388608
  · have hz := exp_zero (fits32 hx) h
    go_enter Try.func195, Try.ntmps195
    go_wp2
    go_ret
    exact ⟨ret_f (by rw [flush, if_pos h]), rfl⟩
  · have hz := exp_pos (fits32 hx) h
    go_enter Try.func195, Try.ntmps195
    go_wp2
    go_ret
    exact ⟨ret_f (by rw [flush, if_neg h]), rfl⟩
theorem s_l01Abs (x : Nat) (w : World) (hx : fits .f32 x) : Calls Try.prog 120 #[.float .f32 x] w fun e w' => e = .returned (.float .f32 (x % 2147483648)) ∧ w = w' := by
  go_enter Try.func120, Try.ntmps120
  go_wp2
  go_ret
  exact ⟨ret_f (by rw [bits_and_low x (fits32 hx)]; omega), rfl⟩
theorem s_l01Flush (x : Nat) (w : World) (hx : fits .f32 x) : Calls Try.prog 121 #[.float .f32 x] w fun e w' => e = .returned (.float .f32 (flush x)) ∧ w = w' := by
  have ho := order_min (x % 2147483648) (by omega)
  by_cases h : x % 2147483648 < 8388608
  · rw [decide_eq_true h] at ho
    go_enter Try.func121, Try.ntmps121
    go_wp2_with (go_at_call 120; refine (s_l01Abs _ _ hx).mono ?_; rintro e w' ⟨rfl, rfl⟩)
    go_ret
    exact ⟨ret_f (by rw [flush, if_pos h]), rfl⟩
  · rw [decide_eq_false h] at ho
    go_enter Try.func121, Try.ntmps121
    go_wp2_with (go_at_call 120; refine (s_l01Abs _ _ hx).mono ?_; rintro e w' ⟨rfl, rfl⟩)
    go_ret
    exact ⟨ret_f (by rw [flush, if_neg h]), rfl⟩
end Go.Proofs.Ytnkjmgadnejdlac

/- 'isNaN', 'bitsOf', 'SameSample' and their like in the model. -/
namespace Go.Proofs.Ytnkjmgadnejdlac
open Go.RowKit Go.Fk

theorem i_isNaN (x : Nat) (w : World) : Calls Try.prog 149 #[.float .f32 x] w fun e w' => e = .returned (.bool (isNan .f32 x)) ∧ w = w' := by
  go_enter Try.func149, Try.ntmps149
  go_wp2
  go_ret
  exact ⟨rfl, rfl⟩
theorem s_l01NaN (x : Nat) (w : World) : Calls Try.prog 98 #[.float .f32 x] w fun e w' => e = .returned (.bool (isNan .f32 x)) ∧ w = w' := by
  go_enter Try.func98, Try.ntmps98
  go_wp2
  go_ret
  exact ⟨rfl, rfl⟩
theorem i_bitsOf (x : Nat) (w : World) : Calls Try.prog 128 #[.float .f32 x] w fun e w' => e = .returned (.int .u32 (can .f32 x)) ∧ w = w' := by
  cases h : isNan .f32 x
  all_goals
    go_enter Try.func128, Try.ntmps128
    go_wp2_with (go_at_call 149; refine (i_isNaN _ _).mono ?_; rintro e w' ⟨rfl, rfl⟩)
    go_ret
  · exact ⟨ret_i (by rw [can_of_not h]), rfl⟩
  · exact ⟨ret_i (by rw [can_of_nan h]; rfl), rfl⟩
theorem i_SameSample (x y : Nat) (w : World) : Calls Try.prog 103 #[.float .f32 x, .float .f32 y] w fun e w' => e = .returned (.bool (sameB x y)) ∧ w = w' := by
  go_enter Try.func103, Try.ntmps103
  go_wp2_with (go_at_call 128; refine (i_bitsOf _ _).mono ?_; rintro e w' ⟨rfl, rfl⟩)
  go_ret
  exact ⟨rfl, rfl⟩
theorem s_l01Same (x y : Nat) (w : World) : Calls Try.prog 58 #[.float .f32 x, .float .f32 y] w fun e w' => e = .returned (.bool (sameB x y)) ∧ w = w' := by
  cases h : isNan .f32 x <;> cases h2 : isNan .f32 y
  all_goals
    go_enter Try.func58, Try.ntmps58
    go_wp2_with (go_at_call 98; refine (s_l01NaN _ _).mono ?_; rintro e w' ⟨rfl, rfl⟩)
    go_ret
  · exact ⟨ret_b (sameB_num h h2).symm, rfl⟩
  · exact ⟨ret_b (sameB_mix (by rw [h, h2]; simp)).symm, rfl⟩
  · exact ⟨ret_b (sameB_mix (by rw [h, h2]; simp)).symm, rfl⟩
  · exact ⟨ret_b (sameB_nan h h2).symm, rfl⟩
end Go.Proofs.Ytnkjmgadnejdlac

/- Is a sample finite? -/
namespace Go.Fk
open Go Go.RowKit
/-- Is a sample finite? -/
def fin (x : Nat) : Bool := match FloatKind.f32.format.read x with | .number _ _ _ => true | _ => false
theorem fin_sub (x : Nat) : (FloatKind.f32.format.order (fop .sub .f32 x x) 0 == some .eq) = fin x := by
  cases hr : FloatKind.f32.format.read x with
  | nan s t =>
    have h : isNan .f32 x = true := by simp [isNan, hr, Ieee.Datum.isNaN]
    simp only [fin, hr, fop]
    rw [floatBits_nan_l h]
    decide
  | infinity s =>
    simp only [fin, hr, fop, floatBits, Ieee.Format.sub, Ieee.Datum.opposite, Ieee.Datum.sum]
    cases s <;> decide
  | number s m e =>
    simp only [fin, hr, fop, floatBits, Ieee.Format.sub, Ieee.Datum.opposite, Ieee.Datum.sum, Int.sub_self]
    have h1 : Ieee.signed s m (e - min e e).toNat + Ieee.signed (!s) m (e - min e e).toNat = 0 := by
      unfold Ieee.signed; cases s <;> simp <;> omega
    rw [h1]
    simp only [if_true, Option.map_some, Int.natAbs_zero, Ieee.Format.write, Ieee.Format.nearest]
    cases s <;> decide
end Go.Fk
namespace Go.Proofs.Ytnkjmgadnejdlac
open Go.RowKit Go.Fk
theorem s_l01Finite (x : Nat) (w : World) : Calls Try.prog 119 #[.float .f32 x] w fun e w' => e = .returned (.bool (fin x)) ∧ ∃ n, w' = w.drewN n := by
  go_enter Try.func119, Try.ntmps119
  go_wp2_with (with_reducible refine wpList_farith rfl rfl rfl rfl rfl ?_; intro r n hr hf)
  go_ret
  refine ⟨ret_b ?_, n, rfl⟩
  rw [← fin_sub, order_congr (hr.out.trans (can_fop _ _ _ _).symm) rfl]
end Go.Proofs.Ytnkjmgadnejdlac

/- What a state keeps of a number; is a number finite? -/
namespace Go.Fk
open Go Go.RowKit
theorem fin_bits (x : Nat) : fin x = decide (x % 2147483648 < 2139095040) := by
  have e1 : Ieee.single.signWeight = 2147483648 := by decide
  have e2 : Ieee.single.infRung = 2139095040 := by decide
  have e3 : Ieee.single.binade = 8388608 := by decide
  have e4 : Ieee.single.leastPlace = -149 := by decide
  simp only [fin, FloatKind.format, Ieee.Format.read, e1, e2, e3, e4]
  split
  · rename_i s m e h
    split at h
    · simp; omega
    · split at h
      · simp; omega
      · split at h <;> cases h
  · rename_i h
    split at h
    · exact absurd rfl (h _ _ _)
    · split at h
      · exact absurd rfl (h _ _ _)
      · simp; omega
theorem and_exp255 (x : Nat) (hx : x < 4294967296) : ((x &&& 2139095040) = 2139095040) ↔ ¬ x % 2147483648 < 2139095040 := by
  have e : x &&& 2139095040 = (x >>> 23 &&& 255) <<< 23 := by
    rw [Nat.shiftLeft_and_distrib]
    apply Nat.eq_of_testBit_eq
    intro i
    simp only [Nat.testBit_and, Nat.testBit_shiftLeft, Nat.testBit_shiftRight]
    by_cases hi : 23 ≤ i
    · simp only [hi, decide_true, Bool.true_and, show 23 + (i - 23) = i by omega]
      congr 1
      rw [show (2139095040 : Nat) = 255 <<< 23 by decide, Nat.testBit_shiftLeft]
      simp [hi]
    · simp only [hi, decide_false, Bool.false_and]
      rw [show (2139095040 : Nat) = 255 <<< 23 by decide, Nat.testBit_shiftLeft]
      simp [hi]
  rw [e, show (255 : Nat) = 2 ^ 8 - 1 by decide, Nat.and_two_pow_sub_one_eq_mod, Nat.shiftLeft_eq, Nat.shiftRight_eq_div_pow]
  omega
theorem exp_full {x : Nat} (hx : x < 4294967296) : (bits .and .u32 (x : Int) 2139095040 == 2139095040) = !fin x := by
  rw [bits_and_exp x hx, fin_bits]
  have h := and_exp255 x hx
  by_cases c : x % 2147483648 < 2139095040
  · have : ¬ (x &&& 2139095040) = 2139095040 := fun e => (h.1 e) c
    simp only [c, decide_true, Bool.not_true, beq_eq_false_iff_ne]
    intro e
    exact this (Int.ofNat_inj.1 e)
  · simp only [c, decide_false, Bool.not_false, beq_iff_eq]
    rw [h.2 c]; rfl
/-- What a state keeps. -/
def kept (v : Nat) : Nat := if fin v = true then flush v else 0
theorem fin_can {a b : Nat} (h : can .f32 a = can .f32 b) : fin a = fin b := by
  cases hn : isNan .f32 a
  · rw [eq_of_can h hn]
  · have hm := (isNan_of_can h).symm.trans hn
    obtain ⟨s, t, h1⟩ := read_nan hn
    obtain ⟨s', t', h2⟩ := read_nan hm
    simp [fin, h1, h2]
theorem fin_num {a : Nat} (h : fin a = true) : isNan .f32 a = false := by
  cases hr : FloatKind.f32.format.read a with
  | nan s t => simp [fin, hr] at h
  | infinity s => simp [fin, hr] at h
  | number s m e => simp [isNan, hr, Ieee.Datum.isNaN]
theorem kept_can {a b : Nat} (h : can .f32 a = can .f32 b) : kept a = kept b := by
  unfold kept
  rw [← fin_can h]
  split
  · rename_i hf
    rw [eq_of_can h (fin_num hf)]
  · rfl
theorem fits_kept {b : Nat} (h : fits .f32 b) : fits .f32 (kept b) := by
  unfold kept; split
  · exact fits_flush h
  · simp [fits, Lit.wf]
theorem same0_fin {v : Nat} (h : sameB v 0 = true) : fin v = true := by
  have e : can .f32 v = can .f32 0 := by
    simp only [sameB, beq_iff_eq] at h
    exact_mod_cast h
  rw [fin_can e]; decide
end Go.Fk
namespace Go.Proofs.Ytnkjmgadnejdlac
open Go.RowKit Go.Fk
theorem i_isFinite (x : Nat) (w : World) (hx : fits .f32 x) : Calls Try.prog 148 #[.float .f32 x] w fun e w' => e = .returned (.bool (fin x)) ∧ w = w' := by
  have hz := exp_full (fits32 hx)
  go_enter Try.func148, Try.ntmps148
  go_wp2
  go_ret
  refine ⟨ret_b ?_, rfl⟩
  rw [bne, hz, Bool.not_not]
theorem i_kept (x : Nat) (w : World) (hx : fits .f32 x) : Calls Try.prog 190 #[.float .f32 x] w fun e w' => e = .returned (.float .f32 (kept x)) ∧ w = w' := by
  cases h : fin x
  all_goals
    go_enter Try.func190, Try.ntmps190
    go_wp2_with (first | (go_at_call 148; refine (i_isFinite _ _ hx).mono ?_; rintro e w' ⟨rfl, rfl⟩) | (go_at_call 195; refine (i_FlushSample _ _ hx).mono ?_; rintro e w' ⟨rfl, rfl⟩))
    go_ret
    exact ⟨ret_f (by simp [kept, h]), rfl⟩
theorem s_Kept (x : Nat) (w : World) (hx : fits .f32 x) : Calls Try.prog 82 #[.float .f32 x] w fun e w' => e = .returned (.float .f32 (kept x)) ∧ ∃ n, w' = w.drewN n := by
  cases h : fin x
  all_goals
    go_enter Try.func82, Try.ntmps82
    go_wp2_with (first | (go_at_call 119; refine (s_l01Finite _ _).mono ?_; rintro e w' ⟨rfl, n0, rfl⟩) | (go_at_call 121; refine (s_l01Flush _ _ hx).mono ?_; rintro e w' ⟨rfl, rfl⟩))
    go_ret
    exact ⟨ret_f (by simp [kept, h]), _, rfl⟩
end Go.Proofs.Ytnkjmgadnejdlac

/- 'areUsed': the first numbers are finite, the others 0. -/
namespace Go.Fk
open Go Go.RowKit
def usedB (f : Nat → Nat) (n u : Nat) : Bool := (List.range n).all fun i => if i < u then fin (f i) else sameB (f i) 0
theorem usedB_fin {f : Nat → Nat} {n u i : Nat} (hi : i < u) (hu : u ≤ n) (h : fin (f i) = false) : usedB f n u = false := by
  simp only [usedB, List.all_eq_false, List.mem_range]
  exact ⟨i, by omega, by simp [hi, h]⟩
theorem usedB_zero {f : Nat → Nat} {n u i : Nat} (hi : u ≤ i) (hn : i < n) (h : sameB (f i) 0 = false) : usedB f n u = false := by
  simp only [usedB, List.all_eq_false, List.mem_range]
  exact ⟨i, hn, by simp [show ¬ i < u by omega, h]⟩
theorem usedB_yes {f : Nat → Nat} {n u : Nat} (h1 : ∀ i, i < u → fin (f i) = true) (h2 : ∀ i, u ≤ i → i < n → sameB (f i) 0 = true) : usedB f n u = true := by
  simp only [usedB, List.all_eq_true, List.mem_range]
  intro i hi
  by_cases c : i < u
  · simp [c, h1 i c]
  · simp [c, h2 i (by omega) hi]
/-- Are all finite? -/
def finB (f : Nat → Nat) (n : Nat) : Bool := (List.range n).all fun i => fin (f i)
theorem finB_no {f : Nat → Nat} {n i : Nat} (hi : i < n) (h : fin (f i) = false) : finB f n = false := by
  rw [Bool.eq_false_iff]; intro hh
  have := List.all_eq_true.1 hh i (List.mem_range.2 hi)
  rw [h] at this; cases this
theorem finB_yes {f : Nat → Nat} {n : Nat} (h : ∀ i, i < n → fin (f i) = true) : finB f n = true := List.all_eq_true.2 (fun i hi => h i (List.mem_range.1 hi))
theorem finB_all {f : Nat → Nat} {n : Nat} (h : finB f n = true) : ∀ i, i < n → fin (f i) = true := fun i hi => List.all_eq_true.1 h i (List.mem_range.2 hi)
theorem finB_ex {f : Nat → Nat} {n : Nat} (h : finB f n = false) : ∃ i, i < n ∧ fin (f i) = false := by
  apply Classical.byContradiction
  intro hn
  have : finB f n = true := finB_yes (fun i hi => by
    cases hb : fin (f i)
    · exact absurd ⟨i, hi, hb⟩ hn
    · rfl)
  rw [h] at this; cases this
end Go.Fk
namespace Go.Proofs.Ytnkjmgadnejdlac
open Go.RowKit Go.Fk
set_option maxHeartbeats 1000000 in
theorem i_areFinite (f : Nat → Nat) (a : Addr) (u cap : Nat) (w : World) (hu : u ≤ 9223372036854775807) (hf : ∀ i, i < u → fits .f32 (f i)) (hc : ∀ i, i < u → w.cell? (a.add i) = some (.float .f32 (f i))) :
    Calls Try.prog 125 #[.slice (some a) u cap] w fun e w' => e = .returned (.bool (finB f u)) ∧ w = w' := by
  have Hf := hid hf; have Hc := hid hc; clear hf hc
  go_enter Try.func125, Try.ntmps125
  go_wp2
  go_loop [7] (fun i => ∃ j : Nat, j ≤ u ∧ i = .int .i64 j ∧ Hid (∀ i, i < j → fin (f i) = true)) (fun i => u - (intOf i).toNat)
  case atStart => exact ⟨0, by omega, rfl, fun i hi => absurd hi (by omega)⟩
  case round =>
    obtain ⟨j, hj, rfl, HJ⟩ := hrel
    by_cases hlt : j < u
    · have cj := Hc.out j (by omega)
      have fj := hid (Hf.out j (by omega))
      cases hb : fin (f j)
      · go_wp2_with (go_at_call 148; refine (i_isFinite _ _ fj).mono ?_; rintro e w' ⟨rfl, rfl⟩)
        go_ret
        exact ⟨ret_b (finB_no hlt hb).symm, rfl⟩
      · go_wp2_with (go_at_call 148; refine (i_isFinite _ _ fj).mono ?_; rintro e w' ⟨rfl, rfl⟩)
        go_round
        case rel => exact ⟨j + 1, by omega, by go_num, fun i hi => by rcases Nat.lt_or_ge i j with h | h; exact HJ.out i h; rw [show i = j by omega]; exact hb⟩
        case measure => simp [intOf]; omega
    · obtain rfl : j = u := by omega
      go_wp2
      go_ret
      exact ⟨ret_b (finB_yes HJ.out).symm, rfl⟩
theorem i_areFinite_nil (f : Nat → Nat) (w : World) : Calls Try.prog 125 #[.slice none 0 0] w fun e w' => e = .returned (.bool (finB f 0)) ∧ w = w' := by
  go_enter Try.func125, Try.ntmps125
  go_wp2
  go_loop [7] (fun i => i = .int .i64 0) (fun _ => 0)
  case atStart => rfl
  case round =>
    obtain rfl := hrel
    go_wp2
    go_ret
    exact ⟨rfl, rfl⟩
set_option maxHeartbeats 1000000 in
theorem i_areUsed (f : Nat → Nat) (g o n u : Nat) (w : World) (hn : n < 100) (hu : u ≤ n) (hf : ∀ i, i < n → fits .f32 (f i)) (hc : ∀ i, i < n → w.cell? ⟨g, o + i, none⟩ = some (.float .f32 (f i))) :
    Calls Try.prog 146 #[.slice (some ⟨g, o, none⟩) n n, .int .i64 u] w fun e w' => e = .returned (.bool (usedB f n u)) ∧ w = w' := by
  have HA := hid (fun (w : World) (hc : ∀ i, i < n → w.cell? ⟨g, o + i, none⟩ = some (.float .f32 (f i))) => i_areFinite f ⟨g, o, none⟩ u n w (by omega) (fun i hi => hf i (by omega)) (fun i hi => by rw [add_none]; exact hc i (by omega)))
  have Hc := hid hc; clear hf hc
  obtain ⟨z, hz⟩ : ∃ z, z = finB f u := ⟨_, rfl⟩
  rw [← hz] at HA
  cases z
  · obtain ⟨i, hi, hb⟩ := finB_ex hz.symm
    have HZ := hid (usedB_fin hi hu hb)
    clear hz hb hi
    go_enter Try.func146, Try.ntmps146
    go_wp2_with (go_at_call 125; refine (HA.out _ Hc.out).mono ?_; rintro e w' ⟨rfl, rfl⟩)
    go_ret
    exact ⟨ret_b HZ.out.symm, rfl⟩
  have HJ := hid (finB_all hz.symm)
  clear hz
  rcases Nat.lt_or_ge u n with hlt0 | hge0
  · have h1 : (u : Int) ≤ n := by omega
    have h2 : (u : Int) < n := by omega
    go_enter Try.func146, Try.ntmps146
    go_wp2_with (go_at_call 125; refine (HA.out _ Hc.out).mono ?_; rintro e w' ⟨rfl, rfl⟩)
    go_loop [16] (fun i => ∃ k : Nat, k ≤ n - u ∧ i = .int .i64 k ∧ Hid (∀ i, u ≤ i → i < u + k → sameB (f i) 0 = true)) (fun i => (n - u) - (intOf i).toNat)
    case atStart => exact ⟨0, by omega, rfl, fun i h1 h2 => absurd h2 (by omega)⟩
    case round =>
      obtain ⟨k, hk, rfl, HK⟩ := hrel
      by_cases hkt : k < n - u
      · have ck : w.cell? ⟨g, o + u + k, none⟩ = some (.float .f32 (f (u + k))) := by rw [Nat.add_assoc]; exact Hc.out (u + k) (by omega)
        have k1 : (k : Int) < (n : Int) - u := by omega
        cases hb : sameB (f (u + k)) 0
        · go_wp2_with (go_at_call 103; refine (i_SameSample _ _ _).mono ?_; rintro e w' ⟨rfl, rfl⟩)
          go_ret
          exact ⟨ret_b (usedB_zero (show u ≤ u + k by omega) (by omega) hb).symm, rfl⟩
        · go_wp2_with (go_at_call 103; refine (i_SameSample _ _ _).mono ?_; rintro e w' ⟨rfl, rfl⟩)
          go_round
          case rel => exact ⟨k + 1, by omega, by go_num, fun i h1 h2 => by rcases Nat.lt_or_ge i (u + k) with h | h; exact HK.out i h1 h; rw [show i = u + k by omega]; exact hb⟩
          case measure => simp [intOf]; omega
      · have k1 : ¬ (k : Int) < (n : Int) - u := by omega
        go_wp2
        go_ret
        exact ⟨ret_b (usedB_yes (HJ.out) (fun i h1 h2 => HK.out i h1 (by omega))).symm, rfl⟩
  · obtain rfl : u = n := by omega
    clear hu hge0
    go_enter Try.func146, Try.ntmps146
    go_wp2_with (go_at_call 125; refine (HA.out _ Hc.out).mono ?_; rintro e w' ⟨rfl, rfl⟩)
    go_loop [16] (fun i => i = .int .i64 0) (fun i => 0)
    case atStart => rfl
    case round =>
      obtain rfl := hrel
      go_wp2
      go_ret
      exact ⟨ret_b (usedB_yes (HJ.out) (fun i h1 h2 => absurd h2 (by omega))).symm, rfl⟩
end Go.Proofs.Ytnkjmgadnejdlac

/- Values that lead to blocks' cells (never into the midst of a word): what one owns is read so. Lists of rings. Nothing here names a program. -/
namespace Go.Fk
open Go Go.RowKit
def CD.RdN (w : World) (B : Nat) : CD → Value → Prop
  | .int k z, v => CD.leaf (.int k z) v
  | .flt k x, v => CD.leaf (.flt k x) v
  | .fcn k x, v => CD.leaf (.fcn k x) v
  | .bool b, v => CD.leaf (.bool b) v
  | .str s, v => CD.leaf (.str s) v
  | .sl wd n x, v => (v = .slice none 0 0 ∧ n = 0) ∨ ∃ b o cap, v = .slice (some ⟨b, o, none⟩) n cap ∧ n ≤ cap ∧ cap ≤ maxLen ∧ ∀ i, i < n * wd → b < B ∧ ∃ u, w.cell? ⟨b, o + i, none⟩ = some u ∧ CD.RdN w B (x i) u
theorem CD.RdN.rd {w : World} {B : Nat} : ∀ {c : CD} {v : Value}, c.RdN w B v → c.Rd w B v := by
  intro c
  induction c with
  | sl wd n x ih =>
    intro v h
    rcases h with h | ⟨b, o, cap, h1, h2, h3, h4⟩
    · exact .inl h
    · exact .inr ⟨⟨b, o, none⟩, cap, h1, h2, h3, fun i hi => by obtain ⟨h5, u, h6, h7⟩ := h4 i hi; exact ⟨h5, u, by rw [add_none]; exact h6, ih i h7⟩⟩
  | _ => intro v h; exact h
theorem CD.RdN.le {w w' : World} {B : Nat} (hl : Fk.le w w') : ∀ {c : CD} {v : Value}, c.RdN w B v → c.RdN w' B v := by
  intro c
  induction c with
  | sl wd n x ih =>
    intro v h
    rcases h with h | ⟨b, o, cap, h1, h2, h3, h4⟩
    · exact .inl h
    · exact .inr ⟨b, o, cap, h1, h2, h3, fun i hi => by obtain ⟨h5, u, h6, h7⟩ := h4 i hi; exact ⟨h5, u, (Below.cell hl (cell_lt' h6)).trans h6, ih i h7⟩⟩
  | _ => intro v h; exact h
theorem CD.Lay.rdN {w : World} {B : Nat} : ∀ {c : CD} {S : Nat → Prop} {v : Value}, c.Lay w S v → (∀ j, S j → j < B) → c.RdN w B v := by
  intro c
  induction c with
  | sl wd n x ih =>
    intro S v h hS
    rcases h with h | ⟨b, o, cap, t, cs, h1, h2, h3, h4, h5, T, t1, t2, t3⟩
    · exact .inl h
    · refine .inr ⟨b, o, cap, h1, h2, h3, fun i hi => ?_⟩
      obtain ⟨u, hu, hl⟩ := t3 i hi
      exact ⟨hS b h4, u, (h5.cell? (o + i)).trans hu, ih i hl (fun j hj => hS j (t1 i j hj).1)⟩
  | _ => intro S v h _; exact h
theorem CD.RdN.form {w : World} {B wd n : Nat} {x : Nat → CD} {s : Value} (h : (CD.sl wd n x).RdN w B s) : (s = .slice none 0 0 ∧ n = 0) ∨ ∃ b o cap, s = .slice (some ⟨b, o, none⟩) n cap ∧ n ≤ cap ∧ cap ≤ maxLen := by
  rcases h with h | ⟨b, o, cap, h1, h2, h3, _⟩
  · exact .inl h
  · exact .inr ⟨b, o, cap, h1, h2, h3⟩
theorem CD.RdN.cell {w : World} {B wd n b o cap : Nat} {x : Nat → CD} (h : (CD.sl wd n x).RdN w B (.slice (some ⟨b, o, none⟩) n cap)) {i : Nat} (hi : i < n * wd) : ∃ u, w.cell? ⟨b, o + i, none⟩ = some u ∧ (x i).RdN w B u := by
  rcases h with ⟨h, _⟩ | ⟨b', o', cap', h1, _, _, h4⟩
  · cases h
  · simp only [Value.slice.injEq, Option.some.injEq, Addr.mk.injEq, and_true, true_and] at h1
    obtain ⟨⟨rfl, rfl⟩, rfl⟩ := h1
    obtain ⟨_, u, h5, h6⟩ := h4 i hi
    exact ⟨u, h5, h6⟩
def RdLN (w : World) (B : Nat) (cs : List CD) (vs : List Value) : Prop := vs.length = cs.length ∧ ∀ (i : Nat) (v : Value) (c : CD), vs[i]? = some v → cs[i]? = some c → c.RdN w B v
theorem RdLN.inv {w : World} {B : Nat} {c : CD} {cs : List CD} {vs : List Value} (h : RdLN w B (c :: cs) vs) : ∃ v vs', vs = v :: vs' ∧ c.RdN w B v ∧ RdLN w B cs vs' := by
  obtain ⟨h0, h1⟩ := h
  cases vs with
  | nil => simp at h0
  | cons v vs => exact ⟨v, vs, rfl, h1 0 v c rfl rfl, by simpa using h0, fun i v' c' hv hc => h1 (i + 1) v' c' (by simpa using hv) (by simpa using hc)⟩
theorem RdLN.inv0 {w : World} {B : Nat} {vs : List Value} (h : RdLN w B [] vs) : vs = [] := by
  have := h.1
  cases vs with
  | nil => rfl
  | cons => simp at this
theorem LayL.rdN {w : World} {B : Nat} {S : Nat → Prop} {cs : List CD} {vs : List Value} (h : LayL w S cs vs) (hS : ∀ j, S j → j < B) : RdLN w B cs vs := by
  obtain ⟨h0, T, t1, t2, t3⟩ := h
  exact ⟨h0, fun i v c hv hc => (t3 i v c hv hc).rdN (fun j hj => hS j (t1 i j hj))⟩
theorem RdLN.le {w w' : World} {B : Nat} {cs : List CD} {vs : List Value} (h : RdLN w B cs vs) (hl : Fk.le w w') : RdLN w' B cs vs := ⟨h.1, fun i v c hv hc => (h.2 i v c hv hc).le hl⟩
theorem RdLN.rd {w : World} {B : Nat} {cs : List CD} {vs : List Value} (h : RdLN w B cs vs) : RdL w B cs vs := ⟨h.1, fun i v c hv hc => (h.2 i v c hv hc).rd⟩
theorem Frg.layN {w0 w : World} {L : List Fact} (h : Frg w0 w L) {lo hi : Nat} {cs : List CD} {vs : List Value} (hm : layF lo hi cs vs ∈ L) : RdLN w hi cs vs := (h.lay hm).rdN (fun _ hj => hj.2)
/-- Do all hold? -/
def allB (p : Nat → Bool) (n : Nat) : Bool := (List.range n).all p
theorem allB_no {p : Nat → Bool} {n i : Nat} (hi : i < n) (h : p i = false) : allB p n = false := by
  rw [Bool.eq_false_iff]; intro hh
  have := List.all_eq_true.1 hh i (List.mem_range.2 hi)
  rw [h] at this; cases this
theorem allB_yes {p : Nat → Bool} {n : Nat} (h : ∀ i, i < n → p i = true) : allB p n = true := List.all_eq_true.2 (fun i hi => h i (List.mem_range.1 hi))
theorem allB_all {p : Nat → Bool} {n : Nat} (h : allB p n = true) : ∀ i, i < n → p i = true := fun i hi => List.all_eq_true.1 h i (List.mem_range.2 hi)
theorem allB_ex {p : Nat → Bool} {n : Nat} (h : allB p n = false) : ∃ i, i < n ∧ p i = false := by
  apply Classical.byContradiction
  intro hn
  have : allB p n = true := allB_yes (fun i hi => by
    cases hb : p i
    · exact absurd ⟨i, hi, hb⟩ hn
    · rfl)
  rw [h] at this; cases this
theorem finB_allB (f : Nat → Nat) (n : Nat) : finB f n = allB (fun i => fin (f i)) n := rfl
/-- The ring with an index in a list. -/
def rgN (x : Nat → CD) (k : Nat) : Nat := match x (k * 2) with | .sl _ n _ => n | _ => 0
def rgX (x : Nat → CD) (k : Nat) : Nat → Nat := match x (k * 2) with | .sl _ _ y => fun i => (y i).fx | _ => fun _ => 0
def rgK (x : Nat → CD) (k : Nat) : Int := match x (k * 2 + 1) with | .int _ z => z | _ => 0
def rgOk (x : Nat → CD) (k : Nat) : Bool := okRing (rgN x k) (rgK x k) && finB (rgX x k) (rgN x k)
/-- A list of rings. -/
def RgsOk (x : Nat → CD) (n : Nat) : Prop := ∀ k, k < n → (∃ y, x (k * 2) = .sl 1 (rgN x k) y ∧ (∀ i, i < rgN x k → (y i).flk = some .f32) ∧ rgX x k = fun i => (y i).fx) ∧ x (k * 2 + 1) = .int .i64 (rgK x k)
theorem rgs_ok {x : Nat → CD} {n : Nat} {e : Nat → Sh} (h : ∀ i, i < n → ∀ j, j < 2 → ShOk (e j) (x (i * 2 + j))) (h0 : ∃ f, e 0 = .sl 1 f ∧ f 0 = .flt .f32) (h1 : e 1 = .int .i64) : RgsOk x n := fun k hk => by
  obtain ⟨f, f0, f1⟩ := h0
  have a := h k hk 0 (by omega)
  have b := h k hk 1 (by omega)
  rw [f0] at a
  rw [h1] at b
  obtain ⟨m, y, e1, e2⟩ := a
  obtain ⟨z, e3⟩ := b
  have e1' : x (k * 2) = .sl 1 m y := by simpa using e1
  have n1 : rgN x k = m := by unfold rgN; rw [e1']
  refine ⟨⟨y, by rw [n1]; exact e1', ?_, by unfold rgX; rw [e1']⟩, ?_⟩
  · rw [n1]; exact ShOk.flts e2 f1
  · unfold rgK; rw [e3]
theorem RgsOk.rds {x : Nat → CD} {n k B : Nat} {w : World} {u : Value} (h : RgsOk x n) (hk : k < n) (hr : (x (k * 2)).Rd w B u) : RdS w B u (rgX x k) (rgN x k) := by
  obtain ⟨⟨y, e1, e2, e3⟩, _⟩ := h k hk
  rw [e1] at hr
  rw [e3]
  exact hr.rdf e2
theorem RgsOk.int {x : Nat → CD} {n k B : Nat} {w : World} {u : Value} (h : RgsOk x n) (hk : k < n) (hr : (x (k * 2 + 1)).Rd w B u) : u = .int .i64 (rgK x k) ∧ (Lit.int .i64 (rgK x k)).wf = true := by
  rw [(h k hk).2] at hr
  exact hr
/-- The rings of a list, where it lies. -/
theorem RgsOk.at {x : Nat → CD} {n k B b o cap : Nat} {w : World} (h : RgsOk x n) (hr : (CD.sl 2 n x).RdN w B (.slice (some ⟨b, o, none⟩) n cap)) (hk : k < n) : ∃ u, w.cell? ⟨b, o + k * 2, none⟩ = some u ∧ w.cell? ⟨b, o + k * 2 + 1, none⟩ = some (.int .i64 (rgK x k)) ∧ (Lit.int .i64 (rgK x k)).wf = true ∧ RdS w B u (rgX x k) (rgN x k) := by
  obtain ⟨u, h1, h2⟩ := hr.cell (i := k * 2) (by omega)
  obtain ⟨v, h3, h4⟩ := hr.cell (i := k * 2 + 1) (by omega)
  obtain ⟨rfl, h5⟩ := h.int hk h4.rd
  exact ⟨u, h1, by rw [Nat.add_assoc]; exact h3, h5, h.rds hk h2.rd⟩
end Go.Fk

/- One value, two descriptions: they are the same data. Nothing here names a program. -/
namespace Go.Fk
open Go Go.RowKit
theorem CD.Rd.uniq {w : World} {B B' : Nat} : ∀ {s : Sh} {c d : CD} {v : Value}, c.Rd w B v → d.Rd w B' v → HasSh s c → HasSh s d → c.Eqv d := by
  intro s
  induction s with
  | sl wd e ih =>
    intro c d v hc hd ⟨n, x, e1, h1⟩ ⟨m, y, e2, h2⟩
    subst e1 e2
    have key : n = m ∧ ∀ i, i < n * wd → ∃ u, (x i).Rd w B u ∧ (y i).Rd w B' u := by
      rcases hc with ⟨rfl, rfl⟩ | ⟨a, cap, rfl, _, _, h4⟩ <;> rcases hd with ⟨e, rfl⟩ | ⟨a', cap', e, _, _, h4'⟩
      · exact ⟨rfl, fun i hi => absurd hi (by simp)⟩
      · cases e
      · cases e
      · simp only [Value.slice.injEq, Option.some.injEq] at e
        obtain ⟨rfl, e2, rfl⟩ := e
        have e3 : n = m := by omega
        subst e3
        refine ⟨rfl, fun i hi => ?_⟩
        obtain ⟨_, u, k1, k2⟩ := h4 i hi
        obtain ⟨_, u', k1', k2'⟩ := h4' i hi
        rw [k1] at k1'
        obtain rfl : u = u' := by simpa using k1'
        exact ⟨u, k2, k2'⟩
    obtain ⟨rfl, key⟩ := key
    refine ⟨y, rfl, fun i hi => ?_⟩
    obtain ⟨u, k1, k2⟩ := key i hi
    by_cases hw : wd = 0
    · subst hw; simp at hi
    · have hq : i / wd < n := Nat.div_lt_of_lt_mul (by rwa [Nat.mul_comm] at hi)
      have hr : i % wd < wd := Nat.mod_lt _ (by omega)
      have hi' : i / wd * wd + i % wd = i := by rw [Nat.mul_comm]; exact Nat.div_add_mod i wd
      have a := h1 _ hq _ hr
      have b := h2 _ hq _ hr
      rw [hi'] at a b
      exact ih _ k1 k2 a b
  | int k =>
    intro c d v hc hd ⟨z, e1⟩ ⟨z', e2⟩
    subst e1 e2
    obtain ⟨rfl, _⟩ := hc
    obtain ⟨e, _⟩ := hd
    cases e; rfl
  | flt k =>
    intro c d v hc hd ⟨z, e1⟩ ⟨z', e2⟩
    subst e1 e2
    obtain ⟨rfl, _⟩ := hc
    obtain ⟨e, _⟩ := hd
    cases e; rfl
  | bool =>
    intro c d v hc hd ⟨z, e1⟩ ⟨z', e2⟩
    subst e1 e2
    obtain rfl := hc
    cases hd; rfl
  | str =>
    intro c d v hc hd ⟨z, e1⟩ ⟨z', e2⟩
    subst e1 e2
    obtain ⟨rfl, _⟩ := hc
    obtain ⟨e, _⟩ := hd
    cases e; rfl
theorem CD.Eqv.cn : ∀ {c d : CD}, c.Eqv d → c.cn.Eqv d.cn := by
  intro c
  induction c with
  | sl wd n x ih => intro d h; obtain ⟨y, rfl, hy⟩ := h; exact ⟨_, rfl, fun i hi => ih i (hy i hi)⟩
  | _ => intro d h; cases h; exact CD.Eqv.refl _
theorem CD.Eqv.cp {c d : CD} (h : c.Eqv d) : c.cp.Eqv d.cp := by
  cases c with
  | sl wd n x => obtain ⟨y, rfl, hy⟩ := h; exact ⟨_, rfl, fun i hi => (hy i hi).cn⟩
  | _ => cases h; exact CD.Eqv.refl _
theorem CD.RdN.congr' {w : World} {B : Nat} : ∀ {c d : CD} {v : Value}, c.RdN w B v → c.Eqv d → d.RdN w B v := by
  intro c
  induction c with
  | sl wd n x ih =>
    intro d v h he
    obtain ⟨y, rfl, hy⟩ := he
    rcases h with h | ⟨b, o, cap, h1, h2, h3, h4⟩
    · exact .inl h
    · exact .inr ⟨b, o, cap, h1, h2, h3, fun i hi => by obtain ⟨h5, u, h6, h7⟩ := h4 i hi; exact ⟨h5, u, h6, ih i h7 (hy i hi)⟩⟩
  | _ => intro d v h he; cases he; exact h
/-- What a copy of a struct is, whatever is known of it. -/
def KT (l : List Sh) (w0 : World) (args : Array Value) (w : World) (v : Value) : Prop := ∀ (vs : List Value) (cs : List CD) (B : Nat), args = #[.agg vs.toArray] → RdL w0 B cs vs → HasShL l cs → ∃ us B', v = .agg us.toArray ∧ RdLN w B' (cs.map CD.cp) us
theorem KT.le {l : List Sh} {w0 w w' : World} {args : Array Value} {v : Value} (h : KT l w0 args w v) (hl : Fk.le w w') : KT l w0 args w' v := fun vs cs B e hr hs => by
  obtain ⟨us, B', e1, e2⟩ := h vs cs B e hr hs
  exact ⟨us, B', e1, e2.le hl⟩
theorem KT.mk {l : List Sh} {w0 w : World} {vs us : List Value} {cs : List CD} {B B' : Nat} (hr : RdL w0 B cs vs) (hs : HasShL l cs) (hu : RdLN w B' (cs.map CD.cp) us) : KT l w0 #[.agg vs.toArray] w (.agg us.toArray) := fun vs' cs' B2 e hr' hs' => by
  have e1 : vs = vs' := by simpa using e
  subst e1
  refine ⟨us, B', rfl, by rw [hu.1]; simp [hs.1, hs'.1], fun i v c hv hc => ?_⟩
  simp only [List.getElem?_map, Option.map_eq_some_iff] at hc
  obtain ⟨c', hc', rfl⟩ := hc
  have hi' : i < cs'.length := (List.getElem?_eq_some_iff.1 hc').1
  have hi : i < cs.length := by rw [hs.1, ← hs'.1]; exact hi'
  have hl : i < l.length := by rw [← hs.1]; exact hi
  have hvl : i < vs.length := by rw [hr.1]; exact hi
  have a := (hr.2 i _ _ (List.getElem?_eq_getElem hvl) (List.getElem?_eq_getElem hi)).uniq (hr'.2 i _ _ (List.getElem?_eq_getElem hvl) hc') (hs.2 i _ _ (List.getElem?_eq_getElem hl) (List.getElem?_eq_getElem hi)) (hs'.2 i _ _ (List.getElem?_eq_getElem hl) hc')
  exact (hu.2 i v _ hv (by simp [List.getElem?_map, List.getElem?_eq_getElem hi])).congr' a.cp
end Go.Fk

/- The laws' helpers for Tuning, over trees of data. -/
namespace Go.Proofs.Ytnkjmgadnejdlac
open Go.RowKit Go.Fk
set_option maxRecDepth 100000 in
set_option maxHeartbeats 4000000 in
theorem szU_Tuning (B : Nat) (cs : List CD) (vs : List Value) (m r : Int) (w : World) (h : RdL w B cs vs) (hsh : ShOkL shTuning cs) (h0 : 0 ≤ m) (h1 : m ≤ 1048576) (hr : lessBy m (szL cs) = r) :
    Calls Try.prog 55 #[.agg vs.toArray, .int .i64 m] w (OutI r w) := by
  obtain ⟨c0, cs, rfl, q0, hsh⟩ := hsh.inv
  obtain ⟨c1, cs, rfl, q1, hsh⟩ := hsh.inv
  obtain ⟨c2, cs, rfl, q2, hsh⟩ := hsh.inv
  obtain rfl := hsh.inv0
  obtain ⟨v0, vs, rfl, r0, h⟩ := h.inv
  obtain ⟨v1, vs, rfl, r1, h⟩ := h.inv
  obtain ⟨v2, vs, rfl, r2, h⟩ := h.inv
  obtain rfl := h.inv0
  have q0 : c0.flk = some .f32 := q0
  obtain ⟨y0, rfl, f0, e0⟩ := r0.fl q0
  have q1 : c1.flk = some .f32 := q1
  obtain ⟨y1, rfl, f1, e1⟩ := r1.fl q1
  obtain ⟨n2, x2, rfl, q2⟩ := q2
  obtain ⟨a0, ha0⟩ : ∃ a : Nat, a = CD.sz (.sl 1 n2 x2) := ⟨_, rfl⟩
  have H0 := hid (fun (m r : Int) (w' : World) (hl : le w w') (h0 : 0 ≤ m) (h1 : m ≤ 1048576) (hr : lessBy m a0 = r) => szU_Float32S B _ _ v2 m r w' (r2.le hl) q2 h0 h1 (ha0 ▸ hr))
  replace hr : Hid (lessBy m (a0) = r) := by rw [← hr]; congr 1; try (first | (simp only [szL, List.map_cons, List.map_nil, List.sum_cons, List.sum_nil, CD.sz, ha0, CD.sz_fl q0, CD.sz_fl q1]; done) | (simp only [szL, List.map_cons, List.map_nil, List.sum_cons, List.sum_nil, CD.sz, ha0, CD.sz_fl q0, CD.sz_fl q1]; omega))
  clear ha0
  have F := (Frg.nil w).box 59 #[.float .f32 y0, .float .f32 y1, v2]
  by_cases g0 : m - (a0 : Int) < 0
  · have er : r = -1 := by have := hr.out; rw [lessBy_neg (by omega)] at this; omega
    subst er
    clear hr
    go_enter Try.func55, Try.ntmps55
    go_wp2_with (first | ((with_reducible refine at_load rfl ?_); first | (with_reducible refine wpList_load1 F rfl rfl rfl (by first | exact m0) (f := 0) (v := .float .f32 y0) rfl ukindFloat32 ?_) | (with_reducible refine wpList_load1 F rfl rfl rfl (by first | exact m0) (f := 1) (v := .float .f32 y1) rfl ukindFloat32 ?_) | (with_reducible refine wpList_load1 F rfl rfl rfl (by first | exact m0) (f := 2) (v := v2) rfl ukindFloat32S ?_)) | (go_at_call 74; ((with_reducible refine (H0.out m (-1 : Int) _ F.below (by omega) (by omega) (by exact lessBy_neg (by omega))).mono ?_); rintro e w1 ⟨rfl, hl⟩; replace F := F.le hl; clear hl)))
    go_ret
    exact ⟨rfl, F.below⟩
  · skip
    have er : r = (m - (a0 : Int)) := by have := hr.out; rw [lessBy_pos (by omega)] at this; omega
    subst er
    clear hr
    go_enter Try.func55, Try.ntmps55
    go_wp2_with (first | ((with_reducible refine at_load rfl ?_); first | (with_reducible refine wpList_load1 F rfl rfl rfl (by first | exact m0) (f := 0) (v := .float .f32 y0) rfl ukindFloat32 ?_) | (with_reducible refine wpList_load1 F rfl rfl rfl (by first | exact m0) (f := 1) (v := .float .f32 y1) rfl ukindFloat32 ?_) | (with_reducible refine wpList_load1 F rfl rfl rfl (by first | exact m0) (f := 2) (v := v2) rfl ukindFloat32S ?_)) | (go_at_call 74; ((with_reducible refine (H0.out m (m - (a0 : Int)) _ F.below (by omega) (by omega) (by exact lessBy_pos (by omega))).mono ?_); rintro e w1 ⟨rfl, hl⟩; replace F := F.le hl; clear hl)))
    go_ret
    exact ⟨rfl, F.below⟩
set_option maxRecDepth 100000 in
set_option maxHeartbeats 4000000 in
theorem eqU_Tuning (B B' : Nat) (cs : List CD) (vs vs' : List Value) (w : World) (h : RdL w B cs vs) (h' : RdL w B' cs vs') (hsh : ShOkL shTuning cs) (hz : szL cs ≤ 1048576) :
    Calls Try.prog 67 #[.agg vs.toArray, .agg vs'.toArray] w (OutT w) := by
  obtain ⟨c0, cs, rfl, q0, hsh⟩ := hsh.inv
  obtain ⟨c1, cs, rfl, q1, hsh⟩ := hsh.inv
  obtain ⟨c2, cs, rfl, q2, hsh⟩ := hsh.inv
  obtain rfl := hsh.inv0
  obtain ⟨v0, vs, rfl, r0, h⟩ := h.inv
  obtain ⟨v1, vs, rfl, r1, h⟩ := h.inv
  obtain ⟨v2, vs, rfl, r2, h⟩ := h.inv
  obtain rfl := h.inv0
  obtain ⟨v0', vs', rfl, r0', h'⟩ := h'.inv
  obtain ⟨v1', vs', rfl, r1', h'⟩ := h'.inv
  obtain ⟨v2', vs', rfl, r2', h'⟩ := h'.inv
  obtain rfl := h'.inv0
  have q0 : c0.flk = some .f32 := q0
  obtain ⟨y0, rfl, f0, e0⟩ := r0.fl q0
  obtain ⟨y0', rfl, f0', e0'⟩ := r0'.fl q0
  have q1 : c1.flk = some .f32 := q1
  obtain ⟨y1, rfl, f1, e1⟩ := r1.fl q1
  obtain ⟨y1', rfl, f1', e1'⟩ := r1'.fl q1
  simp only [szL, List.map_cons, List.map_nil, List.sum_cons, List.sum_nil] at hz
  have E0 := hid (e0.trans e0'.symm)
  have E1 := hid (e1.trans e1'.symm)
  obtain ⟨n2, x2, rfl, q2⟩ := q2
  have H2 := hid (fun (w' : World) (hl : le w w') => eqU_Float32S B B' _ _ v2 v2' w' (r2.le hl) (r2'.le hl) q2 (by omega))
  have F := ((Frg.nil w).box 66 #[.float .f32 y0, .float .f32 y1, v2]).box 66 #[.float .f32 y0', .float .f32 y1', v2']
  simp only [World.size_alloc] at F
  clear hz
  go_enter Try.func67, Try.ntmps67
  go_wp2_with (first | ((with_reducible refine listN F ?_); clear F; intro wN F) | ((with_reducible refine at_load rfl ?_); first | (with_reducible refine wpList_load1 F rfl rfl rfl (by first | exact m0 | exact m1) (f := 0) (v := .float .f32 y0) rfl ukindFloat32 ?_) | (with_reducible refine wpList_load1 F rfl rfl rfl (by first | exact m0 | exact m1) (f := 1) (v := .float .f32 y1) rfl ukindFloat32 ?_) | (with_reducible refine wpList_load1 F rfl rfl rfl (by first | exact m0 | exact m1) (f := 2) (v := v2) rfl ukindFloat32S ?_) | (with_reducible refine wpList_load1 F rfl rfl rfl (by first | exact m0 | exact m1) (f := 0) (v := .float .f32 y0') rfl ukindFloat32 ?_) | (with_reducible refine wpList_load1 F rfl rfl rfl (by first | exact m0 | exact m1) (f := 1) (v := .float .f32 y1') rfl ukindFloat32 ?_) | (with_reducible refine wpList_load1 F rfl rfl rfl (by first | exact m0 | exact m1) (f := 2) (v := v2') rfl ukindFloat32S ?_)) | (go_at_call 90; ((with_reducible refine (H2.out _ F.below).mono ?_); rintro e w1 ⟨rfl, hl⟩; replace F := F.le hl; clear hl)) | ((with_reducible refine at_convert rfl ?_); (with_reducible refine wpList_widen rfl rfl rfl Try.underlying25 Try.underlying94 ?_; intro s1 n1 h1 f1)) | (go_at_call 46; ((with_reducible refine (sameFloat_yes _ _ _ (by first | exact (Hid.out ‹Hid (can .f64 _ = can .f64 (widen y0))›).trans ((congrArg (can .f64) (widen_congr E0.out)).trans (Hid.out ‹Hid (can .f64 _ = can .f64 (widen y0'))›).symm) | exact (Hid.out ‹Hid (can .f64 _ = can .f64 (widen y1))›).trans ((congrArg (can .f64) (widen_congr E1.out)).trans (Hid.out ‹Hid (can .f64 _ = can .f64 (widen y1'))›).symm))).mono ?_); rintro e w7 ⟨rfl, dq7, rfl⟩; skip)))
  go_ret
  first | exact ⟨rfl, F.below⟩ | exact ⟨rfl, below_drewN F.below _⟩
theorem invf_Tuning {w : World} {S : Nat → Prop} {us : List Value} (c0 : CD) (c1 : CD) (n2 : Nat) (x2 : Nat → CD) (q0 : c0.flk = some .f32) (q1 : c1.flk = some .f32) (h : LayL w S (([(c0), (c1), (.sl 1 n2 x2)] : List CD).map CD.cp) us) : ∃ (g0 : Nat) (g1 : Nat) (u2 : Value), u2.oneCell' = true ∧ us = [.float .f32 g0, .float .f32 g1, u2] ∧ LayL w S (([(c0), (c1), (.sl 1 n2 x2)] : List CD).map CD.cp) [.float .f32 g0, .float .f32 g1, u2] := by
  have h0 := h
  simp only [List.map_cons, List.map_nil] at h
  obtain ⟨u0, us0, _, _, rfl, l0, hh0, _, _, _⟩ := h.inv
  obtain ⟨g0, rfl⟩ := lay_fl q0 l0
  obtain ⟨u1, us1, _, _, rfl, l1, hh1, _, _, _⟩ := hh0.inv
  obtain ⟨g1, rfl⟩ := lay_fl q1 l1
  obtain ⟨u2, us2, _, _, rfl, l2, hh2, _, _, _⟩ := hh1.inv
  obtain rfl := hh2.inv0
  exact ⟨g0, g1, u2, l2.one, rfl, h0⟩
set_option maxRecDepth 100000 in
set_option maxHeartbeats 4000000 in
theorem toU_Tuning (B : Nat) (cs : List CD) (vs : List Value) (w : World) (h : RdL w B cs vs) (hsh : ShOkL shTuning cs) (hz : szL cs ≤ 1048576) :
    Calls Try.prog 61 #[.agg vs.toArray] w (OutA' (cs.map CD.cp) w) := by
  obtain ⟨c0, cs, rfl, q0, hsh⟩ := hsh.inv
  obtain ⟨c1, cs, rfl, q1, hsh⟩ := hsh.inv
  obtain ⟨c2, cs, rfl, q2, hsh⟩ := hsh.inv
  obtain rfl := hsh.inv0
  obtain ⟨v0, vs, rfl, r0, h⟩ := h.inv
  obtain ⟨v1, vs, rfl, r1, h⟩ := h.inv
  obtain ⟨v2, vs, rfl, r2, h⟩ := h.inv
  obtain rfl := h.inv0
  have q0 : c0.flk = some .f32 := q0
  obtain ⟨y0, rfl, f0, e0⟩ := r0.fl q0
  have q1 : c1.flk = some .f32 := q1
  obtain ⟨y1, rfl, f1, e1⟩ := r1.fl q1
  simp only [szL, List.map_cons, List.map_nil, List.sum_cons, List.sum_nil] at hz
  obtain ⟨n2, x2, rfl, q2⟩ := q2
  have H2 := hid (fun (w' : World) (hl : le w w') => toU_Float32S B _ _ v2 w' (r2.le hl) q2 (by omega))
  have F := (((Frg.nil w).box 59 #[.float .f32 y0, .float .f32 y1, v2]).box 66 #[.float .f32 0, .float .f32 0, .slice none 0 0]).box 66 #[.float .f32 0, .float .f32 0, .slice none 0 0]
  simp only [World.size_alloc] at F
  clear hz
  go_enter Try.func61, Try.ntmps61
  go_wp2_with (first | ((with_reducible refine listN F ?_); clear F; intro wN F) | ((with_reducible refine at_load rfl ?_); first | (with_reducible refine wpList_load1 F rfl rfl rfl (by first | exact m0 | exact m1 | exact m2 | exact m3) (f := 0) (v := .float .f32 y0) rfl ukindFloat32 ?_) | (with_reducible refine wpList_load1 F rfl rfl rfl (by first | exact m0 | exact m1 | exact m2 | exact m3) (f := 1) (v := .float .f32 y1) rfl ukindFloat32 ?_) | (with_reducible refine wpList_load1 F rfl rfl rfl (by first | exact m0 | exact m1 | exact m2 | exact m3) (f := 2) (v := v2) rfl ukindFloat32S ?_)) | (with_reducible refine stop_store rfl ?_))
  show wpList _ _ _ _ _ _
  refine wpList_store1 rfl rfl (f := 0) rfl rfl (F.row m0) uinfo1Float32 (by simp) rfl #[.float .f32 y0, .float .f32 0, .slice none 0 0] rfl (fun w2 K => ?_)
  replace F := F.wrI0 (cs' := #[.float .f32 y0, .float .f32 0, .slice none 0 0]) K
  clear K
  go_wp2_with (first | ((with_reducible refine listN F ?_); clear F; intro wN F) | ((with_reducible refine at_load rfl ?_); first | (with_reducible refine wpList_load1 F rfl rfl rfl (by first | exact m0 | exact m1 | exact m2 | exact m3) (f := 0) (v := .float .f32 y0) rfl ukindFloat32 ?_) | (with_reducible refine wpList_load1 F rfl rfl rfl (by first | exact m0 | exact m1 | exact m2 | exact m3) (f := 1) (v := .float .f32 y1) rfl ukindFloat32 ?_) | (with_reducible refine wpList_load1 F rfl rfl rfl (by first | exact m0 | exact m1 | exact m2 | exact m3) (f := 2) (v := v2) rfl ukindFloat32S ?_)) | (with_reducible refine stop_store rfl ?_))
  show wpList _ _ _ _ _ _
  refine wpList_store1 rfl rfl (f := 1) rfl rfl (F.row m0) uinfo1Float32 (by simp) rfl #[.float .f32 y0, .float .f32 y1, .slice none 0 0] rfl (fun w2 K => ?_)
  replace F := F.wrI0 (cs' := #[.float .f32 y0, .float .f32 y1, .slice none 0 0]) K
  clear K
  go_wp2_with (first | ((with_reducible refine listN F ?_); clear F; intro wN F) | ((with_reducible refine at_load rfl ?_); first | (with_reducible refine wpList_load1 F rfl rfl rfl (by first | exact m0 | exact m1 | exact m2 | exact m3) (f := 0) (v := .float .f32 y0) rfl ukindFloat32 ?_) | (with_reducible refine wpList_load1 F rfl rfl rfl (by first | exact m0 | exact m1 | exact m2 | exact m3) (f := 1) (v := .float .f32 y1) rfl ukindFloat32 ?_) | (with_reducible refine wpList_load1 F rfl rfl rfl (by first | exact m0 | exact m1 | exact m2 | exact m3) (f := 2) (v := v2) rfl ukindFloat32S ?_)) | (go_at_call 83; ((with_reducible refine (H2.out _ F.below).mono ?_); rintro e w1 ⟨u2, rfl, ho, hl⟩; have O2 := hid ho.one; replace F := F.lay1 hl (LayL.cons ho (LayL.nil _ (fun _ => False)) (fun _ h => h) (fun _ h => h.elim) (fun _ _ h => h)); clear ho hl)) | (with_reducible refine stop_store rfl ?_))
  show wpList _ _ _ _ _ _
  refine wpList_store1 rfl rfl (f := 2) rfl rfl (F.row m1) uinfo1Float32S (by simp) O2.out #[.float .f32 y0, .float .f32 y1, u2] rfl (fun w2 K => ?_)
  replace F := F.wrI1 (cs' := #[.float .f32 y0, .float .f32 y1, u2]) K
  clear K
  go_wp2_with (first | ((with_reducible refine listN F ?_); clear F; intro wN F) | ((with_reducible refine at_load rfl ?_); (with_reducible refine wpList_loadG F rfl rfl rfl (by first | exact m0 | exact m1) Try.underlying66 rfl uinfoTuningI rfl ?_)) | (with_reducible refine stop_store rfl ?_))
  show wpList _ _ _ _ _ _
  refine wpList_storeD rfl rfl rfl (cells := #[.float .f32 y0, .float .f32 y1, u2]) rfl (F.row m2) uinfoTuningI rfl (by (simp only [List.all_toArray', List.all_cons, List.all_nil, Bool.and_true, Bool.true_and, O2.out]) <;> rfl) (fun w6 K => ?_)
  have R := hid K.row
  replace F := F.wrI2 K
  have E0 := Eaten.start F
  replace E0 := Eaten.eat F E0
  replace F := F.tl
  replace E0 := Eaten.leaf (c := CD.cp c1) (v := .float .f32 y1) E0 (r1.leafLay (flk_ne q1))
  replace E0 := Eaten.leaf (c := CD.cp c0) (v := .float .f32 y0) E0 (r0.leafLay (flk_ne q0))
  have L := hid (show LayL _ _ _ _ ∧ le w _ from ⟨E0.fin, F.below⟩)
  clear K F E0
  go_wp2
  exact bodyPost_ret (results_row1 rfl _ _ _ _ _ rfl R.out Try.underlying66 rfl uinfoTuningI) rfl ⟨[.float .f32 y0, .float .f32 y1, u2], rfl, L.out.1, L.out.2⟩
end Go.Proofs.Ytnkjmgadnejdlac

/- The laws' helpers for Instrument, over trees of data. -/
namespace Go.Proofs.Ytnkjmgadnejdlac
open Go.RowKit Go.Fk
set_option maxRecDepth 100000 in
set_option maxHeartbeats 4000000 in
theorem szU_Instrument (B : Nat) (cs : List CD) (vs : List Value) (m r : Int) (w : World) (h : RdL w B cs vs) (hsh : ShOkL shInstrument cs) (h0 : 0 ≤ m) (h1 : m ≤ 1048576) (hr : lessBy m (szL cs) = r) :
    Calls Try.prog 97 #[.agg vs.toArray, .int .i64 m] w (OutI r w) := by
  obtain ⟨c0, cs, rfl, q0, hsh⟩ := hsh.inv
  obtain ⟨c1, cs, rfl, q1, hsh⟩ := hsh.inv
  obtain ⟨c2, cs, rfl, q2, hsh⟩ := hsh.inv
  obtain ⟨c3, cs, rfl, q3, hsh⟩ := hsh.inv
  obtain ⟨c4, cs, rfl, q4, hsh⟩ := hsh.inv
  obtain rfl := hsh.inv0
  obtain ⟨v0, vs, rfl, r0, h⟩ := h.inv
  obtain ⟨v1, vs, rfl, r1, h⟩ := h.inv
  obtain ⟨v2, vs, rfl, r2, h⟩ := h.inv
  obtain ⟨v3, vs, rfl, r3, h⟩ := h.inv
  obtain ⟨v4, vs, rfl, r4, h⟩ := h.inv
  obtain rfl := h.inv0
  obtain ⟨t0, rfl⟩ := q0
  obtain ⟨rfl, wf0⟩ := r0
  obtain ⟨z1, rfl⟩ := q1
  obtain ⟨rfl, wf1⟩ := r1
  have q2 : c2.flk = some .f32 := q2
  obtain ⟨y2, rfl, f2, e2⟩ := r2.fl q2
  have q3 : c3.flk = some .f32 := q3
  obtain ⟨y3, rfl, f3, e3⟩ := r3.fl q3
  have q4 : c4.flk = some .f32 := q4
  obtain ⟨y4, rfl, f4, e4⟩ := r4.fl q4
  simp only [szL, List.map_cons, List.map_nil, List.sum_cons, List.sum_nil, CD.sz, CD.sz_fl q2, CD.sz_fl q3, CD.sz_fl q4] at hr
  have hsm := wf0
  unfold maxLen at hsm
  simp only [Nat.add_zero, Nat.zero_add] at hr
  have F := (Frg.nil w).box 159 #[.string t0, .int .i64 z1, .float .f32 y2, .float .f32 y3, .float .f32 y4]
  by_cases g : m - (t0.size : Int) < 0
  · have er : r = -1 := by rw [← hr]; exact lessBy_neg g
    subst er
    clear hr
    go_enter Try.func97, Try.ntmps97
    go_wp2_with (first | ((with_reducible refine listN F ?_); clear F; intro wN F) | ((with_reducible refine at_load rfl ?_); first | (with_reducible refine wpList_load1 F rfl rfl rfl (by first | exact m0) (f := 0) (v := .string t0) rfl ukindString ?_) | (with_reducible refine wpList_load1 F rfl rfl rfl (by first | exact m0) (f := 1) (v := .int .i64 z1) rfl ukindInt64 ?_) | (with_reducible refine wpList_load1 F rfl rfl rfl (by first | exact m0) (f := 2) (v := .float .f32 y2) rfl ukindFloat32 ?_) | (with_reducible refine wpList_load1 F rfl rfl rfl (by first | exact m0) (f := 3) (v := .float .f32 y3) rfl ukindFloat32 ?_) | (with_reducible refine wpList_load1 F rfl rfl rfl (by first | exact m0) (f := 4) (v := .float .f32 y4) rfl ukindFloat32 ?_)))
    go_ret
    exact ⟨rfl, F.below⟩
  · have er : r = m - (t0.size : Int) := by rw [← hr]; exact lessBy_pos g
    subst er
    clear hr
    go_enter Try.func97, Try.ntmps97
    go_wp2_with (first | ((with_reducible refine listN F ?_); clear F; intro wN F) | ((with_reducible refine at_load rfl ?_); first | (with_reducible refine wpList_load1 F rfl rfl rfl (by first | exact m0) (f := 0) (v := .string t0) rfl ukindString ?_) | (with_reducible refine wpList_load1 F rfl rfl rfl (by first | exact m0) (f := 1) (v := .int .i64 z1) rfl ukindInt64 ?_) | (with_reducible refine wpList_load1 F rfl rfl rfl (by first | exact m0) (f := 2) (v := .float .f32 y2) rfl ukindFloat32 ?_) | (with_reducible refine wpList_load1 F rfl rfl rfl (by first | exact m0) (f := 3) (v := .float .f32 y3) rfl ukindFloat32 ?_) | (with_reducible refine wpList_load1 F rfl rfl rfl (by first | exact m0) (f := 4) (v := .float .f32 y4) rfl ukindFloat32 ?_)))
    go_ret
    exact ⟨rfl, F.below⟩
set_option maxRecDepth 100000 in
set_option maxHeartbeats 4000000 in
theorem eqU_Instrument (B B' : Nat) (cs : List CD) (vs vs' : List Value) (w : World) (h : RdL w B cs vs) (h' : RdL w B' cs vs') (hsh : ShOkL shInstrument cs) (hz : szL cs ≤ 1048576) :
    Calls Try.prog 107 #[.agg vs.toArray, .agg vs'.toArray] w (OutT w) := by
  obtain ⟨c0, cs, rfl, q0, hsh⟩ := hsh.inv
  obtain ⟨c1, cs, rfl, q1, hsh⟩ := hsh.inv
  obtain ⟨c2, cs, rfl, q2, hsh⟩ := hsh.inv
  obtain ⟨c3, cs, rfl, q3, hsh⟩ := hsh.inv
  obtain ⟨c4, cs, rfl, q4, hsh⟩ := hsh.inv
  obtain rfl := hsh.inv0
  obtain ⟨v0, vs, rfl, r0, h⟩ := h.inv
  obtain ⟨v1, vs, rfl, r1, h⟩ := h.inv
  obtain ⟨v2, vs, rfl, r2, h⟩ := h.inv
  obtain ⟨v3, vs, rfl, r3, h⟩ := h.inv
  obtain ⟨v4, vs, rfl, r4, h⟩ := h.inv
  obtain rfl := h.inv0
  obtain ⟨v0', vs', rfl, r0', h'⟩ := h'.inv
  obtain ⟨v1', vs', rfl, r1', h'⟩ := h'.inv
  obtain ⟨v2', vs', rfl, r2', h'⟩ := h'.inv
  obtain ⟨v3', vs', rfl, r3', h'⟩ := h'.inv
  obtain ⟨v4', vs', rfl, r4', h'⟩ := h'.inv
  obtain rfl := h'.inv0
  obtain ⟨t0, rfl⟩ := q0
  obtain ⟨rfl, wf0⟩ := r0
  obtain ⟨rfl, wf0'⟩ := r0'
  obtain ⟨z1, rfl⟩ := q1
  obtain ⟨rfl, wf1⟩ := r1
  obtain ⟨rfl, wf1'⟩ := r1'
  have q2 : c2.flk = some .f32 := q2
  obtain ⟨y2, rfl, f2, e2⟩ := r2.fl q2
  obtain ⟨y2', rfl, f2', e2'⟩ := r2'.fl q2
  have q3 : c3.flk = some .f32 := q3
  obtain ⟨y3, rfl, f3, e3⟩ := r3.fl q3
  obtain ⟨y3', rfl, f3', e3'⟩ := r3'.fl q3
  have q4 : c4.flk = some .f32 := q4
  obtain ⟨y4, rfl, f4, e4⟩ := r4.fl q4
  obtain ⟨y4', rfl, f4', e4'⟩ := r4'.fl q4
  simp only [szL, List.map_cons, List.map_nil, List.sum_cons, List.sum_nil] at hz
  have E2 := hid (e2.trans e2'.symm)
  have E3 := hid (e3.trans e3'.symm)
  have E4 := hid (e4.trans e4'.symm)
  have F := ((Frg.nil w).box 163 #[.string t0, .int .i64 z1, .float .f32 y2, .float .f32 y3, .float .f32 y4]).box 163 #[.string t0, .int .i64 z1, .float .f32 y2', .float .f32 y3', .float .f32 y4']
  simp only [World.size_alloc] at F
  clear hz
  go_enter Try.func107, Try.ntmps107
  go_wp2_with (first | ((with_reducible refine listN F ?_); clear F; intro wN F) | ((with_reducible refine at_load rfl ?_); first | (with_reducible refine wpList_load1 F rfl rfl rfl (by first | exact m0 | exact m1) (f := 0) (v := .string t0) rfl ukindString ?_) | (with_reducible refine wpList_load1 F rfl rfl rfl (by first | exact m0 | exact m1) (f := 1) (v := .int .i64 z1) rfl ukindInt64 ?_) | (with_reducible refine wpList_load1 F rfl rfl rfl (by first | exact m0 | exact m1) (f := 2) (v := .float .f32 y2) rfl ukindFloat32 ?_) | (with_reducible refine wpList_load1 F rfl rfl rfl (by first | exact m0 | exact m1) (f := 3) (v := .float .f32 y3) rfl ukindFloat32 ?_) | (with_reducible refine wpList_load1 F rfl rfl rfl (by first | exact m0 | exact m1) (f := 4) (v := .float .f32 y4) rfl ukindFloat32 ?_) | (with_reducible refine wpList_load1 F rfl rfl rfl (by first | exact m0 | exact m1) (f := 0) (v := .string t0) rfl ukindString ?_) | (with_reducible refine wpList_load1 F rfl rfl rfl (by first | exact m0 | exact m1) (f := 1) (v := .int .i64 z1) rfl ukindInt64 ?_) | (with_reducible refine wpList_load1 F rfl rfl rfl (by first | exact m0 | exact m1) (f := 2) (v := .float .f32 y2') rfl ukindFloat32 ?_) | (with_reducible refine wpList_load1 F rfl rfl rfl (by first | exact m0 | exact m1) (f := 3) (v := .float .f32 y3') rfl ukindFloat32 ?_) | (with_reducible refine wpList_load1 F rfl rfl rfl (by first | exact m0 | exact m1) (f := 4) (v := .float .f32 y4') rfl ukindFloat32 ?_)) | ((with_reducible refine at_convert rfl ?_); (with_reducible refine wpList_widen rfl rfl rfl Try.underlying25 Try.underlying94 ?_; intro s1 n1 h1 f1)) | (go_at_call 46; ((with_reducible refine (sameFloat_yes _ _ _ (by first | exact (Hid.out ‹Hid (can .f64 _ = can .f64 (widen y2))›).trans ((congrArg (can .f64) (widen_congr E2.out)).trans (Hid.out ‹Hid (can .f64 _ = can .f64 (widen y2'))›).symm) | exact (Hid.out ‹Hid (can .f64 _ = can .f64 (widen y3))›).trans ((congrArg (can .f64) (widen_congr E3.out)).trans (Hid.out ‹Hid (can .f64 _ = can .f64 (widen y3'))›).symm) | exact (Hid.out ‹Hid (can .f64 _ = can .f64 (widen y4))›).trans ((congrArg (can .f64) (widen_congr E4.out)).trans (Hid.out ‹Hid (can .f64 _ = can .f64 (widen y4'))›).symm))).mono ?_); rintro e w7 ⟨rfl, dq7, rfl⟩; skip)))
  go_ret
  first | exact ⟨rfl, F.below⟩ | exact ⟨rfl, below_drewN F.below _⟩
set_option maxRecDepth 100000 in
set_option maxHeartbeats 4000000 in
theorem toU_Instrument (B : Nat) (cs : List CD) (vs : List Value) (w : World) (h : RdL w B cs vs) (hsh : ShOkL shInstrument cs) (hz : szL cs ≤ 1048576) :
    Calls Try.prog 101 #[.agg vs.toArray] w (OutA' (cs.map CD.cp) w) := by
  obtain ⟨c0, cs, rfl, q0, hsh⟩ := hsh.inv
  obtain ⟨c1, cs, rfl, q1, hsh⟩ := hsh.inv
  obtain ⟨c2, cs, rfl, q2, hsh⟩ := hsh.inv
  obtain ⟨c3, cs, rfl, q3, hsh⟩ := hsh.inv
  obtain ⟨c4, cs, rfl, q4, hsh⟩ := hsh.inv
  obtain rfl := hsh.inv0
  obtain ⟨v0, vs, rfl, r0, h⟩ := h.inv
  obtain ⟨v1, vs, rfl, r1, h⟩ := h.inv
  obtain ⟨v2, vs, rfl, r2, h⟩ := h.inv
  obtain ⟨v3, vs, rfl, r3, h⟩ := h.inv
  obtain ⟨v4, vs, rfl, r4, h⟩ := h.inv
  obtain rfl := h.inv0
  obtain ⟨t0, rfl⟩ := q0
  obtain ⟨rfl, wf0⟩ := r0
  obtain ⟨z1, rfl⟩ := q1
  obtain ⟨rfl, wf1⟩ := r1
  have q2 : c2.flk = some .f32 := q2
  obtain ⟨y2, rfl, f2, e2⟩ := r2.fl q2
  have q3 : c3.flk = some .f32 := q3
  obtain ⟨y3, rfl, f3, e3⟩ := r3.fl q3
  have q4 : c4.flk = some .f32 := q4
  obtain ⟨y4, rfl, f4, e4⟩ := r4.fl q4
  simp only [szL, List.map_cons, List.map_nil, List.sum_cons, List.sum_nil] at hz
  have F := (((Frg.nil w).box 159 #[.string t0, .int .i64 z1, .float .f32 y2, .float .f32 y3, .float .f32 y4]).box 163 #[.string ByteArray.empty, .int .i64 0, .float .f32 0, .float .f32 0, .float .f32 0]).box 163 #[.string ByteArray.empty, .int .i64 0, .float .f32 0, .float .f32 0, .float .f32 0]
  simp only [World.size_alloc] at F
  clear hz
  go_enter Try.func101, Try.ntmps101
  go_wp2_with (first | ((with_reducible refine listN F ?_); clear F; intro wN F) | ((with_reducible refine at_load rfl ?_); first | (with_reducible refine wpList_load1 F rfl rfl rfl (by first | exact m0 | exact m1 | exact m2 | exact m3) (f := 0) (v := .string t0) rfl ukindString ?_) | (with_reducible refine wpList_load1 F rfl rfl rfl (by first | exact m0 | exact m1 | exact m2 | exact m3) (f := 1) (v := .int .i64 z1) rfl ukindInt64 ?_) | (with_reducible refine wpList_load1 F rfl rfl rfl (by first | exact m0 | exact m1 | exact m2 | exact m3) (f := 2) (v := .float .f32 y2) rfl ukindFloat32 ?_) | (with_reducible refine wpList_load1 F rfl rfl rfl (by first | exact m0 | exact m1 | exact m2 | exact m3) (f := 3) (v := .float .f32 y3) rfl ukindFloat32 ?_) | (with_reducible refine wpList_load1 F rfl rfl rfl (by first | exact m0 | exact m1 | exact m2 | exact m3) (f := 4) (v := .float .f32 y4) rfl ukindFloat32 ?_)) | (with_reducible refine stop_store rfl ?_))
  show wpList _ _ _ _ _ _
  refine wpList_store1 rfl rfl (f := 0) rfl rfl (F.row m0) uinfo1String (by simp) rfl #[.string t0, .int .i64 0, .float .f32 0, .float .f32 0, .float .f32 0] rfl (fun w2 K => ?_)
  replace F := F.wrI0 (cs' := #[.string t0, .int .i64 0, .float .f32 0, .float .f32 0, .float .f32 0]) K
  clear K
  go_wp2_with (first | ((with_reducible refine listN F ?_); clear F; intro wN F) | ((with_reducible refine at_load rfl ?_); first | (with_reducible refine wpList_load1 F rfl rfl rfl (by first | exact m0 | exact m1 | exact m2 | exact m3) (f := 0) (v := .string t0) rfl ukindString ?_) | (with_reducible refine wpList_load1 F rfl rfl rfl (by first | exact m0 | exact m1 | exact m2 | exact m3) (f := 1) (v := .int .i64 z1) rfl ukindInt64 ?_) | (with_reducible refine wpList_load1 F rfl rfl rfl (by first | exact m0 | exact m1 | exact m2 | exact m3) (f := 2) (v := .float .f32 y2) rfl ukindFloat32 ?_) | (with_reducible refine wpList_load1 F rfl rfl rfl (by first | exact m0 | exact m1 | exact m2 | exact m3) (f := 3) (v := .float .f32 y3) rfl ukindFloat32 ?_) | (with_reducible refine wpList_load1 F rfl rfl rfl (by first | exact m0 | exact m1 | exact m2 | exact m3) (f := 4) (v := .float .f32 y4) rfl ukindFloat32 ?_)) | (with_reducible refine stop_store rfl ?_))
  show wpList _ _ _ _ _ _
  refine wpList_store1 rfl rfl (f := 1) rfl rfl (F.row m0) uinfo1Int64 (by simp) rfl #[.string t0, .int .i64 z1, .float .f32 0, .float .f32 0, .float .f32 0] rfl (fun w2 K => ?_)
  replace F := F.wrI0 (cs' := #[.string t0, .int .i64 z1, .float .f32 0, .float .f32 0, .float .f32 0]) K
  clear K
  go_wp2_with (first | ((with_reducible refine listN F ?_); clear F; intro wN F) | ((with_reducible refine at_load rfl ?_); first | (with_reducible refine wpList_load1 F rfl rfl rfl (by first | exact m0 | exact m1 | exact m2 | exact m3) (f := 0) (v := .string t0) rfl ukindString ?_) | (with_reducible refine wpList_load1 F rfl rfl rfl (by first | exact m0 | exact m1 | exact m2 | exact m3) (f := 1) (v := .int .i64 z1) rfl ukindInt64 ?_) | (with_reducible refine wpList_load1 F rfl rfl rfl (by first | exact m0 | exact m1 | exact m2 | exact m3) (f := 2) (v := .float .f32 y2) rfl ukindFloat32 ?_) | (with_reducible refine wpList_load1 F rfl rfl rfl (by first | exact m0 | exact m1 | exact m2 | exact m3) (f := 3) (v := .float .f32 y3) rfl ukindFloat32 ?_) | (with_reducible refine wpList_load1 F rfl rfl rfl (by first | exact m0 | exact m1 | exact m2 | exact m3) (f := 4) (v := .float .f32 y4) rfl ukindFloat32 ?_)) | (with_reducible refine stop_store rfl ?_))
  show wpList _ _ _ _ _ _
  refine wpList_store1 rfl rfl (f := 2) rfl rfl (F.row m0) uinfo1Float32 (by simp) rfl #[.string t0, .int .i64 z1, .float .f32 y2, .float .f32 0, .float .f32 0] rfl (fun w2 K => ?_)
  replace F := F.wrI0 (cs' := #[.string t0, .int .i64 z1, .float .f32 y2, .float .f32 0, .float .f32 0]) K
  clear K
  go_wp2_with (first | ((with_reducible refine listN F ?_); clear F; intro wN F) | ((with_reducible refine at_load rfl ?_); first | (with_reducible refine wpList_load1 F rfl rfl rfl (by first | exact m0 | exact m1 | exact m2 | exact m3) (f := 0) (v := .string t0) rfl ukindString ?_) | (with_reducible refine wpList_load1 F rfl rfl rfl (by first | exact m0 | exact m1 | exact m2 | exact m3) (f := 1) (v := .int .i64 z1) rfl ukindInt64 ?_) | (with_reducible refine wpList_load1 F rfl rfl rfl (by first | exact m0 | exact m1 | exact m2 | exact m3) (f := 2) (v := .float .f32 y2) rfl ukindFloat32 ?_) | (with_reducible refine wpList_load1 F rfl rfl rfl (by first | exact m0 | exact m1 | exact m2 | exact m3) (f := 3) (v := .float .f32 y3) rfl ukindFloat32 ?_) | (with_reducible refine wpList_load1 F rfl rfl rfl (by first | exact m0 | exact m1 | exact m2 | exact m3) (f := 4) (v := .float .f32 y4) rfl ukindFloat32 ?_)) | (with_reducible refine stop_store rfl ?_))
  show wpList _ _ _ _ _ _
  refine wpList_store1 rfl rfl (f := 3) rfl rfl (F.row m0) uinfo1Float32 (by simp) rfl #[.string t0, .int .i64 z1, .float .f32 y2, .float .f32 y3, .float .f32 0] rfl (fun w2 K => ?_)
  replace F := F.wrI0 (cs' := #[.string t0, .int .i64 z1, .float .f32 y2, .float .f32 y3, .float .f32 0]) K
  clear K
  go_wp2_with (first | ((with_reducible refine listN F ?_); clear F; intro wN F) | ((with_reducible refine at_load rfl ?_); first | (with_reducible refine wpList_load1 F rfl rfl rfl (by first | exact m0 | exact m1 | exact m2 | exact m3) (f := 0) (v := .string t0) rfl ukindString ?_) | (with_reducible refine wpList_load1 F rfl rfl rfl (by first | exact m0 | exact m1 | exact m2 | exact m3) (f := 1) (v := .int .i64 z1) rfl ukindInt64 ?_) | (with_reducible refine wpList_load1 F rfl rfl rfl (by first | exact m0 | exact m1 | exact m2 | exact m3) (f := 2) (v := .float .f32 y2) rfl ukindFloat32 ?_) | (with_reducible refine wpList_load1 F rfl rfl rfl (by first | exact m0 | exact m1 | exact m2 | exact m3) (f := 3) (v := .float .f32 y3) rfl ukindFloat32 ?_) | (with_reducible refine wpList_load1 F rfl rfl rfl (by first | exact m0 | exact m1 | exact m2 | exact m3) (f := 4) (v := .float .f32 y4) rfl ukindFloat32 ?_)) | (with_reducible refine stop_store rfl ?_))
  show wpList _ _ _ _ _ _
  refine wpList_store1 rfl rfl (f := 4) rfl rfl (F.row m0) uinfo1Float32 (by simp) rfl #[.string t0, .int .i64 z1, .float .f32 y2, .float .f32 y3, .float .f32 y4] rfl (fun w2 K => ?_)
  replace F := F.wrI0 (cs' := #[.string t0, .int .i64 z1, .float .f32 y2, .float .f32 y3, .float .f32 y4]) K
  clear K
  go_wp2_with (first | ((with_reducible refine listN F ?_); clear F; intro wN F) | ((with_reducible refine at_load rfl ?_); (with_reducible refine wpList_loadG F rfl rfl rfl (by first | exact m0) Try.underlying163 rfl uinfoInstrumentI rfl ?_)) | (with_reducible refine stop_store rfl ?_))
  show wpList _ _ _ _ _ _
  refine wpList_storeD rfl rfl rfl (cells := #[.string t0, .int .i64 z1, .float .f32 y2, .float .f32 y3, .float .f32 y4]) rfl (F.row m1) uinfoInstrumentI rfl (by (simp only [List.all_toArray', List.all_cons, List.all_nil, Bool.and_true, Bool.true_and]) <;> rfl) (fun w6 K => ?_)
  have R := hid K.row
  replace F := F.wrI1 K
  have E0 := Eaten.start F
  replace E0 := Eaten.leaf (c := CD.cp c4) (v := .float .f32 y4) E0 (r4.leafLay (flk_ne q4))
  replace E0 := Eaten.leaf (c := CD.cp c3) (v := .float .f32 y3) E0 (r3.leafLay (flk_ne q3))
  replace E0 := Eaten.leaf (c := CD.cp c2) (v := .float .f32 y2) E0 (r2.leafLay (flk_ne q2))
  replace E0 := Eaten.leaf (c := .int .i64 z1) (v := .int .i64 z1) E0 (show CD.Lay _ _ _ _ from ⟨rfl, wf1⟩)
  replace E0 := Eaten.leaf (c := .str t0) (v := .string t0) E0 (show CD.Lay _ _ _ _ from ⟨rfl, wf0⟩)
  have L := hid (show LayL _ _ _ _ ∧ le w _ from ⟨E0.fin, F.below⟩)
  clear K F E0
  go_wp2
  exact bodyPost_ret (results_row1 rfl _ _ _ _ _ rfl R.out Try.underlying163 rfl uinfoInstrumentI) rfl ⟨[.string t0, .int .i64 z1, .float .f32 y2, .float .f32 y3, .float .f32 y4], rfl, L.out.1, L.out.2⟩
end Go.Proofs.Ytnkjmgadnejdlac

/- The laws' helpers for []Instrument, over trees of data. -/
namespace Go.Proofs.Ytnkjmgadnejdlac
open Go.RowKit Go.Fk
theorem sz_elInstrument (x : Nat → CD) (k : Nat) : sumTo (fun i => (x i).sz) ((k + 1) * 5) = sumTo (fun i => (x i).sz) (k * 5) + szL ((List.range 5).map (fun j => x (k * 5 + j))) := by
  rw [Nat.succ_mul, sumTo_add]; (simp [szL, sumTo, List.range_succ, List.sum_append]) <;> omega
theorem sz_atInstrument {n : Nat} (x : Nat → CD) (k : Nat) (hk : k < n) : sumTo (fun i => (x i).sz) (k * 5) + szL ((List.range 5).map (fun j => x (k * 5 + j))) ≤ sumTo (fun i => (x i).sz) (n * 5) := by
  rw [← sz_elInstrument]; exact sumTo_le _ (Nat.mul_le_mul_right _ hk)
set_option maxRecDepth 100000 in
set_option maxHeartbeats 4000000 in
theorem szU_InstrumentS (B n : Nat) (x : Nat → CD) (s : Value) (m r : Int) (w : World) (h : (CD.sl 5 n x).Rd w B s) (hsh : ∀ i, i < n → ∀ j, j < 5 → ShOk (shInstrument.getD j .bool) (x (i * 5 + j))) (h0 : 0 ≤ m) (h1 : m ≤ 1048576) (hr : lessBy m (CD.sz (CD.sl 5 n x)) = r) :
    Calls Try.prog 56 #[s, .int .i64 m] w (OutI r w) := by
  have hsm := h.small
  have hrd := hid h
  simp only [CD.sz] at hr
  have hr := hid hr
  by_cases g0 : m - (n : Int) < 0
  · have er : r = -1 := by have := hr.out; rw [lessBy_neg (by omega)] at this; omega
    subst er
    clear hr h
    go_enter Try.func56, Try.ntmps56
    go_wp2_with ((with_reducible refine wpList_lenC rfl rfl rfl Try.underlying60 hrd.out ?_))
    go_ret
    exact ⟨rfl, le_refl _⟩
  have hn : n ≤ 1048576 := by omega
  rcases h.form with ⟨rfl, rfl⟩ | ⟨a, cap, rfl, hc, hm⟩
  · have er : r = m := by have := hr.out; simp [sumTo, lessBy] at this; omega
    subst er
    clear hr h hrd
    go_enter Try.func56, Try.ntmps56
    go_wp2
    go_loop [1, 5] (fun q i => q = .int .i64 r ∧ i = .int .i64 0) (fun _ _ => 0)
    case atStart => exact ⟨by simp, rfl⟩
    case round =>
      obtain ⟨rfl, rfl⟩ := hrel
      go_wp2
      go_ret
      exact ⟨rfl, le_refl _⟩
  · have HE := hid (fun k (hk : k < n) => h.elem hk)
    have HQ := hid hsh
    unfold maxLen at hm
    clear h hrd hsh
    go_enter Try.func56, Try.ntmps56
    go_wp2
    go_loopw [1, 5] (fun q i wr => ∃ k S : Nat, k ≤ n ∧ i = .int .i64 k ∧ q = .int .i64 (m - n - (S : Int)) ∧ Hid (S = sumTo (fun i => (x i).sz) (k * 5)) ∧ Hid (0 ≤ m - n - (S : Int)) ∧ Hid (le w wr)) (fun _ i _ => n - (intOf i).toNat)
    case atStart => exact ⟨0, 0, by omega, rfl, by simp, by simp [sumTo, Hid], by show (0 : Int) ≤ m - n - ((0 : Nat) : Int); omega, le_refl _⟩
    case round =>
      obtain ⟨k, S, hk, rfl, rfl, HS, HP, HL⟩ := hrel
      rename_i wr _
      have hp := HP.out
      by_cases hlt : k < n
      · obtain ⟨vs, hvl, hvc, hvr⟩ := HE.out k hlt
        have hvc' := hid (fun j v (hv : vs[j]? = some v) => (Below.cell HL.out (cell_lt' (hvc j v hv))).trans (hvc j v hv))
        obtain ⟨E, hE⟩ : ∃ E : Nat, E = szL ((List.range 5).map (fun j => x (k * 5 + j))) := ⟨_, rfl⟩
        have hel := sz_elInstrument x k
        have hat := sz_atInstrument x k hlt
        rw [← HS.out, ← hE] at hel hat
        have HZ := hid (fun (q r : Int) (w' : World) (hl : le wr w') (h0 : 0 ≤ q) (h1 : q ≤ 1048576) (hr : lessBy q E = r) => szU_Instrument B ((List.range 5).map (fun j => x (k * 5 + j))) vs q r w' (hvr.le (le_trans HL.out hl)) (ShOk.elem (l := shInstrument) HQ.out hlt) h0 h1 (hE ▸ hr))
        have hvl := hid hvl
        have Hel := hid hel
        clear hvc hvr hel hE
        by_cases g1 : m - n - (S : Int) - (E : Int) < 0
        · have er : r = -1 := by have := hr.out; rw [lessBy_neg (by omega)] at this; omega
          subst er
          clear hr hat
          go_wp2_with (first | (with_reducible refine wpList_indexW rfl rfl rfl rfl Try.underlying60 uinfoInstrumentL hlt ?_) | ((with_reducible refine at_load rfl ?_); (with_reducible refine wpList_loadW rfl rfl rfl vs hvc'.out Try.underlying159 rfl uinfoInstrumentL hvl.out ?_)) | (go_at_call 97; ((with_reducible refine (HZ.out (m - n - (S : Int)) (-1) _ (le_refl _) (by omega) (by omega) (lessBy_neg (by omega))).mono ?_); rintro e w1 ⟨rfl, hl⟩; have HL1 := hid (le_trans HL.out hl); clear hl)))
          go_ret
          exact ⟨rfl, HL1.out⟩
        · clear hr hat
          go_wp2_with (first | (with_reducible refine wpList_indexW rfl rfl rfl rfl Try.underlying60 uinfoInstrumentL hlt ?_) | ((with_reducible refine at_load rfl ?_); (with_reducible refine wpList_loadW rfl rfl rfl vs hvc'.out Try.underlying159 rfl uinfoInstrumentL hvl.out ?_)) | (go_at_call 97; ((with_reducible refine (HZ.out (m - n - (S : Int)) (m - n - (S : Int) - (E : Int)) _ (le_refl _) (by omega) (by omega) (lessBy_pos g1)).mono ?_); rintro e w1 ⟨rfl, hl⟩; have HL1 := hid (le_trans HL.out hl); clear hl)))
          go_roundw
          case rel => exact ⟨k + 1, S + E, by omega, by go_num, by go_num, Hel.out.symm, by show (0 : Int) ≤ m - n - ((S + E : Nat) : Int); omega, HL1.out⟩
          case measure => simp [intOf]; omega
      · obtain rfl : k = n := by omega
        have er : r = m - k - (S : Int) := by have := hr.out; have h2 := HS.out; rw [← h2, lessBy_pos (by omega)] at this; omega
        subst er
        clear hr
        go_wp2
        go_ret
        exact ⟨rfl, HL.out⟩
set_option maxRecDepth 100000 in
set_option maxHeartbeats 4000000 in
theorem toU_InstrumentS (B n : Nat) (x : Nat → CD) (s : Value) (w : World) (h : (CD.sl 5 n x).Rd w B s) (hsh : ∀ i, i < n → ∀ j, j < 5 → ShOk (shInstrument.getD j .bool) (x (i * 5 + j))) (hz : CD.sz (CD.sl 5 n x) ≤ 1048576) :
    Calls Try.prog 62 #[s] w (OutC (CD.sl 5 n x).cp w) := by
  simp only [CD.sz] at hz
  have hn : n ≤ 1048576 := by omega
  obtain ⟨cs0, hcs, HM⟩ := makeW_Instrument n hn
  have HP0 : Hid (Part (w.alloc (.cells cs0 163)) w.heap.size 163 5 n 0 (fun i => (x i).cn)) := Part.zero (Row.new w _ _) hcs
  have HL0 := hid (le_alloc w (.cells cs0 163))
  rcases h.form with ⟨rfl, rfl⟩ | ⟨a, cap, rfl, hc, hm⟩
  · simp only [Int.natCast_zero] at HM
    clear h hsh hz hcs
    go_enter Try.func62, Try.ntmps62
    go_wp2
    go_loopw [4] (fun i wr => i = .int .i64 0 ∧ wr = w.alloc (.cells cs0 163)) (fun i _ => 0)
    case atStart => exact ⟨rfl, rfl⟩
    case round =>
      obtain ⟨rfl, rfl⟩ := hrel
      go_wp2
      go_ret
      exact ⟨_, rfl, HP0.out.full (by decide) (fun j h1 h2 => ⟨h1, h2⟩), HL0.out⟩
  · have HE := hid (fun k (hk : k < n) => h.elem hk)
    have HQ := hid hsh
    have HZ := hid hz
    unfold maxLen at hm
    clear h hsh hz hcs
    go_enter Try.func62, Try.ntmps62
    go_wp2
    go_loopw [4] (fun i wr => ∃ k : Nat, k ≤ n ∧ i = .int .i64 k ∧ Hid (Part wr w.heap.size 163 5 n k (fun i => (x i).cn)) ∧ Hid (le w wr)) (fun i _ => n - (intOf i).toNat)
    case atStart => exact ⟨0, by omega, rfl, HP0.out, HL0.out⟩
    case round =>
      obtain ⟨k, hk, rfl, HP, HL⟩ := hrel
      rename_i wr _
      by_cases hlt : k < n
      · obtain ⟨vs, hvl, hvc, hvr⟩ := HE.out k hlt
        have hat := sz_atInstrument x k hlt
        have hvc' := hid (fun j v (hv : vs[j]? = some v) => (Below.cell HL.out (cell_lt' (hvc j v hv))).trans (hvc j v hv))
        have HT := hid (fun (w' : World) (hl : le wr w') => toU_Instrument B _ vs w' (hvr.le (le_trans HL.out hl)) (ShOk.elem (l := shInstrument) HQ.out hlt) (by have := HZ.out; omega))
        have hvl := hid hvl
        clear hvc hvr hat
        go_wp2_with (first | (with_reducible refine wpList_indexW0 rfl rfl rfl rfl Try.underlying67 uinfoInstrumentI hlt ?_) | (with_reducible refine wpList_indexW rfl rfl rfl rfl Try.underlying60 uinfoInstrumentL hlt ?_) | ((with_reducible refine at_load rfl ?_); (with_reducible refine wpList_loadW rfl rfl rfl vs hvc'.out Try.underlying159 rfl uinfoInstrumentL hvl.out ?_)) | (go_at_call 101; ((with_reducible refine (HT.out _ (le_refl _)).mono ?_); rintro e w1 ⟨us, rfl, ho, hl⟩; have HO := hid ho; have HL1 := hid hl; clear ho hl)) | (with_reducible refine stop_store rfl ?_))
        show wpList _ _ _ _ _ _
        obtain ⟨cs1, hr1, hs1⟩ := HP.out.row
        have hul : us.length = 5 := by have := HO.out.1; simpa using this
        have hend : k * 5 + 5 ≤ n * 5 := by rw [← Nat.succ_mul]; exact Nat.mul_le_mul_right _ hlt
        refine wpList_storeP rfl rfl rfl (f := k * 5) (cells := us) rfl (hr1.le HL1.out) (by rw [hul]; exact uinfoInstrumentI) (by omega) HO.out.all_one (fun w2 K => ?_)
        have HP2 := hid (HP.out.step hlt HL1.out (by have := HO.out.cn; simpa [List.map_map, Function.comp_def] using this) (hr1.le HL1.out) K)
        have HL2 := hid (K.below _ _ (le_trans HL.out HL1.out) (Nat.le_refl _))
        clear K hr1 hs1 hul hend
        go_wp2
        go_roundw
        case rel => exact ⟨k + 1, by omega, by go_num, HP2.out, HL2.out⟩
        case measure => simp [intOf]; omega
      · obtain rfl : k = n := by omega
        go_wp2
        go_ret
        exact ⟨_, rfl, HP.out.full (by unfold maxLen; omega) (fun j h1 h2 => ⟨h1, h2⟩), HL.out⟩
set_option maxRecDepth 100000 in
set_option maxHeartbeats 4000000 in
theorem eqU_InstrumentS (B B' n : Nat) (x : Nat → CD) (s s' : Value) (w : World) (h : (CD.sl 5 n x).Rd w B s) (h' : (CD.sl 5 n x).Rd w B' s') (hsh : ∀ i, i < n → ∀ j, j < 5 → ShOk (shInstrument.getD j .bool) (x (i * 5 + j))) (hz : CD.sz (CD.sl 5 n x) ≤ 1048576) :
    Calls Try.prog 68 #[s, s'] w (OutT w) := by
  have hzz := hid hz
  simp only [CD.sz] at hz
  by_cases h0 : n = 0
  · have hrd := hid h; have hrd' := hid h'
    subst h0
    clear h h' hz hzz hsh
    go_enter Try.func68, Try.ntmps68
    go_wp2_with (first | (with_reducible refine wpList_lenC rfl rfl rfl Try.underlying67 hrd.out ?_) | (with_reducible refine wpList_lenC rfl rfl rfl Try.underlying67 hrd'.out ?_))
    go_loop [5] (fun i => i = .int .i64 0) (fun _ => 0)
    case atStart => rfl
    case round =>
      obtain rfl := hrel
      go_wp2_with (first | (with_reducible refine wpList_lenC rfl rfl rfl Try.underlying67 hrd.out ?_) | (with_reducible refine wpList_lenC rfl rfl rfl Try.underlying67 hrd'.out ?_))
      go_ret
      exact ⟨rfl, le_refl _⟩
  have HE := hid (fun k (hk : k < n) a cap (e : s = .slice (some a) n cap) => (CD.Rd.elem (w := w) (B := B) (wd := 5) (x := x) (cap := cap) (a := a) (e ▸ h) hk))
  have HE' := hid (fun k (hk : k < n) a cap (e : s' = .slice (some a) n cap) => (CD.Rd.elem (w := w) (B := B') (wd := 5) (x := x) (cap := cap) (a := a) (e ▸ h') hk))
  rcases h.form with ⟨_, e0⟩ | ⟨a, cap, rfl, hc, hm⟩
  · exact absurd e0 h0
  rcases h'.form with ⟨_, e0⟩ | ⟨a', cap', rfl, hc', hm'⟩
  · exact absurd e0 h0
  have HQ := hid hsh
  unfold maxLen at hm hm'
  clear h h' hsh h0
  go_enter Try.func68, Try.ntmps68
  go_wp2
  go_loopw [5] (fun i wr => ∃ k : Nat, k ≤ n ∧ i = .int .i64 k ∧ Hid (le w wr)) (fun i _ => n - (intOf i).toNat)
  case atStart => exact ⟨0, by omega, rfl, le_refl _⟩
  case round =>
    obtain ⟨k, hk, rfl, HL⟩ := hrel
    rename_i wr _
    by_cases hlt : k < n
    · obtain ⟨vs, hvl, hvc, hvr⟩ := HE.out k hlt a cap rfl
      obtain ⟨vs', hvl', hvc', hvr'⟩ := HE'.out k hlt a' cap' rfl
      have hat := sz_atInstrument x k hlt
      have HQE := hid (fun (w' : World) (hl : le wr w') => eqU_Instrument B B' _ vs vs' w' (hvr.le (le_trans HL.out hl)) (hvr'.le (le_trans HL.out hl)) (ShOk.elem (l := shInstrument) HQ.out hlt) (by omega))
      have gvc := hid (fun (w' : World) (hl : le wr w') j v (hv : vs[j]? = some v) => (Below.cell (le_trans HL.out hl) (cell_lt' (hvc j v hv))).trans (hvc j v hv))
      have gvc' := hid (fun (w' : World) (hl : le wr w') j v (hv : vs'[j]? = some v) => (Below.cell (le_trans HL.out hl) (cell_lt' (hvc' j v hv))).trans (hvc' j v hv))
      have hvl := hid hvl; have hvl' := hid hvl'
      clear hvc hvr hvc' hvr' hat
      go_wp2_with fail
      refine region_freeD (E := leX) (fun f args w v => v = .bool true) (by kernel_rfl) (by kernel_rfl) ?_
      refine wpFreeD_one rfl (.slice (some a) n cap) (fun w1 _ => by kernel_rfl) ?_
      simp only [Act.put, List.setIfInBounds_toArray, List.set_cons_succ, List.set_cons_zero]
      refine wpFreeD_one rfl (.int .i64 k) (fun w1 _ => by kernel_rfl) ?_
      simp only [Act.put, List.setIfInBounds_toArray, List.set_cons_succ, List.set_cons_zero]
      refine wpFreeD_indexW rfl rfl rfl rfl Try.underlying67 uinfoInstrumentI hlt ?_
      simp only [Act.put, List.setIfInBounds_toArray, List.set_cons_succ, List.set_cons_zero]
      refine wpFreeD_loadW rfl rfl rfl vs (fun w1 h1 j v hv => gvc.out w1 (le_trans (le_drewN _ _) h1) j v hv) Try.underlying163 rfl uinfoInstrumentI hvl.out ?_
      simp only [Act.put, List.setIfInBounds_toArray, List.set_cons_succ, List.set_cons_zero]
      refine wpFreeD_one rfl (.slice (some a') n cap') (fun w1 _ => by kernel_rfl) ?_
      simp only [Act.put, List.setIfInBounds_toArray, List.set_cons_succ, List.set_cons_zero]
      refine wpFreeD_one rfl (.int .i64 k) (fun w1 _ => by kernel_rfl) ?_
      simp only [Act.put, List.setIfInBounds_toArray, List.set_cons_succ, List.set_cons_zero]
      refine wpFreeD_indexW rfl rfl rfl rfl Try.underlying67 uinfoInstrumentI hlt ?_
      simp only [Act.put, List.setIfInBounds_toArray, List.set_cons_succ, List.set_cons_zero]
      refine wpFreeD_loadW rfl rfl rfl vs' (fun w1 h1 j v hv => gvc'.out w1 (le_trans (le_drewN _ _) h1) j v hv) Try.underlying163 rfl uinfoInstrumentI hvl'.out ?_
      simp only [Act.put, List.setIfInBounds_toArray, List.set_cons_succ, List.set_cons_zero]
      refine wpFreeD_callB rfl rfl Try.func107 (by kernel_rfl) (by kernel_rfl) (args := #[.agg vs.toArray, .agg vs'.toArray]) (by simp [Act.eval]) (fun v w1 w2 hw hv => hv) (fun w1 hw1 _ => (HQE.out w1 (le_trans (le_drewN _ _) hw1)).mono ?_) ?_
      · rintro e w2 ⟨rfl, hl⟩
        exact ⟨_, rfl, hl, rfl⟩
      rintro v ⟨_, _, _, rfl⟩
      simp only [Act.put, List.setIfInBounds_toArray, List.set_cons_succ, List.set_cons_zero]
      refine wpFreeD_one rfl (.bool false) (fun w1 _ => by kernel_rfl) ?_
      simp only [Act.put, List.setIfInBounds_toArray, List.set_cons_succ, List.set_cons_zero]
      refine wpFreeD_nil (fun wR hwR _ => ?_)
      have HL1 := hid (le_trans HL.out (le_trans (le_drewN _ _) hwR))
      clear hwR
      go_wp2
      go_roundw
      case rel => exact ⟨k + 1, by omega, by go_num, HL1.out⟩
      case measure => simp [intOf]; omega
    · obtain rfl : k = n := by omega
      go_wp2
      go_ret
      exact ⟨rfl, HL.out⟩
end Go.Proofs.Ytnkjmgadnejdlac

/- The laws' helpers for Event, over trees of data. -/
namespace Go.Proofs.Ytnkjmgadnejdlac
open Go.RowKit Go.Fk
set_option maxRecDepth 100000 in
set_option maxHeartbeats 4000000 in
theorem eqU_Event (B B' : Nat) (cs : List CD) (vs vs' : List Value) (w : World) (h : RdL w B cs vs) (h' : RdL w B' cs vs') (hsh : ShOkL shEvent cs) (hz : szL cs ≤ 1048576) :
    Calls Try.prog 71 #[.agg vs.toArray, .agg vs'.toArray] w (OutT w) := by
  obtain ⟨c0, cs, rfl, q0, hsh⟩ := hsh.inv
  obtain ⟨c1, cs, rfl, q1, hsh⟩ := hsh.inv
  obtain ⟨c2, cs, rfl, q2, hsh⟩ := hsh.inv
  obtain ⟨c3, cs, rfl, q3, hsh⟩ := hsh.inv
  obtain ⟨c4, cs, rfl, q4, hsh⟩ := hsh.inv
  obtain ⟨c5, cs, rfl, q5, hsh⟩ := hsh.inv
  obtain rfl := hsh.inv0
  obtain ⟨v0, vs, rfl, r0, h⟩ := h.inv
  obtain ⟨v1, vs, rfl, r1, h⟩ := h.inv
  obtain ⟨v2, vs, rfl, r2, h⟩ := h.inv
  obtain ⟨v3, vs, rfl, r3, h⟩ := h.inv
  obtain ⟨v4, vs, rfl, r4, h⟩ := h.inv
  obtain ⟨v5, vs, rfl, r5, h⟩ := h.inv
  obtain rfl := h.inv0
  obtain ⟨v0', vs', rfl, r0', h'⟩ := h'.inv
  obtain ⟨v1', vs', rfl, r1', h'⟩ := h'.inv
  obtain ⟨v2', vs', rfl, r2', h'⟩ := h'.inv
  obtain ⟨v3', vs', rfl, r3', h'⟩ := h'.inv
  obtain ⟨v4', vs', rfl, r4', h'⟩ := h'.inv
  obtain ⟨v5', vs', rfl, r5', h'⟩ := h'.inv
  obtain rfl := h'.inv0
  obtain ⟨z0, rfl⟩ := q0
  obtain ⟨rfl, wf0⟩ := r0
  obtain ⟨rfl, wf0'⟩ := r0'
  obtain ⟨z1, rfl⟩ := q1
  obtain ⟨rfl, wf1⟩ := r1
  obtain ⟨rfl, wf1'⟩ := r1'
  obtain ⟨z2, rfl⟩ := q2
  obtain ⟨rfl, wf2⟩ := r2
  obtain ⟨rfl, wf2'⟩ := r2'
  obtain ⟨z3, rfl⟩ := q3
  obtain ⟨rfl, wf3⟩ := r3
  obtain ⟨rfl, wf3'⟩ := r3'
  obtain ⟨z4, rfl⟩ := q4
  obtain ⟨rfl, wf4⟩ := r4
  obtain ⟨rfl, wf4'⟩ := r4'
  have q5 : c5.flk = some .f32 := q5
  obtain ⟨y5, rfl, f5, e5⟩ := r5.fl q5
  obtain ⟨y5', rfl, f5', e5'⟩ := r5'.fl q5
  simp only [szL, List.map_cons, List.map_nil, List.sum_cons, List.sum_nil] at hz
  have E5 := hid (e5.trans e5'.symm)
  have F := ((Frg.nil w).box 111 #[.int .i64 z0, .int .i64 z1, .int .i64 z2, .int .i64 z3, .int .i64 z4, .float .f32 y5]).box 111 #[.int .i64 z0, .int .i64 z1, .int .i64 z2, .int .i64 z3, .int .i64 z4, .float .f32 y5']
  simp only [World.size_alloc] at F
  clear hz
  go_enter Try.func71, Try.ntmps71
  go_wp2_with (first | ((with_reducible refine listN F ?_); clear F; intro wN F) | ((with_reducible refine at_load rfl ?_); first | (with_reducible refine wpList_load1 F rfl rfl rfl (by first | exact m0 | exact m1) (f := 0) (v := .int .i64 z0) rfl ukindInt64 ?_) | (with_reducible refine wpList_load1 F rfl rfl rfl (by first | exact m0 | exact m1) (f := 1) (v := .int .i64 z1) rfl ukindInt64 ?_) | (with_reducible refine wpList_load1 F rfl rfl rfl (by first | exact m0 | exact m1) (f := 2) (v := .int .i64 z2) rfl ukindInt64 ?_) | (with_reducible refine wpList_load1 F rfl rfl rfl (by first | exact m0 | exact m1) (f := 3) (v := .int .i64 z3) rfl ukindInt64 ?_) | (with_reducible refine wpList_load1 F rfl rfl rfl (by first | exact m0 | exact m1) (f := 4) (v := .int .i64 z4) rfl ukindInt64 ?_) | (with_reducible refine wpList_load1 F rfl rfl rfl (by first | exact m0 | exact m1) (f := 5) (v := .float .f32 y5) rfl ukindFloat32 ?_) | (with_reducible refine wpList_load1 F rfl rfl rfl (by first | exact m0 | exact m1) (f := 0) (v := .int .i64 z0) rfl ukindInt64 ?_) | (with_reducible refine wpList_load1 F rfl rfl rfl (by first | exact m0 | exact m1) (f := 1) (v := .int .i64 z1) rfl ukindInt64 ?_) | (with_reducible refine wpList_load1 F rfl rfl rfl (by first | exact m0 | exact m1) (f := 2) (v := .int .i64 z2) rfl ukindInt64 ?_) | (with_reducible refine wpList_load1 F rfl rfl rfl (by first | exact m0 | exact m1) (f := 3) (v := .int .i64 z3) rfl ukindInt64 ?_) | (with_reducible refine wpList_load1 F rfl rfl rfl (by first | exact m0 | exact m1) (f := 4) (v := .int .i64 z4) rfl ukindInt64 ?_) | (with_reducible refine wpList_load1 F rfl rfl rfl (by first | exact m0 | exact m1) (f := 5) (v := .float .f32 y5') rfl ukindFloat32 ?_)) | ((with_reducible refine at_convert rfl ?_); (with_reducible refine wpList_widen rfl rfl rfl Try.underlying25 Try.underlying94 ?_; intro s1 n1 h1 f1)) | (go_at_call 46; ((with_reducible refine (sameFloat_yes _ _ _ (by first | exact (Hid.out ‹Hid (can .f64 _ = can .f64 (widen y5))›).trans ((congrArg (can .f64) (widen_congr E5.out)).trans (Hid.out ‹Hid (can .f64 _ = can .f64 (widen y5'))›).symm))).mono ?_); rintro e w7 ⟨rfl, dq7, rfl⟩; skip)))
  go_ret
  first | exact ⟨rfl, F.below⟩ | exact ⟨rfl, below_drewN F.below _⟩
set_option maxRecDepth 100000 in
set_option maxHeartbeats 4000000 in
theorem toU_Event (B : Nat) (cs : List CD) (vs : List Value) (w : World) (h : RdL w B cs vs) (hsh : ShOkL shEvent cs) (hz : szL cs ≤ 1048576) :
    Calls Try.prog 102 #[.agg vs.toArray] w (OutA' (cs.map CD.cp) w) := by
  obtain ⟨c0, cs, rfl, q0, hsh⟩ := hsh.inv
  obtain ⟨c1, cs, rfl, q1, hsh⟩ := hsh.inv
  obtain ⟨c2, cs, rfl, q2, hsh⟩ := hsh.inv
  obtain ⟨c3, cs, rfl, q3, hsh⟩ := hsh.inv
  obtain ⟨c4, cs, rfl, q4, hsh⟩ := hsh.inv
  obtain ⟨c5, cs, rfl, q5, hsh⟩ := hsh.inv
  obtain rfl := hsh.inv0
  obtain ⟨v0, vs, rfl, r0, h⟩ := h.inv
  obtain ⟨v1, vs, rfl, r1, h⟩ := h.inv
  obtain ⟨v2, vs, rfl, r2, h⟩ := h.inv
  obtain ⟨v3, vs, rfl, r3, h⟩ := h.inv
  obtain ⟨v4, vs, rfl, r4, h⟩ := h.inv
  obtain ⟨v5, vs, rfl, r5, h⟩ := h.inv
  obtain rfl := h.inv0
  obtain ⟨z0, rfl⟩ := q0
  obtain ⟨rfl, wf0⟩ := r0
  obtain ⟨z1, rfl⟩ := q1
  obtain ⟨rfl, wf1⟩ := r1
  obtain ⟨z2, rfl⟩ := q2
  obtain ⟨rfl, wf2⟩ := r2
  obtain ⟨z3, rfl⟩ := q3
  obtain ⟨rfl, wf3⟩ := r3
  obtain ⟨z4, rfl⟩ := q4
  obtain ⟨rfl, wf4⟩ := r4
  have q5 : c5.flk = some .f32 := q5
  obtain ⟨y5, rfl, f5, e5⟩ := r5.fl q5
  simp only [szL, List.map_cons, List.map_nil, List.sum_cons, List.sum_nil] at hz
  have F := (((Frg.nil w).box 166 #[.int .i64 z0, .int .i64 z1, .int .i64 z2, .int .i64 z3, .int .i64 z4, .float .f32 y5]).box 111 #[.int .i64 0, .int .i64 0, .int .i64 0, .int .i64 0, .int .i64 0, .float .f32 0]).box 111 #[.int .i64 0, .int .i64 0, .int .i64 0, .int .i64 0, .int .i64 0, .float .f32 0]
  simp only [World.size_alloc] at F
  clear hz
  go_enter Try.func102, Try.ntmps102
  go_wp2_with (first | ((with_reducible refine listN F ?_); clear F; intro wN F) | ((with_reducible refine at_load rfl ?_); first | (with_reducible refine wpList_load1 F rfl rfl rfl (by first | exact m0 | exact m1 | exact m2 | exact m3) (f := 0) (v := .int .i64 z0) rfl ukindInt64 ?_) | (with_reducible refine wpList_load1 F rfl rfl rfl (by first | exact m0 | exact m1 | exact m2 | exact m3) (f := 1) (v := .int .i64 z1) rfl ukindInt64 ?_) | (with_reducible refine wpList_load1 F rfl rfl rfl (by first | exact m0 | exact m1 | exact m2 | exact m3) (f := 2) (v := .int .i64 z2) rfl ukindInt64 ?_) | (with_reducible refine wpList_load1 F rfl rfl rfl (by first | exact m0 | exact m1 | exact m2 | exact m3) (f := 3) (v := .int .i64 z3) rfl ukindInt64 ?_) | (with_reducible refine wpList_load1 F rfl rfl rfl (by first | exact m0 | exact m1 | exact m2 | exact m3) (f := 4) (v := .int .i64 z4) rfl ukindInt64 ?_) | (with_reducible refine wpList_load1 F rfl rfl rfl (by first | exact m0 | exact m1 | exact m2 | exact m3) (f := 5) (v := .float .f32 y5) rfl ukindFloat32 ?_)) | (with_reducible refine stop_store rfl ?_))
  show wpList _ _ _ _ _ _
  refine wpList_store1 rfl rfl (f := 0) rfl rfl (F.row m0) uinfo1Int64 (by simp) rfl #[.int .i64 z0, .int .i64 0, .int .i64 0, .int .i64 0, .int .i64 0, .float .f32 0] rfl (fun w2 K => ?_)
  replace F := F.wrI0 (cs' := #[.int .i64 z0, .int .i64 0, .int .i64 0, .int .i64 0, .int .i64 0, .float .f32 0]) K
  clear K
  go_wp2_with (first | ((with_reducible refine listN F ?_); clear F; intro wN F) | ((with_reducible refine at_load rfl ?_); first | (with_reducible refine wpList_load1 F rfl rfl rfl (by first | exact m0 | exact m1 | exact m2 | exact m3) (f := 0) (v := .int .i64 z0) rfl ukindInt64 ?_) | (with_reducible refine wpList_load1 F rfl rfl rfl (by first | exact m0 | exact m1 | exact m2 | exact m3) (f := 1) (v := .int .i64 z1) rfl ukindInt64 ?_) | (with_reducible refine wpList_load1 F rfl rfl rfl (by first | exact m0 | exact m1 | exact m2 | exact m3) (f := 2) (v := .int .i64 z2) rfl ukindInt64 ?_) | (with_reducible refine wpList_load1 F rfl rfl rfl (by first | exact m0 | exact m1 | exact m2 | exact m3) (f := 3) (v := .int .i64 z3) rfl ukindInt64 ?_) | (with_reducible refine wpList_load1 F rfl rfl rfl (by first | exact m0 | exact m1 | exact m2 | exact m3) (f := 4) (v := .int .i64 z4) rfl ukindInt64 ?_) | (with_reducible refine wpList_load1 F rfl rfl rfl (by first | exact m0 | exact m1 | exact m2 | exact m3) (f := 5) (v := .float .f32 y5) rfl ukindFloat32 ?_)) | (with_reducible refine stop_store rfl ?_))
  show wpList _ _ _ _ _ _
  refine wpList_store1 rfl rfl (f := 1) rfl rfl (F.row m0) uinfo1Int64 (by simp) rfl #[.int .i64 z0, .int .i64 z1, .int .i64 0, .int .i64 0, .int .i64 0, .float .f32 0] rfl (fun w2 K => ?_)
  replace F := F.wrI0 (cs' := #[.int .i64 z0, .int .i64 z1, .int .i64 0, .int .i64 0, .int .i64 0, .float .f32 0]) K
  clear K
  go_wp2_with (first | ((with_reducible refine listN F ?_); clear F; intro wN F) | ((with_reducible refine at_load rfl ?_); first | (with_reducible refine wpList_load1 F rfl rfl rfl (by first | exact m0 | exact m1 | exact m2 | exact m3) (f := 0) (v := .int .i64 z0) rfl ukindInt64 ?_) | (with_reducible refine wpList_load1 F rfl rfl rfl (by first | exact m0 | exact m1 | exact m2 | exact m3) (f := 1) (v := .int .i64 z1) rfl ukindInt64 ?_) | (with_reducible refine wpList_load1 F rfl rfl rfl (by first | exact m0 | exact m1 | exact m2 | exact m3) (f := 2) (v := .int .i64 z2) rfl ukindInt64 ?_) | (with_reducible refine wpList_load1 F rfl rfl rfl (by first | exact m0 | exact m1 | exact m2 | exact m3) (f := 3) (v := .int .i64 z3) rfl ukindInt64 ?_) | (with_reducible refine wpList_load1 F rfl rfl rfl (by first | exact m0 | exact m1 | exact m2 | exact m3) (f := 4) (v := .int .i64 z4) rfl ukindInt64 ?_) | (with_reducible refine wpList_load1 F rfl rfl rfl (by first | exact m0 | exact m1 | exact m2 | exact m3) (f := 5) (v := .float .f32 y5) rfl ukindFloat32 ?_)) | (with_reducible refine stop_store rfl ?_))
  show wpList _ _ _ _ _ _
  refine wpList_store1 rfl rfl (f := 2) rfl rfl (F.row m0) uinfo1Int64 (by simp) rfl #[.int .i64 z0, .int .i64 z1, .int .i64 z2, .int .i64 0, .int .i64 0, .float .f32 0] rfl (fun w2 K => ?_)
  replace F := F.wrI0 (cs' := #[.int .i64 z0, .int .i64 z1, .int .i64 z2, .int .i64 0, .int .i64 0, .float .f32 0]) K
  clear K
  go_wp2_with (first | ((with_reducible refine listN F ?_); clear F; intro wN F) | ((with_reducible refine at_load rfl ?_); first | (with_reducible refine wpList_load1 F rfl rfl rfl (by first | exact m0 | exact m1 | exact m2 | exact m3) (f := 0) (v := .int .i64 z0) rfl ukindInt64 ?_) | (with_reducible refine wpList_load1 F rfl rfl rfl (by first | exact m0 | exact m1 | exact m2 | exact m3) (f := 1) (v := .int .i64 z1) rfl ukindInt64 ?_) | (with_reducible refine wpList_load1 F rfl rfl rfl (by first | exact m0 | exact m1 | exact m2 | exact m3) (f := 2) (v := .int .i64 z2) rfl ukindInt64 ?_) | (with_reducible refine wpList_load1 F rfl rfl rfl (by first | exact m0 | exact m1 | exact m2 | exact m3) (f := 3) (v := .int .i64 z3) rfl ukindInt64 ?_) | (with_reducible refine wpList_load1 F rfl rfl rfl (by first | exact m0 | exact m1 | exact m2 | exact m3) (f := 4) (v := .int .i64 z4) rfl ukindInt64 ?_) | (with_reducible refine wpList_load1 F rfl rfl rfl (by first | exact m0 | exact m1 | exact m2 | exact m3) (f := 5) (v := .float .f32 y5) rfl ukindFloat32 ?_)) | (with_reducible refine stop_store rfl ?_))
  show wpList _ _ _ _ _ _
  refine wpList_store1 rfl rfl (f := 3) rfl rfl (F.row m0) uinfo1Int64 (by simp) rfl #[.int .i64 z0, .int .i64 z1, .int .i64 z2, .int .i64 z3, .int .i64 0, .float .f32 0] rfl (fun w2 K => ?_)
  replace F := F.wrI0 (cs' := #[.int .i64 z0, .int .i64 z1, .int .i64 z2, .int .i64 z3, .int .i64 0, .float .f32 0]) K
  clear K
  go_wp2_with (first | ((with_reducible refine listN F ?_); clear F; intro wN F) | ((with_reducible refine at_load rfl ?_); first | (with_reducible refine wpList_load1 F rfl rfl rfl (by first | exact m0 | exact m1 | exact m2 | exact m3) (f := 0) (v := .int .i64 z0) rfl ukindInt64 ?_) | (with_reducible refine wpList_load1 F rfl rfl rfl (by first | exact m0 | exact m1 | exact m2 | exact m3) (f := 1) (v := .int .i64 z1) rfl ukindInt64 ?_) | (with_reducible refine wpList_load1 F rfl rfl rfl (by first | exact m0 | exact m1 | exact m2 | exact m3) (f := 2) (v := .int .i64 z2) rfl ukindInt64 ?_) | (with_reducible refine wpList_load1 F rfl rfl rfl (by first | exact m0 | exact m1 | exact m2 | exact m3) (f := 3) (v := .int .i64 z3) rfl ukindInt64 ?_) | (with_reducible refine wpList_load1 F rfl rfl rfl (by first | exact m0 | exact m1 | exact m2 | exact m3) (f := 4) (v := .int .i64 z4) rfl ukindInt64 ?_) | (with_reducible refine wpList_load1 F rfl rfl rfl (by first | exact m0 | exact m1 | exact m2 | exact m3) (f := 5) (v := .float .f32 y5) rfl ukindFloat32 ?_)) | (with_reducible refine stop_store rfl ?_))
  show wpList _ _ _ _ _ _
  refine wpList_store1 rfl rfl (f := 4) rfl rfl (F.row m0) uinfo1Int64 (by simp) rfl #[.int .i64 z0, .int .i64 z1, .int .i64 z2, .int .i64 z3, .int .i64 z4, .float .f32 0] rfl (fun w2 K => ?_)
  replace F := F.wrI0 (cs' := #[.int .i64 z0, .int .i64 z1, .int .i64 z2, .int .i64 z3, .int .i64 z4, .float .f32 0]) K
  clear K
  go_wp2_with (first | ((with_reducible refine listN F ?_); clear F; intro wN F) | ((with_reducible refine at_load rfl ?_); first | (with_reducible refine wpList_load1 F rfl rfl rfl (by first | exact m0 | exact m1 | exact m2 | exact m3) (f := 0) (v := .int .i64 z0) rfl ukindInt64 ?_) | (with_reducible refine wpList_load1 F rfl rfl rfl (by first | exact m0 | exact m1 | exact m2 | exact m3) (f := 1) (v := .int .i64 z1) rfl ukindInt64 ?_) | (with_reducible refine wpList_load1 F rfl rfl rfl (by first | exact m0 | exact m1 | exact m2 | exact m3) (f := 2) (v := .int .i64 z2) rfl ukindInt64 ?_) | (with_reducible refine wpList_load1 F rfl rfl rfl (by first | exact m0 | exact m1 | exact m2 | exact m3) (f := 3) (v := .int .i64 z3) rfl ukindInt64 ?_) | (with_reducible refine wpList_load1 F rfl rfl rfl (by first | exact m0 | exact m1 | exact m2 | exact m3) (f := 4) (v := .int .i64 z4) rfl ukindInt64 ?_) | (with_reducible refine wpList_load1 F rfl rfl rfl (by first | exact m0 | exact m1 | exact m2 | exact m3) (f := 5) (v := .float .f32 y5) rfl ukindFloat32 ?_)) | (with_reducible refine stop_store rfl ?_))
  show wpList _ _ _ _ _ _
  refine wpList_store1 rfl rfl (f := 5) rfl rfl (F.row m0) uinfo1Float32 (by simp) rfl #[.int .i64 z0, .int .i64 z1, .int .i64 z2, .int .i64 z3, .int .i64 z4, .float .f32 y5] rfl (fun w2 K => ?_)
  replace F := F.wrI0 (cs' := #[.int .i64 z0, .int .i64 z1, .int .i64 z2, .int .i64 z3, .int .i64 z4, .float .f32 y5]) K
  clear K
  go_wp2_with (first | ((with_reducible refine listN F ?_); clear F; intro wN F) | ((with_reducible refine at_load rfl ?_); (with_reducible refine wpList_loadG F rfl rfl rfl (by first | exact m0) Try.underlying111 rfl uinfoEventI rfl ?_)) | (with_reducible refine stop_store rfl ?_))
  show wpList _ _ _ _ _ _
  refine wpList_storeD rfl rfl rfl (cells := #[.int .i64 z0, .int .i64 z1, .int .i64 z2, .int .i64 z3, .int .i64 z4, .float .f32 y5]) rfl (F.row m1) uinfoEventI rfl (by (simp only [List.all_toArray', List.all_cons, List.all_nil, Bool.and_true, Bool.true_and]) <;> rfl) (fun w6 K => ?_)
  have R := hid K.row
  replace F := F.wrI1 K
  have E0 := Eaten.start F
  replace E0 := Eaten.leaf (c := CD.cp c5) (v := .float .f32 y5) E0 (r5.leafLay (flk_ne q5))
  replace E0 := Eaten.leaf (c := .int .i64 z4) (v := .int .i64 z4) E0 (show CD.Lay _ _ _ _ from ⟨rfl, wf4⟩)
  replace E0 := Eaten.leaf (c := .int .i64 z3) (v := .int .i64 z3) E0 (show CD.Lay _ _ _ _ from ⟨rfl, wf3⟩)
  replace E0 := Eaten.leaf (c := .int .i64 z2) (v := .int .i64 z2) E0 (show CD.Lay _ _ _ _ from ⟨rfl, wf2⟩)
  replace E0 := Eaten.leaf (c := .int .i64 z1) (v := .int .i64 z1) E0 (show CD.Lay _ _ _ _ from ⟨rfl, wf1⟩)
  replace E0 := Eaten.leaf (c := .int .i64 z0) (v := .int .i64 z0) E0 (show CD.Lay _ _ _ _ from ⟨rfl, wf0⟩)
  have L := hid (show LayL _ _ _ _ ∧ le w _ from ⟨E0.fin, F.below⟩)
  clear K F E0
  go_wp2
  exact bodyPost_ret (results_row1 rfl _ _ _ _ _ rfl R.out Try.underlying111 rfl uinfoEventI) rfl ⟨[.int .i64 z0, .int .i64 z1, .int .i64 z2, .int .i64 z3, .int .i64 z4, .float .f32 y5], rfl, L.out.1, L.out.2⟩
end Go.Proofs.Ytnkjmgadnejdlac

/- The laws' helpers for []Event, over trees of data. -/
namespace Go.Proofs.Ytnkjmgadnejdlac
open Go.RowKit Go.Fk
theorem sz_elEvent (x : Nat → CD) (k : Nat) : sumTo (fun i => (x i).sz) ((k + 1) * 6) = sumTo (fun i => (x i).sz) (k * 6) + szL ((List.range 6).map (fun j => x (k * 6 + j))) := by
  rw [Nat.succ_mul, sumTo_add]; (simp [szL, sumTo, List.range_succ, List.sum_append]) <;> omega
theorem sz_atEvent {n : Nat} (x : Nat → CD) (k : Nat) (hk : k < n) : sumTo (fun i => (x i).sz) (k * 6) + szL ((List.range 6).map (fun j => x (k * 6 + j))) ≤ sumTo (fun i => (x i).sz) (n * 6) := by
  rw [← sz_elEvent]; exact sumTo_le _ (Nat.mul_le_mul_right _ hk)
theorem sz_zEvent {n : Nat} {x : Nat → CD} (hsh : ∀ i, i < n → ∀ j, j < 6 → ShOk (shEvent.getD j .bool) (x (i * 6 + j))) : CD.sz (CD.sl 6 n x) = n := by
  have h0 : ∀ i, i < n * 6 → (x i).sz = 0 := fun i hi => by
    have hq : i / 6 < n := Nat.div_lt_of_lt_mul (by rwa [Nat.mul_comm] at hi)
    have hr : i % 6 < 6 := Nat.mod_lt _ (by decide)
    have h := hsh _ hq _ hr
    rw [show i / 6 * 6 + i % 6 = i by rw [Nat.mul_comm]; exact Nat.div_add_mod i 6] at h
    generalize i % 6 = j at h hr
    match j, hr, h with
    | 0, _, h => obtain ⟨z, e⟩ := h; rw [e]; rfl
    | 1, _, h => obtain ⟨z, e⟩ := h; rw [e]; rfl
    | 2, _, h => obtain ⟨z, e⟩ := h; rw [e]; rfl
    | 3, _, h => obtain ⟨z, e⟩ := h; rw [e]; rfl
    | 4, _, h => obtain ⟨z, e⟩ := h; rw [e]; rfl
    | 5, _, h => exact CD.sz_fl (show (x i).flk = some .f32 from h)
  simp only [CD.sz]
  rw [sumTo_zero h0, Nat.add_zero]
set_option maxRecDepth 100000 in
set_option maxHeartbeats 4000000 in
theorem szU_EventS (B n : Nat) (x : Nat → CD) (s : Value) (m r : Int) (w : World) (h : (CD.sl 6 n x).Rd w B s) (hsh : ∀ i, i < n → ∀ j, j < 6 → ShOk (shEvent.getD j .bool) (x (i * 6 + j))) (h0 : 0 ≤ m) (h1 : m ≤ 1048576) (hr : lessBy m (CD.sz (CD.sl 6 n x)) = r) :
    Calls Try.prog 57 #[s, .int .i64 m] w (OutI r w) := by
  rw [sz_zEvent hsh] at hr
  have hsm := h.small
  have hrd := hid h
  have hr := hid hr
  clear h hsh
  by_cases g : m - (n : Int) < 0
  · have er : r = -1 := by rw [← hr.out]; exact lessBy_neg g
    subst er
    clear hr
    go_enter Try.func57, Try.ntmps57
    go_wp2_with ((with_reducible refine wpList_lenC rfl rfl rfl Try.underlying61 hrd.out ?_))
    go_ret
    exact ⟨rfl, le_refl _⟩
  · have er : r = m - (n : Int) := by rw [← hr.out]; exact lessBy_pos g
    subst er
    clear hr
    go_enter Try.func57, Try.ntmps57
    go_wp2_with ((with_reducible refine wpList_lenC rfl rfl rfl Try.underlying61 hrd.out ?_))
    go_ret
    exact ⟨rfl, le_refl _⟩
set_option maxRecDepth 100000 in
set_option maxHeartbeats 4000000 in
theorem toU_EventS (B n : Nat) (x : Nat → CD) (s : Value) (w : World) (h : (CD.sl 6 n x).Rd w B s) (hsh : ∀ i, i < n → ∀ j, j < 6 → ShOk (shEvent.getD j .bool) (x (i * 6 + j))) (hz : CD.sz (CD.sl 6 n x) ≤ 1048576) :
    Calls Try.prog 63 #[s] w (OutC (CD.sl 6 n x).cp w) := by
  simp only [CD.sz] at hz
  have hn : n ≤ 1048576 := by omega
  obtain ⟨cs0, hcs, HM⟩ := makeW_Event n hn
  have HP0 : Hid (Part (w.alloc (.cells cs0 111)) w.heap.size 111 6 n 0 (fun i => (x i).cn)) := Part.zero (Row.new w _ _) hcs
  have HL0 := hid (le_alloc w (.cells cs0 111))
  rcases h.form with ⟨rfl, rfl⟩ | ⟨a, cap, rfl, hc, hm⟩
  · simp only [Int.natCast_zero] at HM
    clear h hsh hz hcs
    go_enter Try.func63, Try.ntmps63
    go_wp2
    go_loopw [4] (fun i wr => i = .int .i64 0 ∧ wr = w.alloc (.cells cs0 111)) (fun i _ => 0)
    case atStart => exact ⟨rfl, rfl⟩
    case round =>
      obtain ⟨rfl, rfl⟩ := hrel
      go_wp2
      go_ret
      exact ⟨_, rfl, HP0.out.full (by decide) (fun j h1 h2 => ⟨h1, h2⟩), HL0.out⟩
  · have HE := hid (fun k (hk : k < n) => h.elem hk)
    have HQ := hid hsh
    have HZ := hid hz
    unfold maxLen at hm
    clear h hsh hz hcs
    go_enter Try.func63, Try.ntmps63
    go_wp2
    go_loopw [4] (fun i wr => ∃ k : Nat, k ≤ n ∧ i = .int .i64 k ∧ Hid (Part wr w.heap.size 111 6 n k (fun i => (x i).cn)) ∧ Hid (le w wr)) (fun i _ => n - (intOf i).toNat)
    case atStart => exact ⟨0, by omega, rfl, HP0.out, HL0.out⟩
    case round =>
      obtain ⟨k, hk, rfl, HP, HL⟩ := hrel
      rename_i wr _
      by_cases hlt : k < n
      · obtain ⟨vs, hvl, hvc, hvr⟩ := HE.out k hlt
        have hat := sz_atEvent x k hlt
        have hvc' := hid (fun j v (hv : vs[j]? = some v) => (Below.cell HL.out (cell_lt' (hvc j v hv))).trans (hvc j v hv))
        have HT := hid (fun (w' : World) (hl : le wr w') => toU_Event B _ vs w' (hvr.le (le_trans HL.out hl)) (ShOk.elem (l := shEvent) HQ.out hlt) (by have := HZ.out; omega))
        have hvl := hid hvl
        clear hvc hvr hat
        go_wp2_with (first | (with_reducible refine wpList_indexW0 rfl rfl rfl rfl Try.underlying68 uinfoEventI hlt ?_) | (with_reducible refine wpList_indexW rfl rfl rfl rfl Try.underlying61 uinfoEventL hlt ?_) | ((with_reducible refine at_load rfl ?_); (with_reducible refine wpList_loadW rfl rfl rfl vs hvc'.out Try.underlying166 rfl uinfoEventL hvl.out ?_)) | (go_at_call 102; ((with_reducible refine (HT.out _ (le_refl _)).mono ?_); rintro e w1 ⟨us, rfl, ho, hl⟩; have HO := hid ho; have HL1 := hid hl; clear ho hl)) | (with_reducible refine stop_store rfl ?_))
        show wpList _ _ _ _ _ _
        obtain ⟨cs1, hr1, hs1⟩ := HP.out.row
        have hul : us.length = 6 := by have := HO.out.1; simpa using this
        have hend : k * 6 + 6 ≤ n * 6 := by rw [← Nat.succ_mul]; exact Nat.mul_le_mul_right _ hlt
        refine wpList_storeP rfl rfl rfl (f := k * 6) (cells := us) rfl (hr1.le HL1.out) (by rw [hul]; exact uinfoEventI) (by omega) HO.out.all_one (fun w2 K => ?_)
        have HP2 := hid (HP.out.step hlt HL1.out (by have := HO.out.cn; simpa [List.map_map, Function.comp_def] using this) (hr1.le HL1.out) K)
        have HL2 := hid (K.below _ _ (le_trans HL.out HL1.out) (Nat.le_refl _))
        clear K hr1 hs1 hul hend
        go_wp2
        go_roundw
        case rel => exact ⟨k + 1, by omega, by go_num, HP2.out, HL2.out⟩
        case measure => simp [intOf]; omega
      · obtain rfl : k = n := by omega
        go_wp2
        go_ret
        exact ⟨_, rfl, HP.out.full (by unfold maxLen; omega) (fun j h1 h2 => ⟨h1, h2⟩), HL.out⟩
set_option maxRecDepth 100000 in
set_option maxHeartbeats 4000000 in
theorem eqU_EventS (B B' n : Nat) (x : Nat → CD) (s s' : Value) (w : World) (h : (CD.sl 6 n x).Rd w B s) (h' : (CD.sl 6 n x).Rd w B' s') (hsh : ∀ i, i < n → ∀ j, j < 6 → ShOk (shEvent.getD j .bool) (x (i * 6 + j))) (hz : CD.sz (CD.sl 6 n x) ≤ 1048576) :
    Calls Try.prog 30 #[s, s'] w (OutT w) := by
  have hzz := hid hz
  simp only [CD.sz] at hz
  by_cases h0 : n = 0
  · have hrd := hid h; have hrd' := hid h'
    subst h0
    clear h h' hz hzz hsh
    go_enter Try.func30, Try.ntmps30
    go_wp2_with (first | (with_reducible refine wpList_lenC rfl rfl rfl Try.underlying68 hrd.out ?_) | (with_reducible refine wpList_lenC rfl rfl rfl Try.underlying68 hrd'.out ?_))
    go_loop [5] (fun i => i = .int .i64 0) (fun _ => 0)
    case atStart => rfl
    case round =>
      obtain rfl := hrel
      go_wp2_with (first | (with_reducible refine wpList_lenC rfl rfl rfl Try.underlying68 hrd.out ?_) | (with_reducible refine wpList_lenC rfl rfl rfl Try.underlying68 hrd'.out ?_))
      go_ret
      exact ⟨rfl, le_refl _⟩
  have HE := hid (fun k (hk : k < n) a cap (e : s = .slice (some a) n cap) => (CD.Rd.elem (w := w) (B := B) (wd := 6) (x := x) (cap := cap) (a := a) (e ▸ h) hk))
  have HE' := hid (fun k (hk : k < n) a cap (e : s' = .slice (some a) n cap) => (CD.Rd.elem (w := w) (B := B') (wd := 6) (x := x) (cap := cap) (a := a) (e ▸ h') hk))
  rcases h.form with ⟨_, e0⟩ | ⟨a, cap, rfl, hc, hm⟩
  · exact absurd e0 h0
  rcases h'.form with ⟨_, e0⟩ | ⟨a', cap', rfl, hc', hm'⟩
  · exact absurd e0 h0
  have HQ := hid hsh
  unfold maxLen at hm hm'
  clear h h' hsh h0
  go_enter Try.func30, Try.ntmps30
  go_wp2
  go_loopw [5] (fun i wr => ∃ k : Nat, k ≤ n ∧ i = .int .i64 k ∧ Hid (le w wr)) (fun i _ => n - (intOf i).toNat)
  case atStart => exact ⟨0, by omega, rfl, le_refl _⟩
  case round =>
    obtain ⟨k, hk, rfl, HL⟩ := hrel
    rename_i wr _
    by_cases hlt : k < n
    · obtain ⟨vs, hvl, hvc, hvr⟩ := HE.out k hlt a cap rfl
      obtain ⟨vs', hvl', hvc', hvr'⟩ := HE'.out k hlt a' cap' rfl
      have hat := sz_atEvent x k hlt
      have HQE := hid (fun (w' : World) (hl : le wr w') => eqU_Event B B' _ vs vs' w' (hvr.le (le_trans HL.out hl)) (hvr'.le (le_trans HL.out hl)) (ShOk.elem (l := shEvent) HQ.out hlt) (by omega))
      have gvc := hid (fun (w' : World) (hl : le wr w') j v (hv : vs[j]? = some v) => (Below.cell (le_trans HL.out hl) (cell_lt' (hvc j v hv))).trans (hvc j v hv))
      have gvc' := hid (fun (w' : World) (hl : le wr w') j v (hv : vs'[j]? = some v) => (Below.cell (le_trans HL.out hl) (cell_lt' (hvc' j v hv))).trans (hvc' j v hv))
      have hvl := hid hvl; have hvl' := hid hvl'
      clear hvc hvr hvc' hvr' hat
      go_wp2_with fail
      refine region_freeD (E := leX) (fun f args w v => v = .bool true) (by kernel_rfl) (by kernel_rfl) ?_
      refine wpFreeD_one rfl (.slice (some a) n cap) (fun w1 _ => by kernel_rfl) ?_
      simp only [Act.put, List.setIfInBounds_toArray, List.set_cons_succ, List.set_cons_zero]
      refine wpFreeD_one rfl (.int .i64 k) (fun w1 _ => by kernel_rfl) ?_
      simp only [Act.put, List.setIfInBounds_toArray, List.set_cons_succ, List.set_cons_zero]
      refine wpFreeD_indexW rfl rfl rfl rfl Try.underlying68 uinfoEventI hlt ?_
      simp only [Act.put, List.setIfInBounds_toArray, List.set_cons_succ, List.set_cons_zero]
      refine wpFreeD_loadW rfl rfl rfl vs (fun w1 h1 j v hv => gvc.out w1 (le_trans (le_drewN _ _) h1) j v hv) Try.underlying111 rfl uinfoEventI hvl.out ?_
      simp only [Act.put, List.setIfInBounds_toArray, List.set_cons_succ, List.set_cons_zero]
      refine wpFreeD_one rfl (.slice (some a') n cap') (fun w1 _ => by kernel_rfl) ?_
      simp only [Act.put, List.setIfInBounds_toArray, List.set_cons_succ, List.set_cons_zero]
      refine wpFreeD_one rfl (.int .i64 k) (fun w1 _ => by kernel_rfl) ?_
      simp only [Act.put, List.setIfInBounds_toArray, List.set_cons_succ, List.set_cons_zero]
      refine wpFreeD_indexW rfl rfl rfl rfl Try.underlying68 uinfoEventI hlt ?_
      simp only [Act.put, List.setIfInBounds_toArray, List.set_cons_succ, List.set_cons_zero]
      refine wpFreeD_loadW rfl rfl rfl vs' (fun w1 h1 j v hv => gvc'.out w1 (le_trans (le_drewN _ _) h1) j v hv) Try.underlying111 rfl uinfoEventI hvl'.out ?_
      simp only [Act.put, List.setIfInBounds_toArray, List.set_cons_succ, List.set_cons_zero]
      refine wpFreeD_callB rfl rfl Try.func71 (by kernel_rfl) (by kernel_rfl) (args := #[.agg vs.toArray, .agg vs'.toArray]) (by simp [Act.eval]) (fun v w1 w2 hw hv => hv) (fun w1 hw1 _ => (HQE.out w1 (le_trans (le_drewN _ _) hw1)).mono ?_) ?_
      · rintro e w2 ⟨rfl, hl⟩
        exact ⟨_, rfl, hl, rfl⟩
      rintro v ⟨_, _, _, rfl⟩
      simp only [Act.put, List.setIfInBounds_toArray, List.set_cons_succ, List.set_cons_zero]
      refine wpFreeD_one rfl (.bool false) (fun w1 _ => by kernel_rfl) ?_
      simp only [Act.put, List.setIfInBounds_toArray, List.set_cons_succ, List.set_cons_zero]
      refine wpFreeD_nil (fun wR hwR _ => ?_)
      have HL1 := hid (le_trans HL.out (le_trans (le_drewN _ _) hwR))
      clear hwR
      go_wp2
      go_roundw
      case rel => exact ⟨k + 1, by omega, by go_num, HL1.out⟩
      case measure => simp [intOf]; omega
    · obtain rfl : k = n := by omega
      go_wp2
      go_ret
      exact ⟨rfl, HL.out⟩
end Go.Proofs.Ytnkjmgadnejdlac
