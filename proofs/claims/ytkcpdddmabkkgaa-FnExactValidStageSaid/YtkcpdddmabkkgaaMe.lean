/- Texts of the walk, laid in one file. -/
import Derived.Laws.IdiomStrings
import Derived.Test.YtkcpdddmabkkgaaMd
set_option linter.unusedVariables false
set_option linter.unusedSimpArgs false
/- Events: '(Score).notes', 'hasPlaceFor', 'hasNotes'. -/
namespace Go.Fk
open Go Go.RowKit
end Go.Fk
namespace Go.Proofs.Ytkcpdddmabkkgaa
open Go.RowKit Go.Fk
set_option maxRecDepth 100000 in
set_option maxHeartbeats 4000000 in
theorem i_notes (r b o : Nat) (sD : Value) (pI : Option Addr) (nI capI : Nat) (pE : Option Addr) (nE capE : Nat) (w : World) (hn : nE ≤ maxLen) : Calls Try.prog 41 #[.agg #[.float .f32 r, .float .f32 b, .float .f32 o, sD, .slice pI nI capI, .slice pE nE capE]] w fun e w' => e = .returned (.int .i64 ((nE / 2 : Nat) : Int)) ∧ le w w' := by
  unfold maxLen at hn
  have HQ := hid (show (nE : Int).tdiv 2 = ((nE / 2 : Nat) : Int) by rw [Int.tdiv_eq_ediv_of_nonneg (by omega)]; omega)
  have F := (Frg.nil w).box 38 #[.float .f32 r, .float .f32 b, .float .f32 o, sD, .slice pI nI capI, .slice pE nE capE]
  go_enter Try.func41, Try.ntmps41
  go_wp2_with (first | ((with_reducible refine at_load rfl ?_); (with_reducible refine wpList_load1C rfl (g := w.heap.size) (f := 5) rfl (v := .slice pE nE capE) (by kernel_rfl) (F.row m0) rfl ukindEventSI ?_)) | ((with_reducible refine listN F ?_); clear F; intro wN F))
  go_ret
  exact ⟨by first | rfl | rw [HQ.out] | (rw [← HQ.out]; rfl), F.below⟩
set_option maxRecDepth 100000 in
set_option maxHeartbeats 4000000 in
theorem i_hasPlace (r b o : Nat) (sD : Value) (pI : Option Addr) (nI capI : Nat) (pE : Option Addr) (nE capE : Nat) (a k n i y : Int) (f : Nat) (w : World) (hn : nE ≤ maxLen ∧ nI ≤ maxLen) (hf : fits .f32 f) : Calls Try.prog 42 #[.agg #[.float .f32 r, .float .f32 b, .float .f32 o, sD, .slice pI nI capI, .slice pE nE capE], .agg #[.int .i64 a, .int .i64 k, .int .i64 n, .int .i64 i, .int .i64 y, .float .f32 f]] w (Out_b (plB ((nE / 2 : Nat) : Int) (nI : Int) a k n i y f) w) := by
  have HM := hid (fun (w' : World) => i_notes r b o sD pI nI capI pE nE capE w' hn.1)
  have HK := hid (fun (w' : World) => i_isKey y w')
  have HF := hid (fun (w' : World) => i_isFinite f w' hf)
  have HS := hid (fun (w' : World) => i_SameSample f 0 w')
  unfold maxLen at hn
  obtain ⟨hn1, hn2⟩ := hn
  clear hf
  obtain ⟨M, hM⟩ : ∃ M : Int, M = ((nE / 2 : Nat) : Int) := ⟨_, rfl⟩
  rw [← hM] at HM ⊢
  clear hM
  have F := ((Frg.nil w).box 38 #[.float .f32 r, .float .f32 b, .float .f32 o, sD, .slice pI nI capI, .slice pE nE capE]).box 79 #[.int .i64 a, .int .i64 k, .int .i64 n, .int .i64 i, .int .i64 y, .float .f32 f]
  simp only [World.size_alloc] at F
  have PL0 := hid (show plB M (nI : Int) a k n i y f = (decide (0 ≤ a) && decide (a ≤ 100000) && decide (0 ≤ n) && decide (n < M) && (if k = 2 then decide (0 ≤ i) && decide (i < (nI : Int)) && (decide (-100 ≤ y) && decide (y ≤ 100)) && fin f else if k = 1 then decide (i = 0) && decide (y = 0) && sameB f 0 else false)) from rfl)
  by_cases h0 : 0 ≤ a
  rotate_left
  · have E := hid (show plB M (nI : Int) a k n i y f = false by rw [PL0.out]; simp [h0])
    have d0 := hid (show decide (a < 0) = true by simp; omega)
    clear h0 PL0
    go_enter Try.func42, Try.ntmps42
    have G := F.drewN 1
    go_wp2_with fail
    refine region_freeD (E := leX) (fun _ _ _ v => v = .int .i64 M) (by kernel_rfl) (by kernel_rfl) ?_
    refine wpFreeD_one rfl (.pointer (some ⟨w.heap.size + 1, 0, none⟩)) (fun w1 _ => by kernel_rfl) ?_
    simp only [Act.put, List.setIfInBounds_toArray, List.set_cons_succ, List.set_cons_zero]
    refine wpFreeD_load1 rfl rfl rfl (p := ⟨w.heap.size + 1, 0, none⟩) (v := .int .i64 a) (fun w1 h1 => ((G.row m0).le h1).cell? 0) ukindInt64 ?_
    simp only [Act.put, List.setIfInBounds_toArray, List.set_cons_succ, List.set_cons_zero]
    refine wpFreeD_one rfl (.bool (decide (a < 0))) (fun w1 _ => by kernel_rfl) ?_
    simp only [Act.put, List.setIfInBounds_toArray, List.set_cons_succ, List.set_cons_zero]
    rw [d0.out]
    refine wpFreeD_one rfl (.bool true) (fun w1 _ => by kernel_rfl) ?_
    simp only [Act.put, List.setIfInBounds_toArray, List.set_cons_succ, List.set_cons_zero]
    refine wpFreeD_skip (by kernel_rfl) ?_
    simp only [Act.put, List.setIfInBounds_toArray, List.set_cons_succ, List.set_cons_zero]
    refine wpFreeD_skip (by kernel_rfl) ?_
    simp only [Act.put, List.setIfInBounds_toArray, List.set_cons_succ, List.set_cons_zero]
    refine wpFreeD_skip (by kernel_rfl) ?_
    simp only [Act.put, List.setIfInBounds_toArray, List.set_cons_succ, List.set_cons_zero]
    refine wpFreeD_one rfl (.bool true) (fun w1 _ => by kernel_rfl) ?_
    simp only [Act.put, List.setIfInBounds_toArray, List.set_cons_succ, List.set_cons_zero]
    refine wpFreeD_one rfl (.bool true) (fun w1 _ => by kernel_rfl) ?_
    simp only [Act.put, List.setIfInBounds_toArray, List.set_cons_succ, List.set_cons_zero]
    refine wpFreeD_skip (by kernel_rfl) ?_
    simp only [Act.put, List.setIfInBounds_toArray, List.set_cons_succ, List.set_cons_zero]
    refine wpFreeD_skip (by kernel_rfl) ?_
    simp only [Act.put, List.setIfInBounds_toArray, List.set_cons_succ, List.set_cons_zero]
    refine wpFreeD_skip (by kernel_rfl) ?_
    simp only [Act.put, List.setIfInBounds_toArray, List.set_cons_succ, List.set_cons_zero]
    refine wpFreeD_one rfl (.bool true) (fun w1 _ => by kernel_rfl) ?_
    simp only [Act.put, List.setIfInBounds_toArray, List.set_cons_succ, List.set_cons_zero]
    refine wpFreeD_one rfl (.bool true) (fun w1 _ => by kernel_rfl) ?_
    simp only [Act.put, List.setIfInBounds_toArray, List.set_cons_succ, List.set_cons_zero]
    refine wpFreeD_skip (by kernel_rfl) ?_
    simp only [Act.put, List.setIfInBounds_toArray, List.set_cons_succ, List.set_cons_zero]
    refine wpFreeD_skip (by kernel_rfl) ?_
    simp only [Act.put, List.setIfInBounds_toArray, List.set_cons_succ, List.set_cons_zero]
    refine wpFreeD_skip (by kernel_rfl) ?_
    simp only [Act.put, List.setIfInBounds_toArray, List.set_cons_succ, List.set_cons_zero]
    refine wpFreeD_skip (by kernel_rfl) ?_
    simp only [Act.put, List.setIfInBounds_toArray, List.set_cons_succ, List.set_cons_zero]
    refine wpFreeD_skip (by kernel_rfl) ?_
    simp only [Act.put, List.setIfInBounds_toArray, List.set_cons_succ, List.set_cons_zero]
    refine wpFreeD_one rfl (.bool true) (fun w1 _ => by kernel_rfl) ?_
    simp only [Act.put, List.setIfInBounds_toArray, List.set_cons_succ, List.set_cons_zero]
    refine wpFreeD_nil (fun wR hwR _ => ?_)
    replace F := (F.drewN 1).le hwR
    clear hwR G
    go_wp2
    go_ret
    exact ⟨ret_b E.out.symm, F.below⟩
  have d0 := hid (show decide (a < 0) = false by simp; omega)
  have p0 := hid h0
  clear h0
  by_cases h1 : a ≤ 100000
  rotate_left
  · have E := hid (show plB M (nI : Int) a k n i y f = false by rw [PL0.out]; simp [p0.out, h1])
    have d1 := hid (show decide (100000 < a) = true by simp; omega)
    clear h1 PL0
    go_enter Try.func42, Try.ntmps42
    have G := F.drewN 1
    go_wp2_with fail
    refine region_freeD (E := leX) (fun _ _ _ v => v = .int .i64 M) (by kernel_rfl) (by kernel_rfl) ?_
    refine wpFreeD_one rfl (.pointer (some ⟨w.heap.size + 1, 0, none⟩)) (fun w1 _ => by kernel_rfl) ?_
    simp only [Act.put, List.setIfInBounds_toArray, List.set_cons_succ, List.set_cons_zero]
    refine wpFreeD_load1 rfl rfl rfl (p := ⟨w.heap.size + 1, 0, none⟩) (v := .int .i64 a) (fun w1 h1 => ((G.row m0).le h1).cell? 0) ukindInt64 ?_
    simp only [Act.put, List.setIfInBounds_toArray, List.set_cons_succ, List.set_cons_zero]
    refine wpFreeD_one rfl (.bool (decide (a < 0))) (fun w1 _ => by kernel_rfl) ?_
    simp only [Act.put, List.setIfInBounds_toArray, List.set_cons_succ, List.set_cons_zero]
    rw [d0.out]
    refine wpFreeD_one rfl (.bool false) (fun w1 _ => by kernel_rfl) ?_
    simp only [Act.put, List.setIfInBounds_toArray, List.set_cons_succ, List.set_cons_zero]
    refine wpFreeD_oneW (by kernel_rfl) (.pointer (some ⟨w.heap.size + 1, 0, none⟩)) (fun w1 _ => by kernel_rfl) ?_
    simp only [Act.put, List.setIfInBounds_toArray, List.set_cons_succ, List.set_cons_zero]
    refine wpFreeD_load1W (by kernel_rfl) rfl rfl (p := ⟨w.heap.size + 1, 0, none⟩) (v := .int .i64 a) (fun w1 h1 => ((G.row m0).le h1).cell? 0) ukindInt64 ?_
    simp only [Act.put, List.setIfInBounds_toArray, List.set_cons_succ, List.set_cons_zero]
    refine wpFreeD_oneW (by kernel_rfl) (.bool (decide (100000 < a))) (fun w1 _ => by kernel_rfl) ?_
    simp only [Act.put, List.setIfInBounds_toArray, List.set_cons_succ, List.set_cons_zero]
    rw [d1.out]
    refine wpFreeD_one rfl (.bool true) (fun w1 _ => by kernel_rfl) ?_
    simp only [Act.put, List.setIfInBounds_toArray, List.set_cons_succ, List.set_cons_zero]
    refine wpFreeD_one rfl (.bool true) (fun w1 _ => by kernel_rfl) ?_
    simp only [Act.put, List.setIfInBounds_toArray, List.set_cons_succ, List.set_cons_zero]
    refine wpFreeD_skip (by kernel_rfl) ?_
    simp only [Act.put, List.setIfInBounds_toArray, List.set_cons_succ, List.set_cons_zero]
    refine wpFreeD_skip (by kernel_rfl) ?_
    simp only [Act.put, List.setIfInBounds_toArray, List.set_cons_succ, List.set_cons_zero]
    refine wpFreeD_skip (by kernel_rfl) ?_
    simp only [Act.put, List.setIfInBounds_toArray, List.set_cons_succ, List.set_cons_zero]
    refine wpFreeD_one rfl (.bool true) (fun w1 _ => by kernel_rfl) ?_
    simp only [Act.put, List.setIfInBounds_toArray, List.set_cons_succ, List.set_cons_zero]
    refine wpFreeD_one rfl (.bool true) (fun w1 _ => by kernel_rfl) ?_
    simp only [Act.put, List.setIfInBounds_toArray, List.set_cons_succ, List.set_cons_zero]
    refine wpFreeD_skip (by kernel_rfl) ?_
    simp only [Act.put, List.setIfInBounds_toArray, List.set_cons_succ, List.set_cons_zero]
    refine wpFreeD_skip (by kernel_rfl) ?_
    simp only [Act.put, List.setIfInBounds_toArray, List.set_cons_succ, List.set_cons_zero]
    refine wpFreeD_skip (by kernel_rfl) ?_
    simp only [Act.put, List.setIfInBounds_toArray, List.set_cons_succ, List.set_cons_zero]
    refine wpFreeD_skip (by kernel_rfl) ?_
    simp only [Act.put, List.setIfInBounds_toArray, List.set_cons_succ, List.set_cons_zero]
    refine wpFreeD_skip (by kernel_rfl) ?_
    simp only [Act.put, List.setIfInBounds_toArray, List.set_cons_succ, List.set_cons_zero]
    refine wpFreeD_one rfl (.bool true) (fun w1 _ => by kernel_rfl) ?_
    simp only [Act.put, List.setIfInBounds_toArray, List.set_cons_succ, List.set_cons_zero]
    refine wpFreeD_nil (fun wR hwR _ => ?_)
    replace F := (F.drewN 1).le hwR
    clear hwR G
    go_wp2
    go_ret
    exact ⟨ret_b E.out.symm, F.below⟩
  have d1 := hid (show decide (100000 < a) = false by simp; omega)
  have p1 := hid h1
  clear h1
  by_cases h2 : 0 ≤ n
  rotate_left
  · have E := hid (show plB M (nI : Int) a k n i y f = false by rw [PL0.out]; simp [p0.out, p1.out, h2])
    have d2 := hid (show decide (n < 0) = true by simp; omega)
    clear h2 PL0
    go_enter Try.func42, Try.ntmps42
    have G := F.drewN 1
    go_wp2_with fail
    refine region_freeD (E := leX) (fun _ _ _ v => v = .int .i64 M) (by kernel_rfl) (by kernel_rfl) ?_
    refine wpFreeD_one rfl (.pointer (some ⟨w.heap.size + 1, 0, none⟩)) (fun w1 _ => by kernel_rfl) ?_
    simp only [Act.put, List.setIfInBounds_toArray, List.set_cons_succ, List.set_cons_zero]
    refine wpFreeD_load1 rfl rfl rfl (p := ⟨w.heap.size + 1, 0, none⟩) (v := .int .i64 a) (fun w1 h1 => ((G.row m0).le h1).cell? 0) ukindInt64 ?_
    simp only [Act.put, List.setIfInBounds_toArray, List.set_cons_succ, List.set_cons_zero]
    refine wpFreeD_one rfl (.bool (decide (a < 0))) (fun w1 _ => by kernel_rfl) ?_
    simp only [Act.put, List.setIfInBounds_toArray, List.set_cons_succ, List.set_cons_zero]
    rw [d0.out]
    refine wpFreeD_one rfl (.bool false) (fun w1 _ => by kernel_rfl) ?_
    simp only [Act.put, List.setIfInBounds_toArray, List.set_cons_succ, List.set_cons_zero]
    refine wpFreeD_oneW (by kernel_rfl) (.pointer (some ⟨w.heap.size + 1, 0, none⟩)) (fun w1 _ => by kernel_rfl) ?_
    simp only [Act.put, List.setIfInBounds_toArray, List.set_cons_succ, List.set_cons_zero]
    refine wpFreeD_load1W (by kernel_rfl) rfl rfl (p := ⟨w.heap.size + 1, 0, none⟩) (v := .int .i64 a) (fun w1 h1 => ((G.row m0).le h1).cell? 0) ukindInt64 ?_
    simp only [Act.put, List.setIfInBounds_toArray, List.set_cons_succ, List.set_cons_zero]
    refine wpFreeD_oneW (by kernel_rfl) (.bool (decide (100000 < a))) (fun w1 _ => by kernel_rfl) ?_
    simp only [Act.put, List.setIfInBounds_toArray, List.set_cons_succ, List.set_cons_zero]
    rw [d1.out]
    refine wpFreeD_one rfl (.bool false) (fun w1 _ => by kernel_rfl) ?_
    simp only [Act.put, List.setIfInBounds_toArray, List.set_cons_succ, List.set_cons_zero]
    refine wpFreeD_one rfl (.bool false) (fun w1 _ => by kernel_rfl) ?_
    simp only [Act.put, List.setIfInBounds_toArray, List.set_cons_succ, List.set_cons_zero]
    refine wpFreeD_oneW (by kernel_rfl) (.pointer (some ⟨w.heap.size + 1, 2, none⟩)) (fun w1 _ => by kernel_rfl) ?_
    simp only [Act.put, List.setIfInBounds_toArray, List.set_cons_succ, List.set_cons_zero]
    refine wpFreeD_load1W (by kernel_rfl) rfl rfl (p := ⟨w.heap.size + 1, 2, none⟩) (v := .int .i64 n) (fun w1 h1 => ((G.row m0).le h1).cell? 2) ukindInt64 ?_
    simp only [Act.put, List.setIfInBounds_toArray, List.set_cons_succ, List.set_cons_zero]
    refine wpFreeD_oneW (by kernel_rfl) (.bool (decide (n < 0))) (fun w1 _ => by kernel_rfl) ?_
    simp only [Act.put, List.setIfInBounds_toArray, List.set_cons_succ, List.set_cons_zero]
    rw [d2.out]
    refine wpFreeD_one rfl (.bool true) (fun w1 _ => by kernel_rfl) ?_
    simp only [Act.put, List.setIfInBounds_toArray, List.set_cons_succ, List.set_cons_zero]
    refine wpFreeD_one rfl (.bool true) (fun w1 _ => by kernel_rfl) ?_
    simp only [Act.put, List.setIfInBounds_toArray, List.set_cons_succ, List.set_cons_zero]
    refine wpFreeD_skip (by kernel_rfl) ?_
    simp only [Act.put, List.setIfInBounds_toArray, List.set_cons_succ, List.set_cons_zero]
    refine wpFreeD_skip (by kernel_rfl) ?_
    simp only [Act.put, List.setIfInBounds_toArray, List.set_cons_succ, List.set_cons_zero]
    refine wpFreeD_skip (by kernel_rfl) ?_
    simp only [Act.put, List.setIfInBounds_toArray, List.set_cons_succ, List.set_cons_zero]
    refine wpFreeD_skip (by kernel_rfl) ?_
    simp only [Act.put, List.setIfInBounds_toArray, List.set_cons_succ, List.set_cons_zero]
    refine wpFreeD_skip (by kernel_rfl) ?_
    simp only [Act.put, List.setIfInBounds_toArray, List.set_cons_succ, List.set_cons_zero]
    refine wpFreeD_one rfl (.bool true) (fun w1 _ => by kernel_rfl) ?_
    simp only [Act.put, List.setIfInBounds_toArray, List.set_cons_succ, List.set_cons_zero]
    refine wpFreeD_nil (fun wR hwR _ => ?_)
    replace F := (F.drewN 1).le hwR
    clear hwR G
    go_wp2
    go_ret
    exact ⟨ret_b E.out.symm, F.below⟩
  have d2 := hid (show decide (n < 0) = false by simp; omega)
  have p2 := hid h2
  clear h2
  by_cases h3 : n < M
  rotate_left
  · have E := hid (show plB M (nI : Int) a k n i y f = false by rw [PL0.out]; simp [p0.out, p1.out, p2.out, h3])
    have d3 := hid (show decide (M ≤ n) = true by simp; omega)
    clear h3 PL0
    go_enter Try.func42, Try.ntmps42
    have G := F.drewN 1
    go_wp2_with fail
    refine region_freeD (E := leX) (fun _ _ _ v => v = .int .i64 M) (by kernel_rfl) (by kernel_rfl) ?_
    refine wpFreeD_one rfl (.pointer (some ⟨w.heap.size + 1, 0, none⟩)) (fun w1 _ => by kernel_rfl) ?_
    simp only [Act.put, List.setIfInBounds_toArray, List.set_cons_succ, List.set_cons_zero]
    refine wpFreeD_load1 rfl rfl rfl (p := ⟨w.heap.size + 1, 0, none⟩) (v := .int .i64 a) (fun w1 h1 => ((G.row m0).le h1).cell? 0) ukindInt64 ?_
    simp only [Act.put, List.setIfInBounds_toArray, List.set_cons_succ, List.set_cons_zero]
    refine wpFreeD_one rfl (.bool (decide (a < 0))) (fun w1 _ => by kernel_rfl) ?_
    simp only [Act.put, List.setIfInBounds_toArray, List.set_cons_succ, List.set_cons_zero]
    rw [d0.out]
    refine wpFreeD_one rfl (.bool false) (fun w1 _ => by kernel_rfl) ?_
    simp only [Act.put, List.setIfInBounds_toArray, List.set_cons_succ, List.set_cons_zero]
    refine wpFreeD_oneW (by kernel_rfl) (.pointer (some ⟨w.heap.size + 1, 0, none⟩)) (fun w1 _ => by kernel_rfl) ?_
    simp only [Act.put, List.setIfInBounds_toArray, List.set_cons_succ, List.set_cons_zero]
    refine wpFreeD_load1W (by kernel_rfl) rfl rfl (p := ⟨w.heap.size + 1, 0, none⟩) (v := .int .i64 a) (fun w1 h1 => ((G.row m0).le h1).cell? 0) ukindInt64 ?_
    simp only [Act.put, List.setIfInBounds_toArray, List.set_cons_succ, List.set_cons_zero]
    refine wpFreeD_oneW (by kernel_rfl) (.bool (decide (100000 < a))) (fun w1 _ => by kernel_rfl) ?_
    simp only [Act.put, List.setIfInBounds_toArray, List.set_cons_succ, List.set_cons_zero]
    rw [d1.out]
    refine wpFreeD_one rfl (.bool false) (fun w1 _ => by kernel_rfl) ?_
    simp only [Act.put, List.setIfInBounds_toArray, List.set_cons_succ, List.set_cons_zero]
    refine wpFreeD_one rfl (.bool false) (fun w1 _ => by kernel_rfl) ?_
    simp only [Act.put, List.setIfInBounds_toArray, List.set_cons_succ, List.set_cons_zero]
    refine wpFreeD_oneW (by kernel_rfl) (.pointer (some ⟨w.heap.size + 1, 2, none⟩)) (fun w1 _ => by kernel_rfl) ?_
    simp only [Act.put, List.setIfInBounds_toArray, List.set_cons_succ, List.set_cons_zero]
    refine wpFreeD_load1W (by kernel_rfl) rfl rfl (p := ⟨w.heap.size + 1, 2, none⟩) (v := .int .i64 n) (fun w1 h1 => ((G.row m0).le h1).cell? 2) ukindInt64 ?_
    simp only [Act.put, List.setIfInBounds_toArray, List.set_cons_succ, List.set_cons_zero]
    refine wpFreeD_oneW (by kernel_rfl) (.bool (decide (n < 0))) (fun w1 _ => by kernel_rfl) ?_
    simp only [Act.put, List.setIfInBounds_toArray, List.set_cons_succ, List.set_cons_zero]
    rw [d2.out]
    refine wpFreeD_one rfl (.bool false) (fun w1 _ => by kernel_rfl) ?_
    simp only [Act.put, List.setIfInBounds_toArray, List.set_cons_succ, List.set_cons_zero]
    refine wpFreeD_one rfl (.bool false) (fun w1 _ => by kernel_rfl) ?_
    simp only [Act.put, List.setIfInBounds_toArray, List.set_cons_succ, List.set_cons_zero]
    refine wpFreeD_oneW (by kernel_rfl) (.pointer (some ⟨w.heap.size + 1, 2, none⟩)) (fun w1 _ => by kernel_rfl) ?_
    simp only [Act.put, List.setIfInBounds_toArray, List.set_cons_succ, List.set_cons_zero]
    refine wpFreeD_load1W (by kernel_rfl) rfl rfl (p := ⟨w.heap.size + 1, 2, none⟩) (v := .int .i64 n) (fun w1 h1 => ((G.row m0).le h1).cell? 2) ukindInt64 ?_
    simp only [Act.put, List.setIfInBounds_toArray, List.set_cons_succ, List.set_cons_zero]
    refine wpFreeD_loadGW F rfl (by kernel_rfl) rfl rfl (g := w.heap.size) m1 Try.underlying38 rfl uinfoScoreI rfl ?_
    simp only [Act.put, List.setIfInBounds_toArray, List.set_cons_succ, List.set_cons_zero]
    refine wpFreeD_callW (by kernel_rfl) rfl Try.func41 (by kernel_rfl) (by kernel_rfl) (args := #[.agg #[.float .f32 r, .float .f32 b, .float .f32 o, sD, .slice pI nI capI, .slice pE nE capE]]) (by simp [Act.eval]) (fun v w1 w2 hw hv => hv) (fun w1 hw1 _ => (HM.out w1).mono ?_) ?_
    · rintro e w2 ⟨rfl, hl⟩
      exact ⟨_, rfl, hl, rfl⟩
    rintro v ⟨_, _, _, rfl⟩
    simp only [Act.put, List.setIfInBounds_toArray, List.set_cons_succ, List.set_cons_zero]
    refine wpFreeD_oneW (by kernel_rfl) (.bool (decide (M ≤ n))) (fun w1 _ => by kernel_rfl) ?_
    simp only [Act.put, List.setIfInBounds_toArray, List.set_cons_succ, List.set_cons_zero]
    rw [d3.out]
    refine wpFreeD_one rfl (.bool true) (fun w1 _ => by kernel_rfl) ?_
    simp only [Act.put, List.setIfInBounds_toArray, List.set_cons_succ, List.set_cons_zero]
    refine wpFreeD_nil (fun wR hwR _ => ?_)
    replace F := (F.drewN 1).le hwR
    clear hwR G
    go_wp2
    go_ret
    exact ⟨ret_b E.out.symm, F.below⟩
  have d3 := hid (show decide (M ≤ n) = false by simp; omega)
  have p3 := hid h3
  clear h3
  by_cases k2 : k = 2
  · subst k2
    by_cases c0 : 0 ≤ i
    rotate_left
    · have E := hid (show plB M (nI : Int) a 2 n i y f = false by rw [PL0.out]; simp [p0.out, p1.out, p2.out, p3.out, c0])
      clear PL0
      go_enter Try.func42, Try.ntmps42
      have G := F.drewN 1
      go_wp2_with fail
      refine region_freeD (E := leX) (fun _ _ _ v => v = .int .i64 M) (by kernel_rfl) (by kernel_rfl) ?_
      refine wpFreeD_one rfl (.pointer (some ⟨w.heap.size + 1, 0, none⟩)) (fun w1 _ => by kernel_rfl) ?_
      simp only [Act.put, List.setIfInBounds_toArray, List.set_cons_succ, List.set_cons_zero]
      refine wpFreeD_load1 rfl rfl rfl (p := ⟨w.heap.size + 1, 0, none⟩) (v := .int .i64 a) (fun w1 h1 => ((G.row m0).le h1).cell? 0) ukindInt64 ?_
      simp only [Act.put, List.setIfInBounds_toArray, List.set_cons_succ, List.set_cons_zero]
      refine wpFreeD_one rfl (.bool (decide (a < 0))) (fun w1 _ => by kernel_rfl) ?_
      simp only [Act.put, List.setIfInBounds_toArray, List.set_cons_succ, List.set_cons_zero]
      rw [d0.out]
      refine wpFreeD_one rfl (.bool false) (fun w1 _ => by kernel_rfl) ?_
      simp only [Act.put, List.setIfInBounds_toArray, List.set_cons_succ, List.set_cons_zero]
      refine wpFreeD_oneW (by kernel_rfl) (.pointer (some ⟨w.heap.size + 1, 0, none⟩)) (fun w1 _ => by kernel_rfl) ?_
      simp only [Act.put, List.setIfInBounds_toArray, List.set_cons_succ, List.set_cons_zero]
      refine wpFreeD_load1W (by kernel_rfl) rfl rfl (p := ⟨w.heap.size + 1, 0, none⟩) (v := .int .i64 a) (fun w1 h1 => ((G.row m0).le h1).cell? 0) ukindInt64 ?_
      simp only [Act.put, List.setIfInBounds_toArray, List.set_cons_succ, List.set_cons_zero]
      refine wpFreeD_oneW (by kernel_rfl) (.bool (decide (100000 < a))) (fun w1 _ => by kernel_rfl) ?_
      simp only [Act.put, List.setIfInBounds_toArray, List.set_cons_succ, List.set_cons_zero]
      rw [d1.out]
      refine wpFreeD_one rfl (.bool false) (fun w1 _ => by kernel_rfl) ?_
      simp only [Act.put, List.setIfInBounds_toArray, List.set_cons_succ, List.set_cons_zero]
      refine wpFreeD_one rfl (.bool false) (fun w1 _ => by kernel_rfl) ?_
      simp only [Act.put, List.setIfInBounds_toArray, List.set_cons_succ, List.set_cons_zero]
      refine wpFreeD_oneW (by kernel_rfl) (.pointer (some ⟨w.heap.size + 1, 2, none⟩)) (fun w1 _ => by kernel_rfl) ?_
      simp only [Act.put, List.setIfInBounds_toArray, List.set_cons_succ, List.set_cons_zero]
      refine wpFreeD_load1W (by kernel_rfl) rfl rfl (p := ⟨w.heap.size + 1, 2, none⟩) (v := .int .i64 n) (fun w1 h1 => ((G.row m0).le h1).cell? 2) ukindInt64 ?_
      simp only [Act.put, List.setIfInBounds_toArray, List.set_cons_succ, List.set_cons_zero]
      refine wpFreeD_oneW (by kernel_rfl) (.bool (decide (n < 0))) (fun w1 _ => by kernel_rfl) ?_
      simp only [Act.put, List.setIfInBounds_toArray, List.set_cons_succ, List.set_cons_zero]
      rw [d2.out]
      refine wpFreeD_one rfl (.bool false) (fun w1 _ => by kernel_rfl) ?_
      simp only [Act.put, List.setIfInBounds_toArray, List.set_cons_succ, List.set_cons_zero]
      refine wpFreeD_one rfl (.bool false) (fun w1 _ => by kernel_rfl) ?_
      simp only [Act.put, List.setIfInBounds_toArray, List.set_cons_succ, List.set_cons_zero]
      refine wpFreeD_oneW (by kernel_rfl) (.pointer (some ⟨w.heap.size + 1, 2, none⟩)) (fun w1 _ => by kernel_rfl) ?_
      simp only [Act.put, List.setIfInBounds_toArray, List.set_cons_succ, List.set_cons_zero]
      refine wpFreeD_load1W (by kernel_rfl) rfl rfl (p := ⟨w.heap.size + 1, 2, none⟩) (v := .int .i64 n) (fun w1 h1 => ((G.row m0).le h1).cell? 2) ukindInt64 ?_
      simp only [Act.put, List.setIfInBounds_toArray, List.set_cons_succ, List.set_cons_zero]
      refine wpFreeD_loadGW F rfl (by kernel_rfl) rfl rfl (g := w.heap.size) m1 Try.underlying38 rfl uinfoScoreI rfl ?_
      simp only [Act.put, List.setIfInBounds_toArray, List.set_cons_succ, List.set_cons_zero]
      refine wpFreeD_callW (by kernel_rfl) rfl Try.func41 (by kernel_rfl) (by kernel_rfl) (args := #[.agg #[.float .f32 r, .float .f32 b, .float .f32 o, sD, .slice pI nI capI, .slice pE nE capE]]) (by simp [Act.eval]) (fun v w1 w2 hw hv => hv) (fun w1 hw1 _ => (HM.out w1).mono ?_) ?_
      · rintro e w2 ⟨rfl, hl⟩
        exact ⟨_, rfl, hl, rfl⟩
      rintro v ⟨_, _, _, rfl⟩
      simp only [Act.put, List.setIfInBounds_toArray, List.set_cons_succ, List.set_cons_zero]
      refine wpFreeD_oneW (by kernel_rfl) (.bool (decide (M ≤ n))) (fun w1 _ => by kernel_rfl) ?_
      simp only [Act.put, List.setIfInBounds_toArray, List.set_cons_succ, List.set_cons_zero]
      rw [d3.out]
      refine wpFreeD_one rfl (.bool false) (fun w1 _ => by kernel_rfl) ?_
      simp only [Act.put, List.setIfInBounds_toArray, List.set_cons_succ, List.set_cons_zero]
      refine wpFreeD_nil (fun wR hwR _ => ?_)
      replace F := (F.drewN 1).le hwR
      clear hwR G
      go_wp2_with (first | ((with_reducible refine at_load rfl ?_); first | (with_reducible refine wpList_load1C rfl (g := w.heap.size + 1) (f := 0) rfl (v := .int .i64 _) (by kernel_rfl) (F.row m0) rfl ukindInt64 ?_) | (with_reducible refine wpList_load1C rfl (g := w.heap.size + 1) (f := 1) rfl (v := .int .i64 _) (by kernel_rfl) (F.row m0) rfl ukindInt64 ?_) | (with_reducible refine wpList_load1C rfl (g := w.heap.size + 1) (f := 2) rfl (v := .int .i64 _) (by kernel_rfl) (F.row m0) rfl ukindInt64 ?_) | (with_reducible refine wpList_load1C rfl (g := w.heap.size + 1) (f := 3) rfl (v := .int .i64 _) (by kernel_rfl) (F.row m0) rfl ukindInt64 ?_) | (with_reducible refine wpList_load1C rfl (g := w.heap.size + 1) (f := 4) rfl (v := .int .i64 _) (by kernel_rfl) (F.row m0) rfl ukindInt64 ?_) | (with_reducible refine wpList_load1C rfl (g := w.heap.size + 1) (f := 5) rfl (v := .float .f32 f) (by kernel_rfl) (F.row m0) rfl ukindFloat32 ?_) | (with_reducible refine wpList_load1C rfl (g := w.heap.size) (f := 4) rfl (v := .slice pI nI capI) (by kernel_rfl) (F.row m1) rfl ukindInstrumentSI ?_)) | (go_at_call 63; ((with_reducible refine (HK.out _).mono ?_); rintro e w1 ⟨rfl, rfl⟩)) | (go_at_call 60; ((with_reducible refine (HF.out _).mono ?_); rintro e w1 ⟨rfl, rfl⟩)) | (go_at_call 57; ((with_reducible refine (HS.out _).mono ?_); rintro e w1 ⟨rfl, rfl⟩)) | ((with_reducible refine listN F ?_); clear F; intro wN F))
      go_ret
      exact ⟨ret_b E.out.symm, F.below⟩
    have c0h := hid c0
    by_cases c1 : i < (nI : Int)
    rotate_left
    · have E := hid (show plB M (nI : Int) a 2 n i y f = false by rw [PL0.out]; simp [p0.out, p1.out, p2.out, p3.out, c0h.out, c1])
      clear PL0
      go_enter Try.func42, Try.ntmps42
      have G := F.drewN 1
      go_wp2_with fail
      refine region_freeD (E := leX) (fun _ _ _ v => v = .int .i64 M) (by kernel_rfl) (by kernel_rfl) ?_
      refine wpFreeD_one rfl (.pointer (some ⟨w.heap.size + 1, 0, none⟩)) (fun w1 _ => by kernel_rfl) ?_
      simp only [Act.put, List.setIfInBounds_toArray, List.set_cons_succ, List.set_cons_zero]
      refine wpFreeD_load1 rfl rfl rfl (p := ⟨w.heap.size + 1, 0, none⟩) (v := .int .i64 a) (fun w1 h1 => ((G.row m0).le h1).cell? 0) ukindInt64 ?_
      simp only [Act.put, List.setIfInBounds_toArray, List.set_cons_succ, List.set_cons_zero]
      refine wpFreeD_one rfl (.bool (decide (a < 0))) (fun w1 _ => by kernel_rfl) ?_
      simp only [Act.put, List.setIfInBounds_toArray, List.set_cons_succ, List.set_cons_zero]
      rw [d0.out]
      refine wpFreeD_one rfl (.bool false) (fun w1 _ => by kernel_rfl) ?_
      simp only [Act.put, List.setIfInBounds_toArray, List.set_cons_succ, List.set_cons_zero]
      refine wpFreeD_oneW (by kernel_rfl) (.pointer (some ⟨w.heap.size + 1, 0, none⟩)) (fun w1 _ => by kernel_rfl) ?_
      simp only [Act.put, List.setIfInBounds_toArray, List.set_cons_succ, List.set_cons_zero]
      refine wpFreeD_load1W (by kernel_rfl) rfl rfl (p := ⟨w.heap.size + 1, 0, none⟩) (v := .int .i64 a) (fun w1 h1 => ((G.row m0).le h1).cell? 0) ukindInt64 ?_
      simp only [Act.put, List.setIfInBounds_toArray, List.set_cons_succ, List.set_cons_zero]
      refine wpFreeD_oneW (by kernel_rfl) (.bool (decide (100000 < a))) (fun w1 _ => by kernel_rfl) ?_
      simp only [Act.put, List.setIfInBounds_toArray, List.set_cons_succ, List.set_cons_zero]
      rw [d1.out]
      refine wpFreeD_one rfl (.bool false) (fun w1 _ => by kernel_rfl) ?_
      simp only [Act.put, List.setIfInBounds_toArray, List.set_cons_succ, List.set_cons_zero]
      refine wpFreeD_one rfl (.bool false) (fun w1 _ => by kernel_rfl) ?_
      simp only [Act.put, List.setIfInBounds_toArray, List.set_cons_succ, List.set_cons_zero]
      refine wpFreeD_oneW (by kernel_rfl) (.pointer (some ⟨w.heap.size + 1, 2, none⟩)) (fun w1 _ => by kernel_rfl) ?_
      simp only [Act.put, List.setIfInBounds_toArray, List.set_cons_succ, List.set_cons_zero]
      refine wpFreeD_load1W (by kernel_rfl) rfl rfl (p := ⟨w.heap.size + 1, 2, none⟩) (v := .int .i64 n) (fun w1 h1 => ((G.row m0).le h1).cell? 2) ukindInt64 ?_
      simp only [Act.put, List.setIfInBounds_toArray, List.set_cons_succ, List.set_cons_zero]
      refine wpFreeD_oneW (by kernel_rfl) (.bool (decide (n < 0))) (fun w1 _ => by kernel_rfl) ?_
      simp only [Act.put, List.setIfInBounds_toArray, List.set_cons_succ, List.set_cons_zero]
      rw [d2.out]
      refine wpFreeD_one rfl (.bool false) (fun w1 _ => by kernel_rfl) ?_
      simp only [Act.put, List.setIfInBounds_toArray, List.set_cons_succ, List.set_cons_zero]
      refine wpFreeD_one rfl (.bool false) (fun w1 _ => by kernel_rfl) ?_
      simp only [Act.put, List.setIfInBounds_toArray, List.set_cons_succ, List.set_cons_zero]
      refine wpFreeD_oneW (by kernel_rfl) (.pointer (some ⟨w.heap.size + 1, 2, none⟩)) (fun w1 _ => by kernel_rfl) ?_
      simp only [Act.put, List.setIfInBounds_toArray, List.set_cons_succ, List.set_cons_zero]
      refine wpFreeD_load1W (by kernel_rfl) rfl rfl (p := ⟨w.heap.size + 1, 2, none⟩) (v := .int .i64 n) (fun w1 h1 => ((G.row m0).le h1).cell? 2) ukindInt64 ?_
      simp only [Act.put, List.setIfInBounds_toArray, List.set_cons_succ, List.set_cons_zero]
      refine wpFreeD_loadGW F rfl (by kernel_rfl) rfl rfl (g := w.heap.size) m1 Try.underlying38 rfl uinfoScoreI rfl ?_
      simp only [Act.put, List.setIfInBounds_toArray, List.set_cons_succ, List.set_cons_zero]
      refine wpFreeD_callW (by kernel_rfl) rfl Try.func41 (by kernel_rfl) (by kernel_rfl) (args := #[.agg #[.float .f32 r, .float .f32 b, .float .f32 o, sD, .slice pI nI capI, .slice pE nE capE]]) (by simp [Act.eval]) (fun v w1 w2 hw hv => hv) (fun w1 hw1 _ => (HM.out w1).mono ?_) ?_
      · rintro e w2 ⟨rfl, hl⟩
        exact ⟨_, rfl, hl, rfl⟩
      rintro v ⟨_, _, _, rfl⟩
      simp only [Act.put, List.setIfInBounds_toArray, List.set_cons_succ, List.set_cons_zero]
      refine wpFreeD_oneW (by kernel_rfl) (.bool (decide (M ≤ n))) (fun w1 _ => by kernel_rfl) ?_
      simp only [Act.put, List.setIfInBounds_toArray, List.set_cons_succ, List.set_cons_zero]
      rw [d3.out]
      refine wpFreeD_one rfl (.bool false) (fun w1 _ => by kernel_rfl) ?_
      simp only [Act.put, List.setIfInBounds_toArray, List.set_cons_succ, List.set_cons_zero]
      refine wpFreeD_nil (fun wR hwR _ => ?_)
      replace F := (F.drewN 1).le hwR
      clear hwR G
      go_wp2_with (first | ((with_reducible refine at_load rfl ?_); first | (with_reducible refine wpList_load1C rfl (g := w.heap.size + 1) (f := 0) rfl (v := .int .i64 _) (by kernel_rfl) (F.row m0) rfl ukindInt64 ?_) | (with_reducible refine wpList_load1C rfl (g := w.heap.size + 1) (f := 1) rfl (v := .int .i64 _) (by kernel_rfl) (F.row m0) rfl ukindInt64 ?_) | (with_reducible refine wpList_load1C rfl (g := w.heap.size + 1) (f := 2) rfl (v := .int .i64 _) (by kernel_rfl) (F.row m0) rfl ukindInt64 ?_) | (with_reducible refine wpList_load1C rfl (g := w.heap.size + 1) (f := 3) rfl (v := .int .i64 _) (by kernel_rfl) (F.row m0) rfl ukindInt64 ?_) | (with_reducible refine wpList_load1C rfl (g := w.heap.size + 1) (f := 4) rfl (v := .int .i64 _) (by kernel_rfl) (F.row m0) rfl ukindInt64 ?_) | (with_reducible refine wpList_load1C rfl (g := w.heap.size + 1) (f := 5) rfl (v := .float .f32 f) (by kernel_rfl) (F.row m0) rfl ukindFloat32 ?_) | (with_reducible refine wpList_load1C rfl (g := w.heap.size) (f := 4) rfl (v := .slice pI nI capI) (by kernel_rfl) (F.row m1) rfl ukindInstrumentSI ?_)) | (go_at_call 63; ((with_reducible refine (HK.out _).mono ?_); rintro e w1 ⟨rfl, rfl⟩)) | (go_at_call 60; ((with_reducible refine (HF.out _).mono ?_); rintro e w1 ⟨rfl, rfl⟩)) | (go_at_call 57; ((with_reducible refine (HS.out _).mono ?_); rintro e w1 ⟨rfl, rfl⟩)) | ((with_reducible refine listN F ?_); clear F; intro wN F))
      go_ret
      exact ⟨ret_b E.out.symm, F.below⟩
    have c1h := hid c1
    rcases bool_ft (decide (-100 ≤ y) && decide (y ≤ 100)) with c2 | c2
    · have E := hid (show plB M (nI : Int) a 2 n i y f = false by rw [PL0.out, c2]; simp)
      rw [c2] at HK
      clear c2 PL0
      go_enter Try.func42, Try.ntmps42
      have G := F.drewN 1
      go_wp2_with fail
      refine region_freeD (E := leX) (fun _ _ _ v => v = .int .i64 M) (by kernel_rfl) (by kernel_rfl) ?_
      refine wpFreeD_one rfl (.pointer (some ⟨w.heap.size + 1, 0, none⟩)) (fun w1 _ => by kernel_rfl) ?_
      simp only [Act.put, List.setIfInBounds_toArray, List.set_cons_succ, List.set_cons_zero]
      refine wpFreeD_load1 rfl rfl rfl (p := ⟨w.heap.size + 1, 0, none⟩) (v := .int .i64 a) (fun w1 h1 => ((G.row m0).le h1).cell? 0) ukindInt64 ?_
      simp only [Act.put, List.setIfInBounds_toArray, List.set_cons_succ, List.set_cons_zero]
      refine wpFreeD_one rfl (.bool (decide (a < 0))) (fun w1 _ => by kernel_rfl) ?_
      simp only [Act.put, List.setIfInBounds_toArray, List.set_cons_succ, List.set_cons_zero]
      rw [d0.out]
      refine wpFreeD_one rfl (.bool false) (fun w1 _ => by kernel_rfl) ?_
      simp only [Act.put, List.setIfInBounds_toArray, List.set_cons_succ, List.set_cons_zero]
      refine wpFreeD_oneW (by kernel_rfl) (.pointer (some ⟨w.heap.size + 1, 0, none⟩)) (fun w1 _ => by kernel_rfl) ?_
      simp only [Act.put, List.setIfInBounds_toArray, List.set_cons_succ, List.set_cons_zero]
      refine wpFreeD_load1W (by kernel_rfl) rfl rfl (p := ⟨w.heap.size + 1, 0, none⟩) (v := .int .i64 a) (fun w1 h1 => ((G.row m0).le h1).cell? 0) ukindInt64 ?_
      simp only [Act.put, List.setIfInBounds_toArray, List.set_cons_succ, List.set_cons_zero]
      refine wpFreeD_oneW (by kernel_rfl) (.bool (decide (100000 < a))) (fun w1 _ => by kernel_rfl) ?_
      simp only [Act.put, List.setIfInBounds_toArray, List.set_cons_succ, List.set_cons_zero]
      rw [d1.out]
      refine wpFreeD_one rfl (.bool false) (fun w1 _ => by kernel_rfl) ?_
      simp only [Act.put, List.setIfInBounds_toArray, List.set_cons_succ, List.set_cons_zero]
      refine wpFreeD_one rfl (.bool false) (fun w1 _ => by kernel_rfl) ?_
      simp only [Act.put, List.setIfInBounds_toArray, List.set_cons_succ, List.set_cons_zero]
      refine wpFreeD_oneW (by kernel_rfl) (.pointer (some ⟨w.heap.size + 1, 2, none⟩)) (fun w1 _ => by kernel_rfl) ?_
      simp only [Act.put, List.setIfInBounds_toArray, List.set_cons_succ, List.set_cons_zero]
      refine wpFreeD_load1W (by kernel_rfl) rfl rfl (p := ⟨w.heap.size + 1, 2, none⟩) (v := .int .i64 n) (fun w1 h1 => ((G.row m0).le h1).cell? 2) ukindInt64 ?_
      simp only [Act.put, List.setIfInBounds_toArray, List.set_cons_succ, List.set_cons_zero]
      refine wpFreeD_oneW (by kernel_rfl) (.bool (decide (n < 0))) (fun w1 _ => by kernel_rfl) ?_
      simp only [Act.put, List.setIfInBounds_toArray, List.set_cons_succ, List.set_cons_zero]
      rw [d2.out]
      refine wpFreeD_one rfl (.bool false) (fun w1 _ => by kernel_rfl) ?_
      simp only [Act.put, List.setIfInBounds_toArray, List.set_cons_succ, List.set_cons_zero]
      refine wpFreeD_one rfl (.bool false) (fun w1 _ => by kernel_rfl) ?_
      simp only [Act.put, List.setIfInBounds_toArray, List.set_cons_succ, List.set_cons_zero]
      refine wpFreeD_oneW (by kernel_rfl) (.pointer (some ⟨w.heap.size + 1, 2, none⟩)) (fun w1 _ => by kernel_rfl) ?_
      simp only [Act.put, List.setIfInBounds_toArray, List.set_cons_succ, List.set_cons_zero]
      refine wpFreeD_load1W (by kernel_rfl) rfl rfl (p := ⟨w.heap.size + 1, 2, none⟩) (v := .int .i64 n) (fun w1 h1 => ((G.row m0).le h1).cell? 2) ukindInt64 ?_
      simp only [Act.put, List.setIfInBounds_toArray, List.set_cons_succ, List.set_cons_zero]
      refine wpFreeD_loadGW F rfl (by kernel_rfl) rfl rfl (g := w.heap.size) m1 Try.underlying38 rfl uinfoScoreI rfl ?_
      simp only [Act.put, List.setIfInBounds_toArray, List.set_cons_succ, List.set_cons_zero]
      refine wpFreeD_callW (by kernel_rfl) rfl Try.func41 (by kernel_rfl) (by kernel_rfl) (args := #[.agg #[.float .f32 r, .float .f32 b, .float .f32 o, sD, .slice pI nI capI, .slice pE nE capE]]) (by simp [Act.eval]) (fun v w1 w2 hw hv => hv) (fun w1 hw1 _ => (HM.out w1).mono ?_) ?_
      · rintro e w2 ⟨rfl, hl⟩
        exact ⟨_, rfl, hl, rfl⟩
      rintro v ⟨_, _, _, rfl⟩
      simp only [Act.put, List.setIfInBounds_toArray, List.set_cons_succ, List.set_cons_zero]
      refine wpFreeD_oneW (by kernel_rfl) (.bool (decide (M ≤ n))) (fun w1 _ => by kernel_rfl) ?_
      simp only [Act.put, List.setIfInBounds_toArray, List.set_cons_succ, List.set_cons_zero]
      rw [d3.out]
      refine wpFreeD_one rfl (.bool false) (fun w1 _ => by kernel_rfl) ?_
      simp only [Act.put, List.setIfInBounds_toArray, List.set_cons_succ, List.set_cons_zero]
      refine wpFreeD_nil (fun wR hwR _ => ?_)
      replace F := (F.drewN 1).le hwR
      clear hwR G
      go_wp2_with (first | ((with_reducible refine at_load rfl ?_); first | (with_reducible refine wpList_load1C rfl (g := w.heap.size + 1) (f := 0) rfl (v := .int .i64 _) (by kernel_rfl) (F.row m0) rfl ukindInt64 ?_) | (with_reducible refine wpList_load1C rfl (g := w.heap.size + 1) (f := 1) rfl (v := .int .i64 _) (by kernel_rfl) (F.row m0) rfl ukindInt64 ?_) | (with_reducible refine wpList_load1C rfl (g := w.heap.size + 1) (f := 2) rfl (v := .int .i64 _) (by kernel_rfl) (F.row m0) rfl ukindInt64 ?_) | (with_reducible refine wpList_load1C rfl (g := w.heap.size + 1) (f := 3) rfl (v := .int .i64 _) (by kernel_rfl) (F.row m0) rfl ukindInt64 ?_) | (with_reducible refine wpList_load1C rfl (g := w.heap.size + 1) (f := 4) rfl (v := .int .i64 _) (by kernel_rfl) (F.row m0) rfl ukindInt64 ?_) | (with_reducible refine wpList_load1C rfl (g := w.heap.size + 1) (f := 5) rfl (v := .float .f32 f) (by kernel_rfl) (F.row m0) rfl ukindFloat32 ?_) | (with_reducible refine wpList_load1C rfl (g := w.heap.size) (f := 4) rfl (v := .slice pI nI capI) (by kernel_rfl) (F.row m1) rfl ukindInstrumentSI ?_)) | (go_at_call 63; ((with_reducible refine (HK.out _).mono ?_); rintro e w1 ⟨rfl, rfl⟩)) | (go_at_call 60; ((with_reducible refine (HF.out _).mono ?_); rintro e w1 ⟨rfl, rfl⟩)) | (go_at_call 57; ((with_reducible refine (HS.out _).mono ?_); rintro e w1 ⟨rfl, rfl⟩)) | ((with_reducible refine listN F ?_); clear F; intro wN F))
      go_ret
      exact ⟨ret_b E.out.symm, F.below⟩
    · have E := hid (show plB M (nI : Int) a 2 n i y f = fin f by rw [PL0.out, c2]; simp [p0.out, p1.out, p2.out, p3.out, c0h.out, c1h.out])
      rw [c2] at HK
      clear c2 PL0
      go_enter Try.func42, Try.ntmps42
      have G := F.drewN 1
      go_wp2_with fail
      refine region_freeD (E := leX) (fun _ _ _ v => v = .int .i64 M) (by kernel_rfl) (by kernel_rfl) ?_
      refine wpFreeD_one rfl (.pointer (some ⟨w.heap.size + 1, 0, none⟩)) (fun w1 _ => by kernel_rfl) ?_
      simp only [Act.put, List.setIfInBounds_toArray, List.set_cons_succ, List.set_cons_zero]
      refine wpFreeD_load1 rfl rfl rfl (p := ⟨w.heap.size + 1, 0, none⟩) (v := .int .i64 a) (fun w1 h1 => ((G.row m0).le h1).cell? 0) ukindInt64 ?_
      simp only [Act.put, List.setIfInBounds_toArray, List.set_cons_succ, List.set_cons_zero]
      refine wpFreeD_one rfl (.bool (decide (a < 0))) (fun w1 _ => by kernel_rfl) ?_
      simp only [Act.put, List.setIfInBounds_toArray, List.set_cons_succ, List.set_cons_zero]
      rw [d0.out]
      refine wpFreeD_one rfl (.bool false) (fun w1 _ => by kernel_rfl) ?_
      simp only [Act.put, List.setIfInBounds_toArray, List.set_cons_succ, List.set_cons_zero]
      refine wpFreeD_oneW (by kernel_rfl) (.pointer (some ⟨w.heap.size + 1, 0, none⟩)) (fun w1 _ => by kernel_rfl) ?_
      simp only [Act.put, List.setIfInBounds_toArray, List.set_cons_succ, List.set_cons_zero]
      refine wpFreeD_load1W (by kernel_rfl) rfl rfl (p := ⟨w.heap.size + 1, 0, none⟩) (v := .int .i64 a) (fun w1 h1 => ((G.row m0).le h1).cell? 0) ukindInt64 ?_
      simp only [Act.put, List.setIfInBounds_toArray, List.set_cons_succ, List.set_cons_zero]
      refine wpFreeD_oneW (by kernel_rfl) (.bool (decide (100000 < a))) (fun w1 _ => by kernel_rfl) ?_
      simp only [Act.put, List.setIfInBounds_toArray, List.set_cons_succ, List.set_cons_zero]
      rw [d1.out]
      refine wpFreeD_one rfl (.bool false) (fun w1 _ => by kernel_rfl) ?_
      simp only [Act.put, List.setIfInBounds_toArray, List.set_cons_succ, List.set_cons_zero]
      refine wpFreeD_one rfl (.bool false) (fun w1 _ => by kernel_rfl) ?_
      simp only [Act.put, List.setIfInBounds_toArray, List.set_cons_succ, List.set_cons_zero]
      refine wpFreeD_oneW (by kernel_rfl) (.pointer (some ⟨w.heap.size + 1, 2, none⟩)) (fun w1 _ => by kernel_rfl) ?_
      simp only [Act.put, List.setIfInBounds_toArray, List.set_cons_succ, List.set_cons_zero]
      refine wpFreeD_load1W (by kernel_rfl) rfl rfl (p := ⟨w.heap.size + 1, 2, none⟩) (v := .int .i64 n) (fun w1 h1 => ((G.row m0).le h1).cell? 2) ukindInt64 ?_
      simp only [Act.put, List.setIfInBounds_toArray, List.set_cons_succ, List.set_cons_zero]
      refine wpFreeD_oneW (by kernel_rfl) (.bool (decide (n < 0))) (fun w1 _ => by kernel_rfl) ?_
      simp only [Act.put, List.setIfInBounds_toArray, List.set_cons_succ, List.set_cons_zero]
      rw [d2.out]
      refine wpFreeD_one rfl (.bool false) (fun w1 _ => by kernel_rfl) ?_
      simp only [Act.put, List.setIfInBounds_toArray, List.set_cons_succ, List.set_cons_zero]
      refine wpFreeD_one rfl (.bool false) (fun w1 _ => by kernel_rfl) ?_
      simp only [Act.put, List.setIfInBounds_toArray, List.set_cons_succ, List.set_cons_zero]
      refine wpFreeD_oneW (by kernel_rfl) (.pointer (some ⟨w.heap.size + 1, 2, none⟩)) (fun w1 _ => by kernel_rfl) ?_
      simp only [Act.put, List.setIfInBounds_toArray, List.set_cons_succ, List.set_cons_zero]
      refine wpFreeD_load1W (by kernel_rfl) rfl rfl (p := ⟨w.heap.size + 1, 2, none⟩) (v := .int .i64 n) (fun w1 h1 => ((G.row m0).le h1).cell? 2) ukindInt64 ?_
      simp only [Act.put, List.setIfInBounds_toArray, List.set_cons_succ, List.set_cons_zero]
      refine wpFreeD_loadGW F rfl (by kernel_rfl) rfl rfl (g := w.heap.size) m1 Try.underlying38 rfl uinfoScoreI rfl ?_
      simp only [Act.put, List.setIfInBounds_toArray, List.set_cons_succ, List.set_cons_zero]
      refine wpFreeD_callW (by kernel_rfl) rfl Try.func41 (by kernel_rfl) (by kernel_rfl) (args := #[.agg #[.float .f32 r, .float .f32 b, .float .f32 o, sD, .slice pI nI capI, .slice pE nE capE]]) (by simp [Act.eval]) (fun v w1 w2 hw hv => hv) (fun w1 hw1 _ => (HM.out w1).mono ?_) ?_
      · rintro e w2 ⟨rfl, hl⟩
        exact ⟨_, rfl, hl, rfl⟩
      rintro v ⟨_, _, _, rfl⟩
      simp only [Act.put, List.setIfInBounds_toArray, List.set_cons_succ, List.set_cons_zero]
      refine wpFreeD_oneW (by kernel_rfl) (.bool (decide (M ≤ n))) (fun w1 _ => by kernel_rfl) ?_
      simp only [Act.put, List.setIfInBounds_toArray, List.set_cons_succ, List.set_cons_zero]
      rw [d3.out]
      refine wpFreeD_one rfl (.bool false) (fun w1 _ => by kernel_rfl) ?_
      simp only [Act.put, List.setIfInBounds_toArray, List.set_cons_succ, List.set_cons_zero]
      refine wpFreeD_nil (fun wR hwR _ => ?_)
      replace F := (F.drewN 1).le hwR
      clear hwR G
      go_wp2_with (first | ((with_reducible refine at_load rfl ?_); first | (with_reducible refine wpList_load1C rfl (g := w.heap.size + 1) (f := 0) rfl (v := .int .i64 _) (by kernel_rfl) (F.row m0) rfl ukindInt64 ?_) | (with_reducible refine wpList_load1C rfl (g := w.heap.size + 1) (f := 1) rfl (v := .int .i64 _) (by kernel_rfl) (F.row m0) rfl ukindInt64 ?_) | (with_reducible refine wpList_load1C rfl (g := w.heap.size + 1) (f := 2) rfl (v := .int .i64 _) (by kernel_rfl) (F.row m0) rfl ukindInt64 ?_) | (with_reducible refine wpList_load1C rfl (g := w.heap.size + 1) (f := 3) rfl (v := .int .i64 _) (by kernel_rfl) (F.row m0) rfl ukindInt64 ?_) | (with_reducible refine wpList_load1C rfl (g := w.heap.size + 1) (f := 4) rfl (v := .int .i64 _) (by kernel_rfl) (F.row m0) rfl ukindInt64 ?_) | (with_reducible refine wpList_load1C rfl (g := w.heap.size + 1) (f := 5) rfl (v := .float .f32 f) (by kernel_rfl) (F.row m0) rfl ukindFloat32 ?_) | (with_reducible refine wpList_load1C rfl (g := w.heap.size) (f := 4) rfl (v := .slice pI nI capI) (by kernel_rfl) (F.row m1) rfl ukindInstrumentSI ?_)) | (go_at_call 63; ((with_reducible refine (HK.out _).mono ?_); rintro e w1 ⟨rfl, rfl⟩)) | (go_at_call 60; ((with_reducible refine (HF.out _).mono ?_); rintro e w1 ⟨rfl, rfl⟩)) | (go_at_call 57; ((with_reducible refine (HS.out _).mono ?_); rintro e w1 ⟨rfl, rfl⟩)) | ((with_reducible refine listN F ?_); clear F; intro wN F))
      go_ret
      exact ⟨ret_b E.out.symm, F.below⟩
  have k2b : (k == 2) = false := by simpa using k2
  by_cases k1 : k = 1
  · subst k1
    by_cases c0 : i = 0
    rotate_left
    · have E := hid (show plB M (nI : Int) a 1 n i y f = false by rw [PL0.out]; simp [c0])
      clear PL0
      go_enter Try.func42, Try.ntmps42
      have G := F.drewN 1
      go_wp2_with fail
      refine region_freeD (E := leX) (fun _ _ _ v => v = .int .i64 M) (by kernel_rfl) (by kernel_rfl) ?_
      refine wpFreeD_one rfl (.pointer (some ⟨w.heap.size + 1, 0, none⟩)) (fun w1 _ => by kernel_rfl) ?_
      simp only [Act.put, List.setIfInBounds_toArray, List.set_cons_succ, List.set_cons_zero]
      refine wpFreeD_load1 rfl rfl rfl (p := ⟨w.heap.size + 1, 0, none⟩) (v := .int .i64 a) (fun w1 h1 => ((G.row m0).le h1).cell? 0) ukindInt64 ?_
      simp only [Act.put, List.setIfInBounds_toArray, List.set_cons_succ, List.set_cons_zero]
      refine wpFreeD_one rfl (.bool (decide (a < 0))) (fun w1 _ => by kernel_rfl) ?_
      simp only [Act.put, List.setIfInBounds_toArray, List.set_cons_succ, List.set_cons_zero]
      rw [d0.out]
      refine wpFreeD_one rfl (.bool false) (fun w1 _ => by kernel_rfl) ?_
      simp only [Act.put, List.setIfInBounds_toArray, List.set_cons_succ, List.set_cons_zero]
      refine wpFreeD_oneW (by kernel_rfl) (.pointer (some ⟨w.heap.size + 1, 0, none⟩)) (fun w1 _ => by kernel_rfl) ?_
      simp only [Act.put, List.setIfInBounds_toArray, List.set_cons_succ, List.set_cons_zero]
      refine wpFreeD_load1W (by kernel_rfl) rfl rfl (p := ⟨w.heap.size + 1, 0, none⟩) (v := .int .i64 a) (fun w1 h1 => ((G.row m0).le h1).cell? 0) ukindInt64 ?_
      simp only [Act.put, List.setIfInBounds_toArray, List.set_cons_succ, List.set_cons_zero]
      refine wpFreeD_oneW (by kernel_rfl) (.bool (decide (100000 < a))) (fun w1 _ => by kernel_rfl) ?_
      simp only [Act.put, List.setIfInBounds_toArray, List.set_cons_succ, List.set_cons_zero]
      rw [d1.out]
      refine wpFreeD_one rfl (.bool false) (fun w1 _ => by kernel_rfl) ?_
      simp only [Act.put, List.setIfInBounds_toArray, List.set_cons_succ, List.set_cons_zero]
      refine wpFreeD_one rfl (.bool false) (fun w1 _ => by kernel_rfl) ?_
      simp only [Act.put, List.setIfInBounds_toArray, List.set_cons_succ, List.set_cons_zero]
      refine wpFreeD_oneW (by kernel_rfl) (.pointer (some ⟨w.heap.size + 1, 2, none⟩)) (fun w1 _ => by kernel_rfl) ?_
      simp only [Act.put, List.setIfInBounds_toArray, List.set_cons_succ, List.set_cons_zero]
      refine wpFreeD_load1W (by kernel_rfl) rfl rfl (p := ⟨w.heap.size + 1, 2, none⟩) (v := .int .i64 n) (fun w1 h1 => ((G.row m0).le h1).cell? 2) ukindInt64 ?_
      simp only [Act.put, List.setIfInBounds_toArray, List.set_cons_succ, List.set_cons_zero]
      refine wpFreeD_oneW (by kernel_rfl) (.bool (decide (n < 0))) (fun w1 _ => by kernel_rfl) ?_
      simp only [Act.put, List.setIfInBounds_toArray, List.set_cons_succ, List.set_cons_zero]
      rw [d2.out]
      refine wpFreeD_one rfl (.bool false) (fun w1 _ => by kernel_rfl) ?_
      simp only [Act.put, List.setIfInBounds_toArray, List.set_cons_succ, List.set_cons_zero]
      refine wpFreeD_one rfl (.bool false) (fun w1 _ => by kernel_rfl) ?_
      simp only [Act.put, List.setIfInBounds_toArray, List.set_cons_succ, List.set_cons_zero]
      refine wpFreeD_oneW (by kernel_rfl) (.pointer (some ⟨w.heap.size + 1, 2, none⟩)) (fun w1 _ => by kernel_rfl) ?_
      simp only [Act.put, List.setIfInBounds_toArray, List.set_cons_succ, List.set_cons_zero]
      refine wpFreeD_load1W (by kernel_rfl) rfl rfl (p := ⟨w.heap.size + 1, 2, none⟩) (v := .int .i64 n) (fun w1 h1 => ((G.row m0).le h1).cell? 2) ukindInt64 ?_
      simp only [Act.put, List.setIfInBounds_toArray, List.set_cons_succ, List.set_cons_zero]
      refine wpFreeD_loadGW F rfl (by kernel_rfl) rfl rfl (g := w.heap.size) m1 Try.underlying38 rfl uinfoScoreI rfl ?_
      simp only [Act.put, List.setIfInBounds_toArray, List.set_cons_succ, List.set_cons_zero]
      refine wpFreeD_callW (by kernel_rfl) rfl Try.func41 (by kernel_rfl) (by kernel_rfl) (args := #[.agg #[.float .f32 r, .float .f32 b, .float .f32 o, sD, .slice pI nI capI, .slice pE nE capE]]) (by simp [Act.eval]) (fun v w1 w2 hw hv => hv) (fun w1 hw1 _ => (HM.out w1).mono ?_) ?_
      · rintro e w2 ⟨rfl, hl⟩
        exact ⟨_, rfl, hl, rfl⟩
      rintro v ⟨_, _, _, rfl⟩
      simp only [Act.put, List.setIfInBounds_toArray, List.set_cons_succ, List.set_cons_zero]
      refine wpFreeD_oneW (by kernel_rfl) (.bool (decide (M ≤ n))) (fun w1 _ => by kernel_rfl) ?_
      simp only [Act.put, List.setIfInBounds_toArray, List.set_cons_succ, List.set_cons_zero]
      rw [d3.out]
      refine wpFreeD_one rfl (.bool false) (fun w1 _ => by kernel_rfl) ?_
      simp only [Act.put, List.setIfInBounds_toArray, List.set_cons_succ, List.set_cons_zero]
      refine wpFreeD_nil (fun wR hwR _ => ?_)
      replace F := (F.drewN 1).le hwR
      clear hwR G
      go_wp2_with (first | ((with_reducible refine at_load rfl ?_); first | (with_reducible refine wpList_load1C rfl (g := w.heap.size + 1) (f := 0) rfl (v := .int .i64 _) (by kernel_rfl) (F.row m0) rfl ukindInt64 ?_) | (with_reducible refine wpList_load1C rfl (g := w.heap.size + 1) (f := 1) rfl (v := .int .i64 _) (by kernel_rfl) (F.row m0) rfl ukindInt64 ?_) | (with_reducible refine wpList_load1C rfl (g := w.heap.size + 1) (f := 2) rfl (v := .int .i64 _) (by kernel_rfl) (F.row m0) rfl ukindInt64 ?_) | (with_reducible refine wpList_load1C rfl (g := w.heap.size + 1) (f := 3) rfl (v := .int .i64 _) (by kernel_rfl) (F.row m0) rfl ukindInt64 ?_) | (with_reducible refine wpList_load1C rfl (g := w.heap.size + 1) (f := 4) rfl (v := .int .i64 _) (by kernel_rfl) (F.row m0) rfl ukindInt64 ?_) | (with_reducible refine wpList_load1C rfl (g := w.heap.size + 1) (f := 5) rfl (v := .float .f32 f) (by kernel_rfl) (F.row m0) rfl ukindFloat32 ?_) | (with_reducible refine wpList_load1C rfl (g := w.heap.size) (f := 4) rfl (v := .slice pI nI capI) (by kernel_rfl) (F.row m1) rfl ukindInstrumentSI ?_)) | (go_at_call 63; ((with_reducible refine (HK.out _).mono ?_); rintro e w1 ⟨rfl, rfl⟩)) | (go_at_call 60; ((with_reducible refine (HF.out _).mono ?_); rintro e w1 ⟨rfl, rfl⟩)) | (go_at_call 57; ((with_reducible refine (HS.out _).mono ?_); rintro e w1 ⟨rfl, rfl⟩)) | ((with_reducible refine listN F ?_); clear F; intro wN F))
      go_ret
      exact ⟨ret_b E.out.symm, F.below⟩
    subst c0
    by_cases c1 : y = 0
    rotate_left
    · have E := hid (show plB M (nI : Int) a 1 n 0 y f = false by rw [PL0.out]; simp [c1])
      clear PL0
      go_enter Try.func42, Try.ntmps42
      have G := F.drewN 1
      go_wp2_with fail
      refine region_freeD (E := leX) (fun _ _ _ v => v = .int .i64 M) (by kernel_rfl) (by kernel_rfl) ?_
      refine wpFreeD_one rfl (.pointer (some ⟨w.heap.size + 1, 0, none⟩)) (fun w1 _ => by kernel_rfl) ?_
      simp only [Act.put, List.setIfInBounds_toArray, List.set_cons_succ, List.set_cons_zero]
      refine wpFreeD_load1 rfl rfl rfl (p := ⟨w.heap.size + 1, 0, none⟩) (v := .int .i64 a) (fun w1 h1 => ((G.row m0).le h1).cell? 0) ukindInt64 ?_
      simp only [Act.put, List.setIfInBounds_toArray, List.set_cons_succ, List.set_cons_zero]
      refine wpFreeD_one rfl (.bool (decide (a < 0))) (fun w1 _ => by kernel_rfl) ?_
      simp only [Act.put, List.setIfInBounds_toArray, List.set_cons_succ, List.set_cons_zero]
      rw [d0.out]
      refine wpFreeD_one rfl (.bool false) (fun w1 _ => by kernel_rfl) ?_
      simp only [Act.put, List.setIfInBounds_toArray, List.set_cons_succ, List.set_cons_zero]
      refine wpFreeD_oneW (by kernel_rfl) (.pointer (some ⟨w.heap.size + 1, 0, none⟩)) (fun w1 _ => by kernel_rfl) ?_
      simp only [Act.put, List.setIfInBounds_toArray, List.set_cons_succ, List.set_cons_zero]
      refine wpFreeD_load1W (by kernel_rfl) rfl rfl (p := ⟨w.heap.size + 1, 0, none⟩) (v := .int .i64 a) (fun w1 h1 => ((G.row m0).le h1).cell? 0) ukindInt64 ?_
      simp only [Act.put, List.setIfInBounds_toArray, List.set_cons_succ, List.set_cons_zero]
      refine wpFreeD_oneW (by kernel_rfl) (.bool (decide (100000 < a))) (fun w1 _ => by kernel_rfl) ?_
      simp only [Act.put, List.setIfInBounds_toArray, List.set_cons_succ, List.set_cons_zero]
      rw [d1.out]
      refine wpFreeD_one rfl (.bool false) (fun w1 _ => by kernel_rfl) ?_
      simp only [Act.put, List.setIfInBounds_toArray, List.set_cons_succ, List.set_cons_zero]
      refine wpFreeD_one rfl (.bool false) (fun w1 _ => by kernel_rfl) ?_
      simp only [Act.put, List.setIfInBounds_toArray, List.set_cons_succ, List.set_cons_zero]
      refine wpFreeD_oneW (by kernel_rfl) (.pointer (some ⟨w.heap.size + 1, 2, none⟩)) (fun w1 _ => by kernel_rfl) ?_
      simp only [Act.put, List.setIfInBounds_toArray, List.set_cons_succ, List.set_cons_zero]
      refine wpFreeD_load1W (by kernel_rfl) rfl rfl (p := ⟨w.heap.size + 1, 2, none⟩) (v := .int .i64 n) (fun w1 h1 => ((G.row m0).le h1).cell? 2) ukindInt64 ?_
      simp only [Act.put, List.setIfInBounds_toArray, List.set_cons_succ, List.set_cons_zero]
      refine wpFreeD_oneW (by kernel_rfl) (.bool (decide (n < 0))) (fun w1 _ => by kernel_rfl) ?_
      simp only [Act.put, List.setIfInBounds_toArray, List.set_cons_succ, List.set_cons_zero]
      rw [d2.out]
      refine wpFreeD_one rfl (.bool false) (fun w1 _ => by kernel_rfl) ?_
      simp only [Act.put, List.setIfInBounds_toArray, List.set_cons_succ, List.set_cons_zero]
      refine wpFreeD_one rfl (.bool false) (fun w1 _ => by kernel_rfl) ?_
      simp only [Act.put, List.setIfInBounds_toArray, List.set_cons_succ, List.set_cons_zero]
      refine wpFreeD_oneW (by kernel_rfl) (.pointer (some ⟨w.heap.size + 1, 2, none⟩)) (fun w1 _ => by kernel_rfl) ?_
      simp only [Act.put, List.setIfInBounds_toArray, List.set_cons_succ, List.set_cons_zero]
      refine wpFreeD_load1W (by kernel_rfl) rfl rfl (p := ⟨w.heap.size + 1, 2, none⟩) (v := .int .i64 n) (fun w1 h1 => ((G.row m0).le h1).cell? 2) ukindInt64 ?_
      simp only [Act.put, List.setIfInBounds_toArray, List.set_cons_succ, List.set_cons_zero]
      refine wpFreeD_loadGW F rfl (by kernel_rfl) rfl rfl (g := w.heap.size) m1 Try.underlying38 rfl uinfoScoreI rfl ?_
      simp only [Act.put, List.setIfInBounds_toArray, List.set_cons_succ, List.set_cons_zero]
      refine wpFreeD_callW (by kernel_rfl) rfl Try.func41 (by kernel_rfl) (by kernel_rfl) (args := #[.agg #[.float .f32 r, .float .f32 b, .float .f32 o, sD, .slice pI nI capI, .slice pE nE capE]]) (by simp [Act.eval]) (fun v w1 w2 hw hv => hv) (fun w1 hw1 _ => (HM.out w1).mono ?_) ?_
      · rintro e w2 ⟨rfl, hl⟩
        exact ⟨_, rfl, hl, rfl⟩
      rintro v ⟨_, _, _, rfl⟩
      simp only [Act.put, List.setIfInBounds_toArray, List.set_cons_succ, List.set_cons_zero]
      refine wpFreeD_oneW (by kernel_rfl) (.bool (decide (M ≤ n))) (fun w1 _ => by kernel_rfl) ?_
      simp only [Act.put, List.setIfInBounds_toArray, List.set_cons_succ, List.set_cons_zero]
      rw [d3.out]
      refine wpFreeD_one rfl (.bool false) (fun w1 _ => by kernel_rfl) ?_
      simp only [Act.put, List.setIfInBounds_toArray, List.set_cons_succ, List.set_cons_zero]
      refine wpFreeD_nil (fun wR hwR _ => ?_)
      replace F := (F.drewN 1).le hwR
      clear hwR G
      go_wp2_with (first | ((with_reducible refine at_load rfl ?_); first | (with_reducible refine wpList_load1C rfl (g := w.heap.size + 1) (f := 0) rfl (v := .int .i64 _) (by kernel_rfl) (F.row m0) rfl ukindInt64 ?_) | (with_reducible refine wpList_load1C rfl (g := w.heap.size + 1) (f := 1) rfl (v := .int .i64 _) (by kernel_rfl) (F.row m0) rfl ukindInt64 ?_) | (with_reducible refine wpList_load1C rfl (g := w.heap.size + 1) (f := 2) rfl (v := .int .i64 _) (by kernel_rfl) (F.row m0) rfl ukindInt64 ?_) | (with_reducible refine wpList_load1C rfl (g := w.heap.size + 1) (f := 3) rfl (v := .int .i64 _) (by kernel_rfl) (F.row m0) rfl ukindInt64 ?_) | (with_reducible refine wpList_load1C rfl (g := w.heap.size + 1) (f := 4) rfl (v := .int .i64 _) (by kernel_rfl) (F.row m0) rfl ukindInt64 ?_) | (with_reducible refine wpList_load1C rfl (g := w.heap.size + 1) (f := 5) rfl (v := .float .f32 f) (by kernel_rfl) (F.row m0) rfl ukindFloat32 ?_) | (with_reducible refine wpList_load1C rfl (g := w.heap.size) (f := 4) rfl (v := .slice pI nI capI) (by kernel_rfl) (F.row m1) rfl ukindInstrumentSI ?_)) | (go_at_call 63; ((with_reducible refine (HK.out _).mono ?_); rintro e w1 ⟨rfl, rfl⟩)) | (go_at_call 60; ((with_reducible refine (HF.out _).mono ?_); rintro e w1 ⟨rfl, rfl⟩)) | (go_at_call 57; ((with_reducible refine (HS.out _).mono ?_); rintro e w1 ⟨rfl, rfl⟩)) | ((with_reducible refine listN F ?_); clear F; intro wN F))
      go_ret
      exact ⟨ret_b E.out.symm, F.below⟩
    subst c1
    have E := hid (show plB M (nI : Int) a 1 n 0 0 f = sameB f 0 by rw [PL0.out]; simp [p0.out, p1.out, p2.out, p3.out])
    clear PL0
    go_enter Try.func42, Try.ntmps42
    have G := F.drewN 1
    go_wp2_with fail
    refine region_freeD (E := leX) (fun _ _ _ v => v = .int .i64 M) (by kernel_rfl) (by kernel_rfl) ?_
    refine wpFreeD_one rfl (.pointer (some ⟨w.heap.size + 1, 0, none⟩)) (fun w1 _ => by kernel_rfl) ?_
    simp only [Act.put, List.setIfInBounds_toArray, List.set_cons_succ, List.set_cons_zero]
    refine wpFreeD_load1 rfl rfl rfl (p := ⟨w.heap.size + 1, 0, none⟩) (v := .int .i64 a) (fun w1 h1 => ((G.row m0).le h1).cell? 0) ukindInt64 ?_
    simp only [Act.put, List.setIfInBounds_toArray, List.set_cons_succ, List.set_cons_zero]
    refine wpFreeD_one rfl (.bool (decide (a < 0))) (fun w1 _ => by kernel_rfl) ?_
    simp only [Act.put, List.setIfInBounds_toArray, List.set_cons_succ, List.set_cons_zero]
    rw [d0.out]
    refine wpFreeD_one rfl (.bool false) (fun w1 _ => by kernel_rfl) ?_
    simp only [Act.put, List.setIfInBounds_toArray, List.set_cons_succ, List.set_cons_zero]
    refine wpFreeD_oneW (by kernel_rfl) (.pointer (some ⟨w.heap.size + 1, 0, none⟩)) (fun w1 _ => by kernel_rfl) ?_
    simp only [Act.put, List.setIfInBounds_toArray, List.set_cons_succ, List.set_cons_zero]
    refine wpFreeD_load1W (by kernel_rfl) rfl rfl (p := ⟨w.heap.size + 1, 0, none⟩) (v := .int .i64 a) (fun w1 h1 => ((G.row m0).le h1).cell? 0) ukindInt64 ?_
    simp only [Act.put, List.setIfInBounds_toArray, List.set_cons_succ, List.set_cons_zero]
    refine wpFreeD_oneW (by kernel_rfl) (.bool (decide (100000 < a))) (fun w1 _ => by kernel_rfl) ?_
    simp only [Act.put, List.setIfInBounds_toArray, List.set_cons_succ, List.set_cons_zero]
    rw [d1.out]
    refine wpFreeD_one rfl (.bool false) (fun w1 _ => by kernel_rfl) ?_
    simp only [Act.put, List.setIfInBounds_toArray, List.set_cons_succ, List.set_cons_zero]
    refine wpFreeD_one rfl (.bool false) (fun w1 _ => by kernel_rfl) ?_
    simp only [Act.put, List.setIfInBounds_toArray, List.set_cons_succ, List.set_cons_zero]
    refine wpFreeD_oneW (by kernel_rfl) (.pointer (some ⟨w.heap.size + 1, 2, none⟩)) (fun w1 _ => by kernel_rfl) ?_
    simp only [Act.put, List.setIfInBounds_toArray, List.set_cons_succ, List.set_cons_zero]
    refine wpFreeD_load1W (by kernel_rfl) rfl rfl (p := ⟨w.heap.size + 1, 2, none⟩) (v := .int .i64 n) (fun w1 h1 => ((G.row m0).le h1).cell? 2) ukindInt64 ?_
    simp only [Act.put, List.setIfInBounds_toArray, List.set_cons_succ, List.set_cons_zero]
    refine wpFreeD_oneW (by kernel_rfl) (.bool (decide (n < 0))) (fun w1 _ => by kernel_rfl) ?_
    simp only [Act.put, List.setIfInBounds_toArray, List.set_cons_succ, List.set_cons_zero]
    rw [d2.out]
    refine wpFreeD_one rfl (.bool false) (fun w1 _ => by kernel_rfl) ?_
    simp only [Act.put, List.setIfInBounds_toArray, List.set_cons_succ, List.set_cons_zero]
    refine wpFreeD_one rfl (.bool false) (fun w1 _ => by kernel_rfl) ?_
    simp only [Act.put, List.setIfInBounds_toArray, List.set_cons_succ, List.set_cons_zero]
    refine wpFreeD_oneW (by kernel_rfl) (.pointer (some ⟨w.heap.size + 1, 2, none⟩)) (fun w1 _ => by kernel_rfl) ?_
    simp only [Act.put, List.setIfInBounds_toArray, List.set_cons_succ, List.set_cons_zero]
    refine wpFreeD_load1W (by kernel_rfl) rfl rfl (p := ⟨w.heap.size + 1, 2, none⟩) (v := .int .i64 n) (fun w1 h1 => ((G.row m0).le h1).cell? 2) ukindInt64 ?_
    simp only [Act.put, List.setIfInBounds_toArray, List.set_cons_succ, List.set_cons_zero]
    refine wpFreeD_loadGW F rfl (by kernel_rfl) rfl rfl (g := w.heap.size) m1 Try.underlying38 rfl uinfoScoreI rfl ?_
    simp only [Act.put, List.setIfInBounds_toArray, List.set_cons_succ, List.set_cons_zero]
    refine wpFreeD_callW (by kernel_rfl) rfl Try.func41 (by kernel_rfl) (by kernel_rfl) (args := #[.agg #[.float .f32 r, .float .f32 b, .float .f32 o, sD, .slice pI nI capI, .slice pE nE capE]]) (by simp [Act.eval]) (fun v w1 w2 hw hv => hv) (fun w1 hw1 _ => (HM.out w1).mono ?_) ?_
    · rintro e w2 ⟨rfl, hl⟩
      exact ⟨_, rfl, hl, rfl⟩
    rintro v ⟨_, _, _, rfl⟩
    simp only [Act.put, List.setIfInBounds_toArray, List.set_cons_succ, List.set_cons_zero]
    refine wpFreeD_oneW (by kernel_rfl) (.bool (decide (M ≤ n))) (fun w1 _ => by kernel_rfl) ?_
    simp only [Act.put, List.setIfInBounds_toArray, List.set_cons_succ, List.set_cons_zero]
    rw [d3.out]
    refine wpFreeD_one rfl (.bool false) (fun w1 _ => by kernel_rfl) ?_
    simp only [Act.put, List.setIfInBounds_toArray, List.set_cons_succ, List.set_cons_zero]
    refine wpFreeD_nil (fun wR hwR _ => ?_)
    replace F := (F.drewN 1).le hwR
    clear hwR G
    go_wp2_with (first | ((with_reducible refine at_load rfl ?_); first | (with_reducible refine wpList_load1C rfl (g := w.heap.size + 1) (f := 0) rfl (v := .int .i64 _) (by kernel_rfl) (F.row m0) rfl ukindInt64 ?_) | (with_reducible refine wpList_load1C rfl (g := w.heap.size + 1) (f := 1) rfl (v := .int .i64 _) (by kernel_rfl) (F.row m0) rfl ukindInt64 ?_) | (with_reducible refine wpList_load1C rfl (g := w.heap.size + 1) (f := 2) rfl (v := .int .i64 _) (by kernel_rfl) (F.row m0) rfl ukindInt64 ?_) | (with_reducible refine wpList_load1C rfl (g := w.heap.size + 1) (f := 3) rfl (v := .int .i64 _) (by kernel_rfl) (F.row m0) rfl ukindInt64 ?_) | (with_reducible refine wpList_load1C rfl (g := w.heap.size + 1) (f := 4) rfl (v := .int .i64 _) (by kernel_rfl) (F.row m0) rfl ukindInt64 ?_) | (with_reducible refine wpList_load1C rfl (g := w.heap.size + 1) (f := 5) rfl (v := .float .f32 f) (by kernel_rfl) (F.row m0) rfl ukindFloat32 ?_) | (with_reducible refine wpList_load1C rfl (g := w.heap.size) (f := 4) rfl (v := .slice pI nI capI) (by kernel_rfl) (F.row m1) rfl ukindInstrumentSI ?_)) | (go_at_call 63; ((with_reducible refine (HK.out _).mono ?_); rintro e w1 ⟨rfl, rfl⟩)) | (go_at_call 60; ((with_reducible refine (HF.out _).mono ?_); rintro e w1 ⟨rfl, rfl⟩)) | (go_at_call 57; ((with_reducible refine (HS.out _).mono ?_); rintro e w1 ⟨rfl, rfl⟩)) | ((with_reducible refine listN F ?_); clear F; intro wN F))
    go_ret
    exact ⟨ret_b E.out.symm, F.below⟩
  have k1b : (k == 1) = false := by simpa using k1
  have E := hid (show plB M (nI : Int) a k n i y f = false by rw [PL0.out]; simp [k1, k2])
  clear PL0
  go_enter Try.func42, Try.ntmps42
  have G := F.drewN 1
  go_wp2_with fail
  refine region_freeD (E := leX) (fun _ _ _ v => v = .int .i64 M) (by kernel_rfl) (by kernel_rfl) ?_
  refine wpFreeD_one rfl (.pointer (some ⟨w.heap.size + 1, 0, none⟩)) (fun w1 _ => by kernel_rfl) ?_
  simp only [Act.put, List.setIfInBounds_toArray, List.set_cons_succ, List.set_cons_zero]
  refine wpFreeD_load1 rfl rfl rfl (p := ⟨w.heap.size + 1, 0, none⟩) (v := .int .i64 a) (fun w1 h1 => ((G.row m0).le h1).cell? 0) ukindInt64 ?_
  simp only [Act.put, List.setIfInBounds_toArray, List.set_cons_succ, List.set_cons_zero]
  refine wpFreeD_one rfl (.bool (decide (a < 0))) (fun w1 _ => by kernel_rfl) ?_
  simp only [Act.put, List.setIfInBounds_toArray, List.set_cons_succ, List.set_cons_zero]
  rw [d0.out]
  refine wpFreeD_one rfl (.bool false) (fun w1 _ => by kernel_rfl) ?_
  simp only [Act.put, List.setIfInBounds_toArray, List.set_cons_succ, List.set_cons_zero]
  refine wpFreeD_oneW (by kernel_rfl) (.pointer (some ⟨w.heap.size + 1, 0, none⟩)) (fun w1 _ => by kernel_rfl) ?_
  simp only [Act.put, List.setIfInBounds_toArray, List.set_cons_succ, List.set_cons_zero]
  refine wpFreeD_load1W (by kernel_rfl) rfl rfl (p := ⟨w.heap.size + 1, 0, none⟩) (v := .int .i64 a) (fun w1 h1 => ((G.row m0).le h1).cell? 0) ukindInt64 ?_
  simp only [Act.put, List.setIfInBounds_toArray, List.set_cons_succ, List.set_cons_zero]
  refine wpFreeD_oneW (by kernel_rfl) (.bool (decide (100000 < a))) (fun w1 _ => by kernel_rfl) ?_
  simp only [Act.put, List.setIfInBounds_toArray, List.set_cons_succ, List.set_cons_zero]
  rw [d1.out]
  refine wpFreeD_one rfl (.bool false) (fun w1 _ => by kernel_rfl) ?_
  simp only [Act.put, List.setIfInBounds_toArray, List.set_cons_succ, List.set_cons_zero]
  refine wpFreeD_one rfl (.bool false) (fun w1 _ => by kernel_rfl) ?_
  simp only [Act.put, List.setIfInBounds_toArray, List.set_cons_succ, List.set_cons_zero]
  refine wpFreeD_oneW (by kernel_rfl) (.pointer (some ⟨w.heap.size + 1, 2, none⟩)) (fun w1 _ => by kernel_rfl) ?_
  simp only [Act.put, List.setIfInBounds_toArray, List.set_cons_succ, List.set_cons_zero]
  refine wpFreeD_load1W (by kernel_rfl) rfl rfl (p := ⟨w.heap.size + 1, 2, none⟩) (v := .int .i64 n) (fun w1 h1 => ((G.row m0).le h1).cell? 2) ukindInt64 ?_
  simp only [Act.put, List.setIfInBounds_toArray, List.set_cons_succ, List.set_cons_zero]
  refine wpFreeD_oneW (by kernel_rfl) (.bool (decide (n < 0))) (fun w1 _ => by kernel_rfl) ?_
  simp only [Act.put, List.setIfInBounds_toArray, List.set_cons_succ, List.set_cons_zero]
  rw [d2.out]
  refine wpFreeD_one rfl (.bool false) (fun w1 _ => by kernel_rfl) ?_
  simp only [Act.put, List.setIfInBounds_toArray, List.set_cons_succ, List.set_cons_zero]
  refine wpFreeD_one rfl (.bool false) (fun w1 _ => by kernel_rfl) ?_
  simp only [Act.put, List.setIfInBounds_toArray, List.set_cons_succ, List.set_cons_zero]
  refine wpFreeD_oneW (by kernel_rfl) (.pointer (some ⟨w.heap.size + 1, 2, none⟩)) (fun w1 _ => by kernel_rfl) ?_
  simp only [Act.put, List.setIfInBounds_toArray, List.set_cons_succ, List.set_cons_zero]
  refine wpFreeD_load1W (by kernel_rfl) rfl rfl (p := ⟨w.heap.size + 1, 2, none⟩) (v := .int .i64 n) (fun w1 h1 => ((G.row m0).le h1).cell? 2) ukindInt64 ?_
  simp only [Act.put, List.setIfInBounds_toArray, List.set_cons_succ, List.set_cons_zero]
  refine wpFreeD_loadGW F rfl (by kernel_rfl) rfl rfl (g := w.heap.size) m1 Try.underlying38 rfl uinfoScoreI rfl ?_
  simp only [Act.put, List.setIfInBounds_toArray, List.set_cons_succ, List.set_cons_zero]
  refine wpFreeD_callW (by kernel_rfl) rfl Try.func41 (by kernel_rfl) (by kernel_rfl) (args := #[.agg #[.float .f32 r, .float .f32 b, .float .f32 o, sD, .slice pI nI capI, .slice pE nE capE]]) (by simp [Act.eval]) (fun v w1 w2 hw hv => hv) (fun w1 hw1 _ => (HM.out w1).mono ?_) ?_
  · rintro e w2 ⟨rfl, hl⟩
    exact ⟨_, rfl, hl, rfl⟩
  rintro v ⟨_, _, _, rfl⟩
  simp only [Act.put, List.setIfInBounds_toArray, List.set_cons_succ, List.set_cons_zero]
  refine wpFreeD_oneW (by kernel_rfl) (.bool (decide (M ≤ n))) (fun w1 _ => by kernel_rfl) ?_
  simp only [Act.put, List.setIfInBounds_toArray, List.set_cons_succ, List.set_cons_zero]
  rw [d3.out]
  refine wpFreeD_one rfl (.bool false) (fun w1 _ => by kernel_rfl) ?_
  simp only [Act.put, List.setIfInBounds_toArray, List.set_cons_succ, List.set_cons_zero]
  refine wpFreeD_nil (fun wR hwR _ => ?_)
  replace F := (F.drewN 1).le hwR
  clear hwR G
  go_wp2_with (first | ((with_reducible refine at_load rfl ?_); first | (with_reducible refine wpList_load1C rfl (g := w.heap.size + 1) (f := 0) rfl (v := .int .i64 _) (by kernel_rfl) (F.row m0) rfl ukindInt64 ?_) | (with_reducible refine wpList_load1C rfl (g := w.heap.size + 1) (f := 1) rfl (v := .int .i64 _) (by kernel_rfl) (F.row m0) rfl ukindInt64 ?_) | (with_reducible refine wpList_load1C rfl (g := w.heap.size + 1) (f := 2) rfl (v := .int .i64 _) (by kernel_rfl) (F.row m0) rfl ukindInt64 ?_) | (with_reducible refine wpList_load1C rfl (g := w.heap.size + 1) (f := 3) rfl (v := .int .i64 _) (by kernel_rfl) (F.row m0) rfl ukindInt64 ?_) | (with_reducible refine wpList_load1C rfl (g := w.heap.size + 1) (f := 4) rfl (v := .int .i64 _) (by kernel_rfl) (F.row m0) rfl ukindInt64 ?_) | (with_reducible refine wpList_load1C rfl (g := w.heap.size + 1) (f := 5) rfl (v := .float .f32 f) (by kernel_rfl) (F.row m0) rfl ukindFloat32 ?_) | (with_reducible refine wpList_load1C rfl (g := w.heap.size) (f := 4) rfl (v := .slice pI nI capI) (by kernel_rfl) (F.row m1) rfl ukindInstrumentSI ?_)) | (go_at_call 63; ((with_reducible refine (HK.out _).mono ?_); rintro e w1 ⟨rfl, rfl⟩)) | (go_at_call 60; ((with_reducible refine (HF.out _).mono ?_); rintro e w1 ⟨rfl, rfl⟩)) | (go_at_call 57; ((with_reducible refine (HS.out _).mono ?_); rintro e w1 ⟨rfl, rfl⟩)) | ((with_reducible refine listN F ?_); clear F; intro wN F))
  go_ret
  exact ⟨ret_b E.out.symm, F.below⟩
end Go.Proofs.Ytkcpdddmabkkgaa

/- Events: 'hasNotes'. -/
namespace Go.Fk
open Go Go.RowKit
theorem plB_can {m I a k n i y : Int} {f g : Nat} (h : can .f32 f = g) : plB m I a k n i y f = plB m I a k n i y g := by
  subst h
  unfold plB
  rw [fin_can (can_can .f32 f), show sameB (can .f32 f) 0 = sameB f 0 by unfold sameB; rw [can_can]]
theorem laE_step {x : Nat → CD} {j v : Nat} (hv : evN x j = (v : Int)) : (fun q : Nat => if q = v then evK x j else laE x j (q : Int)) = fun q : Nat => laE x (j + 1) (q : Int) := by
  funext q
  simp only [laE, hv]
  by_cases h : q = v
  · subst h; simp
  · rw [if_neg h, if_neg (by omega)]
end Go.Fk
namespace Go.Proofs.Ytkcpdddmabkkgaa
open Go.RowKit Go.Fk
set_option maxRecDepth 100000 in
set_option maxHeartbeats 4000000 in
theorem i_hasNotes (B : Nat) (x : Nat → CD) (r b o : Nat) (sD : Value) (pI : Option Addr) (nI capI : Nat) (pE : Option Addr) (nE capE : Nat) (w : World) (hs : (CD.sl 6 nE x).RdN w B (.slice pE nE capE)) (hx : EvsOk x nE) (hn : nE ≤ maxLen ∧ nI ≤ maxLen) : Calls Try.prog 25 #[.agg #[.float .f32 r, .float .f32 b, .float .f32 o, sD, .slice pI nI capI, .slice pE nE capE]] w (Out_b (okE ((nE / 2 : Nat) : Int) (nI : Int) x nE) w) := by
  have HM := hid (fun (w' : World) => i_notes r b o sD pI nI capI pE nE capE w' hn.1)
  have HPL := hid (fun (a k n i y : Int) (f : Nat) (w' : World) (hf : fits .f32 f) => i_hasPlace r b o sD pI nI capI pE nE capE a k n i y f w' hn hf)
  have HKB := hid (fun (k : Int) (w' : World) => i_kindBefore k w')
  have HX := hid hx; have HS := hid hs
  have hfm := hid hs.form
  unfold maxLen at hn
  obtain ⟨hn1, hn2⟩ := hn
  clear hx hs
  have OK0 := hid (show okE ((nE / 2 : Nat) : Int) (nI : Int) x nE = (decide (nE % 2 = 0) && decide (nE / 2 ≤ 64) && allB (stE ((nE / 2 : Nat) : Int) (nI : Int) x) nE && allB (fun i => ltL (keyJ x nE i) (keyJ x nE (i + 1))) (nE - 1)) from rfl)
  have HM2 := hid (show ((nE / 2 : Nat) : Int) ≤ 64 ↔ nE / 2 ≤ 64 by omega)
  have F := (Frg.nil w).box 38 #[.float .f32 r, .float .f32 b, .float .f32 o, sD, .slice pI nI capI, .slice pE nE capE]
  generalize hM : ((nE / 2 : Nat) : Int) = M at *
  clear hM
  by_cases h2 : nE % 2 = 0
  rotate_left
  · have E := hid (show okE M (nI : Int) x nE = false by rw [OK0.out]; simp [h2])
    have hq : (nE : Int).tmod 2 = 1 := by rw [Int.tmod_eq_emod_of_nonneg (by omega)]; omega
    clear h2 OK0 HM2
    go_enter Try.func25, Try.ntmps25
    go_wp2_with (first | ((with_reducible refine at_load rfl ?_); (with_reducible refine wpList_load1C rfl (g := w.heap.size) (f := 5) rfl (v := .slice pE nE capE) (by kernel_rfl) (F.row m0) rfl ukindEventSI ?_)) | ((with_reducible refine listN F ?_); clear F; intro wN F))
    go_ret
    exact ⟨ret_b E.out.symm, F.below⟩
  have hq : (nE : Int).tmod 2 = 0 := by rw [Int.tmod_eq_emod_of_nonneg (by omega)]; omega
  by_cases h3 : M ≤ 64
  rotate_left
  · have E := hid (show okE M (nI : Int) x nE = false by rw [OK0.out, decide_eq_false (fun h => h3 (HM2.out.2 h))]; simp)
    have h3' : 64 < M := by omega
    have hd3 : decide (64 < M) = true := decide_eq_true h3'
    clear h2 OK0 HM2
    go_enter Try.func25, Try.ntmps25
    go_wp2_with (first | ((with_reducible refine at_load rfl ?_); first | (with_reducible refine wpList_load1C rfl (g := w.heap.size) (f := 5) rfl (v := .slice pE nE capE) (by kernel_rfl) (F.row m0) rfl ukindEventSI ?_) | (with_reducible refine wpList_loadWC rfl (p := ⟨w.heap.size, 0, none⟩) rfl [.float .f32 r, .float .f32 b, .float .f32 o, sD, .slice pI nI capI, .slice pE nE capE] (by kernel_rfl) (Row.at_part (f := 0) (F.row m0) (fun j hj => by rw [Nat.zero_add]; simp)) Try.underlying38 rfl uinfoScoreI rfl ?_)) | (go_at_call 41; ((with_reducible refine (HM.out _).mono ?_); rintro e w1 ⟨rfl, hl⟩; replace F := F.le hl; clear hl)) | ((with_reducible refine listN F ?_); clear F; intro wN F))
    go_ret
    exact ⟨ret_b E.out.symm, F.below⟩
  have OK1 := hid (show okE M (nI : Int) x nE = (allB (stE M (nI : Int) x) nE && allB (fun i => ltL (keyJ x nE i) (keyJ x nE (i + 1))) (nE - 1)) by rw [OK0.out, decide_eq_true h2, decide_eq_true (HM2.out.1 h3)]; rfl)
  have h3' : ¬ 64 < M := by omega
  have hd3 : decide (64 < M) = false := decide_eq_false h3'
  clear h2 OK0 HM2
  go_enter Try.func25, Try.ntmps25
  go_wp2_with (first | ((with_reducible refine at_load rfl ?_); first | (with_reducible refine wpList_load1C rfl (g := w.heap.size) (f := 5) rfl (v := .slice pE nE capE) (by kernel_rfl) (F.row m0) rfl ukindEventSI ?_) | (with_reducible refine wpList_load1C rfl (g := w.heap.size) (f := 5) rfl (v := .slice pE nE capE) (by kernel_rfl) ((F.row m0).le (le_alloc _ _)) rfl ukindEventSI ?_) | (with_reducible refine wpList_loadWC rfl (p := ⟨w.heap.size, 0, none⟩) rfl [.float .f32 r, .float .f32 b, .float .f32 o, sD, .slice pI nI capI, .slice pE nE capE] (by kernel_rfl) (Row.at_part (f := 0) (F.row m0) (fun j hj => by rw [Nat.zero_add]; simp)) Try.underlying38 rfl uinfoScoreI rfl ?_)) | (go_at_call 41; ((with_reducible refine (HM.out _).mono ?_); rintro e w1 ⟨rfl, hl⟩; replace F := F.le hl; clear hl)) | ((with_reducible refine listN F ?_); clear F; intro wN F))
  have R0 : Row (w1.alloc (.cells z64 86)) w1.heap.size 86 (itab .i64 (fun q : Nat => laE x 0 (q : Int)) 64) := by
    have h := Row.new w1 86 z64
    rw [show z64 = itab .i64 (fun q : Nat => laE x 0 (q : Int)) 64 from zero64] at h ⊢
    exact h
  unfold z64 at R0
  replace R0 := hid R0
  have hg := (F.row m0).lt
  have L0 := hid F.below
  have RS := hid ((F.row m0).le (le_alloc w1 (.cells z64 86)))
  unfold z64 at RS
  clear F HM
  go_loopw [19] (fun i wr => ∃ j : Nat, j ≤ nE ∧ i = .int .i64 j ∧ Hid (∀ i, i < j → stE M (nI : Int) x i = true) ∧ Hid (Row wr w1.heap.size 86 (itab .i64 (fun q : Nat => laE x j (q : Int)) 64)) ∧ Hid (Row wr w.heap.size 38 #[.float .f32 r, .float .f32 b, .float .f32 o, sD, .slice pI nI capI, .slice pE nE capE]) ∧ Hid (le w wr)) (fun i _ => nE - (intOf i).toNat)
  case atStart => exact ⟨0, by omega, rfl, fun i hi => absurd hi (by omega), R0.out, RS.out, le_trans L0.out (le_alloc _ _)⟩
  case round =>
    clear R0 RS
    obtain ⟨j, hj, rfl, HJ, HR, HSc, HL⟩ := hrel
    rename_i wr _
    by_cases hlt : j < nE
    · have hf2 := hfm.out
      rcases hf2 with ⟨_, e0⟩ | ⟨b8, o8, cap8, e8, hc8, hm8⟩
      · omega
      simp only [Value.slice.injEq] at e8
      obtain ⟨rfl, _, rfl⟩ := e8
      unfold maxLen at hm8
      obtain ⟨y, fy, cy, _, cu⟩ := HX.out.vals HS.out hlt
      have CU := hid (fun (w' : World) (hl : le wr w') (q : Nat) (v : Value) (hv : [Value.int .i64 (evA x j), .int .i64 (evK x j), .int .i64 (evN x j), .int .i64 (evI x j), .int .i64 (evY x j), .float .f32 y][q]? = some v) => (Below.cell (le_trans HL.out hl) (cell_lt' (cu q v hv))).trans (cu q v hv))
      have HP := hid (fun (w' : World) => HPL.out (evA x j) (evK x j) (evN x j) (evI x j) (evY x j) y w' fy)
      have PE : plB M (nI : Int) (evA x j) (evK x j) (evN x j) (evI x j) (evY x j) y = plE M (nI : Int) x j := plB_can cy
      rw [PE] at HP
      have SD := hid (show stE M (nI : Int) x j = (plE M (nI : Int) x j && decide (laE x j (evN x j) = befK (evK x j))) from rfl)
      have PD := hid (show plE M (nI : Int) x j = true → 0 ≤ evN x j ∧ evN x j < M from fun h => by unfold plE plB at h; simp only [Bool.and_eq_true, decide_eq_true_eq] at h; exact ⟨h.1.1.2, h.1.2⟩)
      have LS := hid (fun v : Nat => @laE_step x j v)
      have HK := hid (fun (w' : World) => HKB.out (evK x j) w')
      clear cu cy fy PE HPL HKB
      have F := Frg.nil wr
      go_wp2_with (first | ((with_reducible refine listN F ?_); clear F; intro wN F) | (with_reducible refine wpList_indexW0 rfl rfl rfl rfl Try.underlying36 uinfoEventI hlt ?_) | ((with_reducible refine at_load rfl ?_); (with_reducible refine wpList_loadW rfl rfl rfl [.int .i64 (evA x j), .int .i64 (evK x j), .int .i64 (evN x j), .int .i64 (evI x j), .int .i64 (evY x j), .float .f32 y] (CU.out _ F.below) Try.underlying79 rfl uinfoEventI rfl ?_)) | ((with_reducible refine at_store rfl ?_); (refine wpList_storeG F rfl rfl rfl rfl rfl uinfoEventI rfl (by (simp only [List.all_toArray', List.all_cons, List.all_nil, Bool.and_true, Bool.true_and]) <;> rfl) ?_; clear F; intro W F zW; clear zW)))
      have G := F.drewN 1
      have KN := hid (show ¬ (42 = 43) by decide)
      rcases bool_ft (plE M (nI : Int) x j) with hp | hp
      · have hb := hid (show stE M (nI : Int) x j = false by rw [SD.out, hp]; rfl)
        rw [hp] at HP
        clear hp
        refine region_freeD (E := leX) (fun f _ _ u => (f = 42 → u = .bool false) ∧ (f = 43 → u = .int .i64 (befK (evK x j)))) (by kernel_rfl) (by kernel_rfl) ?_
        refine wpFreeD_loadW rfl rfl rfl (p := ⟨w.heap.size, 0, none⟩) [.float .f32 r, .float .f32 b, .float .f32 o, sD, .slice pI nI capI, .slice (some ⟨b8, o8, none⟩) nE capE] (fun w1 h1 => Row.at_part (f := 0) (HSc.out.le (le_trans G.below h1)) (fun j hj => by rw [Nat.zero_add]; simp)) Try.underlying38 rfl uinfoScoreI rfl ?_
        simp only [Act.put, List.setIfInBounds_toArray, List.set_cons_succ, List.set_cons_zero]
        refine wpFreeD_loadG F rfl rfl rfl rfl m0 Try.underlying79 rfl uinfoEventI rfl ?_
        simp only [Act.put, List.setIfInBounds_toArray, List.set_cons_succ, List.set_cons_zero]
        refine wpFreeD_callB rfl rfl Try.func42 (by kernel_rfl) (by kernel_rfl) (args := #[.agg #[.float .f32 r, .float .f32 b, .float .f32 o, sD, .slice pI nI capI, .slice (some ⟨b8, o8, none⟩) nE capE], .agg #[.int .i64 (evA x j), .int .i64 (evK x j), .int .i64 (evN x j), .int .i64 (evI x j), .int .i64 (evY x j), .float .f32 y]]) (by simp [Act.eval]) (fun v w1 w2 hw hv => hv) (fun w1 hw1 _ => (HP.out w1).mono ?_) ?_
        · rintro e w2 ⟨rfl, hl⟩
          exact ⟨_, rfl, hl, fun _ => rfl, fun h => absurd h KN.out⟩
        rintro u ⟨_, _, _, hu, _⟩
        obtain rfl := hu rfl
        simp only [Act.put, List.setIfInBounds_toArray, List.set_cons_succ, List.set_cons_zero]
        refine wpFreeD_one rfl (.bool true) (fun w1 _ => by kernel_rfl) ?_
        simp only [Act.put, List.setIfInBounds_toArray, List.set_cons_succ, List.set_cons_zero]
        refine wpFreeD_one rfl (.bool true) (fun w1 _ => by kernel_rfl) ?_
        simp only [Act.put, List.setIfInBounds_toArray, List.set_cons_succ, List.set_cons_zero]
        refine wpFreeD_skip (by kernel_rfl) ?_
        simp only [Act.put, List.setIfInBounds_toArray, List.set_cons_succ, List.set_cons_zero]
        refine wpFreeD_skip (by kernel_rfl) ?_
        simp only [Act.put, List.setIfInBounds_toArray, List.set_cons_succ, List.set_cons_zero]
        refine wpFreeD_skip (by kernel_rfl) ?_
        simp only [Act.put, List.setIfInBounds_toArray, List.set_cons_succ, List.set_cons_zero]
        refine wpFreeD_skip (by kernel_rfl) ?_
        simp only [Act.put, List.setIfInBounds_toArray, List.set_cons_succ, List.set_cons_zero]
        refine wpFreeD_skip (by kernel_rfl) ?_
        simp only [Act.put, List.setIfInBounds_toArray, List.set_cons_succ, List.set_cons_zero]
        refine wpFreeD_skip (by kernel_rfl) ?_
        simp only [Act.put, List.setIfInBounds_toArray, List.set_cons_succ, List.set_cons_zero]
        refine wpFreeD_skip (by kernel_rfl) ?_
        simp only [Act.put, List.setIfInBounds_toArray, List.set_cons_succ, List.set_cons_zero]
        refine wpFreeD_skip (by kernel_rfl) ?_
        simp only [Act.put, List.setIfInBounds_toArray, List.set_cons_succ, List.set_cons_zero]
        refine wpFreeD_one rfl (.bool true) (fun w1 _ => by kernel_rfl) ?_
        simp only [Act.put, List.setIfInBounds_toArray, List.set_cons_succ, List.set_cons_zero]
        refine wpFreeD_nil (fun wR hwR _ => ?_)
        replace F := (F.drewN 1).le hwR
        clear hwR G
        go_wp2
        go_ret
        exact ⟨ret_b (show false = okE M (nI : Int) x nE by rw [OK1.out, allB_no hlt hb.out]; rfl), le_trans HL.out F.below⟩
      have hp' := hid hp
      obtain ⟨n1, n2⟩ := PD.out hp
      rw [hp] at HP
      clear hp PD
      obtain ⟨v, hv⟩ : ∃ v : Nat, evN x j = (v : Int) := ⟨(evN x j).toNat, by omega⟩
      have LS1 := hid (LS.out v hv)
      clear LS
      rw [hv] at SD n1 n2
      generalize evN x j = N at *
      subst hv
      have hv64 : v < 64 := by omega
      have CL := hid (fun (w' : World) (hl : le wr w') => show w'.cell? ⟨w1.heap.size, v, none⟩ = some (.int .i64 (laE x j (v : Int))) by rw [(HR.out.le hl).cell?]; exact get_itab _ _ _ _ hv64)
      rcases bool_ft (decide (laE x j (v : Int) = befK (evK x j))) with hq2 | hq2
      · have hb := hid (show stE M (nI : Int) x j = false by rw [SD.out, hq2, Bool.and_false])
        have nb := hid (show (laE x j (v : Int) != befK (evK x j)) = true by simpa using hq2)
        clear hq2
        refine region_freeD (E := leX) (fun f _ _ u => (f = 42 → u = .bool true) ∧ (f = 43 → u = .int .i64 (befK (evK x j)))) (by kernel_rfl) (by kernel_rfl) ?_
        refine wpFreeD_loadW rfl rfl rfl (p := ⟨w.heap.size, 0, none⟩) [.float .f32 r, .float .f32 b, .float .f32 o, sD, .slice pI nI capI, .slice (some ⟨b8, o8, none⟩) nE capE] (fun w1 h1 => Row.at_part (f := 0) (HSc.out.le (le_trans G.below h1)) (fun j hj => by rw [Nat.zero_add]; simp)) Try.underlying38 rfl uinfoScoreI rfl ?_
        simp only [Act.put, List.setIfInBounds_toArray, List.set_cons_succ, List.set_cons_zero]
        refine wpFreeD_loadG F rfl rfl rfl rfl m0 Try.underlying79 rfl uinfoEventI rfl ?_
        simp only [Act.put, List.setIfInBounds_toArray, List.set_cons_succ, List.set_cons_zero]
        refine wpFreeD_callB rfl rfl Try.func42 (by kernel_rfl) (by kernel_rfl) (args := #[.agg #[.float .f32 r, .float .f32 b, .float .f32 o, sD, .slice pI nI capI, .slice (some ⟨b8, o8, none⟩) nE capE], .agg #[.int .i64 (evA x j), .int .i64 (evK x j), .int .i64 (v : Int), .int .i64 (evI x j), .int .i64 (evY x j), .float .f32 y]]) (by simp [Act.eval]) (fun v w1 w2 hw hv => hv) (fun w1 hw1 _ => (HP.out w1).mono ?_) ?_
        · rintro e w2 ⟨rfl, hl⟩
          exact ⟨_, rfl, hl, fun _ => rfl, fun h => absurd h KN.out⟩
        rintro u ⟨_, _, _, hu, _⟩
        obtain rfl := hu rfl
        simp only [Act.put, List.setIfInBounds_toArray, List.set_cons_succ, List.set_cons_zero]
        refine wpFreeD_one rfl (.bool false) (fun w1 _ => by kernel_rfl) ?_
        simp only [Act.put, List.setIfInBounds_toArray, List.set_cons_succ, List.set_cons_zero]
        refine wpFreeD_one rfl (.bool false) (fun w1 _ => by kernel_rfl) ?_
        simp only [Act.put, List.setIfInBounds_toArray, List.set_cons_succ, List.set_cons_zero]
        refine wpFreeD_oneW (by kernel_rfl) (.pointer (some ⟨wr.heap.size, 2, none⟩)) (fun w1 _ => by kernel_rfl) ?_
        simp only [Act.put, List.setIfInBounds_toArray, List.set_cons_succ, List.set_cons_zero]
        refine wpFreeD_load1W (by kernel_rfl) rfl rfl (p := ⟨wr.heap.size, 2, none⟩) (v := .int .i64 (v : Int)) (fun w1 h1 => ((G.row m0).le h1).cell? 2) ukindInt64 ?_
        simp only [Act.put, List.setIfInBounds_toArray, List.set_cons_succ, List.set_cons_zero]
        refine wpFreeD_oneW (by kernel_rfl) (.pointer (some ⟨w1.heap.size, v, none⟩)) (fun w2 _ => run_indexArr rfl rfl rfl Try.underlying86 uinfo1Int64 hv64 w2) ?_
        simp only [Act.put, List.setIfInBounds_toArray, List.set_cons_succ, List.set_cons_zero]
        refine wpFreeD_load1W (by kernel_rfl) rfl rfl (p := ⟨w1.heap.size, v, none⟩) (v := .int .i64 (laE x j (v : Int))) (fun w2 h2 => CL.out w2 (le_trans G.below h2)) ukindInt64 ?_
        simp only [Act.put, List.setIfInBounds_toArray, List.set_cons_succ, List.set_cons_zero]
        refine wpFreeD_oneW (by kernel_rfl) (.pointer (some ⟨wr.heap.size, 1, none⟩)) (fun w1 _ => by kernel_rfl) ?_
        simp only [Act.put, List.setIfInBounds_toArray, List.set_cons_succ, List.set_cons_zero]
        refine wpFreeD_load1W (by kernel_rfl) rfl rfl (p := ⟨wr.heap.size, 1, none⟩) (v := .int .i64 (evK x j)) (fun w1 h1 => ((G.row m0).le h1).cell? 1) ukindInt64 ?_
        simp only [Act.put, List.setIfInBounds_toArray, List.set_cons_succ, List.set_cons_zero]
        refine wpFreeD_callW (by kernel_rfl) rfl Try.func43 (by kernel_rfl) (by kernel_rfl) (args := #[.int .i64 (evK x j)]) (by simp [Act.eval]) (fun v w1 w2 hw hv => hv) (fun w1 hw1 _ => (HK.out w1).mono ?_) ?_
        · rintro e w2 ⟨rfl, rfl⟩
          exact ⟨_, rfl, le_refl _, fun h => absurd h.symm KN.out, fun _ => rfl⟩
        rintro u ⟨_, _, _, _, hu⟩
        obtain rfl := hu rfl
        simp only [Act.put, List.setIfInBounds_toArray, List.set_cons_succ, List.set_cons_zero]
        refine wpFreeD_oneW (by kernel_rfl) (.bool (laE x j (v : Int) != befK (evK x j))) (fun w1 _ => by kernel_rfl) ?_
        simp only [Act.put, List.setIfInBounds_toArray, List.set_cons_succ, List.set_cons_zero]
        rw [nb.out]
        refine wpFreeD_one rfl (.bool true) (fun w1 _ => by kernel_rfl) ?_
        simp only [Act.put, List.setIfInBounds_toArray, List.set_cons_succ, List.set_cons_zero]
        refine wpFreeD_nil (fun wR hwR _ => ?_)
        replace F := (F.drewN 1).le hwR
        clear hwR G
        go_wp2
        go_ret
        exact ⟨ret_b (show false = okE M (nI : Int) x nE by rw [OK1.out, allB_no hlt hb.out]; rfl), le_trans HL.out F.below⟩
      · have hb := hid (show stE M (nI : Int) x j = true by rw [SD.out, hq2, hp'.out]; rfl)
        have nb := hid (show (laE x j (v : Int) != befK (evK x j)) = false by simpa using hq2)
        clear hq2
        refine region_freeD (E := leX) (fun f _ _ u => (f = 42 → u = .bool true) ∧ (f = 43 → u = .int .i64 (befK (evK x j)))) (by kernel_rfl) (by kernel_rfl) ?_
        refine wpFreeD_loadW rfl rfl rfl (p := ⟨w.heap.size, 0, none⟩) [.float .f32 r, .float .f32 b, .float .f32 o, sD, .slice pI nI capI, .slice (some ⟨b8, o8, none⟩) nE capE] (fun w1 h1 => Row.at_part (f := 0) (HSc.out.le (le_trans G.below h1)) (fun j hj => by rw [Nat.zero_add]; simp)) Try.underlying38 rfl uinfoScoreI rfl ?_
        simp only [Act.put, List.setIfInBounds_toArray, List.set_cons_succ, List.set_cons_zero]
        refine wpFreeD_loadG F rfl rfl rfl rfl m0 Try.underlying79 rfl uinfoEventI rfl ?_
        simp only [Act.put, List.setIfInBounds_toArray, List.set_cons_succ, List.set_cons_zero]
        refine wpFreeD_callB rfl rfl Try.func42 (by kernel_rfl) (by kernel_rfl) (args := #[.agg #[.float .f32 r, .float .f32 b, .float .f32 o, sD, .slice pI nI capI, .slice (some ⟨b8, o8, none⟩) nE capE], .agg #[.int .i64 (evA x j), .int .i64 (evK x j), .int .i64 (v : Int), .int .i64 (evI x j), .int .i64 (evY x j), .float .f32 y]]) (by simp [Act.eval]) (fun v w1 w2 hw hv => hv) (fun w1 hw1 _ => (HP.out w1).mono ?_) ?_
        · rintro e w2 ⟨rfl, hl⟩
          exact ⟨_, rfl, hl, fun _ => rfl, fun h => absurd h KN.out⟩
        rintro u ⟨_, _, _, hu, _⟩
        obtain rfl := hu rfl
        simp only [Act.put, List.setIfInBounds_toArray, List.set_cons_succ, List.set_cons_zero]
        refine wpFreeD_one rfl (.bool false) (fun w1 _ => by kernel_rfl) ?_
        simp only [Act.put, List.setIfInBounds_toArray, List.set_cons_succ, List.set_cons_zero]
        refine wpFreeD_one rfl (.bool false) (fun w1 _ => by kernel_rfl) ?_
        simp only [Act.put, List.setIfInBounds_toArray, List.set_cons_succ, List.set_cons_zero]
        refine wpFreeD_oneW (by kernel_rfl) (.pointer (some ⟨wr.heap.size, 2, none⟩)) (fun w1 _ => by kernel_rfl) ?_
        simp only [Act.put, List.setIfInBounds_toArray, List.set_cons_succ, List.set_cons_zero]
        refine wpFreeD_load1W (by kernel_rfl) rfl rfl (p := ⟨wr.heap.size, 2, none⟩) (v := .int .i64 (v : Int)) (fun w1 h1 => ((G.row m0).le h1).cell? 2) ukindInt64 ?_
        simp only [Act.put, List.setIfInBounds_toArray, List.set_cons_succ, List.set_cons_zero]
        refine wpFreeD_oneW (by kernel_rfl) (.pointer (some ⟨w1.heap.size, v, none⟩)) (fun w2 _ => run_indexArr rfl rfl rfl Try.underlying86 uinfo1Int64 hv64 w2) ?_
        simp only [Act.put, List.setIfInBounds_toArray, List.set_cons_succ, List.set_cons_zero]
        refine wpFreeD_load1W (by kernel_rfl) rfl rfl (p := ⟨w1.heap.size, v, none⟩) (v := .int .i64 (laE x j (v : Int))) (fun w2 h2 => CL.out w2 (le_trans G.below h2)) ukindInt64 ?_
        simp only [Act.put, List.setIfInBounds_toArray, List.set_cons_succ, List.set_cons_zero]
        refine wpFreeD_oneW (by kernel_rfl) (.pointer (some ⟨wr.heap.size, 1, none⟩)) (fun w1 _ => by kernel_rfl) ?_
        simp only [Act.put, List.setIfInBounds_toArray, List.set_cons_succ, List.set_cons_zero]
        refine wpFreeD_load1W (by kernel_rfl) rfl rfl (p := ⟨wr.heap.size, 1, none⟩) (v := .int .i64 (evK x j)) (fun w1 h1 => ((G.row m0).le h1).cell? 1) ukindInt64 ?_
        simp only [Act.put, List.setIfInBounds_toArray, List.set_cons_succ, List.set_cons_zero]
        refine wpFreeD_callW (by kernel_rfl) rfl Try.func43 (by kernel_rfl) (by kernel_rfl) (args := #[.int .i64 (evK x j)]) (by simp [Act.eval]) (fun v w1 w2 hw hv => hv) (fun w1 hw1 _ => (HK.out w1).mono ?_) ?_
        · rintro e w2 ⟨rfl, rfl⟩
          exact ⟨_, rfl, le_refl _, fun h => absurd h.symm KN.out, fun _ => rfl⟩
        rintro u ⟨_, _, _, _, hu⟩
        obtain rfl := hu rfl
        simp only [Act.put, List.setIfInBounds_toArray, List.set_cons_succ, List.set_cons_zero]
        refine wpFreeD_oneW (by kernel_rfl) (.bool (laE x j (v : Int) != befK (evK x j))) (fun w1 _ => by kernel_rfl) ?_
        simp only [Act.put, List.setIfInBounds_toArray, List.set_cons_succ, List.set_cons_zero]
        rw [nb.out]
        refine wpFreeD_one rfl (.bool false) (fun w1 _ => by kernel_rfl) ?_
        simp only [Act.put, List.setIfInBounds_toArray, List.set_cons_succ, List.set_cons_zero]
        refine wpFreeD_nil (fun wR hwR _ => ?_)
        replace F := (F.drewN 1).le hwR
        clear hwR G
        have gb : w.heap.size ≤ w1.heap.size := Nat.le_of_lt hg
        go_wp2_with (first | ((with_reducible refine listN F ?_); clear F; intro wN F) | (with_reducible refine wpList_indexAP rfl rfl rfl rfl Try.underlying86 uinfo1Int64 hv64 ?_) | ((with_reducible refine at_load rfl ?_); first | (with_reducible refine wpList_load1C rfl (f := 1) rfl (v := .int .i64 _) (by kernel_rfl) (F.row m0) rfl ukindInt64 ?_) | (with_reducible refine wpList_load1C rfl (f := 2) rfl (v := .int .i64 _) (by kernel_rfl) (F.row m0) rfl ukindInt64 ?_)) | ((with_reducible refine at_store rfl ?_); (refine wpList_store1 rfl rfl (f := v) rfl rfl (HR.out.le F.below) uinfo1Int64 (by rw [size_itab]; exact hv64) rfl _ (set_itab _ _ _ _ _) ?_; intro w6 K6)))
        go_roundw
        case rel =>
          refine ⟨j + 1, by omega, by go_num, fun i hi => by rcases Nat.lt_or_ge i j with h | h; exact HJ.out i h; rw [show i = j by omega]; exact hb.out, ?_, K6.other _ _ _ (by omega) (HSc.out.le F.below), K6.below _ _ (le_trans HL.out F.below) gb⟩
          have h := K6.row
          rwa [LS1.out] at h
        case measure => simp [intOf]; omega
    · obtain rfl : j = nE := by omega
      have HST := HJ.out
      have hall : allB (stE M (nI : Int) x) j = true := allB_yes HST
      have OK2 := hid (show okE M (nI : Int) x j = allB (srtE x j) (j - 1) by rw [OK1.out, hall, Bool.true_and, ok_strict hall]; rfl)
      have HNN : ∀ i, i < j → 0 ≤ evN x i ∧ evN x i < 64 := fun i hi => by have h := stE_note (HST i hi); omega
      have HCM := hid (fun (w' : World) (hl : le w w') => i_comparerOf B (.slice pE j capE) x j w' (HS.out.le hl) HX.out HNN)
      have HIS := hid (fun (bx : Nat) (w' : World) (hl : le w w') (R : Row w' bx 86 (itab .i64 (fun q : Nat => saE x j (q : Int)) 64)) => i_IsSortedEv B (.slice pE j capE) x j bx w' (HS.out.le hl) HX.out HNN R)
      clear HNN hall HST OK1 HJ HPL HKB HX HS hfm
      have KN := hid (show ¬ (45 = 44) by decide)
      go_wp2_with fail
      refine region_freeD (E := leX) (fun f _ w u => (f = 45 → ∃ bx, u = .func (.func 64) #[] #[.pointer (some ⟨bx, 0, none⟩)] ∧ Row w bx 86 (itab .i64 (fun q : Nat => saE x j (q : Int)) 64)) ∧ (f = 44 → u = .bool (allB (srtE x j) (j - 1)))) (by kernel_rfl) (by kernel_rfl) ?_
      refine wpFreeD_one rfl (.pointer (some ⟨w.heap.size, 5, none⟩)) (fun w1 _ => by kernel_rfl) ?_
      simp only [Act.put, List.setIfInBounds_toArray, List.set_cons_succ, List.set_cons_zero]
      refine wpFreeD_load1 rfl rfl rfl (p := ⟨w.heap.size, 5, none⟩) (v := .slice pE j capE) (fun w2 h2 => (HSc.out.le (le_trans (le_drewN _ _) h2)).cell? 5) ukindEventSI ?_
      simp only [Act.put, List.setIfInBounds_toArray, List.set_cons_succ, List.set_cons_zero]
      refine wpFreeD_one rfl (.pointer (some ⟨w.heap.size, 5, none⟩)) (fun w1 _ => by kernel_rfl) ?_
      simp only [Act.put, List.setIfInBounds_toArray, List.set_cons_succ, List.set_cons_zero]
      refine wpFreeD_load1 rfl rfl rfl (p := ⟨w.heap.size, 5, none⟩) (v := .slice pE j capE) (fun w2 h2 => (HSc.out.le (le_trans (le_drewN _ _) h2)).cell? 5) ukindEventSI ?_
      simp only [Act.put, List.setIfInBounds_toArray, List.set_cons_succ, List.set_cons_zero]
      refine wpFreeD_callB rfl rfl Try.func45 (by kernel_rfl) (by kernel_rfl) (args := #[.slice pE j capE]) (by simp [Act.eval]) (fun v w1 w2 hw hv => ⟨fun h => by obtain ⟨bx, h1, h2⟩ := hv.1 h; exact ⟨bx, h1, h2.le hw⟩, hv.2⟩) (fun w2 hw2 _ => (HCM.out w2 (le_trans HL.out (le_trans (le_drewN _ _) hw2))).mono ?_) ?_
      · rintro e w3 ⟨bx, rfl, hr, hl⟩
        exact ⟨_, rfl, hl, fun _ => ⟨bx, rfl, hr⟩, fun h => absurd h KN.out⟩
      rintro u ⟨_, _, _, hu, _⟩
      obtain ⟨bx, rfl, _⟩ := hu rfl
      clear hu
      simp only [Act.put, List.setIfInBounds_toArray, List.set_cons_succ, List.set_cons_zero]
      refine wpFreeD_callB rfl rfl Try.func44 (by kernel_rfl) (by kernel_rfl) (args := #[.slice pE j capE, .func (.func 64) #[] #[.pointer (some ⟨bx, 0, none⟩)]]) (by simp [Act.eval]) (fun v w1 w2 hw hv => ⟨fun h => by obtain ⟨bx, h1, h2⟩ := hv.1 h; exact ⟨bx, h1, h2.le hw⟩, hv.2⟩) (fun w2 hw2 hbe => ?_) ?_
      · have hk := (hbe ⟨4, Ground.data⟩ (by simp) (by kernel_rfl)).2 rfl
        obtain ⟨bx', e', hr⟩ := hk.1 (by first | exact trivial | rfl)
        obtain rfl : bx = bx' := by simpa using e'
        refine (HIS.out bx w2 (le_trans HL.out (le_trans (le_drewN _ _) hw2)) hr).mono ?_
        rintro e w3 ⟨rfl, hl⟩
        exact ⟨_, rfl, hl, fun h => absurd h.symm KN.out, fun _ => rfl⟩
      rintro u ⟨_, _, _, _, hu⟩
      obtain rfl := hu rfl
      simp only [Act.put, List.setIfInBounds_toArray, List.set_cons_succ, List.set_cons_zero]
      refine wpFreeD_one rfl (.bool (allB (srtE x j) (j - 1))) (fun w1 _ => by kernel_rfl) ?_
      simp only [Act.put, List.setIfInBounds_toArray, List.set_cons_succ, List.set_cons_zero]
      refine wpFreeD_nil (fun wR hwR _ => ?_)
      have L1 := hid (le_trans HL.out (le_trans (le_drewN _ _) hwR))
      clear hwR HCM HIS HSc HR
      go_wp2
      go_ret
      exact ⟨ret_b OK2.out.symm, L1.out⟩
end Go.Proofs.Ytkcpdddmabkkgaa

/- Names of instruments: 'isName' of the program, 'l08Name' of the model. -/
namespace Go.Fk
open Go Go.RowKit
/-- A byte of a text. -/
def byteN (s : ByteArray) (i : Nat) : Nat := (s.data.toList.getD i 0).toNat
def lowerB (s : ByteArray) (i : Nat) : Bool := decide (97 ≤ byteN s i) && decide (byteN s i ≤ 122)
def nameB (s : ByteArray) : Bool := decide (1 ≤ s.size) && decide (s.size ≤ 12) && allB (lowerB s) s.size
theorem byteN_lt (s : ByteArray) (i : Nat) : byteN s i < 256 := (s.data.toList.getD i 0).toNat_lt
theorem size_nil {s : ByteArray} (h : s.size = 0) : s = ⟨#[]⟩ := by
  obtain ⟨⟨l⟩⟩ := s
  have : l.length = 0 := h
  obtain rfl := List.length_eq_zero_iff.1 this
  rfl
theorem ne_nil {s : ByteArray} (h : s.size ≠ 0) : s.toList.isEmpty = false := by
  have e : s.toList.length = s.size := by rw [ByteArray.toList_eq, Array.length_toList]; rfl
  cases hl : s.toList with
  | nil => rw [hl] at e; exact absurd e.symm h
  | cons a l => rfl
theorem bytesRow_get {s : ByteArray} {cap i : Nat} (h : i < s.size) : (bytesRow s cap)[i]? = some (.int .u8 (byteN s i : Nat)) := by
  have hz : s.data.size = s.size := rfl
  unfold bytesRow
  rw [Array.getElem?_append_left (by simp [hz, h]), Array.getElem?_map, Array.getElem?_eq_getElem (by rw [hz]; exact h)]
  simp only [Option.map_some, byteN]
  congr 3
  rw [List.getD_eq_getElem?_getD, Array.getElem?_toList, Array.getElem?_eq_getElem (by rw [hz]; exact h)]
  rfl
theorem getB {s : ByteArray} {i : Nat} (h : i < s.size) : (s[i]'h).toNat = byteN s i := by
  obtain ⟨⟨l⟩⟩ := s
  have hl : i < l.length := h
  have e : (ByteArray.mk ⟨l⟩)[i]'h = l.getD i 0 := by
    simp only [List.getD, List.getElem?_eq_getElem hl, Option.getD_some]
    rfl
  rw [e]; rfl
theorem name_no {s : ByteArray} {i : Nat} (hi : i < s.size) (h : lowerB s i = false) : nameB s = false := by
  unfold nameB; rw [allB_no hi h, Bool.and_false]
theorem name_yes {s : ByteArray} (h1 : 1 ≤ s.size) (h2 : s.size ≤ 12) (h : ∀ i, i < s.size → lowerB s i = true) : nameB s = true := by
  unfold nameB; rw [allB_yes h]; simp [h1, h2]
end Go.Fk
namespace Go.Proofs.Ytkcpdddmabkkgaa
open Go.RowKit Go.Fk
set_option maxRecDepth 100000 in
set_option maxHeartbeats 2000000 in
theorem i_isName (s : ByteArray) (w : World) (hs : s.size ≤ maxLen) : Calls Try.prog 58 #[.string s] w fun e w' => e = .returned (.bool (nameB s)) ∧ le w w' := by
  by_cases h0 : s.size = 0
  · obtain rfl := size_nil h0
    have E : nameB ⟨#[]⟩ = false := by decide
    rw [E]
    go_enter Try.func58, Try.ntmps58
    go_wp2
    go_ret
    exact ⟨rfl, le_refl _⟩
  have hne := ne_nil h0
  unfold maxLen at hs
  by_cases h12 : 12 < s.size
  · have E : nameB s = false := by unfold nameB; rw [decide_eq_false (p := s.size ≤ 12) (by omega)]; simp
    rw [E]
    have h12' : (12 : Int) < (s.size : Int) := by omega
    clear h12
    go_enter Try.func58, Try.ntmps58
    go_wp2
    go_ret
    exact ⟨rfl, le_refl _⟩
  have h12' : ¬ (12 : Int) < (s.size : Int) := by omega
  obtain ⟨cap, hcap⟩ : ∃ cap, cap = grownCap w s.size 0 5 := ⟨_, rfl⟩
  have hconv := run_bytes_of_string (P := Try.prog) w 9 113 5 s Try.underlying9 Try.underlying113 Try.underlying5
  rw [← hcap] at hconv
  clear hcap
  obtain ⟨n, hn⟩ : ∃ n, n = s.size := ⟨_, rfl⟩
  obtain ⟨C, hC⟩ : ∃ C, C = bytesRow s cap := ⟨_, rfl⟩
  have HC := hid (fun i (hi : i < n) => hC ▸ bytesRow_get (cap := cap) (hn ▸ hi))
  rw [← hC, ← hn] at hconv
  rw [← hn] at h0 h12' hs
  have HN := hid hn
  clear hC h12
  have HL := hid (show le w (w.alloc (.cells C 5 (C.size, C.size + 1))).drew from le_trans (le_alloc w (.cells C 5 (C.size, C.size + 1))) (le_drewN _ 1))
  have hcell : ∀ i, i < n → (w.alloc (.cells C 5 (C.size, C.size + 1))).drew.cell? ⟨w.heap.size, i, none⟩ = some (.int .u8 (byteN s i : Nat)) := fun i hi => by
    rw [← HC.out i hi]
    have e : (w.alloc (.cells C 5 (C.size, C.size + 1))).drew.heap[w.heap.size]? = some (.cells C 5 (C.size, C.size + 1)) := by
      show (w.heap.push (.cells C 5 (C.size, C.size + 1)))[w.heap.size]? = _
      simp
    unfold World.cell?
    rw [e]
    rfl
  have HCE := hid hcell
  clear hcell HC
  rw [hn] at h12'
  go_enter Try.func58, Try.ntmps58
  go_wp2
  go_loop [15] (fun i => ∃ j : Nat, j ≤ n ∧ i = .int .i64 j ∧ Hid (∀ k, k < j → lowerB s k = true)) (fun i => n - (intOf i).toNat)
  case atStart => exact ⟨0, by omega, rfl, fun k hk => absurd hk (by omega)⟩
  case round =>
    obtain ⟨j, hj, rfl, HJ⟩ := hrel
    have HN2 := HN.out
    by_cases hlt : j < n
    · have hc := HCE.out j hlt
      have hlt' : (j : Int) < (s.size : Int) := by omega
      have hb := byteN_lt s j
      cases hlo : lowerB s j
      · have E := hid (name_no (HN.out ▸ hlt) hlo)
        unfold lowerB at hlo
        by_cases h97 : byteN s j < 97
        · have g97 : (byteN s j : Int) < 97 := by omega
          clear hlo
          go_wp2
          go_ret
          exact ⟨ret_b E.out.symm, HL.out⟩
        · have g97 : ¬ (byteN s j : Int) < 97 := by omega
          have g122 : (122 : Int) < (byteN s j : Int) := by
            simp only [Bool.and_eq_false_iff, decide_eq_false_iff_not] at hlo
            omega
          clear hlo
          go_wp2
          go_ret
          exact ⟨ret_b E.out.symm, HL.out⟩
      · have HH := hid hlo
        unfold lowerB at hlo
        simp only [Bool.and_eq_true, decide_eq_true_eq] at hlo
        have g97 : ¬ (byteN s j : Int) < 97 := by omega
        have g122 : ¬ (122 : Int) < (byteN s j : Int) := by omega
        clear hlo
        go_wp2
        go_round
        case rel => exact ⟨j + 1, by omega, by go_num, fun k hk => by rcases Nat.lt_succ_iff_lt_or_eq.1 hk with h | rfl; exact HJ.out k h; exact HH.out⟩
        case measure => simp [intOf]; omega
    · obtain rfl : j = n := by omega
      have hlt' : ¬ (j : Int) < (s.size : Int) := by omega
      have E := hid (name_yes (by omega) (by omega) (HN.out ▸ HJ.out))
      go_wp2
      go_ret
      exact ⟨ret_b E.out.symm, HL.out⟩
set_option maxRecDepth 100000 in
set_option maxHeartbeats 2000000 in
theorem s_l08Name (s : ByteArray) (w : World) (hs : s.size ≤ maxLen) : Calls Try.prog 50 #[.string s] w fun e w' => e = .returned (.bool (nameB s)) ∧ le w w' := by
  unfold maxLen at hs
  have HI := hid (fun w' => s_In (s.size : Int) 1 12 w')
  go_enter Try.func50, Try.ntmps50
  go_wp2
  go_loop [3] (fun i => ∃ j : Nat, j ≤ s.size ∧ i = .int .i64 j ∧ Hid (∀ k, k < j → lowerB s k = true)) (fun i => s.size - (intOf i).toNat)
  case atStart => exact ⟨0, by omega, rfl, fun k hk => absurd hk (by omega)⟩
  case round =>
    obtain ⟨j, hj, rfl, HJ⟩ := hrel
    by_cases hlt : j < s.size
    · have hlt' : (j : Int) < (s.size : Int) := by omega
      have hb := byteN_lt s j
      have hg := getB hlt
      cases hlo : lowerB s j
      · have E := hid (name_no hlt hlo)
        unfold lowerB at hlo
        by_cases h97 : byteN s j < 97
        · have g97 : (byteN s j : Int) < 97 := by omega
          clear hlo
          go_wp2
          go_ret
          exact ⟨ret_b E.out.symm, le_refl _⟩
        · have g97 : ¬ (byteN s j : Int) < 97 := by omega
          have g122 : (122 : Int) < (byteN s j : Int) := by
            simp only [Bool.and_eq_false_iff, decide_eq_false_iff_not] at hlo
            omega
          clear hlo
          go_wp2
          go_ret
          exact ⟨ret_b E.out.symm, le_refl _⟩
      · have HH := hid hlo
        unfold lowerB at hlo
        simp only [Bool.and_eq_true, decide_eq_true_eq] at hlo
        have g97 : ¬ (byteN s j : Int) < 97 := by omega
        have g122 : ¬ (122 : Int) < (byteN s j : Int) := by omega
        clear hlo
        go_wp2
        go_round
        case rel => exact ⟨j + 1, by omega, by go_num, fun k hk => by rcases Nat.lt_succ_iff_lt_or_eq.1 hk with h | rfl; exact HJ.out k h; exact HH.out⟩
        case measure => simp [intOf]; omega
    · obtain rfl : j = s.size := by omega
      have E := hid (show (decide ((1 : Int) ≤ (s.size : Int)) && decide ((s.size : Int) ≤ 12)) = nameB s by
        unfold nameB; rw [allB_yes HJ.out, Bool.and_true]
        congr 1 <;> (apply decide_eq_decide.2; omega))
      rw [E.out] at HI
      go_wp2_with (go_at_call 18; ((with_reducible refine (HI.out _).mono ?_); rintro e w1 ⟨rfl, rfl⟩))
      go_ret
      exact ⟨rfl, le_refl _⟩
end Go.Proofs.Ytkcpdddmabkkgaa

/- 'ValidInstrument' of both. -/
namespace Go.Fk
open Go Go.RowKit
def partQ (a : Nat) : Bool := (FloatKind.f32.format.order a 0 == some .gt || FloatKind.f32.format.order a 0 == some .eq) && (FloatKind.f32.format.order a 1065353216 == some .lt)
def isQ (c q : Nat) : Bool := FloatKind.f32.format.order c q == some .eq
/-- Is an instrument valid? -/
def okI (t : ByteArray) (k : Int) (a b c : Nat) : Bool := nameB t && withinB b 0 1065353216 &&
  (if k = 1 then withinB a 0 1056964608 && partQ c else if k = 2 then partQ a && (isQ c 0 || isQ c 1065353216) else if k = 3 then partQ a && fin c else false)
end Go.Fk
namespace Go.Proofs.Ytkcpdddmabkkgaa
open Go.RowKit Go.Fk
theorem i_isPartQ (a : Nat) (w : World) : Calls Try.prog 59 #[.float .f32 a] w fun e w' => e = .returned (.bool (partQ a)) ∧ w = w' := by
  rcases h0 : FloatKind.f32.format.order a 0 with _ | (_ | _ | _) <;> rcases h1 : FloatKind.f32.format.order a 1065353216 with _ | (_ | _ | _)
  all_goals
    go_enter Try.func59, Try.ntmps59
    go_wp2
    go_ret
    exact ⟨ret_b (by unfold partQ; rw [h0, h1]; rfl), rfl⟩
theorem s_Between0 (a g : Nat) (w : World) : Calls Try.prog 51 #[.float .f32 a, .float .f32 g, .bool false] w fun e w' => e = .returned (.bool (withinB a 0 g)) ∧ w = w' := by
  rcases h0 : FloatKind.f32.format.order a 0 with _ | (_ | _ | _) <;> rcases h1 : FloatKind.f32.format.order a g with _ | (_ | _ | _)
  all_goals
    go_enter Try.func51, Try.ntmps51
    go_wp2
    go_ret
    exact ⟨ret_b (by unfold withinB; rw [h0, h1]; rfl), rfl⟩
theorem s_Between1 (a : Nat) (w : World) : Calls Try.prog 51 #[.float .f32 a, .float .f32 1065353216, .bool true] w fun e w' => e = .returned (.bool (partQ a)) ∧ w = w' := by
  rcases h0 : FloatKind.f32.format.order a 0 with _ | (_ | _ | _) <;> rcases h1 : FloatKind.f32.format.order a 1065353216 with _ | (_ | _ | _)
  all_goals
    go_enter Try.func51, Try.ntmps51
    go_wp2
    go_ret
    exact ⟨ret_b (by unfold partQ; rw [h0, h1]; rfl), rfl⟩
set_option maxRecDepth 100000 in
set_option maxHeartbeats 4000000 in
theorem i_ValidInstrument (t : ByteArray) (k : Int) (a b c : Nat) (w : World) (ht : t.size ≤ maxLen) (hf : fits .f32 a ∧ fits .f32 b ∧ fits .f32 c) : Calls Try.prog 39 #[.agg #[.string t, .int .i64 k, .float .f32 a, .float .f32 b, .float .f32 c]] w (Out_b (okI t k a b c) w) := by
  have F := (Frg.nil w).box 74 #[.string t, .int .i64 k, .float .f32 a, .float .f32 b, .float .f32 c]
  have Hnm := hid (fun (w' : World) => i_isName t w' ht)
  have Hwb := hid (fun (w' : World) => i_isWithin b 0 1065353216 w')
  have Hwa := hid (fun (w' : World) => i_isWithin a 0 1056964608 w')
  have Hpa := hid (fun (w' : World) => i_isPartQ a w')
  have Hpc := hid (fun (w' : World) => i_isPartQ c w')
  have Hfc := hid (fun (w' : World) => i_isFinite c w' hf.2.2)
  clear hf ht
  rcases bool_ft (nameB t) with hnm | hnm
  · have E := hid (show okI t k a b c = false by unfold okI; simp [hnm])
    rw [hnm] at Hnm
    clear hnm
    go_enter Try.func39, Try.ntmps39
    go_wp2_with (first | ((with_reducible refine at_load rfl ?_); first | (with_reducible refine wpList_load1C rfl (g := w.heap.size) (f := 0) rfl (v := .string t) (by kernel_rfl) (F.row m0) rfl ukindString ?_) | (with_reducible refine wpList_load1C rfl (g := w.heap.size) (f := 1) rfl (v := .int .i64 _) (by kernel_rfl) (F.row m0) rfl ukindInt64 ?_) | (with_reducible refine wpList_load1C rfl (g := w.heap.size) (f := 2) rfl (v := .float .f32 a) (by kernel_rfl) (F.row m0) rfl ukindFloat32 ?_) | (with_reducible refine wpList_load1C rfl (g := w.heap.size) (f := 3) rfl (v := .float .f32 b) (by kernel_rfl) (F.row m0) rfl ukindFloat32 ?_) | (with_reducible refine wpList_load1C rfl (g := w.heap.size) (f := 4) rfl (v := .float .f32 c) (by kernel_rfl) (F.row m0) rfl ukindFloat32 ?_)) | (go_at_call 58; first | ((with_reducible refine (Hnm.out _).mono ?_); rintro e w1 ⟨rfl, hl⟩; replace F := F.le hl; clear hl)) | (go_at_call 22; first | ((with_reducible refine (Hwb.out _).mono ?_); rintro e w1 ⟨rfl, rfl⟩; skip) | ((with_reducible refine (Hwa.out _).mono ?_); rintro e w1 ⟨rfl, rfl⟩; skip)) | (go_at_call 59; first | ((with_reducible refine (Hpa.out _).mono ?_); rintro e w1 ⟨rfl, rfl⟩; skip) | ((with_reducible refine (Hpc.out _).mono ?_); rintro e w1 ⟨rfl, rfl⟩; skip)) | (go_at_call 60; first | ((with_reducible refine (Hfc.out _).mono ?_); rintro e w1 ⟨rfl, rfl⟩; skip)) | ((with_reducible refine listN F ?_); clear F; intro wN F))
    go_ret
    exact ⟨ret_b E.out.symm, F.below⟩
  have tnm := hid hnm
  rw [hnm] at Hnm
  clear hnm
  rcases bool_ft (withinB b 0 1065353216) with hwb | hwb
  · have E := hid (show okI t k a b c = false by unfold okI; simp [tnm.out, hwb])
    rw [hwb] at Hwb
    clear hwb
    go_enter Try.func39, Try.ntmps39
    go_wp2_with (first | ((with_reducible refine at_load rfl ?_); first | (with_reducible refine wpList_load1C rfl (g := w.heap.size) (f := 0) rfl (v := .string t) (by kernel_rfl) (F.row m0) rfl ukindString ?_) | (with_reducible refine wpList_load1C rfl (g := w.heap.size) (f := 1) rfl (v := .int .i64 _) (by kernel_rfl) (F.row m0) rfl ukindInt64 ?_) | (with_reducible refine wpList_load1C rfl (g := w.heap.size) (f := 2) rfl (v := .float .f32 a) (by kernel_rfl) (F.row m0) rfl ukindFloat32 ?_) | (with_reducible refine wpList_load1C rfl (g := w.heap.size) (f := 3) rfl (v := .float .f32 b) (by kernel_rfl) (F.row m0) rfl ukindFloat32 ?_) | (with_reducible refine wpList_load1C rfl (g := w.heap.size) (f := 4) rfl (v := .float .f32 c) (by kernel_rfl) (F.row m0) rfl ukindFloat32 ?_)) | (go_at_call 58; first | ((with_reducible refine (Hnm.out _).mono ?_); rintro e w1 ⟨rfl, hl⟩; replace F := F.le hl; clear hl)) | (go_at_call 22; first | ((with_reducible refine (Hwb.out _).mono ?_); rintro e w1 ⟨rfl, rfl⟩; skip) | ((with_reducible refine (Hwa.out _).mono ?_); rintro e w1 ⟨rfl, rfl⟩; skip)) | (go_at_call 59; first | ((with_reducible refine (Hpa.out _).mono ?_); rintro e w1 ⟨rfl, rfl⟩; skip) | ((with_reducible refine (Hpc.out _).mono ?_); rintro e w1 ⟨rfl, rfl⟩; skip)) | (go_at_call 60; first | ((with_reducible refine (Hfc.out _).mono ?_); rintro e w1 ⟨rfl, rfl⟩; skip)) | ((with_reducible refine listN F ?_); clear F; intro wN F))
    go_ret
    exact ⟨ret_b E.out.symm, F.below⟩
  have twb := hid hwb
  rw [hwb] at Hwb
  clear hwb
  by_cases k1 : k = 1
  · subst k1
    rcases bool_ft (withinB a 0 1056964608) with hwa | hwa
    · have E := hid (show okI t 1 a b c = false by unfold okI; simp [tnm.out, twb.out, hwa])
      rw [hwa] at Hwa
      clear hwa
      go_enter Try.func39, Try.ntmps39
      go_wp2_with (first | ((with_reducible refine at_load rfl ?_); first | (with_reducible refine wpList_load1C rfl (g := w.heap.size) (f := 0) rfl (v := .string t) (by kernel_rfl) (F.row m0) rfl ukindString ?_) | (with_reducible refine wpList_load1C rfl (g := w.heap.size) (f := 1) rfl (v := .int .i64 _) (by kernel_rfl) (F.row m0) rfl ukindInt64 ?_) | (with_reducible refine wpList_load1C rfl (g := w.heap.size) (f := 2) rfl (v := .float .f32 a) (by kernel_rfl) (F.row m0) rfl ukindFloat32 ?_) | (with_reducible refine wpList_load1C rfl (g := w.heap.size) (f := 3) rfl (v := .float .f32 b) (by kernel_rfl) (F.row m0) rfl ukindFloat32 ?_) | (with_reducible refine wpList_load1C rfl (g := w.heap.size) (f := 4) rfl (v := .float .f32 c) (by kernel_rfl) (F.row m0) rfl ukindFloat32 ?_)) | (go_at_call 58; first | ((with_reducible refine (Hnm.out _).mono ?_); rintro e w1 ⟨rfl, hl⟩; replace F := F.le hl; clear hl)) | (go_at_call 22; first | ((with_reducible refine (Hwb.out _).mono ?_); rintro e w1 ⟨rfl, rfl⟩; skip) | ((with_reducible refine (Hwa.out _).mono ?_); rintro e w1 ⟨rfl, rfl⟩; skip)) | (go_at_call 59; first | ((with_reducible refine (Hpa.out _).mono ?_); rintro e w1 ⟨rfl, rfl⟩; skip) | ((with_reducible refine (Hpc.out _).mono ?_); rintro e w1 ⟨rfl, rfl⟩; skip)) | (go_at_call 60; first | ((with_reducible refine (Hfc.out _).mono ?_); rintro e w1 ⟨rfl, rfl⟩; skip)) | ((with_reducible refine listN F ?_); clear F; intro wN F))
      go_ret
      exact ⟨ret_b E.out.symm, F.below⟩
    have twa := hid hwa
    rw [hwa] at Hwa
    clear hwa
    have E := hid (show okI t 1 a b c = partQ c by unfold okI; simp [tnm.out, twb.out, twa.out])
    go_enter Try.func39, Try.ntmps39
    go_wp2_with (first | ((with_reducible refine at_load rfl ?_); first | (with_reducible refine wpList_load1C rfl (g := w.heap.size) (f := 0) rfl (v := .string t) (by kernel_rfl) (F.row m0) rfl ukindString ?_) | (with_reducible refine wpList_load1C rfl (g := w.heap.size) (f := 1) rfl (v := .int .i64 _) (by kernel_rfl) (F.row m0) rfl ukindInt64 ?_) | (with_reducible refine wpList_load1C rfl (g := w.heap.size) (f := 2) rfl (v := .float .f32 a) (by kernel_rfl) (F.row m0) rfl ukindFloat32 ?_) | (with_reducible refine wpList_load1C rfl (g := w.heap.size) (f := 3) rfl (v := .float .f32 b) (by kernel_rfl) (F.row m0) rfl ukindFloat32 ?_) | (with_reducible refine wpList_load1C rfl (g := w.heap.size) (f := 4) rfl (v := .float .f32 c) (by kernel_rfl) (F.row m0) rfl ukindFloat32 ?_)) | (go_at_call 58; first | ((with_reducible refine (Hnm.out _).mono ?_); rintro e w1 ⟨rfl, hl⟩; replace F := F.le hl; clear hl)) | (go_at_call 22; first | ((with_reducible refine (Hwb.out _).mono ?_); rintro e w1 ⟨rfl, rfl⟩; skip) | ((with_reducible refine (Hwa.out _).mono ?_); rintro e w1 ⟨rfl, rfl⟩; skip)) | (go_at_call 59; first | ((with_reducible refine (Hpa.out _).mono ?_); rintro e w1 ⟨rfl, rfl⟩; skip) | ((with_reducible refine (Hpc.out _).mono ?_); rintro e w1 ⟨rfl, rfl⟩; skip)) | (go_at_call 60; first | ((with_reducible refine (Hfc.out _).mono ?_); rintro e w1 ⟨rfl, rfl⟩; skip)) | ((with_reducible refine listN F ?_); clear F; intro wN F))
    go_ret
    exact ⟨ret_b E.out.symm, F.below⟩
  have n1 : (k == 1) = false := by simpa using k1
  by_cases k2 : k = 2
  · subst k2
    rcases bool_ft (partQ a) with hpa | hpa
    · have E := hid (show okI t 2 a b c = false by unfold okI; simp [tnm.out, twb.out, hpa])
      rw [hpa] at Hpa
      clear hpa
      go_enter Try.func39, Try.ntmps39
      go_wp2_with (first | ((with_reducible refine at_load rfl ?_); first | (with_reducible refine wpList_load1C rfl (g := w.heap.size) (f := 0) rfl (v := .string t) (by kernel_rfl) (F.row m0) rfl ukindString ?_) | (with_reducible refine wpList_load1C rfl (g := w.heap.size) (f := 1) rfl (v := .int .i64 _) (by kernel_rfl) (F.row m0) rfl ukindInt64 ?_) | (with_reducible refine wpList_load1C rfl (g := w.heap.size) (f := 2) rfl (v := .float .f32 a) (by kernel_rfl) (F.row m0) rfl ukindFloat32 ?_) | (with_reducible refine wpList_load1C rfl (g := w.heap.size) (f := 3) rfl (v := .float .f32 b) (by kernel_rfl) (F.row m0) rfl ukindFloat32 ?_) | (with_reducible refine wpList_load1C rfl (g := w.heap.size) (f := 4) rfl (v := .float .f32 c) (by kernel_rfl) (F.row m0) rfl ukindFloat32 ?_)) | (go_at_call 58; first | ((with_reducible refine (Hnm.out _).mono ?_); rintro e w1 ⟨rfl, hl⟩; replace F := F.le hl; clear hl)) | (go_at_call 22; first | ((with_reducible refine (Hwb.out _).mono ?_); rintro e w1 ⟨rfl, rfl⟩; skip) | ((with_reducible refine (Hwa.out _).mono ?_); rintro e w1 ⟨rfl, rfl⟩; skip)) | (go_at_call 59; first | ((with_reducible refine (Hpa.out _).mono ?_); rintro e w1 ⟨rfl, rfl⟩; skip) | ((with_reducible refine (Hpc.out _).mono ?_); rintro e w1 ⟨rfl, rfl⟩; skip)) | (go_at_call 60; first | ((with_reducible refine (Hfc.out _).mono ?_); rintro e w1 ⟨rfl, rfl⟩; skip)) | ((with_reducible refine listN F ?_); clear F; intro wN F))
      go_ret
      exact ⟨ret_b E.out.symm, F.below⟩
    have tpa := hid hpa
    rw [hpa] at Hpa
    clear hpa
    rcases ho : FloatKind.f32.format.order c 0 with _ | (_ | _ | _) <;> rcases hp : FloatKind.f32.format.order c 1065353216 with _ | (_ | _ | _)
    all_goals
      first
      | (have E := hid (show okI t 2 a b c = true by unfold okI isQ; rw [ho, hp]; simp [tnm.out, twb.out, tpa.out])
         go_enter Try.func39, Try.ntmps39
         go_wp2_with (first | ((with_reducible refine at_load rfl ?_); first | (with_reducible refine wpList_load1C rfl (g := w.heap.size) (f := 0) rfl (v := .string t) (by kernel_rfl) (F.row m0) rfl ukindString ?_) | (with_reducible refine wpList_load1C rfl (g := w.heap.size) (f := 1) rfl (v := .int .i64 _) (by kernel_rfl) (F.row m0) rfl ukindInt64 ?_) | (with_reducible refine wpList_load1C rfl (g := w.heap.size) (f := 2) rfl (v := .float .f32 a) (by kernel_rfl) (F.row m0) rfl ukindFloat32 ?_) | (with_reducible refine wpList_load1C rfl (g := w.heap.size) (f := 3) rfl (v := .float .f32 b) (by kernel_rfl) (F.row m0) rfl ukindFloat32 ?_) | (with_reducible refine wpList_load1C rfl (g := w.heap.size) (f := 4) rfl (v := .float .f32 c) (by kernel_rfl) (F.row m0) rfl ukindFloat32 ?_)) | (go_at_call 58; first | ((with_reducible refine (Hnm.out _).mono ?_); rintro e w1 ⟨rfl, hl⟩; replace F := F.le hl; clear hl)) | (go_at_call 22; first | ((with_reducible refine (Hwb.out _).mono ?_); rintro e w1 ⟨rfl, rfl⟩; skip) | ((with_reducible refine (Hwa.out _).mono ?_); rintro e w1 ⟨rfl, rfl⟩; skip)) | (go_at_call 59; first | ((with_reducible refine (Hpa.out _).mono ?_); rintro e w1 ⟨rfl, rfl⟩; skip) | ((with_reducible refine (Hpc.out _).mono ?_); rintro e w1 ⟨rfl, rfl⟩; skip)) | (go_at_call 60; first | ((with_reducible refine (Hfc.out _).mono ?_); rintro e w1 ⟨rfl, rfl⟩; skip)) | ((with_reducible refine listN F ?_); clear F; intro wN F))
         go_ret
         exact ⟨ret_b E.out.symm, F.below⟩
         done)
      | (have E := hid (show okI t 2 a b c = false by unfold okI isQ; rw [ho, hp]; simp [tnm.out, twb.out, tpa.out])
         go_enter Try.func39, Try.ntmps39
         go_wp2_with (first | ((with_reducible refine at_load rfl ?_); first | (with_reducible refine wpList_load1C rfl (g := w.heap.size) (f := 0) rfl (v := .string t) (by kernel_rfl) (F.row m0) rfl ukindString ?_) | (with_reducible refine wpList_load1C rfl (g := w.heap.size) (f := 1) rfl (v := .int .i64 _) (by kernel_rfl) (F.row m0) rfl ukindInt64 ?_) | (with_reducible refine wpList_load1C rfl (g := w.heap.size) (f := 2) rfl (v := .float .f32 a) (by kernel_rfl) (F.row m0) rfl ukindFloat32 ?_) | (with_reducible refine wpList_load1C rfl (g := w.heap.size) (f := 3) rfl (v := .float .f32 b) (by kernel_rfl) (F.row m0) rfl ukindFloat32 ?_) | (with_reducible refine wpList_load1C rfl (g := w.heap.size) (f := 4) rfl (v := .float .f32 c) (by kernel_rfl) (F.row m0) rfl ukindFloat32 ?_)) | (go_at_call 58; first | ((with_reducible refine (Hnm.out _).mono ?_); rintro e w1 ⟨rfl, hl⟩; replace F := F.le hl; clear hl)) | (go_at_call 22; first | ((with_reducible refine (Hwb.out _).mono ?_); rintro e w1 ⟨rfl, rfl⟩; skip) | ((with_reducible refine (Hwa.out _).mono ?_); rintro e w1 ⟨rfl, rfl⟩; skip)) | (go_at_call 59; first | ((with_reducible refine (Hpa.out _).mono ?_); rintro e w1 ⟨rfl, rfl⟩; skip) | ((with_reducible refine (Hpc.out _).mono ?_); rintro e w1 ⟨rfl, rfl⟩; skip)) | (go_at_call 60; first | ((with_reducible refine (Hfc.out _).mono ?_); rintro e w1 ⟨rfl, rfl⟩; skip)) | ((with_reducible refine listN F ?_); clear F; intro wN F))
         go_ret
         exact ⟨ret_b E.out.symm, F.below⟩
         done)
  have n2 : (k == 2) = false := by simpa using k2
  by_cases k3 : k = 3
  · subst k3
    rcases bool_ft (partQ a) with hpa | hpa
    · have E := hid (show okI t 3 a b c = false by unfold okI; simp [tnm.out, twb.out, hpa])
      rw [hpa] at Hpa
      clear hpa
      go_enter Try.func39, Try.ntmps39
      go_wp2_with (first | ((with_reducible refine at_load rfl ?_); first | (with_reducible refine wpList_load1C rfl (g := w.heap.size) (f := 0) rfl (v := .string t) (by kernel_rfl) (F.row m0) rfl ukindString ?_) | (with_reducible refine wpList_load1C rfl (g := w.heap.size) (f := 1) rfl (v := .int .i64 _) (by kernel_rfl) (F.row m0) rfl ukindInt64 ?_) | (with_reducible refine wpList_load1C rfl (g := w.heap.size) (f := 2) rfl (v := .float .f32 a) (by kernel_rfl) (F.row m0) rfl ukindFloat32 ?_) | (with_reducible refine wpList_load1C rfl (g := w.heap.size) (f := 3) rfl (v := .float .f32 b) (by kernel_rfl) (F.row m0) rfl ukindFloat32 ?_) | (with_reducible refine wpList_load1C rfl (g := w.heap.size) (f := 4) rfl (v := .float .f32 c) (by kernel_rfl) (F.row m0) rfl ukindFloat32 ?_)) | (go_at_call 58; first | ((with_reducible refine (Hnm.out _).mono ?_); rintro e w1 ⟨rfl, hl⟩; replace F := F.le hl; clear hl)) | (go_at_call 22; first | ((with_reducible refine (Hwb.out _).mono ?_); rintro e w1 ⟨rfl, rfl⟩; skip) | ((with_reducible refine (Hwa.out _).mono ?_); rintro e w1 ⟨rfl, rfl⟩; skip)) | (go_at_call 59; first | ((with_reducible refine (Hpa.out _).mono ?_); rintro e w1 ⟨rfl, rfl⟩; skip) | ((with_reducible refine (Hpc.out _).mono ?_); rintro e w1 ⟨rfl, rfl⟩; skip)) | (go_at_call 60; first | ((with_reducible refine (Hfc.out _).mono ?_); rintro e w1 ⟨rfl, rfl⟩; skip)) | ((with_reducible refine listN F ?_); clear F; intro wN F))
      go_ret
      exact ⟨ret_b E.out.symm, F.below⟩
    have tpa := hid hpa
    rw [hpa] at Hpa
    clear hpa
    have E := hid (show okI t 3 a b c = fin c by unfold okI; simp [tnm.out, twb.out, tpa.out])
    go_enter Try.func39, Try.ntmps39
    go_wp2_with (first | ((with_reducible refine at_load rfl ?_); first | (with_reducible refine wpList_load1C rfl (g := w.heap.size) (f := 0) rfl (v := .string t) (by kernel_rfl) (F.row m0) rfl ukindString ?_) | (with_reducible refine wpList_load1C rfl (g := w.heap.size) (f := 1) rfl (v := .int .i64 _) (by kernel_rfl) (F.row m0) rfl ukindInt64 ?_) | (with_reducible refine wpList_load1C rfl (g := w.heap.size) (f := 2) rfl (v := .float .f32 a) (by kernel_rfl) (F.row m0) rfl ukindFloat32 ?_) | (with_reducible refine wpList_load1C rfl (g := w.heap.size) (f := 3) rfl (v := .float .f32 b) (by kernel_rfl) (F.row m0) rfl ukindFloat32 ?_) | (with_reducible refine wpList_load1C rfl (g := w.heap.size) (f := 4) rfl (v := .float .f32 c) (by kernel_rfl) (F.row m0) rfl ukindFloat32 ?_)) | (go_at_call 58; first | ((with_reducible refine (Hnm.out _).mono ?_); rintro e w1 ⟨rfl, hl⟩; replace F := F.le hl; clear hl)) | (go_at_call 22; first | ((with_reducible refine (Hwb.out _).mono ?_); rintro e w1 ⟨rfl, rfl⟩; skip) | ((with_reducible refine (Hwa.out _).mono ?_); rintro e w1 ⟨rfl, rfl⟩; skip)) | (go_at_call 59; first | ((with_reducible refine (Hpa.out _).mono ?_); rintro e w1 ⟨rfl, rfl⟩; skip) | ((with_reducible refine (Hpc.out _).mono ?_); rintro e w1 ⟨rfl, rfl⟩; skip)) | (go_at_call 60; first | ((with_reducible refine (Hfc.out _).mono ?_); rintro e w1 ⟨rfl, rfl⟩; skip)) | ((with_reducible refine listN F ?_); clear F; intro wN F))
    go_ret
    exact ⟨ret_b E.out.symm, F.below⟩
  have n3 : (k == 3) = false := by simpa using k3
  have E := hid (show okI t k a b c = false by unfold okI; simp [k1, k2, k3])
  go_enter Try.func39, Try.ntmps39
  go_wp2_with (first | ((with_reducible refine at_load rfl ?_); first | (with_reducible refine wpList_load1C rfl (g := w.heap.size) (f := 0) rfl (v := .string t) (by kernel_rfl) (F.row m0) rfl ukindString ?_) | (with_reducible refine wpList_load1C rfl (g := w.heap.size) (f := 1) rfl (v := .int .i64 _) (by kernel_rfl) (F.row m0) rfl ukindInt64 ?_) | (with_reducible refine wpList_load1C rfl (g := w.heap.size) (f := 2) rfl (v := .float .f32 a) (by kernel_rfl) (F.row m0) rfl ukindFloat32 ?_) | (with_reducible refine wpList_load1C rfl (g := w.heap.size) (f := 3) rfl (v := .float .f32 b) (by kernel_rfl) (F.row m0) rfl ukindFloat32 ?_) | (with_reducible refine wpList_load1C rfl (g := w.heap.size) (f := 4) rfl (v := .float .f32 c) (by kernel_rfl) (F.row m0) rfl ukindFloat32 ?_)) | (go_at_call 58; first | ((with_reducible refine (Hnm.out _).mono ?_); rintro e w1 ⟨rfl, hl⟩; replace F := F.le hl; clear hl)) | (go_at_call 22; first | ((with_reducible refine (Hwb.out _).mono ?_); rintro e w1 ⟨rfl, rfl⟩; skip) | ((with_reducible refine (Hwa.out _).mono ?_); rintro e w1 ⟨rfl, rfl⟩; skip)) | (go_at_call 59; first | ((with_reducible refine (Hpa.out _).mono ?_); rintro e w1 ⟨rfl, rfl⟩; skip) | ((with_reducible refine (Hpc.out _).mono ?_); rintro e w1 ⟨rfl, rfl⟩; skip)) | (go_at_call 60; first | ((with_reducible refine (Hfc.out _).mono ?_); rintro e w1 ⟨rfl, rfl⟩; skip)) | ((with_reducible refine listN F ?_); clear F; intro wN F))
  go_ret
  exact ⟨ret_b E.out.symm, F.below⟩
set_option maxRecDepth 100000 in
set_option maxHeartbeats 4000000 in
theorem s_l08Instrument (t : ByteArray) (k : Int) (a b c g f : Nat) (w : World) (cs : Array Value) (R : Row w g 74 cs) (hc : ∀ j, j < 5 → cs[f + j]? = [.string t, .int .i64 k, .float .f32 a, .float .f32 b, .float .f32 c][j]?) (ht : t.size ≤ maxLen) (hf : fits .f32 a ∧ fits .f32 b ∧ fits .f32 c) : Calls Try.prog 33 #[.pointer (some ⟨g, f, none⟩)] w (Out_b (okI t k a b c) w) := by
  have F := Frg.nil w
  have RW := hid (fun (w' : World) (hl : le w w') => R.le hl)
  have e0 : cs[f + 0]? = some (.string t) := hc 0 (by decide)
  have e1 : cs[f + 1]? = some (.int .i64 k) := hc 1 (by decide)
  have e2 : cs[f + 2]? = some (.float .f32 a) := hc 2 (by decide)
  have e3 : cs[f + 3]? = some (.float .f32 b) := hc 3 (by decide)
  have e4 : cs[f + 4]? = some (.float .f32 c) := hc 4 (by decide)
  have e0 : cs[f]? = some (.string t) := e0
  clear R hc
  replace e0 := hid e0
  replace e1 := hid e1
  replace e2 := hid e2
  replace e3 := hid e3
  replace e4 := hid e4
  have Hnm := hid (fun (w' : World) => s_l08Name t w' ht)
  have Hwb := hid (fun (w' : World) => s_Between0 b 1065353216 w')
  have Hwa := hid (fun (w' : World) => s_Between0 a 1056964608 w')
  have Hpa := hid (fun (w' : World) => s_Between1 a w')
  have Hpc := hid (fun (w' : World) => s_Between1 c w')
  have Hfc := hid (fun (w' : World) => s_l01Finite c w')
  clear hf ht
  rcases bool_ft (nameB t) with hnm | hnm
  · have E := hid (show okI t k a b c = false by unfold okI; simp [hnm])
    rw [hnm] at Hnm
    clear hnm
    go_enter Try.func33, Try.ntmps33
    go_wp2_with (first | ((with_reducible refine at_load rfl ?_); first | (with_reducible refine wpList_load1C rfl (g := g) (f := f) rfl (v := .string t) (by kernel_rfl) (RW.out _ F.below) e0.out ukindString ?_) | (with_reducible refine wpList_load1C rfl (g := g) (f := f + 1) rfl (v := .int .i64 _) (by kernel_rfl) (RW.out _ F.below) e1.out ukindInt64 ?_) | (with_reducible refine wpList_load1C rfl (g := g) (f := f + 2) rfl (v := .float .f32 a) (by kernel_rfl) (RW.out _ F.below) e2.out ukindFloat32 ?_) | (with_reducible refine wpList_load1C rfl (g := g) (f := f + 3) rfl (v := .float .f32 b) (by kernel_rfl) (RW.out _ F.below) e3.out ukindFloat32 ?_) | (with_reducible refine wpList_load1C rfl (g := g) (f := f + 4) rfl (v := .float .f32 c) (by kernel_rfl) (RW.out _ F.below) e4.out ukindFloat32 ?_)) | (go_at_call 50; first | ((with_reducible refine (Hnm.out _).mono ?_); rintro e w1 ⟨rfl, hl⟩; replace F := F.le hl; clear hl)) | (go_at_call 51; first | ((with_reducible refine (Hwb.out _).mono ?_); rintro e w1 ⟨rfl, rfl⟩; skip) | ((with_reducible refine (Hwa.out _).mono ?_); rintro e w1 ⟨rfl, rfl⟩; skip) | ((with_reducible refine (Hpa.out _).mono ?_); rintro e w1 ⟨rfl, rfl⟩; skip) | ((with_reducible refine (Hpc.out _).mono ?_); rintro e w1 ⟨rfl, rfl⟩; skip)) | (go_at_call 52; first | ((with_reducible refine (Hfc.out _).mono ?_); rintro e w1 ⟨rfl, q, rfl⟩; replace F := F.drewN q)) | ((with_reducible refine listN F ?_); clear F; intro wN F))
    go_ret
    exact ⟨ret_b E.out.symm, F.below⟩
  have tnm := hid hnm
  rw [hnm] at Hnm
  clear hnm
  rcases bool_ft (withinB b 0 1065353216) with hwb | hwb
  · have E := hid (show okI t k a b c = false by unfold okI; simp [tnm.out, hwb])
    rw [hwb] at Hwb
    clear hwb
    go_enter Try.func33, Try.ntmps33
    go_wp2_with (first | ((with_reducible refine at_load rfl ?_); first | (with_reducible refine wpList_load1C rfl (g := g) (f := f) rfl (v := .string t) (by kernel_rfl) (RW.out _ F.below) e0.out ukindString ?_) | (with_reducible refine wpList_load1C rfl (g := g) (f := f + 1) rfl (v := .int .i64 _) (by kernel_rfl) (RW.out _ F.below) e1.out ukindInt64 ?_) | (with_reducible refine wpList_load1C rfl (g := g) (f := f + 2) rfl (v := .float .f32 a) (by kernel_rfl) (RW.out _ F.below) e2.out ukindFloat32 ?_) | (with_reducible refine wpList_load1C rfl (g := g) (f := f + 3) rfl (v := .float .f32 b) (by kernel_rfl) (RW.out _ F.below) e3.out ukindFloat32 ?_) | (with_reducible refine wpList_load1C rfl (g := g) (f := f + 4) rfl (v := .float .f32 c) (by kernel_rfl) (RW.out _ F.below) e4.out ukindFloat32 ?_)) | (go_at_call 50; first | ((with_reducible refine (Hnm.out _).mono ?_); rintro e w1 ⟨rfl, hl⟩; replace F := F.le hl; clear hl)) | (go_at_call 51; first | ((with_reducible refine (Hwb.out _).mono ?_); rintro e w1 ⟨rfl, rfl⟩; skip) | ((with_reducible refine (Hwa.out _).mono ?_); rintro e w1 ⟨rfl, rfl⟩; skip) | ((with_reducible refine (Hpa.out _).mono ?_); rintro e w1 ⟨rfl, rfl⟩; skip) | ((with_reducible refine (Hpc.out _).mono ?_); rintro e w1 ⟨rfl, rfl⟩; skip)) | (go_at_call 52; first | ((with_reducible refine (Hfc.out _).mono ?_); rintro e w1 ⟨rfl, q, rfl⟩; replace F := F.drewN q)) | ((with_reducible refine listN F ?_); clear F; intro wN F))
    go_ret
    exact ⟨ret_b E.out.symm, F.below⟩
  have twb := hid hwb
  rw [hwb] at Hwb
  clear hwb
  by_cases k1 : k = 1
  · subst k1
    rcases bool_ft (withinB a 0 1056964608) with hwa | hwa
    · have E := hid (show okI t 1 a b c = false by unfold okI; simp [tnm.out, twb.out, hwa])
      rw [hwa] at Hwa
      clear hwa
      go_enter Try.func33, Try.ntmps33
      go_wp2_with (first | ((with_reducible refine at_load rfl ?_); first | (with_reducible refine wpList_load1C rfl (g := g) (f := f) rfl (v := .string t) (by kernel_rfl) (RW.out _ F.below) e0.out ukindString ?_) | (with_reducible refine wpList_load1C rfl (g := g) (f := f + 1) rfl (v := .int .i64 _) (by kernel_rfl) (RW.out _ F.below) e1.out ukindInt64 ?_) | (with_reducible refine wpList_load1C rfl (g := g) (f := f + 2) rfl (v := .float .f32 a) (by kernel_rfl) (RW.out _ F.below) e2.out ukindFloat32 ?_) | (with_reducible refine wpList_load1C rfl (g := g) (f := f + 3) rfl (v := .float .f32 b) (by kernel_rfl) (RW.out _ F.below) e3.out ukindFloat32 ?_) | (with_reducible refine wpList_load1C rfl (g := g) (f := f + 4) rfl (v := .float .f32 c) (by kernel_rfl) (RW.out _ F.below) e4.out ukindFloat32 ?_)) | (go_at_call 50; first | ((with_reducible refine (Hnm.out _).mono ?_); rintro e w1 ⟨rfl, hl⟩; replace F := F.le hl; clear hl)) | (go_at_call 51; first | ((with_reducible refine (Hwb.out _).mono ?_); rintro e w1 ⟨rfl, rfl⟩; skip) | ((with_reducible refine (Hwa.out _).mono ?_); rintro e w1 ⟨rfl, rfl⟩; skip) | ((with_reducible refine (Hpa.out _).mono ?_); rintro e w1 ⟨rfl, rfl⟩; skip) | ((with_reducible refine (Hpc.out _).mono ?_); rintro e w1 ⟨rfl, rfl⟩; skip)) | (go_at_call 52; first | ((with_reducible refine (Hfc.out _).mono ?_); rintro e w1 ⟨rfl, q, rfl⟩; replace F := F.drewN q)) | ((with_reducible refine listN F ?_); clear F; intro wN F))
      go_ret
      exact ⟨ret_b E.out.symm, F.below⟩
    have twa := hid hwa
    rw [hwa] at Hwa
    clear hwa
    have E := hid (show okI t 1 a b c = partQ c by unfold okI; simp [tnm.out, twb.out, twa.out])
    go_enter Try.func33, Try.ntmps33
    go_wp2_with (first | ((with_reducible refine at_load rfl ?_); first | (with_reducible refine wpList_load1C rfl (g := g) (f := f) rfl (v := .string t) (by kernel_rfl) (RW.out _ F.below) e0.out ukindString ?_) | (with_reducible refine wpList_load1C rfl (g := g) (f := f + 1) rfl (v := .int .i64 _) (by kernel_rfl) (RW.out _ F.below) e1.out ukindInt64 ?_) | (with_reducible refine wpList_load1C rfl (g := g) (f := f + 2) rfl (v := .float .f32 a) (by kernel_rfl) (RW.out _ F.below) e2.out ukindFloat32 ?_) | (with_reducible refine wpList_load1C rfl (g := g) (f := f + 3) rfl (v := .float .f32 b) (by kernel_rfl) (RW.out _ F.below) e3.out ukindFloat32 ?_) | (with_reducible refine wpList_load1C rfl (g := g) (f := f + 4) rfl (v := .float .f32 c) (by kernel_rfl) (RW.out _ F.below) e4.out ukindFloat32 ?_)) | (go_at_call 50; first | ((with_reducible refine (Hnm.out _).mono ?_); rintro e w1 ⟨rfl, hl⟩; replace F := F.le hl; clear hl)) | (go_at_call 51; first | ((with_reducible refine (Hwb.out _).mono ?_); rintro e w1 ⟨rfl, rfl⟩; skip) | ((with_reducible refine (Hwa.out _).mono ?_); rintro e w1 ⟨rfl, rfl⟩; skip) | ((with_reducible refine (Hpa.out _).mono ?_); rintro e w1 ⟨rfl, rfl⟩; skip) | ((with_reducible refine (Hpc.out _).mono ?_); rintro e w1 ⟨rfl, rfl⟩; skip)) | (go_at_call 52; first | ((with_reducible refine (Hfc.out _).mono ?_); rintro e w1 ⟨rfl, q, rfl⟩; replace F := F.drewN q)) | ((with_reducible refine listN F ?_); clear F; intro wN F))
    go_ret
    exact ⟨ret_b E.out.symm, F.below⟩
  have n1 : (k == 1) = false := by simpa using k1
  by_cases k2 : k = 2
  · subst k2
    rcases bool_ft (partQ a) with hpa | hpa
    · have E := hid (show okI t 2 a b c = false by unfold okI; simp [tnm.out, twb.out, hpa])
      rw [hpa] at Hpa
      clear hpa
      go_enter Try.func33, Try.ntmps33
      go_wp2_with (first | ((with_reducible refine at_load rfl ?_); first | (with_reducible refine wpList_load1C rfl (g := g) (f := f) rfl (v := .string t) (by kernel_rfl) (RW.out _ F.below) e0.out ukindString ?_) | (with_reducible refine wpList_load1C rfl (g := g) (f := f + 1) rfl (v := .int .i64 _) (by kernel_rfl) (RW.out _ F.below) e1.out ukindInt64 ?_) | (with_reducible refine wpList_load1C rfl (g := g) (f := f + 2) rfl (v := .float .f32 a) (by kernel_rfl) (RW.out _ F.below) e2.out ukindFloat32 ?_) | (with_reducible refine wpList_load1C rfl (g := g) (f := f + 3) rfl (v := .float .f32 b) (by kernel_rfl) (RW.out _ F.below) e3.out ukindFloat32 ?_) | (with_reducible refine wpList_load1C rfl (g := g) (f := f + 4) rfl (v := .float .f32 c) (by kernel_rfl) (RW.out _ F.below) e4.out ukindFloat32 ?_)) | (go_at_call 50; first | ((with_reducible refine (Hnm.out _).mono ?_); rintro e w1 ⟨rfl, hl⟩; replace F := F.le hl; clear hl)) | (go_at_call 51; first | ((with_reducible refine (Hwb.out _).mono ?_); rintro e w1 ⟨rfl, rfl⟩; skip) | ((with_reducible refine (Hwa.out _).mono ?_); rintro e w1 ⟨rfl, rfl⟩; skip) | ((with_reducible refine (Hpa.out _).mono ?_); rintro e w1 ⟨rfl, rfl⟩; skip) | ((with_reducible refine (Hpc.out _).mono ?_); rintro e w1 ⟨rfl, rfl⟩; skip)) | (go_at_call 52; first | ((with_reducible refine (Hfc.out _).mono ?_); rintro e w1 ⟨rfl, q, rfl⟩; replace F := F.drewN q)) | ((with_reducible refine listN F ?_); clear F; intro wN F))
      go_ret
      exact ⟨ret_b E.out.symm, F.below⟩
    have tpa := hid hpa
    rw [hpa] at Hpa
    clear hpa
    rcases ho : FloatKind.f32.format.order c 0 with _ | (_ | _ | _) <;> rcases hp : FloatKind.f32.format.order c 1065353216 with _ | (_ | _ | _)
    all_goals
      first
      | (have E := hid (show okI t 2 a b c = true by unfold okI isQ; rw [ho, hp]; simp [tnm.out, twb.out, tpa.out])
         go_enter Try.func33, Try.ntmps33
         go_wp2_with (first | ((with_reducible refine at_load rfl ?_); first | (with_reducible refine wpList_load1C rfl (g := g) (f := f) rfl (v := .string t) (by kernel_rfl) (RW.out _ F.below) e0.out ukindString ?_) | (with_reducible refine wpList_load1C rfl (g := g) (f := f + 1) rfl (v := .int .i64 _) (by kernel_rfl) (RW.out _ F.below) e1.out ukindInt64 ?_) | (with_reducible refine wpList_load1C rfl (g := g) (f := f + 2) rfl (v := .float .f32 a) (by kernel_rfl) (RW.out _ F.below) e2.out ukindFloat32 ?_) | (with_reducible refine wpList_load1C rfl (g := g) (f := f + 3) rfl (v := .float .f32 b) (by kernel_rfl) (RW.out _ F.below) e3.out ukindFloat32 ?_) | (with_reducible refine wpList_load1C rfl (g := g) (f := f + 4) rfl (v := .float .f32 c) (by kernel_rfl) (RW.out _ F.below) e4.out ukindFloat32 ?_)) | (go_at_call 50; first | ((with_reducible refine (Hnm.out _).mono ?_); rintro e w1 ⟨rfl, hl⟩; replace F := F.le hl; clear hl)) | (go_at_call 51; first | ((with_reducible refine (Hwb.out _).mono ?_); rintro e w1 ⟨rfl, rfl⟩; skip) | ((with_reducible refine (Hwa.out _).mono ?_); rintro e w1 ⟨rfl, rfl⟩; skip) | ((with_reducible refine (Hpa.out _).mono ?_); rintro e w1 ⟨rfl, rfl⟩; skip) | ((with_reducible refine (Hpc.out _).mono ?_); rintro e w1 ⟨rfl, rfl⟩; skip)) | (go_at_call 52; first | ((with_reducible refine (Hfc.out _).mono ?_); rintro e w1 ⟨rfl, q, rfl⟩; replace F := F.drewN q)) | ((with_reducible refine listN F ?_); clear F; intro wN F))
         go_ret
         exact ⟨ret_b E.out.symm, F.below⟩
         done)
      | (have E := hid (show okI t 2 a b c = false by unfold okI isQ; rw [ho, hp]; simp [tnm.out, twb.out, tpa.out])
         go_enter Try.func33, Try.ntmps33
         go_wp2_with (first | ((with_reducible refine at_load rfl ?_); first | (with_reducible refine wpList_load1C rfl (g := g) (f := f) rfl (v := .string t) (by kernel_rfl) (RW.out _ F.below) e0.out ukindString ?_) | (with_reducible refine wpList_load1C rfl (g := g) (f := f + 1) rfl (v := .int .i64 _) (by kernel_rfl) (RW.out _ F.below) e1.out ukindInt64 ?_) | (with_reducible refine wpList_load1C rfl (g := g) (f := f + 2) rfl (v := .float .f32 a) (by kernel_rfl) (RW.out _ F.below) e2.out ukindFloat32 ?_) | (with_reducible refine wpList_load1C rfl (g := g) (f := f + 3) rfl (v := .float .f32 b) (by kernel_rfl) (RW.out _ F.below) e3.out ukindFloat32 ?_) | (with_reducible refine wpList_load1C rfl (g := g) (f := f + 4) rfl (v := .float .f32 c) (by kernel_rfl) (RW.out _ F.below) e4.out ukindFloat32 ?_)) | (go_at_call 50; first | ((with_reducible refine (Hnm.out _).mono ?_); rintro e w1 ⟨rfl, hl⟩; replace F := F.le hl; clear hl)) | (go_at_call 51; first | ((with_reducible refine (Hwb.out _).mono ?_); rintro e w1 ⟨rfl, rfl⟩; skip) | ((with_reducible refine (Hwa.out _).mono ?_); rintro e w1 ⟨rfl, rfl⟩; skip) | ((with_reducible refine (Hpa.out _).mono ?_); rintro e w1 ⟨rfl, rfl⟩; skip) | ((with_reducible refine (Hpc.out _).mono ?_); rintro e w1 ⟨rfl, rfl⟩; skip)) | (go_at_call 52; first | ((with_reducible refine (Hfc.out _).mono ?_); rintro e w1 ⟨rfl, q, rfl⟩; replace F := F.drewN q)) | ((with_reducible refine listN F ?_); clear F; intro wN F))
         go_ret
         exact ⟨ret_b E.out.symm, F.below⟩
         done)
  have n2 : (k == 2) = false := by simpa using k2
  by_cases k3 : k = 3
  · subst k3
    rcases bool_ft (partQ a) with hpa | hpa
    · have E := hid (show okI t 3 a b c = false by unfold okI; simp [tnm.out, twb.out, hpa])
      rw [hpa] at Hpa
      clear hpa
      go_enter Try.func33, Try.ntmps33
      go_wp2_with (first | ((with_reducible refine at_load rfl ?_); first | (with_reducible refine wpList_load1C rfl (g := g) (f := f) rfl (v := .string t) (by kernel_rfl) (RW.out _ F.below) e0.out ukindString ?_) | (with_reducible refine wpList_load1C rfl (g := g) (f := f + 1) rfl (v := .int .i64 _) (by kernel_rfl) (RW.out _ F.below) e1.out ukindInt64 ?_) | (with_reducible refine wpList_load1C rfl (g := g) (f := f + 2) rfl (v := .float .f32 a) (by kernel_rfl) (RW.out _ F.below) e2.out ukindFloat32 ?_) | (with_reducible refine wpList_load1C rfl (g := g) (f := f + 3) rfl (v := .float .f32 b) (by kernel_rfl) (RW.out _ F.below) e3.out ukindFloat32 ?_) | (with_reducible refine wpList_load1C rfl (g := g) (f := f + 4) rfl (v := .float .f32 c) (by kernel_rfl) (RW.out _ F.below) e4.out ukindFloat32 ?_)) | (go_at_call 50; first | ((with_reducible refine (Hnm.out _).mono ?_); rintro e w1 ⟨rfl, hl⟩; replace F := F.le hl; clear hl)) | (go_at_call 51; first | ((with_reducible refine (Hwb.out _).mono ?_); rintro e w1 ⟨rfl, rfl⟩; skip) | ((with_reducible refine (Hwa.out _).mono ?_); rintro e w1 ⟨rfl, rfl⟩; skip) | ((with_reducible refine (Hpa.out _).mono ?_); rintro e w1 ⟨rfl, rfl⟩; skip) | ((with_reducible refine (Hpc.out _).mono ?_); rintro e w1 ⟨rfl, rfl⟩; skip)) | (go_at_call 52; first | ((with_reducible refine (Hfc.out _).mono ?_); rintro e w1 ⟨rfl, q, rfl⟩; replace F := F.drewN q)) | ((with_reducible refine listN F ?_); clear F; intro wN F))
      go_ret
      exact ⟨ret_b E.out.symm, F.below⟩
    have tpa := hid hpa
    rw [hpa] at Hpa
    clear hpa
    have E := hid (show okI t 3 a b c = fin c by unfold okI; simp [tnm.out, twb.out, tpa.out])
    go_enter Try.func33, Try.ntmps33
    go_wp2_with (first | ((with_reducible refine at_load rfl ?_); first | (with_reducible refine wpList_load1C rfl (g := g) (f := f) rfl (v := .string t) (by kernel_rfl) (RW.out _ F.below) e0.out ukindString ?_) | (with_reducible refine wpList_load1C rfl (g := g) (f := f + 1) rfl (v := .int .i64 _) (by kernel_rfl) (RW.out _ F.below) e1.out ukindInt64 ?_) | (with_reducible refine wpList_load1C rfl (g := g) (f := f + 2) rfl (v := .float .f32 a) (by kernel_rfl) (RW.out _ F.below) e2.out ukindFloat32 ?_) | (with_reducible refine wpList_load1C rfl (g := g) (f := f + 3) rfl (v := .float .f32 b) (by kernel_rfl) (RW.out _ F.below) e3.out ukindFloat32 ?_) | (with_reducible refine wpList_load1C rfl (g := g) (f := f + 4) rfl (v := .float .f32 c) (by kernel_rfl) (RW.out _ F.below) e4.out ukindFloat32 ?_)) | (go_at_call 50; first | ((with_reducible refine (Hnm.out _).mono ?_); rintro e w1 ⟨rfl, hl⟩; replace F := F.le hl; clear hl)) | (go_at_call 51; first | ((with_reducible refine (Hwb.out _).mono ?_); rintro e w1 ⟨rfl, rfl⟩; skip) | ((with_reducible refine (Hwa.out _).mono ?_); rintro e w1 ⟨rfl, rfl⟩; skip) | ((with_reducible refine (Hpa.out _).mono ?_); rintro e w1 ⟨rfl, rfl⟩; skip) | ((with_reducible refine (Hpc.out _).mono ?_); rintro e w1 ⟨rfl, rfl⟩; skip)) | (go_at_call 52; first | ((with_reducible refine (Hfc.out _).mono ?_); rintro e w1 ⟨rfl, q, rfl⟩; replace F := F.drewN q)) | ((with_reducible refine listN F ?_); clear F; intro wN F))
    go_ret
    exact ⟨ret_b E.out.symm, F.below⟩
  have n3 : (k == 3) = false := by simpa using k3
  have E := hid (show okI t k a b c = false by unfold okI; simp [k1, k2, k3])
  go_enter Try.func33, Try.ntmps33
  go_wp2_with (first | ((with_reducible refine at_load rfl ?_); first | (with_reducible refine wpList_load1C rfl (g := g) (f := f) rfl (v := .string t) (by kernel_rfl) (RW.out _ F.below) e0.out ukindString ?_) | (with_reducible refine wpList_load1C rfl (g := g) (f := f + 1) rfl (v := .int .i64 _) (by kernel_rfl) (RW.out _ F.below) e1.out ukindInt64 ?_) | (with_reducible refine wpList_load1C rfl (g := g) (f := f + 2) rfl (v := .float .f32 a) (by kernel_rfl) (RW.out _ F.below) e2.out ukindFloat32 ?_) | (with_reducible refine wpList_load1C rfl (g := g) (f := f + 3) rfl (v := .float .f32 b) (by kernel_rfl) (RW.out _ F.below) e3.out ukindFloat32 ?_) | (with_reducible refine wpList_load1C rfl (g := g) (f := f + 4) rfl (v := .float .f32 c) (by kernel_rfl) (RW.out _ F.below) e4.out ukindFloat32 ?_)) | (go_at_call 50; first | ((with_reducible refine (Hnm.out _).mono ?_); rintro e w1 ⟨rfl, hl⟩; replace F := F.le hl; clear hl)) | (go_at_call 51; first | ((with_reducible refine (Hwb.out _).mono ?_); rintro e w1 ⟨rfl, rfl⟩; skip) | ((with_reducible refine (Hwa.out _).mono ?_); rintro e w1 ⟨rfl, rfl⟩; skip) | ((with_reducible refine (Hpa.out _).mono ?_); rintro e w1 ⟨rfl, rfl⟩; skip) | ((with_reducible refine (Hpc.out _).mono ?_); rintro e w1 ⟨rfl, rfl⟩; skip)) | (go_at_call 52; first | ((with_reducible refine (Hfc.out _).mono ?_); rintro e w1 ⟨rfl, q, rfl⟩; replace F := F.drewN q)) | ((with_reducible refine listN F ?_); clear F; intro wN F))
  go_ret
  exact ⟨ret_b E.out.symm, F.below⟩
theorem ins_data {cs : List CD} (h : HasShL shInstrument cs) : ∃ (t : ByteArray) (k : Int) (a b c : Nat), cs = [.str t, .int .i64 k, .flt .f32 a, .flt .f32 b, .flt .f32 c] := by
  obtain ⟨c0, cs, rfl, q0, h⟩ := h.inv
  obtain ⟨c1, cs, rfl, q1, h⟩ := h.inv
  obtain ⟨c2, cs, rfl, q2, h⟩ := h.inv
  obtain ⟨c3, cs, rfl, q3, h⟩ := h.inv
  obtain ⟨c4, cs, rfl, q4, h⟩ := h.inv
  obtain rfl := h.inv0
  obtain ⟨t, rfl⟩ := q0
  obtain ⟨k, rfl⟩ := q1
  obtain ⟨a, rfl⟩ := q2
  obtain ⟨b, rfl⟩ := q3
  obtain ⟨c, rfl⟩ := q4
  exact ⟨t, k, a, b, c, rfl⟩
theorem ins_open {t : ByteArray} {k : Int} {a b c : Nat} {w : World} {B : Nat} {u : List Value} (h : RdLN w B (([.str t, .int .i64 k, .flt .f32 a, .flt .f32 b, .flt .f32 c] : List CD).map CD.cp) u) : u = [.string t, .int .i64 k, .float .f32 a, .float .f32 b, .float .f32 c] ∧ t.size ≤ maxLen ∧ fits .f32 a ∧ fits .f32 b ∧ fits .f32 c := by
  simp only [List.map_cons, List.map_nil] at h
  obtain ⟨v0, u0, rfl, q0, hh0⟩ := h.inv
  obtain ⟨v1, u1, rfl, q1, hh1⟩ := hh0.inv
  obtain ⟨v2, u2, rfl, q2, hh2⟩ := hh1.inv
  obtain ⟨v3, u3, rfl, q3, hh3⟩ := hh2.inv
  obtain ⟨v4, u4, rfl, q4, hh4⟩ := hh3.inv
  obtain rfl := hh4.inv0
  obtain ⟨rfl, f0⟩ := q0
  obtain ⟨rfl, _⟩ := q1
  obtain ⟨rfl, f2⟩ := q2
  obtain ⟨rfl, f3⟩ := q3
  obtain ⟨rfl, f4⟩ := q4
  exact ⟨rfl, f0, f2, f3, f4⟩
end Go.Proofs.Ytkcpdddmabkkgaa

/- Instruments of a score: 'indexOfName' and 'areInstruments' of the program. -/
namespace Go.Fk
open Go Go.RowKit
theorem okI_can {t : ByteArray} {k : Int} {a b c a' b' c' : Nat} (ha : can .f32 a = a') (hb : can .f32 b = b') (hc : can .f32 c = c') : okI t k a b c = okI t k a' b' c' := by
  subst ha hb hc
  have e1 : ∀ z lo hi, withinB (can .f32 z) lo hi = withinB z lo hi := fun z lo hi => by unfold withinB; rw [order_can_l, order_can_l]
  have e2 : ∀ z, partQ (can .f32 z) = partQ z := fun z => by unfold partQ; rw [order_can_l, order_can_l]
  have e3 : ∀ z q, isQ (can .f32 z) q = isQ z q := fun z q => by unfold isQ; rw [order_can_l]
  have e4 : ∀ z, fin (can .f32 z) = fin z := fun z => fin_can (can_can _ _)
  unfold okI
  simp only [e1, e2, e3, e4]
def okIn (x : Nat → CD) (i : Nat) : Bool := okI (inT x i) (inK x i) (inA x i) (inB x i) (inC x i)
/-- No instrument ahead of one has its name. -/
def newN (x : Nat → CD) (i : Nat) : Bool := allB (fun k => !eqT (inT x k) (inT x i)) i
def aiB (x : Nat → CD) (n : Nat) : Bool := decide (n ≤ 6) && allB (fun i => okIn x i && newN x i) n
end Go.Fk
namespace Go.Proofs.Ytkcpdddmabkkgaa
open Go.RowKit Go.Fk
set_option maxRecDepth 100000 in
set_option maxHeartbeats 4000000 in
theorem i_isNamed (t t' : ByteArray) (k : Int) (a b c bn : Nat) (w : World) (R : Row w bn 9 #[.string t']) : Calls Try.prog 62 #[.agg #[.string t, .int .i64 k, .float .f32 a, .float .f32 b, .float .f32 c], .pointer (some ⟨bn, 0, none⟩)] w (Out_b (eqT t t') w) := by
  have F := (Frg.nil w).box 74 #[.string t, .int .i64 k, .float .f32 a, .float .f32 b, .float .f32 c]
  have RN := hid (fun (w' : World) (hl : le w w') => R.le hl)
  clear R
  go_enter Try.func62, Try.ntmps62
  go_wp2_with (first | ((with_reducible refine at_load rfl ?_); first | (with_reducible refine wpList_load1C rfl (g := w.heap.size) (f := 0) rfl (v := .string t) (by kernel_rfl) (F.row m0) rfl ukindString ?_) | (with_reducible refine wpList_load1C rfl (g := bn) (f := 0) rfl (v := .string t') (by kernel_rfl) (RN.out _ F.below) rfl ukindString ?_)) | ((with_reducible refine listN F ?_); clear F; intro wN F))
  go_ret
  exact ⟨ret_b (show _ = eqT t t' from rfl), F.below⟩
set_option maxRecDepth 100000 in
set_option maxHeartbeats 4000000 in
theorem i_IndexName (x : Nat → CD) (t' : ByteArray) (b o n cap bn : Nat) (w : World) (hm : n ≤ maxLen) (hv : ∀ k, k < n → ∃ a1 b1 c1 : Nat, ∀ j v, [Value.string (inT x k), .int .i64 (inK x k), .float .f32 a1, .float .f32 b1, .float .f32 c1][j]? = some v → w.cell? ((⟨b, o + k * 5, none⟩ : Addr).add j) = some v) (R : Row w bn 9 #[.string t']) :
    Calls Try.prog 61 #[.slice (some ⟨b, o, none⟩) n cap, .func (.func 62) #[] #[.pointer (some ⟨bn, 0, none⟩)]] w fun e w' => ∃ r : Int, e = .returned (.int .i64 r) ∧ decide (0 ≤ r) = !allB (fun k => !eqT (inT x k) t') n ∧ le w w' := by
  have HA := hid hv
  have HR := hid R
  unfold maxLen at hm
  clear hv R
  go_enter Try.func61, Try.ntmps61
  go_wp2
  go_loopw [8] (fun i wr => ∃ j : Nat, j ≤ n ∧ i = .int .i64 j ∧ Hid (∀ i, i < j → (!eqT (inT x i) t') = true) ∧ Hid (le w wr)) (fun i _ => n - (intOf i).toNat)
  case atStart => exact ⟨0, by omega, rfl, fun i hi => absurd hi (by omega), le_refl _⟩
  case round =>
    obtain ⟨j, hj, rfl, HJ, HL⟩ := hrel
    rename_i wr _
    by_cases hlt : j < n
    · obtain ⟨a1, b1, c1, cu⟩ := HA.out j hlt
      have CU := hid (fun (w' : World) (hl : le wr w') (q : Nat) (v : Value) (hv : [Value.string (inT x j), .int .i64 (inK x j), .float .f32 a1, .float .f32 b1, .float .f32 c1][q]? = some v) => (Below.cell (le_trans HL.out hl) (cell_lt' (cu q v hv))).trans (cu q v hv))
      have HS := hid (fun (w' : World) (hl : le wr w') => i_isNamed (inT x j) t' (inK x j) a1 b1 c1 bn w' (HR.out.le (le_trans HL.out hl)))
      have F := Frg.nil wr
      clear cu HA
      rcases bool_ft (eqT (inT x j) t') with h1 | h1
      · have hb := hid (show (!eqT (inT x j) t') = true by rw [h1]; rfl)
        rw [h1] at HS
        clear h1
        go_wp2_with (first | ((with_reducible refine listN F ?_); clear F; intro wN F) | (go_at_call 62; ((with_reducible refine (HS.out _ F.below).mono ?_); rintro e w1 ⟨rfl, hl⟩; replace F := F.le hl; clear hl)) | (with_reducible refine wpList_indexW0 rfl rfl rfl rfl Try.underlying35 uinfoInstrumentI hlt ?_) | ((with_reducible refine at_load rfl ?_); (with_reducible refine wpList_loadW rfl rfl rfl [.string (inT x j), .int .i64 (inK x j), .float .f32 a1, .float .f32 b1, .float .f32 c1] (CU.out _ F.below) Try.underlying74 rfl uinfoInstrumentI rfl ?_)))
        go_roundw
        case rel => exact ⟨j + 1, by omega, by go_num, fun i hi => by rcases Nat.lt_or_ge i j with h | h; exact HJ.out i h; rw [show i = j by omega]; exact hb.out, le_trans HL.out F.below⟩
        case measure => simp [intOf]; omega
      · have hb := hid (show (!eqT (inT x j) t') = false by rw [h1]; rfl)
        rw [h1] at HS
        clear h1
        go_wp2_with (first | ((with_reducible refine listN F ?_); clear F; intro wN F) | (go_at_call 62; ((with_reducible refine (HS.out _ F.below).mono ?_); rintro e w1 ⟨rfl, hl⟩; replace F := F.le hl; clear hl)) | (with_reducible refine wpList_indexW0 rfl rfl rfl rfl Try.underlying35 uinfoInstrumentI hlt ?_) | ((with_reducible refine at_load rfl ?_); (with_reducible refine wpList_loadW rfl rfl rfl [.string (inT x j), .int .i64 (inK x j), .float .f32 a1, .float .f32 b1, .float .f32 c1] (CU.out _ F.below) Try.underlying74 rfl uinfoInstrumentI rfl ?_)))
        go_ret
        exact ⟨_, rfl, by rw [allB_no hlt hb.out]; simp, le_trans HL.out F.below⟩
    · obtain rfl : j = n := by omega
      go_wp2
      go_ret
      exact ⟨_, rfl, by rw [allB_yes HJ.out]; rfl, HL.out⟩
set_option maxRecDepth 100000 in
set_option maxHeartbeats 4000000 in
theorem i_indexOfName (x : Nat → CD) (t' : ByteArray) (b o n cap : Nat) (w : World) (hm : n ≤ maxLen) (hv : ∀ k, k < n → ∃ a1 b1 c1 : Nat, ∀ j v, [Value.string (inT x k), .int .i64 (inK x k), .float .f32 a1, .float .f32 b1, .float .f32 c1][j]? = some v → w.cell? ((⟨b, o + k * 5, none⟩ : Addr).add j) = some v) :
    Calls Try.prog 40 #[.slice (some ⟨b, o, none⟩) n cap, .string t'] w fun e w' => ∃ r : Int, e = .returned (.int .i64 r) ∧ decide (0 ≤ r) = !allB (fun k => !eqT (inT x k) t') n ∧ le w w' := by
  have HI := hid (fun (w1 : World) (hl : le w w1) (bn : Nat) (R : Row w1 bn 9 #[.string t']) => i_IndexName x t' b o n cap bn w1 hm (fun k hk => by obtain ⟨a1, b1, c1, h⟩ := hv k hk; exact ⟨a1, b1, c1, fun j v hj => (Below.cell hl (cell_lt' (h j v hj))).trans (h j v hj)⟩) R)
  clear hv hm
  have F := (Frg.nil w).box 9 #[.string t']
  go_enter Try.func40, Try.ntmps40
  go_wp2_with (first | (go_at_call 61; ((with_reducible refine (HI.out _ F.below _ (F.row m0)).mono ?_); rintro e w1 ⟨q, rfl, hq, hl⟩; replace F := F.le hl; clear hl; replace hq := hid hq)) | ((with_reducible refine listN F ?_); clear F; intro wN F))
  go_ret
  exact ⟨_, rfl, hq.out, F.below⟩
set_option maxRecDepth 100000 in
set_option maxHeartbeats 4000000 in
theorem i_areInstruments (B : Nat) (x : Nat → CD) (p : Option Addr) (n cap : Nat) (w : World) (hs : (CD.sl 5 n x).RdN w B (.slice p n cap)) (hx : InsOk x n) : Calls Try.prog 24 #[.slice p n cap] w (Out_b (aiB x n) w) := by
  have A0 := hid (show aiB x n = (decide (n ≤ 6) && allB (fun i => okIn x i && newN x i) n) from rfl)
  have hn : n ≤ maxLen := by
    rcases hs.form with ⟨_, e0⟩ | ⟨_, _, _, _, hc, hm⟩
    · rw [e0]; exact Nat.zero_le _
    · exact Nat.le_trans hc hm
  have hm0 := hid hn
  unfold maxLen at hn
  have HS := hid hs; have HX := hid hx
  clear hs hx
  by_cases h6 : n ≤ 6
  rotate_left
  · have E := hid (show aiB x n = false by rw [A0.out, decide_eq_false h6]; rfl)
    have h6' : (6 : Int) < (n : Int) := by omega
    clear HS HX A0
    go_enter Try.func24, Try.ntmps24
    go_wp2
    go_ret
    exact ⟨ret_b E.out.symm, le_refl _⟩
  have A1 := hid (show aiB x n = allB (fun i => okIn x i && newN x i) n by rw [A0.out, decide_eq_true h6]; rfl)
  have h6' : ¬ (6 : Int) < (n : Int) := by omega
  clear A0
  go_enter Try.func24, Try.ntmps24
  go_wp2
  go_loopw [10] (fun i wr => ∃ j : Nat, j ≤ n ∧ i = .int .i64 j ∧ Hid (∀ i, i < j → (okIn x i && newN x i) = true) ∧ Hid (le w wr)) (fun i _ => n - (intOf i).toNat)
  case atStart => exact ⟨0, by omega, rfl, fun i hi => absurd hi (by omega), le_refl _⟩
  case round =>
    obtain ⟨j, hj, rfl, HJ, HL⟩ := hrel
    rename_i wr _
    by_cases hlt : j < n
    · have hf2 := HS.out.form
      rcases hf2 with ⟨_, e0⟩ | ⟨b8, o8, cap8, e8, hc8, hm8⟩
      · omega
      simp only [Value.slice.injEq] at e8
      obtain ⟨rfl, _, rfl⟩ := e8
      obtain ⟨a1, b1, c1, hfit, ⟨ga, gb, gc⟩, ht, cu⟩ := HX.out.vals HS.out hlt
      have CU := hid (fun (w' : World) (hl : le wr w') (q : Nat) (v : Value) (hv : [Value.string (inT x j), .int .i64 (inK x j), .float .f32 a1, .float .f32 b1, .float .f32 c1][q]? = some v) => (Below.cell (le_trans HL.out hl) (cell_lt' (cu q v hv))).trans (cu q v hv))
      have HV := hid (fun (w' : World) => i_ValidInstrument (inT x j) (inK x j) a1 b1 c1 w' ht hfit)
      have HI := hid (fun (w1 : World) (hl : le wr w1) => i_indexOfName x (inT x j) b8 o8 j cap w1 (Nat.le_trans (Nat.le_of_lt hlt) hm0.out) (fun k hk => by
        obtain ⟨a2, b2, c2, _, _, _, h⟩ := HX.out.vals HS.out (Nat.lt_trans hk hlt)
        exact ⟨a2, b2, c2, fun j v hj => (Below.cell (le_trans HL.out hl) (cell_lt' (h j v hj))).trans (h j v hj)⟩))
      have OE : okI (inT x j) (inK x j) a1 b1 c1 = okIn x j := okI_can ga gb gc
      rw [OE] at HV
      unfold maxLen at hm8
      clear cu ht hfit ga gb gc OE HS HX
      have hcap : ¬ cap = 0 := by omega
      have hcap' : ¬ (cap : Int) = 0 := by omega
      have hjc : (j : Int) ≤ (cap : Int) := by omega
      have F := Frg.nil wr
      go_wp2_with (first | ((with_reducible refine listN F ?_); clear F; intro wN F) | (with_reducible refine wpList_indexW0 rfl rfl rfl rfl Try.underlying35 uinfoInstrumentI hlt ?_) | ((with_reducible refine at_load rfl ?_); (with_reducible refine wpList_loadW rfl rfl rfl [.string (inT x j), .int .i64 (inK x j), .float .f32 a1, .float .f32 b1, .float .f32 c1] (CU.out _ F.below) Try.underlying74 rfl uinfoInstrumentI rfl ?_)) | ((with_reducible refine at_store rfl ?_); (refine wpList_storeG F rfl rfl rfl rfl rfl uinfoInstrumentI rfl (by (simp only [List.all_toArray', List.all_cons, List.all_nil, Bool.and_true, Bool.true_and]) <;> rfl) ?_; clear F; intro W F zW; clear zW)))
      have G := F.drewN 1
      have KN := hid (show ¬ (39 = 40) by decide)
      rcases bool_ft (okIn x j) with hp | hp
      · have hb := hid (show (okIn x j && newN x j) = false by rw [hp]; rfl)
        rw [hp] at HV
        clear hp
        refine region_freeD (E := leX) (fun f _ _ u => (f = 39 → u = .bool false) ∧ (f = 40 → ∃ q : Int, u = .int .i64 q ∧ decide (0 ≤ q) = !newN x j)) (by kernel_rfl) (by kernel_rfl) ?_
        refine wpFreeD_loadG F rfl rfl rfl rfl m0 Try.underlying74 rfl uinfoInstrumentI rfl ?_
        simp only [Act.put, List.setIfInBounds_toArray, List.set_cons_succ, List.set_cons_zero]
        refine wpFreeD_callB rfl rfl Try.func39 (by kernel_rfl) (by kernel_rfl) (args := #[.agg #[.string (inT x j), .int .i64 (inK x j), .float .f32 a1, .float .f32 b1, .float .f32 c1]]) (by simp [Act.eval]) (fun v w1 w2 hw hv => hv) (fun w1 hw1 _ => (HV.out w1).mono ?_) ?_
        · rintro e w2 ⟨rfl, hl⟩
          exact ⟨_, rfl, hl, fun _ => rfl, fun h => absurd h KN.out⟩
        rintro u ⟨_, _, _, hu, _⟩
        obtain rfl := hu rfl
        simp only [Act.put, List.setIfInBounds_toArray, List.set_cons_succ, List.set_cons_zero]
        refine wpFreeD_one rfl (.bool true) (fun w1 _ => by kernel_rfl) ?_
        simp only [Act.put, List.setIfInBounds_toArray, List.set_cons_succ, List.set_cons_zero]
        refine wpFreeD_one rfl (.bool true) (fun w1 _ => by kernel_rfl) ?_
        simp only [Act.put, List.setIfInBounds_toArray, List.set_cons_succ, List.set_cons_zero]
        refine wpFreeD_skip (by kernel_rfl) ?_
        simp only [Act.put, List.setIfInBounds_toArray, List.set_cons_succ, List.set_cons_zero]
        refine wpFreeD_skip (by kernel_rfl) ?_
        simp only [Act.put, List.setIfInBounds_toArray, List.set_cons_succ, List.set_cons_zero]
        refine wpFreeD_skip (by kernel_rfl) ?_
        simp only [Act.put, List.setIfInBounds_toArray, List.set_cons_succ, List.set_cons_zero]
        refine wpFreeD_skip (by kernel_rfl) ?_
        simp only [Act.put, List.setIfInBounds_toArray, List.set_cons_succ, List.set_cons_zero]
        refine wpFreeD_skip (by kernel_rfl) ?_
        simp only [Act.put, List.setIfInBounds_toArray, List.set_cons_succ, List.set_cons_zero]
        refine wpFreeD_skip (by kernel_rfl) ?_
        simp only [Act.put, List.setIfInBounds_toArray, List.set_cons_succ, List.set_cons_zero]
        refine wpFreeD_skip (by kernel_rfl) ?_
        simp only [Act.put, List.setIfInBounds_toArray, List.set_cons_succ, List.set_cons_zero]
        refine wpFreeD_one rfl (.bool true) (fun w1 _ => by kernel_rfl) ?_
        simp only [Act.put, List.setIfInBounds_toArray, List.set_cons_succ, List.set_cons_zero]
        refine wpFreeD_nil (fun wR hwR _ => ?_)
        replace F := (F.drewN 1).le hwR
        clear hwR G
        go_wp2
        go_ret
        exact ⟨ret_b (show false = aiB x n by rw [A1.out, allB_no hlt hb.out]), le_trans HL.out F.below⟩
      rw [hp] at HV
      have hp' := hid hp
      clear hp
      rcases bool_ft (newN x j) with hq | hq
      · have hb := hid (show (okIn x j && newN x j) = false by rw [hq, Bool.and_false])
        have nb := hid (show (!newN x j) = true by rw [hq]; rfl)
        clear hq
        refine region_freeD (E := leX) (fun f _ _ u => (f = 39 → u = .bool true) ∧ (f = 40 → ∃ q : Int, u = .int .i64 q ∧ decide (0 ≤ q) = !newN x j)) (by kernel_rfl) (by kernel_rfl) ?_
        refine wpFreeD_loadG F rfl rfl rfl rfl m0 Try.underlying74 rfl uinfoInstrumentI rfl ?_
        simp only [Act.put, List.setIfInBounds_toArray, List.set_cons_succ, List.set_cons_zero]
        refine wpFreeD_callB rfl rfl Try.func39 (by kernel_rfl) (by kernel_rfl) (args := #[.agg #[.string (inT x j), .int .i64 (inK x j), .float .f32 a1, .float .f32 b1, .float .f32 c1]]) (by simp [Act.eval]) (fun v w1 w2 hw hv => hv) (fun w1 hw1 _ => (HV.out w1).mono ?_) ?_
        · rintro e w2 ⟨rfl, hl⟩
          exact ⟨_, rfl, hl, fun _ => rfl, fun h => absurd h KN.out⟩
        rintro u ⟨_, _, _, hu, _⟩
        obtain rfl := hu rfl
        simp only [Act.put, List.setIfInBounds_toArray, List.set_cons_succ, List.set_cons_zero]
        refine wpFreeD_one rfl (.bool false) (fun w1 _ => by kernel_rfl) ?_
        simp only [Act.put, List.setIfInBounds_toArray, List.set_cons_succ, List.set_cons_zero]
        refine wpFreeD_one rfl (.bool false) (fun w1 _ => by kernel_rfl) ?_
        simp only [Act.put, List.setIfInBounds_toArray, List.set_cons_succ, List.set_cons_zero]
        refine wpFreeD_oneW (by kernel_rfl) (.slice (some ⟨b8, o8, none⟩) n cap) (fun w1 _ => by kernel_rfl) ?_
        simp only [Act.put, List.setIfInBounds_toArray, List.set_cons_succ, List.set_cons_zero]
        refine wpFreeD_oneW (by kernel_rfl) (.int .i64 (j : Nat)) (fun w1 _ => by kernel_rfl) ?_
        simp only [Act.put, List.setIfInBounds_toArray, List.set_cons_succ, List.set_cons_zero]
        refine wpFreeD_quiet rfl ?_; go_big_quiet_step (fail); refine wpQuiet_nil ?_
        refine wpFreeD_oneW (by kernel_rfl) (.pointer (some ⟨wr.heap.size, 0, none⟩)) (fun w1 _ => by kernel_rfl) ?_
        simp only [Act.put, List.setIfInBounds_toArray, List.set_cons_succ, List.set_cons_zero]
        refine wpFreeD_load1W (by kernel_rfl) rfl rfl (p := ⟨wr.heap.size, 0, none⟩) (v := .string (inT x j)) (fun w1 h1 => ((G.row m0).le h1).cell? 0) ukindString ?_
        simp only [Act.put, List.setIfInBounds_toArray, List.set_cons_succ, List.set_cons_zero]
        refine wpFreeD_callW (by kernel_rfl) rfl Try.func40 (by kernel_rfl) (by kernel_rfl) (args := #[.slice (some ⟨b8, o8, none⟩) j cap, .string (inT x j)]) (by simp [Act.eval]) (fun v w1 w2 hw hv => hv) (fun w2 hw2 _ => (HI.out w2 (le_trans G.below hw2)).mono ?_) ?_
        · rintro e w3 ⟨q, rfl, hq, hl⟩
          exact ⟨_, rfl, hl, fun h => absurd h.symm KN.out, fun _ => ⟨q, rfl, hq⟩⟩
        rintro u ⟨_, _, _, _, hu⟩
        obtain ⟨q, rfl, hq0⟩ := hu rfl
        clear hu
        rw [nb.out] at hq0
        simp only [Act.put, List.setIfInBounds_toArray, List.set_cons_succ, List.set_cons_zero]
        refine wpFreeD_oneW (by kernel_rfl) (.bool (decide (0 ≤ q))) (fun w1 _ => by kernel_rfl) ?_
        simp only [Act.put, List.setIfInBounds_toArray, List.set_cons_succ, List.set_cons_zero]
        rw [hq0]
        clear hq0
        refine wpFreeD_one rfl (.bool true) (fun w1 _ => by kernel_rfl) ?_
        simp only [Act.put, List.setIfInBounds_toArray, List.set_cons_succ, List.set_cons_zero]
        refine wpFreeD_nil (fun wR hwR _ => ?_)
        replace F := (F.drewN 1).le hwR
        clear hwR G
        go_wp2
        go_ret
        exact ⟨ret_b (show false = aiB x n by rw [A1.out, allB_no hlt hb.out]), le_trans HL.out F.below⟩
      · have hb := hid (show (okIn x j && newN x j) = true by rw [hq, hp'.out]; rfl)
        have nb := hid (show (!newN x j) = false by rw [hq]; rfl)
        clear hq
        refine region_freeD (E := leX) (fun f _ _ u => (f = 39 → u = .bool true) ∧ (f = 40 → ∃ q : Int, u = .int .i64 q ∧ decide (0 ≤ q) = !newN x j)) (by kernel_rfl) (by kernel_rfl) ?_
        refine wpFreeD_loadG F rfl rfl rfl rfl m0 Try.underlying74 rfl uinfoInstrumentI rfl ?_
        simp only [Act.put, List.setIfInBounds_toArray, List.set_cons_succ, List.set_cons_zero]
        refine wpFreeD_callB rfl rfl Try.func39 (by kernel_rfl) (by kernel_rfl) (args := #[.agg #[.string (inT x j), .int .i64 (inK x j), .float .f32 a1, .float .f32 b1, .float .f32 c1]]) (by simp [Act.eval]) (fun v w1 w2 hw hv => hv) (fun w1 hw1 _ => (HV.out w1).mono ?_) ?_
        · rintro e w2 ⟨rfl, hl⟩
          exact ⟨_, rfl, hl, fun _ => rfl, fun h => absurd h KN.out⟩
        rintro u ⟨_, _, _, hu, _⟩
        obtain rfl := hu rfl
        simp only [Act.put, List.setIfInBounds_toArray, List.set_cons_succ, List.set_cons_zero]
        refine wpFreeD_one rfl (.bool false) (fun w1 _ => by kernel_rfl) ?_
        simp only [Act.put, List.setIfInBounds_toArray, List.set_cons_succ, List.set_cons_zero]
        refine wpFreeD_one rfl (.bool false) (fun w1 _ => by kernel_rfl) ?_
        simp only [Act.put, List.setIfInBounds_toArray, List.set_cons_succ, List.set_cons_zero]
        refine wpFreeD_oneW (by kernel_rfl) (.slice (some ⟨b8, o8, none⟩) n cap) (fun w1 _ => by kernel_rfl) ?_
        simp only [Act.put, List.setIfInBounds_toArray, List.set_cons_succ, List.set_cons_zero]
        refine wpFreeD_oneW (by kernel_rfl) (.int .i64 (j : Nat)) (fun w1 _ => by kernel_rfl) ?_
        simp only [Act.put, List.setIfInBounds_toArray, List.set_cons_succ, List.set_cons_zero]
        refine wpFreeD_quiet rfl ?_; go_big_quiet_step (fail); refine wpQuiet_nil ?_
        refine wpFreeD_oneW (by kernel_rfl) (.pointer (some ⟨wr.heap.size, 0, none⟩)) (fun w1 _ => by kernel_rfl) ?_
        simp only [Act.put, List.setIfInBounds_toArray, List.set_cons_succ, List.set_cons_zero]
        refine wpFreeD_load1W (by kernel_rfl) rfl rfl (p := ⟨wr.heap.size, 0, none⟩) (v := .string (inT x j)) (fun w1 h1 => ((G.row m0).le h1).cell? 0) ukindString ?_
        simp only [Act.put, List.setIfInBounds_toArray, List.set_cons_succ, List.set_cons_zero]
        refine wpFreeD_callW (by kernel_rfl) rfl Try.func40 (by kernel_rfl) (by kernel_rfl) (args := #[.slice (some ⟨b8, o8, none⟩) j cap, .string (inT x j)]) (by simp [Act.eval]) (fun v w1 w2 hw hv => hv) (fun w2 hw2 _ => (HI.out w2 (le_trans G.below hw2)).mono ?_) ?_
        · rintro e w3 ⟨q, rfl, hq, hl⟩
          exact ⟨_, rfl, hl, fun h => absurd h.symm KN.out, fun _ => ⟨q, rfl, hq⟩⟩
        rintro u ⟨_, _, _, _, hu⟩
        obtain ⟨q, rfl, hq0⟩ := hu rfl
        clear hu
        rw [nb.out] at hq0
        simp only [Act.put, List.setIfInBounds_toArray, List.set_cons_succ, List.set_cons_zero]
        refine wpFreeD_oneW (by kernel_rfl) (.bool (decide (0 ≤ q))) (fun w1 _ => by kernel_rfl) ?_
        simp only [Act.put, List.setIfInBounds_toArray, List.set_cons_succ, List.set_cons_zero]
        rw [hq0]
        clear hq0
        refine wpFreeD_one rfl (.bool false) (fun w1 _ => by kernel_rfl) ?_
        simp only [Act.put, List.setIfInBounds_toArray, List.set_cons_succ, List.set_cons_zero]
        refine wpFreeD_nil (fun wR hwR _ => ?_)
        replace F := (F.drewN 1).le hwR
        clear hwR G
        go_wp2
        go_roundw
        case rel => exact ⟨j + 1, by omega, by go_num, fun i hi => by rcases Nat.lt_or_ge i j with h | h; exact HJ.out i h; rw [show i = j by omega]; exact hb.out, le_trans HL.out F.below⟩
        case measure => simp [intOf]; omega
    · obtain rfl : j = n := by omega
      have hall := hid (A1.out.trans (allB_yes HJ.out))
      go_wp2
      go_ret
      exact ⟨ret_b hall.out.symm, HL.out⟩
end Go.Proofs.Ytkcpdddmabkkgaa
