/- The contracts of 'MixBlocks'. -/
import Derived.Test.YtibggjgffheibacBlk
namespace Go.Proofs.Ytibggjgffheibac
open Go.RowKit Go.Fk

theorem s_MixBlocks (x : Nat → Nat) (y : Nat → Nat) (w : World) : Calls Try.prog 15 #[.agg (ftab .f32 x 16), .agg (ftab .f32 y 16)] w (OutB (fun j => fop .add .f32 (x j) (y j)) w) := by
  go_enter Try.func15, Try.ntmps15
  go_wp2
  go_loopw [5] (fun i wr => ∃ k : Nat, k ≤ 16 ∧ i = .int .i64 k ∧ (∃ g, (∀ j, j < k → can .f32 (g j) = fop .add .f32 (x j) (y j) ∧ fits .f32 (g j)) ∧ (∀ j, k ≤ j → g j = x j) ∧ Row wr w.heap.size 25 (ftab .f32 g 16)) ∧ Row wr (w.heap.size + 1) 25 (ftab .f32 y 16) ∧ (∃ z, Row wr (w.heap.size + 1 + 1) 25 (ftab .f32 z 16)) ∧ Below w.heap.size w wr) (fun i _ => 16 - (intOf i).toNat)
  case atStart =>
    refine ⟨0, by omega, rfl, ⟨x, by intro j hj; omega, fun j _ => rfl, ?_⟩, ?_, ⟨fun _ => 0, ?_⟩, by repeat' (first | (with_reducible exact Below.refl _ _) | (with_reducible assumption) | (with_reducible refine below_drewN ?_ _) | (with_reducible refine Below.alloc ?_ ?_ _) | (with_reducible refine Below.drew ?_) | (with_reducible refine Below.setCell ?_ ?_ _) | go_size)⟩
    · exact ((Row.new w _ _).alloc _).alloc _
    · exact (Row.new' _ _ _ (by simp)).alloc _
    · exact Row.new' _ _ _ (by simp)
  case round =>
    obtain ⟨k, hk, rfl, ⟨g, hg, hx, hA⟩, h1, ⟨z, hZ⟩, hb⟩ := hrel
    by_cases hlt : k < 16
    · have c1 := hA.ftab hlt
      rw [hx k (Nat.le_refl _)] at c1
      have c2 := h1.ftab hlt
      have f1 := hA.frozen k
      have HA := hid hA; clear hA
      have H1 := hid h1; clear h1
      have HZ := hid hZ; clear hZ
      have Hg := hid hg; clear hg
      have Hx := hid hx; clear hx
      go_wp2_with fail
      refine wp_region_tail (fun _ _ _ => True) 9 (by kernel_rfl) (by kernel_rfl) ?_; simp only [List.take_succ_cons, List.take_zero, List.drop_succ_cons, List.drop_zero]
      repeat (first | (with_reducible refine wpLoose_farith rfl rfl rfl rfl rfl ?_; intro r hr hf; simp only [Act.put, List.setIfInBounds_toArray, List.set_cons_succ, List.set_cons_zero]) | (refine wpLoose_quiet rfl ?_; go_big_quiet_step (fail); refine wpQuiet_nil ?_))
      refine wpLoose_nil (fun m => ?_)
      go_wp2
      go_roundw
      case rel =>
        refine ⟨k + 1, by omega, by go_num, ⟨fun j => if j = k then r else g j, fill_step (p := fun j v => can .f32 v = fop .add .f32 (x j) (y j) ∧ fits .f32 v) Hg.out ⟨hr.out, hf.out⟩, rest_step Hx.out, ?_⟩, (H1.out.drewN _).other _ _ (by simp), ⟨z, (HZ.out.drewN _).other _ _ (by simp; omega)⟩, (below_drewN hb _).setCell (by simp) _⟩
        have h := (HA.out.drewN m).set k (.float .f32 r)
        rw [set_ftab] at h
        exact h
      case measure => simp [intOf]; omega
    · obtain rfl : k = 16 := by omega
      have H1 := hid h1; clear h1
      have Hg := hid hg; clear hg
      have Hx := hid hx; clear hx
      have hsz : (Try.prog.info? 25).map (·.size) = some (ftab .f32 g 16).size := by rw [size_ftab]; exact infoBlk
      go_wp2_with (first | (with_reducible refine wpList_loadA rfl rfl rfl hA Try.underlying25 hsz ?_) | (with_reducible refine wpList_storeA rfl rfl rfl rfl hZ hsz (by rw [size_ftab, size_ftab]) (one_ftab _ _ _) ?_))
      exact bodyPost_ret (results_cell_row rfl _ _ _ _ _ (0, 0) _ rfl (hZ.setRow _) Try.underlying25 rfl hsz) rfl ⟨g, rfl, Hg.out, below_setRow hb (by omega) _⟩
theorem i_MixBlocks (x : Nat → Nat) (y : Nat → Nat) (w : World) : Calls Try.prog 16 #[.agg (ftab .f32 x 16), .agg (ftab .f32 y 16)] w (OutB (fun j => fop .add .f32 (x j) (y j)) w) := by
  go_enter Try.func16, Try.ntmps16
  go_wp2
  go_loopw [6] (fun i wr => ∃ k : Nat, k ≤ 16 ∧ i = .int .i64 k ∧ (∃ g, (∀ j, j < k → can .f32 (g j) = fop .add .f32 (x j) (y j) ∧ fits .f32 (g j)) ∧ (∀ j, k ≤ j → g j = x j) ∧ Row wr w.heap.size 25 (ftab .f32 g 16)) ∧ Row wr (w.heap.size + 1) 25 (ftab .f32 y 16) ∧ (∃ z, Row wr (w.heap.size + 1 + 1) 25 (ftab .f32 z 16)) ∧ Below w.heap.size w wr) (fun i _ => 16 - (intOf i).toNat)
  case atStart =>
    refine ⟨0, by omega, rfl, ⟨x, by intro j hj; omega, fun j _ => rfl, ?_⟩, ?_, ⟨fun _ => 0, ?_⟩, by repeat' (first | (with_reducible exact Below.refl _ _) | (with_reducible assumption) | (with_reducible refine below_drewN ?_ _) | (with_reducible refine Below.alloc ?_ ?_ _) | (with_reducible refine Below.drew ?_) | (with_reducible refine Below.setCell ?_ ?_ _) | go_size)⟩
    · exact ((Row.new w _ _).alloc _).alloc _
    · exact (Row.new' _ _ _ (by simp)).alloc _
    · exact Row.new' _ _ _ (by simp)
  case round =>
    obtain ⟨k, hk, rfl, ⟨g, hg, hx, hA⟩, h1, ⟨z, hZ⟩, hb⟩ := hrel
    by_cases hlt : k < 16
    · have c1 := hA.ftab hlt
      rw [hx k (Nat.le_refl _)] at c1
      have c2 := h1.ftab hlt
      have f1 := hA.frozen k
      have HA := hid hA; clear hA
      have H1 := hid h1; clear h1
      have HZ := hid hZ; clear hZ
      have Hg := hid hg; clear hg
      have Hx := hid hx; clear hx
      go_wp2_with fail
      refine wp_region_tail (fun _ _ _ => True) 8 (by kernel_rfl) (by kernel_rfl) ?_; simp only [List.take_succ_cons, List.take_zero, List.drop_succ_cons, List.drop_zero]
      repeat (first | (with_reducible refine wpLoose_farith rfl rfl rfl rfl rfl ?_; intro r hr hf; simp only [Act.put, List.setIfInBounds_toArray, List.set_cons_succ, List.set_cons_zero]) | (refine wpLoose_quiet rfl ?_; go_big_quiet_step (fail); refine wpQuiet_nil ?_))
      refine wpLoose_nil (fun m => ?_)
      go_wp2
      go_roundw
      case rel =>
        refine ⟨k + 1, by omega, by go_num, ⟨fun j => if j = k then r else g j, fill_step (p := fun j v => can .f32 v = fop .add .f32 (x j) (y j) ∧ fits .f32 v) Hg.out ⟨hr.out, hf.out⟩, rest_step Hx.out, ?_⟩, (H1.out.drewN _).other _ _ (by simp), ⟨z, (HZ.out.drewN _).other _ _ (by simp; omega)⟩, (below_drewN hb _).setCell (by simp) _⟩
        have h := (HA.out.drewN m).set k (.float .f32 r)
        rw [set_ftab] at h
        exact h
      case measure => simp [intOf]; omega
    · obtain rfl : k = 16 := by omega
      have H1 := hid h1; clear h1
      have Hg := hid hg; clear hg
      have Hx := hid hx; clear hx
      have hsz : (Try.prog.info? 25).map (·.size) = some (ftab .f32 g 16).size := by rw [size_ftab]; exact infoBlk
      go_wp2_with (first | (with_reducible refine wpList_loadA rfl rfl rfl hA Try.underlying25 hsz ?_) | (with_reducible refine wpList_storeA rfl rfl rfl rfl hZ hsz (by rw [size_ftab, size_ftab]) (one_ftab _ _ _) ?_))
      exact bodyPost_ret (results_cell_row rfl _ _ _ _ _ (0, 0) _ rfl (hZ.setRow _) Try.underlying25 rfl hsz) rfl ⟨g, rfl, Hg.out, below_setRow hb (by omega) _⟩
end Go.Proofs.Ytibggjgffheibac
