/- The contracts of 'FlushBlock'. -/
import Derived.Test.YtibggjgffheibacBlk
import Derived.Test.YtibggjgffheibacFlush
namespace Go.Proofs.Ytibggjgffheibac
open Go.RowKit Go.Fk

theorem s_FlushBlock (x : Nat → Nat) (w : World) (H : ∀ j, j < 16 → fits .f32 (x j)) : Calls Try.prog 12 #[.agg (ftab .f32 x 16)] w (OutB (fun j => can .f32 (flush (x j))) w) := by
  have H := hid H
  go_enter Try.func12, Try.ntmps12
  go_wp2
  go_loopw [3] (fun i wr => ∃ k : Nat, k ≤ 16 ∧ i = .int .i64 k ∧ (∃ g, (∀ j, j < k → can .f32 (g j) = can .f32 (flush (x j)) ∧ fits .f32 (g j)) ∧ (∀ j, k ≤ j → g j = x j) ∧ Row wr w.heap.size 25 (ftab .f32 g 16)) ∧ (∃ z, Row wr (w.heap.size + 1) 25 (ftab .f32 z 16)) ∧ Below w.heap.size w wr) (fun i _ => 16 - (intOf i).toNat)
  case atStart =>
    refine ⟨0, by omega, rfl, ⟨x, by intro j hj; omega, fun j _ => rfl, ?_⟩, ⟨fun _ => 0, ?_⟩, by repeat' (first | (with_reducible exact Below.refl _ _) | (with_reducible assumption) | (with_reducible refine below_drewN ?_ _) | (with_reducible refine Below.alloc ?_ ?_ _) | (with_reducible refine Below.drew ?_) | (with_reducible refine Below.setCell ?_ ?_ _) | go_size)⟩
    · exact (Row.new w _ _).alloc _
    · exact Row.new' _ _ _ (by simp)
  case round =>
    obtain ⟨k, hk, rfl, ⟨g, hg, hx, hA⟩, ⟨z, hZ⟩, hb⟩ := hrel
    by_cases hlt : k < 16
    · have c1 := hA.ftab hlt
      rw [hx k (Nat.le_refl _)] at c1
      have f1 := hA.frozen k
      have HA := hid hA; clear hA
      have HZ := hid hZ; clear hZ
      have Hg := hid hg; clear hg
      have Hx := hid hx; clear hx
      have hfit := hid (H.out k hlt)
      go_wp2_with fail
      refine (s_l01Flush _ _ hfit.out).mono ?_
      rintro e w' ⟨rfl, rfl⟩
      have hf := hid (fits_flush hfit.out)
      generalize hr : flush (x k) = r at hf ⊢
      have hr := hid hr
      go_wp2
      go_roundw
      case rel =>
        refine ⟨k + 1, by omega, by go_num, ⟨fun j => if j = k then r else g j, fill_step (p := fun j v => can .f32 v = can .f32 (flush (x j)) ∧ fits .f32 v) Hg.out ⟨by rw [hr.out], hf.out⟩, rest_step Hx.out, ?_⟩, ⟨z, (HZ.out).other _ _ (by simp)⟩, hb.setCell (by simp) _⟩
        rw [← set_ftab]
        exact (HA.out).set k (.float .f32 r)
      case measure => simp [intOf]; omega
    · obtain rfl : k = 16 := by omega
      have Hg := hid hg; clear hg
      have Hx := hid hx; clear hx
      have hsz : (Try.prog.info? 25).map (·.size) = some (ftab .f32 g 16).size := by rw [size_ftab]; exact infoBlk
      go_wp2_with (first | (with_reducible refine wpList_loadA rfl rfl rfl hA Try.underlying25 hsz ?_) | (with_reducible refine wpList_storeA rfl rfl rfl rfl hZ hsz (by rw [size_ftab, size_ftab]) (one_ftab _ _ _) ?_))
      exact bodyPost_ret (results_cell_row rfl _ _ _ _ _ (0, 0) _ rfl (hZ.setRow _) Try.underlying25 rfl hsz) rfl ⟨g, rfl, Hg.out, below_setRow hb (by omega) _⟩
theorem i_FlushBlock (x : Nat → Nat) (w : World) (H : ∀ j, j < 16 → fits .f32 (x j)) : Calls Try.prog 13 #[.agg (ftab .f32 x 16)] w (OutB (fun j => can .f32 (flush (x j))) w) := by
  have H := hid H
  go_enter Try.func13, Try.ntmps13
  have hsz : (Try.prog.info? 25).map (·.size) = some (ftab .f32 x 16).size := by rw [size_ftab]; exact infoBlk
  go_wp2_with (with_reducible refine wpList_loadA rfl rfl rfl ((Row.new w _ _).alloc _) Try.underlying25 hsz ?_)
  clear hsz
  go_loopw [6] (fun i wr => ∃ k : Nat, k ≤ 16 ∧ i = .int .i64 k ∧ (∃ g, (∀ j, j < k → can .f32 (g j) = can .f32 (flush (x j)) ∧ fits .f32 (g j)) ∧ (∀ j, k ≤ j → g j = x j) ∧ Row wr w.heap.size 25 (ftab .f32 g 16)) ∧ (∃ z, Row wr (w.heap.size + 1) 25 (ftab .f32 z 16)) ∧ Below w.heap.size w wr) (fun i _ => 16 - (intOf i).toNat)
  case atStart =>
    refine ⟨0, by omega, rfl, ⟨x, by intro j hj; omega, fun j _ => rfl, ?_⟩, ⟨fun _ => 0, ?_⟩, by repeat' (first | (with_reducible exact Below.refl _ _) | (with_reducible assumption) | (with_reducible refine below_drewN ?_ _) | (with_reducible refine Below.alloc ?_ ?_ _) | (with_reducible refine Below.drew ?_) | (with_reducible refine Below.setCell ?_ ?_ _) | go_size)⟩
    · exact (Row.new w _ _).alloc _
    · exact Row.new' _ _ _ (by simp)
  case round =>
    obtain ⟨k, hk, rfl, ⟨g, hg, hx, hA⟩, ⟨z, hZ⟩, hb⟩ := hrel
    by_cases hlt : k < 16
    · have c1 := hA.ftab hlt
      rw [hx k (Nat.le_refl _)] at c1
      have f1 := hA.frozen k
      have HA := hid hA; clear hA
      have HZ := hid hZ; clear hZ
      have Hg := hid hg; clear hg
      have Hx := hid hx; clear hx
      have hfit := hid (H.out k hlt)
      have hidx := fun w' => run_index_arr (P := Try.prog) w' Try.underlying25 Try.underlying22 (by kernel_rfl) hlt (get_ftab .f32 x 16 k hlt) .i64
      go_wp2_with fail
      refine (i_FlushSample _ _ hfit.out).mono ?_
      rintro e w' ⟨rfl, rfl⟩
      have hf := hid (fits_flush hfit.out)
      generalize hr : flush (x k) = r at hf ⊢
      have hr := hid hr
      go_wp2
      go_roundw
      case rel =>
        refine ⟨k + 1, by omega, by go_num, ⟨fun j => if j = k then r else g j, fill_step (p := fun j v => can .f32 v = can .f32 (flush (x j)) ∧ fits .f32 v) Hg.out ⟨by rw [hr.out], hf.out⟩, rest_step Hx.out, ?_⟩, ⟨z, (HZ.out).other _ _ (by simp)⟩, hb.setCell (by simp) _⟩
        rw [← set_ftab]
        exact (HA.out).set k (.float .f32 r)
      case measure => simp [intOf]; omega
    · obtain rfl : k = 16 := by omega
      have Hg := hid hg; clear hg
      have Hx := hid hx; clear hx
      have hsz : (Try.prog.info? 25).map (·.size) = some (ftab .f32 g 16).size := by rw [size_ftab]; exact infoBlk
      go_wp2_with (first | (with_reducible refine wpList_loadA rfl rfl rfl hA Try.underlying25 hsz ?_) | (with_reducible refine wpList_storeA rfl rfl rfl rfl hZ hsz (by rw [size_ftab, size_ftab]) (one_ftab _ _ _) ?_))
      exact bodyPost_ret (results_cell_row rfl _ _ _ _ _ (0, 0) _ rfl (hZ.setRow _) Try.underlying25 rfl hsz) rfl ⟨g, rfl, Hg.out, below_setRow hb (by omega) _⟩
end Go.Proofs.Ytibggjgffheibac
