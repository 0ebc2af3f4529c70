/- The contracts of 'ToShorts', 'FromShorts' and of the laws' own words on arrays of 16 integers. -/
import Derived.Test.YtibggjgffheibabBlk
import Derived.Test.YtibggjgffheibabToShort
import Derived.Test.YtibggjgffheibabFromShort
namespace Go.Fk
open Go Go.RowKit
theorem itab_congr {kd : IntKind} {f g : Nat → Int} {n : Nat} (h : ∀ j, j < n → f j = g j) : itab kd f n = itab kd g n := tab_congr (fun j hj => by rw [h j hj])
end Go.Fk
namespace Go.Proofs.Ytibggjgffheibab
open Go.RowKit Go.Fk
theorem infoArr : (Try.prog.info? 33).map (·.size) = some 16 := by kernel_rfl
theorem allocArr (w : World) : (Instr.alloc 33 true (.tuple #[])).run Try.prog w = .ok (.pointer (some ⟨w.heap.size, 0, none⟩)) (w.alloc (.cells (itab .i16 (fun _ => 0) 16) 33)) := by kernel_rfl
theorem s_ToShorts (x : Nat → Nat) (w : World) : Calls Try.prog 16 #[.agg (ftab .f32 x 16)] w fun e w' => e = .returned (.agg (itab .i16 (fun j => toShort (x j)) 16)) ∧ Below w.heap.size w w' := by
  go_enter Try.func16, Try.ntmps16
  go_wp2
  go_loopw [4] (fun i wr => ∃ k : Nat, k ≤ 16 ∧ i = .int .i64 k ∧ Row wr w.heap.size 35 (ftab .f32 x 16) ∧ (∃ z, Row wr (w.heap.size + 1) 33 (itab .i16 z 16)) ∧ (∃ g : Nat → Int, (∀ j, j < k → (g j) = toShort (x j)) ∧ Row wr (w.heap.size + 1 + 1) 33 (itab .i16 g 16)) ∧ Below w.heap.size w wr) (fun i _ => 16 - (intOf i).toNat)
  case atStart =>
    refine ⟨0, by omega, rfl, ?_, ⟨fun _ => 0, ?_⟩, ⟨fun _ => 0, by intro j hj; omega, ?_⟩, by repeat' (first | (with_reducible exact Below.refl _ _) | (with_reducible assumption) | (with_reducible refine below_drewN ?_ _) | (with_reducible refine Below.alloc ?_ ?_ _) | (with_reducible refine Below.drew ?_) | (with_reducible refine Below.setCell ?_ ?_ _) | go_size)⟩
    · exact ((Row.new w _ _).alloc _).alloc _
    · exact (Row.new' _ _ _ (by simp)).alloc _
    · exact Row.new' _ _ _ (by simp)
  case round =>
    obtain ⟨k, hk, rfl, hA, ⟨z, hZ⟩, ⟨g, hg, hO⟩, hb⟩ := hrel
    by_cases hlt : k < 16
    · have f2 := hO.frozen k
      have c2 := hO.itab hlt
      have c1 := hA.ftab hlt
      have HA := hid hA; clear hA
      have HZ := hid hZ; clear hZ
      have HO := hid hO; clear hO
      have Hg := hid hg; clear hg
      go_wp2_with fail
      refine (s_l01Short _ _).mono ?_
      rintro e w' ⟨rfl, n, rfl⟩
      obtain ⟨r, hr⟩ : ∃ r, Hid (r = toShort (x k)) := ⟨_, rfl⟩
      rw [← hr.out]
      go_wp2
      go_roundw
      case rel =>
        refine ⟨k + 1, by omega, by go_num, (HA.out.drewN _).other _ _ (by simp; omega), ⟨z, (HZ.out.drewN _).other _ _ (by simp)⟩, ⟨fun j => if j = k then r else g j, fill_step (p := fun j v => v = toShort (x j)) Hg.out hr.out, ?_⟩, (below_drewN hb _).setCell (by simp; omega) _⟩
        rw [← set_itab]
        exact (HO.out.drewN _).set k (.int .i16 r)
      case measure => simp [intOf]; omega
    · obtain rfl : k = 16 := by omega
      have HA := hid hA; clear hA
      have Hg := hid hg; clear hg
      have hsz : (Try.prog.info? 33).map (·.size) = some (itab .i16 g 16).size := by rw [size_itab]; exact infoArr
      go_wp2_with (first | (with_reducible refine wpList_loadA rfl rfl rfl hO Try.underlying33 hsz ?_) | (with_reducible refine wpList_storeA rfl rfl rfl rfl hZ hsz (by rw [size_itab, size_itab]) (one_itab _ _ _) ?_))
      exact bodyPost_ret (results_cell_row rfl _ _ _ _ _ (0, 0) _ rfl (hZ.setRow _) Try.underlying33 rfl hsz) rfl ⟨by rw [itab_congr Hg.out], below_setRow hb (by omega) _⟩
theorem i_ToShorts (x : Nat → Nat) (w : World) : Calls Try.prog 18 #[.agg (ftab .f32 x 16)] w fun e w' => e = .returned (.agg (itab .i16 (fun j => toShort (x j)) 16)) ∧ Below w.heap.size w w' := by
  have hsz : (Try.prog.info? 35).map (·.size) = some (ftab .f32 x 16).size := by rw [size_ftab]; exact infoBlk
  go_enter Try.func18, Try.ntmps18
  go_wp2_with (with_reducible refine wpList_loadA rfl rfl rfl (((Row.new w _ _).alloc _).alloc _) Try.underlying35 hsz ?_)
  clear hsz
  go_loopw [7] (fun i wr => ∃ k : Nat, k ≤ 16 ∧ i = .int .i64 k ∧ Row wr w.heap.size 35 (ftab .f32 x 16) ∧ (∃ z, Row wr (w.heap.size + 1) 33 (itab .i16 z 16)) ∧ (∃ g : Nat → Int, (∀ j, j < k → (g j) = toShort (x j)) ∧ Row wr (w.heap.size + 1 + 1) 33 (itab .i16 g 16)) ∧ Below w.heap.size w wr) (fun i _ => 16 - (intOf i).toNat)
  case atStart =>
    refine ⟨0, by omega, rfl, ?_, ⟨fun _ => 0, ?_⟩, ⟨fun _ => 0, by intro j hj; omega, ?_⟩, by repeat' (first | (with_reducible exact Below.refl _ _) | (with_reducible assumption) | (with_reducible refine below_drewN ?_ _) | (with_reducible refine Below.alloc ?_ ?_ _) | (with_reducible refine Below.drew ?_) | (with_reducible refine Below.setCell ?_ ?_ _) | go_size)⟩
    · exact ((Row.new w _ _).alloc _).alloc _
    · exact (Row.new' _ _ _ (by simp)).alloc _
    · exact Row.new' _ _ _ (by simp)
  case round =>
    obtain ⟨k, hk, rfl, hA, ⟨z, hZ⟩, ⟨g, hg, hO⟩, hb⟩ := hrel
    by_cases hlt : k < 16
    · have f2 := hO.frozen k
      have c2 := hO.itab hlt
      have hidx := fun w' => run_index_arr (P := Try.prog) w' Try.underlying35 Try.underlying22 (by kernel_rfl) hlt (get_ftab .f32 x 16 k hlt) .i64
      have HA := hid hA; clear hA
      have HZ := hid hZ; clear hZ
      have HO := hid hO; clear hO
      have Hg := hid hg; clear hg
      go_wp2_with fail
      refine (i_ToShort _ _).mono ?_
      rintro e w' ⟨rfl, n, rfl⟩
      obtain ⟨r, hr⟩ : ∃ r, Hid (r = toShort (x k)) := ⟨_, rfl⟩
      rw [← hr.out]
      go_wp2
      go_roundw
      case rel =>
        refine ⟨k + 1, by omega, by go_num, (HA.out.drewN _).other _ _ (by simp; omega), ⟨z, (HZ.out.drewN _).other _ _ (by simp)⟩, ⟨fun j => if j = k then r else g j, fill_step (p := fun j v => v = toShort (x j)) Hg.out hr.out, ?_⟩, (below_drewN hb _).setCell (by simp; omega) _⟩
        rw [← set_itab]
        exact (HO.out.drewN _).set k (.int .i16 r)
      case measure => simp [intOf]; omega
    · obtain rfl : k = 16 := by omega
      have HA := hid hA; clear hA
      have Hg := hid hg; clear hg
      have hsz : (Try.prog.info? 33).map (·.size) = some (itab .i16 g 16).size := by rw [size_itab]; exact infoArr
      go_wp2_with (first | (with_reducible refine wpList_loadA rfl rfl rfl hO Try.underlying33 hsz ?_) | (with_reducible refine wpList_storeA rfl rfl rfl rfl hZ hsz (by rw [size_itab, size_itab]) (one_itab _ _ _) ?_))
      exact bodyPost_ret (results_cell_row rfl _ _ _ _ _ (0, 0) _ rfl (hZ.setRow _) Try.underlying33 rfl hsz) rfl ⟨by rw [itab_congr Hg.out], below_setRow hb (by omega) _⟩
theorem s_FromShorts (x : Nat → Int) (w : World) : Calls Try.prog 20 #[.agg (itab .i16 x 16)] w (OutB (fun j => fromShort (x j)) w) := by
  go_enter Try.func20, Try.ntmps20
  go_wp2
  go_loopw [4] (fun i wr => ∃ k : Nat, k ≤ 16 ∧ i = .int .i64 k ∧ Row wr w.heap.size 33 (itab .i16 x 16) ∧ (∃ z, Row wr (w.heap.size + 1) 35 (ftab .f32 z 16)) ∧ (∃ g : Nat → Nat, (∀ j, j < k → can .f32 (g j) = fromShort (x j) ∧ fits .f32 (g j)) ∧ Row wr (w.heap.size + 1 + 1) 35 (ftab .f32 g 16)) ∧ Below w.heap.size w wr) (fun i _ => 16 - (intOf i).toNat)
  case atStart =>
    refine ⟨0, by omega, rfl, ?_, ⟨fun _ => 0, ?_⟩, ⟨fun _ => 0, by intro j hj; omega, ?_⟩, by repeat' (first | (with_reducible exact Below.refl _ _) | (with_reducible assumption) | (with_reducible refine below_drewN ?_ _) | (with_reducible refine Below.alloc ?_ ?_ _) | (with_reducible refine Below.drew ?_) | (with_reducible refine Below.setCell ?_ ?_ _) | go_size)⟩
    · exact ((Row.new w _ _).alloc _).alloc _
    · exact (Row.new' _ _ _ (by simp)).alloc _
    · exact Row.new' _ _ _ (by simp)
  case round =>
    obtain ⟨k, hk, rfl, hA, ⟨z, hZ⟩, ⟨g, hg, hO⟩, hb⟩ := hrel
    by_cases hlt : k < 16
    · have f2 := hO.frozen k
      have c2 := hO.ftab hlt
      have c1 := hA.itab hlt
      have HA := hid hA; clear hA
      have HZ := hid hZ; clear hZ
      have HO := hid hO; clear hO
      have Hg := hid hg; clear hg
      go_wp2_with fail
      refine (s_FromShort _ _).mono ?_
      rintro e w' ⟨r, n, rfl, hr, hf, rfl⟩
      have hr := hid (And.intro hr hf)
      clear hf
      go_wp2
      go_roundw
      case rel =>
        refine ⟨k + 1, by omega, by go_num, (HA.out.drewN _).other _ _ (by simp; omega), ⟨z, (HZ.out.drewN _).other _ _ (by simp)⟩, ⟨fun j => if j = k then r else g j, fill_step (p := fun j v => can .f32 v = fromShort (x j) ∧ fits .f32 v) Hg.out hr.out, ?_⟩, (below_drewN hb _).setCell (by simp; omega) _⟩
        rw [← set_ftab]
        exact (HO.out.drewN _).set k (.float .f32 r)
      case measure => simp [intOf]; omega
    · obtain rfl : k = 16 := by omega
      have HA := hid hA; clear hA
      have Hg := hid hg; clear hg
      have hsz : (Try.prog.info? 35).map (·.size) = some (ftab .f32 g 16).size := by rw [size_ftab]; exact infoBlk
      go_wp2_with (first | (with_reducible refine wpList_loadA rfl rfl rfl hO Try.underlying35 hsz ?_) | (with_reducible refine wpList_storeA rfl rfl rfl rfl hZ hsz (by rw [size_ftab, size_ftab]) (one_ftab _ _ _) ?_))
      exact bodyPost_ret (results_cell_row rfl _ _ _ _ _ (0, 0) _ rfl (hZ.setRow _) Try.underlying35 rfl hsz) rfl ⟨g, rfl, Hg.out, below_setRow hb (by omega) _⟩
theorem i_FromShorts (x : Nat → Int) (w : World) : Calls Try.prog 22 #[.agg (itab .i16 x 16)] w (OutB (fun j => fromShort (x j)) w) := by
  have hsz : (Try.prog.info? 33).map (·.size) = some (itab .i16 x 16).size := by rw [size_itab]; exact infoArr
  go_enter Try.func22, Try.ntmps22
  go_wp2_with (with_reducible refine wpList_loadA rfl rfl rfl (((Row.new w _ _).alloc _).alloc _) Try.underlying33 hsz ?_)
  clear hsz
  go_loopw [7] (fun i wr => ∃ k : Nat, k ≤ 16 ∧ i = .int .i64 k ∧ Row wr w.heap.size 33 (itab .i16 x 16) ∧ (∃ z, Row wr (w.heap.size + 1) 35 (ftab .f32 z 16)) ∧ (∃ g : Nat → Nat, (∀ j, j < k → can .f32 (g j) = fromShort (x j) ∧ fits .f32 (g j)) ∧ Row wr (w.heap.size + 1 + 1) 35 (ftab .f32 g 16)) ∧ Below w.heap.size w wr) (fun i _ => 16 - (intOf i).toNat)
  case atStart =>
    refine ⟨0, by omega, rfl, ?_, ⟨fun _ => 0, ?_⟩, ⟨fun _ => 0, by intro j hj; omega, ?_⟩, by repeat' (first | (with_reducible exact Below.refl _ _) | (with_reducible assumption) | (with_reducible refine below_drewN ?_ _) | (with_reducible refine Below.alloc ?_ ?_ _) | (with_reducible refine Below.drew ?_) | (with_reducible refine Below.setCell ?_ ?_ _) | go_size)⟩
    · exact ((Row.new w _ _).alloc _).alloc _
    · exact (Row.new' _ _ _ (by simp)).alloc _
    · exact Row.new' _ _ _ (by simp)
  case round =>
    obtain ⟨k, hk, rfl, hA, ⟨z, hZ⟩, ⟨g, hg, hO⟩, hb⟩ := hrel
    by_cases hlt : k < 16
    · have f2 := hO.frozen k
      have c2 := hO.ftab hlt
      have hidx := fun w' => run_index_arr_i (P := Try.prog) w' Try.underlying33 Try.underlying27 (by kernel_rfl) hlt (get_itab .i16 x 16 k hlt) .i64
      have HA := hid hA; clear hA
      have HZ := hid hZ; clear hZ
      have HO := hid hO; clear hO
      have Hg := hid hg; clear hg
      go_wp2_with fail
      refine (i_FromShort _ _).mono ?_
      rintro e w' ⟨r, n, rfl, hr, hf, rfl⟩
      have hr := hid (And.intro hr hf)
      clear hf
      go_wp2
      go_roundw
      case rel =>
        refine ⟨k + 1, by omega, by go_num, (HA.out.drewN _).other _ _ (by simp; omega), ⟨z, (HZ.out.drewN _).other _ _ (by simp)⟩, ⟨fun j => if j = k then r else g j, fill_step (p := fun j v => can .f32 v = fromShort (x j) ∧ fits .f32 v) Hg.out hr.out, ?_⟩, (below_drewN hb _).setCell (by simp; omega) _⟩
        rw [← set_ftab]
        exact (HO.out.drewN _).set k (.float .f32 r)
      case measure => simp [intOf]; omega
    · obtain rfl : k = 16 := by omega
      have HA := hid hA; clear hA
      have Hg := hid hg; clear hg
      have hsz : (Try.prog.info? 35).map (·.size) = some (ftab .f32 g 16).size := by rw [size_ftab]; exact infoBlk
      go_wp2_with (first | (with_reducible refine wpList_loadA rfl rfl rfl hO Try.underlying35 hsz ?_) | (with_reducible refine wpList_storeA rfl rfl rfl rfl hZ hsz (by rw [size_ftab, size_ftab]) (one_ftab _ _ _) ?_))
      exact bodyPost_ret (results_cell_row rfl _ _ _ _ _ (0, 0) _ rfl (hZ.setRow _) Try.underlying35 rfl hsz) rfl ⟨g, rfl, Hg.out, below_setRow hb (by omega) _⟩
theorem toInt16A16_any (x : Nat → Int) (w : World) : Calls Try.prog 21 #[.agg (itab .i16 x 16)] w fun e w' => e = .returned (.agg (itab .i16 x 16)) ∧ Below w.heap.size w w' := by
  go_enter Try.func21, Try.ntmps21
  go_wp2
  go_loopw [4] (fun i wr => ∃ k : Nat, k ≤ 16 ∧ i = .int .i64 k ∧ Row wr w.heap.size 33 (itab .i16 x 16) ∧ (∃ z, Row wr (w.heap.size + 1) 33 (itab .i16 z 16)) ∧ (∃ g : Nat → Int, (∀ j, j < k → (g j) = x j) ∧ Row wr (w.heap.size + 1 + 1) 33 (itab .i16 g 16)) ∧ Below w.heap.size w wr) (fun i _ => 16 - (intOf i).toNat)
  case atStart =>
    refine ⟨0, by omega, rfl, ?_, ⟨fun _ => 0, ?_⟩, ⟨fun _ => 0, by intro j hj; omega, ?_⟩, by repeat' (first | (with_reducible exact Below.refl _ _) | (with_reducible assumption) | (with_reducible refine below_drewN ?_ _) | (with_reducible refine Below.alloc ?_ ?_ _) | (with_reducible refine Below.drew ?_) | (with_reducible refine Below.setCell ?_ ?_ _) | go_size)⟩
    · exact ((Row.new w _ _).alloc _).alloc _
    · exact (Row.new' _ _ _ (by simp)).alloc _
    · exact Row.new' _ _ _ (by simp)
  case round =>
    obtain ⟨k, hk, rfl, hA, ⟨z, hZ⟩, ⟨g, hg, hO⟩, hb⟩ := hrel
    by_cases hlt : k < 16
    · have f2 := hO.frozen k
      have c2 := hO.itab hlt
      have c1 := hA.itab hlt
      have HA := hid hA; clear hA
      have HZ := hid hZ; clear hZ
      have HO := hid hO; clear hO
      have Hg := hid hg; clear hg
      obtain ⟨r, hr⟩ : ∃ r, Hid (r = x k) := ⟨_, rfl⟩
      rw [← hr.out] at c1
      go_wp2
      go_roundw
      case rel =>
        refine ⟨k + 1, by omega, by go_num, HA.out.other _ _ (by simp; omega), ⟨z, HZ.out.other _ _ (by simp)⟩, ⟨fun j => if j = k then r else g j, fill_step (p := fun j v => v = x j) Hg.out hr.out, ?_⟩, hb.setCell (by simp; omega) _⟩
        rw [← set_itab]
        exact HO.out.set k (.int .i16 r)
      case measure => simp [intOf]; omega
    · obtain rfl : k = 16 := by omega
      have HA := hid hA; clear hA
      have Hg := hid hg; clear hg
      have hsz : (Try.prog.info? 33).map (·.size) = some (itab .i16 g 16).size := by rw [size_itab]; exact infoArr
      go_wp2_with (first | (with_reducible refine wpList_loadA rfl rfl rfl hO Try.underlying33 hsz ?_) | (with_reducible refine wpList_storeA rfl rfl rfl rfl hZ hsz (by rw [size_itab, size_itab]) (one_itab _ _ _) ?_))
      exact bodyPost_ret (results_cell_row rfl _ _ _ _ _ (0, 0) _ rfl (hZ.setRow _) Try.underlying33 rfl hsz) rfl ⟨by rw [itab_congr Hg.out], below_setRow hb (by omega) _⟩
theorem eqInt16A16_yes (x : Nat → Int) (w : World) :
    Calls Try.prog 19 #[.agg (itab .i16 x 16), .agg (itab .i16 x 16)] w fun e w' => e = .returned (.bool true) ∧ Below w.heap.size w w' := by
  go_enter Try.func19, Try.ntmps19
  go_wp2
  go_loopw [5] (fun i wr => ∃ k : Nat, k ≤ 16 ∧ i = .int .i64 k ∧ Row wr w.heap.size 33 (itab .i16 x 16) ∧ Row wr (w.heap.size + 1) 33 (itab .i16 x 16) ∧ Below w.heap.size w wr) (fun i _ => 16 - (intOf i).toNat)
  case atStart =>
    exact ⟨0, by omega, rfl, (Row.new w _ _).alloc _, Row.new' _ _ _ (by simp), by repeat' (first | (with_reducible exact Below.refl _ _) | (with_reducible assumption) | (with_reducible refine below_drewN ?_ _) | (with_reducible refine Below.alloc ?_ ?_ _) | (with_reducible refine Below.drew ?_) | (with_reducible refine Below.setCell ?_ ?_ _) | go_size)⟩
  case round =>
    obtain ⟨k, hk, rfl, hA, hB, hb⟩ := hrel
    by_cases hlt : k < 16
    · have c1 := hA.itab hlt
      have c2 := hB.itab hlt
      have HA := hid hA; clear hA
      have HB := hid hB; clear hB
      go_wp2_with fail
      refine wp_region_loose (fun _ _ _ => True) (by kernel_rfl) (by kernel_rfl) ?_
      repeat (refine wpLoose_quiet rfl ?_; go_big_quiet_step (fail); refine wpQuiet_nil ?_)
      refine wpLoose_nil (fun n => ?_)
      go_wp2
      go_roundw
      case rel => exact ⟨k + 1, by omega, by go_num, HA.out.drewN _, HB.out.drewN _, below_drewN hb _⟩
      case measure => simp [intOf]; omega
    · obtain rfl : k = 16 := by omega
      have HA := hid hA; clear hA
      have HB := hid hB; clear hB
      go_wp2
      go_ret
      exact ⟨rfl, hb⟩
end Go.Proofs.Ytibggjgffheibab
