/- The contracts of 'SameBlock'. -/
import Derived.Test.YtibggjgffheibabBlk
import Derived.Test.YtibggjgffheibabNaN
namespace Go.Fk
open Go Go.RowKit
/-- Are all samples the same? -/
def sameBlk (x y : Nat → Nat) : Bool := (List.range 16).all (fun j => sameB (x j) (y j))
end Go.Fk
namespace Go.Proofs.Ytibggjgffheibab
open Go.RowKit Go.Fk
theorem s_l01SameBlock (x y : Nat → Nat) (w : World) : Calls Try.prog 30 #[.agg (ftab .f32 x 16), .agg (ftab .f32 y 16)] w fun e w' => e = .returned (.bool (sameBlk x y)) ∧ Below w.heap.size w w' := by
  go_enter Try.func30, Try.ntmps30
  go_wp2
  go_loopw [5] (fun i wr => ∃ k : Nat, k ≤ 16 ∧ i = .int .i64 k ∧ Hid (∀ j, j < k → sameB (x j) (y j) = true) ∧ Row wr w.heap.size 35 (ftab .f32 x 16) ∧ Row wr (w.heap.size + 1) 35 (ftab .f32 y 16) ∧ Below w.heap.size w wr) (fun i _ => 16 - (intOf i).toNat)
  case atStart =>
    exact ⟨0, by omega, rfl, fun j hj => by omega, (Row.new w _ _).alloc _, Row.new' _ _ _ (by simp), by repeat' (first | (with_reducible exact Below.refl _ _) | (with_reducible assumption) | (with_reducible refine below_drewN ?_ _) | (with_reducible refine Below.alloc ?_ ?_ _) | (with_reducible refine Below.drew ?_) | (with_reducible refine Below.setCell ?_ ?_ _) | go_size)⟩
  case round =>
    obtain ⟨k, hk, rfl, Hs, hA, hB, hb⟩ := hrel
    by_cases hlt : k < 16
    · have c1 := hA.ftab hlt
      have c2 := hB.ftab hlt
      have HA := hid hA; clear hA
      have HB := hid hB; clear hB
      cases hsk : sameB (x k) (y k)
      · have hno : sameBlk x y = false := by
          rw [Bool.eq_false_iff]
          intro h
          have := List.all_eq_true.1 h k (List.mem_range.2 hlt)
          rw [hsk] at this; cases this
        have Hno := hid hno; clear hno
        go_wp2_with fail
        refine wp_region_loose (fun _ _ v => v = .bool (sameB (x k) (y k))) (by kernel_rfl) (by kernel_rfl) ?_
        repeat (refine wpLoose_quiet rfl ?_; go_big_quiet_step (fail); refine wpQuiet_nil ?_)
        refine wpLoose_any rfl (· = .bool (sameB (x k) (y k))) (fun n => ?_) ?_
        · go_simp
          rw [← hsk]
          exact loose_of_same (s_l01Same _ _ _)
        · rintro v rfl
          simp only [Act.put, List.setIfInBounds_toArray, List.set_cons_succ, List.set_cons_zero]
          rw [hsk]
          repeat (refine wpLoose_quiet rfl ?_; go_big_quiet_step (fail); refine wpQuiet_nil ?_)
          refine wpLoose_nil (fun m => ?_)
          go_wp2
          go_ret
          exact ⟨ret_b Hno.out.symm, below_drewN hb _⟩
      · go_wp2_with fail
        refine wp_region_loose (fun _ _ v => v = .bool (sameB (x k) (y k))) (by kernel_rfl) (by kernel_rfl) ?_
        repeat (refine wpLoose_quiet rfl ?_; go_big_quiet_step (fail); refine wpQuiet_nil ?_)
        refine wpLoose_any rfl (· = .bool (sameB (x k) (y k))) (fun n => ?_) ?_
        · go_simp
          rw [← hsk]
          exact loose_of_same (s_l01Same _ _ _)
        · rintro v rfl
          simp only [Act.put, List.setIfInBounds_toArray, List.set_cons_succ, List.set_cons_zero]
          rw [hsk]
          repeat (refine wpLoose_quiet rfl ?_; go_big_quiet_step (fail); refine wpQuiet_nil ?_)
          refine wpLoose_nil (fun m => ?_)
          go_wp2
          go_roundw
          case rel =>
            refine ⟨k + 1, by omega, by go_num, ?_, HA.out.drewN _, HB.out.drewN _, below_drewN hb _⟩
            intro j hj
            by_cases e : j = k
            · rw [e]; exact hsk
            · exact Hs.out j (by omega)
          case measure => simp [intOf]; omega
    · obtain rfl : k = 16 := by omega
      have HA := hid hA; clear hA
      have HB := hid hB; clear hB
      go_wp2
      go_ret
      refine ⟨ret_b ?_, hb⟩
      symm
      exact List.all_eq_true.2 (fun j hj => Hs.out j (List.mem_range.1 hj))
theorem i_SameBlock (x y : Nat → Nat) (w : World) : Calls Try.prog 25 #[.agg (ftab .f32 x 16), .agg (ftab .f32 y 16)] w fun e w' => e = .returned (.bool (sameBlk x y)) ∧ Below w.heap.size w w' := by
  go_enter Try.func25, Try.ntmps25
  go_wp2
  go_loopw [6] (fun i wr => ∃ k : Nat, k ≤ 16 ∧ i = .int .i64 k ∧ Hid (∀ j, j < k → sameB (x j) (y j) = true) ∧ Row wr w.heap.size 35 (ftab .f32 x 16) ∧ Row wr (w.heap.size + 1) 35 (ftab .f32 y 16) ∧ Below w.heap.size w wr) (fun i _ => 16 - (intOf i).toNat)
  case atStart =>
    exact ⟨0, by omega, rfl, fun j hj => by omega, (Row.new w _ _).alloc _, Row.new' _ _ _ (by simp), by repeat' (first | (with_reducible exact Below.refl _ _) | (with_reducible assumption) | (with_reducible refine below_drewN ?_ _) | (with_reducible refine Below.alloc ?_ ?_ _) | (with_reducible refine Below.drew ?_) | (with_reducible refine Below.setCell ?_ ?_ _) | go_size)⟩
  case round =>
    obtain ⟨k, hk, rfl, Hs, hA, hB, hb⟩ := hrel
    by_cases hlt : k < 16
    · have c1 := hA.ftab hlt
      have c2 := hB.ftab hlt
      have HA := hid hA; clear hA
      have HB := hid hB; clear hB
      cases hsk : sameB (x k) (y k)
      · have hno : sameBlk x y = false := by
          rw [Bool.eq_false_iff]
          intro h
          have := List.all_eq_true.1 h k (List.mem_range.2 hlt)
          rw [hsk] at this; cases this
        have Hno := hid hno; clear hno
        go_wp2_with fail
        refine wp_region_loose (fun _ _ v => v = .bool (sameB (x k) (y k))) (by kernel_rfl) (by kernel_rfl) ?_
        repeat (refine wpLoose_quiet rfl ?_; go_big_quiet_step (fail); refine wpQuiet_nil ?_)
        refine wpLoose_any rfl (· = .bool (sameB (x k) (y k))) (fun n => ?_) ?_
        · go_simp
          rw [← hsk]
          exact loose_of_same (i_SameSample _ _ _)
        · rintro v rfl
          simp only [Act.put, List.setIfInBounds_toArray, List.set_cons_succ, List.set_cons_zero]
          rw [hsk]
          repeat (refine wpLoose_quiet rfl ?_; go_big_quiet_step (fail); refine wpQuiet_nil ?_)
          refine wpLoose_nil (fun m => ?_)
          go_wp2
          go_ret
          exact ⟨ret_b Hno.out.symm, below_drewN hb _⟩
      · go_wp2_with fail
        refine wp_region_loose (fun _ _ v => v = .bool (sameB (x k) (y k))) (by kernel_rfl) (by kernel_rfl) ?_
        repeat (refine wpLoose_quiet rfl ?_; go_big_quiet_step (fail); refine wpQuiet_nil ?_)
        refine wpLoose_any rfl (· = .bool (sameB (x k) (y k))) (fun n => ?_) ?_
        · go_simp
          rw [← hsk]
          exact loose_of_same (i_SameSample _ _ _)
        · rintro v rfl
          simp only [Act.put, List.setIfInBounds_toArray, List.set_cons_succ, List.set_cons_zero]
          rw [hsk]
          repeat (refine wpLoose_quiet rfl ?_; go_big_quiet_step (fail); refine wpQuiet_nil ?_)
          refine wpLoose_nil (fun m => ?_)
          go_wp2
          go_roundw
          case rel =>
            refine ⟨k + 1, by omega, by go_num, ?_, HA.out.drewN _, HB.out.drewN _, below_drewN hb _⟩
            intro j hj
            by_cases e : j = k
            · rw [e]; exact hsk
            · exact Hs.out j (by omega)
          case measure => simp [intOf]; omega
    · obtain rfl : k = 16 := by omega
      have HA := hid hA; clear hA
      have HB := hid hB; clear hB
      go_wp2
      go_ret
      refine ⟨ret_b ?_, hb⟩
      symm
      exact List.all_eq_true.2 (fun j hj => Hs.out j (List.mem_range.1 hj))
theorem s_SameBlock (x y : Nat → Nat) (w : World) : Calls Try.prog 24 #[.agg (ftab .f32 x 16), .agg (ftab .f32 y 16)] w fun e w' => e = .returned (.bool (sameBlk x y)) ∧ Below w.heap.size w w' := by
  have hsx : (Try.prog.info? 35).map (·.size) = some (ftab .f32 x 16).size := by rw [size_ftab]; exact infoBlk
  have hsy : (Try.prog.info? 35).map (·.size) = some (ftab .f32 y 16).size := by rw [size_ftab]; exact infoBlk
  go_enter Try.func24, Try.ntmps24
  go_wp2_with (first | (with_reducible refine wpList_loadA rfl rfl rfl ((Row.new w _ _).alloc _) Try.underlying35 hsx ?_) | (with_reducible refine wpList_loadA rfl rfl rfl (Row.new' _ _ _ (by simp)) Try.underlying35 hsy ?_) | (go_at_call 30; refine (s_l01SameBlock _ _ _).mono ?_; rintro e w1 ⟨rfl, hb⟩))
  go_ret
  exact ⟨rfl, le_trans (le_trans (le_alloc w _) (le_alloc _ _)) hb⟩
end Go.Proofs.Ytibggjgffheibab
