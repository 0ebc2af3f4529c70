/- Arrays of floats: 'laws.toX', 'laws.eqX' of [3]float32, [2]float32, Table. -/
import Derived.Test.YtpfdegimnjbehabBlk
namespace Go.Proofs.Ytpfdegimnjbehab
open Go.RowKit Go.Fk
theorem infoA3 : (Try.prog.info? 47).map (·.size) = some 3 := by kernel_rfl
theorem allocA3 (w : World) : (Instr.alloc 47 true (.tuple #[])).run Try.prog w = .ok (.pointer (some ⟨w.heap.size, 0, none⟩)) (w.alloc (.cells (ftab .f32 (fun _ => 0) 3) 47)) := by kernel_rfl
theorem eqA3_yes (x y : Nat → Nat) (w : World) (h : ∀ j, j < 3 → can .f32 (x j) = can .f32 (y j)) :
    Calls Try.prog 60 #[.agg (ftab .f32 x 3), .agg (ftab .f32 y 3)] w fun e w' => e = .returned (.bool true) ∧ Below w.heap.size w w' := by
  have H := hid h; clear h
  go_enter Try.func60, Try.ntmps60
  go_wp2
  go_loopw [5] (fun i wr => ∃ k : Nat, k ≤ 3 ∧ i = .int .i64 k ∧ Row wr w.heap.size 47 (ftab .f32 x 3) ∧ Row wr (w.heap.size + 1) 47 (ftab .f32 y 3) ∧ Below w.heap.size w wr) (fun i _ => 3 - (intOf i).toNat)
  case atStart =>
    exact ⟨0, by omega, rfl, (Row.new w _ _).alloc _, Row.new' _ _ _ (by simp), by repeat' (first | (with_reducible exact Below.refl _ _) | (with_reducible assumption) | (with_reducible refine below_drewN ?_ _) | (with_reducible refine Below.alloc ?_ ?_ _) | (with_reducible refine Below.drew ?_) | (with_reducible refine Below.setCell ?_ ?_ _) | go_size)⟩
  case round =>
    obtain ⟨k, hk, rfl, hA, hB, hb⟩ := hrel
    by_cases hlt : k < 3
    · have c1 := hA.ftab hlt
      have c2 := hB.ftab hlt
      have HA := hid hA; clear hA
      have HB := hid hB; clear hB
      have hxy := hid (H.out k hlt)
      go_wp2_with fail
      refine wp_region_loose (fun _ _ v => v = .bool true) (by kernel_rfl) (by kernel_rfl) ?_
      repeat (first | (with_reducible refine wpLoose_widen rfl rfl rfl Try.underlying36 Try.underlying40 ?_; intro r hr hf; simp only [Act.put, List.setIfInBounds_toArray, List.set_cons_succ, List.set_cons_zero]) | (refine wpLoose_quiet rfl ?_; go_big_quiet_step (fail); refine wpQuiet_nil ?_))
      refine wpLoose_any rfl (· = .bool true) (fun n => ?_) ?_
      · go_simp
        refine loose_of (sameFloat_yes _ _ _ ?_)
        have hr1 := ‹Hid (can .f64 _ = can .f64 (widen (x k)))›
        exact hr1.out.trans ((congrArg (can .f64) (widen_congr hxy)).trans hr.out.symm)
      · rintro v rfl
        simp only [Act.put, List.setIfInBounds_toArray, List.set_cons_succ, List.set_cons_zero]
        repeat (refine wpLoose_quiet rfl ?_; go_big_quiet_step (fail); refine wpQuiet_nil ?_)
        refine wpLoose_nil (fun n => ?_)
        go_wp2
        go_roundw
        case rel => exact ⟨k + 1, by omega, by go_num, HA.out.drewN _, HB.out.drewN _, below_drewN hb _⟩
        case measure => simp [intOf]; omega
    · obtain rfl : k = 3 := by omega
      have HA := hid hA; clear hA
      have HB := hid hB; clear hB
      go_wp2
      go_ret
      exact ⟨rfl, hb⟩
theorem infoA2 : (Try.prog.info? 48).map (·.size) = some 2 := by kernel_rfl
theorem allocA2 (w : World) : (Instr.alloc 48 true (.tuple #[])).run Try.prog w = .ok (.pointer (some ⟨w.heap.size, 0, none⟩)) (w.alloc (.cells (ftab .f32 (fun _ => 0) 2) 48)) := by kernel_rfl
theorem eqA2_yes (x y : Nat → Nat) (w : World) (h : ∀ j, j < 2 → can .f32 (x j) = can .f32 (y j)) :
    Calls Try.prog 61 #[.agg (ftab .f32 x 2), .agg (ftab .f32 y 2)] w fun e w' => e = .returned (.bool true) ∧ Below w.heap.size w w' := by
  have H := hid h; clear h
  go_enter Try.func61, Try.ntmps61
  go_wp2
  go_loopw [5] (fun i wr => ∃ k : Nat, k ≤ 2 ∧ i = .int .i64 k ∧ Row wr w.heap.size 48 (ftab .f32 x 2) ∧ Row wr (w.heap.size + 1) 48 (ftab .f32 y 2) ∧ Below w.heap.size w wr) (fun i _ => 2 - (intOf i).toNat)
  case atStart =>
    exact ⟨0, by omega, rfl, (Row.new w _ _).alloc _, Row.new' _ _ _ (by simp), by repeat' (first | (with_reducible exact Below.refl _ _) | (with_reducible assumption) | (with_reducible refine below_drewN ?_ _) | (with_reducible refine Below.alloc ?_ ?_ _) | (with_reducible refine Below.drew ?_) | (with_reducible refine Below.setCell ?_ ?_ _) | go_size)⟩
  case round =>
    obtain ⟨k, hk, rfl, hA, hB, hb⟩ := hrel
    by_cases hlt : k < 2
    · have c1 := hA.ftab hlt
      have c2 := hB.ftab hlt
      have HA := hid hA; clear hA
      have HB := hid hB; clear hB
      have hxy := hid (H.out k hlt)
      go_wp2_with fail
      refine wp_region_loose (fun _ _ v => v = .bool true) (by kernel_rfl) (by kernel_rfl) ?_
      repeat (first | (with_reducible refine wpLoose_widen rfl rfl rfl Try.underlying36 Try.underlying40 ?_; intro r hr hf; simp only [Act.put, List.setIfInBounds_toArray, List.set_cons_succ, List.set_cons_zero]) | (refine wpLoose_quiet rfl ?_; go_big_quiet_step (fail); refine wpQuiet_nil ?_))
      refine wpLoose_any rfl (· = .bool true) (fun n => ?_) ?_
      · go_simp
        refine loose_of (sameFloat_yes _ _ _ ?_)
        have hr1 := ‹Hid (can .f64 _ = can .f64 (widen (x k)))›
        exact hr1.out.trans ((congrArg (can .f64) (widen_congr hxy)).trans hr.out.symm)
      · rintro v rfl
        simp only [Act.put, List.setIfInBounds_toArray, List.set_cons_succ, List.set_cons_zero]
        repeat (refine wpLoose_quiet rfl ?_; go_big_quiet_step (fail); refine wpQuiet_nil ?_)
        refine wpLoose_nil (fun n => ?_)
        go_wp2
        go_roundw
        case rel => exact ⟨k + 1, by omega, by go_num, HA.out.drewN _, HB.out.drewN _, below_drewN hb _⟩
        case measure => simp [intOf]; omega
    · obtain rfl : k = 2 := by omega
      have HA := hid hA; clear hA
      have HB := hid hB; clear hB
      go_wp2
      go_ret
      exact ⟨rfl, hb⟩
end Go.Proofs.Ytpfdegimnjbehab
