/- The contracts of 'DotOf' and 'EnergyOf'. -/
import Derived.Test.YtibggjgffheibadBlk
namespace Go.Fk
open Go Go.RowKit
/-- The sum of the first k products, from left to right. -/
def dotW (x y : Nat → Nat) : Nat → Nat
  | 0 => 0
  | 1 => fop .mul .f32 (x 0) (y 0)
  | k + 2 => fop .add .f32 (dotW x y (k + 1)) (fop .mul .f32 (x (k + 1)) (y (k + 1)))
theorem dotW_succ (x y : Nat → Nat) {k : Nat} (h : 1 ≤ k) : dotW x y (k + 1) = fop .add .f32 (dotW x y k) (fop .mul .f32 (x k) (y k)) := by
  obtain ⟨j, rfl⟩ : ∃ j, k = j + 1 := ⟨k - 1, by omega⟩
  rfl
/-- A float is given, known up to the bits of NaN; nothing old is written. -/
def OutF (c : Nat) (w : World) (e : Ending) (w' : World) : Prop := ∃ r, e = .returned (.float .f32 r) ∧ can .f32 r = c ∧ Below w.heap.size w w'
end Go.Fk
namespace Go.Proofs.Ytibggjgffheibad
open Go.RowKit Go.Fk
theorem s_l01Dot (x y : Nat → Nat) (w : World) : Calls Try.prog 33 #[.agg (ftab .f32 x 16), .agg (ftab .f32 y 16)] w (OutF (dotW x y 16) w) := by
  have e1 := get_ftab .f32 x 16 0 (by omega)
  have e2 := get_ftab .f32 y 16 0 (by omega)
  go_enter Try.func33, Try.ntmps33
  go_wp2_with (with_reducible refine wpList_farith rfl rfl rfl rfl rfl ?_; intro s0 n0 h0 f0)
  clear e1 e2
  go_loopw [5, 6] (fun sv i wr => ∃ k s : Nat, 1 ≤ k ∧ k ≤ 16 ∧ i = .int .i64 k ∧ sv = .float .f32 s ∧ can .f32 s = dotW x y k ∧ Row wr w.heap.size 25 (ftab .f32 x 16) ∧ Row wr (w.heap.size + 1) 25 (ftab .f32 y 16) ∧ Below w.heap.size w wr) (fun _ i _ => 16 - (intOf i).toNat)
  case atStart =>
    refine ⟨1, s0, by omega, by omega, rfl, rfl, h0.out, ?_, ?_, by repeat' (first | (with_reducible exact Below.refl _ _) | (with_reducible assumption) | (with_reducible refine below_drewN ?_ _) | (with_reducible refine Below.alloc ?_ ?_ _) | (with_reducible refine Below.drew ?_) | (with_reducible refine Below.setCell ?_ ?_ _) | go_size)⟩
    · exact ((Row.new w _ _).alloc _).drewN _
    · exact (Row.new' _ _ _ (by simp)).drewN _
  case round =>
    obtain ⟨k, s, hk1, hk, rfl, rfl, hs, hA, hB, hb⟩ := hrel
    have Hs := hid hs; clear hs
    by_cases hlt : k < 16
    · have c1 := hA.ftab hlt
      have c2 := hB.ftab hlt
      have HA := hid hA; clear hA
      have HB := hid hB; clear hB
      go_wp2_with fail
      refine wp_region_loose (fun _ _ _ => True) (by kernel_rfl) (by kernel_rfl) ?_
      repeat (first | (with_reducible refine wpLoose_farith rfl rfl rfl rfl rfl ?_; intro r hr hf; simp only [Act.put, List.setIfInBounds_toArray, List.set_cons_succ, List.set_cons_zero]) | (refine wpLoose_quiet rfl ?_; go_big_quiet_step (fail); refine wpQuiet_nil ?_))
      refine wpLoose_nil (fun m => ?_)
      go_wp2
      go_roundw
      case rel =>
        refine ⟨k + 1, r, by omega, by omega, by go_num, rfl, ?_, HA.out.drewN _, HB.out.drewN _, below_drewN hb _⟩
        have hm := ‹Hid (can .f32 _ = fop .mul .f32 (x k) (y k))›
        have e := hr.out
        rw [← fop_can_l .add .f32 s, Hs.out, ← fop_can_r .add .f32 (dotW x y k), hm.out] at e
        rw [e, dotW_succ x y hk1]
      case measure => simp [intOf]; omega
    · obtain rfl : k = 16 := by omega
      have HA := hid hA; clear hA
      have HB := hid hB; clear hB
      go_wp2
      go_ret
      exact ⟨s, rfl, Hs.out, hb⟩
theorem i_DotOf (x y : Nat → Nat) (w : World) : Calls Try.prog 14 #[.agg (ftab .f32 x 16), .agg (ftab .f32 y 16)] w (OutF (dotW x y 16) w) := by
  have e1 := get_ftab .f32 x 16 0 (by omega)
  have e2 := get_ftab .f32 y 16 0 (by omega)
  go_enter Try.func14, Try.ntmps14
  go_wp2_with (with_reducible refine wpList_farith rfl rfl rfl rfl rfl ?_; intro s0 n0 h0 f0)
  clear e1 e2
  go_loopw [5, 6] (fun sv i wr => ∃ k s : Nat, 1 ≤ k ∧ k ≤ 16 ∧ i = .int .i64 k ∧ sv = .float .f32 s ∧ can .f32 s = dotW x y k ∧ Row wr w.heap.size 25 (ftab .f32 x 16) ∧ Row wr (w.heap.size + 1) 25 (ftab .f32 y 16) ∧ Below w.heap.size w wr) (fun _ i _ => 16 - (intOf i).toNat)
  case atStart =>
    refine ⟨1, s0, by omega, by omega, rfl, rfl, h0.out, ?_, ?_, by repeat' (first | (with_reducible exact Below.refl _ _) | (with_reducible assumption) | (with_reducible refine below_drewN ?_ _) | (with_reducible refine Below.alloc ?_ ?_ _) | (with_reducible refine Below.drew ?_) | (with_reducible refine Below.setCell ?_ ?_ _) | go_size)⟩
    · exact ((Row.new w _ _).alloc _).drewN _
    · exact (Row.new' _ _ _ (by simp)).drewN _
  case round =>
    obtain ⟨k, s, hk1, hk, rfl, rfl, hs, hA, hB, hb⟩ := hrel
    have Hs := hid hs; clear hs
    by_cases hlt : k < 16
    · have c1 := hA.ftab hlt
      have c2 := hB.ftab hlt
      have HA := hid hA; clear hA
      have HB := hid hB; clear hB
      go_wp2_with fail
      refine wp_region_loose (fun _ _ _ => True) (by kernel_rfl) (by kernel_rfl) ?_
      repeat (first | (with_reducible refine wpLoose_farith rfl rfl rfl rfl rfl ?_; intro r hr hf; simp only [Act.put, List.setIfInBounds_toArray, List.set_cons_succ, List.set_cons_zero]) | (refine wpLoose_quiet rfl ?_; go_big_quiet_step (fail); refine wpQuiet_nil ?_))
      refine wpLoose_nil (fun m => ?_)
      go_wp2
      go_roundw
      case rel =>
        refine ⟨k + 1, r, by omega, by omega, by go_num, rfl, ?_, HA.out.drewN _, HB.out.drewN _, below_drewN hb _⟩
        have hm := ‹Hid (can .f32 _ = fop .mul .f32 (x k) (y k))›
        have e := hr.out
        rw [← fop_can_l .add .f32 s, Hs.out, ← fop_can_r .add .f32 (dotW x y k), hm.out] at e
        rw [e, dotW_succ x y hk1]
      case measure => simp [intOf]; omega
    · obtain rfl : k = 16 := by omega
      have HA := hid hA; clear hA
      have HB := hid hB; clear hB
      go_wp2
      go_ret
      exact ⟨s, rfl, Hs.out, hb⟩
theorem s_EnergyOf (x : Nat → Nat) (w : World) : Calls Try.prog 9 #[.agg (ftab .f32 x 16)] w (OutF (dotW x x 16) w) := by
  have hsz : (Try.prog.info? 25).map (·.size) = some (ftab .f32 x 16).size := by rw [size_ftab]; exact infoBlk
  go_enter Try.func9, Try.ntmps9
  go_wp2_with (first | (with_reducible refine wpList_loadA rfl rfl rfl (Row.new w _ _) Try.underlying25 hsz ?_) | (go_at_call 33; refine (s_l01Dot _ _ _).mono ?_; rintro e w1 ⟨r, rfl, hr, hb⟩; have Hr := hid hr; clear hr))
  go_ret
  exact ⟨r, rfl, Hr.out, le_trans (le_alloc w _) hb⟩
theorem i_EnergyOf (x : Nat → Nat) (w : World) : Calls Try.prog 11 #[.agg (ftab .f32 x 16)] w (OutF (dotW x x 16) w) := by
  have hsz : (Try.prog.info? 25).map (·.size) = some (ftab .f32 x 16).size := by rw [size_ftab]; exact infoBlk
  go_enter Try.func11, Try.ntmps11
  go_wp2_with (first | (with_reducible refine wpList_loadA rfl rfl rfl (Row.new w _ _) Try.underlying25 hsz ?_) | (go_at_call 14; refine (i_DotOf _ _ _).mono ?_; rintro e w1 ⟨r, rfl, hr, hb⟩; have Hr := hid hr; clear hr))
  go_ret
  exact ⟨r, rfl, Hr.out, le_trans (le_alloc w _) hb⟩
theorem s_DotOf (x y : Nat → Nat) (w : World) : Calls Try.prog 13 #[.agg (ftab .f32 x 16), .agg (ftab .f32 y 16)] w (OutF (dotW x y 16) w) := by
  have hsx : (Try.prog.info? 25).map (·.size) = some (ftab .f32 x 16).size := by rw [size_ftab]; exact infoBlk
  have hsy : (Try.prog.info? 25).map (·.size) = some (ftab .f32 y 16).size := by rw [size_ftab]; exact infoBlk
  go_enter Try.func13, Try.ntmps13
  go_wp2_with (first | (with_reducible refine wpList_loadA rfl rfl rfl ((Row.new w _ _).alloc _) Try.underlying25 hsx ?_) | (with_reducible refine wpList_loadA rfl rfl rfl (Row.new' _ _ _ (by simp)) Try.underlying25 hsy ?_) | (go_at_call 33; refine (s_l01Dot _ _ _).mono ?_; rintro e w1 ⟨r, rfl, hr, hb⟩; have Hr := hid hr; clear hr))
  go_ret
  exact ⟨r, rfl, Hr.out, le_trans (le_trans (le_alloc w _) (le_alloc _ _)) hb⟩
end Go.Proofs.Ytibggjgffheibad
