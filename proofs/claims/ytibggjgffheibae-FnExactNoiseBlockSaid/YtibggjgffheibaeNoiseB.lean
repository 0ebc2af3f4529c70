/- The contracts of 'NoiseBlock'. -/
import Derived.Test.YtibggjgffheibaeNoise
import Derived.Test.YtibggjgffheibaeBlk
namespace Go.Fk
open Go Go.RowKit
def seedAt (s : Int) : Nat → Int
  | 0 => s
  | k + 1 => nextOf (seedAt s k)
theorem seedAt_range {s : Int} (h0 : 0 ≤ s) (h1 : s < 4294967296) : ∀ k, 0 ≤ seedAt s k ∧ seedAt s k < 4294967296
  | 0 => ⟨h0, h1⟩
  | k + 1 => nextOf_range _
def OutNB (s : Int) (w : World) (e : Ending) (w' : World) : Prop := ∃ g, e = .returned (.tuple #[.agg (ftab .f32 g 16), .int .u32 (seedAt s 16)]) ∧ (∀ j, j < 16 → can .f32 (g j) = noiseOf (seedAt s j) ∧ fits .f32 (g j)) ∧ Below w.heap.size w w'
end Go.Fk
namespace Go.Proofs.Ytibggjgffheibae
open Go.RowKit Go.Fk
theorem s_NoiseBlock (s : Int) (w : World) (h0 : 0 ≤ s) (h1 : s < 4294967296) : Calls Try.prog 13 #[.int .u32 s] w (OutNB s w) := by
  go_enter Try.func13, Try.ntmps13
  go_wp2
  go_loopw [0, 5] (fun sv i wr => ∃ k : Nat, k ≤ 16 ∧ i = .int .i64 k ∧ sv = .int .u32 (seedAt s k) ∧ (∃ z, Row wr w.heap.size 36 (ftab .f32 z 16)) ∧ (∃ g, (∀ j, j < k → can .f32 (g j) = noiseOf (seedAt s j) ∧ fits .f32 (g j)) ∧ Row wr (w.heap.size + 1) 36 (ftab .f32 g 16)) ∧ Below w.heap.size w wr) (fun _ i _ => 16 - (intOf i).toNat)
  case atStart =>
    refine ⟨0, by omega, rfl, rfl, ⟨fun _ => 0, ?_⟩, ⟨fun _ => 0, by intro j hj; omega, ?_⟩, by repeat' (first | (with_reducible exact Below.refl _ _) | (with_reducible assumption) | (with_reducible refine below_drewN ?_ _) | (with_reducible refine Below.alloc ?_ ?_ _) | (with_reducible refine Below.drew ?_) | (with_reducible refine Below.setCell ?_ ?_ _) | go_size)⟩
    · exact (Row.new w _ _).alloc _
    · exact Row.new' _ _ _ (by simp)
  case round =>
    obtain ⟨k, hk, rfl, rfl, ⟨z, hZ⟩, ⟨g, hg, hO⟩, hb⟩ := hrel
    obtain ⟨s0, s1⟩ := seedAt_range h0 h1 k
    by_cases hlt : k < 16
    · have f2 := hO.frozen k
      have c2 := hO.ftab hlt
      have HZ := hid hZ; clear hZ
      have HO := hid hO; clear hO
      have Hg := hid hg; clear hg
      go_wp2_with fail
      refine (s_l01Noise _ _ s0 s1).mono ?_
      rintro e w' ⟨r, m, rfl, hr, hf, rfl⟩
      have hr := hid (And.intro hr hf)
      clear hf
      go_wp2
      go_roundw
      case rel =>
        refine ⟨k + 1, by omega, by go_num, rfl, ⟨z, (HZ.out.drewN _).other _ _ (by simp)⟩, ⟨fun j => if j = k then r else g j, fill_step (p := fun j v => can .f32 v = noiseOf (seedAt s j) ∧ fits .f32 v) Hg.out hr.out, ?_⟩, (below_drewN hb _).setCell (by simp) _⟩
        rw [← set_ftab]
        exact (HO.out.drewN _).set k (.float .f32 r)
      case measure => simp [intOf]; omega
    · obtain rfl : k = 16 := by omega
      have Hg := hid hg; clear hg
      have hsz : (Try.prog.info? 36).map (·.size) = some (ftab .f32 g 16).size := by rw [size_ftab]; exact infoBlk
      go_wp2_with (first | (with_reducible refine wpList_loadA rfl rfl rfl hO Try.underlying36 hsz ?_) | (with_reducible refine wpList_storeA rfl rfl rfl rfl hZ hsz (by rw [size_ftab, size_ftab]) (one_ftab _ _ _) ?_))
      exact bodyPost_ret (results_cellrow_tmp rfl _ _ _ _ _ rfl (hZ.setRow _) Try.underlying36 hsz) rfl ⟨g, rfl, Hg.out, below_setRow hb (by omega) _⟩
theorem i_NoiseBlock (s : Int) (w : World) (h0 : 0 ≤ s) (h1 : s < 4294967296) : Calls Try.prog 14 #[.int .u32 s] w (OutNB s w) := by
  go_enter Try.func14, Try.ntmps14
  go_wp2
  go_loopw [0, 6] (fun sv i wr => ∃ k : Nat, k ≤ 16 ∧ i = .int .i64 k ∧ sv = .int .u32 (seedAt s k) ∧ (∃ z, Row wr w.heap.size 36 (ftab .f32 z 16)) ∧ (∃ g, (∀ j, j < k → can .f32 (g j) = noiseOf (seedAt s j) ∧ fits .f32 (g j)) ∧ Row wr (w.heap.size + 1) 36 (ftab .f32 g 16)) ∧ Below w.heap.size w wr) (fun _ i _ => 16 - (intOf i).toNat)
  case atStart =>
    refine ⟨0, by omega, rfl, rfl, ⟨fun _ => 0, ?_⟩, ⟨fun _ => 0, by intro j hj; omega, ?_⟩, by repeat' (first | (with_reducible exact Below.refl _ _) | (with_reducible assumption) | (with_reducible refine below_drewN ?_ _) | (with_reducible refine Below.alloc ?_ ?_ _) | (with_reducible refine Below.drew ?_) | (with_reducible refine Below.setCell ?_ ?_ _) | go_size)⟩
    · exact (Row.new w _ _).alloc _
    · exact Row.new' _ _ _ (by simp)
  case round =>
    obtain ⟨k, hk, rfl, rfl, ⟨z, hZ⟩, ⟨g, hg, hO⟩, hb⟩ := hrel
    obtain ⟨s0, s1⟩ := seedAt_range h0 h1 k
    by_cases hlt : k < 16
    · have f2 := hO.frozen k
      have c2 := hO.ftab hlt
      have HZ := hid hZ; clear hZ
      have HO := hid hO; clear hO
      have Hg := hid hg; clear hg
      go_wp2_with fail
      refine (i_NextNoise _ _ s0 s1).mono ?_
      rintro e w' ⟨r, m, rfl, hr, hf, rfl⟩
      have hr := hid (And.intro hr hf)
      clear hf
      go_wp2
      go_roundw
      case rel =>
        refine ⟨k + 1, by omega, by go_num, rfl, ⟨z, (HZ.out.drewN _).other _ _ (by simp)⟩, ⟨fun j => if j = k then r else g j, fill_step (p := fun j v => can .f32 v = noiseOf (seedAt s j) ∧ fits .f32 v) Hg.out hr.out, ?_⟩, (below_drewN hb _).setCell (by simp) _⟩
        rw [← set_ftab]
        exact (HO.out.drewN _).set k (.float .f32 r)
      case measure => simp [intOf]; omega
    · obtain rfl : k = 16 := by omega
      have Hg := hid hg; clear hg
      have hsz : (Try.prog.info? 36).map (·.size) = some (ftab .f32 g 16).size := by rw [size_ftab]; exact infoBlk
      go_wp2_with (first | (with_reducible refine wpList_loadA rfl rfl rfl hO Try.underlying36 hsz ?_) | (with_reducible refine wpList_storeA rfl rfl rfl rfl hZ hsz (by rw [size_ftab, size_ftab]) (one_ftab _ _ _) ?_))
      exact bodyPost_ret (results_cellrow_tmp rfl _ _ _ _ _ rfl (hZ.setRow _) Try.underlying36 hsz) rfl ⟨g, rfl, Hg.out, below_setRow hb (by omega) _⟩
end Go.Proofs.Ytibggjgffheibae
