/- The contracts of 'RampBlock'. -/
import Derived.Test.YtibggjgffheibacBlk
namespace Go.Proofs.Ytibggjgffheibac
open Go.RowKit Go.Fk

theorem s_RampBlock (x : Nat → Nat) (p : Nat) (q : Nat) (w : World) : Calls Try.prog 19 #[.agg (ftab .f32 x 16), .float .f32 p, .float .f32 q] w (OutB (fun j => fop .mul .f32 (x j) (fop .add .f32 p (fop .mul .f32 (fop .sub .f32 q p) (fop .quo .f32 (floatOfInt .f32 (j : Int)) 1098907648)))) w) := by
  go_enter Try.func19, Try.ntmps19
  go_wp2
  go_loopw [7] (fun i wr => ∃ k : Nat, k ≤ 16 ∧ i = .int .i64 k ∧ (∃ g, (∀ j, j < k → can .f32 (g j) = fop .mul .f32 (x j) (fop .add .f32 p (fop .mul .f32 (fop .sub .f32 q p) (fop .quo .f32 (floatOfInt .f32 (j : Int)) 1098907648))) ∧ fits .f32 (g j)) ∧ (∀ j, k ≤ j → g j = x j) ∧ Row wr w.heap.size 25 (ftab .f32 g 16)) ∧ (∃ z, Row wr (w.heap.size + 1) 25 (ftab .f32 z 16)) ∧ Below w.heap.size w wr) (fun i _ => 16 - (intOf i).toNat)
  case atStart =>
    refine ⟨0, by omega, rfl, ⟨x, by intro j hj; omega, fun j _ => rfl, ?_⟩, ⟨fun _ => 0, ?_⟩, by repeat' (first | (with_reducible exact Below.refl _ _) | (with_reducible assumption) | (with_reducible refine below_drewN ?_ _) | (with_reducible refine Below.alloc ?_ ?_ _) | (with_reducible refine Below.drew ?_) | (with_reducible refine Below.setCell ?_ ?_ _) | go_size)⟩
    · exact (Row.new w _ _).alloc _
    · exact Row.new' _ _ _ (by simp)
  case round =>
    obtain ⟨k, hk, rfl, ⟨g, hg, hx, hA⟩, ⟨z, hZ⟩, hb⟩ := hrel
    by_cases hlt : k < 16
    · have c1 := hA.ftab hlt
      rw [hx k (Nat.le_refl _)] at c1
      have f1 := hA.frozen k
      have HA := hid hA; clear hA
      have HZ := hid hZ; clear hZ
      have Hg := hid hg; clear hg
      have Hx := hid hx; clear hx
      go_wp2_with (first | (with_reducible refine wpList_farith (op := .sub) rfl rfl rfl rfl rfl ?_; intro d n1 hd fd) | (with_reducible refine wpList_farith (op := .quo) rfl rfl rfl rfl rfl ?_; intro s n2 hs fs) | (with_reducible refine wpList_farith (op := .add) rfl rfl rfl rfl rfl ?_; intro t n3 ht ft) | (with_reducible refine wpList_farith (op := .mul) rfl rfl rfl rfl rfl ?_; intro r n4 hr hf))
      have hm := ‹Hid (can .f32 _ = fop .mul .f32 d s)›
      have hr : Hid (can .f32 r = fop .mul .f32 (x k) (fop .add .f32 p (fop .mul .f32 (fop .sub .f32 q p) (fop .quo .f32 (floatOfInt .f32 (k : Int)) 1098907648)))) := by
        have e := hr.out
        rw [← fop_can_r .mul .f32 (x k) t, ht.out, ← fop_can_r .add .f32 p, hm.out, ← fop_can_l .mul .f32 d, hd.out, ← fop_can_r .mul .f32 _ s, hs.out] at e
        exact e
      go_wp2
      go_roundw
      case rel =>
        refine ⟨k + 1, by omega, by go_num, ⟨fun j => if j = k then r else g j, fill_step (p := fun j v => can .f32 v = fop .mul .f32 (x j) (fop .add .f32 p (fop .mul .f32 (fop .sub .f32 q p) (fop .quo .f32 (floatOfInt .f32 (j : Int)) 1098907648))) ∧ fits .f32 v) Hg.out ⟨hr.out, hf.out⟩, rest_step Hx.out, ?_⟩, ⟨z, (HZ.out.drewN _).other _ _ (by simp)⟩, (below_drewN hb _).setCell (by simp) _⟩
        rw [← set_ftab]
        exact (HA.out.drewN _).set k (.float .f32 r)
      case measure => simp [intOf]; omega
    · obtain rfl : k = 16 := by omega
      have Hg := hid hg; clear hg
      have Hx := hid hx; clear hx
      have hsz : (Try.prog.info? 25).map (·.size) = some (ftab .f32 g 16).size := by rw [size_ftab]; exact infoBlk
      go_wp2_with (first | (with_reducible refine wpList_loadA rfl rfl rfl hA Try.underlying25 hsz ?_) | (with_reducible refine wpList_storeA rfl rfl rfl rfl hZ hsz (by rw [size_ftab, size_ftab]) (one_ftab _ _ _) ?_))
      exact bodyPost_ret (results_cell_row rfl _ _ _ _ _ (0, 0) _ rfl (hZ.setRow _) Try.underlying25 rfl hsz) rfl ⟨g, rfl, Hg.out, below_setRow hb (by omega) _⟩
theorem i_RampBlock (x : Nat → Nat) (p : Nat) (q : Nat) (w : World) : Calls Try.prog 20 #[.agg (ftab .f32 x 16), .float .f32 p, .float .f32 q] w (OutB (fun j => fop .mul .f32 (x j) (fop .add .f32 p (fop .mul .f32 (fop .sub .f32 q p) (fop .quo .f32 (floatOfInt .f32 (j : Int)) 1098907648)))) w) := by
  go_enter Try.func20, Try.ntmps20
  go_wp2
  go_loopw [9] (fun i wr => ∃ k : Nat, k ≤ 16 ∧ i = .int .i64 k ∧ (∃ g, (∀ j, j < k → can .f32 (g j) = fop .mul .f32 (x j) (fop .add .f32 p (fop .mul .f32 (fop .sub .f32 q p) (fop .quo .f32 (floatOfInt .f32 (j : Int)) 1098907648))) ∧ fits .f32 (g j)) ∧ (∀ j, k ≤ j → g j = x j) ∧ Row wr w.heap.size 25 (ftab .f32 g 16)) ∧ (∃ z, Row wr (w.heap.size + 1) 25 (ftab .f32 z 16)) ∧ Below w.heap.size w wr) (fun i _ => 16 - (intOf i).toNat)
  case atStart =>
    refine ⟨0, by omega, rfl, ⟨x, by intro j hj; omega, fun j _ => rfl, ?_⟩, ⟨fun _ => 0, ?_⟩, by repeat' (first | (with_reducible exact Below.refl _ _) | (with_reducible assumption) | (with_reducible refine below_drewN ?_ _) | (with_reducible refine Below.alloc ?_ ?_ _) | (with_reducible refine Below.drew ?_) | (with_reducible refine Below.setCell ?_ ?_ _) | go_size)⟩
    · exact (Row.new w _ _).alloc _
    · exact Row.new' _ _ _ (by simp)
  case round =>
    obtain ⟨k, hk, rfl, ⟨g, hg, hx, hA⟩, ⟨z, hZ⟩, hb⟩ := hrel
    by_cases hlt : k < 16
    · have c1 := hA.ftab hlt
      rw [hx k (Nat.le_refl _)] at c1
      have f1 := hA.frozen k
      have HA := hid hA; clear hA
      have HZ := hid hZ; clear hZ
      have Hg := hid hg; clear hg
      have Hx := hid hx; clear hx
      go_wp2_with (first | (with_reducible refine wpList_farith (op := .sub) rfl rfl rfl rfl rfl ?_; intro d n1 hd fd) | (with_reducible refine wpList_farith (op := .quo) rfl rfl rfl rfl rfl ?_; intro s n2 hs fs) | (with_reducible refine wpList_farith (op := .add) rfl rfl rfl rfl rfl ?_; intro t n3 ht ft) | (with_reducible refine wpList_farith (op := .mul) rfl rfl rfl rfl rfl ?_; intro r n4 hr hf))
      have hm := ‹Hid (can .f32 _ = fop .mul .f32 d s)›
      have hr : Hid (can .f32 r = fop .mul .f32 (x k) (fop .add .f32 p (fop .mul .f32 (fop .sub .f32 q p) (fop .quo .f32 (floatOfInt .f32 (k : Int)) 1098907648)))) := by
        have e := hr.out
        rw [← fop_can_r .mul .f32 (x k) t, ht.out, ← fop_can_r .add .f32 p, hm.out, ← fop_can_l .mul .f32 d, hd.out, ← fop_can_r .mul .f32 _ s, hs.out] at e
        exact e
      go_wp2
      go_roundw
      case rel =>
        refine ⟨k + 1, by omega, by go_num, ⟨fun j => if j = k then r else g j, fill_step (p := fun j v => can .f32 v = fop .mul .f32 (x j) (fop .add .f32 p (fop .mul .f32 (fop .sub .f32 q p) (fop .quo .f32 (floatOfInt .f32 (j : Int)) 1098907648))) ∧ fits .f32 v) Hg.out ⟨hr.out, hf.out⟩, rest_step Hx.out, ?_⟩, ⟨z, (HZ.out.drewN _).other _ _ (by simp)⟩, (below_drewN hb _).setCell (by simp) _⟩
        rw [← set_ftab]
        exact (HA.out.drewN _).set k (.float .f32 r)
      case measure => simp [intOf]; omega
    · obtain rfl : k = 16 := by omega
      have Hg := hid hg; clear hg
      have Hx := hid hx; clear hx
      have hsz : (Try.prog.info? 25).map (·.size) = some (ftab .f32 g 16).size := by rw [size_ftab]; exact infoBlk
      go_wp2_with (first | (with_reducible refine wpList_loadA rfl rfl rfl hA Try.underlying25 hsz ?_) | (with_reducible refine wpList_storeA rfl rfl rfl rfl hZ hsz (by rw [size_ftab, size_ftab]) (one_ftab _ _ _) ?_))
      exact bodyPost_ret (results_cell_row rfl _ _ _ _ _ (0, 0) _ rfl (hZ.setRow _) Try.underlying25 rfl hsz) rfl ⟨g, rfl, Hg.out, below_setRow hb (by omega) _⟩
end Go.Proofs.Ytibggjgffheibac
