/- 'SineTable' of both. -/
import Derived.Test.YtpfdegimnjbehaaSine
import Derived.Test.YtpfdegimnjbehaaTab
import Derived.Test.YtpfdegimnjbehaaFrm
namespace Go.Fk
open Go Go.RowKit
theorem sineW_can {a b : Nat} (h : can .f32 a = can .f32 b) : sineW a = sineW b := by
  cases hn : isNan .f32 a
  · rw [eq_of_can h hn]
  · have hm := (isNan_of_can h).symm.trans hn
    have f1 : fin a = false := by
      obtain ⟨s, t, h1⟩ := read_nan hn
      simp [fin, h1]
    have f2 : fin b = false := by
      obtain ⟨s, t, h1⟩ := read_nan hm
      simp [fin, h1]
    simp [sineW, f1, f2]
def share256 (j : Nat) : Nat := fop .quo .f32 (floatOfInt .f32 (j : Int)) 1132462080
def OutT (o : Nat → Nat) (w : World) (e : Ending) (w' : World) : Prop := ∃ g : Nat → Nat, e = .returned (.agg (ftab .f32 g 257)) ∧ (∀ j, j < 257 → can .f32 (g j) = o j) ∧ le w w'
end Go.Fk
namespace Go.Proofs.Ytpfdegimnjbehaa
open Go.RowKit Go.Fk
set_option maxRecDepth 100000 in
set_option maxHeartbeats 2000000 in
theorem i_SineTable (w : World) : Calls Try.prog 23 #[] w (OutT (fun j => sineW (share256 j)) w) := by
  go_enter Try.func23, Try.ntmps23
  go_wp2
  go_loopw [3] (fun i wr => ∃ k : Nat, k ≤ 257 ∧ i = .int .i64 k ∧ ∃ g : Nat → Nat, Hid (∀ j, j < k → can .f32 (g j) = sineW (share256 j)) ∧ Hid (Row wr (w.heap.size + 1) 34 (ftab .f32 g 257)) ∧ Hid (∃ z, Row wr w.heap.size 34 (ftab .f32 z 257)) ∧ Hid (le w wr)) (fun i _ => 257 - (intOf i).toNat)
  case atStart =>
    refine ⟨0, by omega, rfl, fun _ => 0, fun j hj => absurd hj (by omega), Row.new' _ _ _ (by simp), ⟨fun _ => 0, (Row.new w _ _).alloc _⟩, ?_⟩
    show le w _
    unfold le
    repeat' (first | (with_reducible exact Below.refl _ _) | (with_reducible assumption) | (with_reducible refine below_drewN ?_ _) | (with_reducible refine Below.alloc ?_ ?_ _) | (with_reducible refine Below.drew ?_) | (with_reducible refine Below.setCell ?_ ?_ _) | go_size)
  case round =>
    obtain ⟨k, hk, rfl, g, HG, HT, HZ, HB⟩ := hrel
    by_cases hlt : k < 257
    · go_wp2_with (first | (with_reducible refine wpList_farith (op := .quo) rfl rfl rfl rfl rfl ?_; intro s n2 hs fs) | (go_at_call 21; ((with_reducible refine (i_Sine _ _).mono ?_); rintro e w2 ⟨q, rfl, hq, hb⟩; replace hq := hid hq; replace HB := hid (le_trans (le_trans HB.out (le_drewN _ n2)) hb); have RT := HT.out.le (le_trans (le_drewN _ n2) hb); replace HZ := hid (HZ.out.imp (fun z hz => Row.le hz (le_trans (le_drewN _ n2) hb))); have cc := RT.ftab hlt; have ff := RT.frozen k; replace HT := hid RT; clear hb RT)))
      go_roundw
      case rel =>
        refine ⟨k + 1, by omega, by go_num, fun j => if j = k then q else g j, fill_step (p := fun j v => can .f32 v = sineW (share256 j)) HG.out (hq.out.trans (sineW_can (hs.out.trans (can_fop _ _ _ _).symm))), ?_, HZ.out.imp (fun z hz => hz.other _ _ (by simp)), ?_⟩
        · have := HT.out.set k (.float .f32 q)
          rw [set_ftab] at this
          exact this
        · exact Below.setCell HB.out (by simp) _
      case measure => simp [intOf]; omega
    · obtain rfl : k = 257 := by omega
      have hT := HT.out
      obtain ⟨z, hZ⟩ := HZ.out
      have hsz : (Try.prog.info? 34).map (·.size) = some (ftab .f32 g 257).size := by rw [size_ftab]; exact infoTab
      go_wp2_with (first | (with_reducible refine wpList_loadA rfl rfl rfl hT Try.underlying34 hsz ?_) | (with_reducible refine wpList_storeA rfl rfl rfl rfl hZ hsz (by rw [size_ftab, size_ftab]) (one_ftab _ _ _) ?_))
      exact bodyPost_ret (results_cell_row rfl _ _ _ _ _ (0, 0) _ rfl (hZ.setRow _) Try.underlying34 rfl hsz) rfl ⟨g, rfl, HG.out, below_setRow HB.out (Nat.le_refl _) _⟩
theorem zeroTab : Try.zeroCells34 = ftab .f32 (fun _ => 0) 257 := by kernel_rfl
set_option maxRecDepth 100000 in
set_option maxHeartbeats 2000000 in
theorem s_SineTable (w : World) : Calls Try.prog 43 #[] w (OutT (fun j => sineW (share256 j)) w) := by
  go_enter Try.func43, Try.ntmps43
  have F := (Frm.nil w).box 34 Try.zeroCells34
  go_wp2_with ((with_reducible refine stop_store rfl ?_))
  show wpList _ _ _ _ _ _
  refine wpList_storeFr (cells := Try.zeroCells34) F rfl rfl rfl (by show Value.pointer _ = _; simp) rfl (by rw [zeroTab, size_ftab]; exact infoTab) rfl (by rw [zeroTab]; exact one_ftab _ _ _) (fun W F => ?_)
  rw [zeroTab] at F
  simp only [World.size_alloc] at F
  have RT := hid (F.row (g := w.heap.size + 1) (t := 34) (cs := ftab .f32 (fun _ => 0) 257) List.mem_cons_self)
  have RZ := hid (F.row (g := w.heap.size) (t := 34) (cs := ftab .f32 (fun _ => 0) 257) (List.mem_cons_of_mem _ List.mem_cons_self))
  have LB := hid F.below
  clear F
  go_wp2
  go_loopw [2] (fun i wr => ∃ k : Nat, k ≤ 257 ∧ i = .int .i64 k ∧ ∃ g : Nat → Nat, Hid (∀ j, j < k → can .f32 (g j) = sineW (share256 j)) ∧ Hid (Row wr (w.heap.size + 1) 34 (ftab .f32 g 257)) ∧ Hid (∃ z, Row wr w.heap.size 34 (ftab .f32 z 257)) ∧ Hid (le w wr)) (fun i _ => 257 - (intOf i).toNat)
  case atStart =>
    exact ⟨0, by omega, rfl, fun _ => 0, fun j hj => absurd hj (by omega), RT, ⟨fun _ => 0, RZ.out⟩, LB⟩
  case round =>
    clear RT RZ LB
    obtain ⟨k, hk, rfl, g, HG, HT, HZ, HB⟩ := hrel
    by_cases hlt : k < 257
    · have hlt' : (k : Int) ≤ 256 := by omega
      go_wp2_with (first | (with_reducible refine wpList_farith (op := .quo) rfl rfl rfl rfl rfl ?_; intro s n2 hs fs) | (go_at_call 75; ((with_reducible refine (s_Sine _ _).mono ?_); rintro e w2 ⟨q, nq, rfl, hq, rfl⟩; replace hq := hid hq; replace HB := hid (le_trans HB.out (le_drewN _ (n2 + nq))); have RT := HT.out.drewN (n2 + nq); replace HZ := hid (HZ.out.imp (fun z hz => Row.drewN hz (n2 + nq))); have cc := RT.ftab hlt; have ff := RT.frozen k; replace HT := hid RT; clear RT)))
      go_roundw
      case rel =>
        refine ⟨k + 1, by omega, by go_num, fun j => if j = k then q else g j, fill_step (p := fun j v => can .f32 v = sineW (share256 j)) HG.out (hq.out.trans (sineW_can (hs.out.trans (can_fop _ _ _ _).symm))), ?_, HZ.out.imp (fun z hz => Row.other hz _ _ (by simp)), ?_⟩
        · have := HT.out.set k (.float .f32 q)
          rw [set_ftab] at this
          exact this
        · exact Below.setCell HB.out (by simp) _
      case measure => simp [intOf]; omega
    · obtain rfl : k = 257 := by omega
      have hT := HT.out
      obtain ⟨z, hZ⟩ := HZ.out
      have hsz : (Try.prog.info? 34).map (·.size) = some (ftab .f32 g 257).size := by rw [size_ftab]; exact infoTab
      go_wp2_with (first | (with_reducible refine wpList_loadA rfl rfl rfl hT Try.underlying34 hsz ?_) | (with_reducible refine wpList_storeA rfl rfl rfl rfl hZ hsz (by rw [size_ftab, size_ftab]) (one_ftab _ _ _) ?_))
      exact bodyPost_ret (results_cell_row rfl _ _ _ _ _ (0, 0) _ rfl (hZ.setRow _) Try.underlying34 rfl hsz) rfl ⟨g, rfl, HG.out, below_setRow HB.out (Nat.le_refl _) _⟩
end Go.Proofs.Ytpfdegimnjbehaa
