/- Tables of 257 floats: 'laws.toTable', 'laws.eqTable'. -/
import Derived.Test.YtaenbpkcehenkaaBlk
namespace Go.Proofs.Ytaenbpkcehenkaa
open Go.RowKit Go.Fk
theorem infoTab : (Try.prog.info? 89).map (·.size) = some 257 := by kernel_rfl
set_option maxRecDepth 100000 in
theorem toTab_any (x : Nat → Nat) (w : World) : Calls Try.prog 64 #[.agg (ftab .f32 x 257)] w fun e w' => e = .returned (.agg (ftab .f32 x 257)) ∧ Below w.heap.size w w' := by
  go_enter Try.func64, Try.ntmps64
  go_wp2
  go_loopw [4] (fun i wr => ∃ k : Nat, k ≤ 257 ∧ i = .int .i64 k ∧ Row wr w.heap.size 87 (ftab .f32 x 257) ∧ (∃ z, Row wr (w.heap.size + 1) 89 (ftab .f32 z 257)) ∧ Row wr (w.heap.size + 1 + 1) 89 (ftab .f32 (fun j => if j < k then x j else 0) 257) ∧ Below w.heap.size w wr) (fun i _ => 257 - (intOf i).toNat)
  case atStart =>
    refine ⟨0, by omega, rfl, ?_, ⟨fun _ => 0, ?_⟩, ?_, by repeat' (first | (with_reducible exact Below.refl _ _) | (with_reducible assumption) | (with_reducible refine below_drewN ?_ _) | (with_reducible refine Below.alloc ?_ ?_ _) | (with_reducible refine Below.drew ?_) | (with_reducible refine Below.setCell ?_ ?_ _) | go_size)⟩
    · exact ((Row.new w _ _).alloc _).alloc _
    · exact (Row.new' _ _ _ (by simp)).alloc _
    · exact Row.new' _ _ _ (by simp)
  case round =>
    obtain ⟨k, hk, rfl, hA, ⟨z, hZ⟩, hO, hb⟩ := hrel
    by_cases hlt : k < 257
    · have c1 := hA.ftab hlt
      have c2 := hO.ftab hlt
      have f2 := hO.frozen k
      have HA := hid hA; clear hA
      have HZ := hid hZ; clear hZ
      have HO := hid hO; clear hO
      go_wp2
      go_roundw
      case rel =>
        refine ⟨k + 1, by omega, by go_num, HA.out.other _ _ (by simp; omega), ⟨z, HZ.out.other _ _ (by simp)⟩, ?_, hb.setCell (by simp; omega) _⟩
        have h := HO.out.set k (.float .f32 (x k))
        rw [set_ftab] at h
        rw [show (fun j => if j < k + 1 then x j else 0) = (fun j => if j = k then x k else if j < k then x j else 0) from ?_]
        · exact h
        · funext j
          by_cases e : j = k
          · subst e; simp
          · simp [e, show (j < k + 1) = (j < k) by simp; omega]
      case measure => simp [intOf]; omega
    · obtain rfl : k = 257 := by omega
      rw [show ftab .f32 (fun j => if j < 257 then x j else 0) 257 = ftab .f32 x 257 from ftab_congr (fun j hj => if_pos hj)] at hO
      have HA := hid hA; clear hA
      have hsz : (Try.prog.info? 89).map (·.size) = some (ftab .f32 x 257).size := by rw [size_ftab]; exact infoTab
      go_wp2_with (first | (with_reducible refine wpList_loadA rfl rfl rfl hO Try.underlying89 hsz ?_) | (with_reducible refine wpList_storeA rfl rfl rfl rfl hZ hsz (by rw [size_ftab, size_ftab]) (one_ftab _ _ _) ?_))
      exact bodyPost_ret (results_cell_row rfl _ _ _ _ _ (0, 0) _ rfl (hZ.setRow _) Try.underlying89 rfl hsz) rfl ⟨rfl, below_setRow hb (by omega) _⟩
end Go.Proofs.Ytaenbpkcehenkaa
