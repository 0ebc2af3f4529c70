/- Slices of floats in the laws' helpers: 'szFloat32S', 'toFloat32S', 'eqFloat32S'. -/
import Derived.Test.YtaenbpkcehenkacOpen3
import Derived.Test.YtaenbpkcehenkacSame
import Derived.Test.YtaenbpkcehenkacLoose2
import Derived.Test.YtaenbpkcehenkacFrm
import Derived.Deep.OwnRows
namespace Go.Fk
open Go Go.RowKit
theorem made_tab (n : Nat) : madeCells #[Value.float .f32 0] n = ftab .f32 (fun _ => 0) n := by
  apply Array.ext
  · simp [size_madeCells, size_ftab]
  · intro i h1 h2
    simp [madeCells, ftab, tab, Nat.mod_one]
theorem cell_lt {w : World} {p : Addr} {v : Value} (h : w.cell? p = some v) : p.block < w.heap.size := by
  apply Nat.lt_of_not_le
  intro hle
  have : w.heap[p.block]? = none := Array.getElem?_eq_none hle
  simp [World.cell?, this] at h
end Go.Fk
namespace Go.Proofs.Ytaenbpkcehenkac
open Go.RowKit Go.Fk
theorem szS_no (v : Value) (x : Nat → Nat) (n : Nat) (m : Int) (w : World) (hv : SlIn w v x n) (h0 : 0 ≤ m) (h1 : m ≤ 1048576) (hn : n ≤ 9223372036854775807) (hm : m - (n : Int) < 0) :
    Calls Try.prog 96 #[v, .int .i64 m] w fun e w' => e = .returned (.int .i64 (-1)) ∧ w = w' := by
  rcases hv with ⟨rfl, rfl⟩ | ⟨a, cap, rfl, hc, hg, hx⟩
  · exact absurd hm (by omega)
  · have HX := hid hx; clear hx
    go_enter Try.func96, Try.ntmps96
    go_wp2
    go_ret
    exact ⟨rfl, rfl⟩
theorem szS_yes (v : Value) (x : Nat → Nat) (n : Nat) (m : Int) (w : World) (hv : SlIn w v x n) (h0 : 0 ≤ m) (h1 : m ≤ 1048576) (hn : n ≤ 9223372036854775807) (hm : 0 ≤ m - (n : Int)) :
    Calls Try.prog 96 #[v, .int .i64 m] w fun e w' => e = .returned (.int .i64 (m - n)) ∧ w = w' := by
  rcases hv with ⟨rfl, rfl⟩ | ⟨a, cap, rfl, hc, hg, hx⟩
  · go_enter Try.func96, Try.ntmps96
    go_wp2
    go_ret
    exact ⟨ret_i (by omega), rfl⟩
  · have HX := hid hx; clear hx
    go_enter Try.func96, Try.ntmps96
    go_wp2
    go_ret
    exact ⟨rfl, rfl⟩
theorem info36 : ∃ i, Try.prog.info? 22 = some i ∧ i.zero = some (.float .f32 0) ∧ i.size = 1 ∧ i.bytes = 4 := by
  have h : (Try.prog.info? 22).map (fun i => (i.zero, i.size, i.bytes)) = some (some (.float .f32 0), 1, 4) := by kernel_rfl
  cases e : Try.prog.info? 22 with
  | none => rw [e] at h; cases h
  | some i =>
    rw [e] at h
    simp only [Option.map_some, Option.some.injEq, Prod.mk.injEq] at h
    exact ⟨i, rfl, h.1, h.2.1, h.2.2⟩
theorem makeF (n : Nat) (hn : n ≤ 1048576) (w : World) : (Instr.makeSlice 23 (.int .i64 (n : Int)) (.int .i64 (n : Int))).run Try.prog w = .ok (.slice (some ⟨w.heap.size, 0, none⟩) n n) (w.alloc (.cells (ftab .f32 (fun _ => 0) n) 22)) := by
  obtain ⟨i, h1, h2, h3, h4⟩ := info36
  rw [← made_tab]
  exact run_make_row (P := Try.prog) 23 22 i (.float .f32 0) (by rw [Try.underlying23]) h1 h2 h3 rfl .i64 .i64 n (by rw [h4]; omega) (by omega) w
set_option maxHeartbeats 1000000 in
theorem toS_some (a : Addr) (cap : Nat) (x : Nat → Nat) (n : Nat) (w : World) (hc : n ≤ cap) (hx : ∀ i, i < n → w.cell? (a.add i) = some (.float .f32 (x i))) (hn : n ≤ 1048576) :
    Calls Try.prog 29 #[.slice (some a) n cap] w fun e w' => e = .returned (.slice (some ⟨w.heap.size, 0, none⟩) n n) ∧ Row w' w.heap.size 22 (ftab .f32 x n) ∧ le w w' := by
  have HX := hid hx; clear hx
  have HM := fun w => makeF n hn w
  go_enter Try.func29, Try.ntmps29
  go_wp2
  go_loopw [4] (fun i wr => ∃ k : Nat, k ≤ n ∧ i = .int .i64 k ∧ Hid (Row wr w.heap.size 22 (ftab .f32 (fun j => if j < k then x j else 0) n)) ∧ Hid (le w wr)) (fun i _ => n - (intOf i).toNat)
  case atStart =>
    exact ⟨0, by omega, rfl, Row.new w _ _, le_alloc w _⟩
  case round =>
    obtain ⟨k, hk, rfl, HO, HB⟩ := hrel
    by_cases hlt : k < n
    · rename_i wr _
      have c1 : wr.cell? (a.add k) = some (.float .f32 (x k)) := (Below.cell HB.out (cell_lt (HX.out k hlt))).trans (HX.out k hlt)
      have c2 := HO.out.ftab hlt
      have f2 := HO.out.frozen k
      go_wp2
      go_roundw
      case rel =>
        refine ⟨k + 1, by omega, by go_num, ?_, Below.setCell HB.out (Nat.le_refl _) _⟩
        have h := HO.out.set k (.float .f32 (x k))
        rw [set_ftab] at h
        rw [show (fun j => if j < k + 1 then x j else 0) = (fun j => if j = k then x k else if j < k then x j else 0) from ?_]
        · exact h
        · funext j
          by_cases e : j = k
          · subst e; simp
          · simp [e, show (j < k + 1) = (j < k) by simp; omega]
      case measure => simp [intOf]; omega
    · obtain rfl : k = n := by omega
      have hO := HO.out
      rw [show ftab .f32 (fun j => if j < k then x j else 0) k = ftab .f32 x k from ftab_congr (fun j hj => if_pos hj)] at hO
      have HO := hid hO
      clear hO
      go_wp2
      go_ret
      exact ⟨rfl, HO.out, HB.out⟩
theorem toS_nil (x : Nat → Nat) (w : World) :
    Calls Try.prog 29 #[.slice none 0 0] w fun e w' => e = .returned (.slice (some ⟨w.heap.size, 0, none⟩) 0 0) ∧ Row w' w.heap.size 22 (ftab .f32 x 0) ∧ le w w' := by
  have HM := fun w => makeF 0 (by omega) w
  simp only [Int.natCast_zero] at HM
  have HR : ∀ w : World, Hid (Row (w.alloc (.cells (ftab .f32 (fun _ => 0) 0) 22)) w.heap.size 22 (ftab .f32 x 0)) := fun w => Row.new w _ _
  have HR := HR w
  have HL := hid (le_alloc w (.cells (ftab .f32 (fun _ => 0) 0) 22))
  go_enter Try.func29, Try.ntmps29
  go_wp2
  go_loopw [4] (fun i wr => i = .int .i64 0 ∧ wr = w.alloc (.cells (ftab .f32 (fun _ => 0) 0) 22)) (fun i _ => 0)
  case atStart => exact ⟨rfl, rfl⟩
  case round =>
    obtain ⟨rfl, rfl⟩ := hrel
    go_wp2
    go_ret
    exact ⟨rfl, HR.out, HL.out⟩
theorem toS (v : Value) (x : Nat → Nat) (n : Nat) (w : World) (hv : SlIn w v x n) (hn : n ≤ 1048576) :
    Calls Try.prog 29 #[v] w fun e w' => e = .returned (.slice (some ⟨w.heap.size, 0, none⟩) n n) ∧ Row w' w.heap.size 22 (ftab .f32 x n) ∧ le w w' := by
  rcases hv with ⟨rfl, rfl⟩ | ⟨a, cap, rfl, hc, hg, hx⟩
  · exact toS_nil x w
  · exact toS_some a cap x n w hc (fun i hi => (hx i hi).1) hn
set_option maxHeartbeats 1000000 in
theorem eqS_yes (g o cap g' o' cap' : Nat) (x y : Nat → Nat) (n : Nat) (w : World) (hn : n ≤ 1048576) (hc : n ≤ cap) (hc' : n ≤ cap') (hx : ∀ i, i < n → w.cell? ⟨g, o + i, none⟩ = some (.float .f32 (x i))) (hy : ∀ i, i < n → w.cell? ⟨g', o' + i, none⟩ = some (.float .f32 (y i))) (h : ∀ j, j < n → can .f32 (x j) = can .f32 (y j)) :
    Calls Try.prog 31 #[.slice (some ⟨g, o, none⟩) n cap, .slice (some ⟨g', o', none⟩) n cap'] w fun e w' => e = .returned (.bool true) ∧ ∃ m, w' = w.drewN m := by
  have H := hid h; clear h
  have HX := hid hx; have HY := hid hy; clear hx hy
  go_enter Try.func31, Try.ntmps31
  go_wp2
  go_loopw [5] (fun i wr => ∃ k : Nat, k ≤ n ∧ i = .int .i64 k ∧ ∃ m, wr = w.drewN m) (fun i _ => n - (intOf i).toNat)
  case atStart => exact ⟨0, by omega, rfl, 0, rfl⟩
  case round =>
    obtain ⟨k, hk, rfl, m, rfl⟩ := hrel
    by_cases hlt : k < n
    · have c1 := HX.out k hlt
      have c2 := HY.out k hlt
      have hxy := hid (H.out k hlt)
      generalize x k = p at *
      generalize y k = q at *
      go_wp2_with fail
      refine wp_region_loose (fun _ _ v => v = .bool true) (by kernel_rfl) (by kernel_rfl) ?_
      repeat (first | (with_reducible refine wpLoose_widen rfl rfl rfl Try.underlying22 Try.underlying60 ?_; intro r hr hf; simp only [Act.put, List.setIfInBounds_toArray, List.set_cons_succ, List.set_cons_zero]) | (refine wpLoose_quiet rfl ?_; go_big_quiet_step (fail); refine wpQuiet_nil ?_))
      refine wpLoose_any rfl (· = .bool true) (fun m0 => ?_) ?_
      · go_simp
        have hr1 := ‹Hid (can .f64 _ = can .f64 (widen p))›
        refine (sameFloat_yes _ _ _ (hr1.out.trans ((congrArg (can .f64) (widen_congr hxy.out)).trans hr.out.symm))).mono ?_
        rintro e w2 ⟨rfl, m2, rfl⟩
        exact ⟨_, rfl, rfl, m0 + m2, by go_simp; rw [Nat.add_assoc]⟩
      · rintro v rfl
        simp only [Act.put, List.setIfInBounds_toArray, List.set_cons_succ, List.set_cons_zero]
        repeat (refine wpLoose_quiet rfl ?_; go_big_quiet_step (fail); refine wpQuiet_nil ?_)
        refine wpLoose_nil (fun m1 => ?_)
        go_wp2
        go_roundw
        case rel => exact ⟨k + 1, by omega, by go_num, _, rfl⟩
        case measure => simp [intOf]; omega
    · obtain rfl : k = n := by omega
      go_wp2
      go_ret
      exact ⟨rfl, _, rfl⟩
end Go.Proofs.Ytaenbpkcehenkac
