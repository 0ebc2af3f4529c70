/- Rings: 'NewRing' of both. -/
import Derived.Test.YtaenbpkcehenkadSl
import Derived.Test.YtaenbpkcehenkadIn
namespace Go.Fk
open Go Go.RowKit
/-- The cells of a ring. -/
def ringC (s : Value) (at' : Int) : Array Value := #[s, .int .i64 at']
def OutR (n : Nat) (w : World) (e : Ending) (w' : World) : Prop := ∃ b, e = .returned (.tuple #[.agg #[.slice (some ⟨b, 0, none⟩) n n, .int .i64 0], .int .i64 0]) ∧ w.heap.size ≤ b ∧ le w w' ∧ ∃ t, Row w' b t (ftab .f32 (fun _ => 0) n)
def OutR0 (w : World) (e : Ending) (w' : World) : Prop := e = .returned (.tuple #[.agg #[.slice none 0 0, .int .i64 0], .int .i64 2]) ∧ le w w'
end Go.Fk
namespace Go.Proofs.Ytaenbpkcehenkad
open Go.RowKit Go.Fk
theorem infoRing : (Try.prog.info? 35).map (·.size) = some 2 := by kernel_rfl
set_option maxHeartbeats 1000000 in
theorem i_NewRing (n : Nat) (w : World) (h1 : 1 ≤ n) (h2 : n ≤ 1024) : Calls Try.prog 66 #[.int .i64 (n : Int)] w (OutR n w) := by
  have HM := fun w => makeF n (by omega) w
  have k1 : ¬ (n : Int) < 1 := by omega
  have k2 : (n : Int) ≤ 1024 := by omega
  have F := (Frm.nil w).box 35 #[.slice none 0 0, .int .i64 0]
  replace F := F.box 25 (ftab .f32 (fun _ => 0) n)
  simp only [World.size_alloc] at F
  go_enter Try.func66, Try.ntmps66
  go_wp2_with ((with_reducible refine stop_store rfl ?_))
  show wpList _ _ _ _ _ _
  refine wpList_storeD rfl rfl rfl (cells := #[.slice (some ⟨w.heap.size + 1, 0, none⟩) n n, .int .i64 0]) rfl (F.row (List.mem_cons_of_mem _ List.mem_cons_self)) infoRing rfl (by simp [Value.oneCell']) (fun w4 KW => ?_)
  have R := hid KW.row
  have R2 := hid (KW.other _ _ _ (by omega) (F.row List.mem_cons_self))
  have L := hid (KW.below _ _ F.below (Nat.le_refl _))
  clear KW F
  go_wp2
  exact bodyPost_ret (results_row2 rfl _ _ _ _ _ rfl R.out Try.underlying35 rfl infoRing) rfl ⟨_, rfl, by omega, L.out, _, R2.out⟩
theorem i_NewRing_no (k : Int) (w : World) (h : ¬ (1 ≤ k ∧ k ≤ 1024)) : Calls Try.prog 66 #[.int .i64 k] w (OutR0 w) := by
  have F := (Frm.nil w).box 35 #[.slice none 0 0, .int .i64 0]
  by_cases k1 : k < 1
  all_goals
    try have k2 : 1024 < k := by omega
    go_enter Try.func66, Try.ntmps66
    go_wp2_with ((with_reducible refine stop_store rfl ?_))
    show wpList _ _ _ _ _ _
    refine wpList_storeD rfl rfl rfl (cells := #[.slice none 0 0, .int .i64 0]) rfl (F.row List.mem_cons_self) infoRing rfl (by simp [Value.oneCell']) (fun w4 KW => ?_)
    have R := hid KW.row
    have L := hid (KW.below _ _ F.below (Nat.le_refl _))
    clear KW F
    go_wp2
    exact bodyPost_ret (results_row2 rfl _ _ _ _ _ rfl R.out Try.underlying35 rfl infoRing) rfl ⟨rfl, L.out⟩
end Go.Proofs.Ytaenbpkcehenkad
