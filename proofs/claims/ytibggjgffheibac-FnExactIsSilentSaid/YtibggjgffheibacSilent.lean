/- The contracts of 'IsSilent'. -/
import Derived.Test.YtibggjgffheibacBlk
import Derived.Test.YtibggjgffheibacEqA
namespace Go.Fk
open Go Go.RowKit
/-- Are all samples 0 or -0? -/
def silent (x : Nat → Nat) : Bool := (List.range 16).all (fun j => FloatKind.f32.format.order (x j) 0 == some .eq)
end Go.Fk
namespace Go.Proofs.Ytibggjgffheibac
open Go.RowKit Go.Fk
theorem s_IsSilent (x : Nat → Nat) (w : World) : Calls Try.prog 9 #[.agg (ftab .f32 x 16)] w fun e w' => e = .returned (.bool (silent x)) ∧ Below w.heap.size w w' := by
  have heq : ∀ w, (binOp .eql 25 (.agg (ftab .f32 x 16)) (.agg #[.float .f32 0, .float .f32 0, .float .f32 0, .float .f32 0, .float .f32 0, .float .f32 0, .float .f32 0, .float .f32 0, .float .f32 0, .float .f32 0, .float .f32 0, .float .f32 0, .float .f32 0, .float .f32 0, .float .f32 0, .float .f32 0])).run Try.prog w = .ok (.bool (silent x)) w :=
    fun w => run_eql_farr w 16 x (fun _ => 0) Try.underlying25 Try.underlying22 (by kernel_rfl)
  have hgd : Try.prog.eqGuardType Try.prog.depth 25 = false := by kernel_rfl
  have hsz : (Try.prog.info? 25).map (·.size) = some (ftab .f32 x 16).size := by rw [size_ftab]; exact infoBlk
  go_enter Try.func9, Try.ntmps9
  go_wp2_with (with_reducible refine wpList_loadA rfl rfl rfl (Row.new w _ _) Try.underlying25 hsz ?_)
  go_ret
  exact ⟨rfl, by repeat' (first | (with_reducible exact Below.refl _ _) | (with_reducible assumption) | (with_reducible refine below_drewN ?_ _) | (with_reducible refine Below.alloc ?_ ?_ _) | (with_reducible refine Below.drew ?_) | (with_reducible refine Below.setCell ?_ ?_ _) | go_size)⟩
theorem i_IsSilent (x : Nat → Nat) (w : World) : Calls Try.prog 11 #[.agg (ftab .f32 x 16)] w fun e w' => e = .returned (.bool (silent x)) ∧ Below w.heap.size w w' := by
  have heq : ∀ w, (binOp .eql 25 (.agg (ftab .f32 x 16)) (.agg #[.float .f32 0, .float .f32 0, .float .f32 0, .float .f32 0, .float .f32 0, .float .f32 0, .float .f32 0, .float .f32 0, .float .f32 0, .float .f32 0, .float .f32 0, .float .f32 0, .float .f32 0, .float .f32 0, .float .f32 0, .float .f32 0])).run Try.prog w = .ok (.bool (silent x)) w :=
    fun w => run_eql_farr w 16 x (fun _ => 0) Try.underlying25 Try.underlying22 (by kernel_rfl)
  have hgd : Try.prog.eqGuardType Try.prog.depth 25 = false := by kernel_rfl
  have hsz : (Try.prog.info? 25).map (·.size) = some (ftab .f32 x 16).size := by rw [size_ftab]; exact infoBlk
  go_enter Try.func11, Try.ntmps11
  go_wp2_with (with_reducible refine wpList_loadA rfl rfl rfl (Row.new w _ _) Try.underlying25 hsz ?_)
  go_ret
  exact ⟨rfl, by repeat' (first | (with_reducible exact Below.refl _ _) | (with_reducible assumption) | (with_reducible refine below_drewN ?_ _) | (with_reducible refine Below.alloc ?_ ?_ _) | (with_reducible refine Below.drew ?_) | (with_reducible refine Below.setCell ?_ ?_ _) | go_size)⟩
end Go.Proofs.Ytibggjgffheibac
