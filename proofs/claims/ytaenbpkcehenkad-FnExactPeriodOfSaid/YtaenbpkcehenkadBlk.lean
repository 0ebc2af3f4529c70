/- Blocks of 16 floats: 'laws.toBlock', 'laws.eqBlock'. -/
import Derived.Test.YtaenbpkcehenkadSame
import Derived.Test.YtaenbpkcehenkadConv
import Derived.Test.YtaenbpkcehenkadRow
import Derived.Test.YtaenbpkcehenkadLoose2
import Derived.Test.YtaenbpkcehenkadTail
import Derived.Test.YtaenbpkcehenkadFree
import Derived.OwnWalk
namespace Go.Fk
open Go Go.RowKit
/-- A block of 16 floats is given, each up to the bits of NaN; nothing old is written. -/
def OutB (F : Nat → Nat) (w : World) (e : Ending) (w' : World) : Prop := ∃ g, e = .returned (.agg (ftab .f32 g 16)) ∧ (∀ j, j < 16 → can .f32 (g j) = F j ∧ fits .f32 (g j)) ∧ Below w.heap.size w w'
/-- One cell more of a row that is being filled. -/
theorem fill_step {α : Type} {p : Nat → α → Prop} {g : Nat → α} {k : Nat} {r : α} (h : ∀ j, j < k → p j (g j)) (hr : p k r) : ∀ j, j < k + 1 → p j (if j = k then r else g j) := by
  intro j hj
  by_cases e : j = k
  · subst e; simpa using hr
  · simpa [e] using h j (by omega)
theorem rest_step {α : Type} {g x : Nat → α} {k : Nat} {r : α} (h : ∀ j, k ≤ j → g j = x j) : ∀ j, k + 1 ≤ j → (if j = k then r else g j) = x j := by
  intro j hj
  rw [if_neg (by omega)]
  exact h j (by omega)
end Go.Fk
namespace Go.Proofs.Ytaenbpkcehenkad
open Go.RowKit Go.Fk

theorem infoBlk : (Try.prog.info? 83).map (·.size) = some 16 := by kernel_rfl

theorem allocBlk (w : World) : (Instr.alloc 83 true (.tuple #[])).run Try.prog w = .ok (.pointer (some ⟨w.heap.size, 0, none⟩)) (w.alloc (.cells (ftab .f32 (fun _ => 0) 16) 83)) := by kernel_rfl


end Go.Proofs.Ytaenbpkcehenkad
