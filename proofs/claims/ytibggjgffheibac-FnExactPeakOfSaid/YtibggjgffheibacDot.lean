/- The contracts of 'DotOf' and 'EnergyOf'. -/
import Derived.Test.YtibggjgffheibacBlk
namespace Go.Fk
open Go Go.RowKit
/-- The sum of the first k products, from left to right. -/
def dotW (x y : Nat → Nat) : Nat → Nat
  | 0 => 0
  | 1 => fop .mul .f32 (x 0) (y 0)
  | k + 2 => fop .add .f32 (dotW x y (k + 1)) (fop .mul .f32 (x (k + 1)) (y (k + 1)))
theorem dotW_succ (x y : Nat → Nat) {k : Nat} (h : 1 ≤ k) : dotW x y (k + 1) = fop .add .f32 (dotW x y k) (fop .mul .f32 (x k) (y k)) := by
  obtain ⟨j, rfl⟩ : ∃ j, k = j + 1 := ⟨k - 1, by omega⟩
  rfl
/-- A float is given, known up to the bits of NaN; nothing old is written. -/
def OutF (c : Nat) (w : World) (e : Ending) (w' : World) : Prop := ∃ r, e = .returned (.float .f32 r) ∧ can .f32 r = c ∧ Below w.heap.size w w'
end Go.Fk
namespace Go.Proofs.Ytibggjgffheibac
open Go.RowKit Go.Fk
end Go.Proofs.Ytibggjgffheibac
