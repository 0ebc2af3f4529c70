/- 'SameFilter' of both. -/
import Derived.Test.YtaenbpkcehenkaaOk
import Derived.Test.YtaenbpkcehenkaaNaN
import Derived.Test.YtaenbpkcehenkaaFrm
namespace Go.Fk
open Go Go.RowKit
/-- Are two rows the same? -/
def eqRow (f f' : Nat → Nat) (n : Nat) : Bool := (List.range n).all (fun j => sameB (f j) (f' j))
theorem eqRow_no {f f' : Nat → Nat} {n j : Nat} (hj : j < n) (h : sameB (f j) (f' j) = false) : eqRow f f' n = false := by
  rw [Bool.eq_false_iff]
  intro hh
  have := List.all_eq_true.1 hh j (List.mem_range.2 hj)
  rw [h] at this; cases this
theorem eqRow_yes {f f' : Nat → Nat} {n : Nat} (h : ∀ j, j < n → sameB (f j) (f' j) = true) : eqRow f f' n = true := List.all_eq_true.2 (fun j hj => h j (List.mem_range.1 hj))
theorem all_step {p : Nat → Prop} {k : Nat} (h : ∀ j, j < k → p j) (hk : p k) : ∀ j, j < k + 1 → p j := fun j hj => by
  by_cases e : j = k
  · rw [e]; exact hk
  · exact h j (by omega)
section
variable {P : Program} {ops : Array Oper} {w : World} {K : FuncId → Array Value → Value → Prop} {Q : Act → Prop} {o : Oper} {rest : List Oper} {a : Act} {C : World → Prop}
theorem wpLoose_anyW (hw : Region.wanted o (yielded ops a.tmps) = true) (V : Value → Prop) (h1 : ∀ n, within P (fun w' => ∃ m, w' = w.drewN m) K V ((execOp a.eval o).run P (w.drewN n)))
    (h2 : ∀ v, V v → wpLoose P ops (fun w' => ∃ m, w' = w.drewN m) K Q rest (a.put o.dst v)) : wpLoose P ops (fun w' => ∃ m, w' = w.drewN m) K Q (o :: rest) a :=
  ⟨V, .inl ⟨hw, fun w' hw' => by obtain ⟨n, rfl⟩ := hw'; exact h1 n⟩, h2⟩
theorem wpLoose_skip (hw : Region.wanted o (yielded ops a.tmps) = false) (h : wpLoose P ops C K Q rest (a.put o.dst undef)) : wpLoose P ops C K Q (o :: rest) a :=
  ⟨(· = undef), .inr ⟨hw, rfl⟩, fun v hv => by rw [hv]; exact h⟩
theorem wpLoose_nilW (hw : Region.wanted o (yielded ops a.tmps) = true) {x : Operand} (hop : o.op = Op.nilCheck x) {ad : Addr} (hx : a.eval x = .pointer (some ad))
    (hK : wpLoose P ops (fun w' => ∃ m, w' = w.drewN m) K Q rest (a.put o.dst (.pointer (some ad)))) : wpLoose P ops (fun w' => ∃ m, w' = w.drewN m) K Q (o :: rest) a := by
  refine wpLoose_anyW hw (· = .pointer (some ad)) (fun n => ?_) (by rintro v rfl; exact hK)
  simp [execOp, hop, hx, within, Result.andThen]
  exact ⟨_, rfl⟩
end
end Go.Fk
namespace Go.Proofs.Ytaenbpkcehenkaa
open Go.RowKit Go.Fk
end Go.Proofs.Ytaenbpkcehenkaa
