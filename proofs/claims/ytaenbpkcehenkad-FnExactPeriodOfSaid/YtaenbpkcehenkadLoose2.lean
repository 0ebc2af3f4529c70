/- The steps of a walk through a region that draws its order: + - * / on floats, float64(x), float32(x), calls. Nothing here names a program. -/
import Derived.Test.YtaenbpkcehenkadLoose
import Derived.Test.YtaenbpkcehenkadConv
namespace Go.Fk
open Go Go.RowKit
attribute [go_sem] within

section
variable {P : Program} {ops : Array Oper} {w : World} {K : FuncId → Array Value → Value → Prop} {Q : Act → Prop} {o : Oper} {rest : List Oper} {a : Act}

theorem wpLoose_any (hg : o.guard = none) (V : Value → Prop) (h1 : ∀ n, within P (fun w' => ∃ m, w' = w.drewN m) K V ((execOp a.eval o).run P (w.drewN n)))
    (h2 : ∀ v, V v → wpLoose P ops (fun w' => ∃ m, w' = w.drewN m) K Q rest (a.put o.dst v)) : wpLoose P ops (fun w' => ∃ m, w' = w.drewN m) K Q (o :: rest) a :=
  ⟨V, .inl ⟨by simp [Region.wanted, hg], fun w' hw' => by obtain ⟨n, rfl⟩ := hw'; exact h1 n⟩, h2⟩

theorem wpLoose_farith (hg : o.guard = none) {op : BinOp} {t t' : TypeId} {x y : Operand} (hop : o.op = Op.binOp op t x y t') (ho : arith op = true)
    {k : FloatKind} {p q : Nat} (hx : a.eval x = .float k p) (hy : a.eval y = .float k q)
    (hK : ∀ r, Hid (can k r = fop op k p q) → Hid (fits k r) → wpLoose P ops (fun w' => ∃ m, w' = w.drewN m) K Q rest (a.put o.dst (.float k r))) : wpLoose P ops (fun w' => ∃ m, w' = w.drewN m) K Q (o :: rest) a := by
  refine wpLoose_any hg (fun v => ∃ r, v = .float k r ∧ can k r = fop op k p q ∧ fits k r) (fun n => ?_) ?_
  · obtain ⟨r, m, hrun, hr, hf⟩ := run_farith (P := P) (w.drewN n) op ho t k p q
    have he := eqGuard_float (P := P) (w.drewN n) op t x y k k p q
    simp [execOp, hop, hx, hy, he, hrun, Result.andThen, within]
    exact ⟨⟨_, rfl⟩, hr, hf⟩
  · rintro v ⟨r, rfl, hr, hf⟩
    exact hK r hr hf
theorem wpLoose_widen (hg : o.guard = none) {src dst : TypeId} {x : Operand} (hop : o.op = Op.convert src dst x) {b : Nat} (hx : a.eval x = .float .f32 b)
    (hs : P.underlying src = some (.float .f32)) (hd : P.underlying dst = some (.float .f64))
    (hK : ∀ r, Hid (can .f64 r = can .f64 (widen b)) → Hid (fits .f64 r) → wpLoose P ops (fun w' => ∃ m, w' = w.drewN m) K Q rest (a.put o.dst (.float .f64 r))) : wpLoose P ops (fun w' => ∃ m, w' = w.drewN m) K Q (o :: rest) a := by
  refine wpLoose_any hg (fun v => ∃ r, v = .float .f64 r ∧ can .f64 r = can .f64 (widen b) ∧ fits .f64 r) (fun n => ?_) ?_
  · obtain ⟨r, m, hrun, hr, hf⟩ := run_widen (P := P) (w.drewN n) src dst b hs hd
    simp [execOp, hop, hx, hrun, Result.andThen, within]
    exact ⟨⟨_, rfl⟩, hr, hf⟩
  · rintro v ⟨r, rfl, hr, hf⟩
    exact hK r hr hf
theorem wpLoose_narrow (hg : o.guard = none) {src dst : TypeId} {x : Operand} (hop : o.op = Op.convert src dst x) {b : Nat} (hx : a.eval x = .float .f64 b)
    (hs : P.underlying src = some (.float .f64)) (hd : P.underlying dst = some (.float .f32)) (hb : narrowable b)
    (hK : ∀ r, Hid (can .f32 r = can .f32 (narrow b)) → Hid (fits .f32 r) → wpLoose P ops (fun w' => ∃ m, w' = w.drewN m) K Q rest (a.put o.dst (.float .f32 r))) : wpLoose P ops (fun w' => ∃ m, w' = w.drewN m) K Q (o :: rest) a := by
  refine wpLoose_any hg (fun v => ∃ r, v = .float .f32 r ∧ can .f32 r = can .f32 (narrow b) ∧ fits .f32 r) (fun n => ?_) ?_
  · obtain ⟨r, m, hrun, hr, hf⟩ := run_narrow (P := P) (w.drewN n) src dst b hs hd hb
    simp [execOp, hop, hx, hrun, Result.andThen, within]
    exact ⟨⟨_, rfl⟩, hr, hf⟩
  · rintro v ⟨r, rfl, hr, hf⟩
    exact hK r hr hf
end
/-- A contract that gives one value, met in a region. -/
theorem loose_of {P : Program} {f : FuncId} {args : Array Value} {w : World} {n : Nat} {v : Value}
    (h : Calls P f args (w.drewN n) fun e w' => e = .returned v ∧ ∃ m, w' = (w.drewN n).drewN m) : Calls P f args (w.drewN n) fun e w'' => ∃ u, e = .returned u ∧ u = v ∧ ∃ m, w'' = w.drewN m :=
  h.mono fun _ _ ⟨he, m, hm⟩ => ⟨v, he, rfl, n + m, by rw [hm, World.drewN_drewN]⟩
theorem loose_of_same {P : Program} {f : FuncId} {args : Array Value} {w : World} {n : Nat} {v : Value}
    (h : Calls P f args (w.drewN n) fun e w' => e = .returned v ∧ w.drewN n = w') : Calls P f args (w.drewN n) fun e w'' => ∃ u, e = .returned u ∧ u = v ∧ ∃ m, w'' = w.drewN m :=
  h.mono fun _ _ ⟨he, hm⟩ => ⟨v, he, rfl, n, hm.symm⟩
end Go.Fk
