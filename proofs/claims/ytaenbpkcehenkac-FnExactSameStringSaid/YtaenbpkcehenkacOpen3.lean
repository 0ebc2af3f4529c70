/- How an argument that is a struct of a slice of floats and an integer is opened. Nothing here names a program. -/
import Derived.Test.YtaenbpkcehenkacOpen2
namespace Go.Fk
open Go Go.RowKit Go.ChangeShapes
/-- A slice of n floats as it comes: nil, or cells that lie somewhere. -/
def SlIn (w : World) (v : Value) (x : Nat → Nat) (n : Nat) : Prop :=
  (v = .slice none 0 0 ∧ n = 0) ∨ ∃ (a : Addr) (cap : Nat), v = .slice (some a) n cap ∧ n ≤ cap ∧ cap ≤ maxLen ∧ ∀ i, i < n → w.cell? (a.add i) = some (.float .f32 (x i)) ∧ fits .f32 (x i)
section
variable {H : Type} {enc : TypeId × Value → H} {P : Program} {w : World} {base : Nat} {spare : Nat → Bool} {held : Bool}
theorem trod_fslice {t e : TypeId} {fuel : Nat} {cs : List Value} {x : DataW H × List MemPlace} (ht : P.underlying t = some (.slice e)) (he : P.underlying e = some (.float .f32)) (hc : P.cellsOf e = 1)
    (h : DataW.trod enc P w base spare held fuel t cs = some x) : ∃ v f n, cs = [v] ∧ SlIn w v f n := by
  rcases Go.Deep.open_slice1 ht hc h with ⟨rfl, _⟩ | ⟨a, len, cap, m, n, V, D, Pl, rfl, hb, hl, hm, hmm, _, hx⟩
  · exact ⟨_, fun _ => 0, 0, rfl, .inl ⟨rfl, rfl⟩⟩
  · have hle : len ≤ m := by rw [hmm]; split <;> omega
    refine ⟨_, fun i => match V i with | .float _ b => b | _ => 0, len, rfl, .inr ⟨a, cap, rfl, hl, hm, fun i hi => ?_⟩⟩
    obtain ⟨h1, h2⟩ := hx i (by omega)
    obtain ⟨b, hV, hf⟩ := trod_float_cell he h2
    simp only [hV] at h1 ⊢
    exact ⟨h1, hf⟩
theorem open_ring {r : Reach} {b0 : Nat} {t t0 t1 e : TypeId} {f0 f1 : Field} {v : Value} {d : DataW H} {ps : List MemPlace} (ht : P.underlying t = some (.struct #[f0, f1]))
    (e0 : (f0.type, f0.offset) = (t0, 0)) (e1 : (f1.type, f1.offset) = (t1, 1))
    (h0 : P.underlying t0 = some (.slice e)) (h1 : P.underlying t1 = some (.int .i64)) (he : P.underlying e = some (.float .f32))
    (c0 : P.cellsOf t0 = 1) (c1 : P.cellsOf t1 = 1) (ce : P.cellsOf e = 1) (ct : P.cellsOf t = 2)
    (hval : Value.okWide P w r b0 t v) (hd : DataW.Trod enc P w base spare held t v d ps) :
    ∃ (s : Value) (x : Nat → Nat) (n : Nat) (k : Int), v = .agg #[s, .int .i64 k] ∧ (Lit.int .i64 k).wf = true ∧ SlIn w s x n := by
  simp only [Value.okWide, ht] at hval
  obtain ⟨cs, rfl, hsz, _⟩ := hval
  obtain ⟨fuel, hf⟩ := hd
  simp only [Value.cells] at hf
  obtain ⟨xs, m, _, _, hlen, hl, hi⟩ := DataW.trod_struct ht hf
  simp only [Prod.mk.injEq] at e0 e1
  have g0 := hi 0 f0 rfl
  have g1 := hi 1 f1 rfl
  rw [e0.1, e0.2, c0] at g0
  rw [e1.1, e1.2, c1] at g1
  rw [List.getElem?_eq_getElem (by simp_all)] at g0 g1
  have hlen : cs.toList.length = 2 := hlen.trans ct
  obtain ⟨l⟩ := cs
  simp only at *
  match l, hlen with
  | [v0, v1], _ =>
    simp only [List.drop_zero, List.drop_succ_cons, List.take_succ_cons, List.take_zero] at g0 g1
    obtain ⟨s, f, n, hs, hsl⟩ := trod_fslice h0 he ce g0
    obtain ⟨k, rfl, hk⟩ := trod_int_cell h1 g1
    simp only [List.cons.injEq, and_true] at hs
    subst hs
    exact ⟨_, f, n, k, rfl, hk, hsl⟩
end
end Go.Fk
