/- How an argument that is a struct of floats is opened, and one with a slice of floats. Nothing here names a program. -/
import Derived.Test.YtaenbpkcehenkacOpen
import Derived.Deep.Slices
namespace Go.Fk
open Go Go.RowKit Go.ChangeShapes

section
variable {H : Type} {enc : TypeId × Value → H} {P : Program} {w : World} {base : Nat} {spare : Nat → Bool} {held : Bool}

theorem trod_arr {α : Type} (f : α → Value) (pr : α → Prop) {n : Nat} {t e : TypeId} {cs : List Value} {fuel : Nat} {x : DataW H × List MemPlace} (ht : P.underlying t = some (.array n e))
    (hcell : ∀ m c (x : DataW H × List MemPlace), DataW.trod enc P w base spare held m e [c] = some x → ∃ b, c = f b ∧ pr b)
    (hce : P.cellsOf e = 1) (hct : P.cellsOf t = n) (hf : DataW.trod enc P w base spare held fuel t cs = some x) :
    ∃ xs : List α, cs = xs.map f ∧ xs.length = n ∧ ∀ b ∈ xs, pr b := by
  obtain ⟨xs, m, _, _, hlen, hl, hi⟩ := DataW.trod_array ht hf
  have hlen : cs.length = n := hlen.trans hct
  obtain ⟨l, hl', hp⟩ := list_form f pr cs (by
    intro c hc
    obtain ⟨i, hi1, hi2⟩ := List.getElem_of_mem hc
    have h := hi i (by omega)
    rw [hce, Nat.mul_one] at h
    rw [List.drop_eq_getElem_cons hi1, hi2, List.take_succ_cons, List.take_zero] at h
    rw [List.getElem?_eq_getElem (by omega)] at h
    exact hcell m c _ h)
  refine ⟨l, hl', ?_, hp⟩
  rw [hl'] at hlen; simpa using hlen

theorem trod_farr {n : Nat} {t e : TypeId} {k : FloatKind} {cs : List Value} {fuel : Nat} {x : DataW H × List MemPlace} (ht : P.underlying t = some (.array n e)) (he : P.underlying e = some (.float k))
    (hce : P.cellsOf e = 1) (hct : P.cellsOf t = n) (hf : DataW.trod enc P w base spare held fuel t cs = some x) :
    ∃ xs : List Nat, cs = xs.map (Value.float k) ∧ xs.length = n ∧ ∀ b ∈ xs, fits k b :=
  trod_arr (Value.float k) (fits k) ht (fun _ _ _ h => trod_float_cell he h) hce hct hf

/-- A struct of an integer, an array of three floats and one of two. -/
theorem open_filter {r : Reach} {b0 : Nat} {t t0 t1 t2 e : TypeId} {f0 f1 f2 : Field} {v : Value} {d : DataW H} {ps : List MemPlace} (ht : P.underlying t = some (.struct #[f0, f1, f2]))
    (e0 : (f0.type, f0.offset) = (t0, 0)) (e1 : (f1.type, f1.offset) = (t1, 1)) (e2 : (f2.type, f2.offset) = (t2, 4))
    (h0 : P.underlying t0 = some (.int .i64)) (h1 : P.underlying t1 = some (.array 3 e)) (h2 : P.underlying t2 = some (.array 2 e)) (he : P.underlying e = some (.float .f32))
    (c0 : P.cellsOf t0 = 1) (c1 : P.cellsOf t1 = 3) (c2 : P.cellsOf t2 = 2) (ce : P.cellsOf e = 1) (ct : P.cellsOf t = 6)
    (hval : Value.okWide P w r b0 t v) (hd : DataW.Trod enc P w base spare held t v d ps) :
    ∃ (k : Int) (a b c x y : Nat), v = .agg #[.int .i64 k, .float .f32 a, .float .f32 b, .float .f32 c, .float .f32 x, .float .f32 y] ∧ (Lit.int .i64 k).wf = true ∧ fits .f32 a ∧ fits .f32 b ∧ fits .f32 c ∧ fits .f32 x ∧ fits .f32 y := by
  simp only [Value.okWide, ht] at hval
  obtain ⟨cs, rfl, hsz, _⟩ := hval
  obtain ⟨fuel, hf⟩ := hd
  simp only [Value.cells] at hf
  obtain ⟨xs, m, _, _, hlen, hl, hi⟩ := DataW.trod_struct ht hf
  simp only [Prod.mk.injEq] at e0 e1 e2
  have g0 := hi 0 f0 rfl
  have g1 := hi 1 f1 rfl
  have g2 := hi 2 f2 rfl
  rw [e0.1, e0.2, c0] at g0
  rw [e1.1, e1.2, c1] at g1
  rw [e2.1, e2.2, c2] at g2
  rw [List.getElem?_eq_getElem (by simp_all)] at g0 g1 g2
  have hlen : cs.toList.length = 6 := hlen.trans ct
  obtain ⟨l1, q1, n1, p1⟩ := trod_farr h1 he ce c1 g1
  obtain ⟨l2, q2, n2, p2⟩ := trod_farr h2 he ce c2 g2
  obtain ⟨l⟩ := cs
  simp only at *
  match l, hlen, l1, n1, l2, n2 with
  | [v0, v1, v2, v3, v4, v5], _, [a, b, c], _, [x, y], _ =>
    simp only [List.drop_zero, List.drop_succ_cons, List.take_succ_cons, List.take_zero, List.map_cons, List.map_nil, List.cons.injEq, and_true] at q1 q2 g0
    obtain ⟨rfl, rfl, rfl⟩ := q1
    obtain ⟨rfl, rfl⟩ := q2
    obtain ⟨k, rfl, hk⟩ := trod_int_cell h0 g0
    exact ⟨k, a, b, c, x, y, rfl, hk, p1 _ (by simp), p1 _ (by simp), p1 _ (by simp), p2 _ (by simp), p2 _ (by simp)⟩

/-- What an argument that is a slice of floats is: nil, or cells that lie somewhere. -/
def IsSl (w : World) (v : Value) (g : Nat → Nat) (n : Nat) : Prop :=
  (v = .slice none 0 0 ∧ n = 0) ∨ ∃ (a : Addr) (cap : Nat), v = .slice (some a) n cap ∧ n ≤ cap ∧ cap ≤ maxLen ∧ a.block < w.heap.size ∧ ∀ i, i < n → w.cell? (a.add i) = some (.float .f32 (g i))
end
end Go.Fk
