/- How an argument that is an array of floats or of integers is opened. Nothing here names a program. -/
import Derived.Test.YtaenbpkcehenkacFlt
import Derived.ProofKit
import Derived.OpenShut
namespace Go.Fk
open Go Go.RowKit Go.ChangeShapes

theorem list_form {α β : Type} (f : α → β) (p : α → Prop) : ∀ l : List β, (∀ c ∈ l, ∃ x, c = f x ∧ p x) → ∃ xs : List α, l = xs.map f ∧ ∀ x ∈ xs, p x := by
  intro l
  induction l with
  | nil => intro _; exact ⟨[], rfl, by simp⟩
  | cons c l ih =>
    intro h
    obtain ⟨x, hx, px⟩ := h c (by simp)
    obtain ⟨xs, hxs, pxs⟩ := ih (fun c hc => h c (by simp [hc]))
    refine ⟨x :: xs, by simp [hx, hxs], ?_⟩
    intro y hy
    rcases List.mem_cons.1 hy with rfl | hy
    · exact px
    · exact pxs y hy

section
variable {H : Type} {enc : TypeId × Value → H} {P : Program} {w : World} {base : Nat} {spare : Nat → Bool} {held : Bool}

theorem trod_float_cell {e : TypeId} {k : FloatKind} {m : Nat} {c : Value} {x : DataW H × List MemPlace} (he : P.underlying e = some (.float k))
    (h : DataW.trod enc P w base spare held m e [c] = some x) : ∃ b, c = .float k b ∧ fits k b := by
  cases m with
  | zero => simp [DataW.trod] at h
  | succ m =>
    simp only [DataW.trod, he] at h
    cases c <;> simp_all
    exact h.1.2
theorem trod_int_cell {e : TypeId} {k : IntKind} {m : Nat} {c : Value} {x : DataW H × List MemPlace} (he : P.underlying e = some (.int k))
    (h : DataW.trod enc P w base spare held m e [c] = some x) : ∃ b, c = .int k b ∧ (Lit.int k b).wf = true := by
  cases m with
  | zero => simp [DataW.trod] at h
  | succ m =>
    simp only [DataW.trod, he] at h
    cases c <;> simp_all

theorem open_arr {α : Type} (f : α → Value) (pr : α → Prop) {n : Nat} {r : Reach} {b0 : Nat} {t e : TypeId} {v : Value} {d : DataW H} {ps : List MemPlace} (ht : P.underlying t = some (.array n e))
    (hcell : ∀ m c (x : DataW H × List MemPlace), DataW.trod enc P w base spare held m e [c] = some x → ∃ b, c = f b ∧ pr b)
    (hce : P.cellsOf e = 1) (hct : P.cellsOf t = n) (hval : Value.okWide P w r b0 t v) (hd : DataW.Trod enc P w base spare held t v d ps) :
    ∃ xs : List α, v = .agg (xs.map f).toArray ∧ xs.length = n ∧ ∀ b ∈ xs, pr b := by
  simp only [Value.okWide, ht] at hval
  obtain ⟨cs, rfl, hsz, _⟩ := hval
  obtain ⟨fuel, hf⟩ := hd
  simp only [Value.cells] at hf
  obtain ⟨xs, m, _, _, _, hl, hi⟩ := DataW.trod_array ht hf
  have hlen : cs.toList.length = n := by simpa using hsz.trans hct
  obtain ⟨l, hl', hp⟩ := list_form f pr cs.toList (by
    intro c hc
    obtain ⟨i, hi1, hi2⟩ := List.getElem_of_mem hc
    have h := hi i (by omega)
    rw [hce, Nat.mul_one] at h
    rw [List.drop_eq_getElem_cons hi1, hi2, List.take_succ_cons, List.take_zero] at h
    rw [List.getElem?_eq_getElem (by omega)] at h
    exact hcell m c _ h)
  refine ⟨l, ?_, ?_, hp⟩
  · rw [← hl', Array.toArray_toList]
  · rw [hl'] at hlen; simpa using hlen

theorem open_farr {n : Nat} {r : Reach} {b0 : Nat} {t e : TypeId} {k : FloatKind} {v : Value} {d : DataW H} {ps : List MemPlace} (ht : P.underlying t = some (.array n e)) (he : P.underlying e = some (.float k))
    (hce : P.cellsOf e = 1) (hct : P.cellsOf t = n) (hval : Value.okWide P w r b0 t v) (hd : DataW.Trod enc P w base spare held t v d ps) :
    ∃ xs : List Nat, v = .agg (xs.map (Value.float k)).toArray ∧ xs.length = n ∧ ∀ b ∈ xs, fits k b :=
  open_arr (Value.float k) (fits k) ht (fun _ _ _ h => trod_float_cell he h) hce hct hval hd
theorem open_iarr {n : Nat} {r : Reach} {b0 : Nat} {t e : TypeId} {k : IntKind} {v : Value} {d : DataW H} {ps : List MemPlace} (ht : P.underlying t = some (.array n e)) (he : P.underlying e = some (.int k))
    (hce : P.cellsOf e = 1) (hct : P.cellsOf t = n) (hval : Value.okWide P w r b0 t v) (hd : DataW.Trod enc P w base spare held t v d ps) :
    ∃ xs : List Int, v = .agg (xs.map (Value.int k)).toArray ∧ xs.length = n ∧ ∀ b ∈ xs, (Lit.int k b).wf = true :=
  open_arr (Value.int k) (fun b => (Lit.int k b).wf = true) ht (fun _ _ _ h => trod_int_cell he h) hce hct hval hd
end
end Go.Fk
