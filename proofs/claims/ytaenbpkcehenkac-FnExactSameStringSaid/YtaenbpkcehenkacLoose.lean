/- A region that draws its order, whose operations may draw the bits of a NaN: one walk, in the order of the text, serves every order, also where an operation's value is known up to a predicate alone. 'C': the worlds that may be met. 'K': what is known of what a call gives. Nothing here names a program. -/
import Derived.Test.YtaenbpkcehenkacFlt
import Derived.Deep.Quiet
import Derived.Deep.QuietTactic
import Derived.BigQuiet
namespace Go.Fk
open Go Go.RowKit

section
variable (P : Program) (ops : Array Oper) (md : Region.Mode) (C : World → Prop) (K : FuncId → Array Value → Value → Prop)

/-- What an operation's run must be, for its value to be one of V. -/
def within (V : Value → Prop) : Result Next → Prop
  | .ok (.value u) w' => C w' ∧ V u
  | .ok .skip w' => C w' ∧ V undef
  | .ok (.enter f args) w' => Calls P f args w' (fun e w'' => ∃ v, e = .returned v ∧ K f args v ∧ C w'') ∧ ∀ v, K f args v → V v
  | _ => False

/-- In every world of the class the operation gives a value of V (none of its own where its guard bars it). -/
def Gives (o : Oper) (a : Act) (V : Value → Prop) : Prop :=
  (Region.wanted o (yielded ops a.tmps) = true ∧ ∀ w, C w → within P C K V ((execOp a.eval o).run P w)) ∨ (Region.wanted o (yielded ops a.tmps) = false ∧ V undef)

/-- The walk in the order of the text. -/
def wpLoose (Q : Act → Prop) : List Oper → Act → Prop
  | [], a => Q a
  | o :: rest, a => ∃ V, Gives P ops C K o a V ∧ ∀ v, V v → wpLoose Q rest (a.put o.dst v)

/-- Whatever order is picked. -/
def anyLoose (Q : Act → Prop) : Nat → Array Bool → Act → Prop
  | 0, listed, a => Region.ready md ops listed = [] ∧ Q a
  | fuel + 1, listed, a => (Region.ready md ops listed = [] → Q a) ∧
      ∀ i ∈ Region.ready md ops listed, ∀ o, ops[i]? = some o → ∃ V, Gives P ops C K o a V ∧ ∀ v, V v → anyLoose Q fuel (listed.setIfInBounds i true) (a.put o.dst v)
end

section
variable {P : Program} {ops : Array Oper} {md : Region.Mode} {C : World → Prop} {K : FuncId → Array Value → Value → Prop}

theorem within_mono {V U : Value → Prop} (h : ∀ v, V v → U v) {r : Result Next} (hr : within P C K V r) : within P C K U r := by
  cases r with
  | ok n w' =>
    cases n <;> simp only [within] at hr ⊢
    case value u => exact ⟨hr.1, h _ hr.2⟩
    case skip => exact ⟨hr.1, h _ hr.2⟩
    case enter f args => exact ⟨hr.1, fun v hv => h v (hr.2 v hv)⟩
  | halt x w' => simp only [within] at hr

/-- What holds for each of a family of predicates, of which there is one, holds for all at once. -/
theorem within_all {ι : Type} {p : ι → Prop} {V : ι → Value → Prop} {r : Result Next} (hne : ∃ i, p i) (h : ∀ i, p i → within P C K (V i) r) : within P C K (fun v => ∀ i, p i → V i v) r := by
  obtain ⟨i0, h0⟩ := hne
  have hr := h i0 h0
  cases r with
  | ok n w' =>
    cases n <;> simp only [within] at hr h ⊢
    case value u => exact ⟨hr.1, fun i hi => (h i hi).2⟩
    case skip => exact ⟨hr.1, fun i hi => (h i hi).2⟩
    case enter f args => exact ⟨hr.1, fun v hv i hi => (h i hi).2 v hv⟩
  | halt x w' => simp only [within] at hr

theorem Gives.same {o : Oper} {a a' : Act} {V : Value → Prop} (he : execOp a'.eval o = execOp a.eval o) (hw : Region.wanted o (yielded ops a'.tmps) = Region.wanted o (yielded ops a.tmps))
    (h : Gives P ops C K o a V) : Gives P ops C K o a' V := by
  unfold Gives at *; rw [he, hw]; exact h

theorem within_some {V : Value → Prop} {r : Result Next} (h : within P C K V r) : ∃ v, V v := by
  cases r with
  | ok n w' =>
    cases n <;> simp only [within] at h
    case value u => exact ⟨u, h.2⟩
    case skip => exact ⟨undef, h.2⟩
    case enter f args =>
      obtain ⟨e, w'', fr, ⟨v, _, hk, _⟩, _⟩ := h.1 []
      exact ⟨v, h.2 v hk⟩
  | halt x w' => simp only [within] at h
theorem Gives.some (hC : ∃ w, C w) {o : Oper} {a : Act} {V : Value → Prop} (h : Gives P ops C K o a V) : ∃ v, V v := by
  obtain ⟨w, hw⟩ := hC
  rcases h with ⟨_, h⟩ | ⟨_, h⟩
  · exact within_some (h w hw)
  · exact ⟨undef, h⟩

theorem anyLoose_sound {Q : Act → Prop} {Q' : Exit → Act → World → Prop} (hQ : ∀ a w, C w → Q a → Q' .normal a w) : ∀ (fuel : Nat) (listed : Array Bool) (a : Act) (w : World), C w →
    anyLoose P ops md C K Q fuel listed a → wpAny P md ops Q' fuel listed a w := by
  intro fuel
  induction fuel with
  | zero => intro listed a w hw h; exact ⟨h.1, hQ a w hw h.2⟩
  | succ fuel ih =>
    intro listed a w hw h
    refine ⟨fun h0 => hQ a w hw (h.1 h0), fun i hi => ?_⟩
    obtain ⟨_, o, ho, _⟩ := mem_ready.1 hi
    obtain ⟨V, hg, hn⟩ := h.2 i hi o ho
    unfold wpOp
    simp only [ho]
    rcases hg with ⟨hwant, hv⟩ | ⟨hwant, hv⟩
    · rw [if_pos hwant]
      left
      have h3 := hv w hw
      unfold Oper.wp
      generalize (execOp a.eval o).run P w = r at h3
      cases r with
      | ok n w' =>
        cases n <;> simp only [within] at h3 <;> simp only [Oper.upon]
        case value u => exact ih _ _ _ h3.1 (hn u h3.2)
        case skip => exact ih _ _ _ h3.1 (hn undef h3.2)
        case enter f args =>
          refine h3.1.mono fun e w'' he => ?_
          obtain ⟨v, rfl, hk, hc⟩ := he
          exact ih _ _ _ hc (hn v (h3.2 v hk))
      | halt x w' => simp only [within] at h3
    · rw [if_neg (by simp [hwant])]
      exact ih _ _ _ hw (hn undef hv)

/-- What may come up now may be taken first. -/
theorem anyLoose_first {Q : Act → Prop} {i : Nat} {oi : Oper} {V : Value → Prop} (hi : ops[i]? = some oi) (hsel : ∀ (j : Nat) (o : Oper) cs b, ops[j]? = some o → o.op ≠ .select cs b) (hne : ∃ v, V v) :
    ∀ (fuel : Nat) (listed : Array Bool) (a : Act),
      (∀ j oj, ops[j]? = some oj → j ≠ i → listed.getD j true = false → (∀ e ∈ oj.after, Region.binds md e = true → e.on ≠ i) → oi.apart ops oj = true) →
      i ∈ Region.ready md ops listed → Gives P ops C K oi a V →
      (∀ v, V v → anyLoose P ops md C K Q fuel (listed.setIfInBounds i true) (a.put oi.dst v)) → anyLoose P ops md C K Q (fuel + 1) listed a := by
  intro fuel
  induction fuel with
  | zero =>
    intro listed a _ hr hg H
    refine ⟨fun h => (by rw [h] at hr; cases hr), fun j hj o ho => ?_⟩
    by_cases hji : j = i
    · subst hji
      rw [hi] at ho; cases ho
      exact ⟨V, hg, H⟩
    · obtain ⟨v, hv⟩ := hne
      have h1 := ready_mono hj hji
      rw [(H v hv).1] at h1
      cases h1
  | succ fuel ih =>
    intro listed a hfree hr hg H
    refine ⟨fun h => (by rw [h] at hr; cases hr), fun j hj o ho => ?_⟩
    by_cases hji : j = i
    · subst hji
      rw [hi] at ho; cases ho
      exact ⟨V, hg, H⟩
    · obtain ⟨hjun, oj, hoj, hall⟩ := mem_ready.1 hj
      rw [ho] at hoj; cases hoj
      have hnot : ∀ e ∈ o.after, Region.binds md e = true → e.on ≠ i := fun e he hb heq => by
        have h1 := hall e he hb
        have h0 := (mem_ready.1 hr).1
        rw [heq] at h1
        rcases Nat.lt_or_ge i listed.size with h' | h'
        · simp [h'] at h0 h1; rw [h0] at h1; cases h1
        · simp [Array.getElem?_eq_none h'] at h1
      have hap := hfree j o ho hji hjun hnot
      obtain ⟨a1, a2, a3⟩ := Oper.apart_spec hap
      have hsi := fun cs b => hsel i oi cs b hi
      have hsj := fun cs b => hsel j o cs b ho
      -- at each value of the first, the other one has its predicate; all of them at once
      have hU : ∀ v : {v // V v}, ∃ U, Gives P ops C K o (a.put oi.dst v.1) U ∧ ∀ u, U u → anyLoose P ops md C K Q fuel ((listed.setIfInBounds i true).setIfInBounds j true) ((a.put oi.dst v.1).put o.dst u) :=
        fun v => (H v.1 v.2).2 j (ready_mono hj hji) o ho
      obtain ⟨v0, hv0⟩ := hne
      let good : Value → Prop := fun u => ∀ v : {v // V v}, True → anyLoose P ops md C K Q fuel ((listed.setIfInBounds i true).setIfInBounds j true) ((a.put oi.dst v.1).put o.dst u)
      have hgood : Gives P ops C K o a good := by
        have hone : ∀ v : {v // V v}, Gives P ops C K o a (fun u => anyLoose P ops md C K Q fuel ((listed.setIfInBounds i true).setIfInBounds j true) ((a.put oi.dst v.1).put o.dst u)) := fun v => by
          obtain ⟨U, h1, h2⟩ := hU v
          have h1' : Gives P ops C K o a U := h1.same (execOp_put o hsj a oi.dst v.1 a1).symm (wanted_put o a oi.dst v.1 a1).symm
          rcases h1' with ⟨hw, h3⟩ | ⟨hw, h3⟩
          · exact .inl ⟨hw, fun w hw' => within_mono h2 (h3 w hw')⟩
          · exact .inr ⟨hw, h2 _ h3⟩
        by_cases hw : Region.wanted o (yielded ops a.tmps) = true
        · refine .inl ⟨hw, fun w hw' => ?_⟩
          refine within_all ⟨⟨v0, hv0⟩, trivial⟩ (fun v _ => ?_)
          rcases hone v with ⟨_, h3⟩ | ⟨h3, _⟩
          · exact h3 w hw'
          · rw [hw] at h3; cases h3
        · refine .inr ⟨by simpa using hw, fun v _ => ?_⟩
          rcases hone v with ⟨h3, _⟩ | ⟨_, h3⟩
          · exact absurd h3 hw
          · exact h3
      refine ⟨good, hgood, ?_⟩
      · intro u hu
        have hfree' : ∀ k ok, ops[k]? = some ok → k ≠ i → (listed.setIfInBounds j true).getD k true = false →
            (∀ e ∈ ok.after, Region.binds md e = true → e.on ≠ i) → oi.apart ops ok = true := fun k ok hk hki hun hno => by
          refine hfree k ok hk hki ?_ hno
          by_cases hjk : j = k
          · subst hjk; exact hjun
          · rw [getD_set_ne true hjk] at hun; exact hun
        refine ih (listed.setIfInBounds j true) (a.put o.dst u) hfree' (ready_mono hr (Ne.symm hji)) (hg.same (execOp_put oi hsi a o.dst u a3) (wanted_put oi a o.dst u a3)) (fun v hv => ?_)
        rw [Array.setIfInBounds_comm _ _ hji, ← Act.put_comm a v u a2]
        exact hu ⟨v, hv⟩ trivial

theorem anyLoose_lex {Q : Act → Prop} (hC : ∃ w, C w) (hs : Region.noSelect ops = true) : ∀ (l : List Oper) (k : Nat) (listed : Array Bool) (a : Act), (∀ j, l[j]? = ops[k + j]?) →
    Region.lexFrom md ops l.length k listed = true → wpLoose P ops C K Q l a → anyLoose P ops md C K Q l.length listed a := by
  intro l
  induction l with
  | nil => intro k listed a _ hB h; exact ⟨by simpa [Region.lexFrom] using hB, h⟩
  | cons o l ih =>
    intro k listed a hl hB h
    have h0 : ops[k]? = some o := by simpa using (hl 0).symm
    simp only [List.length_cons, Region.lexFrom, Bool.and_eq_true] at hB
    obtain ⟨⟨hr, hf⟩, hB'⟩ := hB
    obtain ⟨V, hg, hn⟩ := h
    exact anyLoose_first h0 (Region.noSelect_spec hs) (hg.some hC) l.length listed a (Region.free_spec h0 hf) (by simpa using hr) hg
      (fun v hv => ih (k + 1) _ _ (fun j => by have := hl (j + 1); simpa [Nat.add_assoc, Nat.add_comm 1 j] using this) hB' (hn v hv))

/-- ONE WALK SERVES EVERY ORDER. -/
theorem wp_region_loose (K : FuncId → Array Value → Value → Prop) {id : Nat} {Q : Exit → Act → World → Prop} {a : Act} {w : World} {l : List Oper} (hm : P.follows .mixedOrders = true) (hB : Region.lexB .any l.toArray = true)
    (h : wpLoose P l.toArray (fun w' => ∃ n, w' = w.drewN n) K (fun a' => ∀ n, Q .normal a' (w.drewN n)) l a) : (Code.region id l.toArray true).wp P Q a w := by
  simp only [Region.lexB, Bool.and_eq_true] at hB
  have hC : ∃ n, ({ w with drawn := w.drawn + 1 } : World) = w.drewN n := ⟨1, rfl⟩
  refine wp_region_any hm (anyLoose_sound (C := fun w' => ∃ n, w' = w.drewN n) (K := K) (Q := fun a' => ∀ n, Q .normal a' (w.drewN n)) (fun a' w' hw' h' => by obtain ⟨n, rfl⟩ := hw'; exact h' n) _ _ _ _ hC ?_)
  have := anyLoose_lex (md := .any) ⟨_, hC⟩ hB.1 l 0 (Array.replicate l.toArray.size false) a (by simp) (by simpa using hB.2) h
  simpa using this

theorem wpLoose_nil {Q : Act → Prop} {a : Act} (h : Q a) : wpLoose P ops C K Q [] a := h
theorem andThen_value {α : Type} (r : Result α) (f : α → Next) {f' : FuncId} {args : Array Value} {w' : World} (h : (r.andThen fun x w'' => .ok (f x) w'') = .ok (.enter f' args) w') : ∃ x, f x = .enter f' args := by
  cases r with
  | ok x w => simp only [Result.andThen, Result.ok.injEq] at h; exact ⟨x, h.1⟩
  | halt x w => simp [Result.andThen] at h

/-- Operations that surely enter no function. -/
def simple : Op → Bool
  | .nilCheck _ | .call _ | .go _ | .defer _ | .recv .. | .select .. => false
  | _ => true
/-- Only a call enters a function. -/
theorem noEnter {P : Program} {ρ : Operand → Value} {o : Oper} (hnc : simple o.op = true) {w w' : World} {f : FuncId} {args : Array Value} : (execOp ρ o).run P w ≠ .ok (.enter f args) w' := by
  intro h
  unfold execOp at h
  cases ho : o.op <;> simp only [ho, simple] at h hnc
  all_goals first
    | (cases hnc; done)
    | (simp only [Sem.run_bind, Sem.run_pure] at h; obtain ⟨x, hx⟩ := andThen_value _ _ h; cases hx; done)
    | (simp at h; done)

/-- A quiet operation is a loose one: one value, in the very world. -/
theorem wpLoose_quiet {Q : Act → Prop} {o : Oper} {rest : List Oper} {a : Act} (hnc : simple o.op = true) (h : wpQuiet P ops C (fun a' => wpLoose P ops C K Q rest a') [o] a) : wpLoose P ops C K Q (o :: rest) a := by
  simp only [wpQuiet] at h
  by_cases hw : Region.wanted o (yielded ops a.tmps) = true
  · rw [if_pos hw] at h
    obtain ⟨v, h1, h2⟩ := h
    refine ⟨(· = v), .inl ⟨hw, fun w hw' => ?_⟩, fun u hu => by rw [hu]; exact h2⟩
    have h3 := h1 w hw'
    unfold Oper.quietAt at h3
    generalize hrun : (execOp a.eval o).run P w = r at h3
    cases r with
    | ok n w' =>
      cases n <;> simp only [Oper.quietUpon] at h3 <;> simp only [within]
      case value u => exact ⟨by rw [h3.1]; exact hw', h3.2⟩
      case skip => exact ⟨by rw [h3.1]; exact hw', h3.2.symm⟩
      case enter f args => exact (noEnter hnc hrun).elim
    | halt x w' => simp only [Oper.quietUpon] at h3
  · rw [if_neg hw] at h
    exact ⟨(· = undef), .inr ⟨by simpa using hw, rfl⟩, fun u hu => by rw [hu]; exact h⟩
end
end Go.Fk
