/- Texts of the walk, laid in one file. -/
import Derived.OwnWalk
import Derived.Deep.AppendLies
import Derived.WalkKit
import Derived.BigQuiet
import Derived.Test.YtccichnnljhbdacMd
set_option linter.unusedVariables false
set_option linter.unusedSimpArgs false
/- As FreeD, where it is known besides that no two operations of a region run at one time: what one has made is there when the other starts, or the other way round. So what they make lies apart. Nothing here names a program. -/
namespace Go.Fk
open Go Go.RowKit

/-- What is known of each operation's value: 'z' is the number of blocks where it started. -/
abbrev FactsZ := Nat → Nat → World → Prop
def FactsZ.with (F : FactsZ) (k : Nat) (V : Nat → World → Prop) : FactsZ := fun e z w => F e z w ∧ (e = k → V z w)

section
variable (E : Ext) (P : Program) (ops : Array Oper) (md : Region.Mode) (W : World) (K : FuncId → Array Value → Nat → World → Value → Prop)
/-- One operation was over where the other started. -/
def beforeZ (zs : Nat → Nat) (F : FactsZ) (w : World) (p q : Nat) : Prop := ∃ w', E.R W w' ∧ E.R w' w ∧ w'.heap.size = zs q ∧ F p (zs p) w'
def crossZ (zs : Nat → Nat) (F : FactsZ) (w : World) : Prop := ∀ p q, p ≠ q → beforeZ E W zs F w p q ∨ beforeZ E W zs F w q p
/-- What is known where an operation starts: of those that it comes behind, and of their order. -/
def behindZ (o : Oper) (F : FactsZ) (w : World) : Prop := ∃ zs : Nat → Nat, (∀ e ∈ o.after, Region.binds md e = true → F e.on (zs e.on) w) ∧
  ∀ p ∈ o.after, Region.binds md p = true → ∀ q ∈ o.after, Region.binds md q = true → p.on ≠ q.on → beforeZ E W zs F w p.on q.on ∨ beforeZ E W zs F w q.on p.on
def MonoZ (V : Nat → World → Value → Prop) : Prop := ∀ z v w w', E.R w w' → V z w v → V z w' v
def YieldsZ (o : Oper) (a : Act) (F : FactsZ) (V : Nat → World → Value → Prop) : Prop :=
  MonoZ E V ∧ ((Region.wanted o (yielded ops a.tmps) = true ∧ ∀ w, E.R W w → behindZ E md W o F w → insideT E P (fun f args => K f args w.heap.size) w (V w.heap.size) ((execOp a.eval o).run P w)) ∨ (Region.wanted o (yielded ops a.tmps) = false ∧ ∀ w, E.R W w → behindZ E md W o F w → V w.heap.size w undef))
def metZ (F : FactsZ) : Prop := ∃ w zs, E.R W w ∧ (∀ e, F e (zs e) w) ∧ crossZ E W zs F w
def wpFreeZ (Q : Act → World → Prop) : List Oper → Nat → Act → FactsZ → Prop
  | [], _, a, F => ∀ w zs, E.R W w → (∀ e, F e (zs e) w) → crossZ E W zs F w → Q a w
  | o :: rest, k, a, F => ∃ V, YieldsZ E P ops md W K o a F V ∧ ∀ v, metZ E W (F.with k (fun z w => V z w v)) → wpFreeZ Q rest (k + 1) (a.put o.dst v) (F.with k (fun z w => V z w v))
def anyFreeZ (n : Nat) (L : Array Bool → Act → FactsZ → Prop) : Nat → Array Bool → Act → FactsZ → Prop
  | 0, listed, a, F => L listed a F
  | f + 1, listed, a, F => Region.ready md ops listed ≠ [] ∧
      ∀ i ∈ Region.ready md ops listed, i < n ∧ ∀ o, ops[i]? = some o → ∃ V, YieldsZ E P ops md W K o a F V ∧ ∀ v, metZ E W (F.with i (fun z w => V z w v)) → anyFreeZ n L f (listed.setIfInBounds i true) (a.put o.dst v) (F.with i (fun z w => V z w v))
def FMonoZ (F : FactsZ) : Prop := ∀ w w', E.R w w' → ∀ e z, F e z w → F e z w'
/-- Of what is not listed, nothing is told. -/
def TrivZ (listed : Array Bool) (F : FactsZ) : Prop := ∀ i, listed.getD i true = false → ∀ z w, F i z w
end

section
variable {E : Ext} {P : Program} {ops : Array Oper} {md : Region.Mode} {W : World} {K : FuncId → Array Value → Nat → World → Value → Prop}
theorem FMonoZ.with {F : FactsZ} (h : FMonoZ E F) {V : Nat → World → Value → Prop} (hV : MonoZ E V) (k : Nat) (v : Value) : FMonoZ E (F.with k (fun z w => V z w v)) := fun w w' hw e z hF =>
  ⟨h w w' hw e z hF.1, fun he => hV z v w w' hw (hF.2 he)⟩
theorem beforeZ.weaken {F F' : FactsZ} (h : ∀ e z w, F' e z w → F e z w) {zs : Nat → Nat} {w : World} {p q : Nat} (hb : beforeZ E W zs F' w p q) : beforeZ E W zs F w p q := by
  obtain ⟨w', b1, b2, b3, b4⟩ := hb; exact ⟨w', b1, b2, b3, h _ _ _ b4⟩
theorem crossZ.weaken {F F' : FactsZ} (h : ∀ e z w, F' e z w → F e z w) {zs : Nat → Nat} {w : World} (hc : crossZ E W zs F' w) : crossZ E W zs F w := fun p q hpq => (hc p q hpq).imp (·.weaken h) (·.weaken h)
theorem metZ.weaken {F F' : FactsZ} (h : ∀ e z w, F' e z w → F e z w) (hx : metZ E W F') : metZ E W F := by
  obtain ⟨w, zs, hw, hF, hc⟩ := hx; exact ⟨w, zs, hw, fun e => h _ _ _ (hF e), hc.weaken h⟩
theorem behindZ.of {F : FactsZ} {w : World} {zs : Nat → Nat} (hF : ∀ e, F e (zs e) w) (hc : crossZ E W zs F w) (o : Oper) : behindZ E md W o F w := ⟨zs, fun e _ _ => hF e.on, fun p _ _ q _ _ hpq => hc _ _ hpq⟩
theorem crossZ.step {F : FactsZ} {zs : Nat → Nat} {w w' : World} {i : Nat} {V : Nat → World → Prop} (hw : E.R W w) (hl : E.R w w') (h1 : ∀ e, F e (zs e) w) (h2 : crossZ E W zs F w) :
    crossZ E W (fun e => if e = i then w.heap.size else zs e) (F.with i V) w' := by
  intro p q hpq
  by_cases hp : p = i
  · subst hp
    right
    refine ⟨w, hw, hl, by simp, ?_⟩
    simp only [if_neg (Ne.symm hpq)]
    exact ⟨h1 q, fun h => absurd h (Ne.symm hpq)⟩
  · by_cases hq : q = i
    · subst hq
      left
      refine ⟨w, hw, hl, by simp, ?_⟩
      simp only [if_neg hpq]
      exact ⟨h1 p, fun h => absurd h hpq⟩
    · simp only [beforeZ, if_neg hp, if_neg hq]
      rcases h2 p q hpq with ⟨w2, a1, a2, a3, a4⟩ | ⟨w2, a1, a2, a3, a4⟩
      · exact .inl ⟨w2, a1, E.trans a2 hl, a3, a4, fun h => absurd h hp⟩
      · exact .inr ⟨w2, a1, E.trans a2 hl, a3, a4, fun h => absurd h hq⟩
theorem metZ.step {F : FactsZ} {w w' : World} {zs : Nat → Nat} {i : Nat} {V : Nat → World → Prop} (hm : FMonoZ E F) (ht : ∀ z w, F i z w) (hw : E.R W w) (hl : E.R w w') (h1 : ∀ e, F e (zs e) w) (h2 : crossZ E W zs F w) (hv : V w.heap.size w') : metZ E W (F.with i V) := by
  refine ⟨w', fun e => if e = i then w.heap.size else zs e, E.trans hw hl, fun e => ?_, h2.step hw hl h1⟩
  by_cases he : e = i
  · subst he
    simp only [if_true]
    exact ⟨ht _ _, fun _ => hv⟩
  · simp only [if_neg he]
    exact ⟨hm w w' hl e _ (h1 e), fun h => absurd h he⟩
theorem YieldsZ.some {o : Oper} {a : Act} {F : FactsZ} {V : Nat → World → Value → Prop} {i : Nat} (hm : FMonoZ E F) (ht : ∀ z w, F i z w) (hx : metZ E W F) (h : YieldsZ E P ops md W K o a F V) : ∃ v, metZ E W (F.with i (fun z w => V z w v)) := by
  obtain ⟨w, zs, hw, hF, hc⟩ := hx
  rcases h.2 with ⟨_, h⟩ | ⟨_, h⟩
  · obtain ⟨v, w', hl, hv⟩ := insideT_some (h w hw (.of hF hc o))
    exact ⟨v, metZ.step hm ht hw hl hF hc hv⟩
  · exact ⟨undef, metZ.step hm ht hw (E.refl w) hF hc (h w hw (.of hF hc o))⟩
theorem YieldsZ.same {o : Oper} {a a' : Act} {F : FactsZ} {V : Nat → World → Value → Prop} (he : execOp a'.eval o = execOp a.eval o) (hw : Region.wanted o (yielded ops a'.tmps) = Region.wanted o (yielded ops a.tmps))
    (h : YieldsZ E P ops md W K o a F V) : YieldsZ E P ops md W K o a' F V := by
  unfold YieldsZ at *; rw [he, hw]; exact h
theorem YieldsZ.stronger {o : Oper} {a : Act} {F F' : FactsZ} {V : Nat → World → Value → Prop} (hF : ∀ e z w, F' e z w → F e z w) (h : YieldsZ E P ops md W K o a F V) : YieldsZ E P ops md W K o a F' V := by
  have key : ∀ w, behindZ E md W o F' w → behindZ E md W o F w := fun w ⟨zs, h1, h2⟩ => ⟨zs, fun e he hb => hF _ _ _ (h1 e he hb), fun p hp hbp q hq hbq hne => (h2 p hp hbp q hq hbq hne).imp (·.weaken hF) (·.weaken hF)⟩
  refine ⟨h.1, ?_⟩
  rcases h.2 with ⟨h1, h2⟩ | ⟨h1, h2⟩
  · exact .inl ⟨h1, fun w hw hb => h2 w hw (key w hb)⟩
  · exact .inr ⟨h1, fun w hw hb => h2 w hw (key w hb)⟩
theorem YieldsZ.less {o : Oper} {a : Act} {F : FactsZ} {i : Nat} {X : Nat → World → Prop} {V : Nat → World → Value → Prop} (hn : ∀ e ∈ o.after, Region.binds md e = true → e.on ≠ i) (h : YieldsZ E P ops md W K o a (F.with i X) V) : YieldsZ E P ops md W K o a F V := by
  have key : ∀ w, behindZ E md W o F w → behindZ E md W o (F.with i X) w := fun w ⟨zs, h1, h2⟩ => ⟨zs, fun e he hb => ⟨h1 e he hb, fun h => absurd h (hn e he hb)⟩, fun p hp hbp q hq hbq hne => by
    have lift : ∀ (p q : Edge), p ∈ o.after → Region.binds md p = true → beforeZ E W zs F w p.on q.on → beforeZ E W zs (F.with i X) w p.on q.on := fun p q hp hbp ⟨w', b1, b2, b3, b4⟩ => ⟨w', b1, b2, b3, b4, fun h => absurd h (hn p hp hbp)⟩
    exact (h2 p hp hbp q hq hbq hne).imp (lift p q hp hbp) (lift q p hq hbq)⟩
  refine ⟨h.1, ?_⟩
  rcases h.2 with ⟨h1, h2⟩ | ⟨h1, h2⟩
  · exact .inl ⟨h1, fun w hw hb => h2 w hw (key w hb)⟩
  · exact .inr ⟨h1, fun w hw hb => h2 w hw (key w hb)⟩
theorem YieldsZ.more {o : Oper} {a : Act} {F : FactsZ} {i : Nat} {X : Nat → World → Prop} {V : Nat → World → Value → Prop} (h : YieldsZ E P ops md W K o a F V) : YieldsZ E P ops md W K o a (F.with i X) V := h.stronger (fun _ _ _ h => h.1)
theorem wpOp_yieldsZ {i : Nat} {o : Oper} {a : Act} {w : World} {F : FactsZ} {V : Nat → World → Value → Prop} {next : Act → World → Prop} {Q' : Exit → Act → World → Prop} (ho : ops[i]? = some o) (hw : E.R W w) (hB : behindZ E md W o F w) (hg : YieldsZ E P ops md W K o a F V)
    (hn : ∀ v w', E.R w w' → V w.heap.size w' v → next (a.put o.dst v) w') : wpOp P ops Q' i next a w := by
  unfold wpOp
  simp only [ho]
  rcases hg.2 with ⟨hwant, hv⟩ | ⟨hwant, hv⟩
  · rw [if_pos hwant]
    left
    have h3 := hv w hw hB
    unfold Oper.wp
    generalize (execOp a.eval o).run P w = r at h3
    cases r with
    | ok x w' =>
      cases x <;> simp only [insideT] at h3 <;> simp only [Oper.upon]
      case value u => exact hn u _ h3.1 h3.2
      case skip => exact hn undef _ h3.1 h3.2
      case enter f args =>
        refine h3.2.1.mono fun e w'' he => ?_
        obtain ⟨v, rfl, hl, hk⟩ := he
        exact hn v _ (E.trans h3.1 hl) (h3.2.2 w'' v hk)
    | halt x w' => simp only [insideT] at h3
  · rw [if_neg (by simp [hwant])]
    exact hn undef _ (E.refl w) (hv w hw hB)
theorem TrivZ.with {listed : Array Bool} {F : FactsZ} (h : TrivZ listed F) (i : Nat) (V : Nat → World → Prop) (hi : i < listed.size) : TrivZ (listed.setIfInBounds i true) (F.with i V) := fun j hj z w => by
  have hne : j ≠ i := fun e => by
    subst e
    rw [Array.getD_eq_getD_getElem?, Array.getElem?_setIfInBounds_self_of_lt hi] at hj
    simp at hj
  refine ⟨h j ?_ z w, fun e => absurd e hne⟩
  rw [Array.getD_eq_getD_getElem?, Array.getElem?_setIfInBounds_ne (Ne.symm hne)] at hj
  rwa [Array.getD_eq_getD_getElem?]
theorem anyFreeZ_sound {n g : Nat} {L : Array Bool → Act → FactsZ → Prop} {Q' : Exit → Act → World → Prop} (hL : ∀ listed a F w zs, E.R W w → (∀ e, F e (zs e) w) → crossZ E W zs F w → L listed a F → wpAny P md ops Q' g listed a w) :
    ∀ (f : Nat) (listed : Array Bool) (a : Act) (F : FactsZ) (w : World) (zs : Nat → Nat), FMonoZ E F → TrivZ listed F → E.R W w → (∀ e, F e (zs e) w) → crossZ E W zs F w → anyFreeZ E P ops md W K n L f listed a F → wpAny P md ops Q' (f + g) listed a w := by
  intro f
  induction f with
  | zero => intro listed a F w zs _ _ hw hF hc h; rw [Nat.zero_add]; exact hL _ _ _ _ zs hw hF hc h
  | succ f ih =>
    intro listed a F w zs hm ht hw hF hc h
    rw [show f + 1 + g = (f + g) + 1 by omega]
    refine ⟨fun h0 => absurd h0 h.1, fun i hi => ?_⟩
    obtain ⟨hun, o, ho, _⟩ := mem_ready.1 hi
    have hlt : i < listed.size := by
      rcases Nat.lt_or_ge i listed.size with h' | h'
      · exact h'
      · simp [Array.getElem?_eq_none h'] at hun
    obtain ⟨V, hg, hn⟩ := (h.2 i hi).2 o ho
    refine wpOp_yieldsZ ho hw (.of hF hc o) hg (fun v w' hl hv => ?_)
    refine ih _ _ _ _ (fun e => if e = i then w.heap.size else zs e) (hm.with hg.1 i v) (ht.with i _ hlt) (E.trans hw hl) (fun e => ?_) (hc.step hw hl hF) (hn v (metZ.step hm (ht i hun) hw hl hF hc hv))
    by_cases he : e = i
    · subst he
      simp only [if_true]
      exact ⟨ht e hun _ _, fun _ => hv⟩
    · simp only [if_neg he]
      exact ⟨hm w w' hl e _ (hF e), fun h => absurd h he⟩
theorem withZ_comm (F : FactsZ) (i j : Nat) (X Y : Nat → World → Prop) : (F.with i X).with j Y = (F.with j Y).with i X := by
  funext e z w
  unfold FactsZ.with
  exact propext ⟨fun h => ⟨⟨h.1.1, h.2⟩, h.1.2⟩, fun h => ⟨⟨h.1.1, h.2⟩, h.1.2⟩⟩
theorem anyFreeZ_weaken {n : Nat} {L : Array Bool → Act → FactsZ → Prop} (hLm : ∀ listed a F F', (∀ e z w, F' e z w → F e z w) → L listed a F → L listed a F') :
    ∀ (f : Nat) (listed : Array Bool) (a : Act) (F F' : FactsZ), (∀ e z w, F' e z w → F e z w) → anyFreeZ E P ops md W K n L f listed a F → anyFreeZ E P ops md W K n L f listed a F' := by
  intro f
  induction f with
  | zero => intro listed a F F' h hh; exact hLm _ _ _ _ h hh
  | succ f ih =>
    intro listed a F F' h hh
    refine ⟨hh.1, fun i hi => ⟨(hh.2 i hi).1, fun o ho => ?_⟩⟩
    obtain ⟨V, hg, hn⟩ := (hh.2 i hi).2 o ho
    exact ⟨V, hg.stronger h, fun v hv => ih _ _ _ _ (fun e z w hw => ⟨h e z w hw.1, hw.2⟩) (hn v (hv.weaken (fun e z w hw => ⟨h e z w hw.1, hw.2⟩)))⟩
theorem anyFreeZ_first {n i : Nat} {oi : Oper} {V : Nat → World → Value → Prop} {L : Array Bool → Act → FactsZ → Prop} (hi : ops[i]? = some oi) (hsel : ∀ (j : Nat) (o : Oper) cs b, ops[j]? = some o → o.op ≠ .select cs b)
    (hbound : ∀ listed i, HeadInv md ops n listed → i < n → listed.getD i true = false → ∀ j ∈ Region.ready md ops listed, j < n) (hin : i < n)
    (hdone : ∀ listed a F, L listed a F → ∀ j ∈ Region.ready md ops listed, n ≤ j) (hLm : ∀ listed a F F', (∀ e z w, F' e z w → F e z w) → L listed a F → L listed a F') :
    ∀ (f : Nat) (listed : Array Bool) (a : Act) (F : FactsZ), HeadInv md ops n listed →
      (∀ j oj, ops[j]? = some oj → j ≠ i → listed.getD j true = false → (∀ e ∈ oj.after, Region.binds md e = true → e.on ≠ i) → oi.apart ops oj = true) →
      i ∈ Region.ready md ops listed → FMonoZ E F → TrivZ listed F → metZ E W F → YieldsZ E P ops md W K oi a F V →
      (∀ v, metZ E W (F.with i (fun z w => V z w v)) → anyFreeZ E P ops md W K n L f (listed.setIfInBounds i true) (a.put oi.dst v) (F.with i (fun z w => V z w v))) → anyFreeZ E P ops md W K n L (f + 1) listed a F := by
  intro f
  induction f with
  | zero =>
    intro listed a F inv _ hr hm ht hx hg H
    have hun := (mem_ready.1 hr).1
    refine ⟨fun h => (by rw [h] at hr; cases hr), fun j hj => ?_⟩
    have hjn := hbound listed i inv hin hun j hj
    refine ⟨hjn, fun o ho => ?_⟩
    by_cases hji : j = i
    · subst hji
      rw [hi] at ho; cases ho
      exact ⟨V, hg, H⟩
    · obtain ⟨v, hv⟩ := hg.some (i := i) hm (ht i hun) hx
      have := hdone _ _ _ (H v hv) j (ready_mono hj hji)
      omega
  | succ f ih =>
    intro listed a F inv hfree hr hm ht hx hg H
    have hun := (mem_ready.1 hr).1
    refine ⟨fun h => (by rw [h] at hr; cases hr), fun j hj => ?_⟩
    have hjn := hbound listed i inv hin hun j hj
    refine ⟨hjn, fun o ho => ?_⟩
    by_cases hji : j = i
    · subst hji
      rw [hi] at ho; cases ho
      exact ⟨V, hg, H⟩
    · obtain ⟨hjun, oj, hoj, hall⟩ := mem_ready.1 hj
      rw [ho] at hoj; cases hoj
      have hnot : ∀ e ∈ o.after, Region.binds md e = true → e.on ≠ i := fun e he hb heq => by
        have h1 := hall e he hb
        rw [heq, getD_both hun] at h1
        cases h1
      have hap := hfree j o ho hji hjun hnot
      obtain ⟨a1, a2, a3⟩ := Oper.apart_spec hap
      have hsi := fun cs b => hsel i oi cs b hi
      have hsj := fun cs b => hsel j o cs b ho
      have hU : ∀ v : {v // metZ E W (F.with i (fun z w => V z w v))}, ∃ U, YieldsZ E P ops md W K o (a.put oi.dst v.1) (F.with i (fun z w => V z w v.1)) U ∧ ∀ u, metZ E W ((F.with i (fun z w => V z w v.1)).with j (fun z w => U z w u)) →
          anyFreeZ E P ops md W K n L f ((listed.setIfInBounds i true).setIfInBounds j true) ((a.put oi.dst v.1).put o.dst u) ((F.with i (fun z w => V z w v.1)).with j (fun z w => U z w u)) :=
        fun v => ((H v.1 v.2).2 j (ready_mono hj hji)).2 o ho
      obtain ⟨U, hU⟩ := Classical.skolem.1 hU
      obtain ⟨v0, hv0⟩ := hg.some (i := i) hm (ht i hun) hx
      have hone : ∀ v, YieldsZ E P ops md W K o a F (U v) := fun v => ((hU v).1.same (execOp_put o hsj a oi.dst v.1 a1).symm (wanted_put o a oi.dst v.1 a1).symm).less hnot
      have hgood : YieldsZ E P ops md W K o a F (fun z w u => ∀ v, U v z w u) := by
        refine ⟨fun z u w w' hl h v => (hone v).1 z u w w' hl (h v), ?_⟩
        by_cases hw : Region.wanted o (yielded ops a.tmps) = true
        · refine .inl ⟨hw, fun w hw' hb => inside_allT ⟨⟨v0, hv0⟩, trivial⟩ (fun v => ?_)⟩
          rcases (hone v).2 with ⟨_, h3⟩ | ⟨h3, _⟩
          · exact h3 w hw' hb
          · rw [hw] at h3; cases h3
        · refine .inr ⟨by simpa using hw, fun w hw' hb v => ?_⟩
          rcases (hone v).2 with ⟨h3, _⟩ | ⟨_, h3⟩
          · exact absurd h3 hw
          · exact h3 w hw' hb
      refine ⟨_, hgood, ?_⟩
      intro u hu
      have hfree' : ∀ k ok, ops[k]? = some ok → k ≠ i → (listed.setIfInBounds j true).getD k true = false →
          (∀ e ∈ ok.after, Region.binds md e = true → e.on ≠ i) → oi.apart ops ok = true := fun k ok hk hki hun hno => by
        refine hfree k ok hk hki ?_ hno
        by_cases hjk : j = k
        · subst hjk; exact hjun
        · rw [getD_set_ne true hjk] at hun; exact hun
      have hjlt : j < listed.size := by
        rcases Nat.lt_or_ge j listed.size with h' | h'
        · exact h'
        · simp [Array.getElem?_eq_none h'] at hjun
      have hx' : metZ E W (F.with j (fun z w => ∀ v, U v z w u)) := hu
      refine ih (listed.setIfInBounds j true) (a.put o.dst u) (F.with j (fun z w => ∀ v, U v z w u)) (inv.set hj hjn) hfree' (ready_mono hr (Ne.symm hji)) (hm.with hgood.1 j u) (ht.with j _ hjlt) hx' ((hg.same (execOp_put oi hsi a o.dst u a3) (wanted_put oi a o.dst u a3)).more) (fun v hv => ?_)
      rw [Array.setIfInBounds_comm _ _ hji, ← Act.put_comm a v u a2]
      have mv : metZ E W (F.with i (fun z w => V z w v)) := hv.weaken (fun e z w' h' => ⟨h'.1.1, h'.2⟩)
      have mu : metZ E W ((F.with i (fun z w => V z w v)).with j (fun z w => U ⟨v, mv⟩ z w u)) := hv.weaken (fun e z w' h' => ⟨⟨h'.1.1, h'.2⟩, fun he => h'.1.2 he ⟨v, mv⟩⟩)
      exact anyFreeZ_weaken hLm _ _ _ _ _ (fun e z w' h' => ⟨⟨h'.1.1, h'.2⟩, fun he => h'.1.2 he ⟨v, mv⟩⟩) ((hU ⟨v, mv⟩).2 u mu)
theorem anyFreeZ_lex {n g : Nat} {R : Act → World → Prop} (hsel : Region.noSelect ops = true)
    (hbound : ∀ listed i, HeadInv md ops n listed → i < n → listed.getD i true = false → ∀ j ∈ Region.ready md ops listed, j < n) :
    ∀ (l : List Oper) (k : Nat) (listed : Array Bool) (a : Act) (F : FactsZ), (∀ j, j < l.length → l[j]? = ops[k + j]?) → k + l.length = n → HeadInv md ops n listed →
    Region.lexHead md ops g l.length k listed = true → FMonoZ E F → TrivZ listed F → metZ E W F → wpFreeZ E P ops md W K R l k a F →
    anyFreeZ E P ops md W K n (fun listed' a' F' => Region.seqB md ops g n listed' = true ∧ ∀ w zs, E.R W w → (∀ e, F' e (zs e) w) → crossZ E W zs F' w → R a' w) l.length listed a F := by
  intro l
  induction l with
  | nil =>
    intro k listed a F _ hk _ hB _ _ _ h
    have : k = n := by simpa using hk
    subst this
    exact ⟨by simpa [Region.lexHead] using hB, h⟩
  | cons o l ih =>
    intro k listed a F hl hk inv hB hm ht hx h
    have h0 : ops[k]? = some o := by simpa using (hl 0 (by simp)).symm
    simp only [List.length_cons, Region.lexHead, Bool.and_eq_true] at hB
    obtain ⟨⟨hr, hf⟩, hB'⟩ := hB
    have hkn : k < n := by simp only [List.length_cons] at hk; omega
    have hr' : k ∈ Region.ready md ops listed := by simpa using hr
    have hun := (mem_ready.1 hr').1
    have hklt : k < listed.size := by
      rcases Nat.lt_or_ge k listed.size with h' | h'
      · exact h'
      · simp [Array.getElem?_eq_none h'] at hun
    obtain ⟨V, hg, hnext⟩ := h
    exact anyFreeZ_first h0 (Region.noSelect_spec hsel) hbound hkn (fun listed' a' F' hL => seqB_ready hL.1)
      (fun _ _ _ _ hF hL => ⟨hL.1, fun w zs hw h' hc => hL.2 w zs hw (fun e => hF e _ w (h' e)) (fun p q hpq => (hc p q hpq).imp (fun ⟨w', b1, b2, b3, b4⟩ => ⟨w', b1, b2, b3, hF _ _ _ b4⟩) (fun ⟨w', b1, b2, b3, b4⟩ => ⟨w', b1, b2, b3, hF _ _ _ b4⟩))⟩) l.length listed a F inv (Region.free_spec h0 hf) hr' hm ht hx hg
      (fun v hv => ih (k + 1) _ _ _ (fun j hj => by have := hl (j + 1) (by simp; omega); simpa [Nat.add_assoc, Nat.add_comm 1 j] using this) (by simp only [List.length_cons] at hk; omega) (inv.set hr' hkn) hB' (hm.with hg.1 k v) (ht.with k _ hklt)
        hv (hnext v hv))
def noFactsZ : FactsZ := fun _ _ _ => True
/-- A REGION THAT DRAWS ITS ORDER. -/
theorem region_freeZ (K : FuncId → Array Value → Nat → World → Value → Prop) {id : Nat} {Q : Exit → Act → World → Prop} {a : Act} {w : World} {l : List Oper} (hm : P.follows .mixedOrders = true)
    (hB : (Region.noSelect l.toArray && Region.lexHead .any l.toArray 0 l.length 0 (Array.replicate l.toArray.size false)) = true)
    (h : wpFreeZ E P l.toArray .any (w.drewN 1) K (fun a' w' => Q .normal a' w') l 0 a noFactsZ) : (Code.region id l.toArray true).wp P Q a w := by
  simp only [Bool.and_eq_true] at hB
  obtain ⟨hsel, hlex⟩ := hB
  have hbound : ∀ listed i, HeadInv .any l.toArray l.length listed → i < l.length → listed.getD i true = false → ∀ j ∈ Region.ready .any l.toArray listed, j < l.length := by
    intro listed i _ _ _ j hj
    obtain ⟨_, oj, hoj, _⟩ := mem_ready.1 hj
    simpa using (Array.getElem?_eq_some_iff.1 hoj).1
  have H := anyFreeZ_lex (md := .any) (g := 0) hsel hbound l 0 _ a noFactsZ (fun j hj => by simp) (by simp) (head_start _ l.length) hlex (fun _ _ _ _ _ h => h) (fun _ _ _ _ => trivial) ⟨w.drewN 1, fun _ => (w.drewN 1).heap.size, E.refl _, fun _ => trivial, fun p q _ => .inl ⟨_, E.refl _, E.refl _, rfl, trivial⟩⟩ h
  refine wp_region_any hm ?_
  have := anyFreeZ_sound (Q' := Q) (W := w.drewN 1) (g := 0) (fun listed a' F w' zs hw' hF hc hL => ⟨by simpa [Region.seqB] using hL.1, hL.2 w' zs hw' hF hc⟩) _ _ _ _ _ (fun _ => (w.drewN 1).heap.size) (fun _ _ _ _ _ h => h) (fun _ _ _ _ => trivial) (E.refl _) (fun _ => trivial) (fun p q _ => .inl ⟨_, E.refl _, E.refl _, rfl, trivial⟩) H
  rw [Nat.add_zero] at this
  exact this
/-- The same for a region whose last operations are forced to come last, and may write. -/
theorem region_tailZ (K : FuncId → Array Value → Nat → World → Value → Prop) {id : Nat} {Q : Exit → Act → World → Prop} {a : Act} {w : World} {l : List Oper} (n : Nat) (hm : P.follows .mixedOrders = true) (hB : Region.lexTailB .any l.toArray n = true)
    (h : wpFreeZ E P l.toArray .any (w.drewN 1) K (fun a' w' => wpList P l.toArray Q (l.drop n) a' w') (l.take n) 0 a noFactsZ) : (Code.region id l.toArray true).wp P Q a w := by
  simp only [Region.lexTailB, Bool.and_eq_true, decide_eq_true_eq] at hB
  obtain ⟨⟨⟨⟨hsel, hn⟩, hs⟩, hc⟩, hlex⟩ := hB
  have hn' : n < l.length := by simpa using hn
  have htl : (l.take n).length = n := by simp; omega
  have hdl : (l.drop n).length = l.toArray.size - n := by simp
  have hbound : ∀ listed i, HeadInv .any l.toArray n listed → i < n → listed.getD i true = false → ∀ j ∈ Region.ready .any l.toArray listed, j < n := by
    intro listed i inv hi hun j hj
    rcases Nat.lt_or_ge j n with h | h
    · exact h
    · exact absurd hj (tail_waits hs hc hn inv _ i rfl hi hun j h)
  have H := anyFreeZ_lex (md := .any) (g := l.toArray.size - n) hsel hbound (l.take n) 0 _ a noFactsZ (fun j hj => by
    have hj' : j < n := by rw [htl] at hj; exact hj
    simp [hj']) (by simpa using htl) (head_start _ n) (by rw [htl]; exact hlex) (fun _ _ _ _ _ h => h) (fun _ _ _ _ => trivial) ⟨w.drewN 1, fun _ => (w.drewN 1).heap.size, E.refl _, fun _ => trivial, fun p q _ => .inl ⟨_, E.refl _, E.refl _, rfl, trivial⟩⟩ h
  refine wp_region_any hm ?_
  have := anyFreeZ_sound (Q' := Q) (W := w.drewN 1) (g := l.toArray.size - n) (fun listed a' F w' zs hw' hF hc hL => by
    have := wpAny_of_seq (md := .any) (Q' := Q) (l.drop n) n listed a' w' (fun j => by simp [List.getElem?_drop]) (by rw [hdl]; exact hL.1) (hL.2 w' zs hw' hF hc)
    rwa [hdl] at this) _ _ _ _ _ (fun _ => (w.drewN 1).heap.size) (fun _ _ _ _ _ h => h) (fun _ _ _ _ => trivial) (E.refl _) (fun _ => trivial) (fun p q _ => .inl ⟨_, E.refl _, E.refl _, rfl, trivial⟩) H
  rw [htl, show n + (l.toArray.size - n) = l.toArray.size by omega] at this
  exact this
end
end Go.Fk

/- The laws of drawn regions in which several operations make memory: one operation at a time. Nothing here names a program. -/
namespace Go.Fk
open Go Go.RowKit
theorem wpFreeZ_weaken {E : Ext} {P : Program} {ops : Array Oper} {md : Region.Mode} {W : World} {K : FuncId → Array Value → Nat → World → Value → Prop} {Q : Act → World → Prop} : ∀ (l : List Oper) (k : Nat) (a : Act) (F F' : FactsZ), (∀ e z w, F' e z w → F e z w) → wpFreeZ E P ops md W K Q l k a F → wpFreeZ E P ops md W K Q l k a F' := by
  intro l
  induction l with
  | nil => intro k a F F' h hh w zs hw hF hc; exact hh w zs hw (fun e => h e _ w (hF e)) (hc.weaken h)
  | cons o l ih =>
    intro k a F F' h hh
    obtain ⟨V, hg, hn⟩ := hh
    exact ⟨V, hg.stronger h, fun v hv => ih _ _ _ _ (fun e z w hw => ⟨h e z w hw.1, hw.2⟩) (hn v (hv.weaken (fun e z w hw => ⟨h e z w hw.1, hw.2⟩)))⟩
section
variable {E : Ext} {P : Program} {ops : Array Oper} {W : World} {K : FuncId → Array Value → Nat → World → Value → Prop} {Q : Act → World → Prop} {F : FactsZ} {k : Nat} {o : Oper} {rest : List Oper} {a : Act}
theorem wpFreeZ_nil (h : ∀ w zs, E.R W w → (∀ e, F e (zs e) w) → crossZ E W zs F w → Q a w) : wpFreeZ E P ops .any W K Q [] k a F := h
/-- What has been met has been met with some operation's fact: what that fact says of the value alone may be used. -/
theorem metZ.has {V : Nat → World → Prop} (h : metZ E W (F.with k V)) : ∃ z w, E.R W w ∧ V z w := by
  obtain ⟨w, zs, hw, hF, _⟩ := h
  exact ⟨zs k, w, hw, (hF k).2 rfl⟩
theorem wpFreeZ_oneW (hw : Region.wanted o (yielded ops a.tmps) = true) (v : Value) (hr : ∀ w, E.R W w → (execOp a.eval o).run P w = .ok (.value v) w)
    (h : wpFreeZ E P ops .any W K Q rest (k + 1) (a.put o.dst v) (F.with k (fun _ _ => True))) : wpFreeZ E P ops .any W K Q (o :: rest) k a F := by
  refine ⟨fun _ _ u => u = v, ⟨fun _ _ _ _ _ h => h, .inl ⟨hw, fun w hw _ => ?_⟩⟩, fun u hu => ?_⟩
  · rw [hr w hw]; exact ⟨E.refl w, rfl⟩
  · obtain ⟨_, _, _, rfl⟩ := hu.has
    exact wpFreeZ_weaken _ _ _ _ _ (fun e _ w h => ⟨h.1, fun _ => trivial⟩) h
theorem wpFreeZ_one (hg : o.guard = none) (v : Value) (hr : ∀ w, E.R W w → (execOp a.eval o).run P w = .ok (.value v) w)
    (h : wpFreeZ E P ops .any W K Q rest (k + 1) (a.put o.dst v) (F.with k (fun _ _ => True))) : wpFreeZ E P ops .any W K Q (o :: rest) k a F := wpFreeZ_oneW (by simp [Region.wanted, hg]) v hr h
theorem wpFreeZ_skip (hw : Region.wanted o (yielded ops a.tmps) = false)
    (h : wpFreeZ E P ops .any W K Q rest (k + 1) (a.put o.dst undef) (F.with k (fun _ _ => True))) : wpFreeZ E P ops .any W K Q (o :: rest) k a F := by
  refine ⟨fun _ _ u => u = undef, ⟨fun _ _ _ _ _ h => h, .inr ⟨hw, fun w _ _ => rfl⟩⟩, fun u hu => ?_⟩
  obtain ⟨_, _, _, rfl⟩ := hu.has
  exact wpFreeZ_weaken _ _ _ _ _ (fun e _ w h => ⟨h.1, fun _ => trivial⟩) h
theorem wpFreeZ_load1 (hg : o.guard = none) {ty : TypeId} {x : Operand} (hop : o.op = .load ty x) {p : Addr} (hx : a.eval x = .pointer (some p)) {v : Value} (hv : ∀ w, E.R W w → w.cell? p = some v) (hu : ∀ w, (isAgg ty).run P w = .ok false w)
    (h : wpFreeZ E P ops .any W K Q rest (k + 1) (a.put o.dst v) (F.with k (fun _ _ => True))) : wpFreeZ E P ops .any W K Q (o :: rest) k a F := by
  refine wpFreeZ_one hg v (fun w hw => ?_) h
  have hl : (Instr.loadAt ty (.pointer (some p))).run P w = .ok v w := by
    simp [Instr.loadAt, Instr.sureAddr, loadVar, hu, hv w hw]
  simp [execOp, hop, hx, hl, Result.andThen]
theorem wpFreeZ_loadW (hg : o.guard = none) {ty : TypeId} {x : Operand} (hop : o.op = .load ty x) {p : Addr} (hx : a.eval x = .pointer (some p)) (vs : List Value) (hc : ∀ w, E.R W w → ∀ j v, vs[j]? = some v → w.cell? (p.add j) = some v) {d : TypeDesc} (hu : P.underlying ty = some d) (hd : d.isRow = true) {sz : Nat} (hs : (P.info? ty).map (·.size) = some sz) (hl : vs.length = sz)
    (h : wpFreeZ E P ops .any W K Q rest (k + 1) (a.put o.dst (.agg vs.toArray)) (F.with k (fun _ _ => True))) : wpFreeZ E P ops .any W K Q (o :: rest) k a F := by
  refine wpFreeZ_one hg (.agg vs.toArray) (fun w hw => ?_) h
  have hl' : (loadCells p vs.length).run P w = .ok vs.toArray w := run_loadCells_list (P := P) w p vs (hc w hw)
  cases hq : P.info? ty with
  | none => simp [hq] at hs
  | some inf =>
    have hz : inf.size = vs.length := by simp [hq] at hs; omega
    have hagg : (isAgg ty).run P w = .ok true w := by
      unfold isAgg
      rw [Sem.run_bind, run_underlying hu w]
      cases d <;> simp_all
    simp [execOp, hop, hx, Instr.loadAt, Instr.sureAddr, loadVar, Sem.run_bind, hagg, sizeOf, typeInfo, hq, hz, hl', Result.andThen]
/-- A call: what it gives may speak of the number of blocks where it started. -/
theorem wpFreeZ_callW (hw : Region.wanted o (yielded ops a.tmps) = true) {f : FuncId} {xs : Array Operand} {ts : Array TypeId} (hop : o.op = Op.call { callee := Callee.value (Operand.func f), args := xs, argTypes := ts }) {fn : Func} (hf : P.funcs[f]? = some fn)
    (hb : fn.body.isNone = false) (hn : (fn.name == "runtime.NumGoroutine") = false) {args : Array Value} (ha : xs.map a.eval = args) (hm : MonoZ E (K f args))
    (h1 : ∀ w, E.R W w → behindZ E .any W o F w → Calls P f args w (fun e w' => ∃ v, e = .returned v ∧ le w w' ∧ K f args w.heap.size w' v)) (h2 : ∀ v, (∃ z w, E.R W w ∧ K f args z w v) → wpFreeZ E P ops .any W K Q rest (k + 1) (a.put o.dst v) (F.with k (fun z w => K f args z w v))) : wpFreeZ E P ops .any W K Q (o :: rest) k a F := by
  refine ⟨K f args, ⟨hm, .inl ⟨hw, fun w hw hbe => ?_⟩⟩, fun v hv => h2 v hv.has⟩
  rw [run_enter hop hf hb hn ha]
  refine ⟨E.refl w, (h1 w hw hbe).mono ?_, fun _ _ h => h⟩
  rintro e w' ⟨v, rfl, hl, hk⟩
  exact ⟨v, rfl, E.of_le hl, hk⟩
/-- An operation of one value; what is known of those that it comes behind is carried on. -/
theorem wpFreeZ_carry (hg : o.guard = none) (v : Value) (hr : ∀ w, E.R W w → (execOp a.eval o).run P w = .ok (.value v) w) (V : World → Prop) (hm : ∀ w w', E.R w w' → V w → V w') (hb : ∀ w, E.R W w → behindZ E .any W o F w → V w)
    (h : wpFreeZ E P ops .any W K Q rest (k + 1) (a.put o.dst v) (F.with k (fun _ => V))) : wpFreeZ E P ops .any W K Q (o :: rest) k a F := by
  refine ⟨fun _ w u => u = v ∧ V w, ⟨fun _ _ w w' hw h => ⟨h.1, hm w w' hw h.2⟩, .inl ⟨by simp [Region.wanted, hg], fun w hw hbe => ?_⟩⟩, fun u hu => ?_⟩
  · rw [hr w hw]; exact ⟨E.refl w, rfl, hb w hw hbe⟩
  · obtain ⟨_, _, _, rfl, _⟩ := hu.has
    exact wpFreeZ_weaken _ _ _ _ _ (fun e _ w h => ⟨h.1, fun he => (h.2 he).2⟩) h
/-- An operation that makes one new block. -/
theorem wpFreeZ_new (hg : o.guard = none) (f : Nat → Value) (ob : Obj) (hr : ∀ w, (execOp a.eval o).run P w = .ok (.value (f w.heap.size)) (w.alloc ob))
    (h : ∀ b, wpFreeZ E P ops .any W K Q rest (k + 1) (a.put o.dst (f b)) (F.with k (fun _ _ => True))) : wpFreeZ E P ops .any W K Q (o :: rest) k a F := by
  refine ⟨fun _ _ u => ∃ b, u = f b, ⟨fun _ _ _ _ _ h => h, .inl ⟨by simp [Region.wanted, hg], fun w hw _ => ?_⟩⟩, fun u hu => ?_⟩
  · rw [hr w]; exact ⟨E.of_le (le_alloc w ob), _, rfl⟩
  · obtain ⟨_, _, _, b, rfl⟩ := hu.has
    exact wpFreeZ_weaken _ _ _ _ _ (fun e _ w h => ⟨h.1, fun _ => trivial⟩) (h b)
end
section
variable {P : Program} {ops : Array Oper} {W : World} {K : FuncId → Array Value → Nat → World → Value → Prop} {Q : Act → World → Prop} {F : FactsZ} {k : Nat} {o : Oper} {rest : List Oper} {a : Act}
variable {g : Nat} {t : TypeId} {m : Nat} {Fin : World → Array Value → Prop} {hm : ∀ w w' cs, le w w' → Fin w cs → Fin w' cs}
/-- The result is stored. -/
theorem wpFreeZ_out (hg : o.guard = none) {ty : TypeId} {x y : Operand} (hop : o.op = .store ty x y) (hx : a.eval x = .pointer (some ⟨g, 0, none⟩)) {cells : Array Value} (hy : a.eval y = .agg cells) (hty : ty = t) {old : Array Value} (hW : Row W g t old) (ho : old.size = m)
    (hF : ∀ w w', (outX g t m Fin hm).R W w → behindZ (outX g t m Fin hm) .any W o F w → Chg (· = g) w w' → Fin w' cells) (hi : (P.info? ty).map (·.size) = some m) (hs : cells.size = m) (h1 : cells.all (·.oneCell') = true)
    (h : wpFreeZ (outX g t m Fin hm) P ops .any W K Q rest (k + 1) (a.put o.dst undef) (F.with k (fun _ w => ∃ cs, Row w g t cs ∧ Fin w cs))) : wpFreeZ (outX g t m Fin hm) P ops .any W K Q (o :: rest) k a F := by
  subst hty
  refine ⟨fun _ w v => v = undef ∧ ∃ cs, Row w g ty cs ∧ Fin w cs, ⟨fun _ v w w' hw hv => ⟨hv.1, hw.2.2 hv.2⟩, .inl ⟨by simp [Region.wanted, hg], fun w hw hbe => ?_⟩⟩, fun v hv => ?_⟩
  · obtain ⟨cs, hc, hcs⟩ := hw.2.1 ⟨old, hW, ho⟩
    have hrun := run_storeVar_row (P := P) w g ty ty cs cells hc (hs ▸ hi) (hcs.trans hs.symm) h1
    have : (execOp a.eval o).run P w = .ok .skip (w.setRow g cells) := by
      unfold execOp
      simp only [hop, hx, hy, Instr.storeAt, Instr.sureAddr, Sem.run_bind, Sem.run_pure, Result.andThen_ok, hrun]
    rw [this]
    have hrow : Row (w.setRow g cells) g ty cells := hc.setRow _
    have hch : Chg (· = g) w (w.setRow g cells) := (Chg.refl _ w).wrote (wrote_setRow hc) rfl
    have hfin := hF w _ hw hbe hch
    exact ⟨⟨hch, fun _ => ⟨cells, hrow, hs⟩, fun _ => ⟨cells, hrow, hfin⟩⟩, rfl, cells, hrow, hfin⟩
  · obtain ⟨_, _, _, rfl, _⟩ := hv.has
    exact wpFreeZ_weaken _ _ _ _ _ (fun e _ w h => ⟨h.1, fun he => (h.2 he).2⟩) h
/-- A slice in a block of its own, made behind the region's start: the writes of the result's block leave it. -/
theorem own_outX {w w' : World} {lo hi : Nat} {s : Value} {x : Nat → Nat} {n : Nat} (h : OwnS w lo hi s x n) (hw : (outX g t m Fin hm).R w w') (hl : g < lo ∨ hi ≤ g) : OwnS w' lo hi s x n := h.chgS hw.1 (fun i h1 h2 e => by omega)
end
/-- A slice that is not empty lies in one block. -/
theorem OwnS.tight {w : World} {lo hi : Nat} {s : Value} {x : Nat → Nat} {n : Nat} (h : OwnS w lo hi s x n) (hn : 1 ≤ n) : ∃ b, lo ≤ b ∧ b < hi ∧ OwnS w b (b + 1) s x n := by
  rcases h with ⟨_, h⟩ | ⟨b, o, cap, cs, h1, h2, h3, h4, h5, h6, h7⟩
  · omega
  · exact ⟨b, h4, h5, .inr ⟨b, o, cap, cs, h1, h2, h3, Nat.le_refl _, Nat.lt_succ_self _, h6, h7⟩⟩
end Go.Fk

/- Copies of two rings, in one region. Nothing here names a program. -/
namespace Go.Fk
open Go Go.RowKit
theorem own_same {w w2 : World} {B B' lo hi : Nat} {s u : Value} {x x' : Nat → Nat} {n n' : Nat} (h : RdS w B s x n) (h' : RdS w B' s x' n') (o : OwnS w2 lo hi u x n) : OwnS w2 lo hi u x' n' := by
  obtain ⟨rfl, e⟩ := h.uniq h'
  rcases o with o | ⟨b, q, cap, cs, h1, h2, h3, h4, h5, h6, h7⟩
  · exact .inl o
  · exact .inr ⟨b, q, cap, cs, h1, h2, h3, h4, h5, h6, fun i hi => by obtain ⟨y, e1, e2, e3⟩ := h7 i hi; exact ⟨y, e1, e2, e3.trans (e i hi)⟩⟩
theorem own_one {w : World} {lo hi : Nat} {s : Value} {x : Nat → Nat} {n : Nat} (h : OwnS w lo hi s x n) : s.oneCell' = true := by
  rcases h with ⟨rfl, _⟩ | ⟨_, _, _, _, rfl, _⟩ <;> rfl
theorem Row.at_all {w : World} {g : Nat} {t : TypeId} {ds : List Value} (R : Row w g t ds.toArray) : ∀ (j : Nat) (v : Value), ds[j]? = some v → w.cell? ((⟨g, 0, none⟩ : Addr).add j) = some v := fun j v hv => by
  rw [add_none, R.cell?, Nat.zero_add, List.getElem?_toArray, hv]
/-- Two slices, each in a block of its own. -/
def Two (lo : Nat) (x : Nat → Nat) (nx : Nat) (y : Nat → Nat) (ny : Nat) (s t : Value) (w : World) : Prop := ∃ b d, OwnS w b (b + 1) s x nx ∧ OwnS w d (d + 1) t y ny ∧ b ≠ d ∧ lo ≤ b ∧ b < w.heap.size ∧ lo ≤ d ∧ d < w.heap.size
def FinC (lo : Nat) (x : Nat → Nat) (nx : Nat) (y : Nat → Nat) (ny : Nat) (mkC : Value → Value → Array Value) (w : World) (cs : Array Value) : Prop := ∃ s t, cs = mkC s t ∧ Two lo x nx y ny s t w
theorem Two.le {lo : Nat} {x : Nat → Nat} {nx : Nat} {y : Nat → Nat} {ny : Nat} {s t : Value} {w w' : World} (h : Two lo x nx y ny s t w) (hl : Fk.le w w') : Two lo x nx y ny s t w' := by
  obtain ⟨b, d, h1, h2, h3, h4, h5, h6, h7⟩ := h
  exact ⟨b, d, h1.le hl, h2.le hl, h3, h4, Nat.lt_of_lt_of_le h5 hl.size, h6, Nat.lt_of_lt_of_le h7 hl.size⟩
theorem Two.lo {lo lo' : Nat} {x : Nat → Nat} {nx : Nat} {y : Nat → Nat} {ny : Nat} {s t : Value} {w : World} (h : Two lo x nx y ny s t w) (hl : lo' ≤ lo) : Two lo' x nx y ny s t w := by
  obtain ⟨b, d, h1, h2, h3, h4, h5, h6, h7⟩ := h
  exact ⟨b, d, h1, h2, h3, by omega, h5, by omega, h7⟩
theorem Two.chg {g : Nat} {x : Nat → Nat} {nx : Nat} {y : Nat → Nat} {ny : Nat} {s t : Value} {w w' : World} (h : Two (g + 1) x nx y ny s t w) (hc : Chg (· = g) w w') : Two (g + 1) x nx y ny s t w' := by
  obtain ⟨b, d, h1, h2, h3, h4, h5, h6, h7⟩ := h
  exact ⟨b, d, h1.chgS hc (fun i h8 h9 e => by omega), h2.chgS hc (fun i h8 h9 e => by omega), h3, h4, Nat.lt_of_lt_of_le h5 hc.size, h6, Nat.lt_of_lt_of_le h7 hc.size⟩
theorem FinC_le (lo : Nat) (x : Nat → Nat) (nx : Nat) (y : Nat → Nat) (ny : Nat) (mkC : Value → Value → Array Value) : ∀ w w' cs, Fk.le w w' → FinC lo x nx y ny mkC w cs → FinC lo x nx y ny mkC w' cs := fun _ _ _ hl ⟨s, t, h, h2⟩ => ⟨s, t, h, h2.le hl⟩
/-- A copied ring: its block came behind z. -/
def Cp (g : Nat) (x : Nat → Nat) (n : Nat) (j : Int) (z : Nat) (w : World) (v : Value) : Prop := ∃ s b, v = .agg #[s, .int .i64 j] ∧ OwnS w b (b + 1) s x n ∧ z ≤ b ∧ b < w.heap.size ∧ g < z
theorem Cp.mk {g : Nat} {x : Nat → Nat} {n : Nat} {j : Int} {w w' : World} {s : Value} (h : OwnS w' w.heap.size w'.heap.size s x n) (hn : 1 ≤ n) (hg : g < w.heap.size) : Cp g x n j w.heap.size w' (.agg #[s, .int .i64 j]) := by
  obtain ⟨b, h1, h2, h3⟩ := h.tight hn
  exact ⟨s, b, rfl, h3, h1, h2, hg⟩
theorem Cp.le {g : Nat} {x : Nat → Nat} {n : Nat} {j : Int} {z : Nat} {w w' : World} {v : Value} (h : Cp g x n j z w v) (hl : Fk.le w w') : Cp g x n j z w' v := by
  obtain ⟨s, b, h1, h2, h3, h4, h5⟩ := h
  exact ⟨s, b, h1, h2.le hl, h3, Nat.lt_of_lt_of_le h4 hl.size, h5⟩
section
variable {g : Nat} {t : TypeId} {m : Nat} {Fin : World → Array Value → Prop} {hm : ∀ w w' cs, le w w' → Fin w cs → Fin w' cs}
theorem cp_outX {x : Nat → Nat} {n : Nat} {j : Int} {z : Nat} {w w' : World} {v : Value} (h : Cp g x n j z w v) (hw : (outX g t m Fin hm).R w w') : Cp g x n j z w' v := by
  obtain ⟨s, b, h1, h2, h3, h4, h5⟩ := h
  exact ⟨s, b, h1, own_outX h2 hw (.inl (by omega)), h3, Nat.lt_of_lt_of_le h4 hw.1.size, h5⟩
theorem two_outX {x : Nat → Nat} {nx : Nat} {y : Nat → Nat} {ny : Nat} {s u : Value} {w w' : World} (h : Two (g + 1) x nx y ny s u w) (hw : (outX g t m Fin hm).R w w') : Two (g + 1) x nx y ny s u w' := h.chg hw.1
theorem OwnS.block_eq {w w' : World} {b d : Nat} {s : Value} {x x' : Nat → Nat} {n n' : Nat} (h : OwnS w b (b + 1) s x n) (h' : OwnS w' d (d + 1) s x' n') (hn : 1 ≤ n) : b = d := by
  rcases h with ⟨_, h⟩ | ⟨b1, o, cap, cs, h1, h2, h3, h4, h5, _⟩
  · omega
  · rcases h' with ⟨e, h⟩ | ⟨b2, o', cap', cs', h1', h2', h3', h4', h5', _⟩
    · rw [h1] at e; cases e
    · rw [h1] at h1'
      simp only [Value.slice.injEq, Option.some.injEq, Addr.mk.injEq] at h1'
      omega
/-- Two copies that did not run at one time lie apart. -/
theorem Cp.two {E : Ext} {W w : World} {x y : Nat → Nat} {nx ny : Nat} {j k : Int} {s u : Value} {zs : Nat → Nat} {F : FactsZ} {p q : Nat} (hx : 1 ≤ nx) (hy : 1 ≤ ny)
    (h1 : Cp g x nx j (zs p) w (.agg #[s, .int .i64 j])) (h2 : Cp g y ny k (zs q) w (.agg #[u, .int .i64 k]))
    (hc : beforeZ E W zs F w p q ∨ beforeZ E W zs F w q p)
    (e1 : ∀ w2, F p (zs p) w2 → Cp g x nx j (zs p) w2 (.agg #[s, .int .i64 j])) (e2 : ∀ w2, F q (zs q) w2 → Cp g y ny k (zs q) w2 (.agg #[u, .int .i64 k])) : Two (g + 1) x nx y ny s u w := by
  obtain ⟨s', b, ev, o1, a1, a2, a3⟩ := h1
  obtain rfl : s = s' := by simpa using ev
  obtain ⟨u', d, eu, o2, c1, c2, c3⟩ := h2
  obtain rfl : u = u' := by simpa using eu
  refine ⟨b, d, o1, o2, ?_, by omega, a2, by omega, c2⟩
  rcases hc with ⟨w2, r1, r2, r3, r4⟩ | ⟨w2, r1, r2, r3, r4⟩
  · obtain ⟨s2, b2, ev2, p1, p2, p3, p4⟩ := e1 w2 r4
    obtain rfl : s = s2 := by simpa using ev2
    have := o1.block_eq p1 hx
    omega
  · obtain ⟨s2, b2, ev2, p1, p2, p3, p4⟩ := e2 w2 r4
    obtain rfl : u = s2 := by simpa using ev2
    have := o2.block_eq p1 hy
    omega
end
theorem RdS.chgG {w W w' : World} {B : Nat} {s : Value} {x : Nat → Nat} {n : Nat} (h : RdS w B s x n) (hl : Fk.le w W) (hc : Chg (· = w.heap.size) W w') : RdS w' B s x n := by
  rcases h with h | ⟨a, cap, h1, h2, h3, h4⟩
  · exact .inl h
  · refine .inr ⟨a, cap, h1, h2, h3, fun i hi => ?_⟩
    obtain ⟨h5, y, h6, h7⟩ := h4 i hi
    have hlt : (a.add i).block < w.heap.size := World.block_lt_of_cell? w _ h6
    exact ⟨h5, y, (cell_of_heap (hc.block _ (Nat.lt_of_lt_of_le hlt hl.size) (by omega))).trans ((Below.cell hl hlt).trans h6), h7⟩
theorem two_one {lo : Nat} {x : Nat → Nat} {nx : Nat} {y : Nat → Nat} {ny : Nat} {s t : Value} {w : World} (h : Two lo x nx y ny s t w) : s.oneCell' = true ∧ t.oneCell' = true := by
  obtain ⟨b, d, h1, h2, _⟩ := h
  exact ⟨own_one h1, own_one h2⟩
end Go.Fk

/- Two slices, as a fact of a range of blocks. Nothing here names a program. -/
namespace Go.Fk
open Go Go.RowKit
/-- Two slices, as a fact of a range of blocks. -/
def twF (lo hi : Nat) (x : Nat → Nat) (nx : Nat) (y : Nat → Nat) (ny : Nat) (s t : Value) : Fact := ⟨lo, hi, fun w => ∃ b d, OwnS w b (b + 1) s x nx ∧ OwnS w d (d + 1) t y ny ∧ b ≠ d ∧ lo ≤ b ∧ b < hi ∧ lo ≤ d ∧ d < hi, fun w w' h hk => by
  obtain ⟨b, d, h1, h2, h3, h4, h5, h6, h7⟩ := h
  exact ⟨b, d, (ownF b (b + 1) s x nx).ok w w' h1 (fun k a c => hk k (by have a' : b ≤ k := a; omega) (by have c' : k < b + 1 := c; omega)), (ownF d (d + 1) t y ny).ok w w' h2 (fun k a c => hk k (by have a' : d ≤ k := a; omega) (by have c' : k < d + 1 := c; omega)), h3, h4, h5, h6, h7⟩⟩
theorem Frg.two {w0 w w' : World} {L : List Fact} (h : Frg w0 w L) (k : Below w.heap.size w w') {x : Nat → Nat} {nx : Nat} {y : Nat → Nat} {ny : Nat} {s t : Value} (ht : Two w.heap.size x nx y ny s t w') : Frg w0 w' (twF w.heap.size w'.heap.size x nx y ny s t :: L) :=
  h.push k (e := twF w.heap.size w'.heap.size x nx y ny s t) (by obtain ⟨b, d, h1, h2, h3, h4, h5, h6, h7⟩ := ht; exact ⟨b, d, h1, h2, h3, h4, h5, h6, h7⟩) (Nat.le_refl _) (Nat.le_refl _)
theorem Two.of_own {w : World} {lo lo1 hi1 lo2 hi2 : Nat} {x : Nat → Nat} {nx : Nat} {y : Nat → Nat} {ny : Nat} {s t : Value} (h1 : OwnS w lo1 hi1 s x nx) (h2 : OwnS w lo2 hi2 t y ny) (n1 : 1 ≤ nx) (n2 : 1 ≤ ny) (ha : hi1 ≤ lo2) (hl : lo ≤ lo1) (hl2 : lo ≤ lo2) : Two lo x nx y ny s t w := by
  obtain ⟨b, a1, a2, a3⟩ := h1.tight n1
  obtain ⟨d, c1, c2, c3⟩ := h2.tight n2
  have hb : b < w.heap.size := by
    rcases a3 with ⟨_, h⟩ | ⟨b', o, cap, cs, _, _, _, e1, e2, r, _⟩
    · omega
    · have := r.lt; omega
  have hd : d < w.heap.size := by
    rcases c3 with ⟨_, h⟩ | ⟨b', o, cap, cs, _, _, _, e1, e2, r, _⟩
    · omega
    · have := r.lt; omega
  exact ⟨b, d, a3, c3, by omega, by omega, hb, by omega, hd⟩
theorem rngB_j {x : Nat → Nat} {n : Nat} {k : Int} (h : rngB x n k = true) : 1 ≤ n ∧ n ≤ 1024 ∧ ∃ j : Nat, k = j ∧ j < n := okRing_j (by unfold rngB at h; simp only [Bool.and_eq_true] at h; exact h.1)
theorem own_sameN {w w2 : World} {B B' lo hi : Nat} {s u : Value} {x x' z : Nat → Nat} {n n' : Nat} (h : RdS w B s x n) (h' : RdS w B' s x' n') (o : OwnS w2 lo hi u z n) : OwnS w2 lo hi u z n' := by
  obtain ⟨rfl, _⟩ := h.uniq h'; exact o
theorem midOf (pre mid post : List Value) (f : Nat) (hf : pre.length = f) : ∀ j, j < mid.length → (pre ++ (mid ++ post)).toArray[f + j]? = mid[j]? := by
  intro j hj
  subst hf
  simp only [List.getElem?_toArray]
  rw [List.getElem?_append_right (by omega), Nat.add_sub_cancel_left, List.getElem?_append_left hj]
theorem RdS.fits {w : World} {B : Nat} {s : Value} {x : Nat → Nat} {n k : Nat} (h : RdS w B s x n) (hk : k < n) : Fk.fits .f32 (x k) := by
  rcases h with ⟨_, h0⟩ | ⟨a, cap, _, _, _, h5⟩
  · omega
  · obtain ⟨_, y, _, f, e⟩ := h5 k hk
    rw [← e]; unfold can; split
    · simp [Fk.fits, Lit.wf, qnan]
    · exact f
end Go.Fk

/- Results of a tuning, as trees. -/
namespace Go.Fk
open Go Go.RowKit
def cdTun (b o : Nat) (x : Nat → Nat) (n : Nat) : List CD := [.flt .f32 b, .flt .f32 o, .sl 1 n (fun i => .fcn .f32 (x i))]
end Go.Fk
namespace Go.Proofs.Ytccichnnljhbdac
open Go.RowKit Go.Fk
theorem cdTun_sh (b o : Nat) (x : Nat → Nat) (n : Nat) : ShOkL shTuning (cdTun b o x n) :=
  ShOkL.cons rfl (ShOkL.cons rfl (ShOkL.cons ⟨_, _, rfl, fun i hi j hj => by obtain rfl : j = 0 := (by omega); rfl⟩ ShOkL.nil))
theorem cdTun_sz (b o : Nat) (x : Nat → Nat) (n : Nat) : szL (cdTun b o x n) = n := by
  have e1 := CD.sz_flts (n := n) (x := fun i => CD.fcn .f32 (x i)) (fun i _ => rfl)
  simp only [cdTun, szL, List.map_cons, List.map_nil, List.sum_cons, List.sum_nil, e1]
  simp [CD.sz]
theorem layTun (b o : Nat) (x : Nat → Nat) (n : Nat) {lo hi : Nat} {s : Value} {w : World} (h : OwnS w lo hi s x n) (fb : fits .f32 b) (fo : fits .f32 o) : LayL w (rng lo hi) (cdTun b o x n) [.float .f32 b, .float .f32 o, s] :=
  LayL.leaf ⟨rfl, fb⟩ (LayL.leaf ⟨rfl, fo⟩ (LayL.cons (S1 := rng lo hi) (S2 := fun _ => False) h.lay (LayL.nil _ (fun _ => False)) (fun _ h => h) (fun _ h => h.elim) (fun _ _ h => h)))
theorem layTun0 (w : World) (S : Nat → Prop) : LayL w S (cdTun 0 0 (fun _ => 0) 0) [.float .f32 0, .float .f32 0, .slice none 0 0] :=
  LayL.leaf ⟨rfl, by simp [fits, Lit.wf]⟩ (LayL.leaf ⟨rfl, by simp [fits, Lit.wf]⟩ (LayL.leaf (.inl ⟨rfl, rfl⟩) (LayL.nil _ _)))
end Go.Proofs.Ytccichnnljhbdac

/- Equal degrees: they ascend from 0, and stay below an octave. -/
namespace Go.Fk
open Go Go.RowKit
/-- The degree with an index, of so many equal ones. -/
def eqD (n i : Nat) : Nat := fop .quo .f32 (floatOfInt .f32 (1200 * (i : Int))) (floatOfInt .f32 (n : Int))
theorem eqD_ok : ∀ n : Nat, n < 32 → 1 ≤ n → degB (eqD n) n 1150681088 = true := by decide +kernel
theorem eqM : ∀ i : Nat, i < 32 → fop .mul .f32 1150681088 (floatOfInt .f32 (i : Int)) = floatOfInt .f32 (1200 * (i : Int)) := by decide +kernel
end Go.Fk

/- Filling a list, one by one. Nothing here names a program. -/
namespace Go.Fk
open Go Go.RowKit
/-- So many outputs, then the inputs. -/
def upto (j : Nat) (h z : Nat → Nat) : Nat → Nat := fun i => if i < j then h i else z i
theorem upto_zero (h z : Nat → Nat) : upto 0 h z = z := by funext i; simp [upto]
theorem upto_set (j : Nat) (h z : Nat → Nat) (r : Nat) : (fun i => if i = j then r else upto j h z i) = upto (j + 1) (fun i => if i = j then r else h i) z := by
  funext i
  unfold upto
  by_cases e : i = j
  · subst e; simp
  · by_cases l : i < j
    · simp [e, l, show i < j + 1 by omega]
    · simp [e, l, show ¬ i < j + 1 by omega]
theorem upto_full (h z : Nat → Nat) : ftab .f32 (upto 16 h z) 16 = ftab .f32 h 16 := ftab_congr (fun j hj => if_pos hj)
end Go.Fk

/- What grows by append, beside facts of memory. Nothing here names a program. -/
namespace Go.Fk
open Go Go.RowKit
theorem ownsRow_chS {S : Nat → Prop} {w w' : World} {e : TypeId} {n B : Nat} {xs : List Value} {v : Value} (hw : Chg S w w') (h : w.ownsRow B e 1 v n xs) (hS : ∀ i, S i → i < B) : w'.ownsRow B e 1 v n xs := by
  obtain ⟨h1, h2⟩ := h
  refine ⟨h1, ?_⟩
  rcases h2 with h2 | ⟨q, cap, cur, e1, e2, e3, e4⟩
  · exact .inl h2
  · exact .inr ⟨q, cap, cur, e1, e2, by have := hw.row (g := q) (t := e) (cs := cur) e3 (fun hq => by have := hS q hq; omega); exact this, e4⟩
theorem ownBlock_ge {w : World} {B : Nat} {e : TypeId} {z : Nat} {v : Value} {n : Nat} {xs : List Value} (h : w.ownsRow B e z v n xs) : ∀ k, v.ownBlock = some k → B ≤ k := by
  rcases h.2 with ⟨rfl, _⟩ | ⟨q, cap, cur, rfl, hb, _⟩
  · intro k hk; cases hk
  · intro k hk; simp only [Value.ownBlock, Option.some.injEq] at hk; omega
theorem chg_grown {w w' : World} {row : Option Nat} {B : Nat} (h : w.grownBy w' row) (hr : ∀ k, row = some k → B ≤ k) : Chg (B ≤ ·) w w' :=
  ⟨h.os, h.tape, h.output, h.size, fun k hk hn => h.block k hk (fun e => hn (hr k e.symm))⟩
theorem Frg.up {w0 w w' : World} {L : List Fact} {B : Nat} (h : Frg w0 w L) (k : Chg (B ≤ ·) w w') (hB : ∀ e ∈ L, e.hi ≤ B) (h0 : w0.heap.size ≤ B) : Frg w0 w' L :=
  ⟨h.below.trans (k.below (fun i hi => Nat.le_trans h0 hi) h.size), fun e he => by
    obtain ⟨h1, h2, h3⟩ := h.facts e he
    exact ⟨h1, Nat.le_trans h2 k.size, e.ok w w' h3 (fun i _ hi => k.block i (by omega) (fun hb => by have := hB e he; omega))⟩, h.apart⟩
theorem flist_snoc (y : Nat → Nat) (n a : Nat) : flist y n ++ [.float .f32 a] = flist (fun j => if j = n then a else y j) (n + 1) := by
  have h := flist_app y (fun _ => a) n 1
  have h1 : flist (fun _ => a) 1 = [.float .f32 a] := by simp [flist]
  rw [h1] at h
  rw [h]
  apply List.ext_getElem?
  intro i
  by_cases hi : i < n + 1
  · rw [flist_get' _ hi, flist_get' _ hi]
    by_cases e : i = n
    · simp [e]
    · simp [e, show i < n by omega]
  · rw [List.getElem?_eq_none (by rw [flist_length]; omega), List.getElem?_eq_none (by rw [flist_length]; omega)]
theorem Frg.own2 {w0 w w' : World} {L : List Fact} {q n n' : Nat} {s s' : Value} {x x' : Nat → Nat} (h : Frg w0 w L) (k : Below w.heap.size w w') (h1 : w.heap.size ≤ q) (h2 : q ≤ w'.heap.size) (o1 : OwnS w' w.heap.size q s x n) (o2 : OwnS w' q w'.heap.size s' x' n') :
    Frg w0 w' (ownF q w'.heap.size s' x' n' :: ownF w.heap.size q s x n :: L) := by
  refine ⟨(h.le k).below, fun e he => ?_, .cons (fun e he => ?_) (.cons (fun e he => (h.facts e he).2.1) h.apart)⟩
  · rcases List.mem_cons.1 he with rfl | he
    · exact ⟨Nat.le_trans h.size h1, Nat.le_refl _, o2⟩
    · rcases List.mem_cons.1 he with rfl | he
      · exact ⟨h.size, h2, o1⟩
      · exact (h.le k).facts e he
  · rcases List.mem_cons.1 he with rfl | he
    · exact Nat.le_refl q
    · exact Nat.le_trans (h.facts e he).2.1 h1
theorem m12 {b0 b1 b2 b3 b4 b5 b6 b7 b8 b9 b10 b11 a : Fact} {l : List Fact} : a ∈ b0 :: b1 :: b2 :: b3 :: b4 :: b5 :: b6 :: b7 :: b8 :: b9 :: b10 :: b11 :: a :: l := List.mem_cons_of_mem _ (List.mem_cons_of_mem _ (List.mem_cons_of_mem _ (List.mem_cons_of_mem _ (List.mem_cons_of_mem _ (List.mem_cons_of_mem _ (List.mem_cons_of_mem _ (List.mem_cons_of_mem _ (List.mem_cons_of_mem _ (List.mem_cons_of_mem _ (List.mem_cons_of_mem _ (List.mem_cons_of_mem _ (List.mem_cons_self))))))))))))
theorem m13 {b0 b1 b2 b3 b4 b5 b6 b7 b8 b9 b10 b11 b12 a : Fact} {l : List Fact} : a ∈ b0 :: b1 :: b2 :: b3 :: b4 :: b5 :: b6 :: b7 :: b8 :: b9 :: b10 :: b11 :: b12 :: a :: l := List.mem_cons_of_mem _ (List.mem_cons_of_mem _ (List.mem_cons_of_mem _ (List.mem_cons_of_mem _ (List.mem_cons_of_mem _ (List.mem_cons_of_mem _ (List.mem_cons_of_mem _ (List.mem_cons_of_mem _ (List.mem_cons_of_mem _ (List.mem_cons_of_mem _ (List.mem_cons_of_mem _ (List.mem_cons_of_mem _ (List.mem_cons_of_mem _ (List.mem_cons_self)))))))))))))
theorem m14 {b0 b1 b2 b3 b4 b5 b6 b7 b8 b9 b10 b11 b12 b13 a : Fact} {l : List Fact} : a ∈ b0 :: b1 :: b2 :: b3 :: b4 :: b5 :: b6 :: b7 :: b8 :: b9 :: b10 :: b11 :: b12 :: b13 :: a :: l := List.mem_cons_of_mem _ (List.mem_cons_of_mem _ (List.mem_cons_of_mem _ (List.mem_cons_of_mem _ (List.mem_cons_of_mem _ (List.mem_cons_of_mem _ (List.mem_cons_of_mem _ (List.mem_cons_of_mem _ (List.mem_cons_of_mem _ (List.mem_cons_of_mem _ (List.mem_cons_of_mem _ (List.mem_cons_of_mem _ (List.mem_cons_of_mem _ (List.mem_cons_of_mem _ (List.mem_cons_self))))))))))))))
theorem m15 {b0 b1 b2 b3 b4 b5 b6 b7 b8 b9 b10 b11 b12 b13 b14 a : Fact} {l : List Fact} : a ∈ b0 :: b1 :: b2 :: b3 :: b4 :: b5 :: b6 :: b7 :: b8 :: b9 :: b10 :: b11 :: b12 :: b13 :: b14 :: a :: l := List.mem_cons_of_mem _ (List.mem_cons_of_mem _ (List.mem_cons_of_mem _ (List.mem_cons_of_mem _ (List.mem_cons_of_mem _ (List.mem_cons_of_mem _ (List.mem_cons_of_mem _ (List.mem_cons_of_mem _ (List.mem_cons_of_mem _ (List.mem_cons_of_mem _ (List.mem_cons_of_mem _ (List.mem_cons_of_mem _ (List.mem_cons_of_mem _ (List.mem_cons_of_mem _ (List.mem_cons_of_mem _ (List.mem_cons_self)))))))))))))))
theorem m16 {b0 b1 b2 b3 b4 b5 b6 b7 b8 b9 b10 b11 b12 b13 b14 b15 a : Fact} {l : List Fact} : a ∈ b0 :: b1 :: b2 :: b3 :: b4 :: b5 :: b6 :: b7 :: b8 :: b9 :: b10 :: b11 :: b12 :: b13 :: b14 :: b15 :: a :: l := List.mem_cons_of_mem _ (List.mem_cons_of_mem _ (List.mem_cons_of_mem _ (List.mem_cons_of_mem _ (List.mem_cons_of_mem _ (List.mem_cons_of_mem _ (List.mem_cons_of_mem _ (List.mem_cons_of_mem _ (List.mem_cons_of_mem _ (List.mem_cons_of_mem _ (List.mem_cons_of_mem _ (List.mem_cons_of_mem _ (List.mem_cons_of_mem _ (List.mem_cons_of_mem _ (List.mem_cons_of_mem _ (List.mem_cons_of_mem _ (List.mem_cons_self))))))))))))))))
theorem m17 {b0 b1 b2 b3 b4 b5 b6 b7 b8 b9 b10 b11 b12 b13 b14 b15 b16 a : Fact} {l : List Fact} : a ∈ b0 :: b1 :: b2 :: b3 :: b4 :: b5 :: b6 :: b7 :: b8 :: b9 :: b10 :: b11 :: b12 :: b13 :: b14 :: b15 :: b16 :: a :: l := List.mem_cons_of_mem _ (List.mem_cons_of_mem _ (List.mem_cons_of_mem _ (List.mem_cons_of_mem _ (List.mem_cons_of_mem _ (List.mem_cons_of_mem _ (List.mem_cons_of_mem _ (List.mem_cons_of_mem _ (List.mem_cons_of_mem _ (List.mem_cons_of_mem _ (List.mem_cons_of_mem _ (List.mem_cons_of_mem _ (List.mem_cons_of_mem _ (List.mem_cons_of_mem _ (List.mem_cons_of_mem _ (List.mem_cons_of_mem _ (List.mem_cons_of_mem _ (List.mem_cons_self)))))))))))))))))
theorem m18 {b0 b1 b2 b3 b4 b5 b6 b7 b8 b9 b10 b11 b12 b13 b14 b15 b16 b17 a : Fact} {l : List Fact} : a ∈ b0 :: b1 :: b2 :: b3 :: b4 :: b5 :: b6 :: b7 :: b8 :: b9 :: b10 :: b11 :: b12 :: b13 :: b14 :: b15 :: b16 :: b17 :: a :: l := List.mem_cons_of_mem _ (List.mem_cons_of_mem _ (List.mem_cons_of_mem _ (List.mem_cons_of_mem _ (List.mem_cons_of_mem _ (List.mem_cons_of_mem _ (List.mem_cons_of_mem _ (List.mem_cons_of_mem _ (List.mem_cons_of_mem _ (List.mem_cons_of_mem _ (List.mem_cons_of_mem _ (List.mem_cons_of_mem _ (List.mem_cons_of_mem _ (List.mem_cons_of_mem _ (List.mem_cons_of_mem _ (List.mem_cons_of_mem _ (List.mem_cons_of_mem _ (List.mem_cons_of_mem _ (List.mem_cons_self))))))))))))))))))
theorem m19 {b0 b1 b2 b3 b4 b5 b6 b7 b8 b9 b10 b11 b12 b13 b14 b15 b16 b17 b18 a : Fact} {l : List Fact} : a ∈ b0 :: b1 :: b2 :: b3 :: b4 :: b5 :: b6 :: b7 :: b8 :: b9 :: b10 :: b11 :: b12 :: b13 :: b14 :: b15 :: b16 :: b17 :: b18 :: a :: l := List.mem_cons_of_mem _ (List.mem_cons_of_mem _ (List.mem_cons_of_mem _ (List.mem_cons_of_mem _ (List.mem_cons_of_mem _ (List.mem_cons_of_mem _ (List.mem_cons_of_mem _ (List.mem_cons_of_mem _ (List.mem_cons_of_mem _ (List.mem_cons_of_mem _ (List.mem_cons_of_mem _ (List.mem_cons_of_mem _ (List.mem_cons_of_mem _ (List.mem_cons_of_mem _ (List.mem_cons_of_mem _ (List.mem_cons_of_mem _ (List.mem_cons_of_mem _ (List.mem_cons_of_mem _ (List.mem_cons_of_mem _ (List.mem_cons_self)))))))))))))))))))
theorem Frg.mark10 {w0 w w' : World} {lo hi n : Nat} {s : Value} {x x' : Nat → Nat} {l : List Fact} {b0 b1 b2 b3 b4 b5 b6 b7 b8 b9 : Fact} (h : Frg w0 w (b0 :: b1 :: b2 :: b3 :: b4 :: b5 :: b6 :: b7 :: b8 :: b9 :: ownF lo hi s x n :: l)) (hp : OwnS w' lo hi s x' n) (k : Chg (rng lo hi) w w') : Frg w0 w' (b0 :: b1 :: b2 :: b3 :: b4 :: b5 :: b6 :: b7 :: b8 :: b9 :: ownF lo hi s x' n :: l) :=
  Frg.chg [b0, b1, b2, b3, b4, b5, b6, b7, b8, b9] (e := ownF lo hi s x n) (e' := ownF lo hi s x' n) h k hp rfl rfl
theorem Frg.mark11 {w0 w w' : World} {lo hi n : Nat} {s : Value} {x x' : Nat → Nat} {l : List Fact} {b0 b1 b2 b3 b4 b5 b6 b7 b8 b9 b10 : Fact} (h : Frg w0 w (b0 :: b1 :: b2 :: b3 :: b4 :: b5 :: b6 :: b7 :: b8 :: b9 :: b10 :: ownF lo hi s x n :: l)) (hp : OwnS w' lo hi s x' n) (k : Chg (rng lo hi) w w') : Frg w0 w' (b0 :: b1 :: b2 :: b3 :: b4 :: b5 :: b6 :: b7 :: b8 :: b9 :: b10 :: ownF lo hi s x' n :: l) :=
  Frg.chg [b0, b1, b2, b3, b4, b5, b6, b7, b8, b9, b10] (e := ownF lo hi s x n) (e' := ownF lo hi s x' n) h k hp rfl rfl
theorem Frg.mark12 {w0 w w' : World} {lo hi n : Nat} {s : Value} {x x' : Nat → Nat} {l : List Fact} {b0 b1 b2 b3 b4 b5 b6 b7 b8 b9 b10 b11 : Fact} (h : Frg w0 w (b0 :: b1 :: b2 :: b3 :: b4 :: b5 :: b6 :: b7 :: b8 :: b9 :: b10 :: b11 :: ownF lo hi s x n :: l)) (hp : OwnS w' lo hi s x' n) (k : Chg (rng lo hi) w w') : Frg w0 w' (b0 :: b1 :: b2 :: b3 :: b4 :: b5 :: b6 :: b7 :: b8 :: b9 :: b10 :: b11 :: ownF lo hi s x' n :: l) :=
  Frg.chg [b0, b1, b2, b3, b4, b5, b6, b7, b8, b9, b10, b11] (e := ownF lo hi s x n) (e' := ownF lo hi s x' n) h k hp rfl rfl
theorem Frg.mark13 {w0 w w' : World} {lo hi n : Nat} {s : Value} {x x' : Nat → Nat} {l : List Fact} {b0 b1 b2 b3 b4 b5 b6 b7 b8 b9 b10 b11 b12 : Fact} (h : Frg w0 w (b0 :: b1 :: b2 :: b3 :: b4 :: b5 :: b6 :: b7 :: b8 :: b9 :: b10 :: b11 :: b12 :: ownF lo hi s x n :: l)) (hp : OwnS w' lo hi s x' n) (k : Chg (rng lo hi) w w') : Frg w0 w' (b0 :: b1 :: b2 :: b3 :: b4 :: b5 :: b6 :: b7 :: b8 :: b9 :: b10 :: b11 :: b12 :: ownF lo hi s x' n :: l) :=
  Frg.chg [b0, b1, b2, b3, b4, b5, b6, b7, b8, b9, b10, b11, b12] (e := ownF lo hi s x n) (e' := ownF lo hi s x' n) h k hp rfl rfl
theorem Frg.mark14 {w0 w w' : World} {lo hi n : Nat} {s : Value} {x x' : Nat → Nat} {l : List Fact} {b0 b1 b2 b3 b4 b5 b6 b7 b8 b9 b10 b11 b12 b13 : Fact} (h : Frg w0 w (b0 :: b1 :: b2 :: b3 :: b4 :: b5 :: b6 :: b7 :: b8 :: b9 :: b10 :: b11 :: b12 :: b13 :: ownF lo hi s x n :: l)) (hp : OwnS w' lo hi s x' n) (k : Chg (rng lo hi) w w') : Frg w0 w' (b0 :: b1 :: b2 :: b3 :: b4 :: b5 :: b6 :: b7 :: b8 :: b9 :: b10 :: b11 :: b12 :: b13 :: ownF lo hi s x' n :: l) :=
  Frg.chg [b0, b1, b2, b3, b4, b5, b6, b7, b8, b9, b10, b11, b12, b13] (e := ownF lo hi s x n) (e' := ownF lo hi s x' n) h k hp rfl rfl
theorem Frg.mark15 {w0 w w' : World} {lo hi n : Nat} {s : Value} {x x' : Nat → Nat} {l : List Fact} {b0 b1 b2 b3 b4 b5 b6 b7 b8 b9 b10 b11 b12 b13 b14 : Fact} (h : Frg w0 w (b0 :: b1 :: b2 :: b3 :: b4 :: b5 :: b6 :: b7 :: b8 :: b9 :: b10 :: b11 :: b12 :: b13 :: b14 :: ownF lo hi s x n :: l)) (hp : OwnS w' lo hi s x' n) (k : Chg (rng lo hi) w w') : Frg w0 w' (b0 :: b1 :: b2 :: b3 :: b4 :: b5 :: b6 :: b7 :: b8 :: b9 :: b10 :: b11 :: b12 :: b13 :: b14 :: ownF lo hi s x' n :: l) :=
  Frg.chg [b0, b1, b2, b3, b4, b5, b6, b7, b8, b9, b10, b11, b12, b13, b14] (e := ownF lo hi s x n) (e' := ownF lo hi s x' n) h k hp rfl rfl
theorem Frg.mark16 {w0 w w' : World} {lo hi n : Nat} {s : Value} {x x' : Nat → Nat} {l : List Fact} {b0 b1 b2 b3 b4 b5 b6 b7 b8 b9 b10 b11 b12 b13 b14 b15 : Fact} (h : Frg w0 w (b0 :: b1 :: b2 :: b3 :: b4 :: b5 :: b6 :: b7 :: b8 :: b9 :: b10 :: b11 :: b12 :: b13 :: b14 :: b15 :: ownF lo hi s x n :: l)) (hp : OwnS w' lo hi s x' n) (k : Chg (rng lo hi) w w') : Frg w0 w' (b0 :: b1 :: b2 :: b3 :: b4 :: b5 :: b6 :: b7 :: b8 :: b9 :: b10 :: b11 :: b12 :: b13 :: b14 :: b15 :: ownF lo hi s x' n :: l) :=
  Frg.chg [b0, b1, b2, b3, b4, b5, b6, b7, b8, b9, b10, b11, b12, b13, b14, b15] (e := ownF lo hi s x n) (e' := ownF lo hi s x' n) h k hp rfl rfl
end Go.Fk

/- Copies of rings; 'PushSample' of both. -/
namespace Go.Fk
open Go Go.RowKit
section
variable {P : Program} {ops : Array Oper} {w : World} {K : FuncId → Array Value → Value → Prop} {Q : Act → Prop} {o : Oper} {rest : List Oper} {a : Act}
theorem wpLoose_nilP (hg : o.guard = none) {x : Operand} (hop : o.op = Op.nilCheck x) {ad : Addr} (hx : a.eval x = .pointer (some ad))
    (hK : wpLoose P ops (fun w' => ∃ m, w' = w.drewN m) K Q rest (a.put o.dst (.pointer (some ad)))) : wpLoose P ops (fun w' => ∃ m, w' = w.drewN m) K Q (o :: rest) a := by
  refine wpLoose_any hg (· = .pointer (some ad)) (fun n => ?_) (by rintro v rfl; exact hK)
  simp [execOp, hop, hx, within, Result.andThen]
  exact ⟨_, rfl⟩
theorem wpLoose_len (hg : o.guard = none) {x : Operand} {t : TypeId} (hop : o.op = Op.call { callee := Callee.builtin Builtin.len, args := #[x], argTypes := #[t] }) {e : TypeId} (hu : P.underlying t = some (.slice e)) {ao : Option Addr} {n c : Nat} (hx : a.eval x = .slice ao n c)
    (hK : wpLoose P ops (fun w' => ∃ m, w' = w.drewN m) K Q rest (a.put o.dst (.int .i64 n))) : wpLoose P ops (fun w' => ∃ m, w' = w.drewN m) K Q (o :: rest) a := by
  refine wpLoose_any hg (· = .int .i64 n) (fun m => ?_) (by rintro v rfl; exact hK)
  simp [execOp, hop, hx, within, Result.andThen, resolve, invoke, builtin, Builtin.len_, run_underlying hu]
  exact ⟨⟨_, rfl⟩, rfl⟩
end
/-- A ring's samples behind a push. -/
def pushX (x : Nat → Nat) (j a : Nat) : Nat → Nat := fun i => if i = j then can .f32 a else x i
def OutPu (lo hi : Nat) (s : Value) (x : Nat → Nat) (n j a g f : Nat) (t : TypeId) (cs : Array Value) (w : World) (e : Ending) (w' : World) : Prop :=
  ∃ o, e = .returned (.float .f32 o) ∧ can .f32 o = x j ∧ fits .f32 o ∧ Row w' g t (cs.setIfInBounds (f + 1) (.int .i64 (((j + 1) % n : Nat) : Int))) ∧ OwnS w' lo hi s (pushX x j a) n ∧ Chg (fun i => i = g ∨ lo ≤ i ∧ i < hi) w w'
theorem own_set {w : World} {lo hi b o cap n : Nat} {ds : Array Value} {x : Nat → Nat} (j a : Nat) (hr : Row w b 22 (ds.setIfInBounds (o + j) (.float .f32 a))) (hc : n ≤ cap) (hm : cap ≤ maxLen) (hb : lo ≤ b) (hb' : b < hi) (hj : o + j < ds.size) (ha : fits .f32 a)
    (hx : ∀ i, i < n → ∃ y, ds[o + i]? = some (.float .f32 y) ∧ fits .f32 y ∧ can .f32 y = x i) : OwnS w lo hi (.slice (some ⟨b, o, none⟩) n cap) (pushX x j a) n := by
  refine .inr ⟨b, o, cap, _, rfl, hc, hm, hb, hb', hr, fun i hi' => ?_⟩
  by_cases e : i = j
  · subst e
    exact ⟨a, by rw [Array.getElem?_setIfInBounds_self_of_lt hj], ha, by simp [pushX]⟩
  · obtain ⟨y, e1, e2, e3⟩ := hx i hi'
    exact ⟨y, by rw [Array.getElem?_setIfInBounds_ne (by omega)]; exact e1, e2, by simp [pushX, e, e3]⟩
end Go.Fk
namespace Go.Proofs.Ytccichnnljhbdac
open Go.RowKit Go.Fk
theorem kindF : ∀ w : World, (isAgg 23).run Try.prog w = .ok false w := fun w => by kernel_rfl
theorem kindI : ∀ w : World, (isAgg 2).run Try.prog w = .ok false w := fun w => by kernel_rfl
end Go.Proofs.Ytccichnnljhbdac

/- Cells of slices that one may write. Nothing here names a program. -/
namespace Go.Fk
open Go Go.RowKit
theorem OwnS.form {w : World} {lo hi n : Nat} {s : Value} {x : Nat → Nat} (h : OwnS w lo hi s x n) (hn : 1 ≤ n) : ∃ b o cap, s = .slice (some ⟨b, o, none⟩) n cap ∧ n ≤ cap ∧ cap ≤ maxLen ∧ lo ≤ b ∧ b < hi := by
  rcases h with ⟨_, rfl⟩ | ⟨b, o, cap, cs, h1, h2, h3, h4, h5, _⟩
  · omega
  · exact ⟨b, o, cap, h1, h2, h3, h4, h5⟩
theorem OwnS.at {w : World} {lo hi b o n cap : Nat} {x : Nat → Nat} (h : OwnS w lo hi (.slice (some ⟨b, o, none⟩) n cap) x n) {i : Nat} (hi' : i < n) : ∃ y, w.cell? ⟨b, o + i, none⟩ = some (.float .f32 y) ∧ w.frozen? ⟨b, o + i, none⟩ = false ∧ fits .f32 y ∧ can .f32 y = x i := by
  rcases h with ⟨h0, _⟩ | ⟨b', o', cap', cs, h1, h2, h3, h4, h5, h6, h7⟩
  · cases h0
  · simp only [Value.slice.injEq, Option.some.injEq, Addr.mk.injEq, and_true, true_and] at h1
    obtain ⟨⟨rfl, rfl⟩, rfl⟩ := h1
    obtain ⟨y, e1, e2, e3⟩ := h7 i hi'
    exact ⟨y, (h6.cell? (o + i)).trans e1, h6.frozen (o + i), e2, e3⟩
theorem OwnS.set {w : World} {lo hi b o n cap : Nat} {x : Nat → Nat} (h : OwnS w lo hi (.slice (some ⟨b, o, none⟩) n cap) x n) {i a : Nat} (hi' : i < n) (ha : fits .f32 a) :
    OwnS (w.setCell ⟨b, o + i, none⟩ (.float .f32 a)) lo hi (.slice (some ⟨b, o, none⟩) n cap) (pushX x i a) n ∧ Chg (rng lo hi) w (w.setCell ⟨b, o + i, none⟩ (.float .f32 a)) := by
  rcases h with ⟨h0, _⟩ | ⟨b', o', cap', cs, h1, h2, h3, h4, h5, h6, h7⟩
  · cases h0
  · simp only [Value.slice.injEq, Option.some.injEq, Addr.mk.injEq, and_true, true_and] at h1
    obtain ⟨⟨rfl, rfl⟩, rfl⟩ := h1
    refine ⟨.inr ⟨b, o, cap, cs.setIfInBounds (o + i) (.float .f32 a), rfl, h2, h3, h4, h5, h6.set _ _, fun j hj => ?_⟩, (Chg.refl _ _).setCell (a := ⟨b, o + i, none⟩) ⟨h4, h5⟩ _⟩
    obtain ⟨y0, e0, _⟩ := h7 i hi'
    have hlt : o + i < cs.size := (Array.getElem?_eq_some_iff.1 e0).1
    by_cases e : j = i
    · subst e
      exact ⟨a, by simp [hlt], ha, by simp [pushX]⟩
    · obtain ⟨y, e1, e2, e3⟩ := h7 j hj
      exact ⟨y, by rw [Array.getElem?_setIfInBounds_ne (by omega)]; exact e1, e2, by simp [pushX, e, e3]⟩
namespace Frg
variable {w0 w w' : World}
theorem chg0 {e e' : Fact} {post : List Fact} (h : Frg w0 w (e :: post)) (k : Chg (rng e.lo e.hi) w w') (hp : e'.p w') (h1 : e'.lo = e.lo) (h2 : e'.hi = e.hi) : Frg w0 w' (e' :: post) := chg [] h k hp h1 h2
theorem chg1 {b0 e e' : Fact} {post : List Fact} (h : Frg w0 w (b0 :: e :: post)) (k : Chg (rng e.lo e.hi) w w') (hp : e'.p w') (h1 : e'.lo = e.lo) (h2 : e'.hi = e.hi) : Frg w0 w' (b0 :: e' :: post) := chg [b0] h k hp h1 h2
end Frg
/-- The first k samples are 0. -/
def zeroTo (k : Nat) (x : Nat → Nat) : Nat → Nat := fun i => if i < k then 0 else x i
theorem zeroTo_0 (x : Nat → Nat) : zeroTo 0 x = x := by funext i; simp [zeroTo]
theorem zeroTo_s (k : Nat) (x : Nat → Nat) : pushX (zeroTo k x) k 0 = zeroTo (k + 1) x := by
  funext i
  unfold pushX zeroTo
  by_cases e : i = k
  · subst e; simp; decide
  · by_cases l : i < k
    · simp [e, l, show i < k + 1 by omega]
    · simp [e, l, show ¬ i < k + 1 by omega]
end Go.Fk

/- Regions that draw: a new row, the length of a slice. Nothing here names a program. -/
namespace Go.Fk
open Go Go.RowKit
section
variable {P : Program} {ops : Array Oper} {W : World} {K : FuncId → Array Value → World → Value → Prop} {Q : Act → World → Prop} {F : World → Prop} {o : Oper} {rest : List Oper} {a : Act}
/-- A new row is made. -/
theorem wpFree_made (hg : o.guard = none) (f : Nat → Value) (t : TypeId) (cs : Array Value)
    (hr : ∀ w, (execOp a.eval o).run P w = .ok (.value (f w.heap.size)) (w.alloc (.cells cs t)))
    (h : ∀ b, W.heap.size ≤ b → wpFree P ops W K Q rest (a.put o.dst (f b)) (fun w => F w ∧ ∃ b', f b = f b' ∧ W.heap.size ≤ b' ∧ Row w b' t cs)) : wpFree P ops W K Q (o :: rest) a F := by
  refine ⟨fun w v => ∃ b, v = f b ∧ W.heap.size ≤ b ∧ Row w b t cs, ⟨fun v w w' hl h => ?_, .inl ⟨by simp [Region.wanted, hg], fun w hw => ?_⟩⟩, fun v hv => ?_⟩
  · obtain ⟨b, e, h1, h2⟩ := h; exact ⟨b, e, h1, h2.le hl⟩
  · rw [hr]
    exact ⟨le_alloc w _, w.heap.size, rfl, Below.size hw, Row.new w t cs⟩
  · obtain ⟨w, _, b, rfl, hb, _⟩ := hv
    exact h b hb
theorem wpFree_len (hg : o.guard = none) {x : Operand} {t : TypeId} (hop : o.op = Op.call { callee := Callee.builtin Builtin.len, args := #[x], argTypes := #[t] }) {e : TypeId} (hu : P.underlying t = some (.slice e)) {ao : Option Addr} {n c : Nat} (hx : a.eval x = .slice ao n c)
    (h : wpFree P ops W K Q rest (a.put o.dst (.int .i64 n)) F) : wpFree P ops W K Q (o :: rest) a F := by
  refine wpFree_one hg (.int .i64 n) (fun w _ => ?_) h
  simp [execOp, hop, hx, Result.andThen, resolve, invoke, builtin, Builtin.len_, run_underlying hu]
  rfl
end
end Go.Fk

/- Muted rings: '(Ring).muted' of the program, 'l05Muted' of the model. -/
namespace Go.Proofs.Ytccichnnljhbdac
open Go.RowKit Go.Fk
theorem own_zero {w : World} {b n lo hi : Nat} (h : Row w b 22 (ftab .f32 (fun _ => 0) n)) (hn : n ≤ 1024) (hlo : lo ≤ b) (hhi : b < hi) : OwnS w lo hi (.slice (some ⟨b, 0, none⟩) n n) (fun _ => 0) n :=
  .inr ⟨b, 0, n, _, rfl, Nat.le_refl _, by unfold maxLen; omega, hlo, hhi, h, fun i hi => ⟨0, by rw [Nat.zero_add]; exact get_ftab .f32 (fun _ => 0) n i hi, by simp [fits, Lit.wf], show can .f32 0 = 0 by decide⟩⟩
end Go.Proofs.Ytccichnnljhbdac

/- 'BreathRamp' of both; 'between'. -/
namespace Go.Fk
open Go Go.RowKit
/-- A number that lies behind a share of the way. -/
def betwV (p q s : Nat) : Nat := fop .add .f32 p (fop .mul .f32 (fop .sub .f32 q p) s)
theorem betw_of {p q s d m r : Nat} (hd : can .f32 d = fop .sub .f32 q p) (hm : can .f32 m = fop .mul .f32 d s) (hr : can .f32 r = fop .add .f32 p m) : can .f32 r = betwV p q s := by
  rw [hr, betwV]
  refine fop_congr rfl (hm.trans ?_)
  rw [can_fop]
  exact fop_congr (hd.trans (can_fop _ _ _ _).symm) rfl
theorem betw_congr {p q s s' : Nat} (h : can .f32 s = can .f32 s') : betwV p q s = betwV p q s' := fop_congr rfl (by rw [can_fop, can_fop]; exact fop_congr rfl h)
def OutFd (v : Nat) (w : World) (e : Ending) (w' : World) : Prop := ∃ y, e = .returned (.float .f32 y) ∧ can .f32 y = v ∧ fits .f32 y ∧ ∃ n, w' = w.drewN n
theorem ownsRow_drewN {w : World} {e : TypeId} {n B : Nat} {xs : List Value} {v : Value} (h : w.ownsRow B e 1 v n xs) (m : Nat) : (w.drewN m).ownsRow B e 1 v n xs := ownsRow_chS (S := fun _ => False) (Chg.of_le (le_drewN w m)) h (fun _ k => k.elim)
def rampV (p q K j : Nat) : Nat := betwV p q (fop .quo .f32 (floatOfInt .f32 (j : Int)) (floatOfInt .f32 (K : Int)))
end Go.Fk
namespace Go.Proofs.Ytccichnnljhbdac
open Go.RowKit Go.Fk
end Go.Proofs.Ytccichnnljhbdac

/- 'EqualTuning' of both. -/
namespace Go.Fk
open Go Go.RowKit
end Go.Fk
namespace Go.Proofs.Ytccichnnljhbdac
open Go.RowKit Go.Fk
set_option maxRecDepth 100000 in
set_option maxHeartbeats 4000000 in
theorem i_onlyValid_no (b o : Nat) (x : Nat → Nat) (n : Nat) (B : Nat) (s : Value) (w : World) (hs : (slT x n).RdN w B s) (c : Int) (h : okT b o x n = false) : Calls Try.prog 17 #[.agg #[.float .f32 b, .float .f32 o, s], .int .i64 c] w fun e w' => e = .returned (.tuple #[.agg #[.float .f32 0, .float .f32 0, .slice none 0 0], .int .i64 c]) ∧ le w w' := by
  have HV := hid (fun (w' : World) (hl : le w w') => i_ValidTuning b o x n B s w' (hs.le hl))
  rw [h] at HV
  clear h hs
  have F := ((Frg.nil w).box 27 #[.float .f32 b, .float .f32 o, s]).box 27 #[.float .f32 0, .float .f32 0, .slice none 0 0]
  simp only [World.size_alloc] at F
  go_enter Try.func17, Try.ntmps17
  go_wp2_with (first | ((with_reducible refine at_loadU (ty := 27) rfl rfl ?_); (with_reducible refine wpList_loadG F rfl rfl rfl m1 Try.underlying27 rfl uinfoTuningI rfl ?_)) | (go_at_call 28; ((with_reducible refine (HV.out _ F.below).mono ?_); rintro e w1 ⟨rfl, hl⟩; replace F := F.le hl; clear hl)) | (with_reducible refine stop_store (ty := 27) rfl ?_))
  show wpList _ _ _ _ _ _
  refine wpList_storeD rfl rfl rfl (cells := #[.float .f32 0, .float .f32 0, .slice none 0 0]) rfl (F.row m0) uinfoTuningI rfl (by simp [Value.oneCell']) (fun w4 K => ?_)
  have R := hid K.row
  have L := hid (F.wr0 K).below
  clear K F
  go_wp2
  exact bodyPost_ret (results_row2 rfl _ _ _ _ _ rfl R.out Try.underlying27 rfl uinfoTuningI) rfl ⟨rfl, L.out⟩
set_option maxRecDepth 100000 in
set_option maxHeartbeats 4000000 in
theorem i_onlyValid_yes (b o : Nat) (x : Nat → Nat) (n : Nat) (B : Nat) (s : Value) (w : World) (hs : (slT x n).RdN w B s) (c : Int) (h : okT b o x n = true) : Calls Try.prog 17 #[.agg #[.float .f32 b, .float .f32 o, s], .int .i64 c] w fun e w' => e = .returned (.tuple #[.agg #[.float .f32 b, .float .f32 o, s], .int .i64 0]) ∧ le w w' := by
  have HV := hid (fun (w' : World) (hl : le w w') => i_ValidTuning b o x n B s w' (hs.le hl))
  rw [h] at HV
  have hs1 := (slT_rds hs).one
  clear h hs
  have F := ((Frg.nil w).box 27 #[.float .f32 b, .float .f32 o, s]).box 27 #[.float .f32 0, .float .f32 0, .slice none 0 0]
  simp only [World.size_alloc] at F
  go_enter Try.func17, Try.ntmps17
  go_wp2_with (first | ((with_reducible refine at_loadU (ty := 27) rfl rfl ?_); (with_reducible refine wpList_loadG F rfl rfl rfl m1 Try.underlying27 rfl uinfoTuningI rfl ?_)) | (go_at_call 28; ((with_reducible refine (HV.out _ F.below).mono ?_); rintro e w1 ⟨rfl, hl⟩; replace F := F.le hl; clear hl)) | (with_reducible refine stop_store (ty := 27) rfl ?_))
  show wpList _ _ _ _ _ _
  refine wpList_storeD rfl rfl rfl (cells := #[.float .f32 b, .float .f32 o, s]) rfl (F.row m0) uinfoTuningI rfl (by (simp only [List.all_toArray', List.all_cons, List.all_nil, Bool.and_true, hs1]) <;> rfl) (fun w4 K => ?_)
  have R := hid K.row
  have L := hid (F.wr0 K).below
  clear K F
  go_wp2
  exact bodyPost_ret (results_row2 rfl _ _ _ _ _ rfl R.out Try.underlying27 rfl uinfoTuningI) rfl ⟨rfl, L.out⟩
theorem ownsRow_wr {w w' : World} {B : Nat} {e : TypeId} {v : Value} {n g : Nat} {xs : List Value} {t : TypeId} {cs : Array Value} (h : w.ownsRow B e 1 v n xs) (k : Wrote w w' g t cs) (hg : g < B) : w'.ownsRow B e 1 v n xs := by
  obtain ⟨a, h⟩ := h
  rcases h with h | ⟨g', cap, cur, rfl, hb, hr, h1, h2, h3, h4⟩
  · exact ⟨a, .inl h⟩
  · exact ⟨a, .inr ⟨g', cap, cur, rfl, hb, k.other g' _ _ (by omega) hr, h1, h2, h3, h4⟩⟩
end Go.Proofs.Ytccichnnljhbdac

/- As FreeD, where one operation (with the index c) may write what all others leave as it is: it comes up but once. Nothing here names a program. -/
namespace Go.Fk
open Go Go.RowKit
section
variable (E0 E1 : Ext) (c : Nat) (Vc : World → Value → Prop) (P : Program) (ops : Array Oper) (md : Region.Mode) (W : World) (K : FuncId → Array Value → World → Value → Prop)
def preE (i : Nat) : Ext := if i = c then E0 else E1
def stepE (i : Nat) : Ext := if i = c then E1 else E0
def YieldsP (i : Nat) (o : Oper) (a : Act) (F : Facts) (V : World → Value → Prop) : Prop :=
  MonoT E1 V ∧ (i = c → V = Vc) ∧ ((Region.wanted o (yielded ops a.tmps) = true ∧ ∀ w, (preE E0 E1 c i).R W w → behind md o F w → insideT (stepE E0 E1 c i) P K w V ((execOp a.eval o).run P w)) ∨ (i ≠ c ∧ Region.wanted o (yielded ops a.tmps) = false ∧ ∀ w, E1.R W w → behind md o F w → V w undef))
def wpFreeP (Q : Act → World → Prop) : List Oper → Nat → Act → Facts → Prop
  | [], _, a, F => ∀ w, E1.R W w → (∀ e, F e w) → Q a w
  | o :: rest, k, a, F => ∃ V, YieldsP E0 E1 c Vc P ops md W K k o a F V ∧ ∀ v, met E1 W F (fun w => V w v) → wpFreeP Q rest (k + 1) (a.put o.dst v) (F.with k (fun w => V w v))
def anyFreeP (n : Nat) (L : Array Bool → Act → Facts → Prop) : Nat → Array Bool → Act → Facts → Prop
  | 0, listed, a, F => L listed a F
  | f + 1, listed, a, F => Region.ready md ops listed ≠ [] ∧
      ∀ i ∈ Region.ready md ops listed, i < n ∧ ∀ o, ops[i]? = some o → ∃ V, YieldsP E0 E1 c Vc P ops md W K i o a F V ∧ ∀ v, met E1 W F (fun w => V w v) → anyFreeP n L f (listed.setIfInBounds i true) (a.put o.dst v) (F.with i (fun w => V w v))
end
section
variable {E0 E1 : Ext} {c : Nat} {Vc : World → Value → Prop} {P : Program} {ops : Array Oper} {md : Region.Mode} {W : World} {K : FuncId → Array Value → World → Value → Prop}
theorem stepE_sub (hs : ∀ w w', E0.R w w' → E1.R w w') {i : Nat} {w w' : World} (h : (stepE E0 E1 c i).R w w') : E1.R w w' := by
  unfold stepE at h
  split at h
  · exact h
  · exact hs _ _ h
theorem YieldsP.some (hs : ∀ w w', E0.R w w' → E1.R w w') (hVc : ∀ w, E1.R W w → ∃ v w', E1.R w w' ∧ Vc w' v) {i : Nat} {o : Oper} {a : Act} {F : Facts} {V : World → Value → Prop} (hm : FMono E1 F) (hx : met E1 W F (fun _ => True)) (h : YieldsP E0 E1 c Vc P ops md W K i o a F V) : ∃ v, met E1 W F (fun w => V w v) := by
  obtain ⟨w, hw, hF, _⟩ := hx
  by_cases e : i = c
  · obtain ⟨v, w', hl, hv⟩ := hVc w hw
    exact ⟨v, w', E1.trans hw hl, hm w w' hl hF, by rw [h.2.1 e]; exact hv⟩
  · rcases h.2.2 with ⟨_, h⟩ | ⟨_, _, h⟩
    · obtain ⟨v, w', hl, hv⟩ := insideT_some (h w (by unfold preE; rw [if_neg e]; exact hw) (fun e _ _ => hF e.on))
      have hl' := stepE_sub hs hl
      exact ⟨v, w', E1.trans hw hl', hm w w' hl' hF, hv⟩
    · exact ⟨undef, w, hw, hF, h w hw (fun e _ _ => hF e.on)⟩
theorem YieldsP.same {i : Nat} {o : Oper} {a a' : Act} {F : Facts} {V : World → Value → Prop} (he : execOp a'.eval o = execOp a.eval o) (hw : Region.wanted o (yielded ops a'.tmps) = Region.wanted o (yielded ops a.tmps))
    (h : YieldsP E0 E1 c Vc P ops md W K i o a F V) : YieldsP E0 E1 c Vc P ops md W K i o a' F V := by
  unfold YieldsP at *; rw [he, hw]; exact h
theorem YieldsP.less {j : Nat} {o : Oper} {a : Act} {F : Facts} {i : Nat} {X : World → Prop} {V : World → Value → Prop} (hn : ∀ e ∈ o.after, Region.binds md e = true → e.on ≠ i) (h : YieldsP E0 E1 c Vc P ops md W K j o a (F.with i X) V) : YieldsP E0 E1 c Vc P ops md W K j o a F V := by
  have key : ∀ w, behind md o F w → behind md o (F.with i X) w := fun w hw e he hb => ⟨hw e he hb, fun h => absurd h (hn e he hb)⟩
  refine ⟨h.1, h.2.1, ?_⟩
  rcases h.2.2 with ⟨h1, h2⟩ | ⟨h0, h1, h2⟩
  · exact .inl ⟨h1, fun w hw hb => h2 w hw (key w hb)⟩
  · exact .inr ⟨h0, h1, fun w hw hb => h2 w hw (key w hb)⟩
theorem YieldsP.stronger {j : Nat} {o : Oper} {a : Act} {F F' : Facts} {V : World → Value → Prop} (hF : ∀ e w, F' e w → F e w) (h : YieldsP E0 E1 c Vc P ops md W K j o a F V) : YieldsP E0 E1 c Vc P ops md W K j o a F' V := by
  have key : ∀ w, behind md o F' w → behind md o F w := fun w hw e he hb => hF _ _ (hw e he hb)
  refine ⟨h.1, h.2.1, ?_⟩
  rcases h.2.2 with ⟨h1, h2⟩ | ⟨h0, h1, h2⟩
  · exact .inl ⟨h1, fun w hw hb => h2 w hw (key w hb)⟩
  · exact .inr ⟨h0, h1, fun w hw hb => h2 w hw (key w hb)⟩
theorem YieldsP.more {j : Nat} {o : Oper} {a : Act} {F : Facts} {i : Nat} {X : World → Prop} {V : World → Value → Prop} (h : YieldsP E0 E1 c Vc P ops md W K j o a F V) : YieldsP E0 E1 c Vc P ops md W K j o a (F.with i X) V := h.stronger (fun _ _ h => h.1)
theorem insideT_mono {E E' : Ext} (hE : ∀ w w', E.R w w' → E'.R w w') {V : World → Value → Prop} {w : World} {r : Result Next} (h : insideT E P K w V r) : insideT E' P K w V r := by
  cases r with
  | ok n w' =>
    cases n <;> simp only [insideT] at h ⊢
    case value u => exact ⟨hE _ _ h.1, h.2⟩
    case skip => exact ⟨hE _ _ h.1, h.2⟩
    case enter f args => exact ⟨hE _ _ h.1, h.2.1.mono (fun e w'' ⟨v, e1, e2, e3⟩ => ⟨v, e1, hE _ _ e2, e3⟩), h.2.2⟩
  | halt x w' => simp only [insideT] at h
theorem wpOp_yieldsP {i : Nat} {o : Oper} {a : Act} {w : World} {F : Facts} {V : World → Value → Prop} {next : Act → World → Prop} {Q' : Exit → Act → World → Prop} (ho : ops[i]? = some o) (hw1 : E1.R W w) (hw : (preE E0 E1 c i).R W w) (hF : ∀ e, F e w) (hg : YieldsP E0 E1 c Vc P ops md W K i o a F V)
    (hn : ∀ v w', (stepE E0 E1 c i).R w w' → V w' v → next (a.put o.dst v) w') : wpOp P ops Q' i next a w := by
  unfold wpOp
  simp only [ho]
  rcases hg.2.2 with ⟨hwant, hv⟩ | ⟨_, hwant, hv⟩
  · rw [if_pos hwant]
    left
    have h3 := hv w hw (fun e _ _ => hF e.on)
    unfold Oper.wp
    generalize (execOp a.eval o).run P w = r at h3
    cases r with
    | ok x w' =>
      cases x <;> simp only [insideT] at h3 <;> simp only [Oper.upon]
      case value u => exact hn u _ h3.1 h3.2
      case skip => exact hn undef _ h3.1 h3.2
      case enter f args =>
        refine h3.2.1.mono fun e w'' he => ?_
        obtain ⟨v, rfl, hl, hk⟩ := he
        exact hn v _ ((stepE E0 E1 c i).trans h3.1 hl) (h3.2.2 w'' v hk)
    | halt x w' => simp only [insideT] at h3
  · rw [if_neg (by simp [hwant])]
    exact hn undef _ ((stepE E0 E1 c i).refl w) (hv w hw1 (fun e _ _ => hF e.on))
theorem anyFreeP_sound (hs : ∀ w w', E0.R w w' → E1.R w w') {n g : Nat} {L : Array Bool → Act → Facts → Prop} {Q' : Exit → Act → World → Prop} (hL : ∀ listed a F w, E1.R W w → (∀ e, F e w) → L listed a F → wpAny P md ops Q' g listed a w) :
    ∀ (f : Nat) (listed : Array Bool) (a : Act) (F : Facts) (w : World), FMono E1 F → E1.R W w → (listed.getD c true = false → E0.R W w) → (∀ e, F e w) → anyFreeP E0 E1 c Vc P ops md W K n L f listed a F → wpAny P md ops Q' (f + g) listed a w := by
  intro f
  induction f with
  | zero => intro listed a F w _ hw _ hF h; rw [Nat.zero_add]; exact hL _ _ _ _ hw hF h
  | succ f ih =>
    intro listed a F w hm hw hph hF h
    rw [show f + 1 + g = (f + g) + 1 by omega]
    refine ⟨fun h0 => absurd h0 h.1, fun i hi => ?_⟩
    obtain ⟨hun, o, ho, _⟩ := mem_ready.1 hi
    obtain ⟨V, hg, hn⟩ := (h.2 i hi).2 o ho
    have hpre : (preE E0 E1 c i).R W w := by
      unfold preE
      split
      · next e => subst e; exact hph hun
      · exact hw
    refine wpOp_yieldsP ho hw hpre hF hg (fun v w' hl hv => ih _ _ _ _ (hm.with hg.1 i v) (E1.trans hw (stepE_sub hs hl)) (fun hc => ?_) (Facts.with_mk (hm w w' (stepE_sub hs hl) hF) hv) (hn v ⟨w', E1.trans hw (stepE_sub hs hl), hm w w' (stepE_sub hs hl) hF, hv⟩))
    by_cases e : i = c
    · subst e
      have hlt : i < listed.size := by
        apply Nat.lt_of_not_le
        intro hle
        simp [Array.getD, Nat.not_lt.2 hle] at hun
      simp [Array.getD, hlt] at hc
    · rw [getD_set_ne true e] at hc
      unfold stepE at hl
      rw [if_neg e] at hl
      exact E0.trans (hph hc) hl
theorem anyFreeP_weaken {n : Nat} {L : Array Bool → Act → Facts → Prop} (hLm : ∀ listed a F F', (∀ e w, F' e w → F e w) → L listed a F → L listed a F') :
    ∀ (f : Nat) (listed : Array Bool) (a : Act) (F F' : Facts), (∀ e w, F' e w → F e w) → anyFreeP E0 E1 c Vc P ops md W K n L f listed a F → anyFreeP E0 E1 c Vc P ops md W K n L f listed a F' := by
  intro f
  induction f with
  | zero => intro listed a F F' h hh; exact hLm _ _ _ _ h hh
  | succ f ih =>
    intro listed a F F' h hh
    refine ⟨hh.1, fun i hi => ⟨(hh.2 i hi).1, fun o ho => ?_⟩⟩
    obtain ⟨V, hg, hn⟩ := (hh.2 i hi).2 o ho
    exact ⟨V, hg.stronger h, fun v hv => ih _ _ _ _ (fun e w hw => ⟨h e w hw.1, hw.2⟩) (hn v (hv.weaken (fun w hw e => h e w (hw e))))⟩
theorem anyFreeP_first (hs : ∀ w w', E0.R w w' → E1.R w w') (hVc : ∀ w, E1.R W w → ∃ v w', E1.R w w' ∧ Vc w' v) {n i : Nat} {oi : Oper} {V : World → Value → Prop} {L : Array Bool → Act → Facts → Prop} (hi : ops[i]? = some oi) (hsel : ∀ (j : Nat) (o : Oper) cs b, ops[j]? = some o → o.op ≠ .select cs b)
    (hbound : ∀ listed i, HeadInv md ops n listed → i < n → listed.getD i true = false → ∀ j ∈ Region.ready md ops listed, j < n) (hin : i < n)
    (hdone : ∀ listed a F, L listed a F → ∀ j ∈ Region.ready md ops listed, n ≤ j) (hLm : ∀ listed a F F', (∀ e w, F' e w → F e w) → L listed a F → L listed a F') :
    ∀ (f : Nat) (listed : Array Bool) (a : Act) (F : Facts), HeadInv md ops n listed →
      (∀ j oj, ops[j]? = some oj → j ≠ i → listed.getD j true = false → (∀ e ∈ oj.after, Region.binds md e = true → e.on ≠ i) → oi.apart ops oj = true) →
      i ∈ Region.ready md ops listed → FMono E1 F → met E1 W F (fun _ => True) → YieldsP E0 E1 c Vc P ops md W K i oi a F V →
      (∀ v, met E1 W F (fun w => V w v) → anyFreeP E0 E1 c Vc P ops md W K n L f (listed.setIfInBounds i true) (a.put oi.dst v) (F.with i (fun w => V w v))) → anyFreeP E0 E1 c Vc P ops md W K n L (f + 1) listed a F := by
  intro f
  induction f with
  | zero =>
    intro listed a F inv _ hr hm hx hg H
    have hun := (mem_ready.1 hr).1
    refine ⟨fun h => (by rw [h] at hr; cases hr), fun j hj => ?_⟩
    have hjn := hbound listed i inv hin hun j hj
    refine ⟨hjn, fun o ho => ?_⟩
    by_cases hji : j = i
    · subst hji
      rw [hi] at ho; cases ho
      exact ⟨V, hg, H⟩
    · obtain ⟨v, hv⟩ := hg.some hs hVc hm hx
      have := hdone _ _ _ (H v hv) j (ready_mono hj hji)
      omega
  | succ f ih =>
    intro listed a F inv hfree hr hm hx hg H
    have hun := (mem_ready.1 hr).1
    refine ⟨fun h => (by rw [h] at hr; cases hr), fun j hj => ?_⟩
    have hjn := hbound listed i inv hin hun j hj
    refine ⟨hjn, fun o ho => ?_⟩
    by_cases hji : j = i
    · subst hji
      rw [hi] at ho; cases ho
      exact ⟨V, hg, H⟩
    · obtain ⟨hjun, oj, hoj, hall⟩ := mem_ready.1 hj
      rw [ho] at hoj; cases hoj
      have hnot : ∀ e ∈ o.after, Region.binds md e = true → e.on ≠ i := fun e he hb heq => by
        have h1 := hall e he hb
        rw [heq, getD_both hun] at h1
        cases h1
      have hap := hfree j o ho hji hjun hnot
      obtain ⟨a1, a2, a3⟩ := Oper.apart_spec hap
      have hsi := fun cs b => hsel i oi cs b hi
      have hsj := fun cs b => hsel j o cs b ho
      have hU : ∀ v : {v // met E1 W F (fun w => V w v)}, ∃ U, YieldsP E0 E1 c Vc P ops md W K j o (a.put oi.dst v.1) (F.with i (fun w => V w v.1)) U ∧ ∀ u, met E1 W (F.with i (fun w => V w v.1)) (fun w => U w u) →
          anyFreeP E0 E1 c Vc P ops md W K n L f ((listed.setIfInBounds i true).setIfInBounds j true) ((a.put oi.dst v.1).put o.dst u) ((F.with i (fun w => V w v.1)).with j (fun w => U w u)) :=
        fun v => ((H v.1 v.2).2 j (ready_mono hj hji)).2 o ho
      obtain ⟨U, hU⟩ := Classical.skolem.1 hU
      obtain ⟨v0, hv0⟩ := hg.some hs hVc hm hx
      have hone : ∀ v, YieldsP E0 E1 c Vc P ops md W K j o a F (U v) := fun v => ((hU v).1.same (execOp_put o hsj a oi.dst v.1 a1).symm (wanted_put o a oi.dst v.1 a1).symm).less hnot
      have hgood : YieldsP E0 E1 c Vc P ops md W K j o a F (fun w u => ∀ v, U v w u) := by
        refine ⟨fun u w w' hl h v => (hone v).1 u w w' hl (h v), fun e => ?_, ?_⟩
        · funext w u
          exact propext ⟨fun h => by have := h ⟨v0, hv0⟩; rw [(hone ⟨v0, hv0⟩).2.1 e] at this; exact this, fun h v => by rw [(hone v).2.1 e]; exact h⟩
        by_cases hw : Region.wanted o (yielded ops a.tmps) = true
        · refine .inl ⟨hw, fun w hw' hb => inside_allT ⟨⟨v0, hv0⟩, trivial⟩ (fun v => ?_)⟩
          rcases (hone v).2.2 with ⟨_, h3⟩ | ⟨_, h3, _⟩
          · exact h3 w hw' hb
          · rw [hw] at h3; cases h3
        · have hne : j ≠ c := by
            rcases (hone ⟨v0, hv0⟩).2.2 with ⟨h3, _⟩ | ⟨h3, _, _⟩
            · exact absurd h3 hw
            · exact h3
          refine .inr ⟨hne, by simpa using hw, fun w hw' hb v => ?_⟩
          rcases (hone v).2.2 with ⟨h3, _⟩ | ⟨_, _, h3⟩
          · exact absurd h3 hw
          · exact h3 w hw' hb
      refine ⟨_, hgood, ?_⟩
      intro u hu
      have hfree' : ∀ k ok, ops[k]? = some ok → k ≠ i → (listed.setIfInBounds j true).getD k true = false →
          (∀ e ∈ ok.after, Region.binds md e = true → e.on ≠ i) → oi.apart ops ok = true := fun k ok hk hki hun hno => by
        refine hfree k ok hk hki ?_ hno
        by_cases hjk : j = k
        · subst hjk; exact hjun
        · rw [getD_set_ne true hjk] at hun; exact hun
      have hx' : met E1 W (F.with j (fun w => ∀ v, U v w u)) (fun _ => True) := by
        obtain ⟨w, hw, hF, hv⟩ := hu
        exact ⟨w, hw, Facts.with_mk hF hv, trivial⟩
      refine ih (listed.setIfInBounds j true) (a.put o.dst u) (F.with j (fun w => ∀ v, U v w u)) (inv.set hj hjn) hfree' (ready_mono hr (Ne.symm hji)) (hm.with hgood.1 j u) hx' ((hg.same (execOp_put oi hsi a o.dst u a3) (wanted_put oi a o.dst u a3)).more) (fun v hv => ?_)
      rw [Array.setIfInBounds_comm _ _ hji, ← Act.put_comm a v u a2]
      obtain ⟨w, hw, hF, hVv⟩ := hv
      have hF' := Facts.with_of hF
      have mv : met E1 W F (fun w => V w v) := ⟨w, hw, hF'.1, hVv⟩
      exact anyFreeP_weaken hLm _ _ _ _ _ (fun e w' h' => ⟨⟨h'.1.1, h'.2⟩, fun he => h'.1.2 he ⟨v, mv⟩⟩) ((hU ⟨v, mv⟩).2 u ⟨w, hw, Facts.with_mk hF'.1 hVv, hF'.2 ⟨v, mv⟩⟩)

theorem anyFreeP_lex (hs : ∀ w w', E0.R w w' → E1.R w w') (hVc : ∀ w, E1.R W w → ∃ v w', E1.R w w' ∧ Vc w' v) {n g : Nat} {R : Act → World → Prop} (hsel : Region.noSelect ops = true)
    (hbound : ∀ listed i, HeadInv md ops n listed → i < n → listed.getD i true = false → ∀ j ∈ Region.ready md ops listed, j < n) :
    ∀ (l : List Oper) (k : Nat) (listed : Array Bool) (a : Act) (F : Facts), (∀ j, j < l.length → l[j]? = ops[k + j]?) → k + l.length = n → HeadInv md ops n listed →
    Region.lexHead md ops g l.length k listed = true → FMono E1 F → met E1 W F (fun _ => True) → wpFreeP E0 E1 c Vc P ops md W K R l k a F →
    anyFreeP E0 E1 c Vc P ops md W K n (fun listed' a' F' => Region.seqB md ops g n listed' = true ∧ ∀ w, E1.R W w → (∀ e, F' e w) → R a' w) l.length listed a F := by
  intro l
  induction l with
  | nil =>
    intro k listed a F _ hk _ hB _ _ h
    have : k = n := by simpa using hk
    subst this
    exact ⟨by simpa [Region.lexHead] using hB, h⟩
  | cons o l ih =>
    intro k listed a F hl hk inv hB hm hx h
    have h0 : ops[k]? = some o := by simpa using (hl 0 (by simp)).symm
    simp only [List.length_cons, Region.lexHead, Bool.and_eq_true] at hB
    obtain ⟨⟨hr, hf⟩, hB'⟩ := hB
    have hkn : k < n := by simp only [List.length_cons] at hk; omega
    have hr' : k ∈ Region.ready md ops listed := by simpa using hr
    obtain ⟨V, hg, hnext⟩ := h
    exact anyFreeP_first hs hVc h0 (Region.noSelect_spec hsel) hbound hkn (fun listed' a' F' hL => seqB_ready hL.1) (fun _ _ _ _ hF hL => ⟨hL.1, fun w hw h' => hL.2 w hw (fun e => hF e w (h' e))⟩) l.length listed a F inv (Region.free_spec h0 hf) hr' hm hx hg
      (fun v hv => ih (k + 1) _ _ _ (fun j hj => by have := hl (j + 1) (by simp; omega); simpa [Nat.add_assoc, Nat.add_comm 1 j] using this) (by simp only [List.length_cons] at hk; omega) (inv.set hr' hkn) hB' (hm.with hg.1 k v)
        (by obtain ⟨w, hw, hF, hv'⟩ := hv; exact ⟨w, hw, Facts.with_mk hF hv', trivial⟩) (hnext v hv))

/-- A REGION THAT DRAWS ITS ORDER, one of whose operations writes. -/
theorem region_freeP (hs : ∀ w w', E0.R w w' → E1.R w w') (K : FuncId → Array Value → World → Value → Prop) {id : Nat} {Q : Exit → Act → World → Prop} {a : Act} {w : World} {l : List Oper} (hVc : ∀ w', E1.R (w.drewN 1) w' → ∃ v w'', E1.R w' w'' ∧ Vc w'' v) (hm : P.follows .mixedOrders = true)
    (hB : (Region.noSelect l.toArray && Region.lexHead .any l.toArray 0 l.length 0 (Array.replicate l.toArray.size false)) = true)
    (h : wpFreeP E0 E1 c Vc P l.toArray .any (w.drewN 1) K (fun a' w' => Q .normal a' w') l 0 a noFacts) : (Code.region id l.toArray true).wp P Q a w := by
  simp only [Bool.and_eq_true] at hB
  obtain ⟨hsel, hlex⟩ := hB
  have hbound : ∀ listed i, HeadInv .any l.toArray l.length listed → i < l.length → listed.getD i true = false → ∀ j ∈ Region.ready .any l.toArray listed, j < l.length := by
    intro listed i _ _ _ j hj
    obtain ⟨_, oj, hoj, _⟩ := mem_ready.1 hj
    simpa using (Array.getElem?_eq_some_iff.1 hoj).1
  have H := anyFreeP_lex (md := .any) (g := 0) hs hVc hsel hbound l 0 _ a noFacts (fun j hj => by simp) (by simp) (head_start _ l.length) hlex (fun _ _ _ h => h) ⟨w.drewN 1, E1.refl _, fun _ => trivial, trivial⟩ h
  refine wp_region_any hm ?_
  have := anyFreeP_sound (Q' := Q) (W := w.drewN 1) (g := 0) hs (fun listed a' F w' hw' hF hL => ⟨by simpa [Region.seqB] using hL.1, hL.2 w' hw' hF⟩) _ _ _ _ _ (fun _ _ _ h => h) (E1.refl _) (fun _ => E0.refl _) (fun _ => trivial) H
  rw [Nat.add_zero] at this
  exact this
end
end Go.Fk

/- Regions with a call that writes: laws of single operations. Nothing here names a program. -/
namespace Go.Fk
open Go Go.RowKit
section
variable {E0 E1 : Ext} {c : Nat} {Vc : World → Value → Prop} {P : Program} {ops : Array Oper} {W : World} {K : FuncId → Array Value → World → Value → Prop} {Q : Act → World → Prop} {F : Facts} {k : Nat} {o : Oper} {rest : List Oper} {a : Act}
theorem wpFreeP_weaken : ∀ (l : List Oper) (k : Nat) (a : Act) (F F' : Facts), (∀ e w, F' e w → F e w) → wpFreeP E0 E1 c Vc P ops .any W K Q l k a F → wpFreeP E0 E1 c Vc P ops .any W K Q l k a F' := by
  intro l
  induction l with
  | nil => intro k a F F' h hh w hw hF; exact hh w hw (fun e => h e w (hF e))
  | cons o l ih =>
    intro k a F F' h hh
    obtain ⟨V, hg, hn⟩ := hh
    exact ⟨V, hg.stronger h, fun v hv => ih _ _ _ _ (fun e w hw => ⟨h e w hw.1, hw.2⟩) (hn v (hv.weaken (fun w hw e => h e w (hw e))))⟩
theorem wpFreeP_nil (h : ∀ w, E1.R W w → (∀ e, F e w) → Q a w) : wpFreeP E0 E1 c Vc P ops .any W K Q [] k a F := h
theorem wpFreeP_some (hk : k ≠ c) (hg : o.guard = none) (V : Value → Prop) (hr : ∀ w, E1.R W w → ∃ v n, (execOp a.eval o).run P w = .ok (.value v) (w.drewN n) ∧ V v)
    (h : ∀ v, V v → wpFreeP E0 E1 c Vc P ops .any W K Q rest (k + 1) (a.put o.dst v) (F.with k (fun _ => True))) : wpFreeP E0 E1 c Vc P ops .any W K Q (o :: rest) k a F := by
  refine ⟨fun _ u => V u, ⟨fun _ _ _ _ h => h, fun e => absurd e hk, .inl ⟨by simp [Region.wanted, hg], fun w hw _ => ?_⟩⟩, fun u hu => ?_⟩
  · obtain ⟨v, n, hrun, hv⟩ := hr w (by unfold preE at hw; rw [if_neg hk] at hw; exact hw)
    rw [hrun]; exact ⟨(stepE E0 E1 c k).of_le (le_drewN w n), hv⟩
  · obtain ⟨w, _, _, hv⟩ := hu
    exact wpFreeP_weaken _ _ _ _ _ (fun e w h => ⟨h.1, fun _ => trivial⟩) (h u hv)
theorem wpFreeP_one (hk : k ≠ c) (hg : o.guard = none) (v : Value) (hr : ∀ w, E1.R W w → (execOp a.eval o).run P w = .ok (.value v) w)
    (h : wpFreeP E0 E1 c Vc P ops .any W K Q rest (k + 1) (a.put o.dst v) (F.with k (fun _ => True))) : wpFreeP E0 E1 c Vc P ops .any W K Q (o :: rest) k a F :=
  wpFreeP_some hk hg (· = v) (fun w hw => ⟨v, 0, by rw [hr w hw]; rfl, rfl⟩) (by rintro u rfl; exact h)
theorem wpFreeP_quiet (hk : k ≠ c) (hnc : simple o.op = true) (h : wpQuiet P ops (fun _ => True) (fun a' => wpFreeP E0 E1 c Vc P ops .any W K Q rest (k + 1) a' (F.with k (fun _ => True))) [o] a) : wpFreeP E0 E1 c Vc P ops .any W K Q (o :: rest) k a F := by
  simp only [wpQuiet] at h
  by_cases hw : Region.wanted o (yielded ops a.tmps) = true
  · rw [if_pos hw] at h
    obtain ⟨v, h1, h2⟩ := h
    refine ⟨fun _ u => u = v, ⟨fun _ _ _ _ h => h, fun e => absurd e hk, .inl ⟨hw, fun w hw' _ => ?_⟩⟩, fun u hu => ?_⟩
    · have h3 := h1 w trivial
      unfold Oper.quietAt at h3
      generalize hrun : (execOp a.eval o).run P w = r at h3
      cases r with
      | ok n w' =>
        cases n <;> simp only [Oper.quietUpon] at h3 <;> simp only [insideT]
        case value u => exact ⟨by rw [h3.1]; exact (stepE E0 E1 c k).refl w, h3.2⟩
        case skip => exact ⟨by rw [h3.1]; exact (stepE E0 E1 c k).refl w, h3.2.symm⟩
        case enter f args => exact (noEnter hnc hrun).elim
      | halt x w' => simp only [Oper.quietUpon] at h3
    · obtain ⟨w, _, _, rfl⟩ := hu
      exact wpFreeP_weaken _ _ _ _ _ (fun e w h => ⟨h.1, fun _ => trivial⟩) h2
  · rw [if_neg hw] at h
    refine ⟨fun _ u => u = undef, ⟨fun _ _ _ _ h => h, fun e => absurd e hk, .inr ⟨hk, by simpa using hw, fun _ _ _ => rfl⟩⟩, fun u hu => ?_⟩
    obtain ⟨w, _, _, rfl⟩ := hu
    exact wpFreeP_weaken _ _ _ _ _ (fun e w h => ⟨h.1, fun _ => trivial⟩) h
theorem wpFreeP_farith (hk : k ≠ c) (hg : o.guard = none) {op : BinOp} {t t' : TypeId} {x y : Operand} (hop : o.op = Op.binOp op t x y t') (ho : arith op = true)
    {fk : FloatKind} {p q : Nat} (hx : a.eval x = .float fk p) (hy : a.eval y = .float fk q)
    (h : ∀ r, Hid (can fk r = fop op fk p q) → Hid (fits fk r) → wpFreeP E0 E1 c Vc P ops .any W K Q rest (k + 1) (a.put o.dst (.float fk r)) (F.with k (fun _ => True))) : wpFreeP E0 E1 c Vc P ops .any W K Q (o :: rest) k a F := by
  refine wpFreeP_some hk hg (fun v => ∃ r, v = .float fk r ∧ can fk r = fop op fk p q ∧ fits fk r) (fun w _ => ?_) ?_
  · obtain ⟨r, n, hrun, hr, hf⟩ := run_farith (P := P) w op ho t fk p q
    have he := eqGuard_float (P := P) w op t x y fk fk p q
    refine ⟨.float fk r, n, ?_, r, rfl, hr, hf⟩
    simp [execOp, hop, hx, hy, he, hrun, Result.andThen]
  · rintro v ⟨r, rfl, h1, h2⟩
    exact h r h1 h2
theorem wpFreeP_call (hk : k = c) (hg : o.guard = none) (hm : MonoT E1 Vc) (h1 : ∀ w, E0.R W w → insideT E1 P K w Vc ((execOp a.eval o).run P w))
    (h2 : ∀ v, (∃ w, E1.R W w ∧ Vc w v) → wpFreeP E0 E1 c Vc P ops .any W K Q rest (k + 1) (a.put o.dst v) (F.with k (fun w => Vc w v))) : wpFreeP E0 E1 c Vc P ops .any W K Q (o :: rest) k a F := by
  refine ⟨Vc, ⟨hm, fun _ => rfl, .inl ⟨by simp [Region.wanted, hg], fun w hw _ => ?_⟩⟩, fun v hv => h2 v (by obtain ⟨w, hw, _, h⟩ := hv; exact ⟨w, hw, h⟩)⟩
  unfold preE at hw
  rw [if_pos hk] at hw
  unfold stepE
  rw [if_pos hk]
  exact h1 w hw
/-- A REGION WITH FORCED LAST OPERATIONS (from number n on), one of whose first ones writes. -/
theorem region_tailP (hs : ∀ w w', E0.R w w' → E1.R w w') (K : FuncId → Array Value → World → Value → Prop) {id : Nat} {Q : Exit → Act → World → Prop} {a : Act} {w : World} {l : List Oper} (n : Nat) (hVc : ∀ w', E1.R (w.drewN 1) w' → ∃ v w'', E1.R w' w'' ∧ Vc w'' v) (hm : P.follows .mixedOrders = true) (hB : Region.lexTailB .any l.toArray n = true)
    (h : wpFreeP E0 E1 c Vc P l.toArray .any (w.drewN 1) K (fun a' w' => wpList P l.toArray Q (l.drop n) a' w') (l.take n) 0 a noFacts) : (Code.region id l.toArray true).wp P Q a w := by
  simp only [Region.lexTailB, Bool.and_eq_true, decide_eq_true_eq] at hB
  obtain ⟨⟨⟨⟨hsel, hn⟩, hs'⟩, hc⟩, hlex⟩ := hB
  have hn' : n < l.length := by simpa using hn
  have htl : (l.take n).length = n := by simp; omega
  have hdl : (l.drop n).length = l.toArray.size - n := by simp
  have hbound : ∀ listed i, HeadInv .any l.toArray n listed → i < n → listed.getD i true = false → ∀ j ∈ Region.ready .any l.toArray listed, j < n := by
    intro listed i inv hi hun j hj
    rcases Nat.lt_or_ge j n with h | h
    · exact h
    · exact absurd hj (tail_waits hs' hc hn inv _ i rfl hi hun j h)
  have H := anyFreeP_lex (md := .any) (g := l.toArray.size - n) hs hVc hsel hbound (l.take n) 0 _ a noFacts (fun j hj => by
    have hj' : j < n := by rw [htl] at hj; exact hj
    simp [hj']) (by simpa using htl) (head_start _ n) (by rw [htl]; exact hlex) (fun _ _ _ h => h) ⟨w.drewN 1, E1.refl _, fun _ => trivial, trivial⟩ h
  refine wp_region_any hm ?_
  have := anyFreeP_sound (Q' := Q) (W := w.drewN 1) (g := l.toArray.size - n) hs (fun listed a' F w' hw' hF hL => by
    have := wpAny_of_seq (md := .any) (Q' := Q) (l.drop n) n listed a' w' (fun j => by simp [List.getElem?_drop]) (by rw [hdl]; exact hL.1) (hL.2 w' hw' hF)
    rwa [hdl] at this) _ _ _ _ _ (fun _ _ _ h => h) (E1.refl _) (fun _ => E0.refl _) (fun _ => trivial) H
  rw [htl, show n + (l.toArray.size - n) = l.toArray.size by omega] at this
  exact this
end
/-- What may turn: before a call has run, all is as Pre says; behind it, as Post says. -/
def altE (S : Nat → Prop) (Pre Post : World → Prop) (h1 : ∀ w w', le w w' → Pre w → Pre w') (h2 : ∀ w w', le w w' → Post w → Post w') : Ext where
  R w w' := Chg S w w' ∧ (Post w → Post w') ∧ (Pre w ∨ Post w → Pre w' ∨ Post w')
  refl w := ⟨Chg.refl _ w, id, id⟩
  trans := by
    rintro a b c ⟨p1, p2, p3⟩ ⟨q1, q2, q3⟩
    exact ⟨p1.trans q1, fun h => q2 (p2 h), fun h => q3 (p3 h)⟩
  of_le := by
    intro a b h
    exact ⟨Chg.of_le h, h2 a b h, fun e => e.elim (fun x => .inl (h1 a b h x)) (fun x => .inr (h2 a b h x))⟩
section
variable {E0 E1 : Ext} {c : Nat} {Vc : World → Value → Prop} {P : Program} {ops : Array Oper} {W : World} {K : FuncId → Array Value → World → Value → Prop} {Q : Act → World → Prop} {F : Facts} {k : Nat} {o : Oper} {rest : List Oper} {a : Act}
/-- A cell that holds the same before and behind. -/
theorem wpFreeP_cellA (hk : k ≠ c) (hg : o.guard = none) {ty : TypeId} {x : Operand} (hop : o.op = .load ty x) {ad : Addr} (hx : a.eval x = .pointer (some ad)) {v : Value} (hv : ∀ w, E1.R W w → w.cell? ad = some v) (hu : ∀ w, (isAgg ty).run P w = .ok false w)
    (h : wpFreeP E0 E1 c Vc P ops .any W K Q rest (k + 1) (a.put o.dst v) (F.with k (fun _ => True))) : wpFreeP E0 E1 c Vc P ops .any W K Q (o :: rest) k a F := by
  refine wpFreeP_one hk hg v (fun w hw => ?_) h
  have hl : (Instr.loadAt ty (.pointer (some ad))).run P w = .ok v w := by
    simp [Instr.loadAt, Instr.sureAddr, loadVar, hu, hv w hw]
  simp [execOp, hop, hx, hl, Result.andThen]
/-- A call that only reads. -/
theorem wpFreeP_callQ (hk : k ≠ c) (hg : o.guard = none) {f : FuncId} {xs : Array Operand} {ts : Array TypeId} (hop : o.op = Op.call { callee := Callee.value (Operand.func f), args := xs, argTypes := ts }) {fn : Func} (hf : P.funcs[f]? = some fn)
    (hb : fn.body.isNone = false) (hn : (fn.name == "runtime.NumGoroutine") = false) {args : Array Value} (ha : xs.map a.eval = args) (V : Value → Prop)
    (h1 : ∀ w, E1.R W w → Calls P f args w (fun e w' => ∃ v, e = .returned v ∧ le w w' ∧ K f args w' v ∧ V v)) (hK : ∀ w v, K f args w v → V v)
    (h : ∀ v, V v → wpFreeP E0 E1 c Vc P ops .any W K Q rest (k + 1) (a.put o.dst v) (F.with k (fun _ => True))) : wpFreeP E0 E1 c Vc P ops .any W K Q (o :: rest) k a F := by
  refine ⟨fun _ u => V u, ⟨fun _ _ _ _ h => h, fun e => absurd e hk, .inl ⟨by simp [Region.wanted, hg], fun w hw _ => ?_⟩⟩, fun u hu => ?_⟩
  · rw [run_enter hop hf hb hn ha]
    unfold preE at hw
    rw [if_neg hk] at hw
    refine ⟨(stepE E0 E1 c k).refl w, (h1 w hw).mono ?_, fun w'' v hk => hK w'' v hk⟩
    rintro e w' ⟨v, rfl, hl, hk', _⟩
    exact ⟨v, rfl, (stepE E0 E1 c k).of_le hl, hk'⟩
  · obtain ⟨w, _, _, hv⟩ := hu
    exact wpFreeP_weaken _ _ _ _ _ (fun e w h => ⟨h.1, fun _ => trivial⟩) (h u hv)
/-- The call that writes. -/
theorem wpFreeP_callC (hk : k = c) (hg : o.guard = none) {f : FuncId} {xs : Array Operand} {ts : Array TypeId} (hop : o.op = Op.call { callee := Callee.value (Operand.func f), args := xs, argTypes := ts }) {fn : Func} (hf : P.funcs[f]? = some fn)
    (hb : fn.body.isNone = false) (hn : (fn.name == "runtime.NumGoroutine") = false) {args : Array Value} (ha : xs.map a.eval = args) (hm : MonoT E1 Vc)
    (h1 : ∀ w, E0.R W w → Calls P f args w (fun e w' => ∃ v, e = .returned v ∧ E1.R w w' ∧ K f args w' v)) (hK : ∀ w v, K f args w v → Vc w v)
    (h2 : ∀ v, (∃ w, E1.R W w ∧ Vc w v) → wpFreeP E0 E1 c Vc P ops .any W K Q rest (k + 1) (a.put o.dst v) (F.with k (fun w => Vc w v))) : wpFreeP E0 E1 c Vc P ops .any W K Q (o :: rest) k a F := by
  refine wpFreeP_call hk hg hm (fun w hw => ?_) h2
  rw [run_enter hop hf hb hn ha]
  exact ⟨E1.refl w, h1 w hw, fun w'' v hk => hK w'' v hk⟩
end
end Go.Fk

/- An append to a row of one's own in a region that draws its order: elements of any width. Nothing here names a program. -/
namespace Go.Fk
open Go Go.RowKit
theorem ownsRow_keep {w w' : World} {B : Nat} {e : TypeId} {z : Nat} {v : Value} {n : Nat} {xs : List Value} {S : Nat → Prop} (h : w.ownsRow B e z v n xs) (hw : Chg S w w') (hS : ∀ k, v.ownBlock = some k → ¬ S k) : w'.ownsRow B e z v n xs := by
  obtain ⟨h1, h2⟩ := h
  refine ⟨h1, ?_⟩
  rcases h2 with h2 | ⟨q, cap, cur, e1, e2, e3, e4⟩
  · exact .inl h2
  · exact .inr ⟨q, cap, cur, e1, e2, by have := hw.row (g := q) (t := e) (cs := cur) e3 (hS q (by rw [e1]; rfl)); exact this, e4⟩
theorem ownsRow_mono {w : World} {B B' : Nat} {e : TypeId} {z : Nat} {v : Value} {n : Nat} {xs : List Value} (h : w.ownsRow B e z v n xs) (hb : B' ≤ B) : w.ownsRow B' e z v n xs := by
  obtain ⟨h1, h2⟩ := h
  refine ⟨h1, ?_⟩
  rcases h2 with h2 | ⟨q, cap, cur, e1, e2, e3⟩
  · exact .inl h2
  · exact .inr ⟨q, cap, cur, e1, Nat.le_trans hb e2, e3⟩
theorem ownsRow_lt {w : World} {B : Nat} {e : TypeId} {z : Nat} {v : Value} {n : Nat} {xs : List Value} (h : w.ownsRow B e z v n xs) : ∀ k, v.ownBlock = some k → B ≤ k ∧ k < w.heap.size := by
  intro k hk
  rcases h.2 with ⟨rfl, _⟩ | ⟨q, cap, cur, rfl, e2, e3, _⟩
  · cases hk
  · obtain rfl : q = k := by simpa [Value.ownBlock] using hk
    refine ⟨e2, ?_⟩
    rcases Nat.lt_or_ge q w.heap.size with hlt | hge
    · exact hlt
    · rw [Array.getElem?_eq_none hge] at e3; cases e3
theorem run_append_keep {P : Program} (w : World) (t ty : TypeId) (base : Nat) (e : TypeId) (i : TypeInfo) (z : Value) (size bytes : Nat) (ht : P.underlying t = some (.slice e)) (hi : P.info? e = some i) (hz : i.zero = some z)
    (hsize : i.size = size) (hby : i.bytes = bytes) (hzs : z.cells.size = size) (hsz : 0 < size)
    (v : Value) (n : Nat) (xs : List Value) (hown : w.ownsRow base e size v n xs)
    (ad : Addr) (m c : Nat) (news : List Value) (hl : news.length = m * size) (hnews : ∀ j u, news[j]? = some u → w.cell? (ad.add j) = some u) (h1 : ∀ u ∈ news, u.oneCell' = true)
    (hm : 0 < m) (h63 : n + m ≤ maxLen) (hbytes : (n + m) * bytes ≤ 140737488355328) (hbase : base ≤ w.heap.size) :
    ∃ v' w', (Builtin.append_ #[t, t] ty #[v, .slice (some ad) m c]).run P w = .ok v' w' ∧ w'.ownsRow base e size v' (n + m) (xs ++ news) ∧ Chg (fun k => v.ownBlock = some k) w w' ∧
      (v'.ownBlock = v.ownBlock ∨ ∃ q, v'.ownBlock = some q ∧ w.heap.size ≤ q) ∧ w'.ownsRow base e size v n xs ∧ (∀ u, u.ownBlock = v.ownBlock → w.ownsRow base e size u (n + m) (xs ++ news) → w'.ownsRow base e size u (n + m) (xs ++ news)) := by
  have hlen : (xs ++ news).length = (n + m) * size := by rw [List.length_append, hown.1, hl, Nat.add_mul]
  rcases hown.2 with ⟨rfl, rfl⟩ | ⟨g, cap, cur, rfl, hbg, hg, hnc, hcm, hcs, htake⟩
  · obtain ⟨v', w', hr, h2, h3, _, h5⟩ := run_append_own_at (P := P) w base t ty e i z size bytes ht hi hz hsize hby hzs hsz (.slice none 0 0) 0 xs hown ad m c news hl hnews h1 h63 hbytes hbase
    have hle : le w w' := le_of_grown h3
    refine ⟨v', w', hr, h2, Chg.of_le hle, ?_, ownsRow_le hown hle, fun u _ hu => ownsRow_le hu hle⟩
    rcases h5 with h5 | h5
    · exact .inl h5
    · exact .inr ⟨_, h5, Nat.le_refl _⟩
  · by_cases hroom : n + m ≤ cap
    · subst hsize
      have hfit : n * i.size + news.length ≤ cur.size := by rw [hl, hcs, ← Nat.add_mul]; exact Nat.mul_le_mul_right _ hroom
      have hr := run_append_room (P := P) w t ty e i ht hi g n cap cur hg ad m c news hl hnews h1 hroom hfit
      have hnew : (w.setRow g (cur.toList.take (n * i.size) ++ news ++ cur.toList.drop (n * i.size + news.length)).toArray).ownsRow base e i.size (.slice (some ⟨g, 0, none⟩) (n + m) cap) (n + m) (xs ++ news) := by
        refine ⟨hlen, .inr ⟨g, cap, _, rfl, hbg, setRow_heap w g cur _ e _ hg, hroom, hcm, ?_, ?_⟩⟩
        · simp only [List.size_toArray, List.length_append, List.length_take, List.length_drop, Array.length_toList]
          omega
        · rw [htake, ← hlen]
          exact List.take_left
      refine ⟨_, _, hr, hnew, ⟨rfl, rfl, rfl, by simp, fun k _ hk => setRow_other w g k _ (fun e => hk (by simp [Value.ownBlock, e]))⟩, .inl rfl, ?_, fun u hu ho => ?_⟩
      · refine ⟨hown.1, .inr ⟨g, cap, _, rfl, hbg, setRow_heap w g cur _ e _ hg, hnc, hcm, ?_, ?_⟩⟩
        · simp only [List.size_toArray, List.length_append, List.length_take, List.length_drop, Array.length_toList]
          omega
        · rw [htake, List.append_assoc, ← hown.1]
          exact List.take_left
      · rcases ho.2 with ⟨rfl, h0⟩ | ⟨g0, cap0, cur0, rfl, _, hg0, _, _, hs0, _⟩
        · omega
        · obtain rfl : g0 = g := by simpa [Value.ownBlock] using hu
          rw [hg] at hg0
          simp only [Option.some.injEq, Obj.cells.injEq] at hg0
          obtain ⟨rfl, _⟩ := hg0
          obtain rfl : cap = cap0 := Nat.eq_of_mul_eq_mul_right hsz (hcs.symm.trans hs0)
          exact hnew
    · obtain ⟨v', w', hr, h2, h3⟩ := run_append_arg_grows (P := P) w t ty e i z size bytes ht hi hz hsize hby hzs hsz ⟨g, 0, none⟩ n cap xs hown.1 (hown.cells (g := g) rfl) ad m c news hl hnews (by omega) h63 hbytes
      have hle : le w w' := le_of_grown h3
      obtain ⟨q, c', rfl, hq, _⟩ := h2.form (by omega)
      exact ⟨_, w', hr, ownsRow_mono h2 hbase, Chg.of_le hle, .inr ⟨q, rfl, hq⟩, ownsRow_le hown hle, fun u _ hu => ownsRow_le hu hle⟩
/-- Only the row that one owns is written, by one append. -/
def appX (base : Nat) (e : TypeId) (z : Nat) (v : Value) (n : Nat) (xs : List Value) (m : Nat) (news : List Value) : Ext where
  R w w' := Chg (fun k => v.ownBlock = some k) w w' ∧ (w.ownsRow base e z v n xs → w'.ownsRow base e z v n xs) ∧ (∀ u, u.ownBlock = v.ownBlock → w.ownsRow base e z u (n + m) (xs ++ news) → w'.ownsRow base e z u (n + m) (xs ++ news))
  refl w := ⟨Chg.refl _ w, fun h => h, fun _ _ h => h⟩
  trans h k := ⟨h.1.trans k.1, fun x => k.2.1 (h.2.1 x), fun u hu x => k.2.2 u hu (h.2.2 u hu x)⟩
  of_le h := ⟨Chg.of_le h, fun x => ownsRow_le x h, fun _ _ x => ownsRow_le x h⟩
section
variable {P : Program} {ops : Array Oper} {W : World} {K : FuncId → Array Value → World → Value → Prop} {Q : Act → World → Prop} {F : Facts} {k : Nat} {o : Oper} {rest : List Oper} {a : Act}
variable {base : Nat} {e : TypeId} {z : Nat} {v : Value} {n : Nat} {xs : List Value} {m : Nat} {news : List Value}
theorem appX_row {w : World} (hown : W.ownsRow base e z v n xs) (hw : (appX base e z v n xs m news).R W w) {q : Nat} {t : TypeId} {cs : Array Value} (hr : Row W q t cs) (hq : v.ownBlock ≠ some q) : Row w q t cs := hw.1.row hr hq
theorem wpFreeD_madeX (hown : W.ownsRow base e z v n xs) (hg : o.guard = none) (f : Nat → Value) (t : TypeId) (cs : Array Value) (hr : ∀ w, (execOp a.eval o).run P w = .ok (.value (f w.heap.size)) (w.alloc (.cells cs t)))
    (h : ∀ b, wpFreeD (appX base e z v n xs m news) P ops .any W K Q rest (k + 1) (a.put o.dst (f b)) (F.with k (fun w => ∃ b', f b = f b' ∧ Row w b' t cs))) : wpFreeD (appX base e z v n xs m news) P ops .any W K Q (o :: rest) k a F := by
  refine ⟨fun w u => ∃ b', u = f b' ∧ W.heap.size ≤ b' ∧ Row w b' t cs, ⟨fun u w w' hw hu => ?_, .inl ⟨by simp [Region.wanted, hg], fun w hw _ => ?_⟩⟩, fun u hu => ?_⟩
  · obtain ⟨b', e1, h2, hrow⟩ := hu
    exact ⟨b', e1, h2, hw.1.row hrow (fun e2 => by have := (ownsRow_lt hown _ e2).2; omega)⟩
  · rw [hr w]
    exact ⟨(appX base e z v n xs m news).of_le (le_alloc w _), w.heap.size, rfl, hw.1.size, Row.new w t cs⟩
  · obtain ⟨w, _, _, b, rfl, _⟩ := hu
    exact wpFreeD_weaken _ _ _ _ _ (fun e w h => ⟨h.1, fun he => by obtain ⟨b', e1, _, h2⟩ := h.2 he; exact ⟨b', e1, h2⟩⟩) (h b)
/-- What an append gives. -/
def Gave (W : World) (base : Nat) (e : TypeId) (z : Nat) (v : Value) (n : Nat) (xs : List Value) (w : World) (u : Value) : Prop := w.ownsRow base e z u n xs ∧ (u.ownBlock = v.ownBlock ∨ ∃ q, u.ownBlock = some q ∧ W.heap.size ≤ q)
theorem wpFreeD_appK (hown : W.ownsRow base e z v n xs) (hg : o.guard = none) {s x : Operand} {t : TypeId} (hop : o.op = .call { callee := .builtin .append, args := #[s, x], argTypes := #[t, t] }) {i : TypeInfo} {zv : Value} {bytes : Nat}
    (ht : P.underlying t = some (.slice e)) (hi : P.info? e = some i) (hz : i.zero = some zv) (hsize : i.size = z) (hby : i.bytes = bytes) (hzs : zv.cells.size = z) (hsz : 0 < z)
    (hs : a.eval s = v) {ad : Addr} {c : Nat} (hx : a.eval x = .slice (some ad) m c) (hl : news.length = m * z) (hnews : ∀ w, (appX base e z v n xs m news).R W w → behind .any o F w → ∀ j u, news[j]? = some u → w.cell? (ad.add j) = some u) (h1 : ∀ u ∈ news, u.oneCell' = true)
    (hm : 0 < m) (h63 : n + m ≤ maxLen) (hbytes : (n + m) * bytes ≤ 140737488355328) (hbase : base ≤ W.heap.size)
    (h : ∀ u, (∃ w, (appX base e z v n xs m news).R W w ∧ Gave W base e z v (n + m) (xs ++ news) w u) → wpFreeD (appX base e z v n xs m news) P ops .any W K Q rest (k + 1) (a.put o.dst u) (F.with k (fun w => Gave W base e z v (n + m) (xs ++ news) w u))) : wpFreeD (appX base e z v n xs m news) P ops .any W K Q (o :: rest) k a F := by
  refine ⟨Gave W base e z v (n + m) (xs ++ news), ⟨fun u w w' hw hu => ?_, .inl ⟨by simp [Region.wanted, hg], fun w hw hbe => ?_⟩⟩, fun u hu => h u (by obtain ⟨w, h1, _, h2⟩ := hu; exact ⟨w, h1, h2⟩)⟩
  · obtain ⟨g1, g2⟩ := hu
    refine ⟨?_, g2⟩
    by_cases hq : u.ownBlock = v.ownBlock
    · exact hw.2.2 u hq g1
    · exact ownsRow_keep g1 hw.1 (fun q e1 e2 => hq (e1.trans e2.symm))
  · obtain ⟨v', w', hr, r1, r2, r3, r4, r5⟩ := run_append_keep (P := P) w t o.type base e i zv z bytes ht hi hz hsize hby hzs hsz v n xs (hw.2.1 hown) ad m c news hl (hnews w hw hbe) h1 hm h63 hbytes (Nat.le_trans hbase hw.1.size)
    simp [execOp, hop, resolve, invoke, builtin, hs, hx, hr, Result.andThen, insideT]
    refine ⟨⟨r2, fun _ => r4, r5⟩, r1, ?_⟩
    rcases r3 with r3 | ⟨q, r3, r6⟩
    · exact .inl r3
    · exact .inr ⟨q, r3, Nat.le_trans hw.1.size r6⟩
end
end Go.Fk

/- Drawn regions with facts whose last operations are forced; float arithmetic within them. Nothing here names a program. -/
namespace Go.Fk
open Go Go.RowKit
section
variable {E : Ext} {P : Program} {ops : Array Oper} {W : World} {K : FuncId → Array Value → World → Value → Prop} {Q : Act → World → Prop} {F : Facts} {k : Nat} {o : Oper} {rest : List Oper} {a : Act}
theorem wpFreeD_some (hg : o.guard = none) (V : Value → Prop) (hr : ∀ w, E.R W w → ∃ v n, (execOp a.eval o).run P w = .ok (.value v) (w.drewN n) ∧ V v)
    (h : ∀ v, V v → wpFreeD E P ops .any W K Q rest (k + 1) (a.put o.dst v) (F.with k (fun _ => True))) : wpFreeD E P ops .any W K Q (o :: rest) k a F := by
  refine ⟨fun _ u => V u, ⟨fun _ _ _ _ h => h, .inl ⟨by simp [Region.wanted, hg], fun w hw _ => ?_⟩⟩, fun u hu => ?_⟩
  · obtain ⟨v, n, hrun, hv⟩ := hr w hw
    rw [hrun]; exact ⟨E.of_le (le_drewN w n), hv⟩
  · obtain ⟨w, _, _, hv⟩ := hu
    exact wpFreeD_weaken _ _ _ _ _ (fun e w h => ⟨h.1, fun _ => trivial⟩) (h u hv)
theorem wpFreeD_farith (hg : o.guard = none) {op : BinOp} {t t' : TypeId} {x y : Operand} (hop : o.op = Op.binOp op t x y t') (ho : arith op = true)
    {fk : FloatKind} {p q : Nat} (hx : a.eval x = .float fk p) (hy : a.eval y = .float fk q)
    (h : ∀ r, Hid (can fk r = fop op fk p q) → Hid (fits fk r) → wpFreeD E P ops .any W K Q rest (k + 1) (a.put o.dst (.float fk r)) (F.with k (fun _ => True))) : wpFreeD E P ops .any W K Q (o :: rest) k a F := by
  refine wpFreeD_some hg (fun v => ∃ r, v = .float fk r ∧ can fk r = fop op fk p q ∧ fits fk r) (fun w _ => ?_) ?_
  · obtain ⟨r, n, hrun, hr, hf⟩ := run_farith (P := P) w op ho t fk p q
    have he := eqGuard_float (P := P) w op t x y fk fk p q
    refine ⟨.float fk r, n, ?_, r, rfl, hr, hf⟩
    simp [execOp, hop, hx, hy, he, hrun, Result.andThen]
  · rintro v ⟨r, rfl, h1, h2⟩
    exact h r h1 h2
end
section
variable {E : Ext} {P : Program}
/-- A REGION WITH FORCED LAST OPERATIONS (from number n on). -/
theorem region_tailD (K : FuncId → Array Value → World → Value → Prop) {id : Nat} {Q : Exit → Act → World → Prop} {a : Act} {w : World} {l : List Oper} (n : Nat) (hm : P.follows .mixedOrders = true) (hB : Region.lexTailB .any l.toArray n = true)
    (h : wpFreeD E P l.toArray .any (w.drewN 1) K (fun a' w' => wpList P l.toArray Q (l.drop n) a' w') (l.take n) 0 a noFacts) : (Code.region id l.toArray true).wp P Q a w := by
  simp only [Region.lexTailB, Bool.and_eq_true, decide_eq_true_eq] at hB
  obtain ⟨⟨⟨⟨hsel, hn⟩, hs'⟩, hc⟩, hlex⟩ := hB
  have hn' : n < l.length := by simpa using hn
  have htl : (l.take n).length = n := by simp; omega
  have hdl : (l.drop n).length = l.toArray.size - n := by simp
  have hbound : ∀ listed i, HeadInv .any l.toArray n listed → i < n → listed.getD i true = false → ∀ j ∈ Region.ready .any l.toArray listed, j < n := by
    intro listed i inv hi hun j hj
    rcases Nat.lt_or_ge j n with h | h
    · exact h
    · exact absurd hj (tail_waits hs' hc hn inv _ i rfl hi hun j h)
  have H := anyFreeD_lex (md := .any) (g := l.toArray.size - n) hsel hbound (l.take n) 0 _ a noFacts (fun j hj => by
    have hj' : j < n := by rw [htl] at hj; exact hj
    simp [hj']) (by simpa using htl) (head_start _ n) (by rw [htl]; exact hlex) (fun _ _ _ h => h) ⟨w.drewN 1, E.refl _, fun _ => trivial, trivial⟩ h
  refine wp_region_any hm ?_
  have := anyFreeD_sound (Q' := Q) (W := w.drewN 1) (g := l.toArray.size - n) (fun listed a' F w' hw' hF hL => by
    have := wpAny_of_seq (md := .any) (Q' := Q) (l.drop n) n listed a' w' (fun j => by simp [List.getElem?_drop]) (by rw [hdl]; exact hL.1) (hL.2 w' hw' hF)
    rwa [hdl] at this) _ _ _ _ _ (fun _ _ _ h => h) (E.refl _) (fun _ => trivial) H
  rw [htl, show n + (l.toArray.size - n) = l.toArray.size by omega] at this
  exact this
end
end Go.Fk

/- Exploration only: prints targets. -/
open Lean Elab Tactic Meta in
def cutT (s : String) : String := if s.length > 2600 then (s.take 1200).toString ++ " .......... " ++ (s.drop (s.length - 1400)).toString else s
open Lean Elab Tactic Meta in
elab "tgt" : tactic => do
  let gs ← getGoals
  logInfo m!"{gs.length} goals"
  for g in gs do
    g.withContext do
      let t ← instantiateMVars (← g.getType)
      let s := toString (← ppExpr t)
      logInfo m!"TGT: {cutT s}"

/- 'TurnTuning' of both. -/
namespace Go.Fk
open Go Go.RowKit
/-- The degrees from one of them on. -/
def tnX (o : Nat) (x : Nat → Nat) (n d i : Nat) : Nat := if d + i < n then fop .sub .f32 (x (d + i)) (x d) else fop .sub .f32 (fop .add .f32 (x (d + i - n)) o) (x d)
theorem tnX_a {o : Nat} {x : Nat → Nat} {n d i : Nat} (h : d + i < n) : tnX o x n d i = fop .sub .f32 (x (d + i)) (x d) := if_pos h
theorem tnX_b {o : Nat} {x : Nat → Nat} {n d i : Nat} (h : ¬ d + i < n) : tnX o x n d i = fop .sub .f32 (fop .add .f32 (x (d + i - n)) o) (x d) := if_neg h
/-- Its tree; the base is known up to the bits of NaN. -/
def cdTn (b o : Nat) (x : Nat → Nat) (n : Nat) : List CD := [.fcn .f32 b, .flt .f32 o, .sl 1 n (fun i => .fcn .f32 (x i))]
def okD (d : Int) (n : Nat) : Bool := decide (0 ≤ d) && decide (d ≤ (n : Int) - 1)
theorem OwnS.rdN {w : World} {lo hi : Nat} {s : Value} {x : Nat → Nat} {n : Nat} (h : OwnS w lo hi s x n) : (slT x n).RdN w hi s := by
  rcases h with ⟨h, h0⟩ | ⟨b, o, cap', cs, h1, h2, h3, h4, h5, h6, h7⟩
  · exact .inl ⟨h, h0⟩
  · refine .inr ⟨b, o, cap', h1, h2, h3, fun i hi => ⟨by omega, ?_⟩⟩
    obtain ⟨y, e1, e2, e3⟩ := h7 i (by omega)
    exact ⟨_, (h6.cell? _).trans e1, y, rfl, e2, e3⟩
theorem okT_congr {b b' o : Nat} {x : Nat → Nat} {n : Nat} (h : can .f32 b = can .f32 b') : okT b o x n = okT b' o x n := by unfold okT; rw [withinB_congr h]
end Go.Fk
namespace Go.Proofs.Ytccichnnljhbdac
open Go.RowKit Go.Fk
theorem can_khR (b o : Nat) (x : Nat → Nat) (n : Nat) (k : Int) : can .f32 (khR b o x n k) = khR b o x n k := by
  unfold khR
  split
  · split
    · split
      · unfold khV; exact can_fop _ _ _ _
      · decide
    · decide
  · decide
theorem cdTn_sh (b o : Nat) (x : Nat → Nat) (n : Nat) : ShOkL shTuning (cdTn b o x n) :=
  ShOkL.cons rfl (ShOkL.cons rfl (ShOkL.cons ⟨_, _, rfl, fun i hi j hj => by obtain rfl : j = 0 := (by omega); rfl⟩ ShOkL.nil))
theorem cdTn_sz (b o : Nat) (x : Nat → Nat) (n : Nat) : szL (cdTn b o x n) = n := by
  have e1 := CD.sz_flts (n := n) (x := fun i => CD.fcn .f32 (x i)) (fun i _ => rfl)
  simp only [cdTn, szL, List.map_cons, List.map_nil, List.sum_cons, List.sum_nil, e1]
  simp [CD.sz]
theorem layTn (b o : Nat) (x : Nat → Nat) (n : Nat) {lo hi u : Nat} {s : Value} {w : World} (h : OwnS w lo hi s x n) (fb : fits .f32 u) (cb : can .f32 u = b) (fo : fits .f32 o) : LayL w (rng lo hi) (cdTn b o x n) [.float .f32 u, .float .f32 o, s] :=
  LayL.leaf ⟨u, rfl, fb, cb⟩ (LayL.leaf ⟨rfl, fo⟩ (LayL.cons (S1 := rng lo hi) (S2 := fun _ => False) h.lay (LayL.nil _ (fun _ => False)) (fun _ h => h) (fun _ h => h.elim) (fun _ _ h => h)))
/-- What 'TurnTuning' answers where it turns nothing. -/
def cdT0 : List CD := cdTun 0 0 (fun _ => 0) 0
set_option maxRecDepth 100000 in
set_option maxHeartbeats 4000000 in
theorem i_TurnTuning_no1 (b o : Nat) (x : Nat → Nat) (n : Nat) (B : Nat) (s : Value) (w : World) (hs : (slT x n).RdN w B s) (d : Int) (h : ¬ codeH b o x n d = 0) : Calls Try.prog 7 #[.agg #[.float .f32 b, .float .f32 o, s], .int .i64 d] w (OutV_Ti cdT0 (codeH b o x n d) w) := by
  have HK := hid (fun (w' : World) (hl : le w w') => i_KeyHertzF b o x n B s w' (hs.le hl) d)
  clear hs
  have F := ((Frg.nil w).box 27 #[.float .f32 b, .float .f32 o, s]).box 27 #[.float .f32 0, .float .f32 0, .slice none 0 0]
  simp only [World.size_alloc] at F
  generalize codeH b o x n d = c at *
  generalize khR b o x n d = kv at *
  go_enter Try.func7, Try.ntmps7
  go_wp2_with (first | ((with_reducible refine at_loadU (ty := 27) rfl rfl ?_); (with_reducible refine wpList_loadG F rfl rfl rfl (by first | exact m0 | exact m1) Try.underlying27 rfl uinfoTuningI rfl ?_)) | (go_at_call 16; ((with_reducible refine (HK.out _ F.below).mono ?_); rintro e w1 ⟨u, rfl, hu, hfu, hl⟩; have HU := hid hu; have HFU := hid hfu; replace F := F.le hl; have c1 := (F.row m1).cell? 1; have c2 := (F.row m1).cell? 2; clear hl hu hfu)) | (with_reducible refine stop_store (ty := 27) rfl ?_))
  show wpList _ _ _ _ _ _
  refine wpList_storeD rfl rfl rfl (cells := #[.float .f32 0, .float .f32 0, .slice none 0 0]) rfl (F.row m0) uinfoTuningI rfl (by simp [Value.oneCell']) (fun w4 K4 => ?_)
  have R := hid K4.row
  have L := hid (F.wr0 K4).below
  clear K4 F
  go_wp2
  exact bodyPost_ret (results_row2 rfl _ _ _ _ _ rfl R.out Try.underlying27 rfl uinfoTuningI) rfl ⟨[.float .f32 0, .float .f32 0, .slice none 0 0], rfl, layTun0 _ _, L.out⟩
set_option maxRecDepth 100000 in
set_option maxHeartbeats 4000000 in
theorem i_TurnTuning_no2 (b o : Nat) (x : Nat → Nat) (n : Nat) (B : Nat) (s : Value) (w : World) (hs : (slT x n).RdN w B s) (d : Int) (h : codeH b o x n d = 0) (h2 : okD d n = false) : Calls Try.prog 7 #[.agg #[.float .f32 b, .float .f32 o, s], .int .i64 d] w (OutV_Ti cdT0 2 w) := by
  have HK := hid (fun (w' : World) (hl : le w w') => i_KeyHertzF b o x n B s w' (hs.le hl) d)
  rw [h] at HK
  obtain ⟨hn, hn31⟩ : 1 ≤ n ∧ n ≤ 31 := by
    unfold codeH at h
    cases hk : okT b o x n
    · rw [hk] at h; simp at h
    · exact okT_n hk
  obtain ⟨bb, p, cap, y, rfl, hc, hm, hx⟩ := slT_raw hs hn
  unfold maxLen at hm
  clear hs h hx
  have F := ((Frg.nil w).box 27 #[.float .f32 b, .float .f32 o, .slice (some ⟨bb, p, none⟩) n cap]).box 27 #[.float .f32 0, .float .f32 0, .slice none 0 0]
  simp only [World.size_alloc] at F
  generalize khR b o x n d = kv at *
  by_cases h0 : 0 ≤ d
  · have h3 : (n : Int) ≤ d := by simp [okD, h0] at h2; omega
    have hd0 : decide (d < 0) = false := decide_eq_false (by omega)
    clear h2
    go_enter Try.func7, Try.ntmps7
    go_wp2_with (first | ((with_reducible refine at_loadU (ty := 27) rfl rfl ?_); (with_reducible refine wpList_loadG F rfl rfl rfl (by first | exact m0 | exact m1) Try.underlying27 rfl uinfoTuningI rfl ?_)) | (go_at_call 16; ((with_reducible refine (HK.out _ F.below).mono ?_); rintro e w1 ⟨u, rfl, hu, hfu, hl⟩; have HU := hid hu; have HFU := hid hfu; replace F := F.le hl; have c1 := (F.row m1).cell? 1; have c2 := (F.row m1).cell? 2; clear hl hu hfu)) | (with_reducible refine stop_store (ty := 27) rfl ?_))
    show wpList _ _ _ _ _ _
    refine wpList_storeD rfl rfl rfl (cells := #[.float .f32 0, .float .f32 0, .slice none 0 0]) rfl (F.row m0) uinfoTuningI rfl (by simp [Value.oneCell']) (fun w4 K4 => ?_)
    have R := hid K4.row
    have L := hid (F.wr0 K4).below
    clear K4 F
    go_wp2
    exact bodyPost_ret (results_row2 rfl _ _ _ _ _ rfl R.out Try.underlying27 rfl uinfoTuningI) rfl ⟨[.float .f32 0, .float .f32 0, .slice none 0 0], rfl, layTun0 _ _, L.out⟩
  · clear h2
    go_enter Try.func7, Try.ntmps7
    go_wp2_with (first | ((with_reducible refine at_loadU (ty := 27) rfl rfl ?_); (with_reducible refine wpList_loadG F rfl rfl rfl (by first | exact m0 | exact m1) Try.underlying27 rfl uinfoTuningI rfl ?_)) | (go_at_call 16; ((with_reducible refine (HK.out _ F.below).mono ?_); rintro e w1 ⟨u, rfl, hu, hfu, hl⟩; have HU := hid hu; have HFU := hid hfu; replace F := F.le hl; have c1 := (F.row m1).cell? 1; have c2 := (F.row m1).cell? 2; clear hl hu hfu)) | (with_reducible refine stop_store (ty := 27) rfl ?_))
    show wpList _ _ _ _ _ _
    refine wpList_storeD rfl rfl rfl (cells := #[.float .f32 0, .float .f32 0, .slice none 0 0]) rfl (F.row m0) uinfoTuningI rfl (by simp [Value.oneCell']) (fun w4 K4 => ?_)
    have R := hid K4.row
    have L := hid (F.wr0 K4).below
    clear K4 F
    go_wp2
    exact bodyPost_ret (results_row2 rfl _ _ _ _ _ rfl R.out Try.underlying27 rfl uinfoTuningI) rfl ⟨[.float .f32 0, .float .f32 0, .slice none 0 0], rfl, layTun0 _ _, L.out⟩
set_option maxRecDepth 100000 in
set_option maxHeartbeats 4000000 in
theorem i_TurnTuning_go (b o : Nat) (x : Nat → Nat) (n : Nat) (B : Nat) (s : Value) (w : World) (hs : (slT x n).RdN w B s) (D : Nat) (hD : D < n) (fo : fits .f32 o) (h : codeH b o x n D = 0) (R0 : List CD) (k0 : Int) (hok : (okT (khR b o x n D) o (tnX o x n D) n = true ∧ R0 = cdTn (khR b o x n D) o (tnX o x n D) n ∧ k0 = 0) ∨ (okT (khR b o x n D) o (tnX o x n D) n = false ∧ R0 = cdT0 ∧ k0 = 4)) : Calls Try.prog 7 #[.agg #[.float .f32 b, .float .f32 o, s], .int .i64 (D : Int)] w (OutV_Ti R0 k0 w) := by
  have HK := hid (fun (w' : World) (hl : le w w') => i_KeyHertzF b o x n B s w' (hs.le hl) D)
  rw [h] at HK
  obtain ⟨hn, hn31⟩ : 1 ≤ n ∧ n ≤ 31 := by
    unfold codeH at h
    cases hk : okT b o x n
    · rw [hk] at h; simp at h
    · exact okT_n hk
  obtain ⟨M, rfl⟩ : ∃ M, n = D + M := ⟨n - D, by omega⟩
  obtain ⟨bb, p, cap, y, rfl, hc, hm, hx⟩ := slT_raw hs hn
  unfold maxLen at hm
  have HCL := hid (fun i hi => (hx i hi).1)
  have HCN : Hid (∀ i, i < D + M → can .f32 (y i) = can .f32 (x i)) := fun i hi => by rw [← (hx i hi).2.2, can_can]
  have HOK := hid hok
  have HFO := hid fo
  have HIN : Hid (∃ i, Try.prog.info? 22 = some i ∧ i.zero = some (.float .f32 0) ∧ i.size = 1 ∧ i.bytes = 4) := info36
  obtain ⟨i0, HIN⟩ := HIN
  replace HIN := hid HIN
  clear hs h hx hok fo
  have F := ((Frg.nil w).box 27 #[.float .f32 b, .float .f32 o, .slice (some ⟨bb, p, none⟩) (D + M) cap]).box 27 #[.float .f32 0, .float .f32 0, .slice none 0 0]
  simp only [World.size_alloc] at F
  have HKC := hid (can_khR b o x (D + M) (D : Int))
  generalize khR b o x (D + M) (D : Int) = kv at *
  have hd0 : decide ((D : Int) < 0) = false := decide_eq_false (by omega)
  have hd1 : decide ((D : Int) + (M : Int) ≤ (D : Int)) = false := decide_eq_false (by omega)
  have hd3 : decide (((D + M : Nat) : Int) ≤ (D : Int)) = false := decide_eq_false (by omega)
  have hd2 : decide (D + M ≤ D) = false := decide_eq_false (by omega)
  have hd4 : decide (M = 0) = false := decide_eq_false (by omega)
  have hDn : (D : Int) < ((D + M : Nat) : Int) := by omega
  have hcp1 : ¬ (cap : Int) = (D : Int) := by omega
  have hcp2 : ¬ (D : Int) = (cap : Int) := by omega
  have hcp3 : ¬ D = cap := by omega
  have hcp4 : ¬ cap = D := by omega
  go_enter Try.func7, Try.ntmps7
  go_wp2_with (first | ((with_reducible refine at_loadU (ty := 27) rfl rfl ?_); (with_reducible refine wpList_loadG F rfl rfl rfl (by first | exact m0 | exact m1) Try.underlying27 rfl uinfoTuningI rfl ?_)) | (go_at_call 16; ((with_reducible refine (HK.out _ F.below).mono ?_); rintro e w1 ⟨u, rfl, hu, hfu, hl⟩; have HU := hid hu; have HFU := hid hfu; replace F := F.le hl; have cD := (Below.cell F.below (cell_lt' (HCL.out D hD))).trans (HCL.out D hD); have hz0 : w.heap.size < w1.heap.size := (F.facts _ m1).2.1; have hz1 : w.heap.size + 1 < w1.heap.size := (F.facts _ m0).2.1; have c1 := (F.row m1).cell? 1; have c2 := (F.row m1).cell? 2; clear hl hu hfu)))
  have F0 := hid (F.box 27 #[.float .f32 u, .float .f32 o, .slice none 0 0])
  obtain ⟨g0, hg0⟩ : ∃ g0, g0 = w1.heap.size := ⟨_, rfl⟩
  obtain ⟨g1, hg1⟩ : ∃ g1, g1 = g0 + 1 := ⟨_, rfl⟩
  rw [← hg0] at F0 hz0 hz1
  have OR : Hid ((w1.alloc (.cells #[.float .f32 u, .float .f32 o, .slice none 0 0] 27)).ownsRow g1 22 1 (.slice none 0 0) 0 (flist (fun _ => 0) 0)) := ⟨rfl, .inl ⟨rfl, rfl⟩⟩
  have hg2 := hid (show g1 ≤ (w1.alloc (.cells #[.float .f32 u, .float .f32 o, .slice none 0 0] 27)).heap.size by simp; omega)
  have hgw : w.heap.size ≤ g1 := by omega
  have hgg : g0 + 1 ≤ g1 := by omega
  have HG0 := hid hg0
  clear F hg1 c1 c2
  rw [← hg0]
  clear hg0 cD
  go_loopw [48] (fun i wr => ∃ (j : Nat) (v : Value), j ≤ M ∧ i = .int .i64 j ∧ ∃ y2 : Nat → Nat, Hid (∀ i, i < j → fits .f32 (y2 i) ∧ can .f32 (y2 i) = tnX o x (D + M) D i) ∧ Hid (wr.ownsRow g1 22 1 v (j) (flist y2 (j))) ∧ Hid (g1 ≤ wr.heap.size) ∧ Hid (Frg w wr [rowF g0 27 #[.float .f32 u, .float .f32 o, v], rowF (w.heap.size + 1) 27 #[.float .f32 0, .float .f32 0, .slice none 0 0], rowF w.heap.size 27 #[.float .f32 b, .float .f32 o, .slice (some ⟨bb, p, none⟩) (D + M) cap]])) (fun i _ => M - (intOf i).toNat)
  case atStart => exact ⟨0, .slice none 0 0, by omega, rfl, fun _ => 0, fun m hm => absurd hm (by omega), OR.out, hg2.out, F0.out⟩
  case round =>
    obtain ⟨j, v, hj, rfl, y2, HJ, HW, HSZ, FJ⟩ := hrel
    by_cases hlt : j < M
    · have hjK : (j : Int) < (M : Int) := by omega
      have hjm : (j : Int) ≤ 31 := by omega
      have c0 := (FJ.out.row m0).cell? 2
      have c1 := (FJ.out.row m2).cell? 1
      have c2 := (FJ.out.row m2).cell? 2
      rename_i wr _
      have cj := (Below.cell FJ.out.below (cell_lt' (HCL.out (D + j) (by omega)))).trans (HCL.out (D + j) (by omega))
      rw [show p + (D + j) = p + D + j by omega] at cj
      go_wp2_with (first | (with_reducible refine wpList_farith (op := .sub) rfl rfl rfl rfl rfl ?_; intro r nr er fr) | (at_builtin; refine wpList_append_own _ rfl _ _ 23 rfl g1 22 i0 (.float .f32 0) 1 4 Try.underlying23 HIN.out.1 HIN.out.2.1 HIN.out.2.2.1 HIN.out.2.2.2 rfl (by decide) _ _ _ rfl ((ownsRow_drewN HW.out _).alloc _) ⟨wr.heap.size, 0, none⟩ 1 1 [.float .f32 r] rfl rfl (fun j x hj => by match j, hj with | 0, hj => simp at hj; subst hj; exact (Row.new (wr.drewN nr) 22 #[.float .f32 r]).cell? 0) (fun x hx => by simp at hx; subst hx; rfl) (by unfold maxLen; omega) (by omega) (by have := HSZ.out; simp; omega) ?_; intro v' w5 hown hgr _; have HOWN := hid hown; have HGR := hid hgr; clear hown hgr) | (with_reducible refine stop_store (ty := 23) rfl ?_))
      have hch : Chg (g1 ≤ ·) wr w5 := (Chg.of_le (le_trans (le_drewN wr _) (le_alloc _ _))).trans (chg_grown HGR.out (ownBlock_ge HW.out))
      have F5 := FJ.out.up hch (by simp [rowF]; omega) (by omega)
      show wpList _ _ _ _ _ _
      refine wpList_store1 rfl rfl (f := 2) rfl rfl (F5.row m0) uinfo1Float32S (by simp) (ownsRow_one HOWN.out) #[.float .f32 u, .float .f32 o, v'] rfl (fun w6 K6 => ?_)
      have F6 := hid (F5.wr0 K6)
      have HW6 := hid (ownsRow_wr HOWN.out K6 (by omega))
      have HS6 := hid (show g1 ≤ w6.heap.size from by rw [K6.size]; exact Nat.le_trans HSZ.out hch.size)
      clear F5 K6 hch
      go_wp2
      go_roundw
      case rel =>
        refine ⟨j + 1, v', by omega, by go_num, fun i => if i = j then r else y2 i, ?_, ?_, HS6.out, F6.out⟩
        · have := fill_step (p := fun i v => fits .f32 v ∧ can .f32 v = tnX o x (D + M) D i) HJ.out ⟨fr.out, (er.out.trans (fop_congr (HCN.out _ (by omega)) (HCN.out _ hD))).trans (tnX_a (by omega)).symm⟩
          exact this
        · have := HW6.out
          rw [flist_snoc] at this
          exact this
      case measure => simp [intOf]; omega
    · have ej : M = j := by omega
      subst ej
      have F0 := FJ
      have HZ0 := HSZ
      have HW0 := HW
      have HJ0 := HJ
      have c2 := (FJ.out.row m2).cell? 2
      go_wp2_with fail
      clear hlt hj FJ HSZ HW HJ
      go_loopw [66] (fun i wr => ∃ (j : Nat) (v : Value), j ≤ D ∧ i = .int .i64 j ∧ ∃ y2 : Nat → Nat, Hid (∀ i, i < M + j → fits .f32 (y2 i) ∧ can .f32 (y2 i) = tnX o x (D + M) D i) ∧ Hid (wr.ownsRow g1 22 1 v (M + j) (flist y2 (M + j))) ∧ Hid (g1 ≤ wr.heap.size) ∧ Hid (Frg w wr [rowF g0 27 #[.float .f32 u, .float .f32 o, v], rowF (w.heap.size + 1) 27 #[.float .f32 0, .float .f32 0, .slice none 0 0], rowF w.heap.size 27 #[.float .f32 b, .float .f32 o, .slice (some ⟨bb, p, none⟩) (D + M) cap]])) (fun i _ => D - (intOf i).toNat)
      case atStart => exact ⟨0, _, by omega, rfl, y2, HJ0.out, HW0.out, HZ0.out, F0.out⟩
      case round =>
        obtain ⟨j, v, hj, rfl, y2, HJ, HW, HSZ, FJ⟩ := hrel
        by_cases hlt : j < D
        · have hjK : (j : Int) < (D : Int) := by omega
          have hjm : (j : Int) ≤ 31 := by omega
          have c0 := (FJ.out.row m0).cell? 2
          have c1 := (FJ.out.row m2).cell? 1
          have c2 := (FJ.out.row m2).cell? 2
          rename_i wr _
          have cj := (Below.cell FJ.out.below (cell_lt' (HCL.out j (by omega)))).trans (HCL.out j (by omega))
          go_wp2_with (first | (with_reducible refine wpList_farith (op := .add) rfl rfl rfl rfl rfl ?_; intro ad nad ead fad) | (with_reducible refine wpList_farith (op := .sub) rfl rfl rfl rfl rfl ?_; intro r nr er fr) | (at_builtin; refine wpList_append_own _ rfl _ _ 23 rfl g1 22 i0 (.float .f32 0) 1 4 Try.underlying23 HIN.out.1 HIN.out.2.1 HIN.out.2.2.1 HIN.out.2.2.2 rfl (by decide) _ _ _ rfl ((ownsRow_drewN HW.out _).alloc _) ⟨wr.heap.size, 0, none⟩ 1 1 [.float .f32 r] rfl rfl (fun j x hj => by match j, hj with | 0, hj => simp at hj; subst hj; exact (Row.new (wr.drewN (nad + nr)) 22 #[.float .f32 r]).cell? 0) (fun x hx => by simp at hx; subst hx; rfl) (by unfold maxLen; omega) (by omega) (by have := HSZ.out; simp; omega) ?_; intro v' w5 hown hgr _; have HOWN := hid hown; have HGR := hid hgr; clear hown hgr) | (with_reducible refine stop_store (ty := 23) rfl ?_))
          have hch : Chg (g1 ≤ ·) wr w5 := (Chg.of_le (le_trans (le_drewN wr _) (le_alloc _ _))).trans (chg_grown HGR.out (ownBlock_ge HW.out))
          have F5 := FJ.out.up hch (by simp [rowF]; omega) (by omega)
          show wpList _ _ _ _ _ _
          refine wpList_store1 rfl rfl (f := 2) rfl rfl (F5.row m0) uinfo1Float32S (by simp) (ownsRow_one HOWN.out) #[.float .f32 u, .float .f32 o, v'] rfl (fun w6 K6 => ?_)
          have F6 := hid (F5.wr0 K6)
          have HW6 := hid (ownsRow_wr HOWN.out K6 (by omega))
          have HS6 := hid (show g1 ≤ w6.heap.size from by rw [K6.size]; exact Nat.le_trans HSZ.out hch.size)
          clear F5 K6 hch
          go_wp2
          go_roundw
          case rel =>
            refine ⟨j + 1, v', by omega, by go_num, fun i => if i = M + j then r else y2 i, ?_, ?_, HS6.out, F6.out⟩
            · have := fill_step (p := fun i v => fits .f32 v ∧ can .f32 v = tnX o x (D + M) D i) HJ.out ⟨fr.out, by rw [er.out, tnX_b (by omega), show D + (M + j) - (D + M) = j by omega]; exact fop_congr (by rw [ead.out, can_fop]; exact fop_congr (HCN.out _ (by omega)) rfl) (HCN.out _ hD)⟩
              exact this
            · have := HW6.out
              rw [flist_snoc] at this
              exact this
          case measure => simp [intOf]; omega
        · have ej : D = j := by omega
          subst ej
          have OW := hid (own_of_row HW.out HJ.out)
          have eMD : M + D = D + M := Nat.add_comm _ _
          rw [eMD] at OW HW HJ
          have RD := hid (fun (w' : World) (hl : le wr w') => (OW.out.rdN).le hl)
          have EU := hid (okT_congr (o := o) (x := tnX o x (D + M) D) (n := D + M) (HU.out.trans HKC.out.symm : can .f32 u = can .f32 kv))
          have F := FJ.out
          rcases HOK.out with ⟨hok, rfl, rfl⟩ | ⟨hok, rfl, rfl⟩
          · have HO := hid (fun (w' : World) (hl : le wr w') => i_onlyValid_yes u o (tnX o x (D + M) D) (D + M) _ _ w' (RD.out w' hl) 4 (EU.out.trans hok))
            clear hok
            go_wp2_with (first | ((with_reducible refine at_loadU (ty := 27) rfl rfl ?_); (with_reducible refine wpList_loadG F rfl rfl rfl (by first | exact m0) Try.underlying27 rfl uinfoTuningI rfl ?_)) | (go_at_call 17; ((with_reducible refine (HO.out _ (le_refl _)).mono ?_); rintro e w3 ⟨rfl, hl⟩; have HL3 := hid hl; clear hl)) | (with_reducible refine stop_store (ty := 27) rfl ?_))
            have F3 := F.le HL3.out
            show wpList _ _ _ _ _ _
            refine wpList_storeD rfl rfl rfl (cells := #[.float .f32 u, .float .f32 o, v]) rfl (F3.row m1) uinfoTuningI rfl (by (simp only [List.all_toArray', List.all_cons, List.all_nil, Bool.and_true, Bool.true_and, OW.out.one]) <;> rfl) (fun w4 K4 => ?_)
            have R := hid K4.row
            have L := hid (F3.wr1 K4).below
            have OW2 := hid (own_of_row (ownsRow_wr (ownsRow_le HW.out HL3.out) K4 (by omega)) HJ.out)
            clear K4 F3 F
            go_wp2
            exact bodyPost_ret (results_row2 rfl _ _ _ _ _ rfl R.out Try.underlying27 rfl uinfoTuningI) rfl ⟨[.float .f32 u, .float .f32 o, v], rfl, layTn _ _ _ _ (OW2.out.mono hgw (Nat.le_refl _)) HFU.out HU.out HFO.out, L.out⟩
          · have HO := hid (fun (w' : World) (hl : le wr w') => i_onlyValid_no u o (tnX o x (D + M) D) (D + M) _ _ w' (RD.out w' hl) 4 (EU.out.trans hok))
            clear hok
            go_wp2_with (first | ((with_reducible refine at_loadU (ty := 27) rfl rfl ?_); (with_reducible refine wpList_loadG F rfl rfl rfl (by first | exact m0) Try.underlying27 rfl uinfoTuningI rfl ?_)) | (go_at_call 17; ((with_reducible refine (HO.out _ (le_refl _)).mono ?_); rintro e w3 ⟨rfl, hl⟩; have HL3 := hid hl; clear hl)) | (with_reducible refine stop_store (ty := 27) rfl ?_))
            have F3 := F.le HL3.out
            show wpList _ _ _ _ _ _
            refine wpList_storeD rfl rfl rfl (cells := #[.float .f32 0, .float .f32 0, .slice none 0 0]) rfl (F3.row m1) uinfoTuningI rfl (by simp [Value.oneCell']) (fun w4 K4 => ?_)
            have R := hid K4.row
            have L := hid (F3.wr1 K4).below
            clear K4 F3 F
            go_wp2
            exact bodyPost_ret (results_row2 rfl _ _ _ _ _ rfl R.out Try.underlying27 rfl uinfoTuningI) rfl ⟨[.float .f32 0, .float .f32 0, .slice none 0 0], rfl, layTun0 _ _, L.out⟩
end Go.Proofs.Ytccichnnljhbdac

/- 'TurnTuning' of the model. -/
namespace Go.Fk
open Go Go.RowKit Go.Proofs.Ytccichnnljhbdac
theorem val_4800 : val .f32 1167458304 = 4800 * 2 ^ 149 ∧ isNan .f32 1167458304 = false := by decide +kernel
theorem k4800 : (4800 : Int) * 2 ^ 149 ≤ 2 ^ 165 := by decide +kernel
theorem okT_num {b o : Nat} {x : Nat → Nat} {n : Nat} (h : okT b o x n = true) : (∃ s m e, FloatKind.f32.format.read o = .number s m e) ∧ ∀ i, i < n → isNan .f32 (x i) = false ∧ ∃ s m e, FloatKind.f32.format.read (x i) = .number s m e := by
  have hn := (okT_n h).1
  unfold okT degB at h
  rw [Bool.and_eq_true, Bool.and_eq_true, Bool.and_eq_true, Bool.and_eq_true, Bool.and_eq_true] at h
  obtain ⟨_, ho, _, _, h0, hd⟩ := h
  obtain ⟨hon, ho1, ho2⟩ := within_val val_1f.2 val_4800.2 ho
  rw [val_1f.1] at ho1
  rw [val_4800.1] at ho2
  have f1 := k4800
  have f2 := far_166
  have f3 : (2 : Int) ^ 165 < 2 ^ 166 := by decide
  have f4 : (0 : Int) < 2 ^ 149 := by decide
  generalize (4800 : Int) * 2 ^ 149 = C at *
  generalize (2 : Int) ^ 149 = U at *
  generalize (2 : Int) ^ 165 = A at *
  generalize (2 : Int) ^ 166 = G at *
  refine ⟨finite_num hon (by omega) (by omega), ?_⟩
  rw [← deg_eq hn] at hd
  have hz : x 0 = 0 := by
    refine of_canK (k := .f32) ?_ (by decide)
    have e : can .f32 0 = 0 := by decide
    unfold sameB at h0
    rw [e] at h0
    simpa using h0
  have key : ∀ i, i < n → isNan .f32 (x i) = false ∧ 0 ≤ val .f32 (x i) ∧ val .f32 (x i) < val .f32 o := by
    intro i
    induction i with
    | zero =>
      intro hi
      have a := allB_all hd 0 hi
      unfold stepD at a
      rw [Bool.and_eq_true] at a
      obtain ⟨a1, _, a3⟩ := ltB_val.1 a.2
      refine ⟨a1, ?_, a3⟩
      rw [hz]
      decide
    | succ i ih =>
      intro hi
      have a := allB_all hd (i + 1) hi
      unfold stepD at a
      rw [Bool.and_eq_true] at a
      obtain ⟨a1, _, a3⟩ := ltB_val.1 a.2
      have a4 : gtB (x (i + 1)) (x i) = true := by simpa using a.1
      obtain ⟨_, _, a5⟩ := gtB_val.1 a4
      have := (ih (by omega)).2.1
      exact ⟨a1, by omega, a3⟩
  intro i hi
  obtain ⟨a1, a2, a3⟩ := key i hi
  exact ⟨a1, finite_num a1 (by omega) (by omega)⟩
theorem add_numT {x y : Nat} {s t : Bool} {m n : Nat} {i j : Int} (hrx : FloatKind.f32.format.read x = .number s m i) (hry : FloatKind.f32.format.read y = .number t n j) : isNan .f32 (fop .add .f32 x y) = false := by
  obtain ⟨sg, hb⟩ : ∃ sg, floatBits .add .f32 x y = some (FloatKind.f32.format.nearest sg (Ieee.signed s m (i - min i j).toNat + Ieee.signed t n (j - min i j).toNat).natAbs (min i j)) := ⟨_, by
    simp only [floatBits, Ieee.Format.add, hrx, hry, Ieee.Datum.sum, Option.map_some]; rfl⟩
  have hf : fop .add .f32 x y = FloatKind.f32.format.nearest sg (Ieee.signed s m (i - min i j).toNat + Ieee.signed t n (j - min i j).toNat).natAbs (min i j) := by
    unfold fop; rw [hb]; exact can_of_not (isNan_nearest _ _ _ _)
  rw [hf]; exact isNan_nearest _ _ _ _
theorem sub_notNan {x y : Nat} {t : Bool} {n : Nat} {j : Int} (hx : isNan .f32 x = false) (hry : FloatKind.f32.format.read y = .number t n j) : isNan .f32 (fop .sub .f32 x y) = false := by
  cases hr : FloatKind.f32.format.read x with
  | nan s t => simp [isNan, hr, Ieee.Datum.isNaN] at hx
  | number s m i => exact (sub_num hr hry).1
  | infinity s =>
    have hb : ∃ z, floatBits .sub .f32 x y = some z ∧ isNan .f32 z = false := by
      simp only [floatBits, Ieee.Format.sub, hr, hry, Ieee.Datum.opposite, Ieee.Datum.sum, Option.map_some]
      refine ⟨_, rfl, ?_⟩
      cases s <;> decide
    obtain ⟨z, hz, hn⟩ := hb
    rw [fop_some hz hn]; exact hn
theorem tnX_num {b o : Nat} {x : Nat → Nat} {n d i : Nat} (h : okT b o x n = true) (hd : d < n) (hi : i < n) : isNan .f32 (tnX o x n d i) = false := by
  obtain ⟨⟨_, _, _, ho⟩, hx⟩ := okT_num h
  obtain ⟨_, _, _, _, h0⟩ := hx d hd
  by_cases c : d + i < n
  · rw [tnX_a c]; exact sub_notNan (hx (d + i) c).1 h0
  · rw [tnX_b c]
    obtain ⟨_, _, _, _, h1⟩ := hx (d + i - n) (by omega)
    exact sub_notNan (add_numT h1 ho) h0
theorem addo_num {b o : Nat} {x : Nat → Nat} {n i : Nat} (h : okT b o x n = true) (hi : i < n) : isNan .f32 (fop .add .f32 (x i) o) = false := by
  obtain ⟨⟨_, _, _, ho⟩, hx⟩ := okT_num h
  obtain ⟨_, _, _, _, h1⟩ := hx i hi
  exact add_numT h1 ho
theorem fits_fopT (op : BinOp) (k : FloatKind) (x y : Nat) : fits k (fop op k x y) := by
  unfold fop
  split
  · rename_i r h
    unfold can; split
    · cases k <;> simp [fits, Lit.wf, qnan]
    · exact floatBits_wf h
  · cases k <;> simp [fits, Lit.wf, qnan]
theorem fits_tnX {o : Nat} {x : Nat → Nat} {n d i : Nat} : fits .f32 (tnX o x n d i) ∧ can .f32 (tnX o x n d i) = tnX o x n d i := by
  unfold tnX
  split <;> exact ⟨fits_fopT _ _ _ _, can_fop _ _ _ _⟩
theorem flist_succT (y : Nat → Nat) (n : Nat) : flist y n ++ [.float .f32 (y n)] = flist y (n + 1) := by simp [flist, List.range_succ]
theorem appX_cellT {W w : World} {base : Nat} {e : TypeId} {z : Nat} {v : Value} {n : Nat} {xs : List Value} {m : Nat} {news : List Value} (hw : (appX base e z v n xs m news).R W w) {p : Addr} {x : Value} (hc : W.cell? p = some x) (hp : v.ownBlock ≠ some p.block) : w.cell? p = some x :=
  (cell_of_heap (hw.1.block _ (World.block_lt_of_cell? W _ hc) hp)).trans hc
theorem fill_oneT (ti : TypeInfo) (r : Nat) (h : ti.size = 1) : Instr.fill (fun i => some (i * ti.size, ti.size)) ((Array.range (1 * ti.size)).map ((.float .f32 0 : Value).cells[· % (.float .f32 0 : Value).cells.size]!)) (#[(0, .float .f32 r)] : Array (Nat × Value)).toList = some #[.float .f32 r] := by
  rw [h]
  have hr : Array.range (1 * 1) = #[0] := by decide
  rw [hr]
  simp [Instr.fill, Value.cells]
end Go.Fk
namespace Go.Proofs.Ytccichnnljhbdac
open Go.RowKit Go.Fk
set_option maxRecDepth 100000 in
set_option maxHeartbeats 4000000 in
theorem s_TurnTuning_no1 (b o : Nat) (x : Nat → Nat) (n : Nat) (B : Nat) (s : Value) (w : World) (hs : (slT x n).RdN w B s) (d : Int) (h : okT b o x n = false) : Calls Try.prog 5 #[.agg #[.float .f32 b, .float .f32 o, s], .int .i64 d] w (OutV_Ti cdT0 1 w) := by
  have HV := hid (fun (w' : World) (g : Nat) (hl : le w w') (R : Row w' g 27 #[.float .f32 b, .float .f32 o, s]) => s_l07Ok b o x n B s w' (hs.le hl) g R)
  rw [h] at HV
  clear hs h
  have F := ((Frg.nil w).box 27 #[.float .f32 b, .float .f32 o, s]).box 27 #[.float .f32 0, .float .f32 0, .slice none 0 0]
  simp only [World.size_alloc] at F
  go_enter Try.func5, Try.ntmps5
  go_wp2_with (first | (go_at_call 12; ((with_reducible refine (HV.out _ _ F.below (F.row m1)).mono ?_); rintro e w1 ⟨rfl, hl⟩; replace F := F.le hl; clear hl)) | (with_reducible refine stop_store (ty := 27) rfl ?_))
  show wpList _ _ _ _ _ _
  refine wpList_storeD rfl rfl rfl (cells := #[.float .f32 0, .float .f32 0, .slice none 0 0]) rfl (F.row m0) uinfoTuningI rfl (by simp [Value.oneCell']) (fun w4 K4 => ?_)
  have R := hid K4.row
  have L := hid (F.wr0 K4).below
  clear K4 F
  go_wp2
  exact bodyPost_ret (results_row2 rfl _ _ _ _ _ rfl R.out Try.underlying27 rfl uinfoTuningI) rfl ⟨[.float .f32 0, .float .f32 0, .slice none 0 0], rfl, layTun0 _ _, L.out⟩
set_option maxRecDepth 100000 in
set_option maxHeartbeats 4000000 in
theorem s_TurnTuning_no2 (b o : Nat) (x : Nat → Nat) (n : Nat) (B : Nat) (s : Value) (w : World) (hs : (slT x n).RdN w B s) (d : Int) (h : okT b o x n = true) (h2 : okD d n = false) : Calls Try.prog 5 #[.agg #[.float .f32 b, .float .f32 o, s], .int .i64 d] w (OutV_Ti cdT0 2 w) := by
  have HV := hid (fun (w' : World) (g : Nat) (hl : le w w') (R : Row w' g 27 #[.float .f32 b, .float .f32 o, s]) => s_l07Ok b o x n B s w' (hs.le hl) g R)
  rw [h] at HV
  obtain ⟨hn, hn31⟩ := okT_n h
  have HI := hid (fun w' => s_In d 0 ((n : Int) - 1) w')
  unfold okD at h2
  rw [h2] at HI
  obtain ⟨bb, p, cap, y, rfl, hc, hm, hx⟩ := slT_raw hs hn
  unfold maxLen at hm
  clear hs h h2 hx
  have F := ((Frg.nil w).box 27 #[.float .f32 b, .float .f32 o, .slice (some ⟨bb, p, none⟩) n cap]).box 27 #[.float .f32 0, .float .f32 0, .slice none 0 0]
  simp only [World.size_alloc] at F
  have c2 := (F.row m1).cell? 2
  go_enter Try.func5, Try.ntmps5
  go_wp2_with (first | (go_at_call 12; ((with_reducible refine (HV.out _ _ F.below (F.row m1)).mono ?_); rintro e w1 ⟨rfl, hl⟩; replace F := F.le hl; have c2 := (F.row m1).cell? 2; clear hl)) | (go_at_call 13; ((with_reducible refine (HI.out _).mono ?_); rintro e w1 ⟨rfl, rfl⟩)) | (with_reducible refine stop_store (ty := 27) rfl ?_))
  show wpList _ _ _ _ _ _
  refine wpList_storeD rfl rfl rfl (cells := #[.float .f32 0, .float .f32 0, .slice none 0 0]) rfl (F.row m0) uinfoTuningI rfl (by simp [Value.oneCell']) (fun w4 K4 => ?_)
  have R := hid K4.row
  have L := hid (F.wr0 K4).below
  clear K4 F
  go_wp2
  exact bodyPost_ret (results_row2 rfl _ _ _ _ _ rfl R.out Try.underlying27 rfl uinfoTuningI) rfl ⟨[.float .f32 0, .float .f32 0, .slice none 0 0], rfl, layTun0 _ _, L.out⟩
set_option maxRecDepth 100000 in
set_option maxHeartbeats 4000000 in
theorem s_TurnTuning_no3 (b o : Nat) (x : Nat → Nat) (n : Nat) (B : Nat) (s : Value) (w : World) (hs : (slT x n).RdN w B s) (D : Nat) (hD : D < n) (h : okT b o x n = true) (h2 : okTw (hqV o x n D) = false) : Calls Try.prog 5 #[.agg #[.float .f32 b, .float .f32 o, s], .int .i64 (D : Int)] w (OutV_Ti cdT0 2 w) := by
  have HV := hid (fun (w' : World) (g : Nat) (hl : le w w') (R : Row w' g 27 #[.float .f32 b, .float .f32 o, s]) => s_l07Ok b o x n B s w' (hs.le hl) g R)
  rw [h] at HV
  obtain ⟨hn, hn31⟩ := okT_n h
  have HC := hid (fun (w' : World) (g : Nat) (hl : le w w') (R : Row w' g 27 #[.float .f32 b, .float .f32 o, s]) => s_l07Hertz b o x n B s w' (hs.le hl) (D : Int) (by omega) (by omega) hn hn31 g R)
  rw [h2] at HC
  have HI := hid (fun w' => s_In (D : Int) 0 ((n : Int) - 1) w')
  rw [show (decide ((0 : Int) ≤ (D : Int)) && decide ((D : Int) ≤ (n : Int) - 1)) = true by simp; omega] at HI
  obtain ⟨bb, p, cap, y, rfl, hc, hm, hx⟩ := slT_raw hs hn
  unfold maxLen at hm
  clear hs h h2 hx
  have F := ((Frg.nil w).box 27 #[.float .f32 b, .float .f32 o, .slice (some ⟨bb, p, none⟩) n cap]).box 27 #[.float .f32 0, .float .f32 0, .slice none 0 0]
  simp only [World.size_alloc] at F
  have c2 := (F.row m1).cell? 2
  go_enter Try.func5, Try.ntmps5
  go_wp2_with (first | (go_at_call 12; ((with_reducible refine (HV.out _ _ F.below (F.row m1)).mono ?_); rintro e w1 ⟨rfl, hl⟩; replace F := F.le hl; have c2 := (F.row m1).cell? 2; clear hl)) | (go_at_call 13; ((with_reducible refine (HI.out _).mono ?_); rintro e w1 ⟨rfl, rfl⟩)) | (go_at_call 14; ((with_reducible refine (HC.out _ _ F.below (F.row m1)).mono ?_); rintro e w1 ⟨u, rfl, hu, hfu, hl⟩; have HU := hid hu; have HFU := hid hfu; replace F := F.le hl; clear hl hu hfu)) | (with_reducible refine stop_store (ty := 27) rfl ?_))
  show wpList _ _ _ _ _ _
  refine wpList_storeD rfl rfl rfl (cells := #[.float .f32 0, .float .f32 0, .slice none 0 0]) rfl (F.row m0) uinfoTuningI rfl (by simp [Value.oneCell']) (fun w4 K4 => ?_)
  have R := hid K4.row
  have L := hid (F.wr0 K4).below
  clear K4 F
  go_wp2
  exact bodyPost_ret (results_row2 rfl _ _ _ _ _ rfl R.out Try.underlying27 rfl uinfoTuningI) rfl ⟨[.float .f32 0, .float .f32 0, .slice none 0 0], rfl, layTun0 _ _, L.out⟩
set_option maxRecDepth 100000 in
set_option maxHeartbeats 4000000 in
theorem s_TurnTuning_go (b o : Nat) (x : Nat → Nat) (n : Nat) (B : Nat) (s : Value) (w : World) (hs : (slT x n).RdN w B s) (D : Nat) (hD : D < n) (fo : fits .f32 o) (h : codeH b o x n D = 0) (R0 : List CD) (k0 : Int) (hok : (okT (khR b o x n D) o (tnX o x n D) n = true ∧ R0 = cdTn (khR b o x n D) o (tnX o x n D) n ∧ k0 = 0) ∨ (okT (khR b o x n D) o (tnX o x n D) n = false ∧ R0 = cdT0 ∧ k0 = 4)) : Calls Try.prog 5 #[.agg #[.float .f32 b, .float .f32 o, s], .int .i64 (D : Int)] w (OutV_Ti R0 k0 w) := by
  obtain ⟨ht, hk2, hw⟩ : okT b o x n = true ∧ okK D = true ∧ okTw (hqV o x n D) = true := by
    unfold codeH at h
    cases c1 : okT b o x n
    · rw [c1] at h; simp at h
    · cases c2 : okK D
      · rw [c1, c2] at h; simp at h
      · cases c3 : okTw (hqV o x n D)
        · rw [c1, c2, c3] at h; simp at h
        · exact ⟨rfl, rfl, rfl⟩
  have ev : khR b o x n D = khV b o x n D := by unfold khR; rw [ht, hk2, hw]; rfl
  obtain ⟨hn, hn31⟩ := okT_n ht
  obtain ⟨k1, k2⟩ := okK_in hk2
  have HN := hid (fun i (hi : i < n) => tnX_num ht hD hi)
  have HAN := hid (fun i (hi : i < n) => addo_num ht hi)
  have hnum := fun i (hi : i < n) => ((okT_num ht).2 i hi).1
  have HV := hid (fun (w' : World) (g : Nat) (hl : le w w') (R : Row w' g 27 #[.float .f32 b, .float .f32 o, s]) => s_l07Ok b o x n B s w' (hs.le hl) g R)
  rw [ht] at HV
  have HI := hid (fun w' => s_In (D : Int) 0 ((n : Int) - 1) w')
  rw [show (decide ((0 : Int) ≤ (D : Int)) && decide ((D : Int) ≤ (n : Int) - 1)) = true by simp; omega] at HI
  have HC := hid (fun (w' : World) (g : Nat) (hl : le w w') (R : Row w' g 27 #[.float .f32 b, .float .f32 o, s]) => s_l07Hertz b o x n B s w' (hs.le hl) (D : Int) k1 k2 hn hn31 g R)
  rw [hw, ← ev] at HC
  obtain ⟨bb, p, cap, y, rfl, hc, hm, hx⟩ := slT_raw hs hn
  unfold maxLen at hm
  have HCL : Hid (∀ i, i < n → w.cell? ⟨bb, p + i, none⟩ = some (.float .f32 (x i))) := fun i hi => by
    have e := of_canK (hx i hi).2.2 (hnum i hi)
    rw [(hx i hi).1, e]
  have HOK := hid hok
  have HFO := hid fo
  have HIN : Hid (∃ i, Try.prog.info? 22 = some i ∧ i.zero = some (.float .f32 0) ∧ i.size = 1 ∧ i.bytes = 4) := info36
  obtain ⟨i0, HIN⟩ := HIN
  replace HIN := hid HIN
  clear hs h hx hok fo ht hk2 hw ev hnum k1 k2
  have F := ((Frg.nil w).box 27 #[.float .f32 b, .float .f32 o, .slice (some ⟨bb, p, none⟩) n cap]).box 27 #[.float .f32 0, .float .f32 0, .slice none 0 0]
  simp only [World.size_alloc] at F
  have HKC := hid (can_khR b o x n (D : Int))
  generalize khR b o x n (D : Int) = kv at *
  have c2 := (F.row m1).cell? 2
  go_enter Try.func5, Try.ntmps5
  go_wp2_with (first | (go_at_call 12; ((with_reducible refine (HV.out _ _ F.below (F.row m1)).mono ?_); rintro e w1 ⟨rfl, hl⟩; replace F := F.le hl; have c2 := (F.row m1).cell? 2; clear hl)) | (go_at_call 13; ((with_reducible refine (HI.out _).mono ?_); rintro e w1 ⟨rfl, rfl⟩)) | (go_at_call 14; ((with_reducible refine (HC.out _ _ F.below (F.row m1)).mono ?_); rintro e w9 ⟨u, rfl, hu, hfu, hl⟩; have HU := hid hu; have HFU := hid hfu; replace F := F.le hl; have c1 := (F.row m1).cell? 1; have c2 := (F.row m1).cell? 2; have hz0 : w.heap.size < w9.heap.size := (F.facts _ m1).2.1; have hz1 : w.heap.size + 1 < w9.heap.size := (F.facts _ m0).2.1; clear hl hu hfu)))
  have F0 := hid (F.box 27 #[.float .f32 u, .float .f32 o, .slice none 0 0])
  obtain ⟨g0, hg0⟩ : ∃ g0, g0 = w9.heap.size := ⟨_, rfl⟩
  obtain ⟨g1, hg1⟩ : ∃ g1, g1 = g0 + 1 := ⟨_, rfl⟩
  rw [← hg0] at F0 hz0 hz1
  have OR : Hid ((w9.alloc (.cells #[.float .f32 u, .float .f32 o, .slice none 0 0] 27)).ownsRow g1 22 1 (.slice none 0 0) 0 (flist (tnX o x n D) 0)) := ⟨rfl, .inl ⟨rfl, rfl⟩⟩
  have hg2 := hid (show g1 ≤ (w9.alloc (.cells #[.float .f32 u, .float .f32 o, .slice none 0 0] 27)).heap.size by simp; omega)
  have hgw : w.heap.size ≤ g1 := by omega
  have hgg : g0 + 1 ≤ g1 := by omega
  have HG0 := hid hg0
  clear F hg1 c1 c2
  rw [← hg0]
  clear hg0
  go_loopw [10] (fun i wr => ∃ (j : Nat) (v : Value), j ≤ n ∧ i = .int .i64 j ∧ Hid (wr.ownsRow g1 22 1 v j (flist (tnX o x n D) j)) ∧ Hid (g1 ≤ wr.heap.size) ∧ Hid (Frg w wr [rowF g0 27 #[.float .f32 u, .float .f32 o, v], rowF (w.heap.size + 1) 27 #[.float .f32 0, .float .f32 0, .slice none 0 0], rowF w.heap.size 27 #[.float .f32 b, .float .f32 o, .slice (some ⟨bb, p, none⟩) n cap]])) (fun i _ => n - (intOf i).toNat)
  case atStart => exact ⟨0, .slice none 0 0, by omega, rfl, OR.out, hg2.out, F0.out⟩
  case round =>
    obtain ⟨j, v, hj, rfl, HW, HSZ, FJ⟩ := hrel
    by_cases hlt : j < n
    · have hjK : (j : Int) < (n : Int) := by omega
      have hjm : (j : Int) ≤ 31 := by omega
      have c1 := (FJ.out.row m2).cell? 1
      have c2 := (FJ.out.row m2).cell? 2
      rename_i wr _
      by_cases hsp : D + j < n
      · obtain ⟨ix, hix⟩ : ∃ ix, ix = D + j := ⟨_, rfl⟩
        have hixn : ix < n := by omega
        have cj := (Below.cell FJ.out.below (cell_lt' (HCL.out ix hixn))).trans (HCL.out ix hixn)
        have hr1 : ((D : Int) + (j : Int)).tmod (n : Int) = (ix : Int) := by rw [Int.tmod_eq_of_lt (by omega) (by omega)]; omega
        have hr0 : ((D : Int) + (j : Int)) % (n : Int) = (ix : Int) := by rw [Int.emod_eq_of_lt (by omega) (by omega)]; omega
        have hge : ¬ (n : Int) ≤ (D : Int) + (j : Int) := by omega
        have hge2 : decide ((n : Int) ≤ (D : Int) + (j : Int)) = false := decide_eq_false hge
        have hixi : (ix : Int) < (n : Int) := by omega
        have hn0 : ¬ (n : Int) = 0 := by omega
        have etn : tnX o x n D j = fop .sub .f32 (x ix) (x D) := by rw [tnX_a hsp, hix]
        have HET := hid etn
        clear etn hix
        go_wp2_with fail
        go_quiet (fail)
        go_wp2_with fail
        have HE5 := HET
        have FD := (FJ.out.drewN nq).drewN 1
        have WLE : le wr ((wr.drewN nq).drewN 1) := le_trans (le_drewN _ _) (le_drewN _ _)
        have hch0 := FD.below.size
        have R9 := FD.row m0
        have R7 := FD.row m2
        have HO1 := ownsRow_le HW.out WLE
        have hol := ownsRow_lt HO1
        have far : ∀ q, q < g1 → v.ownBlock ≠ some q := fun q hq hh => by have := (hol q hh).1; omega
        have z0 := (Below.cell FD.below (cell_lt' (HCL.out D hD))).trans (HCL.out D hD)
        have hbb : bb < g1 := by have := cell_lt' (HCL.out D hD); have h2 : bb < w.heap.size := this; omega
        refine region_tailD (E := appX g1 22 1 v j (flist (tnX o x n D) j) 1 [.float .f32 (tnX o x n D j)]) (fun _ _ _ _ => True) 12 (by kernel_rfl) (by kernel_rfl) ?_
        simp only [List.take_succ_cons, List.take_zero, List.drop_succ_cons, List.drop_zero]
        refine wpFreeD_one rfl (.pointer (some ⟨g0, 2, none⟩)) (fun w1 _ => by kernel_rfl) ?_
        simp only [Act.put, List.setIfInBounds_toArray, List.set_cons_succ, List.set_cons_zero]
        refine wpFreeD_load1 rfl rfl rfl (p := ⟨g0, 2, none⟩) (fun w1 h1 => appX_cellT h1 (R9.cell? 2) (far _ (by show g0 < _; omega))) ukindFloat32S ?_
        simp only [Act.put, List.setIfInBounds_toArray, List.set_cons_succ, List.set_cons_zero]
        refine wpFreeD_one rfl (.float .f32 (x ix)) (fun w1 _ => by kernel_rfl) ?_
        simp only [Act.put, List.setIfInBounds_toArray, List.set_cons_succ, List.set_cons_zero]
        refine wpFreeD_one rfl (.pointer (some ⟨w.heap.size, 2, none⟩)) (fun w1 _ => by kernel_rfl) ?_
        simp only [Act.put, List.setIfInBounds_toArray, List.set_cons_succ, List.set_cons_zero]
        refine wpFreeD_load1 rfl rfl rfl (p := ⟨w.heap.size, 2, none⟩) (fun w1 h1 => appX_cellT h1 (R7.cell? 2) (far _ (by show w.heap.size < _; omega))) ukindFloat32S ?_
        simp only [Act.put, List.setIfInBounds_toArray, List.set_cons_succ, List.set_cons_zero]
        refine wpFreeD_one rfl (.int .i64 (D : Int)) (fun w1 _ => by kernel_rfl) ?_
        simp only [Act.put, List.setIfInBounds_toArray, List.set_cons_succ, List.set_cons_zero]
        refine wpFreeD_indexW0 rfl rfl rfl rfl Try.underlying23 uinfo1Float32 hD ?_
        simp only [Act.put, List.setIfInBounds_toArray, List.set_cons_succ, List.set_cons_zero]
        refine wpFreeD_load1 rfl rfl rfl (p := ⟨bb, p + D * 1, none⟩) (fun w1 h1 => appX_cellT h1 (by rw [Nat.mul_one]; exact z0) (far _ hbb)) ukindFloat32 ?_
        simp only [Act.put, List.setIfInBounds_toArray, List.set_cons_succ, List.set_cons_zero]
        refine wpFreeD_farith rfl rfl rfl rfl rfl (fun r er fr => ?_)
        have er3 := of_canK (er.out.trans HET.out.symm) (HN.out j hlt)
        clear er fr
        subst er3
        simp only [Act.put, List.setIfInBounds_toArray, List.set_cons_succ, List.set_cons_zero]
        refine wpFreeD_madeX HO1 rfl (fun q => .slice (some ⟨q, 0, none⟩) 1 1) 22 #[.float .f32 (tnX o x n D j)] (fun w1 => ?_) (fun q => ?_)
        · have hb := run_buildSlice (P := Try.prog) w1 23 22 1 #[(0, .float .f32 (tnX o x n D j))] #[.float .f32 (tnX o x n D j)] i0 _ Try.underlying23 HIN.out.1 HIN.out.2.1 (by rw [HIN.out.2.2.1]; decide) (by rw [HIN.out.2.2.1]; decide) (fill_oneT _ _ HIN.out.2.2.1)
          simp [execOp, Act.eval, Result.andThen, hb]
        simp only [Act.put, List.setIfInBounds_toArray, List.set_cons_succ, List.set_cons_zero]
        refine wpFreeD_appK HO1 rfl rfl Try.underlying23 HIN.out.1 HIN.out.2.1 HIN.out.2.2.1 HIN.out.2.2.2 rfl (by omega) rfl (ad := ⟨q, 0, none⟩) rfl rfl (fun w1 h1 hbe => ?_) ?_ (by omega) (by unfold maxLen; omega) (by omega) (Nat.le_trans HSZ.out WLE.size) (fun u' hu' => ?_)
        · obtain ⟨q', e1, hrow⟩ := (hbe ⟨9, Ground.data⟩ (by simp) (by kernel_rfl)).2 rfl
          obtain rfl : q = q' := by simpa using e1
          intro i x hi
          rw [add_none, hrow.cell?, Nat.zero_add, ← hi]
          simp
        · intro x hx
          simp only [List.mem_cons, List.not_mem_nil, or_false] at hx
          subst hx
          rfl
        simp only [Act.put, List.setIfInBounds_toArray, List.set_cons_succ, List.set_cons_zero]
        refine wpFreeD_one rfl (.pointer (some ⟨g0, 2, none⟩)) (fun w1 _ => by kernel_rfl) ?_
        simp only [Act.put, List.setIfInBounds_toArray, List.set_cons_succ, List.set_cons_zero]
        refine wpFreeD_nil (fun wR hwR hF => ?_)
        have hG := ((hF 10).1.2 rfl).1
        rw [flist_succT] at hG
        have hch : Chg (g1 ≤ ·) ((wr.drewN nq).drewN 1) wR := hwR.1.mono (fun q hq => (hol q hq).1)
        have F5 := FD.up hch (by simp [rowF]; omega) (by omega)
        refine wpList_store1 rfl rfl (f := 2) rfl rfl (F5.row m0) uinfo1Float32S (by simp) (ownsRow_one hG) #[.float .f32 u, .float .f32 o, u'] rfl (fun w6 K6 => ?_)
        have F6 := hid (F5.wr0 K6)
        have HW6 := hid (ownsRow_wr hG K6 (by omega))
        have HS6 := hid (show g1 ≤ w6.heap.size from by rw [K6.size]; exact Nat.le_trans (Nat.le_trans HSZ.out WLE.size) hch.size)
        clear F5 K6 hch hF hwR hG hu' hol far z0 R9 R7 HO1 FD
        go_wp2
        go_roundw
        case rel => exact ⟨j + 1, u', by omega, by go_num, HW6.out, HS6.out, F6.out⟩
        case measure => simp [intOf]; omega
      · obtain ⟨ix, hix⟩ : ∃ ix, ix = D + j - n := ⟨_, rfl⟩
        have hixn : ix < n := by omega
        have cj := (Below.cell FJ.out.below (cell_lt' (HCL.out ix hixn))).trans (HCL.out ix hixn)
        have hr0 : ((D : Int) + (j : Int)) % (n : Int) = (ix : Int) := by
          have e : (D : Int) + (j : Int) = (ix : Int) + (n : Int) := by omega
          rw [e, Int.add_emod_right, Int.emod_eq_of_lt (by omega) (by omega)]
        have hr1 : ((D : Int) + (j : Int)).tmod (n : Int) = (ix : Int) := by rw [Int.tmod_eq_emod_of_nonneg (by omega)]; exact hr0
        have hge : (n : Int) ≤ (D : Int) + (j : Int) := by omega
        have hge2 : decide ((n : Int) ≤ (D : Int) + (j : Int)) = true := decide_eq_true hge
        have hixi : (ix : Int) < (n : Int) := by omega
        have hn0 : ¬ (n : Int) = 0 := by omega
        have HET : Hid (tnX o x n D j = fop .sub .f32 (fop .add .f32 (x ix) o) (x D)) := by show tnX o x n D j = _; rw [tnX_b hsp, hix]
        clear hix
        go_wp2_with fail
        go_quiet (fail)
        go_wp2_with (with_reducible refine wpList_farith (op := .add) rfl rfl rfl rfl rfl ?_; intro ad nad ead fad; have ead3 := of_canK ead.out (HAN.out ix hixn); clear ead fad; subst ead3)
        have FD := (FJ.out.drewN (nq + nad)).drewN 1
        have WLE : le wr ((wr.drewN (nq + nad)).drewN 1) := le_trans (le_drewN _ _) (le_drewN _ _)
        have hch0 := FD.below.size
        have R9 := FD.row m0
        have R7 := FD.row m2
        have HO1 := ownsRow_le HW.out WLE
        have hol := ownsRow_lt HO1
        have far : ∀ q, q < g1 → v.ownBlock ≠ some q := fun q hq hh => by have := (hol q hh).1; omega
        have z0 := (Below.cell FD.below (cell_lt' (HCL.out D hD))).trans (HCL.out D hD)
        have hbb : bb < g1 := by have := cell_lt' (HCL.out D hD); have h2 : bb < w.heap.size := this; omega
        refine region_tailD (E := appX g1 22 1 v j (flist (tnX o x n D) j) 1 [.float .f32 (tnX o x n D j)]) (fun _ _ _ _ => True) 12 (by kernel_rfl) (by kernel_rfl) ?_
        simp only [List.take_succ_cons, List.take_zero, List.drop_succ_cons, List.drop_zero]
        refine wpFreeD_one rfl (.pointer (some ⟨g0, 2, none⟩)) (fun w1 _ => by kernel_rfl) ?_
        simp only [Act.put, List.setIfInBounds_toArray, List.set_cons_succ, List.set_cons_zero]
        refine wpFreeD_load1 rfl rfl rfl (p := ⟨g0, 2, none⟩) (fun w1 h1 => appX_cellT h1 (R9.cell? 2) (far _ (by show g0 < _; omega))) ukindFloat32S ?_
        simp only [Act.put, List.setIfInBounds_toArray, List.set_cons_succ, List.set_cons_zero]
        refine wpFreeD_one rfl (.float .f32 (fop .add .f32 (x ix) o)) (fun w1 _ => by kernel_rfl) ?_
        simp only [Act.put, List.setIfInBounds_toArray, List.set_cons_succ, List.set_cons_zero]
        refine wpFreeD_one rfl (.pointer (some ⟨w.heap.size, 2, none⟩)) (fun w1 _ => by kernel_rfl) ?_
        simp only [Act.put, List.setIfInBounds_toArray, List.set_cons_succ, List.set_cons_zero]
        refine wpFreeD_load1 rfl rfl rfl (p := ⟨w.heap.size, 2, none⟩) (fun w1 h1 => appX_cellT h1 (R7.cell? 2) (far _ (by show w.heap.size < _; omega))) ukindFloat32S ?_
        simp only [Act.put, List.setIfInBounds_toArray, List.set_cons_succ, List.set_cons_zero]
        refine wpFreeD_one rfl (.int .i64 (D : Int)) (fun w1 _ => by kernel_rfl) ?_
        simp only [Act.put, List.setIfInBounds_toArray, List.set_cons_succ, List.set_cons_zero]
        refine wpFreeD_indexW0 rfl rfl rfl rfl Try.underlying23 uinfo1Float32 hD ?_
        simp only [Act.put, List.setIfInBounds_toArray, List.set_cons_succ, List.set_cons_zero]
        refine wpFreeD_load1 rfl rfl rfl (p := ⟨bb, p + D * 1, none⟩) (fun w1 h1 => appX_cellT h1 (by rw [Nat.mul_one]; exact z0) (far _ hbb)) ukindFloat32 ?_
        simp only [Act.put, List.setIfInBounds_toArray, List.set_cons_succ, List.set_cons_zero]
        refine wpFreeD_farith rfl rfl rfl rfl rfl (fun r er fr => ?_)
        have er3 := of_canK (er.out.trans HET.out.symm) (HN.out j hlt)
        clear er fr
        subst er3
        simp only [Act.put, List.setIfInBounds_toArray, List.set_cons_succ, List.set_cons_zero]
        refine wpFreeD_madeX HO1 rfl (fun q => .slice (some ⟨q, 0, none⟩) 1 1) 22 #[.float .f32 (tnX o x n D j)] (fun w1 => ?_) (fun q => ?_)
        · have hb := run_buildSlice (P := Try.prog) w1 23 22 1 #[(0, .float .f32 (tnX o x n D j))] #[.float .f32 (tnX o x n D j)] i0 _ Try.underlying23 HIN.out.1 HIN.out.2.1 (by rw [HIN.out.2.2.1]; decide) (by rw [HIN.out.2.2.1]; decide) (fill_oneT _ _ HIN.out.2.2.1)
          simp [execOp, Act.eval, Result.andThen, hb]
        simp only [Act.put, List.setIfInBounds_toArray, List.set_cons_succ, List.set_cons_zero]
        refine wpFreeD_appK HO1 rfl rfl Try.underlying23 HIN.out.1 HIN.out.2.1 HIN.out.2.2.1 HIN.out.2.2.2 rfl (by omega) rfl (ad := ⟨q, 0, none⟩) rfl rfl (fun w1 h1 hbe => ?_) ?_ (by omega) (by unfold maxLen; omega) (by omega) (Nat.le_trans HSZ.out WLE.size) (fun u' hu' => ?_)
        · obtain ⟨q', e1, hrow⟩ := (hbe ⟨9, Ground.data⟩ (by simp) (by kernel_rfl)).2 rfl
          obtain rfl : q = q' := by simpa using e1
          intro i x hi
          rw [add_none, hrow.cell?, Nat.zero_add, ← hi]
          simp
        · intro x hx
          simp only [List.mem_cons, List.not_mem_nil, or_false] at hx
          subst hx
          rfl
        simp only [Act.put, List.setIfInBounds_toArray, List.set_cons_succ, List.set_cons_zero]
        refine wpFreeD_one rfl (.pointer (some ⟨g0, 2, none⟩)) (fun w1 _ => by kernel_rfl) ?_
        simp only [Act.put, List.setIfInBounds_toArray, List.set_cons_succ, List.set_cons_zero]
        refine wpFreeD_nil (fun wR hwR hF => ?_)
        have hG := ((hF 10).1.2 rfl).1
        rw [flist_succT] at hG
        have hch : Chg (g1 ≤ ·) ((wr.drewN (nq + nad)).drewN 1) wR := hwR.1.mono (fun q hq => (hol q hq).1)
        have F5 := FD.up hch (by simp [rowF]; omega) (by omega)
        refine wpList_store1 rfl rfl (f := 2) rfl rfl (F5.row m0) uinfo1Float32S (by simp) (ownsRow_one hG) #[.float .f32 u, .float .f32 o, u'] rfl (fun w6 K6 => ?_)
        have F6 := hid (F5.wr0 K6)
        have HW6 := hid (ownsRow_wr hG K6 (by omega))
        have HS6 := hid (show g1 ≤ w6.heap.size from by rw [K6.size]; exact Nat.le_trans (Nat.le_trans HSZ.out WLE.size) hch.size)
        clear F5 K6 hch hF hwR hG hu' hol far z0 R9 R7 HO1 FD
        go_wp2
        go_roundw
        case rel => exact ⟨j + 1, u', by omega, by go_num, HW6.out, HS6.out, F6.out⟩
        case measure => simp [intOf]; omega
    · have ej : n = j := by omega
      subst ej
      have OW := hid (own_of_row (x := tnX o x n D) HW.out (fun i _ => fits_tnX))
      have EU := hid (okT_congr (o := o) (x := tnX o x n D) (n := n) (HU.out.trans HKC.out.symm : can .f32 u = can .f32 kv))
      have HO := hid (fun (w' : World) (g : Nat) (hl : le wr w') (R : Row w' g 27 #[.float .f32 u, .float .f32 o, v]) => s_l07Ok u o (tnX o x n D) n _ v w' ((OW.out.rdN).le hl) g R)
      rw [EU.out] at HO
      have F := Frg.nil wr
      have FJ2 := FJ
      rcases HOK.out with ⟨hok, rfl, rfl⟩ | ⟨hok, rfl, rfl⟩
      · rw [hok] at HO
        clear hok
        replace F := FJ.out
        go_wp2_with (first | (go_at_call 12; ((with_reducible refine (HO.out _ _ (le_refl _) (F.row m0)).mono ?_); rintro e w3 ⟨rfl, hl⟩; have HL3 := hid hl; clear hl; replace F := F.le HL3.out)) | ((with_reducible refine at_loadU (ty := 27) rfl rfl ?_); (with_reducible refine wpList_loadG F rfl rfl rfl m0 Try.underlying27 rfl uinfoTuningI rfl ?_)) | (with_reducible refine stop_store (ty := 27) rfl ?_))
        show wpList _ _ _ _ _ _
        refine wpList_storeD rfl rfl rfl (cells := #[.float .f32 u, .float .f32 o, v]) rfl (F.row m1) uinfoTuningI rfl (by (simp only [List.all_toArray', List.all_cons, List.all_nil, Bool.and_true, Bool.true_and, OW.out.one]) <;> rfl) (fun w4 K4 => ?_)
        have R := hid K4.row
        have L := hid (F.wr1 K4).below
        have OW2 := hid (own_of_row (x := tnX o x n D) (ownsRow_wr (ownsRow_le HW.out HL3.out) K4 (by omega)) (fun i _ => fits_tnX))
        clear K4 F
        go_wp2
        exact bodyPost_ret (results_row2 rfl _ _ _ _ _ rfl R.out Try.underlying27 rfl uinfoTuningI) rfl ⟨[.float .f32 u, .float .f32 o, v], rfl, layTn _ _ _ _ (OW2.out.mono hgw (Nat.le_refl _)) HFU.out HU.out HFO.out, L.out⟩
      · rw [hok] at HO
        clear hok
        replace F := FJ.out
        go_wp2_with (first | (go_at_call 12; ((with_reducible refine (HO.out _ _ (le_refl _) (F.row m0)).mono ?_); rintro e w3 ⟨rfl, hl⟩; have HL3 := hid hl; clear hl; replace F := F.le HL3.out)) | (with_reducible refine stop_store (ty := 27) rfl ?_))
        show wpList _ _ _ _ _ _
        refine wpList_storeD rfl rfl rfl (cells := #[.float .f32 0, .float .f32 0, .slice none 0 0]) rfl (F.row m1) uinfoTuningI rfl (by simp [Value.oneCell']) (fun w4 K4 => ?_)
        have R := hid K4.row
        have L := hid (F.wr1 K4).below
        clear K4 F
        go_wp2
        exact bodyPost_ret (results_row2 rfl _ _ _ _ _ rfl R.out Try.underlying27 rfl uinfoTuningI) rfl ⟨[.float .f32 0, .float .f32 0, .slice none 0 0], rfl, layTun0 _ _, L.out⟩
theorem both_TurnTuning (cs : List CD) (h : HasShL shTuning cs) (d : Int) : ∃ (ar0 : List CD) (ar1 : Int), ShOkL shTuning ar0 ∧ szL ar0 ≤ 1048576 ∧ (∀ (w : World) (B : Nat) (u : List Value), RdLN w B (cs.map CD.cp) u → Calls Try.prog 5 #[.agg u.toArray, .int .i64 d] w (OutV_Ti ar0 ar1 w)) ∧ (∀ (w : World) (B : Nat) (u : List Value), RdLN w B (cs.map CD.cp) u → Calls Try.prog 7 #[.agg u.toArray, .int .i64 d] w (OutV_Ti ar0 ar1 w)) := by
  obtain ⟨b, o, xs, n, rfl, hx⟩ := tun_data h
  have no1 : ∀ (c : Int) (w : World) (B : Nat) (s : Value), codeH b o (fun i => (xs i).fx) n d = c → ¬ c = 0 → (slT (fun i => (xs i).fx) n).RdN w B s → Calls Try.prog 7 #[.agg #[.float .f32 b, .float .f32 o, s], .int .i64 d] w (OutV_Ti cdT0 c w) := by
    rintro c w B s rfl hc hs
    exact i_TurnTuning_no1 b o (fun i => (xs i).fx) n B s w hs d hc
  cases ht : okT b o (fun i => (xs i).fx) n
  · have e1 : codeH b o (fun i => (xs i).fx) n d = 1 := by unfold codeH; rw [ht]; rfl
    refine ⟨cdT0, 1, cdTun_sh 0 0 (fun _ => 0) 0, by unfold cdT0; rw [cdTun_sz]; omega, fun w B u hu => ?_, fun w B u hu => ?_⟩
    · obtain ⟨s, rfl, hs, fb, fo⟩ := tun_open hu hx
      exact s_TurnTuning_no1 b o (fun i => (xs i).fx) n B s w hs d ht
    · obtain ⟨s, rfl, hs, fb, fo⟩ := tun_open hu hx
      exact no1 1 w B s e1 (by decide) hs
  · cases hd : okD d n
    · have e2 : codeH b o (fun i => (xs i).fx) n d = 0 ∨ codeH b o (fun i => (xs i).fx) n d = 2 := by
        unfold codeH; rw [ht, if_pos rfl]
        split
        · split
          · exact .inl rfl
          · exact .inr rfl
        · exact .inr rfl
      refine ⟨cdT0, 2, cdTun_sh 0 0 (fun _ => 0) 0, by unfold cdT0; rw [cdTun_sz]; omega, fun w B u hu => ?_, fun w B u hu => ?_⟩
      · obtain ⟨s, rfl, hs, fb, fo⟩ := tun_open hu hx
        exact s_TurnTuning_no2 b o (fun i => (xs i).fx) n B s w hs d ht hd
      · obtain ⟨s, rfl, hs, fb, fo⟩ := tun_open hu hx
        exact e2.elim (fun e => i_TurnTuning_no2 b o (fun i => (xs i).fx) n B s w hs d e hd) (fun e => no1 2 w B s e (by decide) hs)
    · obtain ⟨D, rfl⟩ : ∃ D : Nat, d = D := ⟨d.toNat, by simp [okD] at hd; omega⟩
      have hD : D < n := by simp [okD] at hd; omega
      have hk : okK D = true := by have := (okT_n ht).2; simp [okK]; omega
      cases hw : okTw (hqV o (fun i => (xs i).fx) n D)
      · have e2 : codeH b o (fun i => (xs i).fx) n D = 2 := by unfold codeH; rw [ht, hk, hw]; rfl
        refine ⟨cdT0, 2, cdTun_sh 0 0 (fun _ => 0) 0, by unfold cdT0; rw [cdTun_sz]; omega, fun w B u hu => ?_, fun w B u hu => ?_⟩
        · obtain ⟨s, rfl, hs, fb, fo⟩ := tun_open hu hx
          exact s_TurnTuning_no3 b o (fun i => (xs i).fx) n B s w hs D hD ht hw
        · obtain ⟨s, rfl, hs, fb, fo⟩ := tun_open hu hx
          exact no1 2 w B s e2 (by decide) hs
      · have e0 : codeH b o (fun i => (xs i).fx) n D = 0 := by unfold codeH; rw [ht, hk, hw]; rfl
        cases hr : okT (khR b o (fun i => (xs i).fx) n D) o (tnX o (fun i => (xs i).fx) n D) n
        · refine ⟨cdT0, 4, cdTun_sh 0 0 (fun _ => 0) 0, by unfold cdT0; rw [cdTun_sz]; omega, fun w B u hu => ?_, fun w B u hu => ?_⟩
          · obtain ⟨s, rfl, hs, fb, fo⟩ := tun_open hu hx
            exact s_TurnTuning_go b o (fun i => (xs i).fx) n B s w hs D hD fo e0 _ _ (.inr ⟨hr, rfl, rfl⟩)
          · obtain ⟨s, rfl, hs, fb, fo⟩ := tun_open hu hx
            exact i_TurnTuning_go b o (fun i => (xs i).fx) n B s w hs D hD fo e0 _ _ (.inr ⟨hr, rfl, rfl⟩)
        · refine ⟨cdTn (khR b o (fun i => (xs i).fx) n D) o (tnX o (fun i => (xs i).fx) n D) n, 0, cdTn_sh _ _ _ _, by have := (okT_n ht).2; rw [cdTn_sz]; omega, fun w B u hu => ?_, fun w B u hu => ?_⟩
          · obtain ⟨s, rfl, hs, fb, fo⟩ := tun_open hu hx
            exact s_TurnTuning_go b o (fun i => (xs i).fx) n B s w hs D hD fo e0 _ _ (.inl ⟨hr, rfl, rfl⟩)
          · obtain ⟨s, rfl, hs, fb, fo⟩ := tun_open hu hx
            exact i_TurnTuning_go b o (fun i => (xs i).fx) n B s w hs D hD fo e0 _ _ (.inl ⟨hr, rfl, rfl⟩)
end Go.Proofs.Ytccichnnljhbdac
