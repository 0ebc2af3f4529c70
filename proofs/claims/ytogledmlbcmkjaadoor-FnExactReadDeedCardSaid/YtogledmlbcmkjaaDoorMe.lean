/- Texts of the walk, laid in one file. -/
import Derived.BigQuiet
import Derived.Lib.LaidTab
import Derived.LaidLaws
import Derived.Test.YtogledmlbcmkjaaDoorMd
set_option linter.unusedVariables false
set_option linter.unusedSimpArgs false
/- As FreeD, where it is known besides that no two operations of a region run at one time: what one has made is there when the other starts, or the other way round. So what they make lies apart. Nothing here names a program. -/
namespace Go.Fk
open Go Go.RowKit

/-- What is known of each operation's value: 'z' is the number of blocks where it started. -/
abbrev FactsZ := Nat → Nat → World → Prop
def FactsZ.with (F : FactsZ) (k : Nat) (V : Nat → World → Prop) : FactsZ := fun e z w => F e z w ∧ (e = k → V z w)

section
variable (E : Ext) (P : Program) (ops : Array Oper) (md : Region.Mode) (W : World) (K : FuncId → Array Value → Nat → World → Value → Prop)
/-- One operation was over where the other started. -/
def beforeZ (zs : Nat → Nat) (F : FactsZ) (w : World) (p q : Nat) : Prop := ∃ w', E.R W w' ∧ E.R w' w ∧ w'.heap.size = zs q ∧ F p (zs p) w'
def crossZ (zs : Nat → Nat) (F : FactsZ) (w : World) : Prop := ∀ p q, p ≠ q → beforeZ E W zs F w p q ∨ beforeZ E W zs F w q p
/-- What is known where an operation starts: of those that it comes behind, and of their order. -/
def behindZ (o : Oper) (F : FactsZ) (w : World) : Prop := ∃ zs : Nat → Nat, (∀ e ∈ o.after, Region.binds md e = true → F e.on (zs e.on) w) ∧
  ∀ p ∈ o.after, Region.binds md p = true → ∀ q ∈ o.after, Region.binds md q = true → p.on ≠ q.on → beforeZ E W zs F w p.on q.on ∨ beforeZ E W zs F w q.on p.on
def MonoZ (V : Nat → World → Value → Prop) : Prop := ∀ z v w w', E.R w w' → V z w v → V z w' v
def YieldsZ (o : Oper) (a : Act) (F : FactsZ) (V : Nat → World → Value → Prop) : Prop :=
  MonoZ E V ∧ ((Region.wanted o (yielded ops a.tmps) = true ∧ ∀ w, E.R W w → behindZ E md W o F w → insideT E P (fun f args => K f args w.heap.size) w (V w.heap.size) ((execOp a.eval o).run P w)) ∨ (Region.wanted o (yielded ops a.tmps) = false ∧ ∀ w, E.R W w → behindZ E md W o F w → V w.heap.size w undef))
def metZ (F : FactsZ) : Prop := ∃ w zs, E.R W w ∧ (∀ e, F e (zs e) w) ∧ crossZ E W zs F w
def wpFreeZ (Q : Act → World → Prop) : List Oper → Nat → Act → FactsZ → Prop
  | [], _, a, F => ∀ w zs, E.R W w → (∀ e, F e (zs e) w) → crossZ E W zs F w → Q a w
  | o :: rest, k, a, F => ∃ V, YieldsZ E P ops md W K o a F V ∧ ∀ v, metZ E W (F.with k (fun z w => V z w v)) → wpFreeZ Q rest (k + 1) (a.put o.dst v) (F.with k (fun z w => V z w v))
def anyFreeZ (n : Nat) (L : Array Bool → Act → FactsZ → Prop) : Nat → Array Bool → Act → FactsZ → Prop
  | 0, listed, a, F => L listed a F
  | f + 1, listed, a, F => Region.ready md ops listed ≠ [] ∧
      ∀ i ∈ Region.ready md ops listed, i < n ∧ ∀ o, ops[i]? = some o → ∃ V, YieldsZ E P ops md W K o a F V ∧ ∀ v, metZ E W (F.with i (fun z w => V z w v)) → anyFreeZ n L f (listed.setIfInBounds i true) (a.put o.dst v) (F.with i (fun z w => V z w v))
def FMonoZ (F : FactsZ) : Prop := ∀ w w', E.R w w' → ∀ e z, F e z w → F e z w'
/-- Of what is not listed, nothing is told. -/
def TrivZ (listed : Array Bool) (F : FactsZ) : Prop := ∀ i, listed.getD i true = false → ∀ z w, F i z w
end

section
variable {E : Ext} {P : Program} {ops : Array Oper} {md : Region.Mode} {W : World} {K : FuncId → Array Value → Nat → World → Value → Prop}
theorem FMonoZ.with {F : FactsZ} (h : FMonoZ E F) {V : Nat → World → Value → Prop} (hV : MonoZ E V) (k : Nat) (v : Value) : FMonoZ E (F.with k (fun z w => V z w v)) := fun w w' hw e z hF =>
  ⟨h w w' hw e z hF.1, fun he => hV z v w w' hw (hF.2 he)⟩
theorem beforeZ.weaken {F F' : FactsZ} (h : ∀ e z w, F' e z w → F e z w) {zs : Nat → Nat} {w : World} {p q : Nat} (hb : beforeZ E W zs F' w p q) : beforeZ E W zs F w p q := by
  obtain ⟨w', b1, b2, b3, b4⟩ := hb; exact ⟨w', b1, b2, b3, h _ _ _ b4⟩
theorem crossZ.weaken {F F' : FactsZ} (h : ∀ e z w, F' e z w → F e z w) {zs : Nat → Nat} {w : World} (hc : crossZ E W zs F' w) : crossZ E W zs F w := fun p q hpq => (hc p q hpq).imp (·.weaken h) (·.weaken h)
theorem metZ.weaken {F F' : FactsZ} (h : ∀ e z w, F' e z w → F e z w) (hx : metZ E W F') : metZ E W F := by
  obtain ⟨w, zs, hw, hF, hc⟩ := hx; exact ⟨w, zs, hw, fun e => h _ _ _ (hF e), hc.weaken h⟩
theorem behindZ.of {F : FactsZ} {w : World} {zs : Nat → Nat} (hF : ∀ e, F e (zs e) w) (hc : crossZ E W zs F w) (o : Oper) : behindZ E md W o F w := ⟨zs, fun e _ _ => hF e.on, fun p _ _ q _ _ hpq => hc _ _ hpq⟩
theorem crossZ.step {F : FactsZ} {zs : Nat → Nat} {w w' : World} {i : Nat} {V : Nat → World → Prop} (hw : E.R W w) (hl : E.R w w') (h1 : ∀ e, F e (zs e) w) (h2 : crossZ E W zs F w) :
    crossZ E W (fun e => if e = i then w.heap.size else zs e) (F.with i V) w' := by
  intro p q hpq
  by_cases hp : p = i
  · subst hp
    right
    refine ⟨w, hw, hl, by simp, ?_⟩
    simp only [if_neg (Ne.symm hpq)]
    exact ⟨h1 q, fun h => absurd h (Ne.symm hpq)⟩
  · by_cases hq : q = i
    · subst hq
      left
      refine ⟨w, hw, hl, by simp, ?_⟩
      simp only [if_neg hpq]
      exact ⟨h1 p, fun h => absurd h hpq⟩
    · simp only [beforeZ, if_neg hp, if_neg hq]
      rcases h2 p q hpq with ⟨w2, a1, a2, a3, a4⟩ | ⟨w2, a1, a2, a3, a4⟩
      · exact .inl ⟨w2, a1, E.trans a2 hl, a3, a4, fun h => absurd h hp⟩
      · exact .inr ⟨w2, a1, E.trans a2 hl, a3, a4, fun h => absurd h hq⟩
theorem metZ.step {F : FactsZ} {w w' : World} {zs : Nat → Nat} {i : Nat} {V : Nat → World → Prop} (hm : FMonoZ E F) (ht : ∀ z w, F i z w) (hw : E.R W w) (hl : E.R w w') (h1 : ∀ e, F e (zs e) w) (h2 : crossZ E W zs F w) (hv : V w.heap.size w') : metZ E W (F.with i V) := by
  refine ⟨w', fun e => if e = i then w.heap.size else zs e, E.trans hw hl, fun e => ?_, h2.step hw hl h1⟩
  by_cases he : e = i
  · subst he
    simp only [if_true]
    exact ⟨ht _ _, fun _ => hv⟩
  · simp only [if_neg he]
    exact ⟨hm w w' hl e _ (h1 e), fun h => absurd h he⟩
theorem YieldsZ.some {o : Oper} {a : Act} {F : FactsZ} {V : Nat → World → Value → Prop} {i : Nat} (hm : FMonoZ E F) (ht : ∀ z w, F i z w) (hx : metZ E W F) (h : YieldsZ E P ops md W K o a F V) : ∃ v, metZ E W (F.with i (fun z w => V z w v)) := by
  obtain ⟨w, zs, hw, hF, hc⟩ := hx
  rcases h.2 with ⟨_, h⟩ | ⟨_, h⟩
  · obtain ⟨v, w', hl, hv⟩ := insideT_some (h w hw (.of hF hc o))
    exact ⟨v, metZ.step hm ht hw hl hF hc hv⟩
  · exact ⟨undef, metZ.step hm ht hw (E.refl w) hF hc (h w hw (.of hF hc o))⟩
theorem YieldsZ.same {o : Oper} {a a' : Act} {F : FactsZ} {V : Nat → World → Value → Prop} (he : execOp a'.eval o = execOp a.eval o) (hw : Region.wanted o (yielded ops a'.tmps) = Region.wanted o (yielded ops a.tmps))
    (h : YieldsZ E P ops md W K o a F V) : YieldsZ E P ops md W K o a' F V := by
  unfold YieldsZ at *; rw [he, hw]; exact h
theorem YieldsZ.stronger {o : Oper} {a : Act} {F F' : FactsZ} {V : Nat → World → Value → Prop} (hF : ∀ e z w, F' e z w → F e z w) (h : YieldsZ E P ops md W K o a F V) : YieldsZ E P ops md W K o a F' V := by
  have key : ∀ w, behindZ E md W o F' w → behindZ E md W o F w := fun w ⟨zs, h1, h2⟩ => ⟨zs, fun e he hb => hF _ _ _ (h1 e he hb), fun p hp hbp q hq hbq hne => (h2 p hp hbp q hq hbq hne).imp (·.weaken hF) (·.weaken hF)⟩
  refine ⟨h.1, ?_⟩
  rcases h.2 with ⟨h1, h2⟩ | ⟨h1, h2⟩
  · exact .inl ⟨h1, fun w hw hb => h2 w hw (key w hb)⟩
  · exact .inr ⟨h1, fun w hw hb => h2 w hw (key w hb)⟩
theorem YieldsZ.less {o : Oper} {a : Act} {F : FactsZ} {i : Nat} {X : Nat → World → Prop} {V : Nat → World → Value → Prop} (hn : ∀ e ∈ o.after, Region.binds md e = true → e.on ≠ i) (h : YieldsZ E P ops md W K o a (F.with i X) V) : YieldsZ E P ops md W K o a F V := by
  have key : ∀ w, behindZ E md W o F w → behindZ E md W o (F.with i X) w := fun w ⟨zs, h1, h2⟩ => ⟨zs, fun e he hb => ⟨h1 e he hb, fun h => absurd h (hn e he hb)⟩, fun p hp hbp q hq hbq hne => by
    have lift : ∀ (p q : Edge), p ∈ o.after → Region.binds md p = true → beforeZ E W zs F w p.on q.on → beforeZ E W zs (F.with i X) w p.on q.on := fun p q hp hbp ⟨w', b1, b2, b3, b4⟩ => ⟨w', b1, b2, b3, b4, fun h => absurd h (hn p hp hbp)⟩
    exact (h2 p hp hbp q hq hbq hne).imp (lift p q hp hbp) (lift q p hq hbq)⟩
  refine ⟨h.1, ?_⟩
  rcases h.2 with ⟨h1, h2⟩ | ⟨h1, h2⟩
  · exact .inl ⟨h1, fun w hw hb => h2 w hw (key w hb)⟩
  · exact .inr ⟨h1, fun w hw hb => h2 w hw (key w hb)⟩
theorem YieldsZ.more {o : Oper} {a : Act} {F : FactsZ} {i : Nat} {X : Nat → World → Prop} {V : Nat → World → Value → Prop} (h : YieldsZ E P ops md W K o a F V) : YieldsZ E P ops md W K o a (F.with i X) V := h.stronger (fun _ _ _ h => h.1)
theorem wpOp_yieldsZ {i : Nat} {o : Oper} {a : Act} {w : World} {F : FactsZ} {V : Nat → World → Value → Prop} {next : Act → World → Prop} {Q' : Exit → Act → World → Prop} (ho : ops[i]? = some o) (hw : E.R W w) (hB : behindZ E md W o F w) (hg : YieldsZ E P ops md W K o a F V)
    (hn : ∀ v w', E.R w w' → V w.heap.size w' v → next (a.put o.dst v) w') : wpOp P ops Q' i next a w := by
  unfold wpOp
  simp only [ho]
  rcases hg.2 with ⟨hwant, hv⟩ | ⟨hwant, hv⟩
  · rw [if_pos hwant]
    left
    have h3 := hv w hw hB
    unfold Oper.wp
    generalize (execOp a.eval o).run P w = r at h3
    cases r with
    | ok x w' =>
      cases x <;> simp only [insideT] at h3 <;> simp only [Oper.upon]
      case value u => exact hn u _ h3.1 h3.2
      case skip => exact hn undef _ h3.1 h3.2
      case enter f args =>
        refine h3.2.1.mono fun e w'' he => ?_
        obtain ⟨v, rfl, hl, hk⟩ := he
        exact hn v _ (E.trans h3.1 hl) (h3.2.2 w'' v hk)
    | halt x w' => simp only [insideT] at h3
  · rw [if_neg (by simp [hwant])]
    exact hn undef _ (E.refl w) (hv w hw hB)
theorem TrivZ.with {listed : Array Bool} {F : FactsZ} (h : TrivZ listed F) (i : Nat) (V : Nat → World → Prop) (hi : i < listed.size) : TrivZ (listed.setIfInBounds i true) (F.with i V) := fun j hj z w => by
  have hne : j ≠ i := fun e => by
    subst e
    rw [Array.getD_eq_getD_getElem?, Array.getElem?_setIfInBounds_self_of_lt hi] at hj
    simp at hj
  refine ⟨h j ?_ z w, fun e => absurd e hne⟩
  rw [Array.getD_eq_getD_getElem?, Array.getElem?_setIfInBounds_ne (Ne.symm hne)] at hj
  rwa [Array.getD_eq_getD_getElem?]
theorem anyFreeZ_sound {n g : Nat} {L : Array Bool → Act → FactsZ → Prop} {Q' : Exit → Act → World → Prop} (hL : ∀ listed a F w zs, E.R W w → (∀ e, F e (zs e) w) → crossZ E W zs F w → L listed a F → wpAny P md ops Q' g listed a w) :
    ∀ (f : Nat) (listed : Array Bool) (a : Act) (F : FactsZ) (w : World) (zs : Nat → Nat), FMonoZ E F → TrivZ listed F → E.R W w → (∀ e, F e (zs e) w) → crossZ E W zs F w → anyFreeZ E P ops md W K n L f listed a F → wpAny P md ops Q' (f + g) listed a w := by
  intro f
  induction f with
  | zero => intro listed a F w zs _ _ hw hF hc h; rw [Nat.zero_add]; exact hL _ _ _ _ zs hw hF hc h
  | succ f ih =>
    intro listed a F w zs hm ht hw hF hc h
    rw [show f + 1 + g = (f + g) + 1 by omega]
    refine ⟨fun h0 => absurd h0 h.1, fun i hi => ?_⟩
    obtain ⟨hun, o, ho, _⟩ := mem_ready.1 hi
    have hlt : i < listed.size := by
      rcases Nat.lt_or_ge i listed.size with h' | h'
      · exact h'
      · simp [Array.getElem?_eq_none h'] at hun
    obtain ⟨V, hg, hn⟩ := (h.2 i hi).2 o ho
    refine wpOp_yieldsZ ho hw (.of hF hc o) hg (fun v w' hl hv => ?_)
    refine ih _ _ _ _ (fun e => if e = i then w.heap.size else zs e) (hm.with hg.1 i v) (ht.with i _ hlt) (E.trans hw hl) (fun e => ?_) (hc.step hw hl hF) (hn v (metZ.step hm (ht i hun) hw hl hF hc hv))
    by_cases he : e = i
    · subst he
      simp only [if_true]
      exact ⟨ht e hun _ _, fun _ => hv⟩
    · simp only [if_neg he]
      exact ⟨hm w w' hl e _ (hF e), fun h => absurd h he⟩
theorem withZ_comm (F : FactsZ) (i j : Nat) (X Y : Nat → World → Prop) : (F.with i X).with j Y = (F.with j Y).with i X := by
  funext e z w
  unfold FactsZ.with
  exact propext ⟨fun h => ⟨⟨h.1.1, h.2⟩, h.1.2⟩, fun h => ⟨⟨h.1.1, h.2⟩, h.1.2⟩⟩
theorem anyFreeZ_weaken {n : Nat} {L : Array Bool → Act → FactsZ → Prop} (hLm : ∀ listed a F F', (∀ e z w, F' e z w → F e z w) → L listed a F → L listed a F') :
    ∀ (f : Nat) (listed : Array Bool) (a : Act) (F F' : FactsZ), (∀ e z w, F' e z w → F e z w) → anyFreeZ E P ops md W K n L f listed a F → anyFreeZ E P ops md W K n L f listed a F' := by
  intro f
  induction f with
  | zero => intro listed a F F' h hh; exact hLm _ _ _ _ h hh
  | succ f ih =>
    intro listed a F F' h hh
    refine ⟨hh.1, fun i hi => ⟨(hh.2 i hi).1, fun o ho => ?_⟩⟩
    obtain ⟨V, hg, hn⟩ := (hh.2 i hi).2 o ho
    exact ⟨V, hg.stronger h, fun v hv => ih _ _ _ _ (fun e z w hw => ⟨h e z w hw.1, hw.2⟩) (hn v (hv.weaken (fun e z w hw => ⟨h e z w hw.1, hw.2⟩)))⟩
theorem anyFreeZ_first {n i : Nat} {oi : Oper} {V : Nat → World → Value → Prop} {L : Array Bool → Act → FactsZ → Prop} (hi : ops[i]? = some oi) (hsel : ∀ (j : Nat) (o : Oper) cs b, ops[j]? = some o → o.op ≠ .select cs b)
    (hbound : ∀ listed i, HeadInv md ops n listed → i < n → listed.getD i true = false → ∀ j ∈ Region.ready md ops listed, j < n) (hin : i < n)
    (hdone : ∀ listed a F, L listed a F → ∀ j ∈ Region.ready md ops listed, n ≤ j) (hLm : ∀ listed a F F', (∀ e z w, F' e z w → F e z w) → L listed a F → L listed a F') :
    ∀ (f : Nat) (listed : Array Bool) (a : Act) (F : FactsZ), HeadInv md ops n listed →
      (∀ j oj, ops[j]? = some oj → j ≠ i → listed.getD j true = false → (∀ e ∈ oj.after, Region.binds md e = true → e.on ≠ i) → oi.apart ops oj = true) →
      i ∈ Region.ready md ops listed → FMonoZ E F → TrivZ listed F → metZ E W F → YieldsZ E P ops md W K oi a F V →
      (∀ v, metZ E W (F.with i (fun z w => V z w v)) → anyFreeZ E P ops md W K n L f (listed.setIfInBounds i true) (a.put oi.dst v) (F.with i (fun z w => V z w v))) → anyFreeZ E P ops md W K n L (f + 1) listed a F := by
  intro f
  induction f with
  | zero =>
    intro listed a F inv _ hr hm ht hx hg H
    have hun := (mem_ready.1 hr).1
    refine ⟨fun h => (by rw [h] at hr; cases hr), fun j hj => ?_⟩
    have hjn := hbound listed i inv hin hun j hj
    refine ⟨hjn, fun o ho => ?_⟩
    by_cases hji : j = i
    · subst hji
      rw [hi] at ho; cases ho
      exact ⟨V, hg, H⟩
    · obtain ⟨v, hv⟩ := hg.some (i := i) hm (ht i hun) hx
      have := hdone _ _ _ (H v hv) j (ready_mono hj hji)
      omega
  | succ f ih =>
    intro listed a F inv hfree hr hm ht hx hg H
    have hun := (mem_ready.1 hr).1
    refine ⟨fun h => (by rw [h] at hr; cases hr), fun j hj => ?_⟩
    have hjn := hbound listed i inv hin hun j hj
    refine ⟨hjn, fun o ho => ?_⟩
    by_cases hji : j = i
    · subst hji
      rw [hi] at ho; cases ho
      exact ⟨V, hg, H⟩
    · obtain ⟨hjun, oj, hoj, hall⟩ := mem_ready.1 hj
      rw [ho] at hoj; cases hoj
      have hnot : ∀ e ∈ o.after, Region.binds md e = true → e.on ≠ i := fun e he hb heq => by
        have h1 := hall e he hb
        rw [heq, getD_both hun] at h1
        cases h1
      have hap := hfree j o ho hji hjun hnot
      obtain ⟨a1, a2, a3⟩ := Oper.apart_spec hap
      have hsi := fun cs b => hsel i oi cs b hi
      have hsj := fun cs b => hsel j o cs b ho
      have hU : ∀ v : {v // metZ E W (F.with i (fun z w => V z w v))}, ∃ U, YieldsZ E P ops md W K o (a.put oi.dst v.1) (F.with i (fun z w => V z w v.1)) U ∧ ∀ u, metZ E W ((F.with i (fun z w => V z w v.1)).with j (fun z w => U z w u)) →
          anyFreeZ E P ops md W K n L f ((listed.setIfInBounds i true).setIfInBounds j true) ((a.put oi.dst v.1).put o.dst u) ((F.with i (fun z w => V z w v.1)).with j (fun z w => U z w u)) :=
        fun v => ((H v.1 v.2).2 j (ready_mono hj hji)).2 o ho
      obtain ⟨U, hU⟩ := Classical.skolem.1 hU
      obtain ⟨v0, hv0⟩ := hg.some (i := i) hm (ht i hun) hx
      have hone : ∀ v, YieldsZ E P ops md W K o a F (U v) := fun v => ((hU v).1.same (execOp_put o hsj a oi.dst v.1 a1).symm (wanted_put o a oi.dst v.1 a1).symm).less hnot
      have hgood : YieldsZ E P ops md W K o a F (fun z w u => ∀ v, U v z w u) := by
        refine ⟨fun z u w w' hl h v => (hone v).1 z u w w' hl (h v), ?_⟩
        by_cases hw : Region.wanted o (yielded ops a.tmps) = true
        · refine .inl ⟨hw, fun w hw' hb => inside_allT ⟨⟨v0, hv0⟩, trivial⟩ (fun v => ?_)⟩
          rcases (hone v).2 with ⟨_, h3⟩ | ⟨h3, _⟩
          · exact h3 w hw' hb
          · rw [hw] at h3; cases h3
        · refine .inr ⟨by simpa using hw, fun w hw' hb v => ?_⟩
          rcases (hone v).2 with ⟨h3, _⟩ | ⟨_, h3⟩
          · exact absurd h3 hw
          · exact h3 w hw' hb
      refine ⟨_, hgood, ?_⟩
      intro u hu
      have hfree' : ∀ k ok, ops[k]? = some ok → k ≠ i → (listed.setIfInBounds j true).getD k true = false →
          (∀ e ∈ ok.after, Region.binds md e = true → e.on ≠ i) → oi.apart ops ok = true := fun k ok hk hki hun hno => by
        refine hfree k ok hk hki ?_ hno
        by_cases hjk : j = k
        · subst hjk; exact hjun
        · rw [getD_set_ne true hjk] at hun; exact hun
      have hjlt : j < listed.size := by
        rcases Nat.lt_or_ge j listed.size with h' | h'
        · exact h'
        · simp [Array.getElem?_eq_none h'] at hjun
      have hx' : metZ E W (F.with j (fun z w => ∀ v, U v z w u)) := hu
      refine ih (listed.setIfInBounds j true) (a.put o.dst u) (F.with j (fun z w => ∀ v, U v z w u)) (inv.set hj hjn) hfree' (ready_mono hr (Ne.symm hji)) (hm.with hgood.1 j u) (ht.with j _ hjlt) hx' ((hg.same (execOp_put oi hsi a o.dst u a3) (wanted_put oi a o.dst u a3)).more) (fun v hv => ?_)
      rw [Array.setIfInBounds_comm _ _ hji, ← Act.put_comm a v u a2]
      have mv : metZ E W (F.with i (fun z w => V z w v)) := hv.weaken (fun e z w' h' => ⟨h'.1.1, h'.2⟩)
      have mu : metZ E W ((F.with i (fun z w => V z w v)).with j (fun z w => U ⟨v, mv⟩ z w u)) := hv.weaken (fun e z w' h' => ⟨⟨h'.1.1, h'.2⟩, fun he => h'.1.2 he ⟨v, mv⟩⟩)
      exact anyFreeZ_weaken hLm _ _ _ _ _ (fun e z w' h' => ⟨⟨h'.1.1, h'.2⟩, fun he => h'.1.2 he ⟨v, mv⟩⟩) ((hU ⟨v, mv⟩).2 u mu)
theorem anyFreeZ_lex {n g : Nat} {R : Act → World → Prop} (hsel : Region.noSelect ops = true)
    (hbound : ∀ listed i, HeadInv md ops n listed → i < n → listed.getD i true = false → ∀ j ∈ Region.ready md ops listed, j < n) :
    ∀ (l : List Oper) (k : Nat) (listed : Array Bool) (a : Act) (F : FactsZ), (∀ j, j < l.length → l[j]? = ops[k + j]?) → k + l.length = n → HeadInv md ops n listed →
    Region.lexHead md ops g l.length k listed = true → FMonoZ E F → TrivZ listed F → metZ E W F → wpFreeZ E P ops md W K R l k a F →
    anyFreeZ E P ops md W K n (fun listed' a' F' => Region.seqB md ops g n listed' = true ∧ ∀ w zs, E.R W w → (∀ e, F' e (zs e) w) → crossZ E W zs F' w → R a' w) l.length listed a F := by
  intro l
  induction l with
  | nil =>
    intro k listed a F _ hk _ hB _ _ _ h
    have : k = n := by simpa using hk
    subst this
    exact ⟨by simpa [Region.lexHead] using hB, h⟩
  | cons o l ih =>
    intro k listed a F hl hk inv hB hm ht hx h
    have h0 : ops[k]? = some o := by simpa using (hl 0 (by simp)).symm
    simp only [List.length_cons, Region.lexHead, Bool.and_eq_true] at hB
    obtain ⟨⟨hr, hf⟩, hB'⟩ := hB
    have hkn : k < n := by simp only [List.length_cons] at hk; omega
    have hr' : k ∈ Region.ready md ops listed := by simpa using hr
    have hun := (mem_ready.1 hr').1
    have hklt : k < listed.size := by
      rcases Nat.lt_or_ge k listed.size with h' | h'
      · exact h'
      · simp [Array.getElem?_eq_none h'] at hun
    obtain ⟨V, hg, hnext⟩ := h
    exact anyFreeZ_first h0 (Region.noSelect_spec hsel) hbound hkn (fun listed' a' F' hL => seqB_ready hL.1)
      (fun _ _ _ _ hF hL => ⟨hL.1, fun w zs hw h' hc => hL.2 w zs hw (fun e => hF e _ w (h' e)) (fun p q hpq => (hc p q hpq).imp (fun ⟨w', b1, b2, b3, b4⟩ => ⟨w', b1, b2, b3, hF _ _ _ b4⟩) (fun ⟨w', b1, b2, b3, b4⟩ => ⟨w', b1, b2, b3, hF _ _ _ b4⟩))⟩) l.length listed a F inv (Region.free_spec h0 hf) hr' hm ht hx hg
      (fun v hv => ih (k + 1) _ _ _ (fun j hj => by have := hl (j + 1) (by simp; omega); simpa [Nat.add_assoc, Nat.add_comm 1 j] using this) (by simp only [List.length_cons] at hk; omega) (inv.set hr' hkn) hB' (hm.with hg.1 k v) (ht.with k _ hklt)
        hv (hnext v hv))
def noFactsZ : FactsZ := fun _ _ _ => True
/-- A REGION THAT DRAWS ITS ORDER. -/
theorem region_freeZ (K : FuncId → Array Value → Nat → World → Value → Prop) {id : Nat} {Q : Exit → Act → World → Prop} {a : Act} {w : World} {l : List Oper} (hm : P.follows .mixedOrders = true)
    (hB : (Region.noSelect l.toArray && Region.lexHead .any l.toArray 0 l.length 0 (Array.replicate l.toArray.size false)) = true)
    (h : wpFreeZ E P l.toArray .any (w.drewN 1) K (fun a' w' => Q .normal a' w') l 0 a noFactsZ) : (Code.region id l.toArray true).wp P Q a w := by
  simp only [Bool.and_eq_true] at hB
  obtain ⟨hsel, hlex⟩ := hB
  have hbound : ∀ listed i, HeadInv .any l.toArray l.length listed → i < l.length → listed.getD i true = false → ∀ j ∈ Region.ready .any l.toArray listed, j < l.length := by
    intro listed i _ _ _ j hj
    obtain ⟨_, oj, hoj, _⟩ := mem_ready.1 hj
    simpa using (Array.getElem?_eq_some_iff.1 hoj).1
  have H := anyFreeZ_lex (md := .any) (g := 0) hsel hbound l 0 _ a noFactsZ (fun j hj => by simp) (by simp) (head_start _ l.length) hlex (fun _ _ _ _ _ h => h) (fun _ _ _ _ => trivial) ⟨w.drewN 1, fun _ => (w.drewN 1).heap.size, E.refl _, fun _ => trivial, fun p q _ => .inl ⟨_, E.refl _, E.refl _, rfl, trivial⟩⟩ h
  refine wp_region_any hm ?_
  have := anyFreeZ_sound (Q' := Q) (W := w.drewN 1) (g := 0) (fun listed a' F w' zs hw' hF hc hL => ⟨by simpa [Region.seqB] using hL.1, hL.2 w' zs hw' hF hc⟩) _ _ _ _ _ (fun _ => (w.drewN 1).heap.size) (fun _ _ _ _ _ h => h) (fun _ _ _ _ => trivial) (E.refl _) (fun _ => trivial) (fun p q _ => .inl ⟨_, E.refl _, E.refl _, rfl, trivial⟩) H
  rw [Nat.add_zero] at this
  exact this
/-- The same for a region whose last operations are forced to come last, and may write. -/
theorem region_tailZ (K : FuncId → Array Value → Nat → World → Value → Prop) {id : Nat} {Q : Exit → Act → World → Prop} {a : Act} {w : World} {l : List Oper} (n : Nat) (hm : P.follows .mixedOrders = true) (hB : Region.lexTailB .any l.toArray n = true)
    (h : wpFreeZ E P l.toArray .any (w.drewN 1) K (fun a' w' => wpList P l.toArray Q (l.drop n) a' w') (l.take n) 0 a noFactsZ) : (Code.region id l.toArray true).wp P Q a w := by
  simp only [Region.lexTailB, Bool.and_eq_true, decide_eq_true_eq] at hB
  obtain ⟨⟨⟨⟨hsel, hn⟩, hs⟩, hc⟩, hlex⟩ := hB
  have hn' : n < l.length := by simpa using hn
  have htl : (l.take n).length = n := by simp; omega
  have hdl : (l.drop n).length = l.toArray.size - n := by simp
  have hbound : ∀ listed i, HeadInv .any l.toArray n listed → i < n → listed.getD i true = false → ∀ j ∈ Region.ready .any l.toArray listed, j < n := by
    intro listed i inv hi hun j hj
    rcases Nat.lt_or_ge j n with h | h
    · exact h
    · exact absurd hj (tail_waits hs hc hn inv _ i rfl hi hun j h)
  have H := anyFreeZ_lex (md := .any) (g := l.toArray.size - n) hsel hbound (l.take n) 0 _ a noFactsZ (fun j hj => by
    have hj' : j < n := by rw [htl] at hj; exact hj
    simp [hj']) (by simpa using htl) (head_start _ n) (by rw [htl]; exact hlex) (fun _ _ _ _ _ h => h) (fun _ _ _ _ => trivial) ⟨w.drewN 1, fun _ => (w.drewN 1).heap.size, E.refl _, fun _ => trivial, fun p q _ => .inl ⟨_, E.refl _, E.refl _, rfl, trivial⟩⟩ h
  refine wp_region_any hm ?_
  have := anyFreeZ_sound (Q' := Q) (W := w.drewN 1) (g := l.toArray.size - n) (fun listed a' F w' zs hw' hF hc hL => by
    have := wpAny_of_seq (md := .any) (Q' := Q) (l.drop n) n listed a' w' (fun j => by simp [List.getElem?_drop]) (by rw [hdl]; exact hL.1) (hL.2 w' zs hw' hF hc)
    rwa [hdl] at this) _ _ _ _ _ (fun _ => (w.drewN 1).heap.size) (fun _ _ _ _ _ h => h) (fun _ _ _ _ => trivial) (E.refl _) (fun _ => trivial) (fun p q _ => .inl ⟨_, E.refl _, E.refl _, rfl, trivial⟩) H
  rw [htl, show n + (l.toArray.size - n) = l.toArray.size by omega] at this
  exact this
end
end Go.Fk

/- The laws of drawn regions in which several operations make memory: one operation at a time. Nothing here names a program. -/
namespace Go.Fk
open Go Go.RowKit
theorem wpFreeZ_weaken {E : Ext} {P : Program} {ops : Array Oper} {md : Region.Mode} {W : World} {K : FuncId → Array Value → Nat → World → Value → Prop} {Q : Act → World → Prop} : ∀ (l : List Oper) (k : Nat) (a : Act) (F F' : FactsZ), (∀ e z w, F' e z w → F e z w) → wpFreeZ E P ops md W K Q l k a F → wpFreeZ E P ops md W K Q l k a F' := by
  intro l
  induction l with
  | nil => intro k a F F' h hh w zs hw hF hc; exact hh w zs hw (fun e => h e _ w (hF e)) (hc.weaken h)
  | cons o l ih =>
    intro k a F F' h hh
    obtain ⟨V, hg, hn⟩ := hh
    exact ⟨V, hg.stronger h, fun v hv => ih _ _ _ _ (fun e z w hw => ⟨h e z w hw.1, hw.2⟩) (hn v (hv.weaken (fun e z w hw => ⟨h e z w hw.1, hw.2⟩)))⟩
section
variable {E : Ext} {P : Program} {ops : Array Oper} {W : World} {K : FuncId → Array Value → Nat → World → Value → Prop} {Q : Act → World → Prop} {F : FactsZ} {k : Nat} {o : Oper} {rest : List Oper} {a : Act}
theorem wpFreeZ_nil (h : ∀ w zs, E.R W w → (∀ e, F e (zs e) w) → crossZ E W zs F w → Q a w) : wpFreeZ E P ops .any W K Q [] k a F := h
/-- What has been met has been met with some operation's fact: what that fact says of the value alone may be used. -/
theorem metZ.has {V : Nat → World → Prop} (h : metZ E W (F.with k V)) : ∃ z w, E.R W w ∧ V z w := by
  obtain ⟨w, zs, hw, hF, _⟩ := h
  exact ⟨zs k, w, hw, (hF k).2 rfl⟩
theorem wpFreeZ_oneW (hw : Region.wanted o (yielded ops a.tmps) = true) (v : Value) (hr : ∀ w, E.R W w → (execOp a.eval o).run P w = .ok (.value v) w)
    (h : wpFreeZ E P ops .any W K Q rest (k + 1) (a.put o.dst v) (F.with k (fun _ _ => True))) : wpFreeZ E P ops .any W K Q (o :: rest) k a F := by
  refine ⟨fun _ _ u => u = v, ⟨fun _ _ _ _ _ h => h, .inl ⟨hw, fun w hw _ => ?_⟩⟩, fun u hu => ?_⟩
  · rw [hr w hw]; exact ⟨E.refl w, rfl⟩
  · obtain ⟨_, _, _, rfl⟩ := hu.has
    exact wpFreeZ_weaken _ _ _ _ _ (fun e _ w h => ⟨h.1, fun _ => trivial⟩) h
theorem wpFreeZ_one (hg : o.guard = none) (v : Value) (hr : ∀ w, E.R W w → (execOp a.eval o).run P w = .ok (.value v) w)
    (h : wpFreeZ E P ops .any W K Q rest (k + 1) (a.put o.dst v) (F.with k (fun _ _ => True))) : wpFreeZ E P ops .any W K Q (o :: rest) k a F := wpFreeZ_oneW (by simp [Region.wanted, hg]) v hr h
theorem wpFreeZ_skip (hw : Region.wanted o (yielded ops a.tmps) = false)
    (h : wpFreeZ E P ops .any W K Q rest (k + 1) (a.put o.dst undef) (F.with k (fun _ _ => True))) : wpFreeZ E P ops .any W K Q (o :: rest) k a F := by
  refine ⟨fun _ _ u => u = undef, ⟨fun _ _ _ _ _ h => h, .inr ⟨hw, fun w _ _ => rfl⟩⟩, fun u hu => ?_⟩
  obtain ⟨_, _, _, rfl⟩ := hu.has
  exact wpFreeZ_weaken _ _ _ _ _ (fun e _ w h => ⟨h.1, fun _ => trivial⟩) h
theorem wpFreeZ_load1 (hg : o.guard = none) {ty : TypeId} {x : Operand} (hop : o.op = .load ty x) {p : Addr} (hx : a.eval x = .pointer (some p)) {v : Value} (hv : ∀ w, E.R W w → w.cell? p = some v) (hu : ∀ w, (isAgg ty).run P w = .ok false w)
    (h : wpFreeZ E P ops .any W K Q rest (k + 1) (a.put o.dst v) (F.with k (fun _ _ => True))) : wpFreeZ E P ops .any W K Q (o :: rest) k a F := by
  refine wpFreeZ_one hg v (fun w hw => ?_) h
  have hl : (Instr.loadAt ty (.pointer (some p))).run P w = .ok v w := by
    simp [Instr.loadAt, Instr.sureAddr, loadVar, hu, hv w hw]
  simp [execOp, hop, hx, hl, Result.andThen]
theorem wpFreeZ_loadW (hg : o.guard = none) {ty : TypeId} {x : Operand} (hop : o.op = .load ty x) {p : Addr} (hx : a.eval x = .pointer (some p)) (vs : List Value) (hc : ∀ w, E.R W w → ∀ j v, vs[j]? = some v → w.cell? (p.add j) = some v) {d : TypeDesc} (hu : P.underlying ty = some d) (hd : d.isRow = true) {sz : Nat} (hs : (P.info? ty).map (·.size) = some sz) (hl : vs.length = sz)
    (h : wpFreeZ E P ops .any W K Q rest (k + 1) (a.put o.dst (.agg vs.toArray)) (F.with k (fun _ _ => True))) : wpFreeZ E P ops .any W K Q (o :: rest) k a F := by
  refine wpFreeZ_one hg (.agg vs.toArray) (fun w hw => ?_) h
  have hl' : (loadCells p vs.length).run P w = .ok vs.toArray w := run_loadCells_list (P := P) w p vs (hc w hw)
  cases hq : P.info? ty with
  | none => simp [hq] at hs
  | some inf =>
    have hz : inf.size = vs.length := by simp [hq] at hs; omega
    have hagg : (isAgg ty).run P w = .ok true w := by
      unfold isAgg
      rw [Sem.run_bind, run_underlying hu w]
      cases d <;> simp_all
    simp [execOp, hop, hx, Instr.loadAt, Instr.sureAddr, loadVar, Sem.run_bind, hagg, sizeOf, typeInfo, hq, hz, hl', Result.andThen]
/-- A call: what it gives may speak of the number of blocks where it started. -/
theorem wpFreeZ_callW (hw : Region.wanted o (yielded ops a.tmps) = true) {f : FuncId} {xs : Array Operand} {ts : Array TypeId} (hop : o.op = Op.call { callee := Callee.value (Operand.func f), args := xs, argTypes := ts }) {fn : Func} (hf : P.funcs[f]? = some fn)
    (hb : fn.body.isNone = false) (hn : (fn.name == "runtime.NumGoroutine") = false) {args : Array Value} (ha : xs.map a.eval = args) (hm : MonoZ E (K f args))
    (h1 : ∀ w, E.R W w → behindZ E .any W o F w → Calls P f args w (fun e w' => ∃ v, e = .returned v ∧ le w w' ∧ K f args w.heap.size w' v)) (h2 : ∀ v, (∃ z w, E.R W w ∧ K f args z w v) → wpFreeZ E P ops .any W K Q rest (k + 1) (a.put o.dst v) (F.with k (fun z w => K f args z w v))) : wpFreeZ E P ops .any W K Q (o :: rest) k a F := by
  refine ⟨K f args, ⟨hm, .inl ⟨hw, fun w hw hbe => ?_⟩⟩, fun v hv => h2 v hv.has⟩
  rw [run_enter hop hf hb hn ha]
  refine ⟨E.refl w, (h1 w hw hbe).mono ?_, fun _ _ h => h⟩
  rintro e w' ⟨v, rfl, hl, hk⟩
  exact ⟨v, rfl, E.of_le hl, hk⟩
/-- An operation of one value; what is known of those that it comes behind is carried on. -/
theorem wpFreeZ_carry (hg : o.guard = none) (v : Value) (hr : ∀ w, E.R W w → (execOp a.eval o).run P w = .ok (.value v) w) (V : World → Prop) (hm : ∀ w w', E.R w w' → V w → V w') (hb : ∀ w, E.R W w → behindZ E .any W o F w → V w)
    (h : wpFreeZ E P ops .any W K Q rest (k + 1) (a.put o.dst v) (F.with k (fun _ => V))) : wpFreeZ E P ops .any W K Q (o :: rest) k a F := by
  refine ⟨fun _ w u => u = v ∧ V w, ⟨fun _ _ w w' hw h => ⟨h.1, hm w w' hw h.2⟩, .inl ⟨by simp [Region.wanted, hg], fun w hw hbe => ?_⟩⟩, fun u hu => ?_⟩
  · rw [hr w hw]; exact ⟨E.refl w, rfl, hb w hw hbe⟩
  · obtain ⟨_, _, _, rfl, _⟩ := hu.has
    exact wpFreeZ_weaken _ _ _ _ _ (fun e _ w h => ⟨h.1, fun he => (h.2 he).2⟩) h
/-- An operation that makes one new block. -/
theorem wpFreeZ_new (hg : o.guard = none) (f : Nat → Value) (ob : Obj) (hr : ∀ w, (execOp a.eval o).run P w = .ok (.value (f w.heap.size)) (w.alloc ob))
    (h : ∀ b, wpFreeZ E P ops .any W K Q rest (k + 1) (a.put o.dst (f b)) (F.with k (fun _ _ => True))) : wpFreeZ E P ops .any W K Q (o :: rest) k a F := by
  refine ⟨fun _ _ u => ∃ b, u = f b, ⟨fun _ _ _ _ _ h => h, .inl ⟨by simp [Region.wanted, hg], fun w hw _ => ?_⟩⟩, fun u hu => ?_⟩
  · rw [hr w]; exact ⟨E.of_le (le_alloc w ob), _, rfl⟩
  · obtain ⟨_, _, _, b, rfl⟩ := hu.has
    exact wpFreeZ_weaken _ _ _ _ _ (fun e _ w h => ⟨h.1, fun _ => trivial⟩) (h b)
end
section
variable {P : Program} {ops : Array Oper} {W : World} {K : FuncId → Array Value → Nat → World → Value → Prop} {Q : Act → World → Prop} {F : FactsZ} {k : Nat} {o : Oper} {rest : List Oper} {a : Act}
variable {g : Nat} {t : TypeId} {m : Nat} {Fin : World → Array Value → Prop} {hm : ∀ w w' cs, le w w' → Fin w cs → Fin w' cs}
/-- The result is stored. -/
theorem wpFreeZ_out (hg : o.guard = none) {ty : TypeId} {x y : Operand} (hop : o.op = .store ty x y) (hx : a.eval x = .pointer (some ⟨g, 0, none⟩)) {cells : Array Value} (hy : a.eval y = .agg cells) (hty : ty = t) {old : Array Value} (hW : Row W g t old) (ho : old.size = m)
    (hF : ∀ w w', (outX g t m Fin hm).R W w → behindZ (outX g t m Fin hm) .any W o F w → Chg (· = g) w w' → Fin w' cells) (hi : (P.info? ty).map (·.size) = some m) (hs : cells.size = m) (h1 : cells.all (·.oneCell') = true)
    (h : wpFreeZ (outX g t m Fin hm) P ops .any W K Q rest (k + 1) (a.put o.dst undef) (F.with k (fun _ w => ∃ cs, Row w g t cs ∧ Fin w cs))) : wpFreeZ (outX g t m Fin hm) P ops .any W K Q (o :: rest) k a F := by
  subst hty
  refine ⟨fun _ w v => v = undef ∧ ∃ cs, Row w g ty cs ∧ Fin w cs, ⟨fun _ v w w' hw hv => ⟨hv.1, hw.2.2 hv.2⟩, .inl ⟨by simp [Region.wanted, hg], fun w hw hbe => ?_⟩⟩, fun v hv => ?_⟩
  · obtain ⟨cs, hc, hcs⟩ := hw.2.1 ⟨old, hW, ho⟩
    have hrun := run_storeVar_row (P := P) w g ty ty cs cells hc (hs ▸ hi) (hcs.trans hs.symm) h1
    have : (execOp a.eval o).run P w = .ok .skip (w.setRow g cells) := by
      unfold execOp
      simp only [hop, hx, hy, Instr.storeAt, Instr.sureAddr, Sem.run_bind, Sem.run_pure, Result.andThen_ok, hrun]
    rw [this]
    have hrow : Row (w.setRow g cells) g ty cells := hc.setRow _
    have hch : Chg (· = g) w (w.setRow g cells) := (Chg.refl _ w).wrote (wrote_setRow hc) rfl
    have hfin := hF w _ hw hbe hch
    exact ⟨⟨hch, fun _ => ⟨cells, hrow, hs⟩, fun _ => ⟨cells, hrow, hfin⟩⟩, rfl, cells, hrow, hfin⟩
  · obtain ⟨_, _, _, rfl, _⟩ := hv.has
    exact wpFreeZ_weaken _ _ _ _ _ (fun e _ w h => ⟨h.1, fun he => (h.2 he).2⟩) h
/-- A slice in a block of its own, made behind the region's start: the writes of the result's block leave it. -/
theorem own_outX {w w' : World} {lo hi : Nat} {s : Value} {x : Nat → Nat} {n : Nat} (h : OwnS w lo hi s x n) (hw : (outX g t m Fin hm).R w w') (hl : g < lo ∨ hi ≤ g) : OwnS w' lo hi s x n := h.chgS hw.1 (fun i h1 h2 e => by omega)
end
/-- A slice that is not empty lies in one block. -/
theorem OwnS.tight {w : World} {lo hi : Nat} {s : Value} {x : Nat → Nat} {n : Nat} (h : OwnS w lo hi s x n) (hn : 1 ≤ n) : ∃ b, lo ≤ b ∧ b < hi ∧ OwnS w b (b + 1) s x n := by
  rcases h with ⟨_, h⟩ | ⟨b, o, cap, cs, h1, h2, h3, h4, h5, h6, h7⟩
  · omega
  · exact ⟨b, h4, h5, .inr ⟨b, o, cap, cs, h1, h2, h3, Nat.le_refl _, Nat.lt_succ_self _, h6, h7⟩⟩
end Go.Fk

/- Copies of rings; 'PushSample' of both. -/
namespace Go.Fk
open Go Go.RowKit
section
variable {P : Program} {ops : Array Oper} {w : World} {K : FuncId → Array Value → Value → Prop} {Q : Act → Prop} {o : Oper} {rest : List Oper} {a : Act}
theorem wpLoose_nilP (hg : o.guard = none) {x : Operand} (hop : o.op = Op.nilCheck x) {ad : Addr} (hx : a.eval x = .pointer (some ad))
    (hK : wpLoose P ops (fun w' => ∃ m, w' = w.drewN m) K Q rest (a.put o.dst (.pointer (some ad)))) : wpLoose P ops (fun w' => ∃ m, w' = w.drewN m) K Q (o :: rest) a := by
  refine wpLoose_any hg (· = .pointer (some ad)) (fun n => ?_) (by rintro v rfl; exact hK)
  simp [execOp, hop, hx, within, Result.andThen]
  exact ⟨_, rfl⟩
theorem wpLoose_len (hg : o.guard = none) {x : Operand} {t : TypeId} (hop : o.op = Op.call { callee := Callee.builtin Builtin.len, args := #[x], argTypes := #[t] }) {e : TypeId} (hu : P.underlying t = some (.slice e)) {ao : Option Addr} {n c : Nat} (hx : a.eval x = .slice ao n c)
    (hK : wpLoose P ops (fun w' => ∃ m, w' = w.drewN m) K Q rest (a.put o.dst (.int .i64 n))) : wpLoose P ops (fun w' => ∃ m, w' = w.drewN m) K Q (o :: rest) a := by
  refine wpLoose_any hg (· = .int .i64 n) (fun m => ?_) (by rintro v rfl; exact hK)
  simp [execOp, hop, hx, within, Result.andThen, resolve, invoke, builtin, Builtin.len_, run_underlying hu]
  exact ⟨⟨_, rfl⟩, rfl⟩
end
/-- A ring's samples behind a push. -/
def pushX (x : Nat → Nat) (j a : Nat) : Nat → Nat := fun i => if i = j then can .f32 a else x i
def OutPu (lo hi : Nat) (s : Value) (x : Nat → Nat) (n j a g f : Nat) (t : TypeId) (cs : Array Value) (w : World) (e : Ending) (w' : World) : Prop :=
  ∃ o, e = .returned (.float .f32 o) ∧ can .f32 o = x j ∧ fits .f32 o ∧ Row w' g t (cs.setIfInBounds (f + 1) (.int .i64 (((j + 1) % n : Nat) : Int))) ∧ OwnS w' lo hi s (pushX x j a) n ∧ Chg (fun i => i = g ∨ lo ≤ i ∧ i < hi) w w'
theorem own_set {w : World} {lo hi b o cap n : Nat} {ds : Array Value} {x : Nat → Nat} (j a : Nat) (hr : Row w b 35 (ds.setIfInBounds (o + j) (.float .f32 a))) (hc : n ≤ cap) (hm : cap ≤ maxLen) (hb : lo ≤ b) (hb' : b < hi) (hj : o + j < ds.size) (ha : fits .f32 a)
    (hx : ∀ i, i < n → ∃ y, ds[o + i]? = some (.float .f32 y) ∧ fits .f32 y ∧ can .f32 y = x i) : OwnS w lo hi (.slice (some ⟨b, o, none⟩) n cap) (pushX x j a) n := by
  refine .inr ⟨b, o, cap, _, rfl, hc, hm, hb, hb', hr, fun i hi' => ?_⟩
  by_cases e : i = j
  · subst e
    exact ⟨a, by rw [Array.getElem?_setIfInBounds_self_of_lt hj], ha, by simp [pushX]⟩
  · obtain ⟨y, e1, e2, e3⟩ := hx i hi'
    exact ⟨y, by rw [Array.getElem?_setIfInBounds_ne (by omega)]; exact e1, e2, by simp [pushX, e, e3]⟩
end Go.Fk
namespace Go.Proofs.YtogledmlbcmkjaaDoor
open Go.RowKit Go.Fk
theorem kindF : ∀ w : World, (isAgg 32).run Tryd.prog w = .ok false w := fun w => by kernel_rfl
theorem kindI : ∀ w : World, (isAgg 2).run Tryd.prog w = .ok false w := fun w => by kernel_rfl
theorem okRing_nat {n : Nat} {k : Int} (h : okRing n k = true) : 1 ≤ n ∧ n ≤ 1024 ∧ ∃ j : Nat, k = j ∧ j < n := by
  have := okRing_iff.1 h
  exact ⟨this.1, this.2.1, k.toNat, by omega, by omega⟩
end Go.Proofs.YtogledmlbcmkjaaDoor

/- Cells of slices that one may write. Nothing here names a program. -/
namespace Go.Fk
open Go Go.RowKit
theorem OwnS.form {w : World} {lo hi n : Nat} {s : Value} {x : Nat → Nat} (h : OwnS w lo hi s x n) (hn : 1 ≤ n) : ∃ b o cap, s = .slice (some ⟨b, o, none⟩) n cap ∧ n ≤ cap ∧ cap ≤ maxLen ∧ lo ≤ b ∧ b < hi := by
  rcases h with ⟨_, rfl⟩ | ⟨b, o, cap, cs, h1, h2, h3, h4, h5, _⟩
  · omega
  · exact ⟨b, o, cap, h1, h2, h3, h4, h5⟩
theorem OwnS.at {w : World} {lo hi b o n cap : Nat} {x : Nat → Nat} (h : OwnS w lo hi (.slice (some ⟨b, o, none⟩) n cap) x n) {i : Nat} (hi' : i < n) : ∃ y, w.cell? ⟨b, o + i, none⟩ = some (.float .f32 y) ∧ w.frozen? ⟨b, o + i, none⟩ = false ∧ fits .f32 y ∧ can .f32 y = x i := by
  rcases h with ⟨h0, _⟩ | ⟨b', o', cap', cs, h1, h2, h3, h4, h5, h6, h7⟩
  · cases h0
  · simp only [Value.slice.injEq, Option.some.injEq, Addr.mk.injEq, and_true, true_and] at h1
    obtain ⟨⟨rfl, rfl⟩, rfl⟩ := h1
    obtain ⟨y, e1, e2, e3⟩ := h7 i hi'
    exact ⟨y, (h6.cell? (o + i)).trans e1, h6.frozen (o + i), e2, e3⟩
theorem OwnS.set {w : World} {lo hi b o n cap : Nat} {x : Nat → Nat} (h : OwnS w lo hi (.slice (some ⟨b, o, none⟩) n cap) x n) {i a : Nat} (hi' : i < n) (ha : fits .f32 a) :
    OwnS (w.setCell ⟨b, o + i, none⟩ (.float .f32 a)) lo hi (.slice (some ⟨b, o, none⟩) n cap) (pushX x i a) n ∧ Chg (rng lo hi) w (w.setCell ⟨b, o + i, none⟩ (.float .f32 a)) := by
  rcases h with ⟨h0, _⟩ | ⟨b', o', cap', cs, h1, h2, h3, h4, h5, h6, h7⟩
  · cases h0
  · simp only [Value.slice.injEq, Option.some.injEq, Addr.mk.injEq, and_true, true_and] at h1
    obtain ⟨⟨rfl, rfl⟩, rfl⟩ := h1
    refine ⟨.inr ⟨b, o, cap, cs.setIfInBounds (o + i) (.float .f32 a), rfl, h2, h3, h4, h5, h6.set _ _, fun j hj => ?_⟩, (Chg.refl _ _).setCell (a := ⟨b, o + i, none⟩) ⟨h4, h5⟩ _⟩
    obtain ⟨y0, e0, _⟩ := h7 i hi'
    have hlt : o + i < cs.size := (Array.getElem?_eq_some_iff.1 e0).1
    by_cases e : j = i
    · subst e
      exact ⟨a, by simp [hlt], ha, by simp [pushX]⟩
    · obtain ⟨y, e1, e2, e3⟩ := h7 j hj
      exact ⟨y, by rw [Array.getElem?_setIfInBounds_ne (by omega)]; exact e1, e2, by simp [pushX, e, e3]⟩
namespace Frg
variable {w0 w w' : World}
theorem chg0 {e e' : Fact} {post : List Fact} (h : Frg w0 w (e :: post)) (k : Chg (rng e.lo e.hi) w w') (hp : e'.p w') (h1 : e'.lo = e.lo) (h2 : e'.hi = e.hi) : Frg w0 w' (e' :: post) := chg [] h k hp h1 h2
theorem chg1 {b0 e e' : Fact} {post : List Fact} (h : Frg w0 w (b0 :: e :: post)) (k : Chg (rng e.lo e.hi) w w') (hp : e'.p w') (h1 : e'.lo = e.lo) (h2 : e'.hi = e.hi) : Frg w0 w' (b0 :: e' :: post) := chg [b0] h k hp h1 h2
end Frg
/-- The first k samples are 0. -/
def zeroTo (k : Nat) (x : Nat → Nat) : Nat → Nat := fun i => if i < k then 0 else x i
theorem zeroTo_0 (x : Nat → Nat) : zeroTo 0 x = x := by funext i; simp [zeroTo]
theorem zeroTo_s (k : Nat) (x : Nat → Nat) : pushX (zeroTo k x) k 0 = zeroTo (k + 1) x := by
  funext i
  unfold pushX zeroTo
  by_cases e : i = k
  · subst e; simp; decide
  · by_cases l : i < k
    · simp [e, l, show i < k + 1 by omega]
    · simp [e, l, show ¬ i < k + 1 by omega]
end Go.Fk

/- Regions that draw: a new row, the length of a slice. Nothing here names a program. -/
namespace Go.Fk
open Go Go.RowKit
section
variable {P : Program} {ops : Array Oper} {W : World} {K : FuncId → Array Value → World → Value → Prop} {Q : Act → World → Prop} {F : World → Prop} {o : Oper} {rest : List Oper} {a : Act}
/-- A new row is made. -/
theorem wpFree_made (hg : o.guard = none) (f : Nat → Value) (t : TypeId) (cs : Array Value)
    (hr : ∀ w, (execOp a.eval o).run P w = .ok (.value (f w.heap.size)) (w.alloc (.cells cs t)))
    (h : ∀ b, W.heap.size ≤ b → wpFree P ops W K Q rest (a.put o.dst (f b)) (fun w => F w ∧ ∃ b', f b = f b' ∧ W.heap.size ≤ b' ∧ Row w b' t cs)) : wpFree P ops W K Q (o :: rest) a F := by
  refine ⟨fun w v => ∃ b, v = f b ∧ W.heap.size ≤ b ∧ Row w b t cs, ⟨fun v w w' hl h => ?_, .inl ⟨by simp [Region.wanted, hg], fun w hw => ?_⟩⟩, fun v hv => ?_⟩
  · obtain ⟨b, e, h1, h2⟩ := h; exact ⟨b, e, h1, h2.le hl⟩
  · rw [hr]
    exact ⟨le_alloc w _, w.heap.size, rfl, Below.size hw, Row.new w t cs⟩
  · obtain ⟨w, _, b, rfl, hb, _⟩ := hv
    exact h b hb
theorem wpFree_len (hg : o.guard = none) {x : Operand} {t : TypeId} (hop : o.op = Op.call { callee := Callee.builtin Builtin.len, args := #[x], argTypes := #[t] }) {e : TypeId} (hu : P.underlying t = some (.slice e)) {ao : Option Addr} {n c : Nat} (hx : a.eval x = .slice ao n c)
    (h : wpFree P ops W K Q rest (a.put o.dst (.int .i64 n)) F) : wpFree P ops W K Q (o :: rest) a F := by
  refine wpFree_one hg (.int .i64 n) (fun w _ => ?_) h
  simp [execOp, hop, hx, Result.andThen, resolve, invoke, builtin, Builtin.len_, run_underlying hu]
  rfl
end
end Go.Fk

/- Muted rings: '(Ring).muted' of the program, 'l05Muted' of the model. -/
namespace Go.Proofs.YtogledmlbcmkjaaDoor
open Go.RowKit Go.Fk
theorem own_zero {w : World} {b n lo hi : Nat} (h : Row w b 35 (ftab .f32 (fun _ => 0) n)) (hn : n ≤ 1024) (hlo : lo ≤ b) (hhi : b < hi) : OwnS w lo hi (.slice (some ⟨b, 0, none⟩) n n) (fun _ => 0) n :=
  .inr ⟨b, 0, n, _, rfl, Nat.le_refl _, by unfold maxLen; omega, hlo, hhi, h, fun i hi => ⟨0, by rw [Nat.zero_add]; exact get_ftab .f32 (fun _ => 0) n i hi, by simp [fits, Lit.wf], show can .f32 0 = 0 by decide⟩⟩
end Go.Proofs.YtogledmlbcmkjaaDoor

/- 'OnePole', 'OneZero', 'BlockDc', 'AllpassFor'. -/
namespace Go.Fk
open Go Go.RowKit
/-- A filter is given, each of its numbers up to the bits of NaN. -/
def OutL (k : Int) (A B C X Y : Nat) (B0 : Nat) (w0 : World) (e : Ending) (w' : World) : Prop := ∃ a b c x y, e = .returned (.agg #[.int .i64 k, .float .f32 a, .float .f32 b, .float .f32 c, .float .f32 x, .float .f32 y]) ∧ (can .f32 a = A ∧ can .f32 b = B ∧ can .f32 c = C ∧ can .f32 x = X ∧ can .f32 y = Y) ∧ Below B0 w0 w'
def quoA (q : Nat) : Nat := fop .quo .f32 (fop .sub .f32 1065353216 q) (fop .add .f32 1065353216 q)
theorem Row.store6 {W : World} {g : Nat} {t : TypeId} {o0 o1 o2 o3 o4 o5 v0 v1 v2 v3 v4 v5 : Value} (h : Row W g t #[o0, o1, o2, o3, o4, o5]) :
    Row ((((((W.setCell ⟨g, 0, none⟩ v0).setCell ⟨g, 1, none⟩ v1).setCell ⟨g, 2, none⟩ v2).setCell ⟨g, 3, none⟩ v3).setCell ⟨g, 4, none⟩ v4).setCell ⟨g, 5, none⟩ v5) g t #[v0, v1, v2, v3, v4, v5] := by
  have := (((((h.set 0 v0).set 1 v1).set 2 v2).set 3 v3).set 4 v4).set 5 v5
  simpa using this
theorem can_zero : can .f32 0 = 0 := by decide
/-- Is it from 0 to 2? -/
def to2 (q : Nat) : Bool := (FloatKind.f32.format.order q 0 == some .gt || FloatKind.f32.format.order q 0 == some .eq) && (FloatKind.f32.format.order q 1073741824 == some .lt || FloatKind.f32.format.order q 1073741824 == some .eq)
/-- 'AllpassFor': a filter and OK, or none and ErrRange. -/
def OutA (q : Nat) (B0 : Nat) (w0 : World) (e : Ending) (w' : World) : Prop :=
  (to2 q = true → ∃ a, e = .returned (.tuple #[(.agg #[.int .i64 3, .float .f32 a, .float .f32 0, .float .f32 0, .float .f32 0, .float .f32 0]), .int .i64 0]) ∧ can .f32 a = quoA q) ∧ (to2 q = false → e = .returned (.tuple #[(.agg #[.int .i64 0, .float .f32 0, .float .f32 0, .float .f32 0, .float .f32 0, .float .f32 0]), .int .i64 2])) ∧ Below B0 w0 w'
end Go.Fk
namespace Go.Proofs.YtogledmlbcmkjaaDoor
open Go.RowKit Go.Fk
end Go.Proofs.YtogledmlbcmkjaaDoor

/- Fresh filters and rings: what constructors share. -/
namespace Go.Fk
open Go Go.RowKit
def partB (a : Nat) : Bool := (FloatKind.f32.format.order a 0 == some .gt || FloatKind.f32.format.order a 0 == some .eq) && (FloatKind.f32.format.order a 1065353216 == some .lt)
/-- A fresh filter. -/
def FilV (k : Int) (A B : Nat) (v : Value) : Prop := ∃ a b c x y, v = .agg #[.int .i64 k, .float .f32 a, .float .f32 b, .float .f32 c, .float .f32 x, .float .f32 y] ∧ (can .f32 a = A ∧ can .f32 b = B ∧ can .f32 c = 0 ∧ can .f32 x = 0 ∧ can .f32 y = 0) ∧ (fits .f32 a ∧ fits .f32 b ∧ fits .f32 c ∧ fits .f32 x ∧ fits .f32 y)
theorem zero_f : fits .f32 0 := by simp [fits, Lit.wf]
section
variable {P : Program} {ops : Array Oper} {W : World} {K : FuncId → Array Value → Nat → World → Value → Prop} {Q : Act → World → Prop} {F : FactsZ} {k : Nat} {o : Oper} {rest : List Oper} {a : Act}
/-- A slice is made. -/
theorem wpFreeZ_made (hg : o.guard = none) {ty : TypeId} {x y : Operand} (hop : o.op = .makeSlice ty x y) {u v : Value} (hx : a.eval x = u) (hy : a.eval y = v) {n : Nat} {t : TypeId} {cs : Array Value} (hr : ∀ w, (Instr.makeSlice ty u v).run P w = .ok (.slice (some ⟨w.heap.size, 0, none⟩) n n) (w.alloc (.cells cs t)))
    (h : ∀ b, wpFreeZ leX P ops .any W K Q rest (k + 1) (a.put o.dst (.slice (some ⟨b, 0, none⟩) n n)) (F.with k (fun z w => b = z ∧ W.heap.size ≤ z ∧ Row w z t cs))) : wpFreeZ leX P ops .any W K Q (o :: rest) k a F := by
  refine ⟨fun z w u => u = .slice (some ⟨z, 0, none⟩) n n ∧ W.heap.size ≤ z ∧ Row w z t cs, ⟨fun z v w w' hw hv => ⟨hv.1, hv.2.1, hv.2.2.le hw⟩, .inl ⟨by simp [Region.wanted, hg], fun w hw _ => ?_⟩⟩, fun u hu => ?_⟩
  · have : (execOp a.eval o).run P w = .ok (.value (.slice (some ⟨w.heap.size, 0, none⟩) n n)) (w.alloc (.cells cs t)) := by
      simp [execOp, hop, hx, hy, hr, Result.andThen]
    rw [this]
    exact ⟨le_alloc w _, rfl, hw.size, Row.new w t cs⟩
  · obtain ⟨z, w, _, rfl, _⟩ := hu.has
    exact wpFreeZ_weaken _ _ _ _ _ (fun e z' w h => ⟨h.1, fun he => ⟨by have := (h.2 he).1; simpa using this, (h.2 he).2⟩⟩) (h z)
end
end Go.Fk
namespace Go.Proofs.YtogledmlbcmkjaaDoor
open Go.RowKit Go.Fk
end Go.Proofs.YtogledmlbcmkjaaDoor

/- Events: the program's small functions, its comparer. -/
namespace Go.Fk
open Go Go.RowKit
/-- What a comparison of two lists of one length gives. -/
def cmL : List Int → List Int → Int
  | a :: s, b :: t => if a < b then -1 else if b < a then 1 else cmL s t
  | _, _ => 0
theorem cmL_lt : ∀ {s t : List Int}, s.length = t.length → (cmL s t < 0 ↔ ltL s t = true) := by
  intro s
  induction s with
  | nil => intro t h; cases t <;> simp [cmL, ltL]
  | cons a s ih =>
    intro t h
    cases t with
    | nil => simp at h
    | cons b t =>
      have e1 : cmL (a :: s) (b :: t) = if a < b then -1 else if b < a then 1 else cmL s t := rfl
      have e2 : ltL (a :: s) (b :: t) = if a = b then ltL s t else decide (a < b) := rfl
      rw [e1, e2]
      rcases Int.lt_trichotomy a b with h1 | h1 | h1
      · rw [if_pos h1, if_neg (by omega)]; simp [h1]
      · subst h1
        rw [if_neg (by omega), if_neg (by omega), if_pos rfl]
        exact ih (by simpa using h)
      · rw [if_neg (by omega), if_pos h1, if_neg (by omega)]; simp; omega
def evL (a k n i y : Int) (f : Nat) : List Value := [.int .i64 a, .int .i64 k, .int .i64 n, .int .i64 i, .int .i64 y, .float .f32 f]
def intsV (l : List Int) : List Value := l.map (Value.int .i64)
end Go.Fk
namespace Go.Proofs.YtogledmlbcmkjaaDoor
open Go.RowKit Go.Fk
end Go.Proofs.YtogledmlbcmkjaaDoor

/- The laws' helpers for Event, over trees of data. -/
namespace Go.Proofs.YtogledmlbcmkjaaDoor
open Go.RowKit Go.Fk
end Go.Proofs.YtogledmlbcmkjaaDoor

/- The laws' helpers for []Event, over trees of data. -/
namespace Go.Proofs.YtogledmlbcmkjaaDoor
open Go.RowKit Go.Fk
theorem sz_elEvent (x : Nat → CD) (k : Nat) : sumTo (fun i => (x i).sz) ((k + 1) * 6) = sumTo (fun i => (x i).sz) (k * 6) + szL ((List.range 6).map (fun j => x (k * 6 + j))) := by
  rw [Nat.succ_mul, sumTo_add]; (simp [szL, sumTo, List.range_succ, List.sum_append]) <;> omega
theorem sz_atEvent {n : Nat} (x : Nat → CD) (k : Nat) (hk : k < n) : sumTo (fun i => (x i).sz) (k * 6) + szL ((List.range 6).map (fun j => x (k * 6 + j))) ≤ sumTo (fun i => (x i).sz) (n * 6) := by
  rw [← sz_elEvent]; exact sumTo_le _ (Nat.mul_le_mul_right _ hk)
theorem sz_zEvent {n : Nat} {x : Nat → CD} (hsh : ∀ i, i < n → ∀ j, j < 6 → ShOk (shEvent.getD j .bool) (x (i * 6 + j))) : CD.sz (CD.sl 6 n x) = n := by
  have h0 : ∀ i, i < n * 6 → (x i).sz = 0 := fun i hi => by
    have hq : i / 6 < n := Nat.div_lt_of_lt_mul (by rwa [Nat.mul_comm] at hi)
    have hr : i % 6 < 6 := Nat.mod_lt _ (by decide)
    have h := hsh _ hq _ hr
    rw [show i / 6 * 6 + i % 6 = i by rw [Nat.mul_comm]; exact Nat.div_add_mod i 6] at h
    generalize i % 6 = j at h hr
    match j, hr, h with
    | 0, _, h => obtain ⟨z, e⟩ := h; rw [e]; rfl
    | 1, _, h => obtain ⟨z, e⟩ := h; rw [e]; rfl
    | 2, _, h => obtain ⟨z, e⟩ := h; rw [e]; rfl
    | 3, _, h => obtain ⟨z, e⟩ := h; rw [e]; rfl
    | 4, _, h => obtain ⟨z, e⟩ := h; rw [e]; rfl
    | 5, _, h => exact CD.sz_fl (show (x i).flk = some .f32 from h)
  simp only [CD.sz]
  rw [sumTo_zero h0, Nat.add_zero]
end Go.Proofs.YtogledmlbcmkjaaDoor

/- Events: the closure that compares two, and slices.IsSortedFunc with it. -/
namespace Go.Fk
open Go Go.RowKit
theorem keyE_form (a k n s : Int) : ∃ p q r t : Int, keyE a k n s = [p, q, r, t] := by
  unfold keyE; split
  · exact ⟨_, _, _, _, rfl⟩
  · split <;> exact ⟨_, _, _, _, rfl⟩
section
variable {P : Program} {ops : Array Oper} {W : World} {K : FuncId → Array Value → Nat → World → Value → Prop} {Q : Act → World → Prop} {F : FactsZ} {k : Nat} {o : Oper} {rest : List Oper} {a : Act}
/-- The address of an element of an array behind a pointer. -/
theorem run_indexArr {t : TypeId} {x y : Operand} (hop : o.op = .indexAddr t x y) {g n i : Nat} {kk : IntKind} {e : TypeId} (hx : a.eval x = .pointer (some ⟨g, 0, none⟩)) (hy : a.eval y = .int kk (i : Int)) (hu : P.underlying t = some (.array n e)) (hs : (P.info? e).map (·.size) = some 1) (hi : i < n) (w : World) : (execOp a.eval o).run P w = .ok (.value (.pointer (some ⟨g, i, none⟩))) w := by
  cases hq : P.info? e with
  | none => simp [hq] at hs
  | some inf =>
    have hz : inf.size = 1 := by simpa [hq] using hs
    have h2 : (i : Int) < (n : Int) := by omega
    simp [execOp, hop, hx, hy, Instr.indexAt, asIntOf, run_underlying hu, sizeOf, typeInfo, hq, hz, h2, hi, Result.andThen, add_none, Instr.sureAddr]
/-- A block is made. -/
theorem wpFreeZ_alloc (hg : o.guard = none) {ty : TypeId} (hop : o.op = .alloc ty) (cs : Array Value) (hr : ∀ w, (Instr.alloc ty true (.tuple #[])).run P w = .ok (.pointer (some ⟨w.heap.size, 0, none⟩)) (w.alloc (.cells cs ty)))
    (h : ∀ b, wpFreeZ leX P ops .any W K Q rest (k + 1) (a.put o.dst (.pointer (some ⟨b, 0, none⟩))) (F.with k (fun z w => b = z ∧ W.heap.size ≤ z ∧ Row w z ty cs))) : wpFreeZ leX P ops .any W K Q (o :: rest) k a F := by
  refine ⟨fun z w u => u = .pointer (some ⟨z, 0, none⟩) ∧ W.heap.size ≤ z ∧ Row w z ty cs, ⟨fun z v w w' hw hv => ⟨hv.1, hv.2.1, hv.2.2.le hw⟩, .inl ⟨by simp [Region.wanted, hg], fun w hw _ => ?_⟩⟩, fun u hu => ?_⟩
  · have : (execOp a.eval o).run P w = .ok (.value (.pointer (some ⟨w.heap.size, 0, none⟩))) (w.alloc (.cells cs ty)) := by
      simp [execOp, hop, hr, Result.andThen, inside]
    rw [this]
    exact ⟨le_alloc w _, rfl, hw.size, Row.new w ty cs⟩
  · obtain ⟨z, w, _, rfl, _⟩ := hu.has
    exact wpFreeZ_weaken _ _ _ _ _ (fun e z' w h => ⟨h.1, fun he => ⟨by have := (h.2 he).1; simpa using this, (h.2 he).2⟩⟩) (h z)
end
/-- What 'order' makes of its arguments. -/
def keyA (args : Array Value) : Value := match args.toList with
  | [.agg cs, .int _ s] => (match cs.toList with | [.int _ a, .int _ k, .int _ n, _, _, _] => .agg (intsV (keyE a k n s)).toArray | _ => .bool false)
  | _ => .bool false
end Go.Fk
namespace Go.Proofs.YtogledmlbcmkjaaDoor
open Go.RowKit Go.Fk
end Go.Proofs.YtogledmlbcmkjaaDoor

/- Events: 'comparerOf', and slices.IsSortedFunc with its closure. -/
namespace Go.Fk
open Go Go.RowKit
section
variable {P : Program} {w : World} {ops : Array Oper} {rest : List Oper} {o : Oper} {a : Act} {Q : Exit → Act → World → Prop}
theorem wpList_indexAP (hg : o.guard = none) {t : TypeId} {x y : Operand} (hop : o.op = .indexAddr t x y) {g n i : Nat} {kk : IntKind} {e : TypeId} (hx : a.eval x = .pointer (some ⟨g, 0, none⟩)) (hy : a.eval y = .int kk (i : Int)) (hu : P.underlying t = some (.array n e)) (hs : (P.info? e).map (·.size) = some 1) (hi : i < n)
    (h : wpList P ops Q rest (a.put o.dst (.pointer (some ⟨g, i, none⟩))) w) : wpList P ops Q (o :: rest) a w := by
  refine wpList_plain hg fun K hK' => ?_
  unfold Oper.wp
  rw [run_indexArr hop hx hy hu hs hi]
  exact hK' _ _ h
end
section
variable {E : Ext} {P : Program} {ops : Array Oper} {W : World} {K : FuncId → Array Value → World → Value → Prop} {Q : Act → World → Prop} {F : Facts} {k : Nat} {o : Oper} {rest : List Oper} {a : Act}
theorem run_enterV {x : Operand} {f : FuncId} {caps : Array Value} (hx : a.eval x = .func (.func f) #[] caps) {xs : Array Operand} {ts : Array TypeId} (hop : o.op = Op.call { callee := Callee.value x, args := xs, argTypes := ts }) {fn : Func} (hf : P.funcs[f]? = some fn)
    (hb : fn.body.isNone = false) (hn : (fn.name == "runtime.NumGoroutine") = false) {args : Array Value} (ha : xs.map a.eval ++ caps = args) (w : World) : (execOp a.eval o).run P w = .ok (.enter f args) w := by
  have hn' : fn.name ≠ "runtime.NumGoroutine" := by simpa using hn
  have hbn : ¬ fn.body = none := by intro e; rw [e] at hb; simp at hb
  simp [execOp, hop, hx, resolve, invoke, Deferred.ofValue, callFunc, hf, hn', hbn, ha, Result.andThen]
/-- A closure is called. -/
theorem wpFreeD_callV (hg : o.guard = none) {x : Operand} {f : FuncId} {caps : Array Value} (hx : a.eval x = .func (.func f) #[] caps) {xs : Array Operand} {ts : Array TypeId} (hop : o.op = Op.call { callee := Callee.value x, args := xs, argTypes := ts }) {fn : Func} (hf : P.funcs[f]? = some fn)
    (hb : fn.body.isNone = false) (hn : (fn.name == "runtime.NumGoroutine") = false) {args : Array Value} (ha : xs.map a.eval ++ caps = args) (hm : MonoT E (K f args))
    (h1 : ∀ w, E.R W w → behind .any o F w → Calls P f args w (fun e w' => ∃ v, e = .returned v ∧ le w w' ∧ K f args w' v)) (h2 : ∀ v, (∃ w, E.R W w ∧ (∀ e, F e w) ∧ K f args w v) → wpFreeD E P ops .any W K Q rest (k + 1) (a.put o.dst v) (F.with k (fun w => K f args w v))) : wpFreeD E P ops .any W K Q (o :: rest) k a F := by
  refine ⟨K f args, ⟨hm, .inl ⟨by simp [Region.wanted, hg], fun w hw hbe => ?_⟩⟩, fun v hv => h2 v hv⟩
  rw [run_enterV hx hop hf hb hn ha]
  refine ⟨E.refl w, (h1 w hw hbe).mono ?_, fun _ _ h => h⟩
  rintro e w' ⟨v, rfl, hl, hk⟩
  exact ⟨v, rfl, E.of_le hl, hk⟩
end
theorem saE_step {x : Nat → CD} {j v : Nat} (hk : evK x j = 2) (hv : evN x j = (v : Int)) : (fun q : Nat => if q = v then evA x j else saE x j (q : Int)) = fun q : Nat => saE x (j + 1) (q : Int) := by
  funext q
  simp only [saE, hk, hv, true_and]
  by_cases h : q = v
  · subst h; simp
  · rw [if_neg h, if_neg (by omega)]
theorem saE_skip {x : Nat → CD} {j : Nat} (hk : evK x j ≠ 2) : (fun q : Nat => saE x j (q : Int)) = fun q : Nat => saE x (j + 1) (q : Int) := by
  funext q
  simp only [saE]
  rw [if_neg (by simp [hk])]
end Go.Fk
namespace Go.Proofs.YtogledmlbcmkjaaDoor
open Go.RowKit Go.Fk
end Go.Proofs.YtogledmlbcmkjaaDoor

/- Events: slices.IsSortedFunc with the closure. -/
namespace Go.Fk
open Go Go.RowKit
def srtE (x : Nat → CD) (n q : Nat) : Bool := !ltL (keyJ x n (q + 1)) (keyJ x n q)
theorem srt_neg {x : Nat → CD} {n q : Nat} : decide (cmL (keyJ x n (q + 1)) (keyJ x n q) < 0) = !srtE x n q := by
  unfold srtE
  rw [Bool.not_not]
  have h := cmL_lt (s := keyJ x n (q + 1)) (t := keyJ x n q) ((keyE_len ..).trans (keyE_len ..).symm)
  rw [Bool.eq_iff_iff]
  simpa using h
end Go.Fk
namespace Go.Proofs.YtogledmlbcmkjaaDoor
open Go.RowKit Go.Fk
end Go.Proofs.YtogledmlbcmkjaaDoor

/- Events: the model's small functions. -/
namespace Go.Proofs.YtogledmlbcmkjaaDoor
open Go.RowKit Go.Fk
theorem s_InB (a b c : Int) (w : World) : Calls Tryd.prog 44 #[.int .i64 a, .int .i64 b, .int .i64 c] w fun e w' => e = .returned (.bool (decide (b ≤ a) && decide (a ≤ c))) ∧ w = w' := by
  by_cases h1 : b ≤ a
  · by_cases h2 : a ≤ c
    · have E := hid (show (decide (b ≤ a) && decide (a ≤ c)) = true by simp [h1, h2])
      go_enter Tryd.func44, Tryd.ntmps44
      go_wp2
      go_ret
      exact ⟨ret_b E.out.symm, rfl⟩
    · have E := hid (show (decide (b ≤ a) && decide (a ≤ c)) = false by simp [h2])
      have D := hid (decide_eq_false h2)
      go_enter Tryd.func44, Tryd.ntmps44
      go_wp2
      go_ret
      exact ⟨ret_b D.out.symm, rfl⟩
  · have E := hid (show (decide (b ≤ a) && decide (a ≤ c)) = false by simp [h1])
    go_enter Tryd.func44, Tryd.ntmps44
    go_wp2
    go_ret
    exact ⟨ret_b E.out.symm, rfl⟩
end Go.Proofs.YtogledmlbcmkjaaDoor

/- Events: the model's 'l08Key'. -/
namespace Go.Proofs.YtogledmlbcmkjaaDoor
open Go.RowKit Go.Fk
end Go.Proofs.YtogledmlbcmkjaaDoor

/- The laws' helpers for Instrument, over trees of data. -/
namespace Go.Proofs.YtogledmlbcmkjaaDoor
open Go.RowKit Go.Fk
end Go.Proofs.YtogledmlbcmkjaaDoor

/- Two instruments or events that are the same: data, and the program's functions. -/
namespace Go.Fk
open Go Go.RowKit
def eqT (t t' : ByteArray) : Bool := t.toList == t'.toList
def strC : CD → ByteArray | .str t => t | _ => ⟨#[]⟩
def inT (x : Nat → CD) (k : Nat) : ByteArray := strC (x (k * 5))
def inK (x : Nat → CD) (k : Nat) : Int := intC (x (k * 5 + 1))
def inA (x : Nat → CD) (k : Nat) : Nat := (x (k * 5 + 2)).fx
def inB (x : Nat → CD) (k : Nat) : Nat := (x (k * 5 + 3)).fx
def inC (x : Nat → CD) (k : Nat) : Nat := (x (k * 5 + 4)).fx
def sameV (a a' : Int) (k k' : Int) (n n' : Int) (i i' : Int) (y y' : Int) (f f' : Nat) : Bool := (a == a') && (k == k') && (n == n') && (i == i') && (y == y') && sameB f f'
def sameEv (x x' : Nat → CD) (j : Nat) : Bool := sameV (evA x j) (evA x' j) (evK x j) (evK x' j) (evN x j) (evN x' j) (evI x j) (evI x' j) (evY x j) (evY x' j) (evF x j) (evF x' j)
def sameEvs (x x' : Nat → CD) (n n' : Nat) : Bool := (n == n') && allB (sameEv x x') n
theorem sameEvs_ne {x x' : Nat → CD} {n n' : Nat} (h : n ≠ n') : sameEvs x x' n n' = false := by simp [sameEvs, h]
theorem sameEvs_eq {x x' : Nat → CD} {n : Nat} : sameEvs x x' n n = allB (sameEv x x') n := by simp [sameEvs]
def sameI (t t' : ByteArray) (k k' : Int) (a a' : Nat) (b b' : Nat) (c c' : Nat) : Bool := eqT t t' && (k == k') && sameB a a' && sameB b b' && sameB c c'
def sameIn (x x' : Nat → CD) (j : Nat) : Bool := sameI (inT x j) (inT x' j) (inK x j) (inK x' j) (inA x j) (inA x' j) (inB x j) (inB x' j) (inC x j) (inC x' j)
def sameIns (x x' : Nat → CD) (n n' : Nat) : Bool := (n == n') && allB (sameIn x x') n
theorem sameIns_ne {x x' : Nat → CD} {n n' : Nat} (h : n ≠ n') : sameIns x x' n n' = false := by simp [sameIns, h]
theorem sameIns_eq {x x' : Nat → CD} {n : Nat} : sameIns x x' n n = allB (sameIn x x') n := by simp [sameIns]
def InsOk (x : Nat → CD) (n : Nat) : Prop := ∀ k, k < n → x (k * 5) = .str (inT x k) ∧ x (k * 5 + 1) = .int .i64 (inK x k) ∧ (x (k * 5 + 2)).flk = some .f32 ∧ (x (k * 5 + 3)).flk = some .f32 ∧ (x (k * 5 + 4)).flk = some .f32
/-- The cells of an instrument in a list. -/
theorem InsOk.vals {x : Nat → CD} {n k B b o cap : Nat} {w : World} (h : InsOk x n) (hr : (CD.sl 5 n x).RdN w B (.slice (some ⟨b, o, none⟩) n cap)) (hk : k < n) : ∃ a1 b1 c1, (fits .f32 a1 ∧ fits .f32 b1 ∧ fits .f32 c1) ∧ (can .f32 a1 = inA x k ∧ can .f32 b1 = inB x k ∧ can .f32 c1 = inC x k) ∧ (inT x k).size ≤ maxLen ∧
    (∀ j v, [Value.string (inT x k), .int .i64 (inK x k), .float .f32 a1, .float .f32 b1, .float .f32 c1][j]? = some v → w.cell? ((⟨b, o + k * 5, none⟩ : Addr).add j) = some v) := by
  obtain ⟨e0, e1, e2, e3, e4⟩ := h k hk
  obtain ⟨u0, c0, r0⟩ := hr.cell (i := k * 5) (by omega)
  obtain ⟨u1, c1, r1⟩ := hr.cell (i := k * 5 + 1) (by omega)
  obtain ⟨u2, c2, r2⟩ := hr.cell (i := k * 5 + 2) (by omega)
  obtain ⟨u3, c3, r3⟩ := hr.cell (i := k * 5 + 3) (by omega)
  obtain ⟨u4, c4, r4⟩ := hr.cell (i := k * 5 + 4) (by omega)
  rw [e0] at r0; rw [e1] at r1
  obtain ⟨rfl, w0⟩ := r0; obtain ⟨rfl, w1⟩ := r1
  obtain ⟨y2, rfl, f2, g2⟩ := r2.rd.fl e2
  obtain ⟨y3, rfl, f3, g3⟩ := r3.rd.fl e3
  obtain ⟨y4, rfl, f4, g4⟩ := r4.rd.fl e4
  refine ⟨y2, y3, y4, ⟨f2, f3, f4⟩, ⟨g2, g3, g4⟩, w0, fun j v hv => ?_⟩
  rw [add_none]
  match j, hv with
  | 0, hv => simp at hv; subst hv; exact c0
  | 1, hv => simp at hv; subst hv; rw [Nat.add_assoc]; exact c1
  | 2, hv => simp at hv; subst hv; rw [Nat.add_assoc]; exact c2
  | 3, hv => simp at hv; subst hv; rw [Nat.add_assoc]; exact c3
  | 4, hv => simp at hv; subst hv; rw [Nat.add_assoc]; exact c4
theorem ins_ok {x : Nat → CD} {n : Nat} {e : Nat → Sh} (h : ∀ i, i < n → ∀ j, j < 5 → ShOk (e j) (x (i * 5 + j))) (h0 : e 0 = .str) (h1 : e 1 = .int .i64) (h2 : e 2 = .flt .f32) (h3 : e 3 = .flt .f32) (h4 : e 4 = .flt .f32) : InsOk x n := fun k hk => by
  have a0 := h k hk 0 (by omega); have a1 := h k hk 1 (by omega); have a2 := h k hk 2 (by omega); have a3 := h k hk 3 (by omega); have a4 := h k hk 4 (by omega)
  rw [h0] at a0; rw [h1] at a1; rw [h2] at a2; rw [h3] at a3; rw [h4] at a4
  obtain ⟨z0, e0⟩ := a0; obtain ⟨z1, e1⟩ := a1
  rw [Nat.add_zero] at e0
  refine ⟨?_, ?_, a2, a3, a4⟩
  · unfold inT; rw [e0]; rfl
  · unfold inK; rw [e1]; rfl
end Go.Fk
namespace Go.Proofs.YtogledmlbcmkjaaDoor
open Go.RowKit Go.Fk
end Go.Proofs.YtogledmlbcmkjaaDoor

/- The laws' helpers for Tuning, over trees of data. -/
namespace Go.Proofs.YtogledmlbcmkjaaDoor
open Go.RowKit Go.Fk
theorem invf_Tuning {w : World} {S : Nat → Prop} {us : List Value} (c0 : CD) (c1 : CD) (n2 : Nat) (x2 : Nat → CD) (q0 : c0.flk = some .f32) (q1 : c1.flk = some .f32) (h : LayL w S (([(c0), (c1), (.sl 1 n2 x2)] : List CD).map CD.cp) us) : ∃ (g0 : Nat) (g1 : Nat) (u2 : Value), u2.oneCell' = true ∧ us = [.float .f32 g0, .float .f32 g1, u2] ∧ LayL w S (([(c0), (c1), (.sl 1 n2 x2)] : List CD).map CD.cp) [.float .f32 g0, .float .f32 g1, u2] := by
  have h0 := h
  simp only [List.map_cons, List.map_nil] at h
  obtain ⟨u0, us0, _, _, rfl, l0, hh0, _, _, _⟩ := h.inv
  obtain ⟨g0, rfl⟩ := lay_fl q0 l0
  obtain ⟨u1, us1, _, _, rfl, l1, hh1, _, _, _⟩ := hh0.inv
  obtain ⟨g1, rfl⟩ := lay_fl q1 l1
  obtain ⟨u2, us2, _, _, rfl, l2, hh2, _, _, _⟩ := hh1.inv
  obtain rfl := hh2.inv0
  exact ⟨g0, g1, u2, l2.one, rfl, h0⟩
end Go.Proofs.YtogledmlbcmkjaaDoor

/- The laws' helpers for []Instrument, over trees of data. -/
namespace Go.Proofs.YtogledmlbcmkjaaDoor
open Go.RowKit Go.Fk
theorem sz_elInstrument (x : Nat → CD) (k : Nat) : sumTo (fun i => (x i).sz) ((k + 1) * 5) = sumTo (fun i => (x i).sz) (k * 5) + szL ((List.range 5).map (fun j => x (k * 5 + j))) := by
  rw [Nat.succ_mul, sumTo_add]; (simp [szL, sumTo, List.range_succ, List.sum_append]) <;> omega
theorem sz_atInstrument {n : Nat} (x : Nat → CD) (k : Nat) (hk : k < n) : sumTo (fun i => (x i).sz) (k * 5) + szL ((List.range 5).map (fun j => x (k * 5 + j))) ≤ sumTo (fun i => (x i).sz) (n * 5) := by
  rw [← sz_elInstrument]; exact sumTo_le _ (Nat.mul_le_mul_right _ hk)
end Go.Proofs.YtogledmlbcmkjaaDoor

/- The laws' helpers for Score, over trees of data. -/
namespace Go.Proofs.YtogledmlbcmkjaaDoor
open Go.RowKit Go.Fk
theorem invf_Score {w : World} {S : Nat → Prop} {us : List Value} (c0 : CD) (c1 : CD) (c2 : CD) (n3 : Nat) (x3 : Nat → CD) (n4 : Nat) (x4 : Nat → CD) (n5 : Nat) (x5 : Nat → CD) (q0 : c0.flk = some .f32) (q1 : c1.flk = some .f32) (q2 : c2.flk = some .f32) (h : LayL w S (([(c0), (c1), (c2), (.sl 1 n3 x3), (.sl 5 n4 x4), (.sl 6 n5 x5)] : List CD).map CD.cp) us) : ∃ (g0 : Nat) (g1 : Nat) (g2 : Nat) (u3 : Value) (u4 : Value) (u5 : Value), u3.oneCell' = true ∧ u4.oneCell' = true ∧ u5.oneCell' = true ∧ us = [.float .f32 g0, .float .f32 g1, .float .f32 g2, u3, u4, u5] ∧ LayL w S (([(c0), (c1), (c2), (.sl 1 n3 x3), (.sl 5 n4 x4), (.sl 6 n5 x5)] : List CD).map CD.cp) [.float .f32 g0, .float .f32 g1, .float .f32 g2, u3, u4, u5] := by
  have h0 := h
  simp only [List.map_cons, List.map_nil] at h
  obtain ⟨u0, us0, _, _, rfl, l0, hh0, _, _, _⟩ := h.inv
  obtain ⟨g0, rfl⟩ := lay_fl q0 l0
  obtain ⟨u1, us1, _, _, rfl, l1, hh1, _, _, _⟩ := hh0.inv
  obtain ⟨g1, rfl⟩ := lay_fl q1 l1
  obtain ⟨u2, us2, _, _, rfl, l2, hh2, _, _, _⟩ := hh1.inv
  obtain ⟨g2, rfl⟩ := lay_fl q2 l2
  obtain ⟨u3, us3, _, _, rfl, l3, hh3, _, _, _⟩ := hh2.inv
  obtain ⟨u4, us4, _, _, rfl, l4, hh4, _, _, _⟩ := hh3.inv
  obtain ⟨u5, us5, _, _, rfl, l5, hh5, _, _, _⟩ := hh4.inv
  obtain rfl := hh5.inv0
  exact ⟨g0, g1, g2, u3, u4, u5, l3.one, l4.one, l5.one, rfl, h0⟩
end Go.Proofs.YtogledmlbcmkjaaDoor

/- Events: '(Score).notes', 'hasPlaceFor', 'hasNotes'. -/
namespace Go.Fk
open Go Go.RowKit
end Go.Fk
namespace Go.Proofs.YtogledmlbcmkjaaDoor
open Go.RowKit Go.Fk
end Go.Proofs.YtogledmlbcmkjaaDoor

/- Events: 'hasNotes'. -/
namespace Go.Fk
open Go Go.RowKit
theorem plB_can {m I a k n i y : Int} {f g : Nat} (h : can .f32 f = g) : plB m I a k n i y f = plB m I a k n i y g := by
  subst h
  unfold plB
  rw [fin_can (can_can .f32 f), show sameB (can .f32 f) 0 = sameB f 0 by unfold sameB; rw [can_can]]
theorem laE_step {x : Nat → CD} {j v : Nat} (hv : evN x j = (v : Int)) : (fun q : Nat => if q = v then evK x j else laE x j (q : Int)) = fun q : Nat => laE x (j + 1) (q : Int) := by
  funext q
  simp only [laE, hv]
  by_cases h : q = v
  · subst h; simp
  · rw [if_neg h, if_neg (by omega)]
end Go.Fk
namespace Go.Proofs.YtogledmlbcmkjaaDoor
open Go.RowKit Go.Fk
end Go.Proofs.YtogledmlbcmkjaaDoor

/- Events: the model's 'l08Events'. -/
namespace Go.Fk
open Go Go.RowKit
/-- A block is made. -/
theorem wpFreeD_allocD {P : Program} {ops : Array Oper} {W : World} {K : FuncId → Array Value → World → Value → Prop} {Q : Act → World → Prop} {F : Facts} {k : Nat} {o : Oper} {rest : List Oper} {a : Act} (hg : o.guard = none) {ty : TypeId} (hop : o.op = .alloc ty) (cs : Array Value) (hr : ∀ w, (Instr.alloc ty true (.tuple #[])).run P w = .ok (.pointer (some ⟨w.heap.size, 0, none⟩)) (w.alloc (.cells cs ty)))
    (h : ∀ b, wpFreeD leX P ops .any W K Q rest (k + 1) (a.put o.dst (.pointer (some ⟨b, 0, none⟩))) (F.with k (fun w => W.heap.size ≤ b ∧ Row w b ty cs))) : wpFreeD leX P ops .any W K Q (o :: rest) k a F := by
  refine ⟨fun w v => ∃ b, v = .pointer (some ⟨b, 0, none⟩) ∧ W.heap.size ≤ b ∧ Row w b ty cs, ⟨fun v w w' hw hv => ?_, .inl ⟨by simp [Region.wanted, hg], fun w hw _ => ?_⟩⟩, fun v hv => ?_⟩
  · obtain ⟨b, h1, h2, h3⟩ := hv
    exact ⟨b, h1, h2, h3.le hw⟩
  · have : (execOp a.eval o).run P w = .ok (.value (.pointer (some ⟨w.heap.size, 0, none⟩))) (w.alloc (.cells cs ty)) := by
      simp [execOp, hop, hr, Result.andThen, inside]
    rw [this]
    exact ⟨le_alloc w _, _, rfl, hw.size, Row.new w ty cs⟩
  · obtain ⟨_, _, _, b, rfl, _, _⟩ := hv
    exact wpFreeD_weaken _ _ _ _ _ (fun e w h => ⟨h.1, fun he => by obtain ⟨b', h1, h2, h3⟩ := h.2 he; have e : b = b' := (by simpa using h1); subst e; exact ⟨h2, h3⟩⟩) (h b)
def st1 (z : Int) : Int := if z = 0 then 0 else 1
def st2 (z : Int) : Int := if z = 1 then 1 else 0
theorem st_start {x : Nat → CD} {j v : Nat} (hk : evK x j = 2) (hv : evN x j = (v : Int)) (hz : laE x j (v : Int) = 0) : (fun q : Nat => if q = v then (1 : Int) else st1 (laE x j (q : Int))) = (fun q : Nat => st1 (laE x (j + 1) (q : Int))) ∧ (fun q : Nat => st2 (laE x j (q : Int))) = (fun q : Nat => st2 (laE x (j + 1) (q : Int))) := by
  constructor <;> funext q <;> simp only [laE, hv, hk] <;> by_cases h : q = v
  · subst h; simp [st1]
  · rw [if_neg h, if_neg (by omega)]
  · subst h; simp [st2, hz]
  · rw [if_neg (by omega)]
theorem st_stop {x : Nat → CD} {j v : Nat} (hk : evK x j = 1) (hv : evN x j = (v : Int)) (hz : laE x j (v : Int) = 2) : (fun q : Nat => if q = v then (1 : Int) else st2 (laE x j (q : Int))) = (fun q : Nat => st2 (laE x (j + 1) (q : Int))) ∧ (fun q : Nat => st1 (laE x j (q : Int))) = (fun q : Nat => st1 (laE x (j + 1) (q : Int))) := by
  constructor <;> funext q <;> simp only [laE, hv, hk] <;> by_cases h : q = v
  · subst h; simp [st2]
  · rw [if_neg h, if_neg (by omega)]
  · subst h; simp [st1, hz]
  · rw [if_neg (by omega)]
theorem get0 {g : Nat → Int} {n v : Nat} {z : Int} (hv : v < n) (hz : g v = z) : (itab .i64 g n)[0 + v * 1]? = some (.int .i64 z) := by
  rw [show 0 + v * 1 = v by omega, get_itab _ _ _ _ hv, hz]
theorem set0 (g : Nat → Int) (n v : Nat) (z : Int) : (itab .i64 g n).setIfInBounds (0 + v * 1) (.int .i64 z) = itab .i64 (fun q => if q = v then z else g q) n := by
  rw [show 0 + v * 1 = v by omega, set_itab]
end Go.Fk
namespace Go.Proofs.YtogledmlbcmkjaaDoor
open Go.RowKit Go.Fk
end Go.Proofs.YtogledmlbcmkjaaDoor

/- The kinds of filters as the program has them: 'modelOf', 'sizesOf'; 'ValidFilter' of both. -/
namespace Go.Proofs.YtogledmlbcmkjaaDoor
open Go.RowKit Go.Fk
/-- The value of a kind. -/
def mdl (k : Int) (a b c : Nat) : Value :=
  if k = 1 then .iface 135 (.agg #[.float .f32 a, .float .f32 b, .float .f32 c])
  else if k = 2 then .iface 136 (.agg #[.float .f32 a, .float .f32 b, .float .f32 c])
  else if k = 3 then .iface 137 (.agg #[.float .f32 a, .float .f32 b, .float .f32 c])
  else if k = 4 then .iface 138 (.agg #[.float .f32 a, .float .f32 b, .float .f32 c])
  else if k = 5 then .iface 139 (.agg #[.float .f32 a, .float .f32 b, .float .f32 c])
  else .nilIface
set_option maxRecDepth 100000 in
@[go_sem] theorem ta11 (v : Value) (w : World) : (Instr.typeAssert (.iface 135 v) 118 135 true).run Tryd.prog w = .ok (.tuple #[v, .bool true]) w := by rfl
set_option maxRecDepth 100000 in
@[go_sem] theorem ta12 (v : Value) (w : World) : (Instr.typeAssert (.iface 135 v) 118 136 true).run Tryd.prog w = .ok (.tuple #[.agg #[.float .f32 0, .float .f32 0, .float .f32 0], .bool false]) w := by rfl
set_option maxRecDepth 100000 in
@[go_sem] theorem ta13 (v : Value) (w : World) : (Instr.typeAssert (.iface 135 v) 118 137 true).run Tryd.prog w = .ok (.tuple #[.agg #[.float .f32 0, .float .f32 0, .float .f32 0], .bool false]) w := by rfl
set_option maxRecDepth 100000 in
@[go_sem] theorem ta15 (v : Value) (w : World) : (Instr.typeAssert (.iface 135 v) 118 139 true).run Tryd.prog w = .ok (.tuple #[.agg #[.float .f32 0, .float .f32 0, .float .f32 0], .bool false]) w := by rfl
set_option maxRecDepth 100000 in
@[go_sem] theorem ta21 (v : Value) (w : World) : (Instr.typeAssert (.iface 136 v) 118 135 true).run Tryd.prog w = .ok (.tuple #[.agg #[.float .f32 0, .float .f32 0, .float .f32 0], .bool false]) w := by rfl
set_option maxRecDepth 100000 in
@[go_sem] theorem ta22 (v : Value) (w : World) : (Instr.typeAssert (.iface 136 v) 118 136 true).run Tryd.prog w = .ok (.tuple #[v, .bool true]) w := by rfl
set_option maxRecDepth 100000 in
@[go_sem] theorem ta23 (v : Value) (w : World) : (Instr.typeAssert (.iface 136 v) 118 137 true).run Tryd.prog w = .ok (.tuple #[.agg #[.float .f32 0, .float .f32 0, .float .f32 0], .bool false]) w := by rfl
set_option maxRecDepth 100000 in
@[go_sem] theorem ta25 (v : Value) (w : World) : (Instr.typeAssert (.iface 136 v) 118 139 true).run Tryd.prog w = .ok (.tuple #[.agg #[.float .f32 0, .float .f32 0, .float .f32 0], .bool false]) w := by rfl
set_option maxRecDepth 100000 in
@[go_sem] theorem ta31 (v : Value) (w : World) : (Instr.typeAssert (.iface 137 v) 118 135 true).run Tryd.prog w = .ok (.tuple #[.agg #[.float .f32 0, .float .f32 0, .float .f32 0], .bool false]) w := by rfl
set_option maxRecDepth 100000 in
@[go_sem] theorem ta32 (v : Value) (w : World) : (Instr.typeAssert (.iface 137 v) 118 136 true).run Tryd.prog w = .ok (.tuple #[.agg #[.float .f32 0, .float .f32 0, .float .f32 0], .bool false]) w := by rfl
set_option maxRecDepth 100000 in
@[go_sem] theorem ta33 (v : Value) (w : World) : (Instr.typeAssert (.iface 137 v) 118 137 true).run Tryd.prog w = .ok (.tuple #[v, .bool true]) w := by rfl
set_option maxRecDepth 100000 in
@[go_sem] theorem ta35 (v : Value) (w : World) : (Instr.typeAssert (.iface 137 v) 118 139 true).run Tryd.prog w = .ok (.tuple #[.agg #[.float .f32 0, .float .f32 0, .float .f32 0], .bool false]) w := by rfl
set_option maxRecDepth 100000 in
@[go_sem] theorem ta41 (v : Value) (w : World) : (Instr.typeAssert (.iface 138 v) 118 135 true).run Tryd.prog w = .ok (.tuple #[.agg #[.float .f32 0, .float .f32 0, .float .f32 0], .bool false]) w := by rfl
set_option maxRecDepth 100000 in
@[go_sem] theorem ta42 (v : Value) (w : World) : (Instr.typeAssert (.iface 138 v) 118 136 true).run Tryd.prog w = .ok (.tuple #[.agg #[.float .f32 0, .float .f32 0, .float .f32 0], .bool false]) w := by rfl
set_option maxRecDepth 100000 in
@[go_sem] theorem ta43 (v : Value) (w : World) : (Instr.typeAssert (.iface 138 v) 118 137 true).run Tryd.prog w = .ok (.tuple #[.agg #[.float .f32 0, .float .f32 0, .float .f32 0], .bool false]) w := by rfl
set_option maxRecDepth 100000 in
@[go_sem] theorem ta45 (v : Value) (w : World) : (Instr.typeAssert (.iface 138 v) 118 139 true).run Tryd.prog w = .ok (.tuple #[.agg #[.float .f32 0, .float .f32 0, .float .f32 0], .bool false]) w := by rfl
set_option maxRecDepth 100000 in
@[go_sem] theorem ta51 (v : Value) (w : World) : (Instr.typeAssert (.iface 139 v) 118 135 true).run Tryd.prog w = .ok (.tuple #[.agg #[.float .f32 0, .float .f32 0, .float .f32 0], .bool false]) w := by rfl
set_option maxRecDepth 100000 in
@[go_sem] theorem ta52 (v : Value) (w : World) : (Instr.typeAssert (.iface 139 v) 118 136 true).run Tryd.prog w = .ok (.tuple #[.agg #[.float .f32 0, .float .f32 0, .float .f32 0], .bool false]) w := by rfl
set_option maxRecDepth 100000 in
@[go_sem] theorem ta53 (v : Value) (w : World) : (Instr.typeAssert (.iface 139 v) 118 137 true).run Tryd.prog w = .ok (.tuple #[.agg #[.float .f32 0, .float .f32 0, .float .f32 0], .bool false]) w := by rfl
set_option maxRecDepth 100000 in
@[go_sem] theorem ta55 (v : Value) (w : World) : (Instr.typeAssert (.iface 139 v) 118 139 true).run Tryd.prog w = .ok (.tuple #[v, .bool true]) w := by rfl
set_option maxRecDepth 100000 in
theorem mdl1 (a b c : Nat) : mdl 1 a b c = .iface 135 (.agg #[.float .f32 a, .float .f32 b, .float .f32 c]) := by simp [mdl]
theorem i_modelOf1 (a b c x y : Nat) (w : World) : Calls Tryd.prog 74 #[(.agg #[.int .i64 1, .float .f32 a, .float .f32 b, .float .f32 c, .float .f32 x, .float .f32 y])] w fun e w' => e = .returned (.iface 135 (.agg #[.float .f32 a, .float .f32 b, .float .f32 c])) ∧ Below w.heap.size w w' := by
  go_enter Tryd.func74, Tryd.ntmps74
  go_wp2
  go_ret
  exact ⟨rfl, by repeat' (first | (with_reducible exact Below.refl _ _) | (with_reducible assumption) | (with_reducible refine below_drewN ?_ _) | (with_reducible refine Below.alloc ?_ ?_ _) | (with_reducible refine Below.drew ?_) | (with_reducible refine Below.setCell ?_ ?_ _) | go_size)⟩
set_option maxRecDepth 100000 in
theorem i_sizesOf1 (v : Value) (w : World) : Calls Tryd.prog 75 #[.iface 135 v] w fun e w' => e = .returned (.tuple #[.int .i64 (cU 1), .int .i64 (sU 1)]) ∧ w = w' := by
  go_enter Tryd.func75, Tryd.ntmps75
  go_wp2
  go_ret2
  exact ⟨rfl, rfl⟩
set_option maxRecDepth 100000 in
theorem mdl2 (a b c : Nat) : mdl 2 a b c = .iface 136 (.agg #[.float .f32 a, .float .f32 b, .float .f32 c]) := by simp [mdl]
theorem i_modelOf2 (a b c x y : Nat) (w : World) : Calls Tryd.prog 74 #[(.agg #[.int .i64 2, .float .f32 a, .float .f32 b, .float .f32 c, .float .f32 x, .float .f32 y])] w fun e w' => e = .returned (.iface 136 (.agg #[.float .f32 a, .float .f32 b, .float .f32 c])) ∧ Below w.heap.size w w' := by
  go_enter Tryd.func74, Tryd.ntmps74
  go_wp2
  go_ret
  exact ⟨rfl, by repeat' (first | (with_reducible exact Below.refl _ _) | (with_reducible assumption) | (with_reducible refine below_drewN ?_ _) | (with_reducible refine Below.alloc ?_ ?_ _) | (with_reducible refine Below.drew ?_) | (with_reducible refine Below.setCell ?_ ?_ _) | go_size)⟩
set_option maxRecDepth 100000 in
theorem i_sizesOf2 (v : Value) (w : World) : Calls Tryd.prog 75 #[.iface 136 v] w fun e w' => e = .returned (.tuple #[.int .i64 (cU 2), .int .i64 (sU 2)]) ∧ w = w' := by
  go_enter Tryd.func75, Tryd.ntmps75
  go_wp2
  go_ret2
  exact ⟨rfl, rfl⟩
set_option maxRecDepth 100000 in
theorem mdl3 (a b c : Nat) : mdl 3 a b c = .iface 137 (.agg #[.float .f32 a, .float .f32 b, .float .f32 c]) := by simp [mdl]
theorem i_modelOf3 (a b c x y : Nat) (w : World) : Calls Tryd.prog 74 #[(.agg #[.int .i64 3, .float .f32 a, .float .f32 b, .float .f32 c, .float .f32 x, .float .f32 y])] w fun e w' => e = .returned (.iface 137 (.agg #[.float .f32 a, .float .f32 b, .float .f32 c])) ∧ Below w.heap.size w w' := by
  go_enter Tryd.func74, Tryd.ntmps74
  go_wp2
  go_ret
  exact ⟨rfl, by repeat' (first | (with_reducible exact Below.refl _ _) | (with_reducible assumption) | (with_reducible refine below_drewN ?_ _) | (with_reducible refine Below.alloc ?_ ?_ _) | (with_reducible refine Below.drew ?_) | (with_reducible refine Below.setCell ?_ ?_ _) | go_size)⟩
set_option maxRecDepth 100000 in
theorem i_sizesOf3 (v : Value) (w : World) : Calls Tryd.prog 75 #[.iface 137 v] w fun e w' => e = .returned (.tuple #[.int .i64 (cU 3), .int .i64 (sU 3)]) ∧ w = w' := by
  go_enter Tryd.func75, Tryd.ntmps75
  go_wp2
  go_ret2
  exact ⟨rfl, rfl⟩
set_option maxRecDepth 100000 in
theorem mdl4 (a b c : Nat) : mdl 4 a b c = .iface 138 (.agg #[.float .f32 a, .float .f32 b, .float .f32 c]) := by simp [mdl]
theorem i_modelOf4 (a b c x y : Nat) (w : World) : Calls Tryd.prog 74 #[(.agg #[.int .i64 4, .float .f32 a, .float .f32 b, .float .f32 c, .float .f32 x, .float .f32 y])] w fun e w' => e = .returned (.iface 138 (.agg #[.float .f32 a, .float .f32 b, .float .f32 c])) ∧ Below w.heap.size w w' := by
  go_enter Tryd.func74, Tryd.ntmps74
  go_wp2
  go_ret
  exact ⟨rfl, by repeat' (first | (with_reducible exact Below.refl _ _) | (with_reducible assumption) | (with_reducible refine below_drewN ?_ _) | (with_reducible refine Below.alloc ?_ ?_ _) | (with_reducible refine Below.drew ?_) | (with_reducible refine Below.setCell ?_ ?_ _) | go_size)⟩
set_option maxRecDepth 100000 in
theorem i_sizesOf4 (v : Value) (w : World) : Calls Tryd.prog 75 #[.iface 138 v] w fun e w' => e = .returned (.tuple #[.int .i64 (cU 4), .int .i64 (sU 4)]) ∧ w = w' := by
  go_enter Tryd.func75, Tryd.ntmps75
  go_wp2
  go_ret2
  exact ⟨rfl, rfl⟩
set_option maxRecDepth 100000 in
theorem mdl5 (a b c : Nat) : mdl 5 a b c = .iface 139 (.agg #[.float .f32 a, .float .f32 b, .float .f32 c]) := by simp [mdl]
theorem i_modelOf5 (a b c x y : Nat) (w : World) : Calls Tryd.prog 74 #[(.agg #[.int .i64 5, .float .f32 a, .float .f32 b, .float .f32 c, .float .f32 x, .float .f32 y])] w fun e w' => e = .returned (.iface 139 (.agg #[.float .f32 a, .float .f32 b, .float .f32 c])) ∧ Below w.heap.size w w' := by
  go_enter Tryd.func74, Tryd.ntmps74
  go_wp2
  go_ret
  exact ⟨rfl, by repeat' (first | (with_reducible exact Below.refl _ _) | (with_reducible assumption) | (with_reducible refine below_drewN ?_ _) | (with_reducible refine Below.alloc ?_ ?_ _) | (with_reducible refine Below.drew ?_) | (with_reducible refine Below.setCell ?_ ?_ _) | go_size)⟩
set_option maxRecDepth 100000 in
theorem i_sizesOf5 (v : Value) (w : World) : Calls Tryd.prog 75 #[.iface 139 v] w fun e w' => e = .returned (.tuple #[.int .i64 (cU 5), .int .i64 (sU 5)]) ∧ w = w' := by
  go_enter Tryd.func75, Tryd.ntmps75
  go_wp2
  go_ret2
  exact ⟨rfl, rfl⟩
set_option maxRecDepth 100000 in
theorem mdl_no {k : Int} (h : ¬ (1 ≤ k ∧ k ≤ 5)) (a b c : Nat) : mdl k a b c = .nilIface := by
  unfold mdl
  rw [if_neg (by omega), if_neg (by omega), if_neg (by omega), if_neg (by omega), if_neg (by omega)]
set_option maxRecDepth 100000 in
theorem i_modelOf_no (k : Int) (a b c x y : Nat) (w : World) (h : ¬ (1 ≤ k ∧ k ≤ 5)) : Calls Tryd.prog 74 #[(.agg #[.int .i64 k, .float .f32 a, .float .f32 b, .float .f32 c, .float .f32 x, .float .f32 y])] w fun e w' => e = .returned .nilIface ∧ Below w.heap.size w w' := by
  have h1 : ((k : Int) == 1) = false := by simp only [beq_eq_false_iff_ne]; omega
  have h2 : ((k : Int) == 2) = false := by simp only [beq_eq_false_iff_ne]; omega
  have h3 : ((k : Int) == 3) = false := by simp only [beq_eq_false_iff_ne]; omega
  have h4 : ((k : Int) == 4) = false := by simp only [beq_eq_false_iff_ne]; omega
  have h5 : ((k : Int) == 5) = false := by simp only [beq_eq_false_iff_ne]; omega
  clear h
  go_enter Tryd.func74, Tryd.ntmps74
  go_wp2
  go_ret
  exact ⟨rfl, by repeat' (first | (with_reducible exact Below.refl _ _) | (with_reducible assumption) | (with_reducible refine below_drewN ?_ _) | (with_reducible refine Below.alloc ?_ ?_ _) | (with_reducible refine Below.drew ?_) | (with_reducible refine Below.setCell ?_ ?_ _) | go_size)⟩
set_option maxRecDepth 100000 in
theorem i_modelOf (k : Int) (a b c x y : Nat) (w : World) : Calls Tryd.prog 74 #[(.agg #[.int .i64 k, .float .f32 a, .float .f32 b, .float .f32 c, .float .f32 x, .float .f32 y])] w fun e w' => e = .returned (mdl k a b c) ∧ Below w.heap.size w w' := by
  by_cases h : 1 ≤ k ∧ k ≤ 5
  · rcases (show k = 1 ∨ k = 2 ∨ k = 3 ∨ k = 4 ∨ k = 5 by omega) with rfl | rfl | rfl | rfl | rfl
    · rw [mdl1]; exact i_modelOf1 a b c x y w
    · rw [mdl2]; exact i_modelOf2 a b c x y w
    · rw [mdl3]; exact i_modelOf3 a b c x y w
    · rw [mdl4]; exact i_modelOf4 a b c x y w
    · rw [mdl5]; exact i_modelOf5 a b c x y w
  · rw [mdl_no h]; exact i_modelOf_no k a b c x y w h
set_option maxRecDepth 100000 in
theorem i_ValidFilter_no (k : Int) (a b c x y : Nat) (w : World) (h : ¬ (1 ≤ k ∧ k ≤ 5)) : Calls Tryd.prog 60 #[(.agg #[.int .i64 k, .float .f32 a, .float .f32 b, .float .f32 c, .float .f32 x, .float .f32 y])] w fun e w' => e = .returned (.bool false) ∧ Below w.heap.size w w' := by
  go_enter Tryd.func60, Tryd.ntmps60
  go_wp2_with (first | (go_at_call 74; refine (i_modelOf_no _ _ _ _ _ _ _ h).mono ?_; rintro e w' ⟨rfl, hb⟩))
  go_ret
  exact ⟨rfl, le_trans (le_alloc w _) hb⟩
set_option maxRecDepth 100000 in
set_option maxHeartbeats 1000000 in
theorem i_ValidFilter1 (a b c x y : Nat) (w : World) (fa : fits .f32 a) (fb : fits .f32 b) (fc : fits .f32 c) (fx : fits .f32 x) (fy : fits .f32 y) : Calls Tryd.prog 60 #[(.agg #[.int .i64 1, .float .f32 a, .float .f32 b, .float .f32 c, .float .f32 x, .float .f32 y])] w fun e w' => e = .returned (.bool (usedB (tri a b c) 3 (cU 1) && usedB (duo x y) 2 (sU 1))) ∧ Below w.heap.size w w' := by
  have F3 := hid (fits_tri fa fb fc)
  have F2 := hid (fits_duo fx fy)
  clear fa fb fc fx fy
  have F := (Frm.nil w).box 45 (#[.int .i64 1, .float .f32 a, .float .f32 b, .float .f32 c, .float .f32 x, .float .f32 y] : Array Value)
  cases h1 : usedB (tri a b c) 3 (cU 1) <;> cases h2 : usedB (duo x y) 2 (sU 1)
  all_goals
    have H1 := hid h1
    have H2 := hid h2
    clear h1 h2
    go_enter Tryd.func60, Tryd.ntmps60
    go_wp2_with (first | (go_at_call 74; refine (i_modelOf1 _ _ _ _ _ _).mono ?_; rintro e w' ⟨rfl, hb⟩; replace F := F.le hb; have R := hid (F.row List.mem_cons_self)) | (go_at_call 75; refine (i_sizesOf1 _ _).mono ?_; rintro e w' ⟨rfl, rfl⟩) | (go_at_call 76; (with_reducible refine (i_areUsed (tri a b c) _ 1 3 (cU 1) _ (by omega) (cU_le _) F3.out (fun i hi => R.out.tri i hi)).mono ?_); rw [H1.out]; rintro e w' ⟨rfl, rfl⟩) | (go_at_call 76; (with_reducible refine (i_areUsed (duo x y) _ 4 2 (sU 1) _ (by omega) (sU_le _) F2.out (fun i hi => R.out.duo i hi)).mono ?_); rw [H2.out]; rintro e w' ⟨rfl, rfl⟩))
    go_ret
    exact ⟨rfl, F.below⟩
set_option maxRecDepth 100000 in
set_option maxHeartbeats 1000000 in
theorem i_ValidFilter2 (a b c x y : Nat) (w : World) (fa : fits .f32 a) (fb : fits .f32 b) (fc : fits .f32 c) (fx : fits .f32 x) (fy : fits .f32 y) : Calls Tryd.prog 60 #[(.agg #[.int .i64 2, .float .f32 a, .float .f32 b, .float .f32 c, .float .f32 x, .float .f32 y])] w fun e w' => e = .returned (.bool (usedB (tri a b c) 3 (cU 2) && usedB (duo x y) 2 (sU 2))) ∧ Below w.heap.size w w' := by
  have F3 := hid (fits_tri fa fb fc)
  have F2 := hid (fits_duo fx fy)
  clear fa fb fc fx fy
  have F := (Frm.nil w).box 45 (#[.int .i64 2, .float .f32 a, .float .f32 b, .float .f32 c, .float .f32 x, .float .f32 y] : Array Value)
  cases h1 : usedB (tri a b c) 3 (cU 2) <;> cases h2 : usedB (duo x y) 2 (sU 2)
  all_goals
    have H1 := hid h1
    have H2 := hid h2
    clear h1 h2
    go_enter Tryd.func60, Tryd.ntmps60
    go_wp2_with (first | (go_at_call 74; refine (i_modelOf2 _ _ _ _ _ _).mono ?_; rintro e w' ⟨rfl, hb⟩; replace F := F.le hb; have R := hid (F.row List.mem_cons_self)) | (go_at_call 75; refine (i_sizesOf2 _ _).mono ?_; rintro e w' ⟨rfl, rfl⟩) | (go_at_call 76; (with_reducible refine (i_areUsed (tri a b c) _ 1 3 (cU 2) _ (by omega) (cU_le _) F3.out (fun i hi => R.out.tri i hi)).mono ?_); rw [H1.out]; rintro e w' ⟨rfl, rfl⟩) | (go_at_call 76; (with_reducible refine (i_areUsed (duo x y) _ 4 2 (sU 2) _ (by omega) (sU_le _) F2.out (fun i hi => R.out.duo i hi)).mono ?_); rw [H2.out]; rintro e w' ⟨rfl, rfl⟩))
    go_ret
    exact ⟨rfl, F.below⟩
set_option maxRecDepth 100000 in
set_option maxHeartbeats 1000000 in
theorem i_ValidFilter3 (a b c x y : Nat) (w : World) (fa : fits .f32 a) (fb : fits .f32 b) (fc : fits .f32 c) (fx : fits .f32 x) (fy : fits .f32 y) : Calls Tryd.prog 60 #[(.agg #[.int .i64 3, .float .f32 a, .float .f32 b, .float .f32 c, .float .f32 x, .float .f32 y])] w fun e w' => e = .returned (.bool (usedB (tri a b c) 3 (cU 3) && usedB (duo x y) 2 (sU 3))) ∧ Below w.heap.size w w' := by
  have F3 := hid (fits_tri fa fb fc)
  have F2 := hid (fits_duo fx fy)
  clear fa fb fc fx fy
  have F := (Frm.nil w).box 45 (#[.int .i64 3, .float .f32 a, .float .f32 b, .float .f32 c, .float .f32 x, .float .f32 y] : Array Value)
  cases h1 : usedB (tri a b c) 3 (cU 3) <;> cases h2 : usedB (duo x y) 2 (sU 3)
  all_goals
    have H1 := hid h1
    have H2 := hid h2
    clear h1 h2
    go_enter Tryd.func60, Tryd.ntmps60
    go_wp2_with (first | (go_at_call 74; refine (i_modelOf3 _ _ _ _ _ _).mono ?_; rintro e w' ⟨rfl, hb⟩; replace F := F.le hb; have R := hid (F.row List.mem_cons_self)) | (go_at_call 75; refine (i_sizesOf3 _ _).mono ?_; rintro e w' ⟨rfl, rfl⟩) | (go_at_call 76; (with_reducible refine (i_areUsed (tri a b c) _ 1 3 (cU 3) _ (by omega) (cU_le _) F3.out (fun i hi => R.out.tri i hi)).mono ?_); rw [H1.out]; rintro e w' ⟨rfl, rfl⟩) | (go_at_call 76; (with_reducible refine (i_areUsed (duo x y) _ 4 2 (sU 3) _ (by omega) (sU_le _) F2.out (fun i hi => R.out.duo i hi)).mono ?_); rw [H2.out]; rintro e w' ⟨rfl, rfl⟩))
    go_ret
    exact ⟨rfl, F.below⟩
set_option maxRecDepth 100000 in
set_option maxHeartbeats 1000000 in
theorem i_ValidFilter4 (a b c x y : Nat) (w : World) (fa : fits .f32 a) (fb : fits .f32 b) (fc : fits .f32 c) (fx : fits .f32 x) (fy : fits .f32 y) : Calls Tryd.prog 60 #[(.agg #[.int .i64 4, .float .f32 a, .float .f32 b, .float .f32 c, .float .f32 x, .float .f32 y])] w fun e w' => e = .returned (.bool (usedB (tri a b c) 3 (cU 4) && usedB (duo x y) 2 (sU 4))) ∧ Below w.heap.size w w' := by
  have F3 := hid (fits_tri fa fb fc)
  have F2 := hid (fits_duo fx fy)
  clear fa fb fc fx fy
  have F := (Frm.nil w).box 45 (#[.int .i64 4, .float .f32 a, .float .f32 b, .float .f32 c, .float .f32 x, .float .f32 y] : Array Value)
  cases h1 : usedB (tri a b c) 3 (cU 4) <;> cases h2 : usedB (duo x y) 2 (sU 4)
  all_goals
    have H1 := hid h1
    have H2 := hid h2
    clear h1 h2
    go_enter Tryd.func60, Tryd.ntmps60
    go_wp2_with (first | (go_at_call 74; refine (i_modelOf4 _ _ _ _ _ _).mono ?_; rintro e w' ⟨rfl, hb⟩; replace F := F.le hb; have R := hid (F.row List.mem_cons_self)) | (go_at_call 75; refine (i_sizesOf4 _ _).mono ?_; rintro e w' ⟨rfl, rfl⟩) | (go_at_call 76; (with_reducible refine (i_areUsed (tri a b c) _ 1 3 (cU 4) _ (by omega) (cU_le _) F3.out (fun i hi => R.out.tri i hi)).mono ?_); rw [H1.out]; rintro e w' ⟨rfl, rfl⟩) | (go_at_call 76; (with_reducible refine (i_areUsed (duo x y) _ 4 2 (sU 4) _ (by omega) (sU_le _) F2.out (fun i hi => R.out.duo i hi)).mono ?_); rw [H2.out]; rintro e w' ⟨rfl, rfl⟩))
    go_ret
    exact ⟨rfl, F.below⟩
set_option maxRecDepth 100000 in
set_option maxHeartbeats 1000000 in
theorem i_ValidFilter5 (a b c x y : Nat) (w : World) (fa : fits .f32 a) (fb : fits .f32 b) (fc : fits .f32 c) (fx : fits .f32 x) (fy : fits .f32 y) : Calls Tryd.prog 60 #[(.agg #[.int .i64 5, .float .f32 a, .float .f32 b, .float .f32 c, .float .f32 x, .float .f32 y])] w fun e w' => e = .returned (.bool (usedB (tri a b c) 3 (cU 5) && usedB (duo x y) 2 (sU 5))) ∧ Below w.heap.size w w' := by
  have F3 := hid (fits_tri fa fb fc)
  have F2 := hid (fits_duo fx fy)
  clear fa fb fc fx fy
  have F := (Frm.nil w).box 45 (#[.int .i64 5, .float .f32 a, .float .f32 b, .float .f32 c, .float .f32 x, .float .f32 y] : Array Value)
  cases h1 : usedB (tri a b c) 3 (cU 5) <;> cases h2 : usedB (duo x y) 2 (sU 5)
  all_goals
    have H1 := hid h1
    have H2 := hid h2
    clear h1 h2
    go_enter Tryd.func60, Tryd.ntmps60
    go_wp2_with (first | (go_at_call 74; refine (i_modelOf5 _ _ _ _ _ _).mono ?_; rintro e w' ⟨rfl, hb⟩; replace F := F.le hb; have R := hid (F.row List.mem_cons_self)) | (go_at_call 75; refine (i_sizesOf5 _ _).mono ?_; rintro e w' ⟨rfl, rfl⟩) | (go_at_call 76; (with_reducible refine (i_areUsed (tri a b c) _ 1 3 (cU 5) _ (by omega) (cU_le _) F3.out (fun i hi => R.out.tri i hi)).mono ?_); rw [H1.out]; rintro e w' ⟨rfl, rfl⟩) | (go_at_call 76; (with_reducible refine (i_areUsed (duo x y) _ 4 2 (sU 5) _ (by omega) (sU_le _) F2.out (fun i hi => R.out.duo i hi)).mono ?_); rw [H2.out]; rintro e w' ⟨rfl, rfl⟩))
    go_ret
    exact ⟨rfl, F.below⟩
set_option maxRecDepth 100000 in
theorem i_ValidFilter (k : Int) (a b c x y : Nat) (w : World) (hf : fits .f32 a ∧ fits .f32 b ∧ fits .f32 c ∧ fits .f32 x ∧ fits .f32 y) : Calls Tryd.prog 60 #[(.agg #[.int .i64 k, .float .f32 a, .float .f32 b, .float .f32 c, .float .f32 x, .float .f32 y])] w fun e w' => e = .returned (.bool (okF k a b c x y)) ∧ Below w.heap.size w w' := by
  obtain ⟨fa, fb, fc, fx, fy⟩ := hf
  by_cases h : 1 ≤ k ∧ k ≤ 5
  · have E : okF k a b c x y = (usedB (tri a b c) 3 (cU k) && usedB (duo x y) 2 (sU k)) := by simp [okF, h.1, h.2]
    rw [E]
    rcases (show k = 1 ∨ k = 2 ∨ k = 3 ∨ k = 4 ∨ k = 5 by omega) with rfl | rfl | rfl | rfl | rfl
    · exact i_ValidFilter1 a b c x y w fa fb fc fx fy
    · exact i_ValidFilter2 a b c x y w fa fb fc fx fy
    · exact i_ValidFilter3 a b c x y w fa fb fc fx fy
    · exact i_ValidFilter4 a b c x y w fa fb fc fx fy
    · exact i_ValidFilter5 a b c x y w fa fb fc fx fy
  · rw [okF_out h]; exact i_ValidFilter_no k a b c x y w h
end Go.Proofs.YtogledmlbcmkjaaDoor

/- 'FilterText' of both. -/
namespace Go.Fk
open Go Go.RowKit
def filW : ByteArray := ⟨#[102, 105, 108, 116, 101, 114]⟩
def filWb : ByteArray := ⟨#[102, 105, 108, 116, 101, 114, 32]⟩
theorem filWb_eq (a : ByteArray) : filWb ++ a = filW ++ (spB ++ a) := by apply ba_ext; rw [← ba_assoc]; simp [filWb, filW, spB]
/-- The text of a filter. -/
def txtF (k : Nat) (a b c x y : Nat) : ByteArray := jnB spB [filW, decT k, txtS (tri a b c) 3, txtS (duo x y) 2]
theorem txtF_eq (k a b c x y : Nat) : (filWb ++ decT k ++ samL (tri a b c) 3) ++ spB ++ hexT (can .f32 x) ++ spB ++ hexT (can .f32 y) = txtF k a b c x y := by
  unfold txtF
  rw [samL_txt _ (by decide), jnB_cons, jnB_cons, jnB_cons, jnB_one, txtS_succ (duo x y) (n := 1) (by decide), txtS_one]
  simp only [filWb_eq, ba_assoc]
  rfl
theorem decT_sz100 {k : Nat} (h : k < 100) : (decT k).size ≤ 19 := decT_size k (by omega)
/-- The text of the float that a call gets. -/
def hexA (args : Array Value) : ByteArray := match args.toList with | [.float _ a] => hexT (can .f32 a) | _ => ⟨#[]⟩
end Go.Fk
namespace Go.Proofs.YtogledmlbcmkjaaDoor
open Go.RowKit Go.Fk
theorem infoStr4F : (Tryd.prog.info? 9).map (fun i => (i.zero, i.size, i.bytes)) = some (some (.string ⟨#[]⟩), 1, 16) := by kernel_rfl
theorem fill4F (ti : TypeInfo) (p q r t : ByteArray) (h : ti.size = 1) : Instr.fill (fun i => some (i * ti.size, ti.size)) ((Array.range (4 * ti.size)).map ((.string ⟨#[]⟩ : Value).cells[· % (.string ⟨#[]⟩ : Value).cells.size]!)) (#[(0, .string p), (1, .string q), (2, .string r), (3, .string t)] : Array (Nat × Value)).toList = some #[.string p, .string q, .string r, .string t] := by
  rw [h]
  have hr : Array.range (4 * 1) = #[0, 1, 2, 3] := by decide
  rw [hr]
  simp [Instr.fill, Value.cells]
theorem mkStr4F (p q r t : ByteArray) (w : World) : (Instr.buildSlice 52 4 #[(0, .string p), (1, .string q), (2, .string r), (3, .string t)]).run Tryd.prog w = .ok (.slice (some ⟨w.heap.size, 0, none⟩) 4 4) (w.alloc (.cells #[.string p, .string q, .string r, .string t] 9)) := by
  have h := infoStr4F
  cases hi : Tryd.prog.info? 9 with
  | none => rw [hi] at h; simp at h
  | some i =>
    rw [hi] at h; simp at h
    exact run_buildSlice (P := Tryd.prog) w 52 9 4 _ _ i _ Tryd.underlying52 hi h.1 (by rw [h.2.1]; decide) (by rw [h.2.1]; decide) (fill4F _ _ _ _ _ h.2.1)
set_option maxRecDepth 100000 in
set_option maxHeartbeats 4000000 in
theorem i_FilterText_no (k : Int) (a b c x y : Nat) (w : World) (hf : fits .f32 a ∧ fits .f32 b ∧ fits .f32 c ∧ fits .f32 x ∧ fits .f32 y) (hok : okF k a b c x y = false) : Calls Tryd.prog 39 #[(.agg #[.int .i64 k, .float .f32 a, .float .f32 b, .float .f32 c, .float .f32 x, .float .f32 y])] w (Out_t ⟨#[]⟩ w) := by
  have HV := hid (fun (w' : World) => i_ValidFilter k a b c x y w' hf)
  rw [hok] at HV
  clear hok hf
  have F := (Frg.nil w).box 45 (#[.int .i64 k, .float .f32 a, .float .f32 b, .float .f32 c, .float .f32 x, .float .f32 y] : Array Value)
  go_enter Tryd.func39, Tryd.ntmps39
  go_wp2_with (first | ((with_reducible refine listN F ?_); clear F; intro wN F) | ((with_reducible refine at_load rfl ?_); (with_reducible refine wpList_loadG F rfl rfl rfl m0 Tryd.underlying45 rfl infoFil rfl ?_)) | (go_at_call 60; ((with_reducible refine (HV.out _).mono ?_); rintro e w1 ⟨rfl, hl1⟩; replace F := F.le hl1; clear hl1)))
  go_ret
  exact ⟨rfl, F.below⟩
set_option maxRecDepth 100000 in
set_option maxHeartbeats 4000000 in
theorem i_FilterText_yes (k : Nat) (a b c x y : Nat) (w : World) (hf : fits .f32 a ∧ fits .f32 b ∧ fits .f32 c ∧ fits .f32 x ∧ fits .f32 y) (hk : k < 100) (hok : okF (k : Int) a b c x y = true) : Calls Tryd.prog 39 #[(.agg #[.int .i64 (k : Nat), .float .f32 a, .float .f32 b, .float .f32 c, .float .f32 x, .float .f32 y])] w (Out_t (txtF k a b c x y) w) := by
  have HV := hid (fun (w' : World) => i_ValidFilter k a b c x y w' hf)
  rw [hok] at HV
  clear hok
  obtain ⟨fa, fb, fc, fx, fy⟩ := hf
  have HC := hid (fun (w' : World) (g : Nat) (R : Row w' g 45 (#[.int .i64 (k : Nat), .float .f32 a, .float .f32 b, .float .f32 c, .float .f32 x, .float .f32 y] : Array Value)) => i_samplesText (tri a b c) ⟨g, 1, none⟩ 3 3 w' (by decide) (fun i hi => by match i, hi with | 0, _ => exact fa | 1, _ => exact fb | 2, _ => exact fc) (fun i hi => by rw [add_none, R.cell?]; match i, hi with | 0, _ => rfl | 1, _ => rfl | 2, _ => rfl))
  have HS := hid (fun (w' : World) (g : Nat) (R : Row w' g 45 (#[.int .i64 (k : Nat), .float .f32 a, .float .f32 b, .float .f32 c, .float .f32 x, .float .f32 y] : Array Value)) => i_samplesText (duo x y) ⟨g, 4, none⟩ 2 2 w' (by decide) (fun i hi => by match i, hi with | 0, _ => exact fx | 1, _ => exact fy) (fun i hi => by rw [add_none, R.cell?]; match i, hi with | 0, _ => rfl | 1, _ => rfl))
  have HD := hid (i_decimalS k hk)
  have ed := decT_sz100 hk
  clear fa fb fc fx fy
  have F := (Frg.nil w).box 45 (#[.int .i64 (k : Nat), .float .f32 a, .float .f32 b, .float .f32 c, .float .f32 x, .float .f32 y] : Array Value)
  go_enter Tryd.func39, Tryd.ntmps39
  go_wp2_with (first | ((with_reducible refine listN F ?_); clear F; intro wN F) | ((with_reducible refine at_load rfl ?_); (with_reducible refine wpList_loadG F rfl rfl rfl m0 Tryd.underlying45 rfl infoFil rfl ?_)) | (go_at_call 60; ((with_reducible refine (HV.out _).mono ?_); rintro e w1 ⟨rfl, hl1⟩; replace F := F.le hl1; clear hl1)))
  first | (refine wpAt0 F ?_; clear F; intro wN F) | (refine wpAtN F ?_; clear F; intro wN F)
  have FD := F.drewN 1
  refine region_freeD (E := leX) (fun f args _ v => v = .string (if f = 23 then decT k else (match args.toList with | [.slice _ 3 _] => txtS (tri a b c) 3 | _ => txtS (duo x y) 2))) (by kernel_rfl) (by kernel_rfl) ?_
  refine wpFreeD_one rfl (.pointer (some ⟨w.heap.size, 0, none⟩)) (fun w1 _ => by kernel_rfl) ?_
  simp only [Act.put, List.setIfInBounds_toArray, List.set_cons_succ, List.set_cons_zero]
  refine wpFreeD_load1 rfl rfl rfl (p := ⟨w.heap.size, 0, none⟩) (v := .int .i64 k) (fun w1 h1 => by rw [((FD.le h1).row m0).cell?]; rfl) ukindInt64 ?_
  simp only [Act.put, List.setIfInBounds_toArray, List.set_cons_succ, List.set_cons_zero]
  refine wpFreeD_callB rfl rfl Tryd.func23 (by kernel_rfl) (by kernel_rfl) (args := #[.int .i64 k]) (by simp [Act.eval]) (fun v w1 w2 hw hv => hv) (fun w1 hw1 _ => (HD.out w1).mono ?_) ?_
  · rintro e w2 ⟨rfl, hl⟩
    exact ⟨_, rfl, hl, rfl⟩
  rintro v ⟨_, _, _, hv⟩
  replace hv : v = .string (decT k) := hv
  subst hv
  simp only [Act.put, List.setIfInBounds_toArray, List.set_cons_succ, List.set_cons_zero]
  refine wpFreeD_one rfl (.pointer (some ⟨w.heap.size, 1, none⟩)) (fun w1 _ => by kernel_rfl) ?_
  simp only [Act.put, List.setIfInBounds_toArray, List.set_cons_succ, List.set_cons_zero]
  refine wpFreeD_one rfl (.slice (some ⟨w.heap.size, 1, none⟩) 3 3) (fun w1 _ => by kernel_rfl) ?_
  simp only [Act.put, List.setIfInBounds_toArray, List.set_cons_succ, List.set_cons_zero]
  refine wpFreeD_callB rfl rfl Tryd.func40 (by kernel_rfl) (by kernel_rfl) (args := #[.slice (some ⟨w.heap.size, 1, none⟩) 3 3]) (by simp [Act.eval]) (fun v w1 w2 hw hv => hv) (fun w1 hw1 _ => (HC.out w1 _ ((FD.le hw1).row m0)).mono ?_) ?_
  · rintro e w2 ⟨rfl, hl⟩
    exact ⟨_, rfl, hl, rfl⟩
  rintro v ⟨_, _, _, hv⟩
  replace hv : v = .string (txtS (tri a b c) 3) := hv
  subst hv
  simp only [Act.put, List.setIfInBounds_toArray, List.set_cons_succ, List.set_cons_zero]
  refine wpFreeD_one rfl (.pointer (some ⟨w.heap.size, 4, none⟩)) (fun w1 _ => by kernel_rfl) ?_
  simp only [Act.put, List.setIfInBounds_toArray, List.set_cons_succ, List.set_cons_zero]
  refine wpFreeD_one rfl (.slice (some ⟨w.heap.size, 4, none⟩) 2 2) (fun w1 _ => by kernel_rfl) ?_
  simp only [Act.put, List.setIfInBounds_toArray, List.set_cons_succ, List.set_cons_zero]
  refine wpFreeD_callB rfl rfl Tryd.func40 (by kernel_rfl) (by kernel_rfl) (args := #[.slice (some ⟨w.heap.size, 4, none⟩) 2 2]) (by simp [Act.eval]) (fun v w1 w2 hw hv => hv) (fun w1 hw1 _ => (HS.out w1 _ ((FD.le hw1).row m0)).mono ?_) ?_
  · rintro e w2 ⟨rfl, hl⟩
    exact ⟨_, rfl, hl, rfl⟩
  rintro v ⟨_, _, _, hv⟩
  replace hv : v = .string (txtS (duo x y) 2) := hv
  subst hv
  simp only [Act.put, List.setIfInBounds_toArray, List.set_cons_succ, List.set_cons_zero]
  refine wpFreeD_newN rfl (fun q => .slice (some ⟨q, 0, none⟩) 4 4) (fun b b' h => by simpa using h) 9 #[.string filW, .string (decT k), .string (txtS (tri a b c) 3), .string (txtS (duo x y) 2)] (fun w1 => ?_) (fun q => ?_)
  · have hb := mkStr4F filW (decT k) (txtS (tri a b c) 3) (txtS (duo x y) 2) w1
    unfold filW at hb ⊢
    simp [execOp, Act.eval, Result.andThen, hb]
  simp only [Act.put, List.setIfInBounds_toArray, List.set_cons_succ, List.set_cons_zero]
  refine wpFreeD_one rfl (.slice (some ⟨q, 0, none⟩) 4 4) (fun w1 _ => by kernel_rfl) ?_
  simp only [Act.put, List.setIfInBounds_toArray, List.set_cons_succ, List.set_cons_zero]
  refine wpFreeD_nil (fun wR hwR hF => ?_)
  obtain ⟨_, hq⟩ := (hF 9).1.2 rfl
  clear hF
  replace F := FD.le hwR
  clear hwR FD
  have HJ := hid (run_Join q 0 4 [filW, decT k, txtS (tri a b c) 3, txtS (duo x y) 2] spB 4 rfl wR (fun j z hj => by
    rw [Nat.zero_add, hq.cell?]
    match j, hj with
    | 0, hj => simp at hj; subst hj; rfl
    | 1, hj => simp at hj; subst hj; rfl
    | 2, hj => simp at hj; subst hj; rfl
    | 3, hj => simp at hj; subst hj; rfl
    | j + 4, hj => simp at hj) hq.lt (Nat.le_refl _) (by decide) (by
      have h1 := txtS_size (tri a b c) 3; have h2 := txtS_size (duo x y) 2
      have := jnB_size spB 1024 [filW, decT k, txtS (tri a b c) 3, txtS (duo x y) 2] (fun z hz => by
        simp only [List.mem_cons, List.not_mem_nil, or_false] at hz
        rcases hz with rfl | rfl | rfl | rfl
        · decide
        · omega
        · omega
        · omega)
      simp only [List.length_cons, List.length_nil] at this
      rw [show spB.size = 1 from rfl] at this
      omega))
  clear hq
  go_wp2_with (first | ((with_reducible refine listN F ?_); clear F; intro wN F) | (go_at_call 24; (refine HJ.out.mono ?_; rintro e w1 ⟨rfl, hl1⟩; replace F := F.le hl1; clear hl1)))
  go_ret
  exact ⟨rfl, F.below⟩
set_option maxRecDepth 100000 in
set_option maxHeartbeats 4000000 in
theorem s_FilterText_no (k : Int) (a b c x y : Nat) (w : World) (hok : okF k a b c x y = false) : Calls Tryd.prog 34 #[(.agg #[.int .i64 k, .float .f32 a, .float .f32 b, .float .f32 c, .float .f32 x, .float .f32 y])] w (Out_t ⟨#[]⟩ w) := by
  have HV := hid (fun (w' : World) (R : Row w' w.heap.size 45 (#[.int .i64 k, .float .f32 a, .float .f32 b, .float .f32 c, .float .f32 x, .float .f32 y] : Array Value)) => s_Ok k a b c x y w.heap.size w' R)
  rw [hok] at HV
  clear hok
  have F := (Frg.nil w).box 45 (#[.int .i64 k, .float .f32 a, .float .f32 b, .float .f32 c, .float .f32 x, .float .f32 y] : Array Value)
  go_enter Tryd.func34, Tryd.ntmps34
  go_wp2_with (first | ((with_reducible refine listN F ?_); clear F; intro wN F) | (go_at_call 53; ((with_reducible refine (HV.out _ (F.row m0)).mono ?_); rintro e w1 ⟨rfl, dn, rfl⟩; replace F := F.drewN dn)))
  go_ret
  exact ⟨rfl, F.below⟩
set_option maxRecDepth 100000 in
set_option maxHeartbeats 4000000 in
theorem s_FilterText_yes (k : Nat) (a b c x y : Nat) (w : World) (hf : fits .f32 a ∧ fits .f32 b ∧ fits .f32 c ∧ fits .f32 x ∧ fits .f32 y) (hk : k < 100) (hok : okF (k : Int) a b c x y = true) : Calls Tryd.prog 34 #[(.agg #[.int .i64 (k : Nat), .float .f32 a, .float .f32 b, .float .f32 c, .float .f32 x, .float .f32 y])] w (Out_t (txtF k a b c x y) w) := by
  have HV := hid (fun (w' : World) (R : Row w' w.heap.size 45 (#[.int .i64 (k : Nat), .float .f32 a, .float .f32 b, .float .f32 c, .float .f32 x, .float .f32 y] : Array Value)) => s_Ok k a b c x y w.heap.size w' R)
  rw [hok] at HV
  clear hok
  obtain ⟨fa, fb, fc, fx, fy⟩ := hf
  have HS := hid (fun j (hj : j < 3) => s_l01Hex (tri a b c j) (by match j, hj with | 0, _ => exact fa | 1, _ => exact fb | 2, _ => exact fc))
  have HX := hid (s_l01Hex x fx)
  have HY := hid (s_l01Hex y fy)
  have HA := hid (fun j (hj : j < 3) => show ((#[.int .i64 (k : Nat), .float .f32 a, .float .f32 b, .float .f32 c, .float .f32 x, .float .f32 y] : Array Value))[1 + j]? = some (.float .f32 (tri a b c j)) by match j, hj with | 0, _ => rfl | 1, _ => rfl | 2, _ => rfl)
  have HD := hid (s_Decimal k (by omega))
  have ed := decT_sz100 hk
  have ef : filWb.size = 7 := rfl
  clear fa fb fc fx fy
  have F := (Frg.nil w).box 45 (#[.int .i64 (k : Nat), .float .f32 a, .float .f32 b, .float .f32 c, .float .f32 x, .float .f32 y] : Array Value)
  obtain ⟨S, hS⟩ : ∃ S, S = filWb ++ decT k := ⟨_, rfl⟩
  have es : S.size ≤ 26 := by rw [hS, ByteArray.size_append]; omega
  have HSS := hid hS
  clear hS
  go_enter Tryd.func34, Tryd.ntmps34
  go_wp2_with (first | ((with_reducible refine listN F ?_); clear F; intro wN F) | (go_at_call 53; ((with_reducible refine (HV.out _ (F.row m0)).mono ?_); rintro e w1 ⟨rfl, dn, rfl⟩; replace F := F.drewN dn)) | ((with_reducible refine at_load rfl ?_); (refine wpList_load1 F rfl rfl rfl m0 (f := 0) (v := .int .i64 k) rfl ukindInt64 ?_)) | (go_at_call 20; ((with_reducible refine (HD.out _).mono ?_); rintro e w1 ⟨rfl, hl1⟩; replace F := F.le hl1; clear hl1)))
  go_loopw [3, 4] (fun q i wr => ∃ j : Nat, j ≤ 3 ∧ i = .int .i64 j ∧ q = .string (S ++ samL (tri a b c) j) ∧ Hid (Frg w wr [rowF w.heap.size 45 (#[.int .i64 (k : Nat), .float .f32 a, .float .f32 b, .float .f32 c, .float .f32 x, .float .f32 y] : Array Value)])) (fun _ i _ => 3 - (intOf i).toNat)
  case atStart => exact ⟨0, by omega, rfl, by rw [HSS.out]; congr 1; apply ba_ext; simp [samL, filWb], F⟩
  case round =>
    obtain ⟨j, hj, rfl, rfl, FJ⟩ := hrel
    rename_i wr _
    clear F
    have F := FJ.out
    clear FJ
    by_cases hlt : j < 3
    · have HT := hid (HS.out j hlt)
      have HG := hid (HA.out j hlt)
      have ez := samL_size (tri a b c) j
      have e2 : (S ++ samL (tri a b c) j).size ≤ 60 := by rw [ByteArray.size_append]; omega
      have eh := hexT_size (can .f32 (tri a b c j))
      have EN := hid (show S ++ samL (tri a b c) (j + 1) = (S ++ samL (tri a b c) j) ++ (spB ++ hexT (can .f32 (tri a b c j))) by rw [samL, ba_assoc])
      obtain ⟨Z, hZ⟩ : ∃ Z, Z = S ++ samL (tri a b c) j := ⟨_, rfl⟩
      rw [← hZ] at EN e2 ⊢
      clear hZ
      go_wp2_with (first | ((with_reducible refine listN F ?_); clear F; intro wN F) | ((with_reducible refine at_load rfl ?_); (refine wpList_load1 F rfl rfl rfl m0 (f := 1 + j) (v := .float .f32 (tri a b c j)) HG.out ukindFloat32 ?_)) | (go_at_call 33; ((with_reducible refine (HT.out _).mono ?_); rintro e w1 ⟨rfl, hl1⟩; replace F := F.le hl1; clear hl1)))
      go_roundw
      case rel => exact ⟨j + 1, by omega, by go_num, by rw [EN.out]; rfl, F⟩
      case measure => simp [intOf]; omega
    · obtain rfl : j = 3 := by omega
      have ez := samL_size (tri a b c) 3
      have e2 : (S ++ samL (tri a b c) 3).size ≤ 60 := by rw [ByteArray.size_append]; omega
      have EN := hid (show (S ++ samL (tri a b c) 3) ++ spB ++ hexT (can .f32 x) ++ spB ++ hexT (can .f32 y) = txtF k a b c x y by rw [HSS.out]; exact txtF_eq k a b c x y)
      obtain ⟨Z, hZ⟩ : ∃ Z, Z = S ++ samL (tri a b c) 3 := ⟨_, rfl⟩
      rw [← hZ] at EN e2 ⊢
      clear hZ
      have hx8 := hexT_size (can .f32 x)
      have hy8 := hexT_size (can .f32 y)
      have e1 : spB.size = 1 := rfl
      go_wp2_with fail
      first | (refine wpAt0 F ?_; clear F; intro wN F) | (refine wpAtN F ?_; clear F; intro wN F)
      have FD := F.drewN 1
      refine region_freeD (E := leX) (fun _ args _ v => v = .string (hexA args)) (by kernel_rfl) (by kernel_rfl) ?_
      refine wpFreeD_one rfl (.string Z) (fun w1 _ => by kernel_rfl) ?_
      simp only [Act.put, List.setIfInBounds_toArray, List.set_cons_succ, List.set_cons_zero]
      refine wpFreeD_cat rfl rfl (s := Z) (r := spB) rfl rfl (by first | omega | (simp only [ByteArray.size_append]; omega)) (q := Z ++ spB) rfl ?_
      simp only [Act.put, List.setIfInBounds_toArray, List.set_cons_succ, List.set_cons_zero]
      refine wpFreeD_one rfl (.pointer (some ⟨w.heap.size, 4, none⟩)) (fun w1 _ => by kernel_rfl) ?_
      simp only [Act.put, List.setIfInBounds_toArray, List.set_cons_succ, List.set_cons_zero]
      refine wpFreeD_one rfl (.pointer (some ⟨w.heap.size, 4, none⟩)) (fun w1 _ => by kernel_rfl) ?_
      simp only [Act.put, List.setIfInBounds_toArray, List.set_cons_succ, List.set_cons_zero]
      refine wpFreeD_load1 rfl rfl rfl (p := ⟨w.heap.size, 4, none⟩) (v := .float .f32 x) (fun w1 h1 => by rw [((FD.le h1).row m0).cell?]; rfl) ukindFloat32 ?_
      simp only [Act.put, List.setIfInBounds_toArray, List.set_cons_succ, List.set_cons_zero]
      refine wpFreeD_callB rfl rfl Tryd.func33 (by kernel_rfl) (by kernel_rfl) (args := #[.float .f32 x]) (by simp [Act.eval]) (fun v w1 w2 hw hv => hv) (fun w1 hw1 _ => (HX.out w1).mono ?_) ?_
      · rintro e w2 ⟨rfl, hl⟩
        exact ⟨_, rfl, hl, rfl⟩
      rintro v ⟨_, _, _, hv⟩
      replace hv : v = .string (hexT (can .f32 x)) := hv
      subst hv
      simp only [Act.put, List.setIfInBounds_toArray, List.set_cons_succ, List.set_cons_zero]
      refine wpFreeD_cat rfl rfl (s := (Z ++ spB)) (r := (hexT (can .f32 x))) rfl rfl (by first | omega | (simp only [ByteArray.size_append]; omega)) (q := Z ++ spB ++ hexT (can .f32 x)) rfl ?_
      simp only [Act.put, List.setIfInBounds_toArray, List.set_cons_succ, List.set_cons_zero]
      refine wpFreeD_cat rfl rfl (s := (Z ++ spB ++ hexT (can .f32 x))) (r := spB) rfl rfl (by first | omega | (simp only [ByteArray.size_append]; omega)) (q := Z ++ spB ++ hexT (can .f32 x) ++ spB) rfl ?_
      simp only [Act.put, List.setIfInBounds_toArray, List.set_cons_succ, List.set_cons_zero]
      refine wpFreeD_one rfl (.pointer (some ⟨w.heap.size, 4, none⟩)) (fun w1 _ => by kernel_rfl) ?_
      simp only [Act.put, List.setIfInBounds_toArray, List.set_cons_succ, List.set_cons_zero]
      refine wpFreeD_one rfl (.pointer (some ⟨w.heap.size, 5, none⟩)) (fun w1 _ => by kernel_rfl) ?_
      simp only [Act.put, List.setIfInBounds_toArray, List.set_cons_succ, List.set_cons_zero]
      refine wpFreeD_load1 rfl rfl rfl (p := ⟨w.heap.size, 5, none⟩) (v := .float .f32 y) (fun w1 h1 => by rw [((FD.le h1).row m0).cell?]; rfl) ukindFloat32 ?_
      simp only [Act.put, List.setIfInBounds_toArray, List.set_cons_succ, List.set_cons_zero]
      refine wpFreeD_callB rfl rfl Tryd.func33 (by kernel_rfl) (by kernel_rfl) (args := #[.float .f32 y]) (by simp [Act.eval]) (fun v w1 w2 hw hv => hv) (fun w1 hw1 _ => (HY.out w1).mono ?_) ?_
      · rintro e w2 ⟨rfl, hl⟩
        exact ⟨_, rfl, hl, rfl⟩
      rintro v ⟨_, _, _, hv⟩
      replace hv : v = .string (hexT (can .f32 y)) := hv
      subst hv
      simp only [Act.put, List.setIfInBounds_toArray, List.set_cons_succ, List.set_cons_zero]
      refine wpFreeD_cat rfl rfl (s := (Z ++ spB ++ hexT (can .f32 x) ++ spB)) (r := (hexT (can .f32 y))) rfl rfl (by first | omega | (simp only [ByteArray.size_append]; omega)) (q := txtF k a b c x y) EN.out ?_
      simp only [Act.put, List.setIfInBounds_toArray, List.set_cons_succ, List.set_cons_zero]
      refine wpFreeD_one rfl (.string (txtF k a b c x y)) (fun w1 _ => by kernel_rfl) ?_
      simp only [Act.put, List.setIfInBounds_toArray, List.set_cons_succ, List.set_cons_zero]
      refine wpFreeD_nil (fun wR hwR _ => ?_)
      replace F := FD.le hwR
      clear hwR FD
      go_wp2
      go_ret
      exact ⟨rfl, F.below⟩
theorem okF_k {k : Int} {a b c x y : Nat} (h : okF k a b c x y = true) : ∃ n : Nat, k = n ∧ n < 100 := by
  unfold okF at h
  simp only [Bool.and_eq_true, decide_eq_true_eq] at h
  exact ⟨k.toNat, by omega, by omega⟩
/-- The text of a filter, or none. -/
def filT (k : Int) (a b c x y : Nat) : ByteArray := if okF k a b c x y then txtF k.toNat a b c x y else ⟨#[]⟩
theorem i_FilterText (k : Int) (a b c x y : Nat) (w : World) (hf : fits .f32 a ∧ fits .f32 b ∧ fits .f32 c ∧ fits .f32 x ∧ fits .f32 y) : Calls Tryd.prog 39 #[(.agg #[.int .i64 k, .float .f32 a, .float .f32 b, .float .f32 c, .float .f32 x, .float .f32 y])] w (Out_t (filT k a b c x y) w) := by
  unfold filT
  cases hok : okF k a b c x y
  · simpa using i_FilterText_no k a b c x y w hf hok
  · obtain ⟨n, rfl, hn⟩ := okF_k hok
    simpa using i_FilterText_yes n a b c x y w hf hn hok
theorem s_FilterText (k : Int) (a b c x y : Nat) (w : World) (hf : fits .f32 a ∧ fits .f32 b ∧ fits .f32 c ∧ fits .f32 x ∧ fits .f32 y) : Calls Tryd.prog 34 #[(.agg #[.int .i64 k, .float .f32 a, .float .f32 b, .float .f32 c, .float .f32 x, .float .f32 y])] w (Out_t (filT k a b c x y) w) := by
  unfold filT
  cases hok : okF k a b c x y
  · simpa using s_FilterText_no k a b c x y w hok
  · obtain ⟨n, rfl, hn⟩ := okF_k hok
    simpa using s_FilterText_yes n a b c x y w hf hn hok
end Go.Proofs.YtogledmlbcmkjaaDoor

/- The library's table of powers of ten: it stays where it is. -/
namespace Go.Proofs.YtogledmlbcmkjaaDoor
open Go.RowKit Go.Fk
theorem Tab10.le {w w' : World} (h : Tab10 w) (hl : Go.Fk.le w w') : Tab10 w' := by
  have hg : Tryd.prog.globalNamed "internal/strconv.uint64pow10" = some 2 := by kernel_rfl
  unfold Tab10 Lib.TabIs World.var? at h ⊢
  rw [hg] at h ⊢
  simp only [Option.bind_some] at h ⊢
  have hlt : 2 < w.heap.size := by
    rcases Nat.lt_or_ge 2 w.heap.size with h' | h'
    · exact h'
    · rw [Array.getElem?_eq_none h'] at h; cases h
  rw [hl.block _ hlt]
  exact h
theorem tabIs_of_mem {P : Program} {W : World} {name : String} {k : IntKind} {zs : List Int} {g : Nat} {t e : TypeId} {n : Nat}
    (hg : P.globalNamed name = some g) (hty : (P.globals[g]?).map (·.type) = some t) (ht : P.underlying t = some (.array n e)) (he : P.underlying e = some (.int k)) (hce : P.cellsOf e = 1) (hct : P.cellsOf t = n) :
    ∀ (l : List (String × DataW Unit)) (ps : List MemPlace), DataW.LaidVars P W l ps → (name, Lib.tabData k zs) ∈ l → Lib.TabIs P W name k zs
  | [], _, _, hm => by cases hm
  | (nm, d) :: l, ps, h, hm => by
    obtain ⟨g', t', cs, fuel, p, q, hg', ht', hvar, hd, hrest, _⟩ := h
    rcases List.mem_cons.1 hm with hm | hm
    · simp only [Prod.mk.injEq] at hm
      obtain ⟨rfl, rfl⟩ := hm
      obtain rfl := Option.some.inj (hg.symm.trans hg')
      obtain rfl := Option.some.inj (hty.symm.trans ht')
      unfold Lib.TabIs
      rw [hvar, ← Lib.cells_of_tab ht he hce hct hd]
    · exact tabIs_of_mem hg hty ht he hce hct l q hrest hm
theorem tab10_of {W : World} {l : List (String × DataW Unit)} (h : laidMet Tryd.prog l W) (hm : ("internal/strconv.uint64pow10", Lib.tabData .u64 Lib.pow10Tab) ∈ l) : Tab10 W := by
  obtain ⟨ps, h, _⟩ := h
  exact tabIs_of_mem (g := 2) (t := 142) (e := 124) (n := 20) (by kernel_rfl) (by kernel_rfl) Tryd.underlying142 Tryd.underlying124 (by kernel_rfl) (by kernel_rfl) l ps h hm
end Go.Proofs.YtogledmlbcmkjaaDoor
