/- Texts of the walk, laid in one file. -/
import Derived.Test.YtmacednkpjfokaaRows
import Derived.Handy
import Derived.Laws.Externs
import Derived.ArgAppend
import Derived.OwnWalk
import Derived.Great.BuildSlice
import Derived.StillTail
import Derived.Test.YtmacednkpjfokaaMa
set_option linter.unusedVariables false
set_option linter.unusedSimpArgs false
/- As FreeT, but an operation may lean on what is known of the operations that it comes behind: so a region may write blocks that it has made itself. Nothing here names a program. -/
namespace Go.Fk
open Go Go.RowKit

/-- What is known of each operation's value. -/
abbrev Facts := Nat → World → Prop
def Facts.with (F : Facts) (k : Nat) (V : World → Prop) : Facts := fun e w => F e w ∧ (e = k → V w)
theorem Facts.with_of {F : Facts} {k : Nat} {V : World → Prop} {w : World} (h : ∀ e, (F.with k V) e w) : (∀ e, F e w) ∧ V w := ⟨fun e => (h e).1, (h k).2 rfl⟩
theorem Facts.with_mk {F : Facts} {k : Nat} {V : World → Prop} {w : World} (h : ∀ e, F e w) (hv : V w) : ∀ e, (F.with k V) e w := fun e => ⟨h e, fun _ => hv⟩

section
variable (E : Ext) (P : Program) (ops : Array Oper) (md : Region.Mode) (W : World) (K : FuncId → Array Value → World → Value → Prop)
/-- What is known where an operation comes up. -/
def behind (o : Oper) (F : Facts) (w : World) : Prop := ∀ e ∈ o.after, Region.binds md e = true → F e.on w
def YieldsD (o : Oper) (a : Act) (F : Facts) (V : World → Value → Prop) : Prop :=
  MonoT E V ∧ ((Region.wanted o (yielded ops a.tmps) = true ∧ ∀ w, E.R W w → behind md o F w → insideT E P K w V ((execOp a.eval o).run P w)) ∨ (Region.wanted o (yielded ops a.tmps) = false ∧ ∀ w, E.R W w → behind md o F w → V w undef))
/-- Some world may be met in which all of this is known. -/
def met (F : Facts) (V : World → Prop) : Prop := ∃ w, E.R W w ∧ (∀ e, F e w) ∧ V w
def wpFreeD (Q : Act → World → Prop) : List Oper → Nat → Act → Facts → Prop
  | [], _, a, F => ∀ w, E.R W w → (∀ e, F e w) → Q a w
  | o :: rest, k, a, F => ∃ V, YieldsD E P ops md W K o a F V ∧ ∀ v, met E W F (fun w => V w v) → wpFreeD Q rest (k + 1) (a.put o.dst v) (F.with k (fun w => V w v))
def anyFreeD (n : Nat) (L : Array Bool → Act → Facts → Prop) : Nat → Array Bool → Act → Facts → Prop
  | 0, listed, a, F => L listed a F
  | f + 1, listed, a, F => Region.ready md ops listed ≠ [] ∧
      ∀ i ∈ Region.ready md ops listed, i < n ∧ ∀ o, ops[i]? = some o → ∃ V, YieldsD E P ops md W K o a F V ∧ ∀ v, met E W F (fun w => V w v) → anyFreeD n L f (listed.setIfInBounds i true) (a.put o.dst v) (F.with i (fun w => V w v))
def FMono (F : Facts) : Prop := ∀ w w', E.R w w' → (∀ e, F e w) → ∀ e, F e w'
end

section
variable {E : Ext} {P : Program} {ops : Array Oper} {md : Region.Mode} {W : World} {K : FuncId → Array Value → World → Value → Prop}

theorem FMono.with {F : Facts} (h : FMono E F) {V : World → Value → Prop} (hV : MonoT E V) (k : Nat) (v : Value) : FMono E (F.with k (fun w => V w v)) := fun w w' hw hF =>
  Facts.with_mk (h w w' hw (Facts.with_of hF).1) (hV v w w' hw (Facts.with_of hF).2)

theorem insideT_some {V : World → Value → Prop} {w : World} {r : Result Next} (h : insideT E P K w V r) : ∃ v, ∃ w', E.R w w' ∧ V w' v := by
  cases r with
  | ok n w' =>
    cases n <;> simp only [insideT] at h
    case value u => exact ⟨u, w', h.1, h.2⟩
    case skip => exact ⟨undef, w', h.1, h.2⟩
    case enter f args =>
      obtain ⟨e, w'', fr, ⟨v, _, hl, hk⟩, _⟩ := h.2.1 []
      exact ⟨v, w'', E.trans h.1 hl, h.2.2 w'' v hk⟩
  | halt x w' => simp only [insideT] at h

theorem YieldsD.some {o : Oper} {a : Act} {F : Facts} {V : World → Value → Prop} (hm : FMono E F) (hx : met E W F (fun _ => True)) (h : YieldsD E P ops md W K o a F V) : ∃ v, met E W F (fun w => V w v) := by
  obtain ⟨w, hw, hF, _⟩ := hx
  rcases h.2 with ⟨_, h⟩ | ⟨_, h⟩
  · obtain ⟨v, w', hl, hv⟩ := insideT_some (h w hw (fun e _ _ => hF e.on))
    exact ⟨v, w', E.trans hw hl, hm w w' hl hF, hv⟩
  · exact ⟨undef, w, hw, hF, h w hw (fun e _ _ => hF e.on)⟩

theorem YieldsD.same {o : Oper} {a a' : Act} {F : Facts} {V : World → Value → Prop} (he : execOp a'.eval o = execOp a.eval o) (hw : Region.wanted o (yielded ops a'.tmps) = Region.wanted o (yielded ops a.tmps))
    (h : YieldsD E P ops md W K o a F V) : YieldsD E P ops md W K o a' F V := by
  unfold YieldsD at *; rw [he, hw]; exact h

/-- What is known of an operation that it does not come behind is of no use to it. -/
theorem YieldsD.less {o : Oper} {a : Act} {F : Facts} {i : Nat} {X : World → Prop} {V : World → Value → Prop} (hn : ∀ e ∈ o.after, Region.binds md e = true → e.on ≠ i) (h : YieldsD E P ops md W K o a (F.with i X) V) : YieldsD E P ops md W K o a F V := by
  have key : ∀ w, behind md o F w → behind md o (F.with i X) w := fun w hw e he hb => ⟨hw e he hb, fun h => absurd h (hn e he hb)⟩
  refine ⟨h.1, ?_⟩
  rcases h.2 with ⟨h1, h2⟩ | ⟨h1, h2⟩
  · exact .inl ⟨h1, fun w hw hb => h2 w hw (key w hb)⟩
  · exact .inr ⟨h1, fun w hw hb => h2 w hw (key w hb)⟩
theorem YieldsD.more {o : Oper} {a : Act} {F : Facts} {i : Nat} {X : World → Prop} {V : World → Value → Prop} (h : YieldsD E P ops md W K o a F V) : YieldsD E P ops md W K o a (F.with i X) V := by
  have key : ∀ w, behind md o (F.with i X) w → behind md o F w := fun w hw e he hb => (hw e he hb).1
  refine ⟨h.1, ?_⟩
  rcases h.2 with ⟨h1, h2⟩ | ⟨h1, h2⟩
  · exact .inl ⟨h1, fun w hw hb => h2 w hw (key w hb)⟩
  · exact .inr ⟨h1, fun w hw hb => h2 w hw (key w hb)⟩

theorem wpOp_yieldsD {i : Nat} {o : Oper} {a : Act} {w : World} {F : Facts} {V : World → Value → Prop} {next : Act → World → Prop} {Q' : Exit → Act → World → Prop} (ho : ops[i]? = some o) (hw : E.R W w) (hF : ∀ e, F e w) (hg : YieldsD E P ops md W K o a F V)
    (hn : ∀ v w', E.R w w' → V w' v → next (a.put o.dst v) w') : wpOp P ops Q' i next a w := by
  unfold wpOp
  simp only [ho]
  rcases hg.2 with ⟨hwant, hv⟩ | ⟨hwant, hv⟩
  · rw [if_pos hwant]
    left
    have h3 := hv w hw (fun e _ _ => hF e.on)
    unfold Oper.wp
    generalize (execOp a.eval o).run P w = r at h3
    cases r with
    | ok x w' =>
      cases x <;> simp only [insideT] at h3 <;> simp only [Oper.upon]
      case value u => exact hn u _ h3.1 h3.2
      case skip => exact hn undef _ h3.1 h3.2
      case enter f args =>
        refine h3.2.1.mono fun e w'' he => ?_
        obtain ⟨v, rfl, hl, hk⟩ := he
        exact hn v _ (E.trans h3.1 hl) (h3.2.2 w'' v hk)
    | halt x w' => simp only [insideT] at h3
  · rw [if_neg (by simp [hwant])]
    exact hn undef _ (E.refl w) (hv w hw (fun e _ _ => hF e.on))

theorem anyFreeD_sound {n g : Nat} {L : Array Bool → Act → Facts → Prop} {Q' : Exit → Act → World → Prop} (hL : ∀ listed a F w, E.R W w → (∀ e, F e w) → L listed a F → wpAny P md ops Q' g listed a w) :
    ∀ (f : Nat) (listed : Array Bool) (a : Act) (F : Facts) (w : World), FMono E F → E.R W w → (∀ e, F e w) → anyFreeD E P ops md W K n L f listed a F → wpAny P md ops Q' (f + g) listed a w := by
  intro f
  induction f with
  | zero => intro listed a F w _ hw hF h; rw [Nat.zero_add]; exact hL _ _ _ _ hw hF h
  | succ f ih =>
    intro listed a F w hm hw hF h
    rw [show f + 1 + g = (f + g) + 1 by omega]
    refine ⟨fun h0 => absurd h0 h.1, fun i hi => ?_⟩
    obtain ⟨_, o, ho, _⟩ := mem_ready.1 hi
    obtain ⟨V, hg, hn⟩ := (h.2 i hi).2 o ho
    exact wpOp_yieldsD ho hw hF hg (fun v w' hl hv => ih _ _ _ _ (hm.with hg.1 i v) (E.trans hw hl) (Facts.with_mk (hm w w' hl hF) hv) (hn v ⟨w', E.trans hw hl, hm w w' hl hF, hv⟩))

theorem met.weaken {F F' : Facts} {V : World → Prop} (h : ∀ w, (∀ e, F' e w) → ∀ e, F e w) (hx : met E W F' V) : met E W F V := by
  obtain ⟨w, hw, hF, hv⟩ := hx; exact ⟨w, hw, h w hF, hv⟩

/-- Facts that are pointwise the same. -/
theorem anyFreeD_congr {n : Nat} {L : Array Bool → Act → Facts → Prop} (hLm : ∀ listed a F F', (∀ e w, F' e w ↔ F e w) → L listed a F → L listed a F') :
    ∀ (f : Nat) (listed : Array Bool) (a : Act) (F F' : Facts), (∀ e w, F' e w ↔ F e w) → anyFreeD E P ops md W K n L f listed a F → anyFreeD E P ops md W K n L f listed a F' := by
  intro f listed a F F' h
  have : F' = F := by funext e w; exact propext (h e w)
  rw [this]; exact id

theorem with_comm (F : Facts) (i j : Nat) (X Y : World → Prop) : (F.with i X).with j Y = (F.with j Y).with i X := by
  funext e w
  unfold Facts.with
  exact propext ⟨fun h => ⟨⟨h.1.1, h.2⟩, h.1.2⟩, fun h => ⟨⟨h.1.1, h.2⟩, h.1.2⟩⟩

theorem YieldsD.stronger {o : Oper} {a : Act} {F F' : Facts} {V : World → Value → Prop} (hF : ∀ e w, F' e w → F e w) (h : YieldsD E P ops md W K o a F V) : YieldsD E P ops md W K o a F' V := by
  have key : ∀ w, behind md o F' w → behind md o F w := fun w hw e he hb => hF _ _ (hw e he hb)
  refine ⟨h.1, ?_⟩
  rcases h.2 with ⟨h1, h2⟩ | ⟨h1, h2⟩
  · exact .inl ⟨h1, fun w hw hb => h2 w hw (key w hb)⟩
  · exact .inr ⟨h1, fun w hw hb => h2 w hw (key w hb)⟩

theorem anyFreeD_weaken {n : Nat} {L : Array Bool → Act → Facts → Prop} (hLm : ∀ listed a F F', (∀ e w, F' e w → F e w) → L listed a F → L listed a F') :
    ∀ (f : Nat) (listed : Array Bool) (a : Act) (F F' : Facts), (∀ e w, F' e w → F e w) → anyFreeD E P ops md W K n L f listed a F → anyFreeD E P ops md W K n L f listed a F' := by
  intro f
  induction f with
  | zero => intro listed a F F' h hh; exact hLm _ _ _ _ h hh
  | succ f ih =>
    intro listed a F F' h hh
    refine ⟨hh.1, fun i hi => ⟨(hh.2 i hi).1, fun o ho => ?_⟩⟩
    obtain ⟨V, hg, hn⟩ := (hh.2 i hi).2 o ho
    exact ⟨V, hg.stronger h, fun v hv => ih _ _ _ _ (fun e w hw => ⟨h e w hw.1, hw.2⟩) (hn v (hv.weaken (fun w hw e => h e w (hw e))))⟩

theorem anyFreeD_first {n i : Nat} {oi : Oper} {V : World → Value → Prop} {L : Array Bool → Act → Facts → Prop} (hi : ops[i]? = some oi) (hsel : ∀ (j : Nat) (o : Oper) cs b, ops[j]? = some o → o.op ≠ .select cs b)
    (hbound : ∀ listed i, HeadInv md ops n listed → i < n → listed.getD i true = false → ∀ j ∈ Region.ready md ops listed, j < n) (hin : i < n)
    (hdone : ∀ listed a F, L listed a F → ∀ j ∈ Region.ready md ops listed, n ≤ j) (hLm : ∀ listed a F F', (∀ e w, F' e w → F e w) → L listed a F → L listed a F') :
    ∀ (f : Nat) (listed : Array Bool) (a : Act) (F : Facts), HeadInv md ops n listed →
      (∀ j oj, ops[j]? = some oj → j ≠ i → listed.getD j true = false → (∀ e ∈ oj.after, Region.binds md e = true → e.on ≠ i) → oi.apart ops oj = true) →
      i ∈ Region.ready md ops listed → FMono E F → met E W F (fun _ => True) → YieldsD E P ops md W K oi a F V →
      (∀ v, met E W F (fun w => V w v) → anyFreeD E P ops md W K n L f (listed.setIfInBounds i true) (a.put oi.dst v) (F.with i (fun w => V w v))) → anyFreeD E P ops md W K n L (f + 1) listed a F := by
  intro f
  induction f with
  | zero =>
    intro listed a F inv _ hr hm hx hg H
    have hun := (mem_ready.1 hr).1
    refine ⟨fun h => (by rw [h] at hr; cases hr), fun j hj => ?_⟩
    have hjn := hbound listed i inv hin hun j hj
    refine ⟨hjn, fun o ho => ?_⟩
    by_cases hji : j = i
    · subst hji
      rw [hi] at ho; cases ho
      exact ⟨V, hg, H⟩
    · obtain ⟨v, hv⟩ := hg.some hm hx
      have := hdone _ _ _ (H v hv) j (ready_mono hj hji)
      omega
  | succ f ih =>
    intro listed a F inv hfree hr hm hx hg H
    have hun := (mem_ready.1 hr).1
    refine ⟨fun h => (by rw [h] at hr; cases hr), fun j hj => ?_⟩
    have hjn := hbound listed i inv hin hun j hj
    refine ⟨hjn, fun o ho => ?_⟩
    by_cases hji : j = i
    · subst hji
      rw [hi] at ho; cases ho
      exact ⟨V, hg, H⟩
    · obtain ⟨hjun, oj, hoj, hall⟩ := mem_ready.1 hj
      rw [ho] at hoj; cases hoj
      have hnot : ∀ e ∈ o.after, Region.binds md e = true → e.on ≠ i := fun e he hb heq => by
        have h1 := hall e he hb
        rw [heq, getD_both hun] at h1
        cases h1
      have hap := hfree j o ho hji hjun hnot
      obtain ⟨a1, a2, a3⟩ := Oper.apart_spec hap
      have hsi := fun cs b => hsel i oi cs b hi
      have hsj := fun cs b => hsel j o cs b ho
      have hU : ∀ v : {v // met E W F (fun w => V w v)}, ∃ U, YieldsD E P ops md W K o (a.put oi.dst v.1) (F.with i (fun w => V w v.1)) U ∧ ∀ u, met E W (F.with i (fun w => V w v.1)) (fun w => U w u) →
          anyFreeD E P ops md W K n L f ((listed.setIfInBounds i true).setIfInBounds j true) ((a.put oi.dst v.1).put o.dst u) ((F.with i (fun w => V w v.1)).with j (fun w => U w u)) :=
        fun v => ((H v.1 v.2).2 j (ready_mono hj hji)).2 o ho
      obtain ⟨U, hU⟩ := Classical.skolem.1 hU
      obtain ⟨v0, hv0⟩ := hg.some hm hx
      have hone : ∀ v, YieldsD E P ops md W K o a F (U v) := fun v => ((hU v).1.same (execOp_put o hsj a oi.dst v.1 a1).symm (wanted_put o a oi.dst v.1 a1).symm).less hnot
      have hgood : YieldsD E P ops md W K o a F (fun w u => ∀ v, U v w u) := by
        refine ⟨fun u w w' hl h v => (hone v).1 u w w' hl (h v), ?_⟩
        by_cases hw : Region.wanted o (yielded ops a.tmps) = true
        · refine .inl ⟨hw, fun w hw' hb => inside_allT ⟨⟨v0, hv0⟩, trivial⟩ (fun v => ?_)⟩
          rcases (hone v).2 with ⟨_, h3⟩ | ⟨h3, _⟩
          · exact h3 w hw' hb
          · rw [hw] at h3; cases h3
        · refine .inr ⟨by simpa using hw, fun w hw' hb v => ?_⟩
          rcases (hone v).2 with ⟨h3, _⟩ | ⟨_, h3⟩
          · exact absurd h3 hw
          · exact h3 w hw' hb
      refine ⟨_, hgood, ?_⟩
      intro u hu
      have hfree' : ∀ k ok, ops[k]? = some ok → k ≠ i → (listed.setIfInBounds j true).getD k true = false →
          (∀ e ∈ ok.after, Region.binds md e = true → e.on ≠ i) → oi.apart ops ok = true := fun k ok hk hki hun hno => by
        refine hfree k ok hk hki ?_ hno
        by_cases hjk : j = k
        · subst hjk; exact hjun
        · rw [getD_set_ne true hjk] at hun; exact hun
      have hx' : met E W (F.with j (fun w => ∀ v, U v w u)) (fun _ => True) := by
        obtain ⟨w, hw, hF, hv⟩ := hu
        exact ⟨w, hw, Facts.with_mk hF hv, trivial⟩
      refine ih (listed.setIfInBounds j true) (a.put o.dst u) (F.with j (fun w => ∀ v, U v w u)) (inv.set hj hjn) hfree' (ready_mono hr (Ne.symm hji)) (hm.with hgood.1 j u) hx' ((hg.same (execOp_put oi hsi a o.dst u a3) (wanted_put oi a o.dst u a3)).more) (fun v hv => ?_)
      rw [Array.setIfInBounds_comm _ _ hji, ← Act.put_comm a v u a2]
      obtain ⟨w, hw, hF, hVv⟩ := hv
      have hF' := Facts.with_of hF
      have mv : met E W F (fun w => V w v) := ⟨w, hw, hF'.1, hVv⟩
      exact anyFreeD_weaken hLm _ _ _ _ _ (fun e w' h' => ⟨⟨h'.1.1, h'.2⟩, fun he => h'.1.2 he ⟨v, mv⟩⟩) ((hU ⟨v, mv⟩).2 u ⟨w, hw, Facts.with_mk hF'.1 hVv, hF'.2 ⟨v, mv⟩⟩)

theorem anyFreeD_lex {n g : Nat} {R : Act → World → Prop} (hsel : Region.noSelect ops = true)
    (hbound : ∀ listed i, HeadInv md ops n listed → i < n → listed.getD i true = false → ∀ j ∈ Region.ready md ops listed, j < n) :
    ∀ (l : List Oper) (k : Nat) (listed : Array Bool) (a : Act) (F : Facts), (∀ j, j < l.length → l[j]? = ops[k + j]?) → k + l.length = n → HeadInv md ops n listed →
    Region.lexHead md ops g l.length k listed = true → FMono E F → met E W F (fun _ => True) → wpFreeD E P ops md W K R l k a F →
    anyFreeD E P ops md W K n (fun listed' a' F' => Region.seqB md ops g n listed' = true ∧ ∀ w, E.R W w → (∀ e, F' e w) → R a' w) l.length listed a F := by
  intro l
  induction l with
  | nil =>
    intro k listed a F _ hk _ hB _ _ h
    have : k = n := by simpa using hk
    subst this
    exact ⟨by simpa [Region.lexHead] using hB, h⟩
  | cons o l ih =>
    intro k listed a F hl hk inv hB hm hx h
    have h0 : ops[k]? = some o := by simpa using (hl 0 (by simp)).symm
    simp only [List.length_cons, Region.lexHead, Bool.and_eq_true] at hB
    obtain ⟨⟨hr, hf⟩, hB'⟩ := hB
    have hkn : k < n := by simp only [List.length_cons] at hk; omega
    have hr' : k ∈ Region.ready md ops listed := by simpa using hr
    obtain ⟨V, hg, hnext⟩ := h
    exact anyFreeD_first h0 (Region.noSelect_spec hsel) hbound hkn (fun listed' a' F' hL => seqB_ready hL.1) (fun _ _ _ _ hF hL => ⟨hL.1, fun w hw h' => hL.2 w hw (fun e => hF e w (h' e))⟩) l.length listed a F inv (Region.free_spec h0 hf) hr' hm hx hg
      (fun v hv => ih (k + 1) _ _ _ (fun j hj => by have := hl (j + 1) (by simp; omega); simpa [Nat.add_assoc, Nat.add_comm 1 j] using this) (by simp only [List.length_cons] at hk; omega) (inv.set hr' hkn) hB' (hm.with hg.1 k v)
        (by obtain ⟨w, hw, hF, hv'⟩ := hv; exact ⟨w, hw, Facts.with_mk hF hv', trivial⟩) (hnext v hv))

def noFacts : Facts := fun _ _ => True
/-- A REGION THAT DRAWS ITS ORDER. -/
theorem region_freeD (K : FuncId → Array Value → World → Value → Prop) {id : Nat} {Q : Exit → Act → World → Prop} {a : Act} {w : World} {l : List Oper} (hm : P.follows .mixedOrders = true)
    (hB : (Region.noSelect l.toArray && Region.lexHead .any l.toArray 0 l.length 0 (Array.replicate l.toArray.size false)) = true)
    (h : wpFreeD E P l.toArray .any (w.drewN 1) K (fun a' w' => Q .normal a' w') l 0 a noFacts) : (Code.region id l.toArray true).wp P Q a w := by
  simp only [Bool.and_eq_true] at hB
  obtain ⟨hsel, hlex⟩ := hB
  have hbound : ∀ listed i, HeadInv .any l.toArray l.length listed → i < l.length → listed.getD i true = false → ∀ j ∈ Region.ready .any l.toArray listed, j < l.length := by
    intro listed i _ _ _ j hj
    obtain ⟨_, oj, hoj, _⟩ := mem_ready.1 hj
    simpa using (Array.getElem?_eq_some_iff.1 hoj).1
  have H := anyFreeD_lex (md := .any) (g := 0) hsel hbound l 0 _ a noFacts (fun j hj => by simp) (by simp) (head_start _ l.length) hlex (fun _ _ _ h => h) ⟨w.drewN 1, E.refl _, fun _ => trivial, trivial⟩ h
  refine wp_region_any hm ?_
  have := anyFreeD_sound (Q' := Q) (W := w.drewN 1) (g := 0) (fun listed a' F w' hw' hF hL => ⟨by simpa [Region.seqB] using hL.1, hL.2 w' hw' hF⟩) _ _ _ _ _ (fun _ _ _ h => h) (E.refl _) (fun _ => trivial) H
  rw [Nat.add_zero] at this
  exact this
end

theorem wpFreeD_weaken {E : Ext} {P : Program} {ops : Array Oper} {md : Region.Mode} {W : World} {K : FuncId → Array Value → World → Value → Prop} {Q : Act → World → Prop} : ∀ (l : List Oper) (k : Nat) (a : Act) (F F' : Facts), (∀ e w, F' e w → F e w) → wpFreeD E P ops md W K Q l k a F → wpFreeD E P ops md W K Q l k a F' := by
  intro l
  induction l with
  | nil => intro k a F F' h hh w hw hF; exact hh w hw (fun e => h e w (hF e))
  | cons o l ih =>
    intro k a F F' h hh
    obtain ⟨V, hg, hn⟩ := hh
    exact ⟨V, hg.stronger h, fun v hv => ih _ _ _ _ (fun e w hw => ⟨h e w hw.1, hw.2⟩) (hn v (hv.weaken (fun w hw e => h e w (hw e))))⟩

/-- The operations may make blocks, and write these rows into blocks of their own, by types. -/
def newX (B : Nat) (T : List (TypeId × Nat × (Array Value → Prop))) : Ext where
  R w w' := w'.os = w.os ∧ w'.tape = w.tape ∧ w'.output = w.output ∧ w.heap.size ≤ w'.heap.size ∧ (∀ k, k < B → k < w.heap.size → w'.heap[k]? = w.heap[k]?) ∧
    (∀ k x, x ∈ T → (∃ cs, Row w k x.1 cs ∧ x.2.2 cs) → ∃ cs, Row w' k x.1 cs ∧ x.2.2 cs) ∧ (∀ k x, x ∈ T → (∃ cs, Row w k x.1 cs ∧ cs.size = x.2.1) → ∃ cs, Row w' k x.1 cs ∧ cs.size = x.2.1) ∧
    (∀ k t cs, (∀ x ∈ T, x.1 ≠ t) → Row w k t cs → Row w' k t cs)
  refl w := ⟨rfl, rfl, rfl, Nat.le_refl _, fun _ _ _ => rfl, fun _ _ _ h => h, fun _ _ _ h => h, fun _ _ _ _ h => h⟩
  trans := by
    rintro a b c ⟨h1, h2, h3, h4, h5, h6, h7, h8⟩ ⟨k1, k2, k3, k4, k5, k6, k7, k8⟩
    exact ⟨k1.trans h1, k2.trans h2, k3.trans h3, Nat.le_trans h4 k4, fun k hk hx => (k5 k hk (Nat.lt_of_lt_of_le hx h4)).trans (h5 k hk hx), fun k x hx h => k6 k x hx (h6 k x hx h), fun k x hx h => k7 k x hx (h7 k x hx h), fun k t cs hn h => k8 k t cs hn (h8 k t cs hn h)⟩
  of_le := by
    intro a b h
    exact ⟨h.os, h.tape, h.output, h.size, fun k _ hk => h.block k hk, fun k x _ ⟨cs, hr, hs⟩ => ⟨cs, hr.le h, hs⟩, fun k x _ ⟨cs, hr, hs⟩ => ⟨cs, hr.le h, hs⟩, fun k t cs _ hr => hr.le h⟩
theorem newX_le {B : Nat} {T : List (TypeId × Nat × (Array Value → Prop))} {w w' : World} (h : (newX B T).R w w') (hB : w.heap.size = B) : le w w' :=
  ⟨h.1, h.2.1, h.2.2.1, h.2.2.2.1, fun k hk => h.2.2.2.2.1 k (by omega) hk⟩
theorem newX_row {B : Nat} {T : List (TypeId × Nat × (Array Value → Prop))} {w w' : World} (h : (newX B T).R w w') {g : Nat} {t : TypeId} {cs : Array Value} (hr : Row w g t cs) (hg : g < B) : Row w' g t cs := by
  have := h.2.2.2.2.1 g hg hr.lt
  unfold Row at *
  rw [this]; exact hr
/-- Block b is a row of type t, of n cells. -/
def IsRow (b : Nat) (t : TypeId) (n : Nat) (w : World) : Prop := ∃ cs, Row w b t cs ∧ cs.size = n

section
variable {E : Ext} {P : Program} {ops : Array Oper} {W : World} {K : FuncId → Array Value → World → Value → Prop} {Q : Act → World → Prop} {F : Facts} {k : Nat} {o : Oper} {rest : List Oper} {a : Act}
theorem wpFreeD_nil (h : ∀ w, E.R W w → (∀ e, F e w) → Q a w) : wpFreeD E P ops .any W K Q [] k a F := h
theorem wpFreeD_one (hg : o.guard = none) (v : Value) (hr : ∀ w, E.R W w → (execOp a.eval o).run P w = .ok (.value v) w)
    (h : wpFreeD E P ops .any W K Q rest (k + 1) (a.put o.dst v) (F.with k (fun _ => True))) : wpFreeD E P ops .any W K Q (o :: rest) k a F := by
  refine ⟨fun _ u => u = v, ⟨fun _ _ _ _ h => h, .inl ⟨by simp [Region.wanted, hg], fun w hw _ => ?_⟩⟩, fun u hu => ?_⟩
  · rw [hr w hw]; exact ⟨E.refl w, rfl⟩
  · obtain ⟨w, _, _, rfl⟩ := hu
    exact wpFreeD_weaken _ _ _ _ _ (fun e w h => ⟨h.1, fun _ => trivial⟩) h
theorem wpFreeD_call (hg : o.guard = none) {f : FuncId} {xs : Array Operand} {ts : Array TypeId} (hop : o.op = Op.call { callee := Callee.value (Operand.func f), args := xs, argTypes := ts }) {fn : Func} (hf : P.funcs[f]? = some fn)
    (hb : fn.body.isNone = false) (hn : (fn.name == "runtime.NumGoroutine") = false) {args : Array Value} (ha : xs.map a.eval = args) (hm : MonoT E (K f args))
    (h1 : ∀ w, E.R W w → Calls P f args w (fun e w' => ∃ v, e = .returned v ∧ le w w' ∧ K f args w' v)) (h2 : ∀ v, (∃ w, K f args w v) → wpFreeD E P ops .any W K Q rest (k + 1) (a.put o.dst v) (F.with k (fun w => K f args w v))) : wpFreeD E P ops .any W K Q (o :: rest) k a F := by
  refine ⟨K f args, ⟨hm, .inl ⟨by simp [Region.wanted, hg], fun w hw _ => ?_⟩⟩, fun v hv => h2 v (by obtain ⟨w, _, _, h⟩ := hv; exact ⟨w, h⟩)⟩
  rw [run_enter hop hf hb hn ha]
  refine ⟨E.refl w, (h1 w hw).mono ?_, fun _ _ h => h⟩
  rintro e w' ⟨v, rfl, hl, hk⟩
  exact ⟨v, rfl, E.of_le hl, hk⟩
variable {B : Nat} {T : List (TypeId × Nat × (Array Value → Prop))}
theorem wpFreeD_load (hg : o.guard = none) {ty : TypeId} {x : Operand} (hop : o.op = .load ty x) {g : Nat} (hx : a.eval x = .pointer (some ⟨g, 0, none⟩)) {t : TypeId} {cs : Array Value} {d : TypeDesc}
    (hr : Row W g t cs) (hB : g < B) (hu : P.underlying ty = some d) (hd : (match d with | .struct _ | .array _ _ => true | _ => false) = true) {m : Nat} (hi : (P.info? ty).map (·.size) = some m) (hm : cs.size = m)
    (h : wpFreeD (newX B T) P ops .any W K Q rest (k + 1) (a.put o.dst (.agg cs)) (F.with k (fun _ => True))) : wpFreeD (newX B T) P ops .any W K Q (o :: rest) k a F := by
  subst hm
  refine wpFreeD_one hg (.agg cs) (fun w hw => ?_) h
  have := run_loadVar_row (P := P) w g t ty cs (0, 0) _ (newX_row hw hr hB) hu hd hi
  simp [execOp, hop, hx, Instr.loadAt, Instr.sureAddr, this, Result.andThen]
theorem wpFreeD_alloc (hg : o.guard = none) {ty : TypeId} (hop : o.op = .alloc ty) (cs : Array Value)
    (hr : ∀ w, (Instr.alloc ty true (.tuple #[])).run P w = .ok (.pointer (some ⟨w.heap.size, 0, none⟩)) (w.alloc (.cells cs ty))) {n : Nat} {p : Array Value → Prop} (hT : (ty, n, p) ∈ T) (hs : cs.size = n) (hB : W.heap.size = B)
    (h : ∀ b, B ≤ b → wpFreeD (newX B T) P ops .any W K Q rest (k + 1) (a.put o.dst (.pointer (some ⟨b, 0, none⟩))) (F.with k (IsRow b ty n))) : wpFreeD (newX B T) P ops .any W K Q (o :: rest) k a F := by
  refine ⟨fun w v => ∃ b, v = .pointer (some ⟨b, 0, none⟩) ∧ B ≤ b ∧ IsRow b ty n w, ⟨fun v w w' hw hv => ?_, .inl ⟨by simp [Region.wanted, hg], fun w hw _ => ?_⟩⟩, fun v hv => ?_⟩
  · obtain ⟨b, e, h1, h2⟩ := hv; exact ⟨b, e, h1, hw.2.2.2.2.2.2.1 b _ hT h2⟩
  · simp [execOp, hop, hr, Result.andThen, insideT]
    exact ⟨(newX B T).of_le (le_alloc w _), by have := hw.2.2.2.1; omega, cs, Row.new w ty cs, hs⟩
  · obtain ⟨w, _, _, b, rfl, hb, _⟩ := hv
    exact wpFreeD_weaken _ _ _ _ _ (fun e w h => ⟨h.1, fun he => by obtain ⟨b', e', _, h'⟩ := h.2 he; obtain rfl : b = b' := by simpa using e'
                                                                    exact h'⟩) (h b hb)
theorem wpFreeD_store (hg : o.guard = none) {ty : TypeId} {x y : Operand} (hop : o.op = .store ty x y) {b : Nat} (hx : a.eval x = .pointer (some ⟨b, 0, none⟩)) {cells : Array Value} (hy : a.eval y = .agg cells)
    {n : Nat} {p : Array Value → Prop} (hT : (ty, n, p) ∈ T) (hp : p cells) (hd : ∀ x ∈ T, ∀ y ∈ T, x.1 = y.1 → x = y) (hb : B ≤ b) (hpre : ∀ w, behind .any o F w → IsRow b ty n w) (hi : (P.info? ty).map (·.size) = some n) (hm : cells.size = n) (h1 : cells.all (·.oneCell') = true)
    (h : wpFreeD (newX B T) P ops .any W K Q rest (k + 1) (a.put o.dst undef) (F.with k (fun w => ∃ cs, Row w b ty cs ∧ p cs))) : wpFreeD (newX B T) P ops .any W K Q (o :: rest) k a F := by
  subst hm
  refine ⟨fun w v => v = undef ∧ ∃ cs, Row w b ty cs ∧ p cs, ⟨fun v w w' hw hv => ⟨hv.1, hw.2.2.2.2.2.1 b _ hT hv.2⟩, .inl ⟨by simp [Region.wanted, hg], fun w hw hbe => ?_⟩⟩, fun v hv => ?_⟩
  · obtain ⟨cs, hc, hcs⟩ := hpre w hbe
    have hrun := run_storeVar_row (P := P) w b ty ty cs cells hc hi hcs h1
    have : (execOp a.eval o).run P w = .ok .skip (w.setRow b cells) := by
      unfold execOp
      simp only [hop, hx, hy, Instr.storeAt, Instr.sureAddr, Sem.run_bind, Sem.run_pure, Result.andThen_ok, hrun]
    rw [this]
    have hrow : Row (w.setRow b cells) b ty cells := hc.setRow _
    have one : ∀ q t' c', Row w q t' c' → q = b → t' = ty ∧ c' = cs := by
      rintro q t' c' hq rfl
      unfold Row at hq hc
      rw [hc] at hq
      simp only [Option.some.injEq, Obj.cells.injEq] at hq
      exact ⟨hq.2.1.symm, hq.1.symm⟩
    refine ⟨⟨rfl, rfl, rfl, by simp, fun q hq _ => ?_, fun q x' hx' ⟨c', hrx, hsx⟩ => ?_, fun q x' hx' ⟨c', hrx, hsx⟩ => ?_, fun q t' c' hn hrx => ?_⟩, rfl, cells, hrow, hp⟩
    · unfold World.setRow
      rw [Array.getElem?_modify, if_neg (by omega)]
    · by_cases e : q = b
      · have := hd x' hx' _ hT (one _ _ _ hrx e).1
        subst this; subst e; exact ⟨cells, hrow, hp⟩
      · exact ⟨c', hrx.setRow_other e _, hsx⟩
    · by_cases e : q = b
      · have := hd x' hx' _ hT (one _ _ _ hrx e).1
        subst this; subst e; exact ⟨cells, hrow, rfl⟩
      · exact ⟨c', hrx.setRow_other e _, hsx⟩
    · by_cases e : q = b
      · exact absurd (one _ _ _ hrx e).1.symm (hn _ hT)
      · exact hrx.setRow_other e _
  · obtain ⟨w, _, _, rfl, _⟩ := hv
    exact wpFreeD_weaken _ _ _ _ _ (fun e w h => ⟨h.1, fun he => (h.2 he).2⟩) h
end
theorem region_newD {P : Program} (T : List (TypeId × Nat × (Array Value → Prop))) (K : FuncId → Array Value → World → Value → Prop) {id : Nat} {Q : Exit → Act → World → Prop} {a : Act} {w : World} {l : List Oper} (hm : P.follows .mixedOrders = true)
    (hB : (Region.noSelect l.toArray && Region.lexHead .any l.toArray 0 l.length 0 (Array.replicate l.toArray.size false)) = true)
    (h : wpFreeD (newX (w.drewN 1).heap.size T) P l.toArray .any (w.drewN 1) K (fun a' w' => Q .normal a' w') l 0 a noFacts) : (Code.region id l.toArray true).wp P Q a w :=
  region_freeD K hm hB h
end Go.Fk

/- Facts of memory, all in one hypothesis: each speaks of a range of blocks. Slices of floats, up to the bits of NaN. Nothing here names a program. -/
namespace Go.Fk
open Go Go.RowKit

/-- Of what was there, blocks of S alone may have turned. -/
structure Chg (S : Nat → Prop) (w w' : World) : Prop where
  os : w'.os = w.os
  tape : w'.tape = w.tape
  output : w'.output = w.output
  size : w.heap.size ≤ w'.heap.size
  block : ∀ k, k < w.heap.size → ¬ S k → w'.heap[k]? = w.heap[k]?
/-- Blocks from lo to hi. -/
def rng (lo hi : Nat) (k : Nat) : Prop := lo ≤ k ∧ k < hi
namespace Chg
variable {S T : Nat → Prop} {w w' w'' : World}
theorem refl (S : Nat → Prop) (w : World) : Chg S w w := ⟨rfl, rfl, rfl, Nat.le_refl _, fun _ _ _ => rfl⟩
theorem of_le (k : Fk.le w w') : Chg S w w' := ⟨k.os, k.tape, k.output, k.size, fun i hi _ => k.block i hi⟩
theorem trans (h : Chg S w w') (k : Chg S w' w'') : Chg S w w'' :=
  ⟨k.os.trans h.os, k.tape.trans h.tape, k.output.trans h.output, Nat.le_trans h.size k.size, fun i hi hn => (k.block i (Nat.lt_of_lt_of_le hi h.size) hn).trans (h.block i hi hn)⟩
theorem le (h : Chg S w w') (k : Fk.le w' w'') : Chg S w w'' := h.trans (of_le k)
theorem setCell (h : Chg S w w') {a : Addr} (h1 : S a.block) (v : Value) : Chg S w (w'.setCell a v) :=
  ⟨h.os, h.tape, h.output, by simpa using h.size, fun i hi hn => (Below.heap_setCell _ _ _ _ (by intro e; subst e; exact hn h1)).trans (h.block i hi hn)⟩
theorem mono (h : Chg S w w') (hS : ∀ k, S k → T k) : Chg T w w' :=
  ⟨h.os, h.tape, h.output, h.size, fun i hi hn => h.block i hi (fun hs => hn (hS i hs))⟩
theorem below (h : Chg S w w') {B : Nat} (hB : ∀ k, S k → B ≤ k) (hw : B ≤ w.heap.size) : Below B w w' :=
  ⟨h.os, h.tape, h.output, h.size, fun i hi => h.block i (by omega) (fun hs => by have := hB i hs; omega)⟩
theorem row (h : Chg S w w') {g : Nat} {t : TypeId} {cs : Array Value} (hr : Row w g t cs) (hn : ¬ S g) : Row w' g t cs := by
  have := h.block g hr.lt hn
  unfold Row at *; rw [this]; exact hr
theorem wrote (h : Chg S w w') {g : Nat} {t : TypeId} {cs : Array Value} (k : Wrote w' w'' g t cs) (hg : S g) : Chg S w w'' :=
  have kb := k.below 0 w' (Below.refl _ _) (Nat.zero_le _)
  h.trans ⟨kb.os, kb.tape, kb.output, kb.size, fun i _ hn => k.block i (fun e => hn (e ▸ hg))⟩
end Chg

/-- What is known of memory, and the blocks that it speaks of. -/
structure Fact where
  lo : Nat
  hi : Nat
  p : World → Prop
  ok : ∀ w w', p w → (∀ k, lo ≤ k → k < hi → w'.heap[k]? = w.heap[k]?) → p w'

/-- Nothing that 'w0' holds has turned; and these facts, the newest first: each speaks of blocks that are newer than those of the next. -/
structure Frg (w0 w : World) (L : List Fact) : Prop where
  below : le w0 w
  facts : ∀ e ∈ L, w0.heap.size ≤ e.lo ∧ e.hi ≤ w.heap.size ∧ e.p w
  apart : L.Pairwise (fun a b => b.hi ≤ a.lo)

theorem m0 {a : Fact} {l : List Fact} : a ∈ a :: l := List.mem_cons_self
theorem m1 {b0 a : Fact} {l : List Fact} : a ∈ b0 :: a :: l := List.mem_cons_of_mem _ (List.mem_cons_self)
theorem m2 {b0 b1 a : Fact} {l : List Fact} : a ∈ b0 :: b1 :: a :: l := List.mem_cons_of_mem _ (List.mem_cons_of_mem _ (List.mem_cons_self))
theorem m3 {b0 b1 b2 a : Fact} {l : List Fact} : a ∈ b0 :: b1 :: b2 :: a :: l := List.mem_cons_of_mem _ (List.mem_cons_of_mem _ (List.mem_cons_of_mem _ (List.mem_cons_self)))
theorem m4 {b0 b1 b2 b3 a : Fact} {l : List Fact} : a ∈ b0 :: b1 :: b2 :: b3 :: a :: l := List.mem_cons_of_mem _ (List.mem_cons_of_mem _ (List.mem_cons_of_mem _ (List.mem_cons_of_mem _ (List.mem_cons_self))))
theorem m5 {b0 b1 b2 b3 b4 a : Fact} {l : List Fact} : a ∈ b0 :: b1 :: b2 :: b3 :: b4 :: a :: l := List.mem_cons_of_mem _ (List.mem_cons_of_mem _ (List.mem_cons_of_mem _ (List.mem_cons_of_mem _ (List.mem_cons_of_mem _ (List.mem_cons_self)))))
theorem m6 {b0 b1 b2 b3 b4 b5 a : Fact} {l : List Fact} : a ∈ b0 :: b1 :: b2 :: b3 :: b4 :: b5 :: a :: l := List.mem_cons_of_mem _ (List.mem_cons_of_mem _ (List.mem_cons_of_mem _ (List.mem_cons_of_mem _ (List.mem_cons_of_mem _ (List.mem_cons_of_mem _ (List.mem_cons_self))))))
theorem m7 {b0 b1 b2 b3 b4 b5 b6 a : Fact} {l : List Fact} : a ∈ b0 :: b1 :: b2 :: b3 :: b4 :: b5 :: b6 :: a :: l := List.mem_cons_of_mem _ (List.mem_cons_of_mem _ (List.mem_cons_of_mem _ (List.mem_cons_of_mem _ (List.mem_cons_of_mem _ (List.mem_cons_of_mem _ (List.mem_cons_of_mem _ (List.mem_cons_self)))))))
theorem m8 {b0 b1 b2 b3 b4 b5 b6 b7 a : Fact} {l : List Fact} : a ∈ b0 :: b1 :: b2 :: b3 :: b4 :: b5 :: b6 :: b7 :: a :: l := List.mem_cons_of_mem _ (List.mem_cons_of_mem _ (List.mem_cons_of_mem _ (List.mem_cons_of_mem _ (List.mem_cons_of_mem _ (List.mem_cons_of_mem _ (List.mem_cons_of_mem _ (List.mem_cons_of_mem _ (List.mem_cons_self))))))))
theorem m9 {b0 b1 b2 b3 b4 b5 b6 b7 b8 a : Fact} {l : List Fact} : a ∈ b0 :: b1 :: b2 :: b3 :: b4 :: b5 :: b6 :: b7 :: b8 :: a :: l := List.mem_cons_of_mem _ (List.mem_cons_of_mem _ (List.mem_cons_of_mem _ (List.mem_cons_of_mem _ (List.mem_cons_of_mem _ (List.mem_cons_of_mem _ (List.mem_cons_of_mem _ (List.mem_cons_of_mem _ (List.mem_cons_of_mem _ (List.mem_cons_self)))))))))
theorem m10 {b0 b1 b2 b3 b4 b5 b6 b7 b8 b9 a : Fact} {l : List Fact} : a ∈ b0 :: b1 :: b2 :: b3 :: b4 :: b5 :: b6 :: b7 :: b8 :: b9 :: a :: l := List.mem_cons_of_mem _ (List.mem_cons_of_mem _ (List.mem_cons_of_mem _ (List.mem_cons_of_mem _ (List.mem_cons_of_mem _ (List.mem_cons_of_mem _ (List.mem_cons_of_mem _ (List.mem_cons_of_mem _ (List.mem_cons_of_mem _ (List.mem_cons_of_mem _ (List.mem_cons_self))))))))))
theorem m11 {b0 b1 b2 b3 b4 b5 b6 b7 b8 b9 b10 a : Fact} {l : List Fact} : a ∈ b0 :: b1 :: b2 :: b3 :: b4 :: b5 :: b6 :: b7 :: b8 :: b9 :: b10 :: a :: l := List.mem_cons_of_mem _ (List.mem_cons_of_mem _ (List.mem_cons_of_mem _ (List.mem_cons_of_mem _ (List.mem_cons_of_mem _ (List.mem_cons_of_mem _ (List.mem_cons_of_mem _ (List.mem_cons_of_mem _ (List.mem_cons_of_mem _ (List.mem_cons_of_mem _ (List.mem_cons_of_mem _ (List.mem_cons_self)))))))))))
def rowF (g : Nat) (t : TypeId) (cs : Array Value) : Fact := ⟨g, g + 1, fun w => Row w g t cs, fun w w' h hk => by
  unfold Row at *; rw [hk g (Nat.le_refl _) (Nat.lt_succ_self _)]; exact h⟩

/-- A slice of n floats that can be read; its blocks lie below B. -/
def RdS (w : World) (B : Nat) (s : Value) (x : Nat → Nat) (n : Nat) : Prop :=
  (s = .slice none 0 0 ∧ n = 0) ∨ ∃ (a : Addr) (cap : Nat), s = .slice (some a) n cap ∧ n ≤ cap ∧ cap ≤ maxLen ∧ ∀ i, i < n → a.block < B ∧ ∃ y, w.cell? (a.add i) = some (.float .f32 y) ∧ fits .f32 y ∧ can .f32 y = x i
/-- A slice of n floats that one may write, in blocks from lo to hi. -/
def OwnS (w : World) (lo hi : Nat) (s : Value) (x : Nat → Nat) (n : Nat) : Prop :=
  (s = .slice none 0 0 ∧ n = 0) ∨ ∃ (b o cap : Nat) (cs : Array Value), s = .slice (some ⟨b, o, none⟩) n cap ∧ n ≤ cap ∧ cap ≤ maxLen ∧ lo ≤ b ∧ b < hi ∧ Row w b 22 cs ∧ ∀ i, i < n → ∃ y, cs[o + i]? = some (.float .f32 y) ∧ fits .f32 y ∧ can .f32 y = x i

theorem add_block (a : Addr) (i : Nat) : (a.add i).block = a.block := by unfold Addr.add; split <;> rfl
theorem add_none (b o i : Nat) : (⟨b, o, none⟩ : Addr).add i = ⟨b, o + i, none⟩ := by
  unfold Addr.add; split
  · subst_vars; rfl
  · rfl
theorem cell_of_heap {w w' : World} {a : Addr} (h : w'.heap[a.block]? = w.heap[a.block]?) : w'.cell? a = w.cell? a := by simp [World.cell?, h]
def rdF (B : Nat) (s : Value) (x : Nat → Nat) (n : Nat) : Fact := ⟨0, B, fun w => RdS w B s x n, fun w w' h hk => by
  rcases h with h | ⟨a, cap, h1, h2, h3, h5⟩
  · exact .inl h
  · exact .inr ⟨a, cap, h1, h2, h3, fun i hi => by
      obtain ⟨h4, y, e1, e2⟩ := h5 i hi
      exact ⟨h4, y, (cell_of_heap (a := a.add i) (by rw [add_block]; exact hk a.block (Nat.zero_le _) h4)).trans e1, e2⟩⟩⟩
def ownF (lo hi : Nat) (s : Value) (x : Nat → Nat) (n : Nat) : Fact := ⟨lo, hi, fun w => OwnS w lo hi s x n, fun w w' h hk => by
  rcases h with h | ⟨b, o, cap, cs, h1, h2, h3, h4, h5, h6, h7⟩
  · exact .inl h
  · exact .inr ⟨b, o, cap, cs, h1, h2, h3, h4, h5, by unfold Row at *; rw [hk b h4 h5]; exact h6, h7⟩⟩
theorem OwnS.rd {w : World} {lo hi : Nat} {s : Value} {x : Nat → Nat} {n : Nat} (h : OwnS w lo hi s x n) : RdS w hi s x n := by
  rcases h with h | ⟨b, o, cap, cs, h1, h2, h3, h4, h5, h6, h7⟩
  · exact .inl h
  · exact .inr ⟨_, cap, h1, h2, h3, fun i hi => by
      obtain ⟨y, e1, e2⟩ := h7 i hi
      exact ⟨h5, y, by rw [add_none]; exact (h6.cell? (o + i)).trans e1, e2⟩⟩
theorem RdS.mono {w : World} {B B' : Nat} {s : Value} {x : Nat → Nat} {n : Nat} (h : RdS w B s x n) (hB : B ≤ B') : RdS w B' s x n := by
  rcases h with h | ⟨a, cap, h1, h2, h3, h5⟩
  · exact .inl h
  · exact .inr ⟨a, cap, h1, h2, h3, fun i hi => ⟨Nat.lt_of_lt_of_le (h5 i hi).1 hB, (h5 i hi).2⟩⟩
theorem OwnS.mono {w : World} {lo hi lo' hi' : Nat} {s : Value} {x : Nat → Nat} {n : Nat} (h : OwnS w lo hi s x n) (h1 : lo' ≤ lo) (h2 : hi ≤ hi') : OwnS w lo' hi' s x n := by
  rcases h with h | ⟨b, o, cap, cs, e1, e2, e3, e4, e5, e6, e7⟩
  · exact .inl h
  · exact .inr ⟨b, o, cap, cs, e1, e2, e3, by omega, by omega, e6, e7⟩
theorem RdS.congr {w : World} {B : Nat} {s : Value} {x x' : Nat → Nat} {n : Nat} (h : RdS w B s x n) (hx : ∀ i, i < n → x i = x' i) : RdS w B s x' n := by
  rcases h with h | ⟨a, cap, h1, h2, h3, h5⟩
  · exact .inl h
  · exact .inr ⟨a, cap, h1, h2, h3, fun i hi => by obtain ⟨h4, y, e1, e2, e3⟩ := h5 i hi; exact ⟨h4, y, e1, e2, e3.trans (hx i hi)⟩⟩
theorem OwnS.congr {w : World} {lo hi : Nat} {s : Value} {x x' : Nat → Nat} {n : Nat} (h : OwnS w lo hi s x n) (hx : ∀ i, i < n → x i = x' i) : OwnS w lo hi s x' n := by
  rcases h with h | ⟨b, o, cap, cs, h1, h2, h3, h4, h5, h6, h7⟩
  · exact .inl h
  · exact .inr ⟨b, o, cap, cs, h1, h2, h3, h4, h5, h6, fun i hi => by obtain ⟨y, e1, e2, e3⟩ := h7 i hi; exact ⟨y, e1, e2, e3.trans (hx i hi)⟩⟩
theorem RdS.le {w w' : World} {B : Nat} {s : Value} {x : Nat → Nat} {n : Nat} (h : RdS w B s x n) (hl : Fk.le w w') : RdS w' B s x n := by
  rcases h with h | ⟨a, cap, h1, h2, h3, h5⟩
  · exact .inl h
  · exact .inr ⟨a, cap, h1, h2, h3, fun i hi => by
      obtain ⟨h4, y, e1, e2⟩ := h5 i hi
      have hlt : (a.add i).block < w.heap.size := by
        apply Nat.lt_of_not_le
        intro hle
        have : w.heap[(a.add i).block]? = none := Array.getElem?_eq_none hle
        simp [World.cell?, this] at e1
      exact ⟨h4, y, (Below.cell hl hlt).trans e1, e2⟩⟩
theorem OwnS.le {w w' : World} {lo hi : Nat} {s : Value} {x : Nat → Nat} {n : Nat} (h : OwnS w lo hi s x n) (hl : Fk.le w w') : OwnS w' lo hi s x n := by
  rcases h with h | ⟨b, o, cap, cs, h1, h2, h3, h4, h5, h6, h7⟩
  · exact .inl h
  · exact .inr ⟨b, o, cap, cs, h1, h2, h3, h4, h5, h6.le hl, h7⟩
theorem RdS.small {w : World} {B : Nat} {s : Value} {x : Nat → Nat} {n : Nat} (h : RdS w B s x n) : n ≤ 9223372036854775807 := by
  rcases h with ⟨_, rfl⟩ | ⟨a, cap, h1, h2, h3, _⟩
  · omega
  · unfold maxLen at h3; omega
theorem SlIn.rd {w : World} {s : Value} {x : Nat → Nat} {n : Nat} (h : SlIn w s x n) : RdS w w.heap.size s (fun i => can .f32 (x i)) n := by
  rcases h with h | ⟨a, cap, h1, h2, h3, h4⟩
  · exact .inl h
  · exact .inr ⟨a, cap, h1, h2, h3, fun i hi => by
      obtain ⟨e1, e2⟩ := h4 i hi
      refine ⟨?_, _, e1, e2, rfl⟩
      show a.block < _
      rw [← add_block a i]
      apply Nat.lt_of_not_le
      intro hle
      have : w.heap[(a.add i).block]? = none := Array.getElem?_eq_none hle
      simp [World.cell?, this] at e1⟩

theorem OwnS.one {w : World} {lo hi : Nat} {s : Value} {x : Nat → Nat} {n : Nat} (h : OwnS w lo hi s x n) : s.oneCell' = true := by
  rcases h with ⟨rfl, _⟩ | ⟨b, o, cap, cs, rfl, _⟩ <;> rfl
theorem RdS.one {w : World} {B : Nat} {s : Value} {x : Nat → Nat} {n : Nat} (h : RdS w B s x n) : s.oneCell' = true := by
  rcases h with ⟨rfl, _⟩ | ⟨a, cap, rfl, _⟩ <;> rfl
theorem one_head {s : Value} {l : List Value} (h : s.oneCell' = true) (hl : l.all (·.oneCell') = true) : (s :: l).toArray.all (·.oneCell') = true := by
  simp only [List.all_toArray', List.all_cons, h, hl, Bool.and_self]
namespace Frg
variable {w0 w w' : World} {L : List Fact}
theorem nil (w : World) : Frg w w [] := ⟨le_refl w, by simp, .nil⟩
theorem le (h : Frg w0 w L) (k : Below w.heap.size w w') : Frg w0 w' L := ⟨le_trans h.below k, fun e he => by
  obtain ⟨h0, h1, h2⟩ := h.facts e he
  exact ⟨h0, Nat.le_trans h1 k.size, e.ok w w' h2 (fun i _ hi => k.block i (by omega))⟩, h.apart⟩
theorem drewN (h : Frg w0 w L) (n : Nat) : Frg w0 (w.drewN n) L := h.le (le_drewN w n)
theorem alloc (h : Frg w0 w L) (o : Obj) : Frg w0 (w.alloc o) L := h.le (le_alloc w o)
/-- A new fact, of blocks that are newer than all that was there. -/
theorem push (h : Frg w0 w L) (k : Below w.heap.size w w') {e : Fact} (he : e.p w') (hl : w.heap.size ≤ e.lo) (hh : e.hi ≤ w'.heap.size) : Frg w0 w' (e :: L) := by
  refine ⟨(h.le k).below, fun x hx => ?_, .cons (fun x hx => Nat.le_trans (h.facts x hx).2.1 hl) h.apart⟩
  rcases List.mem_cons.1 hx with rfl | hx
  · exact ⟨Nat.le_trans h.below.size hl, hh, he⟩
  · exact (h.le k).facts x hx
theorem box (h : Frg w0 w L) (t : TypeId) (cs : Array Value) : Frg w0 (w.alloc (.cells cs t)) (rowF w.heap.size t cs :: L) :=
  h.push (le_alloc w _) (Row.new w t cs) (Nat.le_refl _) (by simp [rowF])
theorem own1 (h : Frg w0 w L) (k : Below w.heap.size w w') {s : Value} {x : Nat → Nat} {n : Nat} (he : OwnS w' w.heap.size w'.heap.size s x n) : Frg w0 w' (ownF w.heap.size w'.heap.size s x n :: L) :=
  h.push k he (Nat.le_refl _) (Nat.le_refl _)
theorem row (h : Frg w0 w L) {g : Nat} {t : TypeId} {cs : Array Value} (hm : rowF g t cs ∈ L) : Row w g t cs := (h.facts _ hm).2.2
theorem own (h : Frg w0 w L) {lo hi : Nat} {s : Value} {x : Nat → Nat} {n : Nat} (hm : ownF lo hi s x n ∈ L) : OwnS w lo hi s x n := (h.facts _ hm).2.2
theorem size (h : Frg w0 w L) : w0.heap.size ≤ w.heap.size := h.below.size
theorem sub {L' : List Fact} (h : Frg w0 w L) (hs : L'.Sublist L) : Frg w0 w L' := ⟨h.below, fun x hx => h.facts x (hs.mem hx), h.apart.sublist hs⟩
/-- One fact's blocks are written: all other facts stand. -/
theorem chg (pre : List Fact) {post : List Fact} {e e' : Fact} (h : Frg w0 w (pre ++ e :: post)) (k : Chg (rng e.lo e.hi) w w') (hp : e'.p w') (h1 : e'.lo = e.lo) (h2 : e'.hi = e.hi) : Frg w0 w' (pre ++ e' :: post) := by
  have he := h.facts e (by simp)
  have hap := List.pairwise_append.1 h.apart
  have hap2 := List.pairwise_cons.1 hap.2.1
  refine ⟨h.below.trans (k.below (fun i hi => Nat.le_trans he.1 hi.1) h.size), fun x hx => ?_, ?_⟩
  · rcases List.mem_append.1 hx with hx | hx
    · have hx' := h.facts x (List.mem_append_left _ hx)
      have ha := hap.2.2 x hx e (by simp)
      exact ⟨hx'.1, Nat.le_trans hx'.2.1 k.size, x.ok w w' hx'.2.2 (fun i a b => k.block i (by omega) (fun c => by have := c.2; omega))⟩
    · rcases List.mem_cons.1 hx with rfl | hx
      · exact ⟨by rw [h1]; exact he.1, by rw [h2]; exact Nat.le_trans he.2.1 k.size, hp⟩
      · have hx' := h.facts x (List.mem_append_right _ (List.mem_cons_of_mem _ hx))
        have ha := hap2.1 x hx
        exact ⟨hx'.1, Nat.le_trans hx'.2.1 k.size, x.ok w w' hx'.2.2 (fun i a b => k.block i (by omega) (fun c => by have := c.1; omega))⟩
  · refine List.pairwise_append.2 ⟨hap.1, List.pairwise_cons.2 ⟨fun x hx => ?_, hap2.2⟩, fun x hx y hy => ?_⟩
    · show x.hi ≤ e'.lo; rw [h1]; exact hap2.1 x hx
    · rcases List.mem_cons.1 hy with rfl | hy
      · show y.hi ≤ x.lo; rw [h2]; exact hap.2.2 x hx e (by simp)
      · exact hap.2.2 x hx y (List.mem_cons_of_mem _ hy)
/-- A row is written. -/
theorem wrote (pre : List Fact) {post : List Fact} {g : Nat} {t : TypeId} {cs cs' : Array Value} (h : Frg w0 w (pre ++ rowF g t cs :: post)) (k : Wrote w w' g t cs') : Frg w0 w' (pre ++ rowF g t cs' :: post) :=
  chg pre (e := rowF g t cs) (e' := rowF g t cs') h ((Chg.refl (rng g (g + 1)) w).wrote k ⟨Nat.le_refl _, Nat.lt_succ_self _⟩) k.row rfl rfl
theorem setC (pre : List Fact) {post : List Fact} {g : Nat} {t : TypeId} {cs : Array Value} (h : Frg w0 w (pre ++ rowF g t cs :: post)) (i : Nat) (v : Value) : Frg w0 (w.setCell ⟨g, i, none⟩ v) (pre ++ rowF g t (cs.setIfInBounds i v) :: post) :=
  chg pre (e := rowF g t cs) (e' := rowF g t (cs.setIfInBounds i v)) h ((Chg.refl (rng g (g + 1)) w).setCell ⟨Nat.le_refl _, Nat.lt_succ_self _⟩ v) ((h.row (by simp)).set i v) rfl rfl
theorem wr0 {post : List Fact} {g : Nat} {t : TypeId} {cs cs' : Array Value} (h : Frg w0 w (rowF g t cs :: post)) (k : Wrote w w' g t cs') : Frg w0 w' (rowF g t cs' :: post) := wrote [] h k
theorem wr1 {b0 : Fact} {post : List Fact} {g : Nat} {t : TypeId} {cs cs' : Array Value} (h : Frg w0 w (b0 :: rowF g t cs :: post)) (k : Wrote w w' g t cs') : Frg w0 w' (b0 :: rowF g t cs' :: post) := wrote [b0] h k
theorem wr2 {b0 b1 : Fact} {post : List Fact} {g : Nat} {t : TypeId} {cs cs' : Array Value} (h : Frg w0 w (b0 :: b1 :: rowF g t cs :: post)) (k : Wrote w w' g t cs') : Frg w0 w' (b0 :: b1 :: rowF g t cs' :: post) := wrote [b0, b1] h k
theorem wr3 {b0 b1 b2 : Fact} {post : List Fact} {g : Nat} {t : TypeId} {cs cs' : Array Value} (h : Frg w0 w (b0 :: b1 :: b2 :: rowF g t cs :: post)) (k : Wrote w w' g t cs') : Frg w0 w' (b0 :: b1 :: b2 :: rowF g t cs' :: post) := wrote [b0, b1, b2] h k
theorem set0 {post : List Fact} {g : Nat} {t : TypeId} {cs : Array Value} (h : Frg w0 w (rowF g t cs :: post)) (i : Nat) (v : Value) : Frg w0 (w.setCell ⟨g, i, none⟩ v) (rowF g t (cs.setIfInBounds i v) :: post) := setC [] h i v
theorem set1 {b0 : Fact} {post : List Fact} {g : Nat} {t : TypeId} {cs : Array Value} (h : Frg w0 w (b0 :: rowF g t cs :: post)) (i : Nat) (v : Value) : Frg w0 (w.setCell ⟨g, i, none⟩ v) (b0 :: rowF g t (cs.setIfInBounds i v) :: post) := setC [b0] h i v
theorem set2 {b0 b1 : Fact} {post : List Fact} {g : Nat} {t : TypeId} {cs : Array Value} (h : Frg w0 w (b0 :: b1 :: rowF g t cs :: post)) (i : Nat) (v : Value) : Frg w0 (w.setCell ⟨g, i, none⟩ v) (b0 :: b1 :: rowF g t (cs.setIfInBounds i v) :: post) := setC [b0, b1] h i v
theorem mark0 {lo hi n : Nat} {s : Value} {x x' : Nat → Nat} {l : List Fact} (h : Frg w0 w (ownF lo hi s x n :: l)) (hp : OwnS w' lo hi s x' n) (k : Chg (rng lo hi) w w') : Frg w0 w' (ownF lo hi s x' n :: l) :=
  chg [] (e := ownF lo hi s x n) (e' := ownF lo hi s x' n) h k hp rfl rfl
theorem mark1 {lo hi n : Nat} {s : Value} {x x' : Nat → Nat} {l : List Fact} {b0 : Fact} (h : Frg w0 w (b0 :: ownF lo hi s x n :: l)) (hp : OwnS w' lo hi s x' n) (k : Chg (rng lo hi) w w') : Frg w0 w' (b0 :: ownF lo hi s x' n :: l) :=
  chg [b0] (e := ownF lo hi s x n) (e' := ownF lo hi s x' n) h k hp rfl rfl
theorem mark2 {lo hi n : Nat} {s : Value} {x x' : Nat → Nat} {l : List Fact} {b0 b1 : Fact} (h : Frg w0 w (b0 :: b1 :: ownF lo hi s x n :: l)) (hp : OwnS w' lo hi s x' n) (k : Chg (rng lo hi) w w') : Frg w0 w' (b0 :: b1 :: ownF lo hi s x' n :: l) :=
  chg [b0, b1] (e := ownF lo hi s x n) (e' := ownF lo hi s x' n) h k hp rfl rfl
theorem mark3 {lo hi n : Nat} {s : Value} {x x' : Nat → Nat} {l : List Fact} {b0 b1 b2 : Fact} (h : Frg w0 w (b0 :: b1 :: b2 :: ownF lo hi s x n :: l)) (hp : OwnS w' lo hi s x' n) (k : Chg (rng lo hi) w w') : Frg w0 w' (b0 :: b1 :: b2 :: ownF lo hi s x' n :: l) :=
  chg [b0, b1, b2] (e := ownF lo hi s x n) (e' := ownF lo hi s x' n) h k hp rfl rfl
theorem mark4 {lo hi n : Nat} {s : Value} {x x' : Nat → Nat} {l : List Fact} {b0 b1 b2 b3 : Fact} (h : Frg w0 w (b0 :: b1 :: b2 :: b3 :: ownF lo hi s x n :: l)) (hp : OwnS w' lo hi s x' n) (k : Chg (rng lo hi) w w') : Frg w0 w' (b0 :: b1 :: b2 :: b3 :: ownF lo hi s x' n :: l) :=
  chg [b0, b1, b2, b3] (e := ownF lo hi s x n) (e' := ownF lo hi s x' n) h k hp rfl rfl
theorem mark5 {lo hi n : Nat} {s : Value} {x x' : Nat → Nat} {l : List Fact} {b0 b1 b2 b3 b4 : Fact} (h : Frg w0 w (b0 :: b1 :: b2 :: b3 :: b4 :: ownF lo hi s x n :: l)) (hp : OwnS w' lo hi s x' n) (k : Chg (rng lo hi) w w') : Frg w0 w' (b0 :: b1 :: b2 :: b3 :: b4 :: ownF lo hi s x' n :: l) :=
  chg [b0, b1, b2, b3, b4] (e := ownF lo hi s x n) (e' := ownF lo hi s x' n) h k hp rfl rfl
theorem mark6 {lo hi n : Nat} {s : Value} {x x' : Nat → Nat} {l : List Fact} {b0 b1 b2 b3 b4 b5 : Fact} (h : Frg w0 w (b0 :: b1 :: b2 :: b3 :: b4 :: b5 :: ownF lo hi s x n :: l)) (hp : OwnS w' lo hi s x' n) (k : Chg (rng lo hi) w w') : Frg w0 w' (b0 :: b1 :: b2 :: b3 :: b4 :: b5 :: ownF lo hi s x' n :: l) :=
  chg [b0, b1, b2, b3, b4, b5] (e := ownF lo hi s x n) (e' := ownF lo hi s x' n) h k hp rfl rfl
theorem mark7 {lo hi n : Nat} {s : Value} {x x' : Nat → Nat} {l : List Fact} {b0 b1 b2 b3 b4 b5 b6 : Fact} (h : Frg w0 w (b0 :: b1 :: b2 :: b3 :: b4 :: b5 :: b6 :: ownF lo hi s x n :: l)) (hp : OwnS w' lo hi s x' n) (k : Chg (rng lo hi) w w') : Frg w0 w' (b0 :: b1 :: b2 :: b3 :: b4 :: b5 :: b6 :: ownF lo hi s x' n :: l) :=
  chg [b0, b1, b2, b3, b4, b5, b6] (e := ownF lo hi s x n) (e' := ownF lo hi s x' n) h k hp rfl rfl
theorem mark8 {lo hi n : Nat} {s : Value} {x x' : Nat → Nat} {l : List Fact} {b0 b1 b2 b3 b4 b5 b6 b7 : Fact} (h : Frg w0 w (b0 :: b1 :: b2 :: b3 :: b4 :: b5 :: b6 :: b7 :: ownF lo hi s x n :: l)) (hp : OwnS w' lo hi s x' n) (k : Chg (rng lo hi) w w') : Frg w0 w' (b0 :: b1 :: b2 :: b3 :: b4 :: b5 :: b6 :: b7 :: ownF lo hi s x' n :: l) :=
  chg [b0, b1, b2, b3, b4, b5, b6, b7] (e := ownF lo hi s x n) (e' := ownF lo hi s x' n) h k hp rfl rfl
theorem mark9 {lo hi n : Nat} {s : Value} {x x' : Nat → Nat} {l : List Fact} {b0 b1 b2 b3 b4 b5 b6 b7 b8 : Fact} (h : Frg w0 w (b0 :: b1 :: b2 :: b3 :: b4 :: b5 :: b6 :: b7 :: b8 :: ownF lo hi s x n :: l)) (hp : OwnS w' lo hi s x' n) (k : Chg (rng lo hi) w w') : Frg w0 w' (b0 :: b1 :: b2 :: b3 :: b4 :: b5 :: b6 :: b7 :: b8 :: ownF lo hi s x' n :: l) :=
  chg [b0, b1, b2, b3, b4, b5, b6, b7, b8] (e := ownF lo hi s x n) (e' := ownF lo hi s x' n) h k hp rfl rfl
end Frg

section
variable {P : Program} {w : World} {ops : Array Oper} {rest : List Oper} {o : Oper} {a : Act} {Q : Exit → Act → World → Prop}
theorem wpList_loadG {w0 : World} {L : List Fact} (hF : Frg w0 w L) (hg : o.guard = none) {ty : TypeId} {x : Operand} (hop : o.op = .load ty x) {g : Nat} (hx : a.eval x = .pointer (some ⟨g, 0, none⟩)) {t : TypeId} {cs : Array Value} {d : TypeDesc}
    (hm : rowF g t cs ∈ L) (hu : P.underlying ty = some d) (hd : (match d with | .struct _ | .array _ _ => true | _ => false) = true) {n : Nat} (hi : (P.info? ty).map (·.size) = some n) (hn : cs.size = n)
    (h : wpList P ops Q rest (a.put o.dst (.agg cs)) w) : wpList P ops Q (o :: rest) a w :=
  wpList_loadD hg hop hx (hF.row hm) hu hd (hn ▸ hi) h
theorem wpList_loadGG {w0 : World} {L : List Fact} (hF : Frg w0 w L) {ty : TypeId} {x : Operand} (hop : o.op = .load ty x) {g : Nat} (hx : a.eval x = .pointer (some ⟨g, 0, none⟩)) {t : TypeId} {cs : Array Value} {d : TypeDesc}
    (hm : rowF g t cs ∈ L) (hu : P.underlying ty = some d) (hd : (match d with | .struct _ | .array _ _ => true | _ => false) = true) {n : Nat} (hi : (P.info? ty).map (·.size) = some n) (hn : cs.size = n) (hw : Region.wanted o (yielded ops a.tmps) = true)
    (h : wpList P ops Q rest (a.put o.dst (.agg cs)) w) : wpList P ops Q (o :: rest) a w :=
  wpList_step fun K hK => by
    simp only [hw, if_true]
    exact wp_load_row ty x hop g hx t cs (0, 0) d (hF.row hm) hu hd (hn ▸ hi) (hK _ _ h)
/-- A part of a block is loaded. -/
theorem wpList_loadGP {w0 : World} {L : List Fact} (hF : Frg w0 w L) (hg : o.guard = none) {ty : TypeId} {x : Operand} (hop : o.op = .load ty x) {g f : Nat} (hx : a.eval x = .pointer (some ⟨g, f, none⟩)) {t : TypeId} {cs : Array Value} {d : TypeDesc}
    (hm : rowF g t cs ∈ L) (hu : P.underlying ty = some d) (hd : d.isRow = true) (ds : List Value) (hc : ∀ j, j < ds.length → cs[f + j]? = ds[j]?) {n : Nat} (hi : (P.info? ty).map (·.size) = some n) (hn : ds.length = n)
    (h : wpList P ops Q rest (a.put o.dst (.agg ds.toArray)) w) : wpList P ops Q (o :: rest) a w :=
  wpList_loadP hg hop hx (hF.row hm) hu hd ds hc (hn ▸ hi) h
theorem wpList_loadDR {g : Nat} {t : TypeId} {cs : Array Value} (hr : Row w g t cs) (hg : o.guard = none) {ty : TypeId} {x : Operand} (hop : o.op = .load ty x) (hx : a.eval x = .pointer (some ⟨g, 0, none⟩)) {d : TypeDesc}
    (hu : P.underlying ty = some d) (hd : (match d with | .struct _ | .array _ _ => true | _ => false) = true) {n : Nat} (hi : (P.info? ty).map (·.size) = some n) (hn : cs.size = n)
    (h : wpList P ops Q rest (a.put o.dst (.agg cs)) w) : wpList P ops Q (o :: rest) a w :=
  wpList_loadD hg hop hx hr hu hd (hn ▸ hi) h
theorem wpList_loadPR {g f : Nat} {t : TypeId} {cs : Array Value} (hr : Row w g t cs) (hg : o.guard = none) {ty : TypeId} {x : Operand} (hop : o.op = .load ty x) (hx : a.eval x = .pointer (some ⟨g, f, none⟩)) {d : TypeDesc}
    (hu : P.underlying ty = some d) (hd : d.isRow = true) (ds : List Value) (hc : ∀ j, j < ds.length → cs[f + j]? = ds[j]?) {n : Nat} (hi : (P.info? ty).map (·.size) = some n) (hn : ds.length = n)
    (h : wpList P ops Q rest (a.put o.dst (.agg ds.toArray)) w) : wpList P ops Q (o :: rest) a w :=
  wpList_loadP hg hop hx hr hu hd ds hc (hn ▸ hi) h
/-- A part of a block is loaded, by a guarded operation. -/
theorem wpList_loadGPG {w0 : World} {L : List Fact} (hF : Frg w0 w L) {ty : TypeId} {x : Operand} (hop : o.op = .load ty x) {g f : Nat} (hx : a.eval x = .pointer (some ⟨g, f, none⟩)) {t : TypeId} {cs : Array Value} {d : TypeDesc}
    (hm : rowF g t cs ∈ L) (hu : P.underlying ty = some d) (hd : d.isRow = true) (ds : List Value) (hc : ∀ j, j < ds.length → cs[f + j]? = ds[j]?) {n : Nat} (hi : (P.info? ty).map (·.size) = some n) (hn : ds.length = n) (hw : Region.wanted o (yielded ops a.tmps) = true)
    (h : wpList P ops Q rest (a.put o.dst (.agg ds.toArray)) w) : wpList P ops Q (o :: rest) a w :=
  wpList_step fun K hK => by
    simp only [hw, if_true]
    exact wp_load_mid ty x hop g f hx ds d (fun j v hv => by rw [(hF.row hm).cell?, hc j (List.getElem?_eq_some_iff.1 hv).1, hv]) hu hd (hn ▸ hi) (hK _ _ h)
/-- A fresh block is written whole. -/
theorem wpList_storeG {w0 w1 : World} {L : List Fact} {t : TypeId} {old : Array Value} (hF : Frg w0 w1 L) (hw : w = w1.alloc (.cells old t)) (hg : o.guard = none) {ty : TypeId} {x y : Operand} (hop : o.op = .store ty x y) (hx : a.eval x = .pointer (some ⟨w1.heap.size, 0, none⟩)) {cells : Array Value} (hy : a.eval y = .agg cells)
    (hi : (P.info? ty).map (·.size) = some cells.size) (ho : old.size = cells.size) (h1 : cells.all (·.oneCell') = true)
    (h : ∀ w', Frg w0 w' (rowF w1.heap.size t cells :: L) → w'.heap.size = w1.heap.size + 1 → wpList P ops Q rest (a.put o.dst undef) w') : wpList P ops Q (o :: rest) a w :=
  wpList_storeN hw hg hop hx hy hi ho h1 (fun w' hr hl hz => h w' (hF.push hl hr (Nat.le_refl _) (by have := hr.lt; simp only [rowF]; omega)) hz)
end

theorem wpAt0 {P : Program} {c : Code} {Q : Exit → Act → World → Prop} {a : Act} {w0 w : World} {L : List Fact} (F : Frg w0 w L) (h : ∀ w', Frg w0 w' L → c.wp P Q a w') : c.wp P Q a w := h _ F
theorem wpAtN {P : Program} {c : Code} {Q : Exit → Act → World → Prop} {a : Act} {w0 w : World} {L : List Fact} {n : Nat} (F : Frg w0 w L) (h : ∀ w', Frg w0 w' L → c.wp P Q a w') : c.wp P Q a (w.drewN n) := h _ (F.drewN n)
theorem callAt0 {P : Program} {f : FuncId} {args : Array Value} {R : Ending → World → Prop} {w0 w : World} {L : List Fact} (F : Frg w0 w L) (h : ∀ w', Frg w0 w' L → Calls P f args w' R) : Calls P f args w R := h _ F
theorem callAtN {P : Program} {f : FuncId} {args : Array Value} {R : Ending → World → Prop} {w0 w : World} {L : List Fact} {n : Nat} (F : Frg w0 w L) (h : ∀ w', Frg w0 w' L → Calls P f args w' R) : Calls P f args (w.drewN n) R := h _ (F.drewN n)
section
variable {P : Program} {w0 w : World} {L : List Fact} {n : Nat} {ops : Array Oper} {rest : List Oper} {o : Oper} {a : Act} {Q : Exit → Act → World → Prop}
/-- The world behind draws under a name. -/
theorem listN (F : Frg w0 w L) (h : ∀ w', Frg w0 w' L → wpList P ops Q rest a w') : wpList P ops Q rest a (w.drewN n) := h _ (F.drewN n)
theorem at_loadU {ty : TypeId} {x : Operand} (_ : o.guard = none) (_ : o.op = .load ty x) (h : wpList P ops Q (o :: rest) a w) : wpList P ops Q (o :: rest) a w := h
theorem at_loadV {ty : TypeId} {x : Operand} {g : Tmp × Bool} (_ : o.guard = some g) (_ : o.op = .load ty x) (h : wpList P ops Q (o :: rest) a w) : wpList P ops Q (o :: rest) a w := h
theorem at_store {ty : TypeId} {x y : Operand} (_ : o.op = .store ty x y) (h : wpList P ops Q (o :: rest) a w) : wpList P ops Q (o :: rest) a w := h
end
/-- Nothing turns. -/
def leX : Ext := ⟨le, le_refl, le_trans, id⟩
section
variable {E : Ext} {P : Program} {ops : Array Oper} {W : World} {K : FuncId → Array Value → World → Value → Prop} {Q : Act → World → Prop} {F : Facts} {k : Nat} {o : Oper} {rest : List Oper} {a : Act}
/-- A call that leans on what is known of the operations that it comes behind. -/
theorem wpFreeD_callB (hg : o.guard = none) {f : FuncId} {xs : Array Operand} {ts : Array TypeId} (hop : o.op = Op.call { callee := Callee.value (Operand.func f), args := xs, argTypes := ts }) {fn : Func} (hf : P.funcs[f]? = some fn)
    (hb : fn.body.isNone = false) (hn : (fn.name == "runtime.NumGoroutine") = false) {args : Array Value} (ha : xs.map a.eval = args) (hm : MonoT E (K f args))
    (h1 : ∀ w, E.R W w → behind .any o F w → Calls P f args w (fun e w' => ∃ v, e = .returned v ∧ le w w' ∧ K f args w' v)) (h2 : ∀ v, (∃ w, E.R W w ∧ (∀ e, F e w) ∧ K f args w v) → wpFreeD E P ops .any W K Q rest (k + 1) (a.put o.dst v) (F.with k (fun w => K f args w v))) : wpFreeD E P ops .any W K Q (o :: rest) k a F := by
  refine ⟨K f args, ⟨hm, .inl ⟨by simp [Region.wanted, hg], fun w hw hbe => ?_⟩⟩, fun v hv => h2 v hv⟩
  rw [run_enter hop hf hb hn ha]
  refine ⟨E.refl w, (h1 w hw hbe).mono ?_, fun _ _ h => h⟩
  rintro e w' ⟨v, rfl, hl, hk⟩
  exact ⟨v, rfl, E.of_le hl, hk⟩
theorem wpFreeD_loadG {w0 w1 : World} {L : List Fact} {n : Nat} (hF : Frg w0 w1 L) (hW : W = w1.drewN n) (hg : o.guard = none) {ty : TypeId} {x : Operand} (hop : o.op = .load ty x) {g : Nat} (hx : a.eval x = .pointer (some ⟨g, 0, none⟩)) {t : TypeId} {cs : Array Value} {d : TypeDesc}
    (hm : rowF g t cs ∈ L) (hu : P.underlying ty = some d) (hd : (match d with | .struct _ | .array _ _ => true | _ => false) = true) {m : Nat} (hi : (P.info? ty).map (·.size) = some m) (hs : cs.size = m)
    (h : wpFreeD leX P ops .any W K Q rest (k + 1) (a.put o.dst (.agg cs)) (F.with k (fun _ => True))) : wpFreeD leX P ops .any W K Q (o :: rest) k a F := by
  subst hW hs
  refine wpFreeD_one hg (.agg cs) (fun w hw => ?_) h
  have := run_loadVar_row (P := P) w g t ty cs (0, 0) _ (((hF.row hm).drewN n).le hw) hu hd hi
  simp [execOp, hop, hx, Instr.loadAt, Instr.sureAddr, this, Result.andThen]
end
end Go.Fk

/- 'l00In' of the model. -/
namespace Go.Proofs.Ytmacednkpjfokaa
open Go.RowKit Go.Fk
theorem s_In (v a b : Int) (w : World) : Calls Try.prog 56 #[.int .i64 v, .int .i64 a, .int .i64 b] w fun e w' => e = .returned (.bool (decide (a ≤ v) && decide (v ≤ b))) ∧ w = w' := by
  by_cases h1 : a ≤ v <;> by_cases h2 : v ≤ b
  all_goals
    go_enter Try.func56, Try.ntmps56
    go_wp2
    go_ret
    exact ⟨ret_b (by simp [h1, h2]), rfl⟩
end Go.Proofs.Ytmacednkpjfokaa

/- Rings: 'NewRing' of both. -/
namespace Go.Fk
open Go Go.RowKit
/-- The cells of a ring. -/
def ringC (s : Value) (at' : Int) : Array Value := #[s, .int .i64 at']
def OutR (n : Nat) (w : World) (e : Ending) (w' : World) : Prop := ∃ b, e = .returned (.tuple #[.agg #[.slice (some ⟨b, 0, none⟩) n n, .int .i64 0], .int .i64 0]) ∧ w.heap.size ≤ b ∧ le w w' ∧ Row w' b 22 (ftab .f32 (fun _ => 0) n)
def OutR0 (w : World) (e : Ending) (w' : World) : Prop := e = .returned (.tuple #[.agg #[.slice none 0 0, .int .i64 0], .int .i64 2]) ∧ le w w'
end Go.Fk
namespace Go.Proofs.Ytmacednkpjfokaa
open Go.RowKit Go.Fk
theorem infoRing : (Try.prog.info? 46).map (·.size) = some 2 := by kernel_rfl
end Go.Proofs.Ytmacednkpjfokaa

/- The value of a float as a whole number of its smallest units; order, and the way to integers, by it. Nothing here names a program. -/
namespace Go.Fk
open Go Go.RowKit

def unitOf : FloatKind → Nat
  | .f32 => 149
  | .f64 => 1074
/-- Where an infinity is put. -/
def farE : Nat := 3000
theorem farE_ge : 2200 ≤ farE := by decide
def far : Nat := 2 ^ farE
theorem far_pos : 0 < far := Nat.two_pow_pos _
/-- How many smallest units a word stands for; an infinity stands far away. -/
def val (k : FloatKind) (b : Nat) : Int := match k.format.read b with
  | .number s m e => Ieee.signed s m (e + unitOf k).toNat
  | .infinity s => if s then -(far : Int) else far
  | .nan _ _ => 0

theorem signed_eq (s : Bool) (m up : Nat) : Ieee.signed s m up = (if s then -(m : Int) else (m : Int)) * 2 ^ up := by
  unfold Ieee.signed
  rw [Nat.shiftLeft_eq]
  cases s <;> simp [Int.neg_mul]

theorem least_eq (k : FloatKind) : k.format.leastPlace = -(unitOf k : Int) := by cases k <;> decide
theorem read_place {k : FloatKind} {b : Nat} {s : Bool} {m : Nat} {e : Int} (h : k.format.read b = .number s m e) : -(unitOf k : Int) ≤ e := by
  have e4 := least_eq k
  unfold Ieee.Format.read at h
  dsimp only at h
  split at h
  · simp only [Ieee.Datum.number.injEq] at h; omega
  · split at h
    · simp only [Ieee.Datum.number.injEq] at h; omega
    · split at h <;> cases h

theorem val_small {k : FloatKind} {b : Nat} {s : Bool} {m : Nat} {e : Int} (h : k.format.read b = .number s m e) : -(far : Int) < val k b ∧ val k b < far := by
  have hv : val k b = Ieee.signed s m (e + unitOf k).toNat := by simp only [val, h]
  have hp := read_place h
  have key : m * 2 ^ (e + unitOf k).toNat < far := by
    unfold far
    by_cases m0 : m = 0
    · subst m0; rw [Nat.zero_mul]; exact Nat.two_pow_pos _
    · have hm : e + m.log2 + 1 ≤ 1024 := by
        cases k
        · have := lt32 h m0; omega
        · exact lt64 h m0
      have hu : unitOf k ≤ 1074 := by cases k <;> decide
      calc m * 2 ^ (e + unitOf k).toNat < 2 ^ (m.log2 + 1) * 2 ^ (e + unitOf k).toNat := Nat.mul_lt_mul_of_pos_right Nat.lt_log2_self (Nat.two_pow_pos _)
        _ = 2 ^ (m.log2 + 1 + (e + unitOf k).toNat) := by rw [← Nat.pow_add]
        _ ≤ 2 ^ farE := Nat.pow_le_pow_right (by omega) (by have := farE_ge; omega)
  have hc : ((m * 2 ^ (e + unitOf k).toNat : Nat) : Int) < (far : Int) := Int.ofNat_lt.2 key
  have hn : (0 : Int) ≤ ((m * 2 ^ (e + unitOf k).toNat : Nat) : Int) := Int.natCast_nonneg _
  have hv2 : val k b = if s then -((m * 2 ^ (e + unitOf k).toNat : Nat) : Int) else ((m * 2 ^ (e + unitOf k).toNat : Nat) : Int) := by
    rw [hv]; unfold Ieee.signed; rw [Nat.shiftLeft_eq]
  generalize ((m * 2 ^ (e + unitOf k).toNat : Nat) : Int) = v at *
  generalize (far : Int) = big at *
  rw [hv2]
  cases s <;> simp <;> omega

theorem compare_mul (a b c : Int) (hc : 0 < c) : compare (a * c) (b * c) = compare a b := by
  rcases Int.lt_trichotomy a b with h | h | h
  · rw [Int.compare_eq_lt.2 h, Int.compare_eq_lt.2 (Int.mul_lt_mul_of_pos_right h hc)]
  · subst h; rw [Int.compare_eq_eq.2 rfl, Int.compare_eq_eq.2 rfl]
  · rw [Int.compare_eq_gt.2 h, Int.compare_eq_gt.2 (Int.mul_lt_mul_of_pos_right h hc)]

theorem order_val {k : FloatKind} {x y : Nat} (hx : isNan k x = false) (hy : isNan k y = false) : k.format.order x y = some (compare (val k x) (val k y)) := by
  have big : (0 : Int) < (far : Int) := Int.ofNat_lt.2 far_pos
  unfold isNan at hx hy
  unfold Ieee.Format.order
  cases hrx : k.format.read x with
  | nan s t => rw [hrx] at hx; simp [Ieee.Datum.isNaN] at hx
  | infinity s =>
    have vx : val k x = if s then -(far : Int) else far := by simp only [val, hrx]
    cases hry : k.format.read y with
    | nan s t => rw [hry] at hy; simp [Ieee.Datum.isNaN] at hy
    | infinity t =>
      have vy : val k y = if t then -(far : Int) else far := by simp only [val, hry]
      rw [vx, vy]
      generalize (far : Int) = b at *
      simp only [Ieee.Datum.order, Option.some.injEq]
      cases s <;> cases t <;> simp only [if_true, Bool.false_eq_true, if_false]
      · rw [Int.compare_eq_eq.2 rfl]; rfl
      · rw [Int.compare_eq_gt.2 (by omega)]; rfl
      · rw [Int.compare_eq_lt.2 (by omega)]; rfl
      · rw [Int.compare_eq_eq.2 rfl]; rfl
    | number t n j =>
      have hv := val_small hry
      rw [vx]
      generalize (far : Int) = b at *
      simp only [Ieee.Datum.order, Option.some.injEq]
      cases s <;> simp
      · exact (Int.compare_eq_gt.2 (by omega)).symm
      · exact (Int.compare_eq_lt.2 (by omega)).symm
  | number s m i =>
    cases hry : k.format.read y with
    | nan s t => rw [hry] at hy; simp [Ieee.Datum.isNaN] at hy
    | infinity t =>
      have vy : val k y = if t then -(far : Int) else far := by simp only [val, hry]
      have hv := val_small hrx
      rw [vy]
      generalize (far : Int) = b at *
      simp only [Ieee.Datum.order, Option.some.injEq]
      cases t <;> simp
      · exact (Int.compare_eq_lt.2 (by omega)).symm
      · exact (Int.compare_eq_gt.2 (by omega)).symm
    | number t n j =>
      have pi := read_place hrx
      have pj := read_place hry
      simp only [Ieee.Datum.order, val, hrx, hry, Option.some.injEq]
      have e1 : Ieee.signed s m (i + unitOf k).toNat = Ieee.signed s m (i - min i j).toNat * 2 ^ (min i j + unitOf k).toNat := by
        rw [signed_eq, signed_eq, Int.mul_assoc, ← Int.pow_add]
        congr 2; omega
      have e2 : Ieee.signed t n (j + unitOf k).toNat = Ieee.signed t n (j - min i j).toNat * 2 ^ (min i j + unitOf k).toNat := by
        rw [signed_eq, signed_eq, Int.mul_assoc, ← Int.pow_add]
        congr 2; omega
      rw [e1, e2, compare_mul _ _ _ (Int.pow_pos (by omega))]

/-- Cut towards zero, a number is its units divided by those of 1. -/
theorem toInt_val {k : FloatKind} {b : Nat} {s : Bool} {m : Nat} {e : Int} (h : k.format.read b = .number s m e) :
    (k.decode b).toInt .zero = some ((val k b).tdiv (2 ^ unitOf k)) := by
  have hp := read_place h
  simp only [FloatKind.decode, h, val, Ieee.Datum.toInt, Ieee.Datum.integral, Option.some.injEq]
  have hcut : ∀ n d, Ieee.Toward.zero.cut s n d = n / 2 ^ d := by
    intro n d
    simp only [Ieee.Toward.cut, Bool.toNat_false, Nat.add_zero, Nat.one_shiftLeft]
    by_cases hd : d ≤ n.log2 + 2
    · rw [Nat.min_eq_left hd]
    · rw [Nat.min_eq_right (by omega)]
      have h1 : n < 2 ^ (n.log2 + 1) := Nat.lt_log2_self
      have h2 : 2 ^ (n.log2 + 1) ≤ 2 ^ (n.log2 + 2) := Nat.pow_le_pow_right (by omega) (by omega)
      have h3 : 2 ^ (n.log2 + 1) ≤ 2 ^ d := Nat.pow_le_pow_right (by omega) (by omega)
      rw [Nat.div_eq_of_lt (by omega), Nat.div_eq_of_lt (by omega)]
  rw [hcut]
  have e1 : m <<< e.toNat / 2 ^ (-e).toNat = m * 2 ^ (e + unitOf k).toNat / 2 ^ unitOf k := by
    rw [Nat.shiftLeft_eq]
    by_cases he : 0 ≤ e
    · rw [show (-e).toNat = 0 by omega, show (e + unitOf k).toNat = e.toNat + unitOf k by omega, Nat.pow_add, ← Nat.mul_assoc, Nat.mul_div_cancel _ (Nat.two_pow_pos _)]
      simp
    · rw [show e.toNat = 0 by omega]
      have : unitOf k = (-e).toNat + (e + unitOf k).toNat := by omega
      generalize hu : (e + unitOf k).toNat = u at *
      rw [this, Nat.pow_add, Nat.mul_div_mul_right _ _ (Nat.two_pow_pos _)]
      simp
  have e2 : ∀ X : Nat, Ieee.signed s X 0 = if s then -(X : Int) else (X : Int) := by intro X; unfold Ieee.signed; simp
  rw [e1, e2]
  have e3 : Ieee.signed s m (e + unitOf k).toNat = if s then -((m * 2 ^ (e + unitOf k).toNat : Nat) : Int) else ((m * 2 ^ (e + unitOf k).toNat : Nat) : Int) := by
    unfold Ieee.signed; rw [Nat.shiftLeft_eq]
  rw [e3]
  generalize m * 2 ^ (e + unitOf k).toNat = X
  have e4 : ((2 : Int) ^ unitOf k) = ((2 ^ unitOf k : Nat) : Int) := (Int.natCast_pow 2 _).symm
  rw [e4]
  cases s
  · simp only [Bool.false_eq_true, if_false]
    exact (Int.ofNat_tdiv _ _).symm
  · simp only [if_true, Int.neg_tdiv]
    rw [← Int.ofNat_tdiv]
end Go.Fk

/- Floats made whole (math.RoundToEven and its kin), up to the bits of NaN; that rounding gives no NaN; floats to integers by value. Nothing here names a program. -/
namespace Go.Fk
open Go Go.RowKit

theorem infRung_word (k : FloatKind) (s : Bool) {r : Nat} (h : r ≤ k.format.infRung) : isNan k (k.format.word s r) = false := by
  have hs : k.format.infRung < k.format.signWeight := Ieee.Format.infRung_lt _
  cases k
  · have e2 : Ieee.single.infRung = 2139095040 := by decide
    have e1 : Ieee.single.signWeight = 2147483648 := by decide
    have hw := word_mod Ieee.single s (r := r) (Nat.lt_of_le_of_lt h hs)
    rw [e1] at hw
    have hw' : FloatKind.f32.format.word s r % 2147483648 = r := hw
    have h' : r ≤ 2139095040 := Nat.le_trans h (Nat.le_of_eq e2)
    rw [isNan_f32, decide_eq_false_iff_not]; omega
  · have e2 : Ieee.double.infRung = 9218868437227405312 := by decide
    have e1 : Ieee.double.signWeight = 9223372036854775808 := by decide
    have hw := word_mod Ieee.double s (r := r) (Nat.lt_of_le_of_lt h hs)
    rw [e1] at hw
    have hw' : FloatKind.f64.format.word s r % 9223372036854775808 = r := hw
    have h' : r ≤ 9218868437227405312 := Nat.le_trans h (Nat.le_of_eq e2)
    rw [isNan_f64, decide_eq_false_iff_not]; omega
theorem isNan_nearest (k : FloatKind) (s : Bool) (m : Nat) (e : Int) : isNan k (k.format.nearest s m e) = false := by
  unfold Ieee.Format.nearest
  split
  · exact infRung_word k s (Nat.zero_le _)
  · exact infRung_word k s (Nat.min_le_right _ _)
theorem isNan_encode (k : FloatKind) {d : Ieee.Datum} (h : d.isNaN = false) : isNan k (k.encode d) = false := by
  cases d with
  | number s m e => exact isNan_nearest k s m e
  | infinity s => exact infRung_word k s (Nat.le_refl _)
  | nan s t => simp [Ieee.Datum.isNaN] at h

theorem isNan_widen (b : Nat) : isNan .f64 (widen b) = isNan .f32 b := by
  cases hr : FloatKind.f32.format.read b with
  | nan s t => simp only [widen, hr, isNan_qnan]; simp [isNan, hr, Ieee.Datum.isNaN]
  | infinity s => simp only [widen, hr]; rw [isNan_encode _ rfl]; simp [isNan, hr, Ieee.Datum.isNaN]
  | number s m e => simp only [widen, hr]; rw [isNan_encode _ rfl]; simp [isNan, hr, Ieee.Datum.isNaN]

/-- A number made whole, up to the bits of NaN. -/
def integ (way : Ieee.Toward) (b : Nat) : Nat := match FloatKind.f64.decode b with
  | .nan _ _ => qnan .f64
  | d => FloatKind.f64.encode (d.integral way)
theorem integ_can (way : Ieee.Toward) (b : Nat) : integ way (can .f64 b) = integ way b := by
  cases h : isNan .f64 b
  · rw [can_of_not h]
  · rw [can_of_nan h]
    obtain ⟨s, t, hr⟩ := read_nan h
    obtain ⟨s', t', hr'⟩ := read_nan (isNan_qnan .f64)
    simp only [integ, FloatKind.decode, hr, hr']
theorem isNan_integ (way : Ieee.Toward) (b : Nat) : isNan .f64 (integ way b) = isNan .f64 b := by
  cases hr : FloatKind.f64.format.read b with
  | nan s t => simp only [integ, FloatKind.decode, hr, isNan_qnan]; simp [isNan, hr, Ieee.Datum.isNaN]
  | infinity s => simp only [integ, FloatKind.decode, hr]; rw [isNan_encode _ rfl]; simp [isNan, hr, Ieee.Datum.isNaN]
  | number s m e => simp only [integ, FloatKind.decode, hr]; rw [isNan_encode _ rfl]; simp [isNan, hr, Ieee.Datum.isNaN]

/-- A quiet NaN is one. -/
theorem isNan_quiet (s : Bool) (b t : Nat) (h : FloatKind.f64.format.read b = .nan s t) :
    isNan .f64 (FloatKind.f64.encode (.nan s (FloatKind.f64.format.quiet t))) = true := by
  have e1 : Ieee.double.signWeight = 9223372036854775808 := by decide
  have e2 : Ieee.double.infRung = 9218868437227405312 := by decide
  have e3 : Ieee.double.binade = 4503599627370496 := by decide
  have hq : (t ||| 2251799813685248) % 4503599627370496 ≠ 0 := by
    intro h0
    have h1 : ((t ||| 2251799813685248) % 2 ^ 52).testBit 51 = false := by rw [show (2 : Nat) ^ 52 = 4503599627370496 by decide, h0]; simp
    rw [Nat.testBit_mod_two_pow, Nat.testBit_or, show (2251799813685248 : Nat) = 2 ^ 51 by decide, Nat.testBit_two_pow_self] at h1
    simp at h1
  rw [isNan_f64]
  simp only [FloatKind.encode, Ieee.Format.write, FloatKind.format, Ieee.Format.quiet, e2, e3]
  rw [show (2 : Nat) ^ (Ieee.double.fractionBits - 1) = 2251799813685248 by decide]
  have hlt : (t ||| 2251799813685248) % 4503599627370496 < 4503599627370496 := Nat.mod_lt _ (by omega)
  generalize (t ||| 2251799813685248) % 4503599627370496 = q at *
  have hw := word_mod Ieee.double s (r := 9218868437227405312 + q) (by rw [e1]; omega)
  rw [e1] at hw
  rw [hw, decide_eq_true_iff]
  omega

theorem toIntegral_eq (name : String) (way : Ieee.Toward) (x : Nat) : Extern.MathFloor.toIntegral name way #[.float .f64 x] = ((match FloatKind.f64.decode x with
    | .nan s t =>
      if FloatKind.f64.format.quiet t = t then pure (Value.float .f64 x) else do
      let kept ← choose (.extern "math.Floor,Ceil,Trunc,RoundToEven.signallingNaN kept" 2)
      pure (Value.float .f64 (if kept == 1 then x else FloatKind.f64.encode (.nan s (FloatKind.f64.format.quiet t))))
    | d => pure (Value.float .f64 (FloatKind.f64.encode (d.integral way)))) : Sem Value) := rfl

theorem run_integral {P : Program} (name : String) (way : Ieee.Toward) (w : World) (b : Nat) (hb : fits .f64 b) :
    ∃ r n, (Extern.MathFloor.toIntegral name way #[.float .f64 b]).run P w = .ok (.float .f64 r) (w.drewN n) ∧ can .f64 r = can .f64 (integ way b) ∧ fits .f64 r := by
  cases hr : FloatKind.f64.format.read b with
  | nan s t =>
    have hn : isNan .f64 b = true := by simp [isNan, hr, Ieee.Datum.isNaN]
    have hi : integ way b = qnan .f64 := by simp only [integ, FloatKind.decode, hr]
    have hd : FloatKind.f64.decode b = .nan s t := hr
    by_cases hq : FloatKind.f64.format.quiet t = t
    · refine ⟨b, 0, ?_, by rw [hi, can_qnan, can_of_nan hn], hb⟩
      simp [toIntegral_eq, hd, hq]; rfl
    · by_cases hk : ((Question.extern "math.Floor,Ceil,Trunc,RoundToEven.signallingNaN kept" 2).cut (w.tape w.drawn (.extern "math.Floor,Ceil,Trunc,RoundToEven.signallingNaN kept" 2)) == 1) = true
      · refine ⟨b, 1, ?_, by rw [hi, can_qnan, can_of_nan hn], hb⟩
        simp only [beq_iff_eq] at hk
        simp [toIntegral_eq, hd, hq, Question.forced, hk]; rfl
      · refine ⟨FloatKind.f64.encode (.nan s (FloatKind.f64.format.quiet t)), 1, ?_, by rw [hi, can_qnan, can_of_nan (isNan_quiet s b t hr)], encode_wf _ _⟩
        simp only [beq_iff_eq] at hk
        simp [toIntegral_eq, hd, hq, Question.forced, hk]; rfl
  | infinity s =>
    have hd : FloatKind.f64.decode b = .infinity s := hr
    refine ⟨FloatKind.f64.encode (Ieee.Datum.integral way (.infinity s)), 0, ?_, by simp only [integ, hd], encode_wf _ _⟩
    simp [toIntegral_eq, hd]; rfl
  | number s m e =>
    have hd : FloatKind.f64.decode b = .number s m e := hr
    refine ⟨FloatKind.f64.encode (Ieee.Datum.integral way (.number s m e)), 0, ?_, by simp only [integ, hd], encode_wf _ _⟩
    simp [toIntegral_eq, hd]; rfl

/-- THE WALK's LAW for a call of a function without a body that gives a float. -/
theorem wpList_extern {P : Program} {w : World} {ops : Array Oper} {rest : List Oper} {o : Oper} {a : Act} {Q : Exit → Act → World → Prop}
    (hg : o.guard = none) {f : FuncId} {x : Operand} {ts : Array TypeId} (hop : o.op = Op.call { callee := Callee.value (Operand.func f), args := #[x], argTypes := ts })
    {k' : FloatKind} {q : Nat} (hx : a.eval x = .float k' q) (Res : Nat → Prop) {k : FloatKind}
    (hrun : ∀ w, ∃ r n, (callFunc f #[.float k' q]).run P w = .ok (.value (.float k r)) (w.drewN n) ∧ Res r)
    (hK : ∀ r n, Hid (Res r) → wpList P ops Q rest (a.put o.dst (.float k r)) (w.drewN n)) : wpList P ops Q (o :: rest) a w := by
  refine wpList_plain hg fun K hK' => ?_
  obtain ⟨r, n, hr, hres⟩ := hrun w
  unfold Oper.wp
  have hf : a.eval (Operand.func f) = .func (.func f) #[] #[] := rfl
  simp [execOp, hop, hx, hf, resolve, invoke, Deferred.ofValue, hr, Result.andThen]
  exact hK' _ _ (hK r n hres)

/-- A wide float to an integer of 16 bits. -/
theorem floatToInt_val {b : Nat} {k : IntKind} (hn : isNan .f64 b = false) (hlo : k.min * 2 ^ unitOf .f64 ≤ val .f64 b) (hhi : val .f64 b ≤ k.max * 2 ^ unitOf .f64)
    (hsmall : k.max * 2 ^ unitOf .f64 < far) (hsmall' : -(far : Int) < k.min * 2 ^ unitOf .f64) :
    floatToIntVal .f64 b k = some ((val .f64 b).tdiv (2 ^ unitOf .f64)) := by
  cases hr : FloatKind.f64.format.read b with
  | nan s t => simp [isNan, hr, Ieee.Datum.isNaN] at hn
  | infinity s =>
    have hv : val .f64 b = if s then -(far : Int) else far := by simp only [val, hr]
    rw [hv] at hlo hhi
    cases s <;> simp at hlo hhi <;> omega
  | number s m e =>
    have ht := toInt_val hr
    unfold floatToIntVal
    rw [ht]
    have hU : (0 : Int) < 2 ^ unitOf .f64 := Int.pow_pos (by omega)
    generalize (2 : Int) ^ unitOf .f64 = U at *
    generalize val .f64 b = v at *
    have h1 : k.min ≤ v.tdiv U := by
      have : k.min = (k.min * U).tdiv U := (Int.mul_tdiv_cancel _ (by omega)).symm
      rw [this]; exact Int.tdiv_le_tdiv hU hlo
    have h2 : v.tdiv U ≤ k.max := by
      have : k.max = (k.max * U).tdiv U := (Int.mul_tdiv_cancel _ (by omega)).symm
      rw [this]; exact Int.tdiv_le_tdiv hU hhi
    simp only [h1, h2, and_self, if_true]
end Go.Fk

/- Rings: what the laws do with them, marks and all. -/
namespace Go.Fk
open Go Go.RowKit
theorem isNan_int (z : Int) : isNan .f32 (floatOfInt .f32 z) = false := by
  unfold floatOfInt
  exact isNan_encode .f32 rfl
theorem same_int (z : Int) : (FloatKind.f32.format.order (floatOfInt .f32 z) (floatOfInt .f32 z) != some .eq) = false := by
  rw [order_ne, isNan_int]
/-- What a mark leaves. -/
def markW (m : Int) (j : Nat) : Nat := floatOfInt .f32 (m + j)
end Go.Fk
namespace Go.Proofs.Ytmacednkpjfokaa
open Go.RowKit Go.Fk
set_option maxHeartbeats 1000000 in
theorem markS (b n : Nat) (t : TypeId) (x : Nat → Nat) (w : World) (hn : n ≤ 1048576) (hr : Row w b t (ftab .f32 x n)) :
    Calls Try.prog 32 #[.slice (some ⟨b, 0, none⟩) n n, .int .i64 1] w fun e w' => e = .returned (.int .i64 (1 + n)) ∧ Row w' b t (ftab .f32 (markW 1) n) ∧ Upd b w w' := by
  have HR := hid hr; clear hr
  go_enter Try.func32, Try.ntmps32
  go_wp2
  go_loopw [1, 5] (fun m i wr => ∃ k : Nat, k ≤ n ∧ i = .int .i64 k ∧ m = .int .i64 (1 + k) ∧ Hid (Row wr b t (ftab .f32 (fun j => if j < k then markW 1 j else x j) n)) ∧ Hid (Upd b w wr)) (fun _ i _ => n - (intOf i).toNat)
  case atStart => exact ⟨0, by omega, rfl, rfl, HR, Upd.refl _ _⟩
  case round =>
    obtain ⟨k, hk, rfl, rfl, HO, HU⟩ := hrel
    by_cases hlt : k < n
    · have c2 := HO.out.ftab hlt
      have f2 := HO.out.frozen k
      go_wp2
      go_roundw
      case rel =>
        refine ⟨k + 1, by omega, by go_num, by go_num, ?_, Upd.setCell HU.out rfl _⟩
        have h := HO.out.set k (.float .f32 (markW 1 k))
        rw [set_ftab] at h
        rw [show (fun j => if j < k + 1 then markW 1 j else x j) = (fun j => if j = k then markW 1 k else if j < k then markW 1 j else x j) from ?_]
        · exact h
        · funext j
          by_cases e : j = k
          · subst e; simp
          · simp [e, show (j < k + 1) = (j < k) by simp; omega]
      case measure => simp [intOf]; omega
    · obtain rfl : k = n := by omega
      have hO := HO.out
      rw [show ftab .f32 (fun j => if j < k then markW 1 j else x j) k = ftab .f32 (markW 1) k from ftab_congr (fun j hj => if_pos hj)] at hO
      have HO := hid hO
      clear hO
      go_wp2
      go_ret
      exact ⟨rfl, HO.out, HU.out⟩
set_option maxHeartbeats 1000000 in
theorem heldS (b n : Nat) (t : TypeId) (w : World) (hn : n ≤ 1048576) (hr : Row w b t (ftab .f32 (markW 1) n)) :
    Calls Try.prog 38 #[.slice (some ⟨b, 0, none⟩) n n, .int .i64 1] w fun e w' => e = .returned (.int .i64 (1 + n)) ∧ w = w' := by
  have HR := hid hr; clear hr
  go_enter Try.func38, Try.ntmps38
  go_wp2
  go_loop [1, 5] (fun m i => ∃ k : Nat, k ≤ n ∧ i = .int .i64 k ∧ m = .int .i64 (1 + k)) (fun _ i => n - (intOf i).toNat)
  case atStart => exact ⟨0, by omega, rfl, rfl⟩
  case round =>
    obtain ⟨k, hk, rfl, rfl⟩ := hrel
    by_cases hlt : k < n
    · have c2 : w.cell? ⟨b, k, none⟩ = some (.float .f32 (floatOfInt .f32 (1 + k))) := HR.out.ftab hlt
      have e2 := same_int (1 + k)
      go_wp2
      go_round
      case rel => exact ⟨k + 1, by omega, by go_num, by go_num⟩
      case measure => simp [intOf]; omega
    · obtain rfl : k = n := by omega
      go_wp2
      go_ret
      exact ⟨rfl, rfl⟩
theorem markRing_any (b n : Nat) (t : TypeId) (x : Nat → Nat) (k : Int) (w : World) (hn : n ≤ 1048576) (hr : Row w b t (ftab .f32 x n)) :
    Calls Try.prog 72 #[.agg #[.slice (some ⟨b, 0, none⟩) n n, .int .i64 k], .int .i64 1] w fun e w' => e = .returned (.int .i64 (1 + n)) ∧ Row w' b t (ftab .f32 (markW 1) n) ∧ Upd b w w' := by
  have HR := hid hr; clear hr
  go_enter Try.func72, Try.ntmps72
  go_wp2_with (go_at_call 32; ((with_reducible refine (markS b n t x _ hn (HR.out.le (le_alloc _ _))).mono ?_); rintro e w2 ⟨rfl, hR, hU⟩; have HR2 := hid hR; have HU := hid (Upd.trans (Upd.of_le (le_alloc _ _)) hU); clear hR hU))
  go_ret
  exact ⟨rfl, HR2.out, HU.out⟩
theorem heldRing_any (b n : Nat) (t : TypeId) (k : Int) (w : World) (hn : n ≤ 1048576) (hr : Row w b t (ftab .f32 (markW 1) n)) :
    Calls Try.prog 73 #[.agg #[.slice (some ⟨b, 0, none⟩) n n, .int .i64 k], .int .i64 1] w fun e w' => e = .returned (.int .i64 (1 + n)) ∧ le w w' := by
  have HR := hid hr; clear hr
  have HL := hid (le_alloc w (.cells #[.slice (some ⟨b, 0, none⟩) n n, .int .i64 k] 46))
  go_enter Try.func73, Try.ntmps73
  go_wp2_with (go_at_call 38; ((with_reducible refine (heldS b n t _ hn (HR.out.le (le_alloc _ _))).mono ?_); rintro e w2 ⟨rfl, rfl⟩))
  go_ret
  exact ⟨rfl, HL.out⟩
theorem eqRing_yes (b b' n : Nat) (t t' : TypeId) (x y : Nat → Nat) (k : Int) (w : World) (hn : n ≤ 1048576) (hr : Row w b t (ftab .f32 x n)) (hr' : Row w b' t' (ftab .f32 y n)) (h : ∀ j, j < n → can .f32 (x j) = can .f32 (y j)) :
    Calls Try.prog 71 #[.agg #[.slice (some ⟨b, 0, none⟩) n n, .int .i64 k], .agg #[.slice (some ⟨b', 0, none⟩) n n, .int .i64 k]] w fun e w' => e = .returned (.bool true) ∧ le w w' := by
  have HR := hid hr; have HR' := hid hr'; have H := hid h; clear hr hr' h
  have F := ((Frm.nil w).box 46 #[.slice (some ⟨b, 0, none⟩) n n, .int .i64 k]).box 46 #[.slice (some ⟨b', 0, none⟩) n n, .int .i64 k]
  have HL := hid F.below
  have HX := hid (fun (i : Nat) (hi : i < n) => (((HR.out.alloc (.cells #[.slice (some ⟨b, 0, none⟩) n n, .int .i64 k] 46)).alloc (.cells #[.slice (some ⟨b', 0, none⟩) n n, .int .i64 k] 46)).ftab hi))
  have HY := hid (fun (i : Nat) (hi : i < n) => (((HR'.out.alloc (.cells #[.slice (some ⟨b, 0, none⟩) n n, .int .i64 k] 46)).alloc (.cells #[.slice (some ⟨b', 0, none⟩) n n, .int .i64 k] 46)).ftab hi))
  clear F
  go_enter Try.func71, Try.ntmps71
  go_wp2_with (go_at_call 31; ((with_reducible refine (eqS_yes b 0 n b' 0 n x y n _ hn (Nat.le_refl _) (Nat.le_refl _) (fun i hi => by rw [Nat.zero_add]; exact HX.out i hi) (fun i hi => by rw [Nat.zero_add]; exact HY.out i hi) H.out).mono ?_); rintro e w2 ⟨rfl, m, rfl⟩))
  go_ret
  exact ⟨rfl, le_trans HL.out (le_drewN _ _)⟩
theorem markS_nil (w : World) : Calls Try.prog 32 #[.slice none 0 0, .int .i64 1] w fun e w' => e = .returned (.int .i64 1) ∧ w = w' := by
  go_enter Try.func32, Try.ntmps32
  go_wp2
  go_loop [1, 5] (fun m i => m = .int .i64 1 ∧ i = .int .i64 0) (fun _ _ => 0)
  case atStart => exact ⟨rfl, rfl⟩
  case round =>
    obtain ⟨rfl, rfl⟩ := hrel
    go_wp2
    go_ret
    exact ⟨rfl, rfl⟩
theorem heldS_nil (w : World) : Calls Try.prog 38 #[.slice none 0 0, .int .i64 1] w fun e w' => e = .returned (.int .i64 1) ∧ w = w' := by
  go_enter Try.func38, Try.ntmps38
  go_wp2
  go_loop [1, 5] (fun m i => m = .int .i64 1 ∧ i = .int .i64 0) (fun _ _ => 0)
  case atStart => exact ⟨rfl, rfl⟩
  case round =>
    obtain ⟨rfl, rfl⟩ := hrel
    go_wp2
    go_ret
    exact ⟨rfl, rfl⟩
theorem eqS_nil (w : World) : Calls Try.prog 31 #[.slice none 0 0, .slice none 0 0] w fun e w' => e = .returned (.bool true) ∧ w = w' := by
  go_enter Try.func31, Try.ntmps31
  go_wp2
  go_loop [5] (fun i => i = .int .i64 0) (fun _ => 0)
  case atStart => rfl
  case round =>
    obtain rfl := hrel
    go_wp2
    go_ret
    exact ⟨rfl, rfl⟩
theorem markRing_nil (k : Int) (w : World) : Calls Try.prog 72 #[.agg #[.slice none 0 0, .int .i64 k], .int .i64 1] w fun e w' => e = .returned (.int .i64 1) ∧ le w w' := by
  have HL := hid (le_alloc w (.cells #[.slice none 0 0, .int .i64 k] 46))
  go_enter Try.func72, Try.ntmps72
  go_wp2_with (go_at_call 32; ((with_reducible refine (markS_nil _).mono ?_); rintro e w2 ⟨rfl, rfl⟩))
  go_ret
  exact ⟨rfl, HL.out⟩
theorem heldRing_nil (k : Int) (w : World) : Calls Try.prog 73 #[.agg #[.slice none 0 0, .int .i64 k], .int .i64 1] w fun e w' => e = .returned (.int .i64 1) ∧ le w w' := by
  have HL := hid (le_alloc w (.cells #[.slice none 0 0, .int .i64 k] 46))
  go_enter Try.func73, Try.ntmps73
  go_wp2_with (go_at_call 38; ((with_reducible refine (heldS_nil _).mono ?_); rintro e w2 ⟨rfl, rfl⟩))
  go_ret
  exact ⟨rfl, HL.out⟩
theorem eqRing_nil (k : Int) (w : World) : Calls Try.prog 71 #[.agg #[.slice none 0 0, .int .i64 k], .agg #[.slice none 0 0, .int .i64 k]] w fun e w' => e = .returned (.bool true) ∧ le w w' := by
  have F := ((Frm.nil w).box 46 #[.slice none 0 0, .int .i64 k]).box 46 #[.slice none 0 0, .int .i64 k]
  have HL := hid F.below
  clear F
  go_enter Try.func71, Try.ntmps71
  go_wp2_with (go_at_call 31; ((with_reducible refine (eqS_nil _).mono ?_); rintro e w2 ⟨rfl, rfl⟩))
  go_ret
  exact ⟨rfl, HL.out⟩
end Go.Proofs.Ytmacednkpjfokaa

/- Slices of floats in the laws' helpers: 'szFloat32S', 'toFloat32S', 'eqFloat32S', 'markFloat32S', 'heldFloat32S', over facts of memory. -/
namespace Go.Fk
open Go Go.RowKit
theorem can_int (z : Int) : can .f32 (floatOfInt .f32 z) = floatOfInt .f32 z := can_of_not (isNan_int z)
theorem RdS.slIn {w : World} {B : Nat} {v : Value} {x : Nat → Nat} {n : Nat} (h : RdS w B v x n) : ∃ y, SlIn w v y n ∧ ∀ i, i < n → can .f32 (y i) = x i := by
  rcases h with ⟨rfl, rfl⟩ | ⟨a, cap, rfl, h2, h3, h4⟩
  · exact ⟨fun _ => 0, .inl ⟨rfl, rfl⟩, fun i hi => absurd hi (by omega)⟩
  · have : ∀ i, ∃ y, i < n → w.cell? (a.add i) = some (.float .f32 y) ∧ fits .f32 y ∧ can .f32 y = x i := fun i => by
      by_cases hi : i < n
      · obtain ⟨_, y, e⟩ := h4 i hi; exact ⟨y, fun _ => e⟩
      · exact ⟨0, fun h => absurd h hi⟩
    obtain ⟨y, hy⟩ := Classical.skolem.1 this
    exact ⟨y, .inr ⟨a, cap, rfl, h2, h3, fun i hi => ⟨(hy i hi).1, (hy i hi).2.1⟩⟩, fun i hi => (hy i hi).2.2⟩
theorem same_of_can {y : Nat} {z : Int} (h : can .f32 y = floatOfInt .f32 z) : y = floatOfInt .f32 z :=
  (eq_of_can ((can_int z).trans h.symm) (isNan_int z)).symm
end Go.Fk
namespace Go.Proofs.Ytmacednkpjfokaa
open Go.RowKit Go.Fk
theorem toR (B : Nat) (v : Value) (x : Nat → Nat) (n : Nat) (w : World) (hv : RdS w B v x n) (hn : n ≤ 1048576) :
    Calls Try.prog 29 #[v] w fun e w' => ∃ s, e = .returned s ∧ OwnS w' w.heap.size w'.heap.size s x n ∧ le w w' := by
  obtain ⟨y, hy, hc⟩ := hv.slIn
  have hf : ∀ i, i < n → fits .f32 (y i) := by
    rcases hy with ⟨_, rfl⟩ | ⟨a, cap, _, _, _, h4⟩
    · intro i hi; omega
    · intro i hi; exact (h4 i hi).2
  refine (toS v y n w hy hn).mono ?_
  rintro e w' ⟨rfl, hr, hl⟩
  exact ⟨_, rfl, .inr ⟨_, 0, n, _, rfl, Nat.le_refl _, by unfold maxLen; omega, Nat.le_refl _, hr.lt, hr, fun i hi => ⟨y i, by rw [Nat.zero_add]; exact get_ftab _ _ _ _ hi, hf i hi, hc i hi⟩⟩, hl⟩
set_option maxHeartbeats 1000000 in
theorem eqR (B B' : Nat) (s s' : Value) (x : Nat → Nat) (n : Nat) (w : World) (hn : n ≤ 1048576) (hs : RdS w B s x n) (hs' : RdS w B' s' x n) :
    Calls Try.prog 31 #[s, s'] w fun e w' => e = .returned (.bool true) ∧ ∃ m, w' = w.drewN m := by
  by_cases h0 : n = 0
  · subst h0
    rcases hs with ⟨rfl, _⟩ | ⟨a, cap, rfl, hc, hg, hx⟩ <;> rcases hs' with ⟨rfl, _⟩ | ⟨a', cap', rfl, hc', hg', hx'⟩
    all_goals
      try clear hx
      try clear hx'
      go_enter Try.func31, Try.ntmps31
      go_wp2
      go_loop [5] (fun i => i = .int .i64 0) (fun _ => 0)
      case atStart => rfl
      case round =>
        obtain rfl := hrel
        go_wp2
        go_ret
        exact ⟨rfl, 0, rfl⟩
  rcases hs with ⟨_, h⟩ | ⟨a, cap, rfl, hc, hg, hx⟩
  · exact absurd h h0
  rcases hs' with ⟨_, h⟩ | ⟨a', cap', rfl, hc', hg', hx'⟩
  · exact absurd h h0
  have HX := hid hx; have HY := hid hx'; clear hx hx' h0
  go_enter Try.func31, Try.ntmps31
  go_wp2
  go_loopw [5] (fun i wr => ∃ k : Nat, k ≤ n ∧ i = .int .i64 k ∧ ∃ m, wr = w.drewN m) (fun i _ => n - (intOf i).toNat)
  case atStart => exact ⟨0, by omega, rfl, 0, rfl⟩
  case round =>
    obtain ⟨k, hk, rfl, m, rfl⟩ := hrel
    by_cases hlt : k < n
    · obtain ⟨_, p, c1, _, e1⟩ := HX.out k hlt
      obtain ⟨_, q, c2, _, e2⟩ := HY.out k hlt
      have hxy := hid (e1.trans e2.symm)
      clear e1 e2
      go_wp2_with fail
      refine wp_region_loose (fun _ _ v => v = .bool true) (by kernel_rfl) (by kernel_rfl) ?_
      repeat (first | (with_reducible refine wpLoose_widen rfl rfl rfl Try.underlying22 Try.underlying63 ?_; intro r hr hf; simp only [Act.put, List.setIfInBounds_toArray, List.set_cons_succ, List.set_cons_zero]) | (refine wpLoose_quiet rfl ?_; go_big_quiet_step (fail); refine wpQuiet_nil ?_))
      refine wpLoose_any rfl (· = .bool true) (fun m0 => ?_) ?_
      · go_simp
        have hr1 := ‹Hid (can .f64 _ = can .f64 (widen p))›
        refine (sameFloat_yes _ _ _ (hr1.out.trans ((congrArg (can .f64) (widen_congr hxy.out)).trans hr.out.symm))).mono ?_
        rintro e w2 ⟨rfl, m2, rfl⟩
        exact ⟨_, rfl, rfl, m0 + m2, by go_simp; rw [Nat.add_assoc]⟩
      · rintro v rfl
        simp only [Act.put, List.setIfInBounds_toArray, List.set_cons_succ, List.set_cons_zero]
        repeat (refine wpLoose_quiet rfl ?_; go_big_quiet_step (fail); refine wpQuiet_nil ?_)
        refine wpLoose_nil (fun m1 => ?_)
        go_wp2
        go_roundw
        case rel => exact ⟨k + 1, by omega, by go_num, _, rfl⟩
        case measure => simp [intOf]; omega
    · obtain rfl : k = n := by omega
      go_wp2
      go_ret
      exact ⟨rfl, _, rfl⟩
set_option maxHeartbeats 1000000 in
theorem markR (lo hi : Nat) (s : Value) (x : Nat → Nat) (n : Nat) (z : Int) (w : World) (hn : n ≤ 1048576) (hz : 0 ≤ z) (hz2 : z ≤ 1073741824) (hs : OwnS w lo hi s x n) :
    Calls Try.prog 32 #[s, .int .i64 z] w fun e w' => e = .returned (.int .i64 (z + n)) ∧ OwnS w' lo hi s (markW z) n ∧ Chg (rng lo hi) w w' ∧ w'.heap.size = w.heap.size := by
  rcases hs with ⟨rfl, rfl⟩ | ⟨b, o, cap, cs, rfl, hc, hg, hb, hb', hr, hx⟩
  · go_enter Try.func32, Try.ntmps32
    go_wp2
    go_loop [1, 5] (fun m i => m = .int .i64 z ∧ i = .int .i64 0) (fun _ _ => 0)
    case atStart => exact ⟨rfl, rfl⟩
    case round =>
      obtain ⟨rfl, rfl⟩ := hrel
      go_wp2
      go_ret
      exact ⟨ret_i (by simp), .inl ⟨rfl, rfl⟩, Chg.refl _ _, rfl⟩
  · have HR := hid hr; have HX := hid hx; clear hr hx
    go_enter Try.func32, Try.ntmps32
    go_wp2
    go_loopw [1, 5] (fun m i wr => ∃ k : Nat, k ≤ n ∧ i = .int .i64 k ∧ m = .int .i64 (z + k) ∧ Hid (∃ ds, Row wr b 22 ds ∧ ∀ j, j < n → ∃ y, ds[o + j]? = some (.float .f32 y) ∧ fits .f32 y ∧ (j < k → can .f32 y = markW z j)) ∧ Hid (Chg (rng lo hi) w wr ∧ wr.heap.size = w.heap.size)) (fun _ i _ => n - (intOf i).toNat)
    case atStart => exact ⟨0, by omega, rfl, by simp, ⟨cs, HR.out, fun j hj => by obtain ⟨y, e1, e2, _⟩ := HX.out j hj; exact ⟨y, e1, e2, fun h => absurd h (by omega)⟩⟩, Chg.refl _ _, rfl⟩
    case round =>
      obtain ⟨k, hk, rfl, rfl, HO, HU⟩ := hrel
      by_cases hlt : k < n
      · rename_i wr _
        obtain ⟨ds, hd, hy⟩ := HO.out
        obtain ⟨y0, c0, _⟩ := hy k hlt
        have c2 : wr.cell? ⟨b, o + k, none⟩ = some (.float .f32 y0) := (hd.cell? (o + k)).trans c0
        have f2 := hd.frozen (o + k)
        have HD := hid hd; have HY := hid hy; have HC := hid c0
        clear hd hy c0 HO
        go_wp2
        go_roundw
        case rel =>
          refine ⟨k + 1, by omega, by go_num, by go_num, ⟨_, HD.out.set (o + k) (.float .f32 (markW z k)), fun j hj => ?_⟩, Chg.setCell HU.out.1 ⟨hb, hb'⟩ _, by simpa using HU.out.2⟩
          by_cases e : j = k
          · subst e
            refine ⟨markW z j, ?_, ?_, fun _ => ?_⟩
            · rw [Array.getElem?_setIfInBounds_self_of_lt (Array.getElem?_eq_some_iff.1 HC.out).1]
            · exact floatOfInt_wf .f32 _
            · exact can_int _
          · obtain ⟨y, e1, e2, e3⟩ := HY.out j hj
            exact ⟨y, by rw [Array.getElem?_setIfInBounds_ne (by omega)]; exact e1, e2, fun h => e3 (by omega)⟩
        case measure => simp [intOf]; omega
      · obtain rfl : k = n := by omega
        go_wp2
        go_ret
        obtain ⟨ds, hd, hy⟩ := HO.out
        exact ⟨rfl, .inr ⟨b, o, cap, ds, rfl, hc, hg, hb, hb', hd, fun j hj => by obtain ⟨y, e1, e2, e3⟩ := hy j hj; exact ⟨y, e1, e2, e3 hj⟩⟩, HU.out.1, HU.out.2⟩
set_option maxHeartbeats 1000000 in
theorem heldR (B : Nat) (s : Value) (n : Nat) (z : Int) (w : World) (hn : n ≤ 1048576) (hz : 0 ≤ z) (hz2 : z ≤ 1073741824) (hs : RdS w B s (markW z) n) :
    Calls Try.prog 38 #[s, .int .i64 z] w fun e w' => e = .returned (.int .i64 (z + n)) ∧ w = w' := by
  rcases hs with ⟨rfl, rfl⟩ | ⟨a, cap, rfl, hc, hg, hx⟩
  · go_enter Try.func38, Try.ntmps38
    go_wp2
    go_loop [1, 5] (fun m i => m = .int .i64 z ∧ i = .int .i64 0) (fun _ _ => 0)
    case atStart => exact ⟨rfl, rfl⟩
    case round =>
      obtain ⟨rfl, rfl⟩ := hrel
      go_wp2
      go_ret
      exact ⟨ret_i (by simp), rfl⟩
  · have HX := hid hx; clear hx
    go_enter Try.func38, Try.ntmps38
    go_wp2
    go_loop [1, 5] (fun m i => ∃ k : Nat, k ≤ n ∧ i = .int .i64 k ∧ m = .int .i64 (z + k)) (fun _ i => n - (intOf i).toNat)
    case atStart => exact ⟨0, by omega, rfl, by simp⟩
    case round =>
      obtain ⟨k, hk, rfl, rfl⟩ := hrel
      by_cases hlt : k < n
      · obtain ⟨_, y, c2, _, hm⟩ := HX.out k hlt
        obtain rfl : y = floatOfInt .f32 (z + k) := same_of_can hm
        clear hm
        have e2 := same_int (z + k)
        go_wp2
        go_round
        case rel => exact ⟨k + 1, by omega, by go_num, by go_num⟩
        case measure => simp [intOf]; omega
      · obtain rfl : k = n := by omega
        go_wp2
        go_ret
        exact ⟨rfl, rfl⟩
end Go.Proofs.Ytmacednkpjfokaa

/- 'toRing' of the laws. -/
namespace Go.Fk
open Go Go.RowKit
theorem SlIn.le {w w' : World} {v : Value} {x : Nat → Nat} {n : Nat} (h : SlIn w v x n) (hl : Fk.le w w') : SlIn w' v x n := by
  rcases h with h | ⟨a, cap, h1, h2, h3, h4⟩
  · exact .inl h
  · exact .inr ⟨a, cap, h1, h2, h3, fun i hi => ⟨(Below.cell hl (cell_lt (h4 i hi).1)).trans (h4 i hi).1, (h4 i hi).2⟩⟩
theorem SlIn.small {w : World} {v : Value} {x : Nat → Nat} {n : Nat} (h : SlIn w v x n) : n ≤ 9223372036854775807 := by
  rcases h with ⟨_, rfl⟩ | ⟨a, cap, h1, h2, h3, h4⟩
  · omega
  · unfold maxLen at h3; omega
end Go.Fk
namespace Go.Proofs.Ytmacednkpjfokaa
open Go.RowKit Go.Fk
set_option maxRecDepth 100000 in
set_option maxHeartbeats 1000000 in
theorem toRing_any (s : Value) (x : Nat → Nat) (n : Nat) (k : Int) (w : World) (hs : SlIn w s x n) (hn : n ≤ 1048576) :
    Calls Try.prog 65 #[.agg #[s, .int .i64 k]] w fun e w' => ∃ b, e = .returned (.agg #[.slice (some ⟨b, 0, none⟩) n n, .int .i64 k]) ∧ w.heap.size ≤ b ∧ Row w' b 22 (ftab .f32 x n) ∧ le w w' := by
  have F := (((Frm.nil w).box 42 #[s, .int .i64 k]).box 46 #[.slice none 0 0, .int .i64 0]).box 46 #[.slice none 0 0, .int .i64 0]
  simp only [World.size_alloc] at F
  have HS := hid (hs.le F.below)
  clear hs
  go_enter Try.func65, Try.ntmps65
  go_upto_region 2 with (fail)
  obtain ⟨W, hW⟩ : ∃ W, W = ((w.alloc (.cells #[s, .int .i64 k] 42)).alloc (.cells #[.slice none 0 0, .int .i64 0] 46)).alloc (.cells #[.slice none 0 0, .int .i64 0] 46) := ⟨_, rfl⟩
  rw [← hW] at F HS ⊢
  have hz : W.heap.size = w.heap.size + 1 + 1 + 1 := by rw [hW]; simp
  clear hW
  have R1 := F.row (g := w.heap.size) (t := 42) (cs := #[s, .int .i64 k]) (List.mem_cons_of_mem _ (List.mem_cons_of_mem _ List.mem_cons_self))
  have c1 := R1.cell? 0
  replace R1 := hid R1
  replace F := hid F
  have HZ := hid hz
  go_wp2_with (go_at_call 29; ((with_reducible refine (toS s x n W HS.out hn).mono ?_); rintro e w2 ⟨rfl, hr, hl⟩; rw [HZ.out] at hr; have G := F.out.le hl; have d1 : w2.cell? ⟨w.heap.size, 1, none⟩ = some (.int .i64 k) := (G.row (g := w.heap.size) (t := 42) (cs := #[s, .int .i64 k]) (List.mem_cons_of_mem _ (List.mem_cons_of_mem _ List.mem_cons_self))).cell? 1; have T3 := G.row (g := w.heap.size + 1 + 1) (t := 46) (cs := #[.slice none 0 0, .int .i64 0]) List.mem_cons_self; have T2 := G.row (g := w.heap.size + 1) (t := 46) (cs := #[.slice none 0 0, .int .i64 0]) (List.mem_cons_of_mem _ List.mem_cons_self); have d3 : w2.cell? ⟨w.heap.size + 1 + 1, 0, none⟩ = some (.slice none 0 0) := T3.cell? 0; have d4 : w2.cell? ⟨w.heap.size + 1 + 1, 1, none⟩ = some (.int .i64 0) := T3.cell? 1; have e0 : w2.cell? ⟨w.heap.size + 1, 0, none⟩ = some (.slice none 0 0) := T2.cell? 0; have e1 : w2.cell? ⟨w.heap.size + 1, 1, none⟩ = some (.int .i64 0) := T2.cell? 1; have g0 := T2.frozen 0; have g1 := T2.frozen 1; have f3 := T3.frozen 0; have f4 := T3.frozen 1; replace T3 := hid T3; replace T2 := hid T2; have HB := hid G.below; have HR := hid hr; have HW := hid hl.size; clear hr hl G))
  have Z : ∀ (W : World) (v v' : Value), Row W (w.heap.size + 1) 46 #[v, v'] → ∀ u u', Row ((W.setCell ⟨w.heap.size + 1, 0, none⟩ u).setCell ⟨w.heap.size + 1, 1, none⟩ u') (w.heap.size + 1) 46 #[u, u'] := fun W v v' h u u' => (h.set 0 u).set 1 u'
  have N2 := T2.out.other ⟨w.heap.size + 1 + 1, 0, none⟩ (.slice (some ⟨w.heap.size + 1 + 1 + 1, 0, none⟩) n n) (by simp)
  replace N2 := N2.other ⟨w.heap.size + 1 + 1, 1, none⟩ (.int .i64 k) (by simp)
  have N := HR.out.other ⟨w.heap.size + 1 + 1, 0, none⟩ (.slice (some ⟨w.heap.size + 1 + 1 + 1, 0, none⟩) n n) (by simp)
  replace N := N.other ⟨w.heap.size + 1 + 1, 1, none⟩ (.int .i64 k) (by simp)
  replace N := N.other ⟨w.heap.size + 1, 0, none⟩ (.slice (some ⟨w.heap.size + 1 + 1 + 1, 0, none⟩) n n) (by simp; omega)
  replace N := N.other ⟨w.heap.size + 1, 1, none⟩ (.int .i64 k) (by simp; omega)
  have B := Below.setCell (Below.setCell (Below.setCell (Below.setCell HB.out (p := ⟨w.heap.size + 1 + 1, 0, none⟩) (by simp; omega) (.slice (some ⟨w.heap.size + 1 + 1 + 1, 0, none⟩) n n)) (p := ⟨w.heap.size + 1 + 1, 1, none⟩) (by simp; omega) (.int .i64 k)) (p := ⟨w.heap.size + 1, 0, none⟩) (by simp) (.slice (some ⟨w.heap.size + 1 + 1 + 1, 0, none⟩) n n)) (p := ⟨w.heap.size + 1, 1, none⟩) (by simp) (.int .i64 k)
  exact bodyPost_ret (results_row1 rfl _ _ _ _ _ rfl (Z _ _ _ N2 _ _) Try.underlying46 rfl infoRing) rfl ⟨_, rfl, by omega, N, B⟩
end Go.Proofs.Ytmacednkpjfokaa

/- 'szRing' and 'ValidRing' of both. -/
namespace Go.Fk
open Go Go.RowKit
def okRing (n : Nat) (k : Int) : Bool := (decide (1 ≤ (n : Int)) && decide ((n : Int) ≤ 1024)) && (decide (0 ≤ k) && decide (k < (n : Int)))
end Go.Fk
namespace Go.Proofs.Ytmacednkpjfokaa
open Go.RowKit Go.Fk
theorem szRing_no (s : Value) (x : Nat → Nat) (n : Nat) (k : Int) (w : World) (hs : SlIn w s x n) (hn : ¬ n ≤ 1048576) :
    Calls Try.prog 60 #[.agg #[s, .int .i64 k], .int .i64 1048576] w fun e w' => e = .returned (.int .i64 (-1)) ∧ le w w' := by
  have HS := hid (hs.le (le_alloc w (.cells #[s, .int .i64 k] 42)))
  have HN := hid hs.small
  have HL := hid (le_alloc w (.cells #[s, .int .i64 k] 42))
  clear hs
  go_enter Try.func60, Try.ntmps60
  go_wp2_with (go_at_call 90; ((with_reducible refine (szS_no s x n 1048576 _ HS.out (by omega) (by omega) HN.out (by omega)).mono ?_); rintro e w2 ⟨rfl, rfl⟩))
  go_ret
  exact ⟨rfl, HL.out⟩
theorem szRing_yes (s : Value) (x : Nat → Nat) (n : Nat) (k : Int) (w : World) (hs : SlIn w s x n) (hn : n ≤ 1048576) :
    Calls Try.prog 60 #[.agg #[s, .int .i64 k], .int .i64 1048576] w fun e w' => e = .returned (.int .i64 (1048576 - n)) ∧ le w w' := by
  have HS := hid (hs.le (le_alloc w (.cells #[s, .int .i64 k] 42)))
  have HN := hid hs.small
  have HL := hid (le_alloc w (.cells #[s, .int .i64 k] 42))
  clear hs
  go_enter Try.func60, Try.ntmps60
  go_wp2_with (go_at_call 90; ((with_reducible refine (szS_yes s x n 1048576 _ HS.out (by omega) (by omega) HN.out (by omega)).mono ?_); rintro e w2 ⟨rfl, rfl⟩))
  go_ret
  exact ⟨rfl, HL.out⟩
set_option maxHeartbeats 2000000 in
theorem i_ValidRing (b n : Nat) (k : Int) (w : World) : Calls Try.prog 93 #[.agg #[.slice (some ⟨b, 0, none⟩) n n, .int .i64 k]] w fun e w' => e = .returned (.bool (okRing n k)) ∧ le w w' := by
  have HL := hid (le_alloc w (.cells #[.slice (some ⟨b, 0, none⟩) n n, .int .i64 k] 46))
  obtain ⟨z, hz⟩ : ∃ z, z = okRing n k := ⟨_, rfl⟩
  rw [← hz]
  unfold okRing at hz
  by_cases h1 : 1 ≤ (n : Int) <;> by_cases h2 : (n : Int) ≤ 1024 <;> by_cases h3 : 0 ≤ k <;> by_cases h4 : k < (n : Int)
  all_goals first | (exfalso; omega) | skip
  all_goals
    simp only [h1, h2, h3, h4, decide_true, decide_false, Bool.and_true, Bool.and_false, Bool.true_and, Bool.false_and] at hz
    have HZ := hid hz
    clear hz
    go_enter Try.func93, Try.ntmps93
    go_wp2
    go_ret
    exact ⟨ret_b HZ.out.symm, HL.out⟩
end Go.Proofs.Ytmacednkpjfokaa

/- Rings in the laws' helpers, over facts of memory. -/
namespace Go.Fk
open Go Go.RowKit
theorem RdS.uniq {w : World} {B B' : Nat} {s : Value} {x x' : Nat → Nat} {n n' : Nat} (h : RdS w B s x n) (h' : RdS w B' s x' n') : n = n' ∧ ∀ i, i < n → x i = x' i := by
  rcases h with ⟨rfl, rfl⟩ | ⟨a, cap, rfl, _, _, h3⟩ <;> rcases h' with ⟨e, rfl⟩ | ⟨a', cap', e, _, _, h3'⟩
  · exact ⟨rfl, fun i hi => absurd hi (by omega)⟩
  · cases e
  · cases e
  · simp only [Value.slice.injEq, Option.some.injEq] at e
    obtain ⟨rfl, e2, rfl⟩ := e
    have e3 : n = n' := by omega
    subst e3
    refine ⟨rfl, fun i hi => ?_⟩
    obtain ⟨_, y, e1, _, e2⟩ := h3 i hi
    obtain ⟨_, y', e1', _, e2'⟩ := h3' i hi
    rw [e1] at e1'
    simp only [Option.some.injEq, Value.float.injEq, true_and] at e1'
    rw [← e2, ← e2', e1']
/-- What a copy of a ring is, whatever is known of it. -/
def KRing (w0 : World) (args : Array Value) (w : World) (v : Value) : Prop := ∀ s k B x n, args = #[.agg #[s, .int .i64 k]] → RdS w0 B s x n → ∃ s' B', v = .agg #[s', .int .i64 k] ∧ RdS w B' s' x n
theorem KRing.le {w0 w w' : World} {args : Array Value} {v : Value} (h : KRing w0 args w v) (hl : Fk.le w w') : KRing w0 args w' v := fun s k B x n e hr => by
  obtain ⟨s', B', e1, e2⟩ := h s k B x n e hr
  exact ⟨s', B', e1, e2.le hl⟩
end Go.Fk
namespace Go.Proofs.Ytmacednkpjfokaa
open Go.RowKit Go.Fk
theorem szRingRM_no (B : Nat) (s : Value) (x : Nat → Nat) (n : Nat) (k m : Int) (w : World) (hs : RdS w B s x n) (h0 : 0 ≤ m) (h1 : m ≤ 1048576) (hm : m - (n : Int) < 0) :
    Calls Try.prog 60 #[.agg #[s, .int .i64 k], .int .i64 m] w fun e w' => e = .returned (.int .i64 (-1)) ∧ le w w' := by
  obtain ⟨y, hy, _⟩ := hs.slIn
  have HS := hid (hy.le (le_alloc w (.cells #[s, .int .i64 k] 42)))
  have HN := hid hs.small
  have HL := hid (le_alloc w (.cells #[s, .int .i64 k] 42))
  clear hs hy
  go_enter Try.func60, Try.ntmps60
  go_wp2_with (go_at_call 90; ((with_reducible refine (szS_no s y n m _ HS.out h0 h1 HN.out hm).mono ?_); rintro e w2 ⟨rfl, rfl⟩))
  go_ret
  exact ⟨rfl, HL.out⟩
theorem szRingRM_yes (B : Nat) (s : Value) (x : Nat → Nat) (n : Nat) (k m : Int) (w : World) (hs : RdS w B s x n) (h0 : 0 ≤ m) (h1 : m ≤ 1048576) (hm : 0 ≤ m - (n : Int)) :
    Calls Try.prog 60 #[.agg #[s, .int .i64 k], .int .i64 m] w fun e w' => e = .returned (.int .i64 (m - n)) ∧ le w w' := by
  obtain ⟨y, hy, _⟩ := hs.slIn
  have HS := hid (hy.le (le_alloc w (.cells #[s, .int .i64 k] 42)))
  have HN := hid hs.small
  have HL := hid (le_alloc w (.cells #[s, .int .i64 k] 42))
  have hm' : ¬ m - (n : Int) < 0 := by omega
  clear hs hy
  go_enter Try.func60, Try.ntmps60
  go_wp2_with (go_at_call 90; ((with_reducible refine (szS_yes s y n m _ HS.out h0 h1 HN.out hm).mono ?_); rintro e w2 ⟨rfl, rfl⟩))
  go_ret
  exact ⟨rfl, HL.out⟩
theorem szRingR_no (B : Nat) (s : Value) (x : Nat → Nat) (n : Nat) (k : Int) (w : World) (hs : RdS w B s x n) (hn : ¬ n ≤ 1048576) :
    Calls Try.prog 60 #[.agg #[s, .int .i64 k], .int .i64 1048576] w fun e w' => e = .returned (.int .i64 (-1)) ∧ le w w' := szRingRM_no B s x n k 1048576 w hs (by omega) (by omega) (by omega)
theorem szRingR_yes (B : Nat) (s : Value) (x : Nat → Nat) (n : Nat) (k : Int) (w : World) (hs : RdS w B s x n) (hn : n ≤ 1048576) :
    Calls Try.prog 60 #[.agg #[s, .int .i64 k], .int .i64 1048576] w fun e w' => e = .returned (.int .i64 (1048576 - n)) ∧ le w w' := szRingRM_yes B s x n k 1048576 w hs (by omega) (by omega) (by omega)
theorem toRingR (B : Nat) (s : Value) (x : Nat → Nat) (n : Nat) (k : Int) (w : World) (hs : RdS w B s x n) (hn : n ≤ 1048576) :
    Calls Try.prog 65 #[.agg #[s, .int .i64 k]] w fun e w' => ∃ s', e = .returned (.agg #[s', .int .i64 k]) ∧ OwnS w' w.heap.size w'.heap.size s' x n ∧ le w w' := by
  obtain ⟨y, hy, hc⟩ := hs.slIn
  have hf : ∀ i, i < n → fits .f32 (y i) := by
    rcases hy with ⟨_, rfl⟩ | ⟨a, cap, _, _, _, h4⟩
    · intro i hi; omega
    · intro i hi; exact (h4 i hi).2
  refine (toRing_any s y n k w hy hn).mono ?_
  rintro e w' ⟨b, rfl, hb, hr, hl⟩
  exact ⟨_, rfl, .inr ⟨b, 0, n, _, rfl, Nat.le_refl _, by unfold maxLen; omega, hb, hr.lt, hr, fun i hi => ⟨y i, by rw [Nat.zero_add]; exact get_ftab _ _ _ _ hi, hf i hi, hc i hi⟩⟩, hl⟩
theorem toRingK (w0 : World) (B : Nat) (s : Value) (x : Nat → Nat) (n : Nat) (k : Int) (w : World) (hl : le w0 w) (hs : RdS w0 B s x n) (hn : n ≤ 1048576) :
    Calls Try.prog 65 #[.agg #[s, .int .i64 k]] w fun e w' => ∃ v, e = .returned v ∧ le w w' ∧ KRing w0 #[.agg #[s, .int .i64 k]] w' v := by
  refine (toRingR B s x n k w (hs.le hl) hn).mono ?_
  rintro e w' ⟨s', rfl, ho, hl'⟩
  refine ⟨_, rfl, hl', fun s2 k2 B2 x2 n2 e2 hr => ?_⟩
  simp only [Array.mk.injEq, List.cons.injEq, Value.agg.injEq, Value.int.injEq, true_and, and_true] at e2
  obtain ⟨rfl, rfl⟩ := e2
  obtain ⟨rfl, hx⟩ := hs.uniq hr
  exact ⟨s', _, rfl, ho.rd.congr hx⟩
theorem eqRingR (B B' : Nat) (s s' : Value) (x : Nat → Nat) (n : Nat) (k : Int) (w : World) (hn : n ≤ 1048576) (hs : RdS w B s x n) (hs' : RdS w B' s' x n) :
    Calls Try.prog 71 #[.agg #[s, .int .i64 k], .agg #[s', .int .i64 k]] w fun e w' => e = .returned (.bool true) ∧ le w w' := by
  have HS := hid hs; have HS' := hid hs'; clear hs hs'
  have F := ((Frg.nil w).box 46 #[s, .int .i64 k]).box 46 #[s', .int .i64 k]
  have HL := hid F.below
  clear F
  go_enter Try.func71, Try.ntmps71
  go_wp2_with (go_at_call 31; ((with_reducible refine (eqR B B' s s' x n _ hn (HS.out.le HL.out) (HS'.out.le HL.out)).mono ?_); rintro e w2 ⟨rfl, m, rfl⟩))
  go_ret
  exact ⟨rfl, le_trans HL.out (le_drewN _ _)⟩
theorem markRingR (lo hi : Nat) (s : Value) (x : Nat → Nat) (n : Nat) (k z : Int) (w : World) (hn : n ≤ 1048576) (hz : 0 ≤ z) (hz2 : z ≤ 1073741824) (hs : OwnS w lo hi s x n) :
    Calls Try.prog 72 #[.agg #[s, .int .i64 k], .int .i64 z] w fun e w' => e = .returned (.int .i64 (z + n)) ∧ OwnS w' lo hi s (markW z) n ∧ Chg (rng lo hi) w w' := by
  have HS := hid (hs.le (le_alloc w (.cells #[s, .int .i64 k] 46))); clear hs
  have HL := hid (le_alloc w (.cells #[s, .int .i64 k] 46))
  go_enter Try.func72, Try.ntmps72
  go_wp2_with (go_at_call 32; ((with_reducible refine (markR lo hi s x n z _ hn hz hz2 HS.out).mono ?_); rintro e w2 ⟨rfl, hR, hU, _⟩; have HR2 := hid hR; have HU := hid (Chg.trans (Chg.of_le HL.out) hU); clear hR hU))
  go_ret
  exact ⟨rfl, HR2.out, HU.out⟩
theorem heldRingR (B : Nat) (s : Value) (n : Nat) (k z : Int) (w : World) (hn : n ≤ 1048576) (hz : 0 ≤ z) (hz2 : z ≤ 1073741824) (hs : RdS w B s (markW z) n) :
    Calls Try.prog 73 #[.agg #[s, .int .i64 k], .int .i64 z] w fun e w' => e = .returned (.int .i64 (z + n)) ∧ le w w' := by
  have HS := hid (hs.le (le_alloc w (.cells #[s, .int .i64 k] 46))); clear hs
  have HL := hid (le_alloc w (.cells #[s, .int .i64 k] 46))
  have hz3 : ¬ (z + (n : Int) < 0) := by omega
  go_enter Try.func73, Try.ntmps73
  go_wp2_with (go_at_call 38; ((with_reducible refine (heldR B s n z _ hn hz hz2 HS.out).mono ?_); rintro e w2 ⟨rfl, rfl⟩))
  go_ret
  exact ⟨rfl, HL.out⟩
end Go.Proofs.Ytmacednkpjfokaa

/- What append leaves, as a fact of memory. Nothing here names a program. -/
namespace Go.Fk
open Go Go.RowKit
def flist (y : Nat → Nat) (n : Nat) : List Value := (List.range n).map (fun j => .float .f32 (y j))
theorem flist_length (y : Nat → Nat) (n : Nat) : (flist y n).length = n := by simp [flist]
theorem flist_get {y : Nat → Nat} {n j : Nat} {u : Value} (h : (flist y n)[j]? = some u) : j < n ∧ u = .float .f32 (y j) := by
  obtain ⟨hj, e⟩ := List.getElem?_eq_some_iff.1 h
  rw [flist_length] at hj
  refine ⟨hj, ?_⟩
  rw [← e]; simp [flist]
theorem flist_get' (y : Nat → Nat) {n j : Nat} (h : j < n) : (flist y n)[j]? = some (.float .f32 (y j)) := by simp [flist, h]
theorem flist_one (y : Nat → Nat) (n : Nat) : ∀ u ∈ flist y n, u.oneCell' = true := by
  intro u hu
  simp only [flist, List.mem_map] at hu
  obtain ⟨j, _, rfl⟩ := hu; rfl
theorem flist_app (y z : Nat → Nat) (n m : Nat) : flist y n ++ flist z m = flist (fun j => if j < n then y j else z (j - n)) (n + m) := by
  apply List.ext_getElem?
  intro j
  by_cases h : j < n
  · rw [List.getElem?_append_left (by rw [flist_length]; exact h), flist_get' _ h, flist_get' _ (by omega), if_pos h]
  · rw [List.getElem?_append_right (by rw [flist_length]; omega), flist_length]
    by_cases h2 : j < n + m
    · rw [flist_get' _ (by omega), flist_get' _ h2, if_neg h]
    · rw [List.getElem?_eq_none (by rw [flist_length]; omega), List.getElem?_eq_none (by rw [flist_length]; omega)]
theorem own_of_row {w : World} {base : Nat} {v : Value} {n : Nat} {y x : Nat → Nat} (h : w.ownsRow base 22 1 v n (flist y n)) (hf : ∀ j, j < n → fits .f32 (y j) ∧ can .f32 (y j) = x j) : OwnS w base w.heap.size v x n := by
  obtain ⟨_, h⟩ := h
  rcases h with h | ⟨g, cap, cur, rfl, hb, hg, h1, h2, h3, h4⟩
  · exact .inl h
  · refine .inr ⟨g, 0, cap, cur, rfl, h1, h2, hb, (Array.getElem?_eq_some_iff.1 hg).1, hg, fun i hi => ⟨y i, ?_, hf i hi⟩⟩
    have h5 : (cur.toList.take (n * 1))[i]? = some (.float .f32 (y i)) := by rw [h4]; exact flist_get' y hi
    rw [Nat.mul_one, List.getElem?_take_of_lt hi] at h5
    rw [Nat.zero_add]; simpa using h5
theorem OwnS.get {w : World} {lo hi q0 n cap : Nat} {x : Nat → Nat} (h : OwnS w lo hi (.slice (some ⟨q0, 0, none⟩) n cap) x n) {i : Nat} (hi' : i < n) : ∃ y, w.cell? ⟨q0, i, none⟩ = some (.float .f32 y) ∧ fits .f32 y ∧ can .f32 y = x i := by
  rcases h with ⟨h, _⟩ | ⟨b, o, cap', cs, h1, h2, h3, h4, h5, h6, h7⟩
  · cases h
  · simp only [Value.slice.injEq, Option.some.injEq, Addr.mk.injEq, and_true] at h1
    obtain ⟨⟨rfl, rfl⟩, _⟩ := h1
    obtain ⟨y, e1, e2⟩ := h7 i hi'
    exact ⟨y, by rw [Nat.zero_add] at e1; exact (h6.cell? i).trans e1, e2⟩
/-- What append has left, in one block of its own. -/
theorem own_tight {w : World} {base : Nat} {v : Value} {n : Nat} {y x : Nat → Nat} (h : w.ownsRow base 22 1 v n (flist y n)) (h1n : 1 ≤ n) (hf : ∀ j, j < n → fits .f32 (y j) ∧ can .f32 (y j) = x j) :
    ∃ q cap cs, v = .slice (some ⟨q, 0, none⟩) n cap ∧ base ≤ q ∧ Row w q 22 cs ∧ OwnS w q (q + 1) v x n := by
  obtain ⟨_, h⟩ := h
  rcases h with ⟨_, h0⟩ | ⟨g, cap, cur, rfl, hb, hg, h1, h2, h3, h4⟩
  · omega
  · refine ⟨g, cap, cur, rfl, hb, hg, .inr ⟨g, 0, cap, cur, rfl, h1, h2, Nat.le_refl _, Nat.lt_succ_self _, hg, fun i hi => ⟨y i, ?_, hf i hi⟩⟩⟩
    have h5 : (cur.toList.take (n * 1))[i]? = some (.float .f32 (y i)) := by rw [h4]; exact flist_get' y hi
    rw [Nat.mul_one, List.getElem?_take_of_lt hi] at h5
    rw [Nat.zero_add]; simpa using h5
theorem le_of_grown {w w' : World} (h : w.grownBy w' none) : le w w' := ⟨h.os, h.tape, h.output, h.size, fun k hk => h.block k hk (by simp)⟩
/-- The raw words of a slice that can be read. -/
theorem RdS.raw {w : World} {B : Nat} {v : Value} {x : Nat → Nat} {n : Nat} (h : RdS w B v x n) (hn : 1 ≤ n) : ∃ (a : Addr) (cap : Nat) (y : Nat → Nat), v = .slice (some a) n cap ∧ n ≤ cap ∧ cap ≤ maxLen ∧ ∀ i, i < n → w.cell? (a.add i) = some (.float .f32 (y i)) ∧ fits .f32 (y i) ∧ can .f32 (y i) = x i := by
  rcases h with ⟨_, rfl⟩ | ⟨a, cap, rfl, h2, h3, h4⟩
  · omega
  · have : ∀ i, ∃ y, i < n → w.cell? (a.add i) = some (.float .f32 y) ∧ fits .f32 y ∧ can .f32 y = x i := fun i => by
      by_cases hi : i < n
      · obtain ⟨_, y, e⟩ := h4 i hi; exact ⟨y, fun _ => e⟩
      · exact ⟨0, fun h => absurd h hi⟩
    obtain ⟨y, hy⟩ := Classical.skolem.1 this
    exact ⟨a, cap, y, rfl, h2, h3, hy⟩
/-- The result's block g, of n cells, is written once; new blocks are made. -/
def outX (g : Nat) (t : TypeId) (n : Nat) (Fin : World → Array Value → Prop) (hm : ∀ w w' cs, le w w' → Fin w cs → Fin w' cs) : Ext where
  R w w' := Chg (· = g) w w' ∧ ((∃ cs, Row w g t cs ∧ cs.size = n) → ∃ cs, Row w' g t cs ∧ cs.size = n) ∧ ((∃ cs, Row w g t cs ∧ Fin w cs) → ∃ cs, Row w' g t cs ∧ Fin w' cs)
  refl w := ⟨Chg.refl _ _, id, id⟩
  trans := fun ⟨h1, h2, h3⟩ ⟨k1, k2, k3⟩ => ⟨h1.trans k1, fun h => k2 (h2 h), fun h => k3 (h3 h)⟩
  of_le := fun h => ⟨Chg.of_le h, fun ⟨cs, hr, hs⟩ => ⟨cs, hr.le h, hs⟩, fun ⟨cs, hr, hf⟩ => ⟨cs, hr.le h, hm _ _ _ h hf⟩⟩
theorem OwnS.chgS {w w' : World} {lo hi : Nat} {s : Value} {x : Nat → Nat} {n : Nat} {S : Nat → Prop} (h : OwnS w lo hi s x n) (k : Chg S w w') (hS : ∀ i, lo ≤ i → i < hi → ¬ S i) : OwnS w' lo hi s x n := by
  rcases h with h | ⟨b, o, cap, cs, h1, h2, h3, h4, h5, h6, h7⟩
  · exact .inl h
  · exact .inr ⟨b, o, cap, cs, h1, h2, h3, h4, h5, k.row h6 (hS b h4 h5), h7⟩
section
variable {P : Program} {ops : Array Oper} {W : World} {K : FuncId → Array Value → World → Value → Prop} {Q : Act → World → Prop} {F : Facts} {k : Nat} {o : Oper} {rest : List Oper} {a : Act}
variable {g : Nat} {t : TypeId} {m : Nat} {Fin : World → Array Value → Prop} {hm : ∀ w w' cs, le w w' → Fin w cs → Fin w' cs}
/-- A value of one cell is loaded, of a block that is not the result's. -/
theorem wpFreeD_cell (hg : o.guard = none) {ty : TypeId} {x : Operand} (hop : o.op = .load ty x) {ad : Addr} (hx : a.eval x = .pointer (some ad)) {v : Value} (hv : W.cell? ad = some v) (hne : ad.block ≠ g) (hu : ∀ w, (isAgg ty).run P w = .ok false w)
    (h : wpFreeD (outX g t m Fin hm) P ops .any W K Q rest (k + 1) (a.put o.dst v) (F.with k (fun _ => True))) : wpFreeD (outX g t m Fin hm) P ops .any W K Q (o :: rest) k a F := by
  refine wpFreeD_one hg v (fun w hw => ?_) h
  have hlt : ad.block < W.heap.size := World.block_lt_of_cell? W _ hv
  have hc : w.cell? ad = some v := (cell_of_heap (hw.1.block _ hlt hne)).trans hv
  have hl : (Instr.loadAt ty (.pointer (some ad))).run P w = .ok v w := by
    simp [Instr.loadAt, Instr.sureAddr, loadVar, hu, hc]
  simp [execOp, hop, hx, hl, Result.andThen]
/-- Append to a slice of no capacity: new memory is taken. -/
theorem wpFreeD_append {s x : Operand} (hg : o.guard = none) {t' : TypeId} (hop : o.op = Op.call { callee := Callee.builtin Builtin.append, args := #[s, x], argTypes := #[t', t'] }) {e : TypeId} (h1 : P.underlying t' = some (.slice e)) {i : TypeInfo} (h2 : P.info? e = some i) (h3 : i.zero = some (.float .f32 0)) (h4 : i.size = 1) (h5 : i.bytes = 4)
    {ao : Option Addr} (hs : a.eval s = .slice ao 0 0) {ad : Addr} {n c : Nat} {y : Nat → Nat} (hx : a.eval x = .slice (some ad) n c) (hn : 1 ≤ n) (hn2 : n ≤ 1048576) (hc : ∀ j, j < n → W.cell? (ad.add j) = some (.float .f32 (y j))) (hne : ad.block ≠ g)
    (h : ∀ q c', wpFreeD (outX g t m Fin hm) P ops .any W K Q rest (k + 1) (a.put o.dst (.slice (some ⟨q, 0, none⟩) n c')) (F.with k (fun w => ∃ B, W.heap.size ≤ B ∧ w.ownsRow B e 1 (.slice (some ⟨q, 0, none⟩) n c') n (flist y n) ∧ g < B))) (hgW : g < W.heap.size) : wpFreeD (outX g t m Fin hm) P ops .any W K Q (o :: rest) k a F := by
  refine ⟨fun w v => ∃ B, W.heap.size ≤ B ∧ w.ownsRow B e 1 v n (flist y n) ∧ g < B, ⟨fun v w w' hw hv => ?_, .inl ⟨by simp [Region.wanted, hg], fun w hw _ => ?_⟩⟩, fun v hv => ?_⟩
  rotate_left 2
  · obtain ⟨w, _, _, B, _, ho, _⟩ := hv
    rcases ho.2 with ⟨_, h0⟩ | ⟨q, c', cur, rfl, _⟩
    · omega
    · exact h q c'
  · obtain ⟨B, hB, ⟨ho1, ho⟩, hgB⟩ := hv
    refine ⟨B, hB, ⟨ho1, ?_⟩, hgB⟩
    rcases ho with ho | ⟨q, cap, cur, e1, e2, e3, e4⟩
    · exact .inl ho
    · exact .inr ⟨q, cap, cur, e1, e2, by have := hw.1.row (g := q) (t := e) (cs := cur) e3 (by omega); exact this, e4⟩
  · have hcw : ∀ j u, (flist y n)[j]? = some u → w.cell? (ad.add j) = some u := by
      intro j u hu
      obtain ⟨hj, rfl⟩ := flist_get hu
      have := hc j hj
      have hlt : (ad.add j).block < W.heap.size := World.block_lt_of_cell? W _ this
      exact (cell_of_heap (hw.1.block _ hlt (by rw [add_block]; exact hne))).trans this
    have hsz := hw.1.size
    cases ao with
    | none =>
      obtain ⟨v', w', hrun, hown, hgr, _⟩ := run_append_own (P := P) (w := w) w.heap.size t' o.type e i (.float .f32 0) 1 4 h1 h2 h3 h4 h5 rfl (by omega) (.slice none 0 0) 0 [] (World.ownsRow_nil w _ e 1) ad n c (flist y n) (by rw [flist_length]; omega) hcw (flist_one y n) (by unfold maxLen; omega) (by omega) (Nat.le_refl _)
      simp only [Nat.zero_add, List.nil_append] at hown
      simp [execOp, hop, resolve, invoke, builtin, hs, hx, hrun, Result.andThen, insideT]
      exact ⟨(outX g t m Fin hm).of_le (le_of_grown hgr), w.heap.size, hsz, hown, by omega⟩
    | some b =>
      obtain ⟨v', w', hrun, hown, hgr⟩ := run_append_arg_grows (P := P) w t' o.type e i (.float .f32 0) 1 4 h1 h2 h3 h4 h5 rfl (by omega) b 0 0 [] rfl (fun j u hu => by simp at hu) ad n c (flist y n) (by rw [flist_length]; omega) hcw (by omega) (by unfold maxLen; omega) (by omega)
      simp only [Nat.zero_add, List.nil_append] at hown
      simp [execOp, hop, resolve, invoke, builtin, hs, hx, hrun, Result.andThen, insideT]
      exact ⟨(outX g t m Fin hm).of_le (le_of_grown hgr), w.heap.size, hsz, hown, by omega⟩
/-- The result is stored. -/
theorem wpFreeD_out (hg : o.guard = none) {ty : TypeId} {x y : Operand} (hop : o.op = .store ty x y) (hx : a.eval x = .pointer (some ⟨g, 0, none⟩)) {cells : Array Value} (hy : a.eval y = .agg cells) (hty : ty = t) {old : Array Value} (hW : Row W g t old) (ho : old.size = m)
    (hF : ∀ w w', (outX g t m Fin hm).R W w → behind .any o F w → Chg (· = g) w w' → Fin w' cells) (hi : (P.info? ty).map (·.size) = some m) (hs : cells.size = m) (h1 : cells.all (·.oneCell') = true)
    (h : wpFreeD (outX g t m Fin hm) P ops .any W K Q rest (k + 1) (a.put o.dst undef) (F.with k (fun w => ∃ cs, Row w g t cs ∧ Fin w cs))) : wpFreeD (outX g t m Fin hm) P ops .any W K Q (o :: rest) k a F := by
  subst hty
  refine ⟨fun w v => v = undef ∧ ∃ cs, Row w g ty cs ∧ Fin w cs, ⟨fun v w w' hw hv => ⟨hv.1, hw.2.2 hv.2⟩, .inl ⟨by simp [Region.wanted, hg], fun w hw hbe => ?_⟩⟩, fun v hv => ?_⟩
  · obtain ⟨cs, hc, hcs⟩ := hw.2.1 ⟨old, hW, ho⟩
    have hrun := run_storeVar_row (P := P) w g ty ty cs cells hc (hs ▸ hi) (hcs.trans hs.symm) h1
    have : (execOp a.eval o).run P w = .ok .skip (w.setRow g cells) := by
      unfold execOp
      simp only [hop, hx, hy, Instr.storeAt, Instr.sureAddr, Sem.run_bind, Sem.run_pure, Result.andThen_ok, hrun]
    rw [this]
    have hrow : Row (w.setRow g cells) g ty cells := hc.setRow _
    have hch : Chg (· = g) w (w.setRow g cells) := (Chg.refl _ w).wrote (wrote_setRow hc) rfl
    have hfin := hF w _ hw hbe hch
    exact ⟨⟨hch, fun _ => ⟨cells, hrow, hs⟩, fun _ => ⟨cells, hrow, hfin⟩⟩, rfl, cells, hrow, hfin⟩
  · obtain ⟨w, _, _, rfl, _⟩ := hv
    exact wpFreeD_weaken _ _ _ _ _ (fun e w h => ⟨h.1, fun he => (h.2 he).2⟩) h
end
section
variable {E : Ext} {P : Program} {ops : Array Oper} {W : World} {K : FuncId → Array Value → World → Value → Prop} {Q : Act → World → Prop} {F : Facts} {k : Nat} {o : Oper} {rest : List Oper} {a : Act}
/-- A quiet operation: one value, in the very world. -/
theorem wpFreeD_quiet (hnc : simple o.op = true) (h : wpQuiet P ops (fun _ => True) (fun a' => wpFreeD E P ops .any W K Q rest (k + 1) a' (F.with k (fun _ => True))) [o] a) : wpFreeD E P ops .any W K Q (o :: rest) k a F := by
  simp only [wpQuiet] at h
  by_cases hw : Region.wanted o (yielded ops a.tmps) = true
  · rw [if_pos hw] at h
    obtain ⟨v, h1, h2⟩ := h
    refine ⟨fun _ u => u = v, ⟨fun _ _ _ _ h => h, .inl ⟨hw, fun w hw' _ => ?_⟩⟩, fun u hu => ?_⟩
    · have h3 := h1 w trivial
      unfold Oper.quietAt at h3
      generalize hrun : (execOp a.eval o).run P w = r at h3
      cases r with
      | ok n w' =>
        cases n <;> simp only [Oper.quietUpon] at h3 <;> simp only [insideT]
        case value u => exact ⟨by rw [h3.1]; exact E.refl w, h3.2⟩
        case skip => exact ⟨by rw [h3.1]; exact E.refl w, h3.2.symm⟩
        case enter f args => exact (noEnter hnc hrun).elim
      | halt x w' => simp only [Oper.quietUpon] at h3
    · obtain ⟨w, _, _, rfl⟩ := hu
      exact wpFreeD_weaken _ _ _ _ _ (fun e w h => ⟨h.1, fun _ => trivial⟩) h2
  · rw [if_neg hw] at h
    refine ⟨fun _ u => u = undef, ⟨fun _ _ _ _ h => h, .inr ⟨by simpa using hw, fun _ _ _ => rfl⟩⟩, fun u hu => ?_⟩
    obtain ⟨w, _, _, rfl⟩ := hu
    exact wpFreeD_weaken _ _ _ _ _ (fun e w h => ⟨h.1, fun _ => trivial⟩) h
/-- An operation of one value; what is known of those that it comes behind is carried on. -/
theorem wpFreeD_carry (hg : o.guard = none) (v : Value) (hr : ∀ w, E.R W w → (execOp a.eval o).run P w = .ok (.value v) w) (V : World → Prop) (hm : ∀ w w', E.R w w' → V w → V w') (hb : ∀ w, E.R W w → behind .any o F w → V w)
    (h : wpFreeD E P ops .any W K Q rest (k + 1) (a.put o.dst v) (F.with k V)) : wpFreeD E P ops .any W K Q (o :: rest) k a F := by
  refine ⟨fun w u => u = v ∧ V w, ⟨fun _ w w' hw h => ⟨h.1, hm w w' hw h.2⟩, .inl ⟨by simp [Region.wanted, hg], fun w hw hbe => ?_⟩⟩, fun u hu => ?_⟩
  · rw [hr w hw]; exact ⟨E.refl w, rfl, hb w hw hbe⟩
  · obtain ⟨w, _, _, rfl, _⟩ := hu
    exact wpFreeD_weaken _ _ _ _ _ (fun e w h => ⟨h.1, fun he => (h.2 he).2⟩) h
/-- An operation that makes one new block. -/
theorem wpFreeD_new (hg : o.guard = none) (f : Nat → Value) (ob : Obj) (hr : ∀ w, (execOp a.eval o).run P w = .ok (.value (f w.heap.size)) (w.alloc ob))
    (h : ∀ b, wpFreeD E P ops .any W K Q rest (k + 1) (a.put o.dst (f b)) (F.with k (fun _ => True))) : wpFreeD E P ops .any W K Q (o :: rest) k a F := by
  refine ⟨fun _ u => ∃ b, u = f b, ⟨fun _ _ _ _ h => h, .inl ⟨by simp [Region.wanted, hg], fun w hw _ => ?_⟩⟩, fun u hu => ?_⟩
  · rw [hr w]; exact ⟨E.of_le (le_alloc w ob), _, rfl⟩
  · obtain ⟨w, _, _, b, rfl⟩ := hu
    exact wpFreeD_weaken _ _ _ _ _ (fun e w h => ⟨h.1, fun _ => trivial⟩) (h b)
end
theorem run_empty {P : Program} (w : World) (t e : TypeId) (ie : TypeInfo) (hu : P.underlying t = some (.slice e)) (hie : P.info? e = some ie) : (Instr.buildSlice t 0 #[]).run P w = .ok (.slice (some ⟨w.heap.size, 0, none⟩) 0 0) (w.alloc (.cells #[] e)) := by
  have h : Instr.fill (fun i => some (i * ie.size, ie.size)) (Array.map (fun _ => (default : Value)) (Array.range 0)) [] = some #[] := by simp [Instr.fill]
  simp [Instr.buildSlice, run_underlying hu, sizeOf, typeInfo, hie, newRow, h]
theorem ownsRow_le {w w' : World} {B : Nat} {e : TypeId} {z : Nat} {v : Value} {n : Nat} {xs : List Value} (h : w.ownsRow B e z v n xs) (hl : le w w') : w'.ownsRow B e z v n xs := by
  obtain ⟨h1, h2⟩ := h
  refine ⟨h1, ?_⟩
  rcases h2 with h2 | ⟨q, cap, cur, e1, e2, e3, e4⟩
  · exact .inl h2
  · exact .inr ⟨q, cap, cur, e1, e2, by have := Row.le (g := q) (t := e) (cs := cur) e3 hl; exact this, e4⟩
/-- What a copy's result is. -/
def FinR (B : Nat) (e : TypeId) (n : Nat) (y : Nat → Nat) (k : Int) (w : World) (cs : Array Value) : Prop := ∃ s, cs = #[s, .int .i64 k] ∧ ∃ B', B ≤ B' ∧ w.ownsRow B' e 1 s n (flist y n)
theorem FinR_le (B : Nat) (e : TypeId) (n : Nat) (y : Nat → Nat) (k : Int) : ∀ w w' cs, le w w' → FinR B e n y k w cs → FinR B e n y k w' cs := fun _ _ _ hl ⟨s, h, B', hB, h2⟩ => ⟨s, h, B', hB, ownsRow_le h2 hl⟩
theorem ownsRow_out {g : Nat} {t : TypeId} {m : Nat} {Fin : World → Array Value → Prop} {hm : ∀ w w' cs, le w w' → Fin w cs → Fin w' cs} {w w' : World} {e : TypeId} {n B : Nat} {xs : List Value} {v : Value} (hw : (outX g t m Fin hm).R w w') (h : w.ownsRow B e 1 v n xs) (hg : g < B) : w'.ownsRow B e 1 v n xs := by
  obtain ⟨h1, h2⟩ := h
  refine ⟨h1, ?_⟩
  rcases h2 with h2 | ⟨q, cap, cur, e1, e2, e3, e4⟩
  · exact .inl h2
  · exact .inr ⟨q, cap, cur, e1, e2, by have := hw.1.row (g := q) (t := e) (cs := cur) e3 (by omega); exact this, e4⟩
theorem ownsRow_ch {g : Nat} {w w' : World} {e : TypeId} {n B : Nat} {xs : List Value} {v : Value} (hw : Chg (· = g) w w') (h : w.ownsRow B e 1 v n xs) (hg : g < B) : w'.ownsRow B e 1 v n xs := by
  obtain ⟨h1, h2⟩ := h
  refine ⟨h1, ?_⟩
  rcases h2 with h2 | ⟨q, cap, cur, e1, e2, e3, e4⟩
  · exact .inl h2
  · exact .inr ⟨q, cap, cur, e1, e2, by have := hw.row (g := q) (t := e) (cs := cur) e3 (by omega); exact this, e4⟩
theorem ownsRow_one {w : World} {B : Nat} {e : TypeId} {z : Nat} {v : Value} {n : Nat} {xs : List Value} (h : w.ownsRow B e z v n xs) : v.oneCell' = true := by
  rcases h.2 with ⟨rfl, _⟩ | ⟨q, cap, cur, rfl, _⟩ <;> rfl
namespace Frg
variable {w0 w w' : World}
/-- The two newest facts' blocks are written. -/
theorem chg2 {e1 e2 e1' e2' : Fact} {l : List Fact} (h : Frg w0 w (e1 :: e2 :: l)) (k : Chg (fun i => rng e1.lo e1.hi i ∨ rng e2.lo e2.hi i) w w') (p1 : e1'.p w') (p2 : e2'.p w') (l1 : e1'.lo = e1.lo) (h1 : e1'.hi = e1.hi) (l2 : e2'.lo = e2.lo) (h2 : e2'.hi = e2.hi) : Frg w0 w' (e1' :: e2' :: l) := by
  have f1 := h.facts e1 (by simp)
  have f2 := h.facts e2 (by simp)
  have a1 := List.pairwise_cons.1 h.apart
  have a2 := List.pairwise_cons.1 a1.2
  have b12 := a1.1 e2 (by simp)
  refine ⟨h.below.trans (k.below (fun i hi => by rcases hi with hi | hi; exact Nat.le_trans f1.1 hi.1; exact Nat.le_trans f2.1 hi.1) h.size), fun x hx => ?_, ?_⟩
  · rcases List.mem_cons.1 hx with rfl | hx
    · exact ⟨by omega, by have := k.size; omega, p1⟩
    rcases List.mem_cons.1 hx with rfl | hx
    · exact ⟨by omega, by have := k.size; omega, p2⟩
    · have hx' := h.facts x (by simp [hx])
      have ha := a2.1 x hx
      have ha1 := a1.1 x (by simp [hx])
      exact ⟨hx'.1, Nat.le_trans hx'.2.1 k.size, x.ok w w' hx'.2.2 (fun i a b => k.block i (by omega) (fun c => by rcases c with c | c <;> (have := c.1; omega)))⟩
  · refine List.pairwise_cons.2 ⟨fun x hx => ?_, List.pairwise_cons.2 ⟨fun x hx => by have := a2.1 x hx; omega, a2.2⟩⟩
    rcases List.mem_cons.1 hx with rfl | hx
    · omega
    · have := a1.1 x (by simp [hx]); omega
/-- A ring's struct and its samples, behind a push. -/
theorem pushed {g lo hi n : Nat} {t : TypeId} {cs cs' : Array Value} {s : Value} {x x' : Nat → Nat} {l : List Fact} (h : Frg w0 w (rowF g t cs :: ownF lo hi s x n :: l)) (hr : Row w' g t cs') (ho : OwnS w' lo hi s x' n) (k : Chg (fun i => i = g ∨ lo ≤ i ∧ i < hi) w w') : Frg w0 w' (rowF g t cs' :: ownF lo hi s x' n :: l) := by
  refine h.chg2 (k.mono (fun i hi' => ?_)) hr ho rfl rfl rfl rfl
  rcases hi' with rfl | hi'
  · exact .inl ⟨Nat.le_refl _, Nat.lt_succ_self _⟩
  · exact .inr hi'
theorem not_in {g lo hi n : Nat} {t : TypeId} {cs : Array Value} {s : Value} {x : Nat → Nat} {l : List Fact} (h : Frg w0 w (rowF g t cs :: ownF lo hi s x n :: l)) : ¬ (lo ≤ g ∧ g < hi) := by
  have a1 : hi ≤ g := (List.pairwise_cons.1 h.apart).1 (ownF lo hi s x n) (by simp)
  omega
/-- The result is stored: what it has is the call's own. -/
theorem fin1 {g lo hi n : Nat} {t : TypeId} {cs cs' : Array Value} {s : Value} {x : Nat → Nat} {e : Fact} {l : List Fact} (h : Frg w0 w (e :: ownF lo hi s x n :: rowF g t cs :: l)) (k : Wrote w w' g t cs') : OwnS w' w0.heap.size w'.heap.size s x n ∧ Fk.le w0 w' := by
  have a1 := (List.pairwise_cons.1 h.apart).2
  have a2 : g + 1 ≤ lo := (List.pairwise_cons.1 a1).1 (rowF g t cs) (by simp)
  have f1 := h.facts (ownF lo hi s x n) (by simp)
  have f2 := h.facts (rowF g t cs) (by simp)
  have hc : Chg (· = g) w w' := (Chg.refl _ w).wrote k rfl
  refine ⟨((OwnS.chgS f1.2.2 hc (fun i h1 h2 h3 => by have h1' : lo ≤ i := h1; have h3' : i = g := h3; omega)).mono f1.1 (Nat.le_trans f1.2.1 hc.size)), h.below.trans (hc.below (fun i hi => by have hi' : i = g := hi; subst hi'; exact f2.1) h.size)⟩
theorem fin0 {g lo hi n : Nat} {t : TypeId} {cs cs' : Array Value} {s : Value} {x : Nat → Nat} {l : List Fact} (h : Frg w0 w (ownF lo hi s x n :: rowF g t cs :: l)) (k : Wrote w w' g t cs') : OwnS w' w0.heap.size w'.heap.size s x n ∧ Fk.le w0 w' := by
  have a2 : g + 1 ≤ lo := (List.pairwise_cons.1 h.apart).1 (rowF g t cs) (by simp)
  have f1 := h.facts (ownF lo hi s x n) (by simp)
  have f2 := h.facts (rowF g t cs) (by simp)
  have hc : Chg (· = g) w w' := (Chg.refl _ w).wrote k rfl
  refine ⟨((OwnS.chgS f1.2.2 hc (fun i h1 h2 h3 => by have h1' : lo ≤ i := h1; have h3' : i = g := h3; omega)).mono f1.1 (Nat.le_trans f1.2.1 hc.size)), h.below.trans (hc.below (fun i hi => by have hi' : i = g := hi; subst hi'; exact f2.1) h.size)⟩
theorem fin2 {g lo hi n : Nat} {t : TypeId} {cs cs' : Array Value} {s : Value} {x : Nat → Nat} {e : Fact} {l : List Fact} (h : Frg w0 w (ownF lo hi s x n :: e :: rowF g t cs :: l)) (k : Wrote w w' g t cs') : OwnS w' w0.heap.size w'.heap.size s x n ∧ Fk.le w0 w' := by
  have a2 : g + 1 ≤ lo := (List.pairwise_cons.1 h.apart).1 (rowF g t cs) (by simp)
  have f1 := h.facts (ownF lo hi s x n) (by simp)
  have f2 := h.facts (rowF g t cs) (by simp)
  have hc : Chg (· = g) w w' := (Chg.refl _ w).wrote k rfl
  refine ⟨((OwnS.chgS f1.2.2 hc (fun i h1 h2 h3 => by have h1' : lo ≤ i := h1; have h3' : i = g := h3; omega)).mono f1.1 (Nat.le_trans f1.2.1 hc.size)), h.below.trans (hc.below (fun i hi => by have hi' : i = g := hi; subst hi'; exact f2.1) h.size)⟩
end Frg
end Go.Fk

/- What functions give, by their results' kinds. Nothing here names a program. -/
namespace Go.Fk
open Go Go.RowKit
def Out_b (ar0 : Bool) (w : World) (e : Ending) (w' : World) : Prop := e = .returned (.bool ar0) ∧ le w w'
def Out_rfi (xr0 : Nat → Nat) (nr0 : Nat) (kr0 : Int) (ar1 : Nat) (ar2 : Int) (w : World) (e : Ending) (w' : World) : Prop := ∃ (v0 : Value) (v1 : Nat), e = .returned (.tuple #[.agg #[v0, .int .i64 kr0], .float .f32 v1, .int .i64 ar2]) ∧ OwnS w' w.heap.size w'.heap.size v0 xr0 nr0 ∧ can .f32 v1 = ar1 ∧ le w w'
def Out_fi (ar0 : Nat) (ar1 : Int) (w : World) (e : Ending) (w' : World) : Prop := ∃ (v0 : Nat), e = .returned (.tuple #[.float .f32 v0, .int .i64 ar1]) ∧ can .f32 v0 = ar0 ∧ le w w'
def Out_ri (xr0 : Nat → Nat) (nr0 : Nat) (kr0 : Int) (ar1 : Int) (w : World) (e : Ending) (w' : World) : Prop := ∃ (v0 : Value), e = .returned (.tuple #[.agg #[v0, .int .i64 kr0], .int .i64 ar1]) ∧ OwnS w' w.heap.size w'.heap.size v0 xr0 nr0 ∧ le w w'
def Out_si (xr0 : Nat → Nat) (nr0 : Nat) (kr0 : Int) (tkr0 : Int) (tar0 : Nat) (tbr0 : Nat) (tcr0 : Nat) (txr0 : Nat) (tyr0 : Nat) (dkr0 : Int) (dar0 : Nat) (dbr0 : Nat) (dcr0 : Nat) (dxr0 : Nat) (dyr0 : Nat) (lr0 : Nat) (ar1 : Int) (w : World) (e : Ending) (w' : World) : Prop := ∃ (v0 : Value), e = .returned (.tuple #[.agg #[v0, .int .i64 kr0, .int .i64 tkr0, .float .f32 tar0, .float .f32 tbr0, .float .f32 tcr0, .float .f32 txr0, .float .f32 tyr0, .int .i64 dkr0, .float .f32 dar0, .float .f32 dbr0, .float .f32 dcr0, .float .f32 dxr0, .float .f32 dyr0, .float .f32 lr0], .int .i64 ar1]) ∧ OwnS w' w.heap.size w'.heap.size v0 xr0 nr0 ∧ le w w'
def Out_sfi (xr0 : Nat → Nat) (nr0 : Nat) (kr0 : Int) (tkr0 : Int) (tar0 : Nat) (tbr0 : Nat) (tcr0 : Nat) (txr0 : Nat) (tyr0 : Nat) (dkr0 : Int) (dar0 : Nat) (dbr0 : Nat) (dcr0 : Nat) (dxr0 : Nat) (dyr0 : Nat) (lr0 : Nat) (ar1 : Nat) (ar2 : Int) (w : World) (e : Ending) (w' : World) : Prop := ∃ (v0 : Value) (v1 : Nat), e = .returned (.tuple #[.agg #[v0, .int .i64 kr0, .int .i64 tkr0, .float .f32 tar0, .float .f32 tbr0, .float .f32 tcr0, .float .f32 txr0, .float .f32 tyr0, .int .i64 dkr0, .float .f32 dar0, .float .f32 dbr0, .float .f32 dcr0, .float .f32 dxr0, .float .f32 dyr0, .float .f32 lr0], .float .f32 v1, .int .i64 ar2]) ∧ OwnS w' w.heap.size w'.heap.size v0 xr0 nr0 ∧ can .f32 v1 = ar1 ∧ le w w'
def Out_sui (xr0 : Nat → Nat) (nr0 : Nat) (kr0 : Int) (tkr0 : Int) (tar0 : Nat) (tbr0 : Nat) (tcr0 : Nat) (txr0 : Nat) (tyr0 : Nat) (dkr0 : Int) (dar0 : Nat) (dbr0 : Nat) (dcr0 : Nat) (dxr0 : Nat) (dyr0 : Nat) (lr0 : Nat) (ar1 : Int) (ar2 : Int) (w : World) (e : Ending) (w' : World) : Prop := ∃ (v0 : Value), e = .returned (.tuple #[.agg #[v0, .int .i64 kr0, .int .i64 tkr0, .float .f32 tar0, .float .f32 tbr0, .float .f32 tcr0, .float .f32 txr0, .float .f32 tyr0, .int .i64 dkr0, .float .f32 dar0, .float .f32 dbr0, .float .f32 dcr0, .float .f32 dxr0, .float .f32 dyr0, .float .f32 lr0], .int .u32 ar1, .int .i64 ar2]) ∧ OwnS w' w.heap.size w'.heap.size v0 xr0 nr0 ∧ le w w'
def Out_sli (xr0 : Nat → Nat) (nr0 : Nat) (kr0 : Int) (tkr0 : Int) (tar0 : Nat) (tbr0 : Nat) (tcr0 : Nat) (txr0 : Nat) (tyr0 : Nat) (dkr0 : Int) (dar0 : Nat) (dbr0 : Nat) (dcr0 : Nat) (dxr0 : Nat) (dyr0 : Nat) (lr0 : Nat) (xr1 : Nat → Nat) (nr1 : Nat) (ar2 : Int) (w : World) (e : Ending) (w' : World) : Prop := ∃ (v0 : Value) (v1 : Value) (q : Nat), e = .returned (.tuple #[.agg #[v0, .int .i64 kr0, .int .i64 tkr0, .float .f32 tar0, .float .f32 tbr0, .float .f32 tcr0, .float .f32 txr0, .float .f32 tyr0, .int .i64 dkr0, .float .f32 dar0, .float .f32 dbr0, .float .f32 dcr0, .float .f32 dxr0, .float .f32 dyr0, .float .f32 lr0], v1, .int .i64 ar2]) ∧ OwnS w' w.heap.size q v0 xr0 nr0 ∧ OwnS w' q w'.heap.size v1 xr1 nr1 ∧ w.heap.size ≤ q ∧ q ≤ w'.heap.size ∧ le w w'
def Out_bi (ar0 : Bool) (ar1 : Int) (w : World) (e : Ending) (w' : World) : Prop := e = .returned (.tuple #[.bool ar0, .int .i64 ar1]) ∧ le w w'
def Out_ii (ar0 : Int) (ar1 : Int) (w : World) (e : Ending) (w' : World) : Prop := e = .returned (.tuple #[.int .i64 ar0, .int .i64 ar1]) ∧ le w w'
def Out_s (xr0 : Nat → Nat) (nr0 : Nat) (kr0 : Int) (tkr0 : Int) (tar0 : Nat) (tbr0 : Nat) (tcr0 : Nat) (txr0 : Nat) (tyr0 : Nat) (dkr0 : Int) (dar0 : Nat) (dbr0 : Nat) (dcr0 : Nat) (dxr0 : Nat) (dyr0 : Nat) (lr0 : Nat) (w : World) (e : Ending) (w' : World) : Prop := ∃ (v0 : Value), e = .returned (.agg #[v0, .int .i64 kr0, .int .i64 tkr0, .float .f32 tar0, .float .f32 tbr0, .float .f32 tcr0, .float .f32 txr0, .float .f32 tyr0, .int .i64 dkr0, .float .f32 dar0, .float .f32 dbr0, .float .f32 dcr0, .float .f32 dxr0, .float .f32 dyr0, .float .f32 lr0]) ∧ OwnS w' w.heap.size w'.heap.size v0 xr0 nr0 ∧ le w w'
def Out_li (xr0 : Nat → Nat) (nr0 : Nat) (ar1 : Int) (w : World) (e : Ending) (w' : World) : Prop := ∃ (v0 : Value), e = .returned (.tuple #[v0, .int .i64 ar1]) ∧ OwnS w' w.heap.size w'.heap.size v0 xr0 nr0 ∧ le w w'
def Out_f (ar0 : Nat) (w : World) (e : Ending) (w' : World) : Prop := ∃ (v0 : Nat), e = .returned (.float .f32 v0) ∧ can .f32 v0 = ar0 ∧ le w w'
end Go.Fk

/- The same for a region whose last operations are forced to come last, and may write. Nothing here names a program. -/
namespace Go.Fk
open Go Go.RowKit

section
variable {P : Program} {ops : Array Oper} {md : Region.Mode} {C : World → Prop} {K : FuncId → Array Value → Value → Prop}

/-- Whatever order is picked of the first n operations; then L. -/
def anyTail (P : Program) (ops : Array Oper) (md : Region.Mode) (C : World → Prop) (K : FuncId → Array Value → Value → Prop) (n : Nat) (L : Array Bool → Act → Prop) : Nat → Array Bool → Act → Prop
  | 0, listed, a => L listed a
  | f + 1, listed, a => Region.ready md ops listed ≠ [] ∧
      ∀ i ∈ Region.ready md ops listed, i < n ∧ ∀ o, ops[i]? = some o → ∃ V, Gives P ops C K o a V ∧ ∀ v, V v → anyTail P ops md C K n L f (listed.setIfInBounds i true) (a.put o.dst v)

theorem wpOp_gives {i : Nat} {o : Oper} {a : Act} {w : World} {V : Value → Prop} {next : Act → World → Prop} {Q' : Exit → Act → World → Prop} (ho : ops[i]? = some o) (hw : C w) (hg : Gives P ops C K o a V)
    (hn : ∀ v w', C w' → V v → next (a.put o.dst v) w') : wpOp P ops Q' i next a w := by
  unfold wpOp
  simp only [ho]
  rcases hg with ⟨hwant, hv⟩ | ⟨hwant, hv⟩
  · rw [if_pos hwant]
    left
    have h3 := hv w hw
    unfold Oper.wp
    generalize (execOp a.eval o).run P w = r at h3
    cases r with
    | ok x w' =>
      cases x <;> simp only [within] at h3 <;> simp only [Oper.upon]
      case value u => exact hn u _ h3.1 h3.2
      case skip => exact hn undef _ h3.1 h3.2
      case enter f args =>
        refine h3.1.mono fun e w'' he => ?_
        obtain ⟨v, rfl, hk, hc⟩ := he
        exact hn v _ hc (h3.2 v hk)
    | halt x w' => simp only [within] at h3
  · rw [if_neg (by simp [hwant])]
    exact hn undef _ hw hv

theorem anyTail_sound {n g : Nat} {L : Array Bool → Act → Prop} {Q' : Exit → Act → World → Prop} (hL : ∀ listed a w, C w → L listed a → wpAny P md ops Q' g listed a w) :
    ∀ (f : Nat) (listed : Array Bool) (a : Act) (w : World), C w → anyTail P ops md C K n L f listed a → wpAny P md ops Q' (f + g) listed a w := by
  intro f
  induction f with
  | zero => intro listed a w hw h; rw [Nat.zero_add]; exact hL _ _ _ hw h
  | succ f ih =>
    intro listed a w hw h
    rw [show f + 1 + g = (f + g) + 1 by omega]
    refine ⟨fun h0 => absurd h0 h.1, fun i hi => ?_⟩
    obtain ⟨_, o, ho, _⟩ := mem_ready.1 hi
    obtain ⟨V, hg, hn⟩ := (h.2 i hi).2 o ho
    exact wpOp_gives ho hw hg (fun v w' hw' hv => ih _ _ _ hw' (hn v hv))

theorem anyTail_first {n i : Nat} {oi : Oper} {V : Value → Prop} {L : Array Bool → Act → Prop} (hi : ops[i]? = some oi) (hsel : ∀ (j : Nat) (o : Oper) cs b, ops[j]? = some o → o.op ≠ .select cs b) (hne : ∃ v, V v)
    (hs : Region.sinkB md ops n = true) (hc : Region.chainB md ops n = true) (hn : n < ops.size) (hin : i < n)
    (hdone : ∀ listed a, L listed a → ∀ j ∈ Region.ready md ops listed, n ≤ j) :
    ∀ (f : Nat) (listed : Array Bool) (a : Act), HeadInv md ops n listed →
      (∀ j oj, ops[j]? = some oj → j ≠ i → listed.getD j true = false → (∀ e ∈ oj.after, Region.binds md e = true → e.on ≠ i) → oi.apart ops oj = true) →
      i ∈ Region.ready md ops listed → Gives P ops C K oi a V →
      (∀ v, V v → anyTail P ops md C K n L f (listed.setIfInBounds i true) (a.put oi.dst v)) → anyTail P ops md C K n L (f + 1) listed a := by
  intro f
  induction f with
  | zero =>
    intro listed a inv _ hr hg H
    have hun := (mem_ready.1 hr).1
    refine ⟨fun h => (by rw [h] at hr; cases hr), fun j hj => ?_⟩
    have hjn : j < n := by
      rcases Nat.lt_or_ge j n with h | h
      · exact h
      · exact absurd hj (tail_waits hs hc hn inv _ i rfl hin hun j h)
    refine ⟨hjn, fun o ho => ?_⟩
    by_cases hji : j = i
    · subst hji
      rw [hi] at ho; cases ho
      exact ⟨V, hg, H⟩
    · obtain ⟨v, hv⟩ := hne
      have := hdone _ _ (H v hv) j (ready_mono hj hji)
      omega
  | succ f ih =>
    intro listed a inv hfree hr hg H
    have hun := (mem_ready.1 hr).1
    refine ⟨fun h => (by rw [h] at hr; cases hr), fun j hj => ?_⟩
    have hjn : j < n := by
      rcases Nat.lt_or_ge j n with h | h
      · exact h
      · exact absurd hj (tail_waits hs hc hn inv _ i rfl hin hun j h)
    refine ⟨hjn, fun o ho => ?_⟩
    by_cases hji : j = i
    · subst hji
      rw [hi] at ho; cases ho
      exact ⟨V, hg, H⟩
    · obtain ⟨hjun, oj, hoj, hall⟩ := mem_ready.1 hj
      rw [ho] at hoj; cases hoj
      have hnot : ∀ e ∈ o.after, Region.binds md e = true → e.on ≠ i := fun e he hb heq => by
        have h1 := hall e he hb
        rw [heq, getD_both hun] at h1
        cases h1
      have hap := hfree j o ho hji hjun hnot
      obtain ⟨a1, a2, a3⟩ := Oper.apart_spec hap
      have hsi := fun cs b => hsel i oi cs b hi
      have hsj := fun cs b => hsel j o cs b ho
      have hU : ∀ v : {v // V v}, ∃ U, Gives P ops C K o (a.put oi.dst v.1) U ∧ ∀ u, U u → anyTail P ops md C K n L f ((listed.setIfInBounds i true).setIfInBounds j true) ((a.put oi.dst v.1).put o.dst u) :=
        fun v => ((H v.1 v.2).2 j (ready_mono hj hji)).2 o ho
      obtain ⟨v0, hv0⟩ := hne
      let good : Value → Prop := fun u => ∀ v : {v // V v}, True → anyTail P ops md C K n L f ((listed.setIfInBounds i true).setIfInBounds j true) ((a.put oi.dst v.1).put o.dst u)
      have hone : ∀ v : {v // V v}, Gives P ops C K o a (fun u => anyTail P ops md C K n L f ((listed.setIfInBounds i true).setIfInBounds j true) ((a.put oi.dst v.1).put o.dst u)) := fun v => by
        obtain ⟨U, h1, h2⟩ := hU v
        have h1' : Gives P ops C K o a U := h1.same (execOp_put o hsj a oi.dst v.1 a1).symm (wanted_put o a oi.dst v.1 a1).symm
        rcases h1' with ⟨hw, h3⟩ | ⟨hw, h3⟩
        · exact .inl ⟨hw, fun w hw' => within_mono h2 (h3 w hw')⟩
        · exact .inr ⟨hw, h2 _ h3⟩
      have hgood : Gives P ops C K o a good := by
        by_cases hw : Region.wanted o (yielded ops a.tmps) = true
        · refine .inl ⟨hw, fun w hw' => ?_⟩
          refine within_all ⟨⟨v0, hv0⟩, trivial⟩ (fun v _ => ?_)
          rcases hone v with ⟨_, h3⟩ | ⟨h3, _⟩
          · exact h3 w hw'
          · rw [hw] at h3; cases h3
        · refine .inr ⟨by simpa using hw, fun v _ => ?_⟩
          rcases hone v with ⟨h3, _⟩ | ⟨_, h3⟩
          · exact absurd h3 hw
          · exact h3
      refine ⟨good, hgood, ?_⟩
      intro u hu
      have hfree' : ∀ k ok, ops[k]? = some ok → k ≠ i → (listed.setIfInBounds j true).getD k true = false →
          (∀ e ∈ ok.after, Region.binds md e = true → e.on ≠ i) → oi.apart ops ok = true := fun k ok hk hki hun hno => by
        refine hfree k ok hk hki ?_ hno
        by_cases hjk : j = k
        · subst hjk; exact hjun
        · rw [getD_set_ne true hjk] at hun; exact hun
      refine ih (listed.setIfInBounds j true) (a.put o.dst u) (inv.set hj hjn) hfree' (ready_mono hr (Ne.symm hji)) (hg.same (execOp_put oi hsi a o.dst u a3) (wanted_put oi a o.dst u a3)) (fun v hv => ?_)
      rw [Array.setIfInBounds_comm _ _ hji, ← Act.put_comm a v u a2]
      exact hu ⟨v, hv⟩ trivial

theorem anyTail_lex {n g : Nat} {Lq : Act → Prop} (hC : ∃ w, C w) (hsel : Region.noSelect ops = true) (hs : Region.sinkB md ops n = true) (hc : Region.chainB md ops n = true) (hn : n < ops.size) :
    ∀ (l : List Oper) (k : Nat) (listed : Array Bool) (a : Act), (∀ j, j < l.length → l[j]? = ops[k + j]?) → k + l.length = n → HeadInv md ops n listed →
    Region.lexHead md ops g l.length k listed = true → wpLoose P ops C K Lq l a →
    anyTail P ops md C K n (fun listed' a' => Region.seqB md ops g n listed' = true ∧ Lq a') l.length listed a := by
  intro l
  induction l with
  | nil =>
    intro k listed a _ hk _ hB h
    have : k = n := by simpa using hk
    subst this
    exact ⟨by simpa [Region.lexHead] using hB, h⟩
  | cons o l ih =>
    intro k listed a hl hk inv hB h
    have h0 : ops[k]? = some o := by simpa using (hl 0 (by simp)).symm
    simp only [List.length_cons, Region.lexHead, Bool.and_eq_true] at hB
    obtain ⟨⟨hr, hf⟩, hB'⟩ := hB
    have hkn : k < n := by simp only [List.length_cons] at hk; omega
    have hr' : k ∈ Region.ready md ops listed := by simpa using hr
    obtain ⟨V, hg, hnext⟩ := h
    exact anyTail_first h0 (Region.noSelect_spec hsel) (hg.some hC) hs hc hn hkn (fun listed' a' hL => seqB_ready hL.1) l.length listed a inv (Region.free_spec h0 hf) hr' hg
      (fun v hv => ih (k + 1) _ _ (fun j hj => by have := hl (j + 1) (by simp; omega); simpa [Nat.add_assoc, Nat.add_comm 1 j] using this) (by simp only [List.length_cons] at hk; omega) (inv.set hr' hkn) hB' (hnext v hv))

/-- ONE WALK SERVES EVERY ORDER; then the last operations, in theirs. -/
theorem wp_region_tail (K : FuncId → Array Value → Value → Prop) {id : Nat} {Q : Exit → Act → World → Prop} {a : Act} {w : World} {l : List Oper} (n : Nat) (hm : P.follows .mixedOrders = true) (hB : Region.lexTailB .any l.toArray n = true)
    (h : wpLoose P l.toArray (fun w' => ∃ m, w' = w.drewN m) K (fun a' => ∀ m, wpList P l.toArray Q (l.drop n) a' (w.drewN m)) (l.take n) a) : (Code.region id l.toArray true).wp P Q a w := by
  simp only [Region.lexTailB, Bool.and_eq_true, decide_eq_true_eq] at hB
  obtain ⟨⟨⟨⟨hsel, hn⟩, hs⟩, hc⟩, hlex⟩ := hB
  have hn' : n < l.length := by simpa using hn
  have htl : (l.take n).length = n := by simp; omega
  have hdl : (l.drop n).length = l.toArray.size - n := by simp
  have hC : ∃ m, ({ w with drawn := w.drawn + 1 } : World) = w.drewN m := ⟨1, rfl⟩
  have inv0 : HeadInv .any l.toArray n (Array.replicate l.toArray.size false) :=
    ⟨by simp, fun j oj _ hl => (by rw [getD_replicate_false] at hl; cases hl), fun t _ ht => getD_in (by simpa using ht) (getD_replicate_false _ _)⟩
  have H := anyTail_lex (md := .any) (C := fun w' => ∃ m, w' = w.drewN m) (g := l.toArray.size - n) ⟨_, hC⟩ hsel hs hc hn (l.take n) 0 _ a (fun j hj => by
    have hj' : j < n := by rw [htl] at hj; exact hj
    simp [hj']) (by simpa using htl) inv0 (by rw [htl]; exact hlex) h
  refine wp_region_any hm ?_
  have := anyTail_sound (Q' := Q) (C := fun w' => ∃ m, w' = w.drewN m) (g := l.toArray.size - n) (fun listed a' w' hw' hL => by
    obtain ⟨m, rfl⟩ := hw'
    have := wpAny_of_seq (md := .any) (Q' := Q) (l.drop n) n listed a' (w.drewN m) (fun j => by simp [List.getElem?_drop]) (by rw [hdl]; exact hL.1) (hL.2 m)
    rwa [hdl] at this) _ _ _ _ hC H
  rw [htl, show n + (l.toArray.size - n) = l.toArray.size by omega] at this
  exact this
end
end Go.Fk

/- Blocks of 16 floats: 'laws.toBlock', 'laws.eqBlock'. -/
namespace Go.Fk
open Go Go.RowKit
/-- A block of 16 floats is given, each up to the bits of NaN; nothing old is written. -/
def OutB (F : Nat → Nat) (w : World) (e : Ending) (w' : World) : Prop := ∃ g, e = .returned (.agg (ftab .f32 g 16)) ∧ (∀ j, j < 16 → can .f32 (g j) = F j ∧ fits .f32 (g j)) ∧ Below w.heap.size w w'
/-- One cell more of a row that is being filled. -/
theorem fill_step {α : Type} {p : Nat → α → Prop} {g : Nat → α} {k : Nat} {r : α} (h : ∀ j, j < k → p j (g j)) (hr : p k r) : ∀ j, j < k + 1 → p j (if j = k then r else g j) := by
  intro j hj
  by_cases e : j = k
  · subst e; simpa using hr
  · simpa [e] using h j (by omega)
theorem rest_step {α : Type} {g x : Nat → α} {k : Nat} {r : α} (h : ∀ j, k ≤ j → g j = x j) : ∀ j, k + 1 ≤ j → (if j = k then r else g j) = x j := by
  intro j hj
  rw [if_neg (by omega)]
  exact h j (by omega)
end Go.Fk
namespace Go.Proofs.Ytmacednkpjfokaa
open Go.RowKit Go.Fk

theorem infoBlk : (Try.prog.info? 29).map (·.size) = some 16 := by kernel_rfl

theorem allocBlk (w : World) : (Instr.alloc 29 true (.tuple #[])).run Try.prog w = .ok (.pointer (some ⟨w.heap.size, 0, none⟩)) (w.alloc (.cells (ftab .f32 (fun _ => 0) 16) 29)) := by kernel_rfl

theorem toBlock_any (x : Nat → Nat) (w : World) : Calls Try.prog 15 #[.agg (ftab .f32 x 16)] w fun e w' => e = .returned (.agg (ftab .f32 x 16)) ∧ Below w.heap.size w w' := by
  go_enter Try.func15, Try.ntmps15
  go_wp2
  go_loopw [4] (fun i wr => ∃ k : Nat, k ≤ 16 ∧ i = .int .i64 k ∧ Row wr w.heap.size 27 (ftab .f32 x 16) ∧ (∃ z, Row wr (w.heap.size + 1) 29 (ftab .f32 z 16)) ∧ Row wr (w.heap.size + 1 + 1) 29 (ftab .f32 (fun j => if j < k then x j else 0) 16) ∧ Below w.heap.size w wr) (fun i _ => 16 - (intOf i).toNat)
  case atStart =>
    refine ⟨0, by omega, rfl, ?_, ⟨fun _ => 0, ?_⟩, ?_, by repeat' (first | (with_reducible exact Below.refl _ _) | (with_reducible assumption) | (with_reducible refine below_drewN ?_ _) | (with_reducible refine Below.alloc ?_ ?_ _) | (with_reducible refine Below.drew ?_) | (with_reducible refine Below.setCell ?_ ?_ _) | go_size)⟩
    · exact ((Row.new w _ _).alloc _).alloc _
    · exact (Row.new' _ _ _ (by simp)).alloc _
    · exact Row.new' _ _ _ (by simp)
  case round =>
    obtain ⟨k, hk, rfl, hA, ⟨z, hZ⟩, hO, hb⟩ := hrel
    by_cases hlt : k < 16
    · have c1 := hA.ftab hlt
      have c2 := hO.ftab hlt
      have f2 := hO.frozen k
      have HA := hid hA; clear hA
      have HZ := hid hZ; clear hZ
      have HO := hid hO; clear hO
      go_wp2
      go_roundw
      case rel =>
        refine ⟨k + 1, by omega, by go_num, HA.out.other _ _ (by simp; omega), ⟨z, HZ.out.other _ _ (by simp)⟩, ?_, hb.setCell (by simp; omega) _⟩
        have h := HO.out.set k (.float .f32 (x k))
        rw [set_ftab] at h
        rw [show (fun j => if j < k + 1 then x j else 0) = (fun j => if j = k then x k else if j < k then x j else 0) from ?_]
        · exact h
        · funext j
          by_cases e : j = k
          · subst e; simp
          · simp [e, show (j < k + 1) = (j < k) by simp; omega]
      case measure => simp [intOf]; omega
    · obtain rfl : k = 16 := by omega
      rw [show ftab .f32 (fun j => if j < 16 then x j else 0) 16 = ftab .f32 x 16 from ftab_congr (fun j hj => if_pos hj)] at hO
      have HA := hid hA; clear hA
      have hsz : (Try.prog.info? 29).map (·.size) = some (ftab .f32 x 16).size := by rw [size_ftab]; exact infoBlk
      go_wp2_with (first | (with_reducible refine wpList_loadA rfl rfl rfl hO Try.underlying29 hsz ?_) | (with_reducible refine wpList_storeA rfl rfl rfl rfl hZ hsz (by rw [size_ftab, size_ftab]) (one_ftab _ _ _) ?_))
      exact bodyPost_ret (results_cell_row rfl _ _ _ _ _ (0, 0) _ rfl (hZ.setRow _) Try.underlying29 rfl hsz) rfl ⟨rfl, below_setRow hb (by omega) _⟩

theorem eqBlock_yes (x y : Nat → Nat) (w : World) (h : ∀ j, j < 16 → can .f32 (x j) = can .f32 (y j)) :
    Calls Try.prog 18 #[.agg (ftab .f32 x 16), .agg (ftab .f32 y 16)] w fun e w' => e = .returned (.bool true) ∧ Below w.heap.size w w' := by
  have H := hid h; clear h
  go_enter Try.func18, Try.ntmps18
  go_wp2
  go_loopw [5] (fun i wr => ∃ k : Nat, k ≤ 16 ∧ i = .int .i64 k ∧ Row wr w.heap.size 29 (ftab .f32 x 16) ∧ Row wr (w.heap.size + 1) 29 (ftab .f32 y 16) ∧ Below w.heap.size w wr) (fun i _ => 16 - (intOf i).toNat)
  case atStart =>
    exact ⟨0, by omega, rfl, (Row.new w _ _).alloc _, Row.new' _ _ _ (by simp), by repeat' (first | (with_reducible exact Below.refl _ _) | (with_reducible assumption) | (with_reducible refine below_drewN ?_ _) | (with_reducible refine Below.alloc ?_ ?_ _) | (with_reducible refine Below.drew ?_) | (with_reducible refine Below.setCell ?_ ?_ _) | go_size)⟩
  case round =>
    obtain ⟨k, hk, rfl, hA, hB, hb⟩ := hrel
    by_cases hlt : k < 16
    · have c1 := hA.ftab hlt
      have c2 := hB.ftab hlt
      have HA := hid hA; clear hA
      have HB := hid hB; clear hB
      have hxy := hid (H.out k hlt)
      go_wp2_with fail
      refine wp_region_loose (fun _ _ v => v = .bool true) (by kernel_rfl) (by kernel_rfl) ?_
      repeat (first | (with_reducible refine wpLoose_widen rfl rfl rfl Try.underlying22 Try.underlying63 ?_; intro r hr hf; simp only [Act.put, List.setIfInBounds_toArray, List.set_cons_succ, List.set_cons_zero]) | (refine wpLoose_quiet rfl ?_; go_big_quiet_step (fail); refine wpQuiet_nil ?_))
      refine wpLoose_any rfl (· = .bool true) (fun n => ?_) ?_
      · go_simp
        refine loose_of (sameFloat_yes _ _ _ ?_)
        have hr1 := ‹Hid (can .f64 _ = can .f64 (widen (x k)))›
        exact hr1.out.trans ((congrArg (can .f64) (widen_congr hxy)).trans hr.out.symm)
      · rintro v rfl
        simp only [Act.put, List.setIfInBounds_toArray, List.set_cons_succ, List.set_cons_zero]
        repeat (refine wpLoose_quiet rfl ?_; go_big_quiet_step (fail); refine wpQuiet_nil ?_)
        refine wpLoose_nil (fun n => ?_)
        go_wp2
        go_roundw
        case rel => exact ⟨k + 1, by omega, by go_num, HA.out.drewN _, HB.out.drewN _, below_drewN hb _⟩
        case measure => simp [intOf]; omega
    · obtain rfl : k = 16 := by omega
      have HA := hid hA; clear hA
      have HB := hid hB; clear hB
      go_wp2
      go_ret
      exact ⟨rfl, hb⟩
end Go.Proofs.Ytmacednkpjfokaa

/- Arrays of floats: 'laws.toX', 'laws.eqX' of [3]float32, [2]float32, Table. -/
namespace Go.Proofs.Ytmacednkpjfokaa
open Go.RowKit Go.Fk
theorem infoA3 : (Try.prog.info? 23).map (·.size) = some 3 := by kernel_rfl
theorem allocA3 (w : World) : (Instr.alloc 23 true (.tuple #[])).run Try.prog w = .ok (.pointer (some ⟨w.heap.size, 0, none⟩)) (w.alloc (.cells (ftab .f32 (fun _ => 0) 3) 23)) := by kernel_rfl
theorem eqA3_yes (x y : Nat → Nat) (w : World) (h : ∀ j, j < 3 → can .f32 (x j) = can .f32 (y j)) :
    Calls Try.prog 54 #[.agg (ftab .f32 x 3), .agg (ftab .f32 y 3)] w fun e w' => e = .returned (.bool true) ∧ Below w.heap.size w w' := by
  have H := hid h; clear h
  go_enter Try.func54, Try.ntmps54
  go_wp2
  go_loopw [5] (fun i wr => ∃ k : Nat, k ≤ 3 ∧ i = .int .i64 k ∧ Row wr w.heap.size 23 (ftab .f32 x 3) ∧ Row wr (w.heap.size + 1) 23 (ftab .f32 y 3) ∧ Below w.heap.size w wr) (fun i _ => 3 - (intOf i).toNat)
  case atStart =>
    exact ⟨0, by omega, rfl, (Row.new w _ _).alloc _, Row.new' _ _ _ (by simp), by repeat' (first | (with_reducible exact Below.refl _ _) | (with_reducible assumption) | (with_reducible refine below_drewN ?_ _) | (with_reducible refine Below.alloc ?_ ?_ _) | (with_reducible refine Below.drew ?_) | (with_reducible refine Below.setCell ?_ ?_ _) | go_size)⟩
  case round =>
    obtain ⟨k, hk, rfl, hA, hB, hb⟩ := hrel
    by_cases hlt : k < 3
    · have c1 := hA.ftab hlt
      have c2 := hB.ftab hlt
      have HA := hid hA; clear hA
      have HB := hid hB; clear hB
      have hxy := hid (H.out k hlt)
      go_wp2_with fail
      refine wp_region_loose (fun _ _ v => v = .bool true) (by kernel_rfl) (by kernel_rfl) ?_
      repeat (first | (with_reducible refine wpLoose_widen rfl rfl rfl Try.underlying22 Try.underlying63 ?_; intro r hr hf; simp only [Act.put, List.setIfInBounds_toArray, List.set_cons_succ, List.set_cons_zero]) | (refine wpLoose_quiet rfl ?_; go_big_quiet_step (fail); refine wpQuiet_nil ?_))
      refine wpLoose_any rfl (· = .bool true) (fun n => ?_) ?_
      · go_simp
        refine loose_of (sameFloat_yes _ _ _ ?_)
        have hr1 := ‹Hid (can .f64 _ = can .f64 (widen (x k)))›
        exact hr1.out.trans ((congrArg (can .f64) (widen_congr hxy)).trans hr.out.symm)
      · rintro v rfl
        simp only [Act.put, List.setIfInBounds_toArray, List.set_cons_succ, List.set_cons_zero]
        repeat (refine wpLoose_quiet rfl ?_; go_big_quiet_step (fail); refine wpQuiet_nil ?_)
        refine wpLoose_nil (fun n => ?_)
        go_wp2
        go_roundw
        case rel => exact ⟨k + 1, by omega, by go_num, HA.out.drewN _, HB.out.drewN _, below_drewN hb _⟩
        case measure => simp [intOf]; omega
    · obtain rfl : k = 3 := by omega
      have HA := hid hA; clear hA
      have HB := hid hB; clear hB
      go_wp2
      go_ret
      exact ⟨rfl, hb⟩
theorem toA3_any (x : Nat → Nat) (w : World) : Calls Try.prog 49 #[.agg (ftab .f32 x 3)] w fun e w' => e = .returned (.agg (ftab .f32 x 3)) ∧ Below w.heap.size w w' := by
  go_enter Try.func49, Try.ntmps49
  go_wp2
  go_loopw [4] (fun i wr => ∃ k : Nat, k ≤ 3 ∧ i = .int .i64 k ∧ Row wr w.heap.size 23 (ftab .f32 x 3) ∧ (∃ z, Row wr (w.heap.size + 1) 23 (ftab .f32 z 3)) ∧ Row wr (w.heap.size + 1 + 1) 23 (ftab .f32 (fun j => if j < k then x j else 0) 3) ∧ Below w.heap.size w wr) (fun i _ => 3 - (intOf i).toNat)
  case atStart =>
    refine ⟨0, by omega, rfl, ?_, ⟨fun _ => 0, ?_⟩, ?_, by repeat' (first | (with_reducible exact Below.refl _ _) | (with_reducible assumption) | (with_reducible refine below_drewN ?_ _) | (with_reducible refine Below.alloc ?_ ?_ _) | (with_reducible refine Below.drew ?_) | (with_reducible refine Below.setCell ?_ ?_ _) | go_size)⟩
    · exact ((Row.new w _ _).alloc _).alloc _
    · exact (Row.new' _ _ _ (by simp)).alloc _
    · exact Row.new' _ _ _ (by simp)
  case round =>
    obtain ⟨k, hk, rfl, hA, ⟨z, hZ⟩, hO, hb⟩ := hrel
    by_cases hlt : k < 3
    · have c1 := hA.ftab hlt
      have c2 := hO.ftab hlt
      have f2 := hO.frozen k
      have HA := hid hA; clear hA
      have HZ := hid hZ; clear hZ
      have HO := hid hO; clear hO
      go_wp2
      go_roundw
      case rel =>
        refine ⟨k + 1, by omega, by go_num, HA.out.other _ _ (by simp; omega), ⟨z, HZ.out.other _ _ (by simp)⟩, ?_, hb.setCell (by simp; omega) _⟩
        have h := HO.out.set k (.float .f32 (x k))
        rw [set_ftab] at h
        rw [show (fun j => if j < k + 1 then x j else 0) = (fun j => if j = k then x k else if j < k then x j else 0) from ?_]
        · exact h
        · funext j
          by_cases e : j = k
          · subst e; simp
          · simp [e, show (j < k + 1) = (j < k) by simp; omega]
      case measure => simp [intOf]; omega
    · obtain rfl : k = 3 := by omega
      rw [show ftab .f32 (fun j => if j < 3 then x j else 0) 3 = ftab .f32 x 3 from ftab_congr (fun j hj => if_pos hj)] at hO
      have HA := hid hA; clear hA
      have hsz : (Try.prog.info? 23).map (·.size) = some (ftab .f32 x 3).size := by rw [size_ftab]; exact infoA3
      go_wp2_with (first | (with_reducible refine wpList_loadA rfl rfl rfl hO Try.underlying23 hsz ?_) | (with_reducible refine wpList_storeA rfl rfl rfl rfl hZ hsz (by rw [size_ftab, size_ftab]) (one_ftab _ _ _) ?_))
      exact bodyPost_ret (results_cell_row rfl _ _ _ _ _ (0, 0) _ rfl (hZ.setRow _) Try.underlying23 rfl hsz) rfl ⟨rfl, below_setRow hb (by omega) _⟩
theorem infoA2 : (Try.prog.info? 24).map (·.size) = some 2 := by kernel_rfl
theorem allocA2 (w : World) : (Instr.alloc 24 true (.tuple #[])).run Try.prog w = .ok (.pointer (some ⟨w.heap.size, 0, none⟩)) (w.alloc (.cells (ftab .f32 (fun _ => 0) 2) 24)) := by kernel_rfl
theorem eqA2_yes (x y : Nat → Nat) (w : World) (h : ∀ j, j < 2 → can .f32 (x j) = can .f32 (y j)) :
    Calls Try.prog 55 #[.agg (ftab .f32 x 2), .agg (ftab .f32 y 2)] w fun e w' => e = .returned (.bool true) ∧ Below w.heap.size w w' := by
  have H := hid h; clear h
  go_enter Try.func55, Try.ntmps55
  go_wp2
  go_loopw [5] (fun i wr => ∃ k : Nat, k ≤ 2 ∧ i = .int .i64 k ∧ Row wr w.heap.size 24 (ftab .f32 x 2) ∧ Row wr (w.heap.size + 1) 24 (ftab .f32 y 2) ∧ Below w.heap.size w wr) (fun i _ => 2 - (intOf i).toNat)
  case atStart =>
    exact ⟨0, by omega, rfl, (Row.new w _ _).alloc _, Row.new' _ _ _ (by simp), by repeat' (first | (with_reducible exact Below.refl _ _) | (with_reducible assumption) | (with_reducible refine below_drewN ?_ _) | (with_reducible refine Below.alloc ?_ ?_ _) | (with_reducible refine Below.drew ?_) | (with_reducible refine Below.setCell ?_ ?_ _) | go_size)⟩
  case round =>
    obtain ⟨k, hk, rfl, hA, hB, hb⟩ := hrel
    by_cases hlt : k < 2
    · have c1 := hA.ftab hlt
      have c2 := hB.ftab hlt
      have HA := hid hA; clear hA
      have HB := hid hB; clear hB
      have hxy := hid (H.out k hlt)
      go_wp2_with fail
      refine wp_region_loose (fun _ _ v => v = .bool true) (by kernel_rfl) (by kernel_rfl) ?_
      repeat (first | (with_reducible refine wpLoose_widen rfl rfl rfl Try.underlying22 Try.underlying63 ?_; intro r hr hf; simp only [Act.put, List.setIfInBounds_toArray, List.set_cons_succ, List.set_cons_zero]) | (refine wpLoose_quiet rfl ?_; go_big_quiet_step (fail); refine wpQuiet_nil ?_))
      refine wpLoose_any rfl (· = .bool true) (fun n => ?_) ?_
      · go_simp
        refine loose_of (sameFloat_yes _ _ _ ?_)
        have hr1 := ‹Hid (can .f64 _ = can .f64 (widen (x k)))›
        exact hr1.out.trans ((congrArg (can .f64) (widen_congr hxy)).trans hr.out.symm)
      · rintro v rfl
        simp only [Act.put, List.setIfInBounds_toArray, List.set_cons_succ, List.set_cons_zero]
        repeat (refine wpLoose_quiet rfl ?_; go_big_quiet_step (fail); refine wpQuiet_nil ?_)
        refine wpLoose_nil (fun n => ?_)
        go_wp2
        go_roundw
        case rel => exact ⟨k + 1, by omega, by go_num, HA.out.drewN _, HB.out.drewN _, below_drewN hb _⟩
        case measure => simp [intOf]; omega
    · obtain rfl : k = 2 := by omega
      have HA := hid hA; clear hA
      have HB := hid hB; clear hB
      go_wp2
      go_ret
      exact ⟨rfl, hb⟩
theorem toA2_any (x : Nat → Nat) (w : World) : Calls Try.prog 50 #[.agg (ftab .f32 x 2)] w fun e w' => e = .returned (.agg (ftab .f32 x 2)) ∧ Below w.heap.size w w' := by
  go_enter Try.func50, Try.ntmps50
  go_wp2
  go_loopw [4] (fun i wr => ∃ k : Nat, k ≤ 2 ∧ i = .int .i64 k ∧ Row wr w.heap.size 24 (ftab .f32 x 2) ∧ (∃ z, Row wr (w.heap.size + 1) 24 (ftab .f32 z 2)) ∧ Row wr (w.heap.size + 1 + 1) 24 (ftab .f32 (fun j => if j < k then x j else 0) 2) ∧ Below w.heap.size w wr) (fun i _ => 2 - (intOf i).toNat)
  case atStart =>
    refine ⟨0, by omega, rfl, ?_, ⟨fun _ => 0, ?_⟩, ?_, by repeat' (first | (with_reducible exact Below.refl _ _) | (with_reducible assumption) | (with_reducible refine below_drewN ?_ _) | (with_reducible refine Below.alloc ?_ ?_ _) | (with_reducible refine Below.drew ?_) | (with_reducible refine Below.setCell ?_ ?_ _) | go_size)⟩
    · exact ((Row.new w _ _).alloc _).alloc _
    · exact (Row.new' _ _ _ (by simp)).alloc _
    · exact Row.new' _ _ _ (by simp)
  case round =>
    obtain ⟨k, hk, rfl, hA, ⟨z, hZ⟩, hO, hb⟩ := hrel
    by_cases hlt : k < 2
    · have c1 := hA.ftab hlt
      have c2 := hO.ftab hlt
      have f2 := hO.frozen k
      have HA := hid hA; clear hA
      have HZ := hid hZ; clear hZ
      have HO := hid hO; clear hO
      go_wp2
      go_roundw
      case rel =>
        refine ⟨k + 1, by omega, by go_num, HA.out.other _ _ (by simp; omega), ⟨z, HZ.out.other _ _ (by simp)⟩, ?_, hb.setCell (by simp; omega) _⟩
        have h := HO.out.set k (.float .f32 (x k))
        rw [set_ftab] at h
        rw [show (fun j => if j < k + 1 then x j else 0) = (fun j => if j = k then x k else if j < k then x j else 0) from ?_]
        · exact h
        · funext j
          by_cases e : j = k
          · subst e; simp
          · simp [e, show (j < k + 1) = (j < k) by simp; omega]
      case measure => simp [intOf]; omega
    · obtain rfl : k = 2 := by omega
      rw [show ftab .f32 (fun j => if j < 2 then x j else 0) 2 = ftab .f32 x 2 from ftab_congr (fun j hj => if_pos hj)] at hO
      have HA := hid hA; clear hA
      have hsz : (Try.prog.info? 24).map (·.size) = some (ftab .f32 x 2).size := by rw [size_ftab]; exact infoA2
      go_wp2_with (first | (with_reducible refine wpList_loadA rfl rfl rfl hO Try.underlying24 hsz ?_) | (with_reducible refine wpList_storeA rfl rfl rfl rfl hZ hsz (by rw [size_ftab, size_ftab]) (one_ftab _ _ _) ?_))
      exact bodyPost_ret (results_cell_row rfl _ _ _ _ _ (0, 0) _ rfl (hZ.setRow _) Try.underlying24 rfl hsz) rfl ⟨rfl, below_setRow hb (by omega) _⟩
end Go.Proofs.Ytmacednkpjfokaa

/- Filters: 'laws.toFilter', 'laws.eqFilter'. -/
namespace Go.Fk
open Go Go.RowKit
/-- A row of three, of two. -/
def tri (a b c : Nat) : Nat → Nat | 0 => a | 1 => b | _ => c
def duo (a b : Nat) : Nat → Nat | 0 => a | _ => b
theorem tri_tab (a b c : Nat) : ftab .f32 (tri a b c) 3 = #[.float .f32 a, .float .f32 b, .float .f32 c] := rfl
theorem duo_tab (a b : Nat) : ftab .f32 (duo a b) 2 = #[.float .f32 a, .float .f32 b] := rfl
theorem fil_tab (k : Int) (a b c x y : Nat) : ((#[.int .i64 k, .float .f32 a, .float .f32 b, .float .f32 c, .float .f32 x, .float .f32 y] : Array Value) : Array Value).size = 6 := rfl
theorem tri_can {a b c a' b' c' : Nat} (h1 : can .f32 a = can .f32 a') (h2 : can .f32 b = can .f32 b') (h3 : can .f32 c = can .f32 c') : ∀ j, j < 3 → can .f32 (tri a b c j) = can .f32 (tri a' b' c' j) := by
  intro j hj
  match j, hj with
  | 0, _ => exact h1
  | 1, _ => exact h2
  | 2, _ => exact h3
theorem duo_can {a b a' b' : Nat} (h1 : can .f32 a = can .f32 a') (h2 : can .f32 b = can .f32 b') : ∀ j, j < 2 → can .f32 (duo a b j) = can .f32 (duo a' b' j) := by
  intro j hj
  match j, hj with
  | 0, _ => exact h1
  | 1, _ => exact h2
end Go.Fk
namespace Go.Proofs.Ytmacednkpjfokaa
open Go.RowKit Go.Fk
theorem infoFil : (Try.prog.info? 28).map (·.size) = some 6 := by kernel_rfl
theorem info3 : (Try.prog.info? 23).map (·.size) = some 3 := by kernel_rfl
theorem info2 : (Try.prog.info? 24).map (·.size) = some 2 := by kernel_rfl
theorem infoFilL : (Try.prog.info? 26).map (·.size) = some 6 := by kernel_rfl
theorem eqFil_yes (k : Int) (a b c x y a' b' c' x' y' : Nat) (w : World) (h1 : can .f32 a = can .f32 a') (h2 : can .f32 b = can .f32 b') (h3 : can .f32 c = can .f32 c') (h4 : can .f32 x = can .f32 x') (h5 : can .f32 y = can .f32 y') :
    Calls Try.prog 17 #[(.agg #[.int .i64 k, .float .f32 a, .float .f32 b, .float .f32 c, .float .f32 x, .float .f32 y]), (.agg #[.int .i64 k, .float .f32 a', .float .f32 b', .float .f32 c', .float .f32 x', .float .f32 y'])] w fun e w' => e = .returned (.bool true) ∧ Below w.heap.size w w' := by
  have H3 := hid (tri_can h1 h2 h3)
  have H2 := hid (duo_can h4 h5)
  clear h1 h2 h3 h4 h5
  go_enter Try.func17, Try.ntmps17
  go_upto_region 1 with (fail)
  obtain ⟨W, hW⟩ : ∃ W, W = (w.alloc (.cells (#[.int .i64 k, .float .f32 a, .float .f32 b, .float .f32 c, .float .f32 x, .float .f32 y] : Array Value) 28)).alloc (.cells (#[.int .i64 k, .float .f32 a', .float .f32 b', .float .f32 c', .float .f32 x', .float .f32 y'] : Array Value) 28) := ⟨_, rfl⟩
  rw [← hW]
  have R1 : Row W w.heap.size 28 (#[.int .i64 k, .float .f32 a, .float .f32 b, .float .f32 c, .float .f32 x, .float .f32 y] : Array Value) := by rw [hW]; exact (Row.new _ _ _).alloc _
  have R2 : Row W (w.heap.size + 1) 28 (#[.int .i64 k, .float .f32 a', .float .f32 b', .float .f32 c', .float .f32 x', .float .f32 y'] : Array Value) := by rw [hW]; exact Row.new' _ _ _ (by simp)
  have hb : Below w.heap.size w W := by rw [hW]; repeat' (first | (with_reducible exact Below.refl _ _) | (with_reducible assumption) | (with_reducible refine below_drewN ?_ _) | (with_reducible refine Below.alloc ?_ ?_ _) | (with_reducible refine Below.drew ?_) | (with_reducible refine Below.setCell ?_ ?_ _) | go_size)
  have c1 := R1.cell? 0
  have c2 := R2.cell? 0
  clear hW
  go_wp2_with (first | (with_reducible refine wpList_load3 rfl rfl rfl (by with_reducible assumption) Try.underlying23 rfl info3 ?_) | (with_reducible refine wpList_load2 rfl rfl rfl (by with_reducible assumption) Try.underlying24 rfl info2 ?_) | (go_at_call 54; refine (eqA3_yes (tri a b c) (tri a' b' c') _ H3.out).mono ?_; rintro e w1 ⟨rfl, hb1⟩; replace R1 := R1.below hb1 (by have := R1.lt; omega); replace R2 := R2.below hb1 (by have := R2.lt; omega)) | (go_at_call 55; refine (eqA2_yes (duo x y) (duo x' y') _ H2.out).mono ?_; rintro e w2 ⟨rfl, hb2⟩))
  go_ret
  exact ⟨rfl, le_trans (le_trans hb hb1) hb2⟩
theorem toA3_lit (a b c : Nat) (w : World) : Calls Try.prog 49 #[.agg #[.float .f32 a, .float .f32 b, .float .f32 c]] w fun e w' => e = .returned (.agg #[.float .f32 a, .float .f32 b, .float .f32 c]) ∧ Below w.heap.size w w' := by
  have h := toA3_any (tri a b c) w
  rwa [tri_tab] at h
theorem toA2_lit (a b : Nat) (w : World) : Calls Try.prog 50 #[.agg #[.float .f32 a, .float .f32 b]] w fun e w' => e = .returned (.agg #[.float .f32 a, .float .f32 b]) ∧ Below w.heap.size w w' := by
  have h := toA2_any (duo a b) w
  rwa [duo_tab] at h
set_option maxRecDepth 100000 in
theorem toFil_any (k : Int) (a b c x y : Nat) (w : World) : Calls Try.prog 14 #[(.agg #[.int .i64 k, .float .f32 a, .float .f32 b, .float .f32 c, .float .f32 x, .float .f32 y])] w fun e w' => e = .returned (.agg #[.int .i64 k, .float .f32 a, .float .f32 b, .float .f32 c, .float .f32 x, .float .f32 y]) ∧ Below w.heap.size w w' := by
  go_enter Try.func14, Try.ntmps14
  go_upto_region 2 with (fail)
  obtain ⟨W, hW⟩ : ∃ W, W = ((w.alloc (.cells (#[.int .i64 k, .float .f32 a, .float .f32 b, .float .f32 c, .float .f32 x, .float .f32 y] : Array Value) 26)).alloc (.cells (#[.int .i64 0, .float .f32 0, .float .f32 0, .float .f32 0, .float .f32 0, .float .f32 0] : Array Value) 28)).alloc (.cells (#[.int .i64 0, .float .f32 0, .float .f32 0, .float .f32 0, .float .f32 0, .float .f32 0] : Array Value) 28) := ⟨_, rfl⟩
  rw [← hW]
  have R1 : Row W w.heap.size 26 (#[.int .i64 k, .float .f32 a, .float .f32 b, .float .f32 c, .float .f32 x, .float .f32 y] : Array Value) := by rw [hW]; exact ((Row.new _ _ _).alloc _).alloc _
  have R2 : Row W (w.heap.size + 1) 28 (#[.int .i64 0, .float .f32 0, .float .f32 0, .float .f32 0, .float .f32 0, .float .f32 0] : Array Value) := by rw [hW]; exact (Row.new' _ _ _ (by simp)).alloc _
  have R3 : Row W (w.heap.size + 1 + 1) 28 (#[.int .i64 0, .float .f32 0, .float .f32 0, .float .f32 0, .float .f32 0, .float .f32 0] : Array Value) := by rw [hW]; exact Row.new' _ _ _ (by simp)
  have hb : le w W := by rw [hW]; unfold le; repeat' (first | (with_reducible exact Below.refl _ _) | (with_reducible assumption) | (with_reducible refine below_drewN ?_ _) | (with_reducible refine Below.alloc ?_ ?_ _) | (with_reducible refine Below.drew ?_) | (with_reducible refine Below.setCell ?_ ?_ _) | go_size)
  have c1 := R1.cell? 0
  have c3 := R3.cell? 0
  have f3 := R3.frozen 0
  have hs := R3.lt
  clear hW
  go_upto_region 3 with (fail)
  obtain ⟨V, hV⟩ : ∃ V, V = W.setCell ⟨w.heap.size + 1 + 1, 0, none⟩ (.int .i64 k) := ⟨_, rfl⟩
  rw [← hV]
  replace R1 := R1.other ⟨w.heap.size + 1 + 1, 0, none⟩ (.int .i64 k) (by simp; omega)
  rw [← hV] at R1
  replace R2 := R2.other ⟨w.heap.size + 1 + 1, 0, none⟩ (.int .i64 k) (by simp)
  rw [← hV] at R2
  replace R3 : Row V (w.heap.size + 1 + 1) 28 (#[.int .i64 k, .float .f32 0, .float .f32 0, .float .f32 0, .float .f32 0, .float .f32 0] : Array Value) := by rw [hV]; exact R3.set 0 _
  replace hb : le w V := by rw [hV]; exact Below.setCell hb (by simp; omega) _
  clear hV c1 c3 f3
  go_wp2_with (first | (with_reducible refine wpList_load3 rfl rfl rfl (by with_reducible assumption) Try.underlying23 rfl info3 ?_) | (with_reducible refine wpList_load2 rfl rfl rfl (by with_reducible assumption) Try.underlying24 rfl info2 ?_) | (go_at_call 49; refine (toA3_lit a b c _).mono ?_; rintro e w1 ⟨rfl, hb1⟩; replace R1 := R1.below hb1 R1.lt; replace R2 := R2.below hb1 R2.lt; replace R3 := R3.below hb1 R3.lt; replace hb := le_trans hb hb1) | (go_at_call 50; refine (toA2_lit x y _).mono ?_; rintro e w1 ⟨rfl, hb1⟩; replace R1 := R1.below hb1 R1.lt; replace R2 := R2.below hb1 R2.lt; replace R3 := R3.below hb1 R3.lt; replace hb := le_trans hb hb1) | (refine wpList_store3 (u1 := .float .f32 a) (u2 := .float .f32 b) (u3 := .float .f32 c) rfl rfl rfl rfl R3 info3 (by simp [Value.oneCell']) ?_; intro w2 K; replace R1 := K.other _ _ _ (by omega) R1; replace R2 := K.other _ _ _ (by omega) R2; replace R3 := K.row; replace hb := K.below _ _ hb (by omega); clear K) | (refine wpList_store2 (u1 := .float .f32 x) (u2 := .float .f32 y) rfl rfl rfl rfl R3 info2 (by simp [Value.oneCell']) ?_; intro w2 K; replace R1 := K.other _ _ _ (by omega) R1; replace R2 := K.other _ _ _ (by omega) R2; replace R3 := K.row; replace hb := K.below _ _ hb (by omega); clear K) | (with_reducible refine wpList_loadDn rfl rfl rfl R3 Try.underlying28 rfl infoFil (by simp) ?_) | (refine wpList_storeD rfl rfl rfl rfl R2 infoFil rfl (by simp [Value.oneCell']) ?_; intro w2 K; replace R2 := K.row; replace hb := K.below _ _ hb (by omega); clear K))
  exact bodyPost_ret (results_row1 rfl _ _ _ _ _ rfl R2 Try.underlying28 rfl infoFil) rfl ⟨rfl, hb⟩
end Go.Proofs.Ytmacednkpjfokaa

/- What math.Float32bits and math.Float32frombits give. -/
namespace Go.Proofs.Ytmacednkpjfokaa
open Go.RowKit Go.Fk

@[go_sem] theorem run_f32bits (x : Nat) (w : World) : (callFunc 94 #[.float .f32 x]).run Try.prog w = .ok (.value (.int .u32 x)) w := by
  rw [run_callFunc_extern (e := Extern.MathFloatBits.float32bits) Try.func94 (by kernel_rfl) (by kernel_rfl) (by kernel_rfl) (by kernel_rfl)]; rfl
end Go.Proofs.Ytmacednkpjfokaa

/- What math.Float32frombits gives. -/
namespace Go.Proofs.Ytmacednkpjfokaa
open Go.RowKit Go.Fk

@[go_sem] theorem run_f32from (x : Int) (w : World) : (callFunc 112 #[.int .u32 x]).run Try.prog w = .ok (.value (.float .f32 x.toNat)) w := by
  rw [run_callFunc_extern (e := Extern.MathFloatBits.float32frombits) Try.func112 (by kernel_rfl) (by kernel_rfl) (by kernel_rfl) (by kernel_rfl)]; rfl
end Go.Proofs.Ytmacednkpjfokaa
