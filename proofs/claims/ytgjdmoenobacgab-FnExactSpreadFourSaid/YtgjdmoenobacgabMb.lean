/- Texts of the walk, laid in one file. -/
import Derived.Test.YtgjdmoenobacgabMa
set_option linter.unusedVariables false
set_option linter.unusedSimpArgs false
/- As FreeT, but an operation may lean on what is known of the operations that it comes behind: so a region may write blocks that it has made itself. Nothing here names a program. -/
namespace Go.Fk
open Go Go.RowKit

/-- What is known of each operation's value. -/
abbrev Facts := Nat → World → Prop
def Facts.with (F : Facts) (k : Nat) (V : World → Prop) : Facts := fun e w => F e w ∧ (e = k → V w)
theorem Facts.with_of {F : Facts} {k : Nat} {V : World → Prop} {w : World} (h : ∀ e, (F.with k V) e w) : (∀ e, F e w) ∧ V w := ⟨fun e => (h e).1, (h k).2 rfl⟩
theorem Facts.with_mk {F : Facts} {k : Nat} {V : World → Prop} {w : World} (h : ∀ e, F e w) (hv : V w) : ∀ e, (F.with k V) e w := fun e => ⟨h e, fun _ => hv⟩

section
variable (E : Ext) (P : Program) (ops : Array Oper) (md : Region.Mode) (W : World) (K : FuncId → Array Value → World → Value → Prop)
/-- What is known where an operation comes up. -/
def behind (o : Oper) (F : Facts) (w : World) : Prop := ∀ e ∈ o.after, Region.binds md e = true → F e.on w
def YieldsD (o : Oper) (a : Act) (F : Facts) (V : World → Value → Prop) : Prop :=
  MonoT E V ∧ ((Region.wanted o (yielded ops a.tmps) = true ∧ ∀ w, E.R W w → behind md o F w → insideT E P K w V ((execOp a.eval o).run P w)) ∨ (Region.wanted o (yielded ops a.tmps) = false ∧ ∀ w, E.R W w → behind md o F w → V w undef))
/-- Some world may be met in which all of this is known. -/
def met (F : Facts) (V : World → Prop) : Prop := ∃ w, E.R W w ∧ (∀ e, F e w) ∧ V w
def wpFreeD (Q : Act → World → Prop) : List Oper → Nat → Act → Facts → Prop
  | [], _, a, F => ∀ w, E.R W w → (∀ e, F e w) → Q a w
  | o :: rest, k, a, F => ∃ V, YieldsD E P ops md W K o a F V ∧ ∀ v, met E W F (fun w => V w v) → wpFreeD Q rest (k + 1) (a.put o.dst v) (F.with k (fun w => V w v))
def anyFreeD (n : Nat) (L : Array Bool → Act → Facts → Prop) : Nat → Array Bool → Act → Facts → Prop
  | 0, listed, a, F => L listed a F
  | f + 1, listed, a, F => Region.ready md ops listed ≠ [] ∧
      ∀ i ∈ Region.ready md ops listed, i < n ∧ ∀ o, ops[i]? = some o → ∃ V, YieldsD E P ops md W K o a F V ∧ ∀ v, met E W F (fun w => V w v) → anyFreeD n L f (listed.setIfInBounds i true) (a.put o.dst v) (F.with i (fun w => V w v))
def FMono (F : Facts) : Prop := ∀ w w', E.R w w' → (∀ e, F e w) → ∀ e, F e w'
end

section
variable {E : Ext} {P : Program} {ops : Array Oper} {md : Region.Mode} {W : World} {K : FuncId → Array Value → World → Value → Prop}

theorem FMono.with {F : Facts} (h : FMono E F) {V : World → Value → Prop} (hV : MonoT E V) (k : Nat) (v : Value) : FMono E (F.with k (fun w => V w v)) := fun w w' hw hF =>
  Facts.with_mk (h w w' hw (Facts.with_of hF).1) (hV v w w' hw (Facts.with_of hF).2)

theorem insideT_some {V : World → Value → Prop} {w : World} {r : Result Next} (h : insideT E P K w V r) : ∃ v, ∃ w', E.R w w' ∧ V w' v := by
  cases r with
  | ok n w' =>
    cases n <;> simp only [insideT] at h
    case value u => exact ⟨u, w', h.1, h.2⟩
    case skip => exact ⟨undef, w', h.1, h.2⟩
    case enter f args =>
      obtain ⟨e, w'', fr, ⟨v, _, hl, hk⟩, _⟩ := h.2.1 []
      exact ⟨v, w'', E.trans h.1 hl, h.2.2 w'' v hk⟩
  | halt x w' => simp only [insideT] at h

theorem YieldsD.some {o : Oper} {a : Act} {F : Facts} {V : World → Value → Prop} (hm : FMono E F) (hx : met E W F (fun _ => True)) (h : YieldsD E P ops md W K o a F V) : ∃ v, met E W F (fun w => V w v) := by
  obtain ⟨w, hw, hF, _⟩ := hx
  rcases h.2 with ⟨_, h⟩ | ⟨_, h⟩
  · obtain ⟨v, w', hl, hv⟩ := insideT_some (h w hw (fun e _ _ => hF e.on))
    exact ⟨v, w', E.trans hw hl, hm w w' hl hF, hv⟩
  · exact ⟨undef, w, hw, hF, h w hw (fun e _ _ => hF e.on)⟩

theorem YieldsD.same {o : Oper} {a a' : Act} {F : Facts} {V : World → Value → Prop} (he : execOp a'.eval o = execOp a.eval o) (hw : Region.wanted o (yielded ops a'.tmps) = Region.wanted o (yielded ops a.tmps))
    (h : YieldsD E P ops md W K o a F V) : YieldsD E P ops md W K o a' F V := by
  unfold YieldsD at *; rw [he, hw]; exact h

/-- What is known of an operation that it does not come behind is of no use to it. -/
theorem YieldsD.less {o : Oper} {a : Act} {F : Facts} {i : Nat} {X : World → Prop} {V : World → Value → Prop} (hn : ∀ e ∈ o.after, Region.binds md e = true → e.on ≠ i) (h : YieldsD E P ops md W K o a (F.with i X) V) : YieldsD E P ops md W K o a F V := by
  have key : ∀ w, behind md o F w → behind md o (F.with i X) w := fun w hw e he hb => ⟨hw e he hb, fun h => absurd h (hn e he hb)⟩
  refine ⟨h.1, ?_⟩
  rcases h.2 with ⟨h1, h2⟩ | ⟨h1, h2⟩
  · exact .inl ⟨h1, fun w hw hb => h2 w hw (key w hb)⟩
  · exact .inr ⟨h1, fun w hw hb => h2 w hw (key w hb)⟩
theorem YieldsD.more {o : Oper} {a : Act} {F : Facts} {i : Nat} {X : World → Prop} {V : World → Value → Prop} (h : YieldsD E P ops md W K o a F V) : YieldsD E P ops md W K o a (F.with i X) V := by
  have key : ∀ w, behind md o (F.with i X) w → behind md o F w := fun w hw e he hb => (hw e he hb).1
  refine ⟨h.1, ?_⟩
  rcases h.2 with ⟨h1, h2⟩ | ⟨h1, h2⟩
  · exact .inl ⟨h1, fun w hw hb => h2 w hw (key w hb)⟩
  · exact .inr ⟨h1, fun w hw hb => h2 w hw (key w hb)⟩

theorem wpOp_yieldsD {i : Nat} {o : Oper} {a : Act} {w : World} {F : Facts} {V : World → Value → Prop} {next : Act → World → Prop} {Q' : Exit → Act → World → Prop} (ho : ops[i]? = some o) (hw : E.R W w) (hF : ∀ e, F e w) (hg : YieldsD E P ops md W K o a F V)
    (hn : ∀ v w', E.R w w' → V w' v → next (a.put o.dst v) w') : wpOp P ops Q' i next a w := by
  unfold wpOp
  simp only [ho]
  rcases hg.2 with ⟨hwant, hv⟩ | ⟨hwant, hv⟩
  · rw [if_pos hwant]
    left
    have h3 := hv w hw (fun e _ _ => hF e.on)
    unfold Oper.wp
    generalize (execOp a.eval o).run P w = r at h3
    cases r with
    | ok x w' =>
      cases x <;> simp only [insideT] at h3 <;> simp only [Oper.upon]
      case value u => exact hn u _ h3.1 h3.2
      case skip => exact hn undef _ h3.1 h3.2
      case enter f args =>
        refine h3.2.1.mono fun e w'' he => ?_
        obtain ⟨v, rfl, hl, hk⟩ := he
        exact hn v _ (E.trans h3.1 hl) (h3.2.2 w'' v hk)
    | halt x w' => simp only [insideT] at h3
  · rw [if_neg (by simp [hwant])]
    exact hn undef _ (E.refl w) (hv w hw (fun e _ _ => hF e.on))

theorem anyFreeD_sound {n g : Nat} {L : Array Bool → Act → Facts → Prop} {Q' : Exit → Act → World → Prop} (hL : ∀ listed a F w, E.R W w → (∀ e, F e w) → L listed a F → wpAny P md ops Q' g listed a w) :
    ∀ (f : Nat) (listed : Array Bool) (a : Act) (F : Facts) (w : World), FMono E F → E.R W w → (∀ e, F e w) → anyFreeD E P ops md W K n L f listed a F → wpAny P md ops Q' (f + g) listed a w := by
  intro f
  induction f with
  | zero => intro listed a F w _ hw hF h; rw [Nat.zero_add]; exact hL _ _ _ _ hw hF h
  | succ f ih =>
    intro listed a F w hm hw hF h
    rw [show f + 1 + g = (f + g) + 1 by omega]
    refine ⟨fun h0 => absurd h0 h.1, fun i hi => ?_⟩
    obtain ⟨_, o, ho, _⟩ := mem_ready.1 hi
    obtain ⟨V, hg, hn⟩ := (h.2 i hi).2 o ho
    exact wpOp_yieldsD ho hw hF hg (fun v w' hl hv => ih _ _ _ _ (hm.with hg.1 i v) (E.trans hw hl) (Facts.with_mk (hm w w' hl hF) hv) (hn v ⟨w', E.trans hw hl, hm w w' hl hF, hv⟩))

theorem met.weaken {F F' : Facts} {V : World → Prop} (h : ∀ w, (∀ e, F' e w) → ∀ e, F e w) (hx : met E W F' V) : met E W F V := by
  obtain ⟨w, hw, hF, hv⟩ := hx; exact ⟨w, hw, h w hF, hv⟩

/-- Facts that are pointwise the same. -/
theorem anyFreeD_congr {n : Nat} {L : Array Bool → Act → Facts → Prop} (hLm : ∀ listed a F F', (∀ e w, F' e w ↔ F e w) → L listed a F → L listed a F') :
    ∀ (f : Nat) (listed : Array Bool) (a : Act) (F F' : Facts), (∀ e w, F' e w ↔ F e w) → anyFreeD E P ops md W K n L f listed a F → anyFreeD E P ops md W K n L f listed a F' := by
  intro f listed a F F' h
  have : F' = F := by funext e w; exact propext (h e w)
  rw [this]; exact id

theorem with_comm (F : Facts) (i j : Nat) (X Y : World → Prop) : (F.with i X).with j Y = (F.with j Y).with i X := by
  funext e w
  unfold Facts.with
  exact propext ⟨fun h => ⟨⟨h.1.1, h.2⟩, h.1.2⟩, fun h => ⟨⟨h.1.1, h.2⟩, h.1.2⟩⟩

theorem YieldsD.stronger {o : Oper} {a : Act} {F F' : Facts} {V : World → Value → Prop} (hF : ∀ e w, F' e w → F e w) (h : YieldsD E P ops md W K o a F V) : YieldsD E P ops md W K o a F' V := by
  have key : ∀ w, behind md o F' w → behind md o F w := fun w hw e he hb => hF _ _ (hw e he hb)
  refine ⟨h.1, ?_⟩
  rcases h.2 with ⟨h1, h2⟩ | ⟨h1, h2⟩
  · exact .inl ⟨h1, fun w hw hb => h2 w hw (key w hb)⟩
  · exact .inr ⟨h1, fun w hw hb => h2 w hw (key w hb)⟩

theorem anyFreeD_weaken {n : Nat} {L : Array Bool → Act → Facts → Prop} (hLm : ∀ listed a F F', (∀ e w, F' e w → F e w) → L listed a F → L listed a F') :
    ∀ (f : Nat) (listed : Array Bool) (a : Act) (F F' : Facts), (∀ e w, F' e w → F e w) → anyFreeD E P ops md W K n L f listed a F → anyFreeD E P ops md W K n L f listed a F' := by
  intro f
  induction f with
  | zero => intro listed a F F' h hh; exact hLm _ _ _ _ h hh
  | succ f ih =>
    intro listed a F F' h hh
    refine ⟨hh.1, fun i hi => ⟨(hh.2 i hi).1, fun o ho => ?_⟩⟩
    obtain ⟨V, hg, hn⟩ := (hh.2 i hi).2 o ho
    exact ⟨V, hg.stronger h, fun v hv => ih _ _ _ _ (fun e w hw => ⟨h e w hw.1, hw.2⟩) (hn v (hv.weaken (fun w hw e => h e w (hw e))))⟩

theorem anyFreeD_first {n i : Nat} {oi : Oper} {V : World → Value → Prop} {L : Array Bool → Act → Facts → Prop} (hi : ops[i]? = some oi) (hsel : ∀ (j : Nat) (o : Oper) cs b, ops[j]? = some o → o.op ≠ .select cs b)
    (hbound : ∀ listed i, HeadInv md ops n listed → i < n → listed.getD i true = false → ∀ j ∈ Region.ready md ops listed, j < n) (hin : i < n)
    (hdone : ∀ listed a F, L listed a F → ∀ j ∈ Region.ready md ops listed, n ≤ j) (hLm : ∀ listed a F F', (∀ e w, F' e w → F e w) → L listed a F → L listed a F') :
    ∀ (f : Nat) (listed : Array Bool) (a : Act) (F : Facts), HeadInv md ops n listed →
      (∀ j oj, ops[j]? = some oj → j ≠ i → listed.getD j true = false → (∀ e ∈ oj.after, Region.binds md e = true → e.on ≠ i) → oi.apart ops oj = true) →
      i ∈ Region.ready md ops listed → FMono E F → met E W F (fun _ => True) → YieldsD E P ops md W K oi a F V →
      (∀ v, met E W F (fun w => V w v) → anyFreeD E P ops md W K n L f (listed.setIfInBounds i true) (a.put oi.dst v) (F.with i (fun w => V w v))) → anyFreeD E P ops md W K n L (f + 1) listed a F := by
  intro f
  induction f with
  | zero =>
    intro listed a F inv _ hr hm hx hg H
    have hun := (mem_ready.1 hr).1
    refine ⟨fun h => (by rw [h] at hr; cases hr), fun j hj => ?_⟩
    have hjn := hbound listed i inv hin hun j hj
    refine ⟨hjn, fun o ho => ?_⟩
    by_cases hji : j = i
    · subst hji
      rw [hi] at ho; cases ho
      exact ⟨V, hg, H⟩
    · obtain ⟨v, hv⟩ := hg.some hm hx
      have := hdone _ _ _ (H v hv) j (ready_mono hj hji)
      omega
  | succ f ih =>
    intro listed a F inv hfree hr hm hx hg H
    have hun := (mem_ready.1 hr).1
    refine ⟨fun h => (by rw [h] at hr; cases hr), fun j hj => ?_⟩
    have hjn := hbound listed i inv hin hun j hj
    refine ⟨hjn, fun o ho => ?_⟩
    by_cases hji : j = i
    · subst hji
      rw [hi] at ho; cases ho
      exact ⟨V, hg, H⟩
    · obtain ⟨hjun, oj, hoj, hall⟩ := mem_ready.1 hj
      rw [ho] at hoj; cases hoj
      have hnot : ∀ e ∈ o.after, Region.binds md e = true → e.on ≠ i := fun e he hb heq => by
        have h1 := hall e he hb
        rw [heq, getD_both hun] at h1
        cases h1
      have hap := hfree j o ho hji hjun hnot
      obtain ⟨a1, a2, a3⟩ := Oper.apart_spec hap
      have hsi := fun cs b => hsel i oi cs b hi
      have hsj := fun cs b => hsel j o cs b ho
      have hU : ∀ v : {v // met E W F (fun w => V w v)}, ∃ U, YieldsD E P ops md W K o (a.put oi.dst v.1) (F.with i (fun w => V w v.1)) U ∧ ∀ u, met E W (F.with i (fun w => V w v.1)) (fun w => U w u) →
          anyFreeD E P ops md W K n L f ((listed.setIfInBounds i true).setIfInBounds j true) ((a.put oi.dst v.1).put o.dst u) ((F.with i (fun w => V w v.1)).with j (fun w => U w u)) :=
        fun v => ((H v.1 v.2).2 j (ready_mono hj hji)).2 o ho
      obtain ⟨U, hU⟩ := Classical.skolem.1 hU
      obtain ⟨v0, hv0⟩ := hg.some hm hx
      have hone : ∀ v, YieldsD E P ops md W K o a F (U v) := fun v => ((hU v).1.same (execOp_put o hsj a oi.dst v.1 a1).symm (wanted_put o a oi.dst v.1 a1).symm).less hnot
      have hgood : YieldsD E P ops md W K o a F (fun w u => ∀ v, U v w u) := by
        refine ⟨fun u w w' hl h v => (hone v).1 u w w' hl (h v), ?_⟩
        by_cases hw : Region.wanted o (yielded ops a.tmps) = true
        · refine .inl ⟨hw, fun w hw' hb => inside_allT ⟨⟨v0, hv0⟩, trivial⟩ (fun v => ?_)⟩
          rcases (hone v).2 with ⟨_, h3⟩ | ⟨h3, _⟩
          · exact h3 w hw' hb
          · rw [hw] at h3; cases h3
        · refine .inr ⟨by simpa using hw, fun w hw' hb v => ?_⟩
          rcases (hone v).2 with ⟨h3, _⟩ | ⟨_, h3⟩
          · exact absurd h3 hw
          · exact h3 w hw' hb
      refine ⟨_, hgood, ?_⟩
      intro u hu
      have hfree' : ∀ k ok, ops[k]? = some ok → k ≠ i → (listed.setIfInBounds j true).getD k true = false →
          (∀ e ∈ ok.after, Region.binds md e = true → e.on ≠ i) → oi.apart ops ok = true := fun k ok hk hki hun hno => by
        refine hfree k ok hk hki ?_ hno
        by_cases hjk : j = k
        · subst hjk; exact hjun
        · rw [getD_set_ne true hjk] at hun; exact hun
      have hx' : met E W (F.with j (fun w => ∀ v, U v w u)) (fun _ => True) := by
        obtain ⟨w, hw, hF, hv⟩ := hu
        exact ⟨w, hw, Facts.with_mk hF hv, trivial⟩
      refine ih (listed.setIfInBounds j true) (a.put o.dst u) (F.with j (fun w => ∀ v, U v w u)) (inv.set hj hjn) hfree' (ready_mono hr (Ne.symm hji)) (hm.with hgood.1 j u) hx' ((hg.same (execOp_put oi hsi a o.dst u a3) (wanted_put oi a o.dst u a3)).more) (fun v hv => ?_)
      rw [Array.setIfInBounds_comm _ _ hji, ← Act.put_comm a v u a2]
      obtain ⟨w, hw, hF, hVv⟩ := hv
      have hF' := Facts.with_of hF
      have mv : met E W F (fun w => V w v) := ⟨w, hw, hF'.1, hVv⟩
      exact anyFreeD_weaken hLm _ _ _ _ _ (fun e w' h' => ⟨⟨h'.1.1, h'.2⟩, fun he => h'.1.2 he ⟨v, mv⟩⟩) ((hU ⟨v, mv⟩).2 u ⟨w, hw, Facts.with_mk hF'.1 hVv, hF'.2 ⟨v, mv⟩⟩)

theorem anyFreeD_lex {n g : Nat} {R : Act → World → Prop} (hsel : Region.noSelect ops = true)
    (hbound : ∀ listed i, HeadInv md ops n listed → i < n → listed.getD i true = false → ∀ j ∈ Region.ready md ops listed, j < n) :
    ∀ (l : List Oper) (k : Nat) (listed : Array Bool) (a : Act) (F : Facts), (∀ j, j < l.length → l[j]? = ops[k + j]?) → k + l.length = n → HeadInv md ops n listed →
    Region.lexHead md ops g l.length k listed = true → FMono E F → met E W F (fun _ => True) → wpFreeD E P ops md W K R l k a F →
    anyFreeD E P ops md W K n (fun listed' a' F' => Region.seqB md ops g n listed' = true ∧ ∀ w, E.R W w → (∀ e, F' e w) → R a' w) l.length listed a F := by
  intro l
  induction l with
  | nil =>
    intro k listed a F _ hk _ hB _ _ h
    have : k = n := by simpa using hk
    subst this
    exact ⟨by simpa [Region.lexHead] using hB, h⟩
  | cons o l ih =>
    intro k listed a F hl hk inv hB hm hx h
    have h0 : ops[k]? = some o := by simpa using (hl 0 (by simp)).symm
    simp only [List.length_cons, Region.lexHead, Bool.and_eq_true] at hB
    obtain ⟨⟨hr, hf⟩, hB'⟩ := hB
    have hkn : k < n := by simp only [List.length_cons] at hk; omega
    have hr' : k ∈ Region.ready md ops listed := by simpa using hr
    obtain ⟨V, hg, hnext⟩ := h
    exact anyFreeD_first h0 (Region.noSelect_spec hsel) hbound hkn (fun listed' a' F' hL => seqB_ready hL.1) (fun _ _ _ _ hF hL => ⟨hL.1, fun w hw h' => hL.2 w hw (fun e => hF e w (h' e))⟩) l.length listed a F inv (Region.free_spec h0 hf) hr' hm hx hg
      (fun v hv => ih (k + 1) _ _ _ (fun j hj => by have := hl (j + 1) (by simp; omega); simpa [Nat.add_assoc, Nat.add_comm 1 j] using this) (by simp only [List.length_cons] at hk; omega) (inv.set hr' hkn) hB' (hm.with hg.1 k v)
        (by obtain ⟨w, hw, hF, hv'⟩ := hv; exact ⟨w, hw, Facts.with_mk hF hv', trivial⟩) (hnext v hv))

def noFacts : Facts := fun _ _ => True
/-- A REGION THAT DRAWS ITS ORDER. -/
theorem region_freeD (K : FuncId → Array Value → World → Value → Prop) {id : Nat} {Q : Exit → Act → World → Prop} {a : Act} {w : World} {l : List Oper} (hm : P.follows .mixedOrders = true)
    (hB : (Region.noSelect l.toArray && Region.lexHead .any l.toArray 0 l.length 0 (Array.replicate l.toArray.size false)) = true)
    (h : wpFreeD E P l.toArray .any (w.drewN 1) K (fun a' w' => Q .normal a' w') l 0 a noFacts) : (Code.region id l.toArray true).wp P Q a w := by
  simp only [Bool.and_eq_true] at hB
  obtain ⟨hsel, hlex⟩ := hB
  have hbound : ∀ listed i, HeadInv .any l.toArray l.length listed → i < l.length → listed.getD i true = false → ∀ j ∈ Region.ready .any l.toArray listed, j < l.length := by
    intro listed i _ _ _ j hj
    obtain ⟨_, oj, hoj, _⟩ := mem_ready.1 hj
    simpa using (Array.getElem?_eq_some_iff.1 hoj).1
  have H := anyFreeD_lex (md := .any) (g := 0) hsel hbound l 0 _ a noFacts (fun j hj => by simp) (by simp) (head_start _ l.length) hlex (fun _ _ _ h => h) ⟨w.drewN 1, E.refl _, fun _ => trivial, trivial⟩ h
  refine wp_region_any hm ?_
  have := anyFreeD_sound (Q' := Q) (W := w.drewN 1) (g := 0) (fun listed a' F w' hw' hF hL => ⟨by simpa [Region.seqB] using hL.1, hL.2 w' hw' hF⟩) _ _ _ _ _ (fun _ _ _ h => h) (E.refl _) (fun _ => trivial) H
  rw [Nat.add_zero] at this
  exact this
end

theorem wpFreeD_weaken {E : Ext} {P : Program} {ops : Array Oper} {md : Region.Mode} {W : World} {K : FuncId → Array Value → World → Value → Prop} {Q : Act → World → Prop} : ∀ (l : List Oper) (k : Nat) (a : Act) (F F' : Facts), (∀ e w, F' e w → F e w) → wpFreeD E P ops md W K Q l k a F → wpFreeD E P ops md W K Q l k a F' := by
  intro l
  induction l with
  | nil => intro k a F F' h hh w hw hF; exact hh w hw (fun e => h e w (hF e))
  | cons o l ih =>
    intro k a F F' h hh
    obtain ⟨V, hg, hn⟩ := hh
    exact ⟨V, hg.stronger h, fun v hv => ih _ _ _ _ (fun e w hw => ⟨h e w hw.1, hw.2⟩) (hn v (hv.weaken (fun w hw e => h e w (hw e))))⟩

/-- The operations may make blocks, and write these rows into blocks of their own, by types. -/
def newX (B : Nat) (T : List (TypeId × Nat × (Array Value → Prop))) : Ext where
  R w w' := w'.os = w.os ∧ w'.tape = w.tape ∧ w'.output = w.output ∧ w.heap.size ≤ w'.heap.size ∧ (∀ k, k < B → k < w.heap.size → w'.heap[k]? = w.heap[k]?) ∧
    (∀ k x, x ∈ T → (∃ cs, Row w k x.1 cs ∧ x.2.2 cs) → ∃ cs, Row w' k x.1 cs ∧ x.2.2 cs) ∧ (∀ k x, x ∈ T → (∃ cs, Row w k x.1 cs ∧ cs.size = x.2.1) → ∃ cs, Row w' k x.1 cs ∧ cs.size = x.2.1) ∧
    (∀ k t cs, (∀ x ∈ T, x.1 ≠ t) → Row w k t cs → Row w' k t cs)
  refl w := ⟨rfl, rfl, rfl, Nat.le_refl _, fun _ _ _ => rfl, fun _ _ _ h => h, fun _ _ _ h => h, fun _ _ _ _ h => h⟩
  trans := by
    rintro a b c ⟨h1, h2, h3, h4, h5, h6, h7, h8⟩ ⟨k1, k2, k3, k4, k5, k6, k7, k8⟩
    exact ⟨k1.trans h1, k2.trans h2, k3.trans h3, Nat.le_trans h4 k4, fun k hk hx => (k5 k hk (Nat.lt_of_lt_of_le hx h4)).trans (h5 k hk hx), fun k x hx h => k6 k x hx (h6 k x hx h), fun k x hx h => k7 k x hx (h7 k x hx h), fun k t cs hn h => k8 k t cs hn (h8 k t cs hn h)⟩
  of_le := by
    intro a b h
    exact ⟨h.os, h.tape, h.output, h.size, fun k _ hk => h.block k hk, fun k x _ ⟨cs, hr, hs⟩ => ⟨cs, hr.le h, hs⟩, fun k x _ ⟨cs, hr, hs⟩ => ⟨cs, hr.le h, hs⟩, fun k t cs _ hr => hr.le h⟩
theorem newX_le {B : Nat} {T : List (TypeId × Nat × (Array Value → Prop))} {w w' : World} (h : (newX B T).R w w') (hB : w.heap.size = B) : le w w' :=
  ⟨h.1, h.2.1, h.2.2.1, h.2.2.2.1, fun k hk => h.2.2.2.2.1 k (by omega) hk⟩
theorem newX_row {B : Nat} {T : List (TypeId × Nat × (Array Value → Prop))} {w w' : World} (h : (newX B T).R w w') {g : Nat} {t : TypeId} {cs : Array Value} (hr : Row w g t cs) (hg : g < B) : Row w' g t cs := by
  have := h.2.2.2.2.1 g hg hr.lt
  unfold Row at *
  rw [this]; exact hr
/-- Block b is a row of type t, of n cells. -/
def IsRow (b : Nat) (t : TypeId) (n : Nat) (w : World) : Prop := ∃ cs, Row w b t cs ∧ cs.size = n

section
variable {E : Ext} {P : Program} {ops : Array Oper} {W : World} {K : FuncId → Array Value → World → Value → Prop} {Q : Act → World → Prop} {F : Facts} {k : Nat} {o : Oper} {rest : List Oper} {a : Act}
theorem wpFreeD_nil (h : ∀ w, E.R W w → (∀ e, F e w) → Q a w) : wpFreeD E P ops .any W K Q [] k a F := h
theorem wpFreeD_one (hg : o.guard = none) (v : Value) (hr : ∀ w, E.R W w → (execOp a.eval o).run P w = .ok (.value v) w)
    (h : wpFreeD E P ops .any W K Q rest (k + 1) (a.put o.dst v) (F.with k (fun _ => True))) : wpFreeD E P ops .any W K Q (o :: rest) k a F := by
  refine ⟨fun _ u => u = v, ⟨fun _ _ _ _ h => h, .inl ⟨by simp [Region.wanted, hg], fun w hw _ => ?_⟩⟩, fun u hu => ?_⟩
  · rw [hr w hw]; exact ⟨E.refl w, rfl⟩
  · obtain ⟨w, _, _, rfl⟩ := hu
    exact wpFreeD_weaken _ _ _ _ _ (fun e w h => ⟨h.1, fun _ => trivial⟩) h
theorem wpFreeD_call (hg : o.guard = none) {f : FuncId} {xs : Array Operand} {ts : Array TypeId} (hop : o.op = Op.call { callee := Callee.value (Operand.func f), args := xs, argTypes := ts }) {fn : Func} (hf : P.funcs[f]? = some fn)
    (hb : fn.body.isNone = false) (hn : (fn.name == "runtime.NumGoroutine") = false) {args : Array Value} (ha : xs.map a.eval = args) (hm : MonoT E (K f args))
    (h1 : ∀ w, E.R W w → Calls P f args w (fun e w' => ∃ v, e = .returned v ∧ le w w' ∧ K f args w' v)) (h2 : ∀ v, (∃ w, K f args w v) → wpFreeD E P ops .any W K Q rest (k + 1) (a.put o.dst v) (F.with k (fun w => K f args w v))) : wpFreeD E P ops .any W K Q (o :: rest) k a F := by
  refine ⟨K f args, ⟨hm, .inl ⟨by simp [Region.wanted, hg], fun w hw _ => ?_⟩⟩, fun v hv => h2 v (by obtain ⟨w, _, _, h⟩ := hv; exact ⟨w, h⟩)⟩
  rw [run_enter hop hf hb hn ha]
  refine ⟨E.refl w, (h1 w hw).mono ?_, fun _ _ h => h⟩
  rintro e w' ⟨v, rfl, hl, hk⟩
  exact ⟨v, rfl, E.of_le hl, hk⟩
variable {B : Nat} {T : List (TypeId × Nat × (Array Value → Prop))}
theorem wpFreeD_load (hg : o.guard = none) {ty : TypeId} {x : Operand} (hop : o.op = .load ty x) {g : Nat} (hx : a.eval x = .pointer (some ⟨g, 0, none⟩)) {t : TypeId} {cs : Array Value} {d : TypeDesc}
    (hr : Row W g t cs) (hB : g < B) (hu : P.underlying ty = some d) (hd : (match d with | .struct _ | .array _ _ => true | _ => false) = true) {m : Nat} (hi : (P.info? ty).map (·.size) = some m) (hm : cs.size = m)
    (h : wpFreeD (newX B T) P ops .any W K Q rest (k + 1) (a.put o.dst (.agg cs)) (F.with k (fun _ => True))) : wpFreeD (newX B T) P ops .any W K Q (o :: rest) k a F := by
  subst hm
  refine wpFreeD_one hg (.agg cs) (fun w hw => ?_) h
  have := run_loadVar_row (P := P) w g t ty cs (0, 0) _ (newX_row hw hr hB) hu hd hi
  simp [execOp, hop, hx, Instr.loadAt, Instr.sureAddr, this, Result.andThen]
theorem wpFreeD_alloc (hg : o.guard = none) {ty : TypeId} (hop : o.op = .alloc ty) (cs : Array Value)
    (hr : ∀ w, (Instr.alloc ty true (.tuple #[])).run P w = .ok (.pointer (some ⟨w.heap.size, 0, none⟩)) (w.alloc (.cells cs ty))) {n : Nat} {p : Array Value → Prop} (hT : (ty, n, p) ∈ T) (hs : cs.size = n) (hB : W.heap.size = B)
    (h : ∀ b, B ≤ b → wpFreeD (newX B T) P ops .any W K Q rest (k + 1) (a.put o.dst (.pointer (some ⟨b, 0, none⟩))) (F.with k (IsRow b ty n))) : wpFreeD (newX B T) P ops .any W K Q (o :: rest) k a F := by
  refine ⟨fun w v => ∃ b, v = .pointer (some ⟨b, 0, none⟩) ∧ B ≤ b ∧ IsRow b ty n w, ⟨fun v w w' hw hv => ?_, .inl ⟨by simp [Region.wanted, hg], fun w hw _ => ?_⟩⟩, fun v hv => ?_⟩
  · obtain ⟨b, e, h1, h2⟩ := hv; exact ⟨b, e, h1, hw.2.2.2.2.2.2.1 b _ hT h2⟩
  · simp [execOp, hop, hr, Result.andThen, insideT]
    exact ⟨(newX B T).of_le (le_alloc w _), by have := hw.2.2.2.1; omega, cs, Row.new w ty cs, hs⟩
  · obtain ⟨w, _, _, b, rfl, hb, _⟩ := hv
    exact wpFreeD_weaken _ _ _ _ _ (fun e w h => ⟨h.1, fun he => by obtain ⟨b', e', _, h'⟩ := h.2 he; obtain rfl : b = b' := by simpa using e'
                                                                    exact h'⟩) (h b hb)
theorem wpFreeD_store (hg : o.guard = none) {ty : TypeId} {x y : Operand} (hop : o.op = .store ty x y) {b : Nat} (hx : a.eval x = .pointer (some ⟨b, 0, none⟩)) {cells : Array Value} (hy : a.eval y = .agg cells)
    {n : Nat} {p : Array Value → Prop} (hT : (ty, n, p) ∈ T) (hp : p cells) (hd : ∀ x ∈ T, ∀ y ∈ T, x.1 = y.1 → x = y) (hb : B ≤ b) (hpre : ∀ w, behind .any o F w → IsRow b ty n w) (hi : (P.info? ty).map (·.size) = some n) (hm : cells.size = n) (h1 : cells.all (·.oneCell') = true)
    (h : wpFreeD (newX B T) P ops .any W K Q rest (k + 1) (a.put o.dst undef) (F.with k (fun w => ∃ cs, Row w b ty cs ∧ p cs))) : wpFreeD (newX B T) P ops .any W K Q (o :: rest) k a F := by
  subst hm
  refine ⟨fun w v => v = undef ∧ ∃ cs, Row w b ty cs ∧ p cs, ⟨fun v w w' hw hv => ⟨hv.1, hw.2.2.2.2.2.1 b _ hT hv.2⟩, .inl ⟨by simp [Region.wanted, hg], fun w hw hbe => ?_⟩⟩, fun v hv => ?_⟩
  · obtain ⟨cs, hc, hcs⟩ := hpre w hbe
    have hrun := run_storeVar_row (P := P) w b ty ty cs cells hc hi hcs h1
    have : (execOp a.eval o).run P w = .ok .skip (w.setRow b cells) := by
      unfold execOp
      simp only [hop, hx, hy, Instr.storeAt, Instr.sureAddr, Sem.run_bind, Sem.run_pure, Result.andThen_ok, hrun]
    rw [this]
    have hrow : Row (w.setRow b cells) b ty cells := hc.setRow _
    have one : ∀ q t' c', Row w q t' c' → q = b → t' = ty ∧ c' = cs := by
      rintro q t' c' hq rfl
      unfold Row at hq hc
      rw [hc] at hq
      simp only [Option.some.injEq, Obj.cells.injEq] at hq
      exact ⟨hq.2.1.symm, hq.1.symm⟩
    refine ⟨⟨rfl, rfl, rfl, by simp, fun q hq _ => ?_, fun q x' hx' ⟨c', hrx, hsx⟩ => ?_, fun q x' hx' ⟨c', hrx, hsx⟩ => ?_, fun q t' c' hn hrx => ?_⟩, rfl, cells, hrow, hp⟩
    · unfold World.setRow
      rw [Array.getElem?_modify, if_neg (by omega)]
    · by_cases e : q = b
      · have := hd x' hx' _ hT (one _ _ _ hrx e).1
        subst this; subst e; exact ⟨cells, hrow, hp⟩
      · exact ⟨c', hrx.setRow_other e _, hsx⟩
    · by_cases e : q = b
      · have := hd x' hx' _ hT (one _ _ _ hrx e).1
        subst this; subst e; exact ⟨cells, hrow, rfl⟩
      · exact ⟨c', hrx.setRow_other e _, hsx⟩
    · by_cases e : q = b
      · exact absurd (one _ _ _ hrx e).1.symm (hn _ hT)
      · exact hrx.setRow_other e _
  · obtain ⟨w, _, _, rfl, _⟩ := hv
    exact wpFreeD_weaken _ _ _ _ _ (fun e w h => ⟨h.1, fun he => (h.2 he).2⟩) h
end
theorem region_newD {P : Program} (T : List (TypeId × Nat × (Array Value → Prop))) (K : FuncId → Array Value → World → Value → Prop) {id : Nat} {Q : Exit → Act → World → Prop} {a : Act} {w : World} {l : List Oper} (hm : P.follows .mixedOrders = true)
    (hB : (Region.noSelect l.toArray && Region.lexHead .any l.toArray 0 l.length 0 (Array.replicate l.toArray.size false)) = true)
    (h : wpFreeD (newX (w.drewN 1).heap.size T) P l.toArray .any (w.drewN 1) K (fun a' w' => Q .normal a' w') l 0 a noFacts) : (Code.region id l.toArray true).wp P Q a w :=
  region_freeD K hm hB h
end Go.Fk

/- How an argument that is a struct of a slice of floats and an integer is opened. Nothing here names a program. -/
namespace Go.Fk
open Go Go.RowKit Go.ChangeShapes
/-- A slice of n floats as it comes: nil, or cells that lie somewhere. -/
def SlIn (w : World) (v : Value) (x : Nat → Nat) (n : Nat) : Prop :=
  (v = .slice none 0 0 ∧ n = 0) ∨ ∃ (a : Addr) (cap : Nat), v = .slice (some a) n cap ∧ n ≤ cap ∧ cap ≤ maxLen ∧ ∀ i, i < n → w.cell? (a.add i) = some (.float .f32 (x i)) ∧ fits .f32 (x i)
section
variable {H : Type} {enc : TypeId × Value → H} {P : Program} {w : World} {base : Nat} {spare : Nat → Bool} {held : Bool}
theorem trod_fslice {t e : TypeId} {fuel : Nat} {cs : List Value} {x : DataW H × List MemPlace} (ht : P.underlying t = some (.slice e)) (he : P.underlying e = some (.float .f32)) (hc : P.cellsOf e = 1)
    (h : DataW.trod enc P w base spare held fuel t cs = some x) : ∃ v f n, cs = [v] ∧ SlIn w v f n := by
  rcases Go.Deep.open_slice1 ht hc h with ⟨rfl, _⟩ | ⟨a, len, cap, m, n, V, D, Pl, rfl, hb, hl, hm, hmm, _, hx⟩
  · exact ⟨_, fun _ => 0, 0, rfl, .inl ⟨rfl, rfl⟩⟩
  · have hle : len ≤ m := by rw [hmm]; split <;> omega
    refine ⟨_, fun i => match V i with | .float _ b => b | _ => 0, len, rfl, .inr ⟨a, cap, rfl, hl, hm, fun i hi => ?_⟩⟩
    obtain ⟨h1, h2⟩ := hx i (by omega)
    obtain ⟨b, hV, hf⟩ := trod_float_cell he h2
    simp only [hV] at h1 ⊢
    exact ⟨h1, hf⟩
theorem open_ring {r : Reach} {b0 : Nat} {t t0 t1 e : TypeId} {f0 f1 : Field} {v : Value} {d : DataW H} {ps : List MemPlace} (ht : P.underlying t = some (.struct #[f0, f1]))
    (e0 : (f0.type, f0.offset) = (t0, 0)) (e1 : (f1.type, f1.offset) = (t1, 1))
    (h0 : P.underlying t0 = some (.slice e)) (h1 : P.underlying t1 = some (.int .i64)) (he : P.underlying e = some (.float .f32))
    (c0 : P.cellsOf t0 = 1) (c1 : P.cellsOf t1 = 1) (ce : P.cellsOf e = 1) (ct : P.cellsOf t = 2)
    (hval : Value.okWide P w r b0 t v) (hd : DataW.Trod enc P w base spare held t v d ps) :
    ∃ (s : Value) (x : Nat → Nat) (n : Nat) (k : Int), v = .agg #[s, .int .i64 k] ∧ (Lit.int .i64 k).wf = true ∧ SlIn w s x n := by
  simp only [Value.okWide, ht] at hval
  obtain ⟨cs, rfl, hsz, _⟩ := hval
  obtain ⟨fuel, hf⟩ := hd
  simp only [Value.cells] at hf
  obtain ⟨xs, m, _, _, hlen, hl, hi⟩ := DataW.trod_struct ht hf
  simp only [Prod.mk.injEq] at e0 e1
  have g0 := hi 0 f0 rfl
  have g1 := hi 1 f1 rfl
  rw [e0.1, e0.2, c0] at g0
  rw [e1.1, e1.2, c1] at g1
  rw [List.getElem?_eq_getElem (by simp_all)] at g0 g1
  have hlen : cs.toList.length = 2 := hlen.trans ct
  obtain ⟨l⟩ := cs
  simp only at *
  match l, hlen with
  | [v0, v1], _ =>
    simp only [List.drop_zero, List.drop_succ_cons, List.take_succ_cons, List.take_zero] at g0 g1
    obtain ⟨s, f, n, hs, hsl⟩ := trod_fslice h0 he ce g0
    obtain ⟨k, rfl, hk⟩ := trod_int_cell h1 g1
    simp only [List.cons.injEq, and_true] at hs
    subst hs
    exact ⟨_, f, n, k, rfl, hk, hsl⟩
theorem open_fsl {r : Reach} {b0 : Nat} {t e : TypeId} {v : Value} {d : DataW H} {ps : List MemPlace} (ht : P.underlying t = some (.slice e)) (he : P.underlying e = some (.float .f32)) (ce : P.cellsOf e = 1)
    (hval : Value.okWide P w r b0 t v) (hd : DataW.Trod enc P w base spare held t v d ps) : ∃ (s : Value) (x : Nat → Nat) (n : Nat), v = s ∧ SlIn w s x n := by
  obtain ⟨fuel, hf⟩ := hd
  obtain ⟨v', f, n, hc, hsl⟩ := trod_fslice ht he ce hf
  refine ⟨v', f, n, ?_, hsl⟩
  cases v with
  | agg cs => simp [Value.okWide, Cell.okWide, Cell.ok, ht] at hval
  | _ => simpa [Value.cells] using hc
end
end Go.Fk

/- Facts of memory, all in one hypothesis: each speaks of a range of blocks. Slices of floats, up to the bits of NaN. Nothing here names a program. -/
namespace Go.Fk
open Go Go.RowKit

/-- Of what was there, blocks of S alone may have turned. -/
structure Chg (S : Nat → Prop) (w w' : World) : Prop where
  os : w'.os = w.os
  tape : w'.tape = w.tape
  output : w'.output = w.output
  size : w.heap.size ≤ w'.heap.size
  block : ∀ k, k < w.heap.size → ¬ S k → w'.heap[k]? = w.heap[k]?
/-- Blocks from lo to hi. -/
def rng (lo hi : Nat) (k : Nat) : Prop := lo ≤ k ∧ k < hi
namespace Chg
variable {S T : Nat → Prop} {w w' w'' : World}
theorem refl (S : Nat → Prop) (w : World) : Chg S w w := ⟨rfl, rfl, rfl, Nat.le_refl _, fun _ _ _ => rfl⟩
theorem of_le (k : Fk.le w w') : Chg S w w' := ⟨k.os, k.tape, k.output, k.size, fun i hi _ => k.block i hi⟩
theorem trans (h : Chg S w w') (k : Chg S w' w'') : Chg S w w'' :=
  ⟨k.os.trans h.os, k.tape.trans h.tape, k.output.trans h.output, Nat.le_trans h.size k.size, fun i hi hn => (k.block i (Nat.lt_of_lt_of_le hi h.size) hn).trans (h.block i hi hn)⟩
theorem le (h : Chg S w w') (k : Fk.le w' w'') : Chg S w w'' := h.trans (of_le k)
theorem setCell (h : Chg S w w') {a : Addr} (h1 : S a.block) (v : Value) : Chg S w (w'.setCell a v) :=
  ⟨h.os, h.tape, h.output, by simpa using h.size, fun i hi hn => (Below.heap_setCell _ _ _ _ (by intro e; subst e; exact hn h1)).trans (h.block i hi hn)⟩
theorem mono (h : Chg S w w') (hS : ∀ k, S k → T k) : Chg T w w' :=
  ⟨h.os, h.tape, h.output, h.size, fun i hi hn => h.block i hi (fun hs => hn (hS i hs))⟩
theorem below (h : Chg S w w') {B : Nat} (hB : ∀ k, S k → B ≤ k) (hw : B ≤ w.heap.size) : Below B w w' :=
  ⟨h.os, h.tape, h.output, h.size, fun i hi => h.block i (by omega) (fun hs => by have := hB i hs; omega)⟩
theorem row (h : Chg S w w') {g : Nat} {t : TypeId} {cs : Array Value} (hr : Row w g t cs) (hn : ¬ S g) : Row w' g t cs := by
  have := h.block g hr.lt hn
  unfold Row at *; rw [this]; exact hr
theorem wrote (h : Chg S w w') {g : Nat} {t : TypeId} {cs : Array Value} (k : Wrote w' w'' g t cs) (hg : S g) : Chg S w w'' :=
  have kb := k.below 0 w' (Below.refl _ _) (Nat.zero_le _)
  h.trans ⟨kb.os, kb.tape, kb.output, kb.size, fun i _ hn => k.block i (fun e => hn (e ▸ hg))⟩
end Chg

/-- What is known of memory, and the blocks that it speaks of. -/
structure Fact where
  lo : Nat
  hi : Nat
  p : World → Prop
  ok : ∀ w w', p w → (∀ k, lo ≤ k → k < hi → w'.heap[k]? = w.heap[k]?) → p w'

/-- Nothing that 'w0' holds has turned; and these facts, the newest first: each speaks of blocks that are newer than those of the next. -/
structure Frg (w0 w : World) (L : List Fact) : Prop where
  below : le w0 w
  facts : ∀ e ∈ L, w0.heap.size ≤ e.lo ∧ e.hi ≤ w.heap.size ∧ e.p w
  apart : L.Pairwise (fun a b => b.hi ≤ a.lo)

theorem m0 {a : Fact} {l : List Fact} : a ∈ a :: l := List.mem_cons_self
theorem m1 {b0 a : Fact} {l : List Fact} : a ∈ b0 :: a :: l := List.mem_cons_of_mem _ (List.mem_cons_self)
theorem m2 {b0 b1 a : Fact} {l : List Fact} : a ∈ b0 :: b1 :: a :: l := List.mem_cons_of_mem _ (List.mem_cons_of_mem _ (List.mem_cons_self))
theorem m3 {b0 b1 b2 a : Fact} {l : List Fact} : a ∈ b0 :: b1 :: b2 :: a :: l := List.mem_cons_of_mem _ (List.mem_cons_of_mem _ (List.mem_cons_of_mem _ (List.mem_cons_self)))
theorem m4 {b0 b1 b2 b3 a : Fact} {l : List Fact} : a ∈ b0 :: b1 :: b2 :: b3 :: a :: l := List.mem_cons_of_mem _ (List.mem_cons_of_mem _ (List.mem_cons_of_mem _ (List.mem_cons_of_mem _ (List.mem_cons_self))))
theorem m5 {b0 b1 b2 b3 b4 a : Fact} {l : List Fact} : a ∈ b0 :: b1 :: b2 :: b3 :: b4 :: a :: l := List.mem_cons_of_mem _ (List.mem_cons_of_mem _ (List.mem_cons_of_mem _ (List.mem_cons_of_mem _ (List.mem_cons_of_mem _ (List.mem_cons_self)))))
theorem m6 {b0 b1 b2 b3 b4 b5 a : Fact} {l : List Fact} : a ∈ b0 :: b1 :: b2 :: b3 :: b4 :: b5 :: a :: l := List.mem_cons_of_mem _ (List.mem_cons_of_mem _ (List.mem_cons_of_mem _ (List.mem_cons_of_mem _ (List.mem_cons_of_mem _ (List.mem_cons_of_mem _ (List.mem_cons_self))))))
theorem m7 {b0 b1 b2 b3 b4 b5 b6 a : Fact} {l : List Fact} : a ∈ b0 :: b1 :: b2 :: b3 :: b4 :: b5 :: b6 :: a :: l := List.mem_cons_of_mem _ (List.mem_cons_of_mem _ (List.mem_cons_of_mem _ (List.mem_cons_of_mem _ (List.mem_cons_of_mem _ (List.mem_cons_of_mem _ (List.mem_cons_of_mem _ (List.mem_cons_self)))))))
theorem m8 {b0 b1 b2 b3 b4 b5 b6 b7 a : Fact} {l : List Fact} : a ∈ b0 :: b1 :: b2 :: b3 :: b4 :: b5 :: b6 :: b7 :: a :: l := List.mem_cons_of_mem _ (List.mem_cons_of_mem _ (List.mem_cons_of_mem _ (List.mem_cons_of_mem _ (List.mem_cons_of_mem _ (List.mem_cons_of_mem _ (List.mem_cons_of_mem _ (List.mem_cons_of_mem _ (List.mem_cons_self))))))))
theorem m9 {b0 b1 b2 b3 b4 b5 b6 b7 b8 a : Fact} {l : List Fact} : a ∈ b0 :: b1 :: b2 :: b3 :: b4 :: b5 :: b6 :: b7 :: b8 :: a :: l := List.mem_cons_of_mem _ (List.mem_cons_of_mem _ (List.mem_cons_of_mem _ (List.mem_cons_of_mem _ (List.mem_cons_of_mem _ (List.mem_cons_of_mem _ (List.mem_cons_of_mem _ (List.mem_cons_of_mem _ (List.mem_cons_of_mem _ (List.mem_cons_self)))))))))
theorem m10 {b0 b1 b2 b3 b4 b5 b6 b7 b8 b9 a : Fact} {l : List Fact} : a ∈ b0 :: b1 :: b2 :: b3 :: b4 :: b5 :: b6 :: b7 :: b8 :: b9 :: a :: l := List.mem_cons_of_mem _ (List.mem_cons_of_mem _ (List.mem_cons_of_mem _ (List.mem_cons_of_mem _ (List.mem_cons_of_mem _ (List.mem_cons_of_mem _ (List.mem_cons_of_mem _ (List.mem_cons_of_mem _ (List.mem_cons_of_mem _ (List.mem_cons_of_mem _ (List.mem_cons_self))))))))))
theorem m11 {b0 b1 b2 b3 b4 b5 b6 b7 b8 b9 b10 a : Fact} {l : List Fact} : a ∈ b0 :: b1 :: b2 :: b3 :: b4 :: b5 :: b6 :: b7 :: b8 :: b9 :: b10 :: a :: l := List.mem_cons_of_mem _ (List.mem_cons_of_mem _ (List.mem_cons_of_mem _ (List.mem_cons_of_mem _ (List.mem_cons_of_mem _ (List.mem_cons_of_mem _ (List.mem_cons_of_mem _ (List.mem_cons_of_mem _ (List.mem_cons_of_mem _ (List.mem_cons_of_mem _ (List.mem_cons_of_mem _ (List.mem_cons_self)))))))))))
def rowF (g : Nat) (t : TypeId) (cs : Array Value) : Fact := ⟨g, g + 1, fun w => Row w g t cs, fun w w' h hk => by
  unfold Row at *; rw [hk g (Nat.le_refl _) (Nat.lt_succ_self _)]; exact h⟩

/-- A slice of n floats that can be read; its blocks lie below B. -/
def RdS (w : World) (B : Nat) (s : Value) (x : Nat → Nat) (n : Nat) : Prop :=
  (s = .slice none 0 0 ∧ n = 0) ∨ ∃ (a : Addr) (cap : Nat), s = .slice (some a) n cap ∧ n ≤ cap ∧ cap ≤ maxLen ∧ ∀ i, i < n → a.block < B ∧ ∃ y, w.cell? (a.add i) = some (.float .f32 y) ∧ fits .f32 y ∧ can .f32 y = x i
/-- A slice of n floats that one may write, in blocks from lo to hi. -/
def OwnS (w : World) (lo hi : Nat) (s : Value) (x : Nat → Nat) (n : Nat) : Prop :=
  (s = .slice none 0 0 ∧ n = 0) ∨ ∃ (b o cap : Nat) (cs : Array Value), s = .slice (some ⟨b, o, none⟩) n cap ∧ n ≤ cap ∧ cap ≤ maxLen ∧ lo ≤ b ∧ b < hi ∧ Row w b 22 cs ∧ ∀ i, i < n → ∃ y, cs[o + i]? = some (.float .f32 y) ∧ fits .f32 y ∧ can .f32 y = x i

theorem add_block (a : Addr) (i : Nat) : (a.add i).block = a.block := by unfold Addr.add; split <;> rfl
theorem add_none (b o i : Nat) : (⟨b, o, none⟩ : Addr).add i = ⟨b, o + i, none⟩ := by
  unfold Addr.add; split
  · subst_vars; rfl
  · rfl
theorem cell_of_heap {w w' : World} {a : Addr} (h : w'.heap[a.block]? = w.heap[a.block]?) : w'.cell? a = w.cell? a := by simp [World.cell?, h]
def rdF (B : Nat) (s : Value) (x : Nat → Nat) (n : Nat) : Fact := ⟨0, B, fun w => RdS w B s x n, fun w w' h hk => by
  rcases h with h | ⟨a, cap, h1, h2, h3, h5⟩
  · exact .inl h
  · exact .inr ⟨a, cap, h1, h2, h3, fun i hi => by
      obtain ⟨h4, y, e1, e2⟩ := h5 i hi
      exact ⟨h4, y, (cell_of_heap (a := a.add i) (by rw [add_block]; exact hk a.block (Nat.zero_le _) h4)).trans e1, e2⟩⟩⟩
def ownF (lo hi : Nat) (s : Value) (x : Nat → Nat) (n : Nat) : Fact := ⟨lo, hi, fun w => OwnS w lo hi s x n, fun w w' h hk => by
  rcases h with h | ⟨b, o, cap, cs, h1, h2, h3, h4, h5, h6, h7⟩
  · exact .inl h
  · exact .inr ⟨b, o, cap, cs, h1, h2, h3, h4, h5, by unfold Row at *; rw [hk b h4 h5]; exact h6, h7⟩⟩
theorem OwnS.rd {w : World} {lo hi : Nat} {s : Value} {x : Nat → Nat} {n : Nat} (h : OwnS w lo hi s x n) : RdS w hi s x n := by
  rcases h with h | ⟨b, o, cap, cs, h1, h2, h3, h4, h5, h6, h7⟩
  · exact .inl h
  · exact .inr ⟨_, cap, h1, h2, h3, fun i hi => by
      obtain ⟨y, e1, e2⟩ := h7 i hi
      exact ⟨h5, y, by rw [add_none]; exact (h6.cell? (o + i)).trans e1, e2⟩⟩
theorem RdS.mono {w : World} {B B' : Nat} {s : Value} {x : Nat → Nat} {n : Nat} (h : RdS w B s x n) (hB : B ≤ B') : RdS w B' s x n := by
  rcases h with h | ⟨a, cap, h1, h2, h3, h5⟩
  · exact .inl h
  · exact .inr ⟨a, cap, h1, h2, h3, fun i hi => ⟨Nat.lt_of_lt_of_le (h5 i hi).1 hB, (h5 i hi).2⟩⟩
theorem OwnS.mono {w : World} {lo hi lo' hi' : Nat} {s : Value} {x : Nat → Nat} {n : Nat} (h : OwnS w lo hi s x n) (h1 : lo' ≤ lo) (h2 : hi ≤ hi') : OwnS w lo' hi' s x n := by
  rcases h with h | ⟨b, o, cap, cs, e1, e2, e3, e4, e5, e6, e7⟩
  · exact .inl h
  · exact .inr ⟨b, o, cap, cs, e1, e2, e3, by omega, by omega, e6, e7⟩
theorem RdS.congr {w : World} {B : Nat} {s : Value} {x x' : Nat → Nat} {n : Nat} (h : RdS w B s x n) (hx : ∀ i, i < n → x i = x' i) : RdS w B s x' n := by
  rcases h with h | ⟨a, cap, h1, h2, h3, h5⟩
  · exact .inl h
  · exact .inr ⟨a, cap, h1, h2, h3, fun i hi => by obtain ⟨h4, y, e1, e2, e3⟩ := h5 i hi; exact ⟨h4, y, e1, e2, e3.trans (hx i hi)⟩⟩
theorem OwnS.congr {w : World} {lo hi : Nat} {s : Value} {x x' : Nat → Nat} {n : Nat} (h : OwnS w lo hi s x n) (hx : ∀ i, i < n → x i = x' i) : OwnS w lo hi s x' n := by
  rcases h with h | ⟨b, o, cap, cs, h1, h2, h3, h4, h5, h6, h7⟩
  · exact .inl h
  · exact .inr ⟨b, o, cap, cs, h1, h2, h3, h4, h5, h6, fun i hi => by obtain ⟨y, e1, e2, e3⟩ := h7 i hi; exact ⟨y, e1, e2, e3.trans (hx i hi)⟩⟩
theorem RdS.le {w w' : World} {B : Nat} {s : Value} {x : Nat → Nat} {n : Nat} (h : RdS w B s x n) (hl : Fk.le w w') : RdS w' B s x n := by
  rcases h with h | ⟨a, cap, h1, h2, h3, h5⟩
  · exact .inl h
  · exact .inr ⟨a, cap, h1, h2, h3, fun i hi => by
      obtain ⟨h4, y, e1, e2⟩ := h5 i hi
      have hlt : (a.add i).block < w.heap.size := by
        apply Nat.lt_of_not_le
        intro hle
        have : w.heap[(a.add i).block]? = none := Array.getElem?_eq_none hle
        simp [World.cell?, this] at e1
      exact ⟨h4, y, (Below.cell hl hlt).trans e1, e2⟩⟩
theorem OwnS.le {w w' : World} {lo hi : Nat} {s : Value} {x : Nat → Nat} {n : Nat} (h : OwnS w lo hi s x n) (hl : Fk.le w w') : OwnS w' lo hi s x n := by
  rcases h with h | ⟨b, o, cap, cs, h1, h2, h3, h4, h5, h6, h7⟩
  · exact .inl h
  · exact .inr ⟨b, o, cap, cs, h1, h2, h3, h4, h5, h6.le hl, h7⟩
theorem RdS.small {w : World} {B : Nat} {s : Value} {x : Nat → Nat} {n : Nat} (h : RdS w B s x n) : n ≤ 9223372036854775807 := by
  rcases h with ⟨_, rfl⟩ | ⟨a, cap, h1, h2, h3, _⟩
  · omega
  · unfold maxLen at h3; omega
theorem SlIn.rd {w : World} {s : Value} {x : Nat → Nat} {n : Nat} (h : SlIn w s x n) : RdS w w.heap.size s (fun i => can .f32 (x i)) n := by
  rcases h with h | ⟨a, cap, h1, h2, h3, h4⟩
  · exact .inl h
  · exact .inr ⟨a, cap, h1, h2, h3, fun i hi => by
      obtain ⟨e1, e2⟩ := h4 i hi
      refine ⟨?_, _, e1, e2, rfl⟩
      show a.block < _
      rw [← add_block a i]
      apply Nat.lt_of_not_le
      intro hle
      have : w.heap[(a.add i).block]? = none := Array.getElem?_eq_none hle
      simp [World.cell?, this] at e1⟩

theorem OwnS.one {w : World} {lo hi : Nat} {s : Value} {x : Nat → Nat} {n : Nat} (h : OwnS w lo hi s x n) : s.oneCell' = true := by
  rcases h with ⟨rfl, _⟩ | ⟨b, o, cap, cs, rfl, _⟩ <;> rfl
theorem RdS.one {w : World} {B : Nat} {s : Value} {x : Nat → Nat} {n : Nat} (h : RdS w B s x n) : s.oneCell' = true := by
  rcases h with ⟨rfl, _⟩ | ⟨a, cap, rfl, _⟩ <;> rfl
theorem one_head {s : Value} {l : List Value} (h : s.oneCell' = true) (hl : l.all (·.oneCell') = true) : (s :: l).toArray.all (·.oneCell') = true := by
  simp only [List.all_toArray', List.all_cons, h, hl, Bool.and_self]
namespace Frg
variable {w0 w w' : World} {L : List Fact}
theorem nil (w : World) : Frg w w [] := ⟨le_refl w, by simp, .nil⟩
theorem le (h : Frg w0 w L) (k : Below w.heap.size w w') : Frg w0 w' L := ⟨le_trans h.below k, fun e he => by
  obtain ⟨h0, h1, h2⟩ := h.facts e he
  exact ⟨h0, Nat.le_trans h1 k.size, e.ok w w' h2 (fun i _ hi => k.block i (by omega))⟩, h.apart⟩
theorem drewN (h : Frg w0 w L) (n : Nat) : Frg w0 (w.drewN n) L := h.le (le_drewN w n)
theorem alloc (h : Frg w0 w L) (o : Obj) : Frg w0 (w.alloc o) L := h.le (le_alloc w o)
/-- A new fact, of blocks that are newer than all that was there. -/
theorem push (h : Frg w0 w L) (k : Below w.heap.size w w') {e : Fact} (he : e.p w') (hl : w.heap.size ≤ e.lo) (hh : e.hi ≤ w'.heap.size) : Frg w0 w' (e :: L) := by
  refine ⟨(h.le k).below, fun x hx => ?_, .cons (fun x hx => Nat.le_trans (h.facts x hx).2.1 hl) h.apart⟩
  rcases List.mem_cons.1 hx with rfl | hx
  · exact ⟨Nat.le_trans h.below.size hl, hh, he⟩
  · exact (h.le k).facts x hx
theorem box (h : Frg w0 w L) (t : TypeId) (cs : Array Value) : Frg w0 (w.alloc (.cells cs t)) (rowF w.heap.size t cs :: L) :=
  h.push (le_alloc w _) (Row.new w t cs) (Nat.le_refl _) (by simp [rowF])
theorem own1 (h : Frg w0 w L) (k : Below w.heap.size w w') {s : Value} {x : Nat → Nat} {n : Nat} (he : OwnS w' w.heap.size w'.heap.size s x n) : Frg w0 w' (ownF w.heap.size w'.heap.size s x n :: L) :=
  h.push k he (Nat.le_refl _) (Nat.le_refl _)
theorem row (h : Frg w0 w L) {g : Nat} {t : TypeId} {cs : Array Value} (hm : rowF g t cs ∈ L) : Row w g t cs := (h.facts _ hm).2.2
theorem own (h : Frg w0 w L) {lo hi : Nat} {s : Value} {x : Nat → Nat} {n : Nat} (hm : ownF lo hi s x n ∈ L) : OwnS w lo hi s x n := (h.facts _ hm).2.2
theorem size (h : Frg w0 w L) : w0.heap.size ≤ w.heap.size := h.below.size
theorem sub {L' : List Fact} (h : Frg w0 w L) (hs : L'.Sublist L) : Frg w0 w L' := ⟨h.below, fun x hx => h.facts x (hs.mem hx), h.apart.sublist hs⟩
/-- One fact's blocks are written: all other facts stand. -/
theorem chg (pre : List Fact) {post : List Fact} {e e' : Fact} (h : Frg w0 w (pre ++ e :: post)) (k : Chg (rng e.lo e.hi) w w') (hp : e'.p w') (h1 : e'.lo = e.lo) (h2 : e'.hi = e.hi) : Frg w0 w' (pre ++ e' :: post) := by
  have he := h.facts e (by simp)
  have hap := List.pairwise_append.1 h.apart
  have hap2 := List.pairwise_cons.1 hap.2.1
  refine ⟨h.below.trans (k.below (fun i hi => Nat.le_trans he.1 hi.1) h.size), fun x hx => ?_, ?_⟩
  · rcases List.mem_append.1 hx with hx | hx
    · have hx' := h.facts x (List.mem_append_left _ hx)
      have ha := hap.2.2 x hx e (by simp)
      exact ⟨hx'.1, Nat.le_trans hx'.2.1 k.size, x.ok w w' hx'.2.2 (fun i a b => k.block i (by omega) (fun c => by have := c.2; omega))⟩
    · rcases List.mem_cons.1 hx with rfl | hx
      · exact ⟨by rw [h1]; exact he.1, by rw [h2]; exact Nat.le_trans he.2.1 k.size, hp⟩
      · have hx' := h.facts x (List.mem_append_right _ (List.mem_cons_of_mem _ hx))
        have ha := hap2.1 x hx
        exact ⟨hx'.1, Nat.le_trans hx'.2.1 k.size, x.ok w w' hx'.2.2 (fun i a b => k.block i (by omega) (fun c => by have := c.1; omega))⟩
  · refine List.pairwise_append.2 ⟨hap.1, List.pairwise_cons.2 ⟨fun x hx => ?_, hap2.2⟩, fun x hx y hy => ?_⟩
    · show x.hi ≤ e'.lo; rw [h1]; exact hap2.1 x hx
    · rcases List.mem_cons.1 hy with rfl | hy
      · show y.hi ≤ x.lo; rw [h2]; exact hap.2.2 x hx e (by simp)
      · exact hap.2.2 x hx y (List.mem_cons_of_mem _ hy)
/-- A row is written. -/
theorem wrote (pre : List Fact) {post : List Fact} {g : Nat} {t : TypeId} {cs cs' : Array Value} (h : Frg w0 w (pre ++ rowF g t cs :: post)) (k : Wrote w w' g t cs') : Frg w0 w' (pre ++ rowF g t cs' :: post) :=
  chg pre (e := rowF g t cs) (e' := rowF g t cs') h ((Chg.refl (rng g (g + 1)) w).wrote k ⟨Nat.le_refl _, Nat.lt_succ_self _⟩) k.row rfl rfl
theorem setC (pre : List Fact) {post : List Fact} {g : Nat} {t : TypeId} {cs : Array Value} (h : Frg w0 w (pre ++ rowF g t cs :: post)) (i : Nat) (v : Value) : Frg w0 (w.setCell ⟨g, i, none⟩ v) (pre ++ rowF g t (cs.setIfInBounds i v) :: post) :=
  chg pre (e := rowF g t cs) (e' := rowF g t (cs.setIfInBounds i v)) h ((Chg.refl (rng g (g + 1)) w).setCell ⟨Nat.le_refl _, Nat.lt_succ_self _⟩ v) ((h.row (by simp)).set i v) rfl rfl
theorem wr0 {post : List Fact} {g : Nat} {t : TypeId} {cs cs' : Array Value} (h : Frg w0 w (rowF g t cs :: post)) (k : Wrote w w' g t cs') : Frg w0 w' (rowF g t cs' :: post) := wrote [] h k
theorem wr1 {b0 : Fact} {post : List Fact} {g : Nat} {t : TypeId} {cs cs' : Array Value} (h : Frg w0 w (b0 :: rowF g t cs :: post)) (k : Wrote w w' g t cs') : Frg w0 w' (b0 :: rowF g t cs' :: post) := wrote [b0] h k
theorem wr2 {b0 b1 : Fact} {post : List Fact} {g : Nat} {t : TypeId} {cs cs' : Array Value} (h : Frg w0 w (b0 :: b1 :: rowF g t cs :: post)) (k : Wrote w w' g t cs') : Frg w0 w' (b0 :: b1 :: rowF g t cs' :: post) := wrote [b0, b1] h k
theorem wr3 {b0 b1 b2 : Fact} {post : List Fact} {g : Nat} {t : TypeId} {cs cs' : Array Value} (h : Frg w0 w (b0 :: b1 :: b2 :: rowF g t cs :: post)) (k : Wrote w w' g t cs') : Frg w0 w' (b0 :: b1 :: b2 :: rowF g t cs' :: post) := wrote [b0, b1, b2] h k
theorem set0 {post : List Fact} {g : Nat} {t : TypeId} {cs : Array Value} (h : Frg w0 w (rowF g t cs :: post)) (i : Nat) (v : Value) : Frg w0 (w.setCell ⟨g, i, none⟩ v) (rowF g t (cs.setIfInBounds i v) :: post) := setC [] h i v
theorem set1 {b0 : Fact} {post : List Fact} {g : Nat} {t : TypeId} {cs : Array Value} (h : Frg w0 w (b0 :: rowF g t cs :: post)) (i : Nat) (v : Value) : Frg w0 (w.setCell ⟨g, i, none⟩ v) (b0 :: rowF g t (cs.setIfInBounds i v) :: post) := setC [b0] h i v
theorem set2 {b0 b1 : Fact} {post : List Fact} {g : Nat} {t : TypeId} {cs : Array Value} (h : Frg w0 w (b0 :: b1 :: rowF g t cs :: post)) (i : Nat) (v : Value) : Frg w0 (w.setCell ⟨g, i, none⟩ v) (b0 :: b1 :: rowF g t (cs.setIfInBounds i v) :: post) := setC [b0, b1] h i v
theorem mark0 {lo hi n : Nat} {s : Value} {x x' : Nat → Nat} {l : List Fact} (h : Frg w0 w (ownF lo hi s x n :: l)) (hp : OwnS w' lo hi s x' n) (k : Chg (rng lo hi) w w') : Frg w0 w' (ownF lo hi s x' n :: l) :=
  chg [] (e := ownF lo hi s x n) (e' := ownF lo hi s x' n) h k hp rfl rfl
theorem mark1 {lo hi n : Nat} {s : Value} {x x' : Nat → Nat} {l : List Fact} {b0 : Fact} (h : Frg w0 w (b0 :: ownF lo hi s x n :: l)) (hp : OwnS w' lo hi s x' n) (k : Chg (rng lo hi) w w') : Frg w0 w' (b0 :: ownF lo hi s x' n :: l) :=
  chg [b0] (e := ownF lo hi s x n) (e' := ownF lo hi s x' n) h k hp rfl rfl
theorem mark2 {lo hi n : Nat} {s : Value} {x x' : Nat → Nat} {l : List Fact} {b0 b1 : Fact} (h : Frg w0 w (b0 :: b1 :: ownF lo hi s x n :: l)) (hp : OwnS w' lo hi s x' n) (k : Chg (rng lo hi) w w') : Frg w0 w' (b0 :: b1 :: ownF lo hi s x' n :: l) :=
  chg [b0, b1] (e := ownF lo hi s x n) (e' := ownF lo hi s x' n) h k hp rfl rfl
theorem mark3 {lo hi n : Nat} {s : Value} {x x' : Nat → Nat} {l : List Fact} {b0 b1 b2 : Fact} (h : Frg w0 w (b0 :: b1 :: b2 :: ownF lo hi s x n :: l)) (hp : OwnS w' lo hi s x' n) (k : Chg (rng lo hi) w w') : Frg w0 w' (b0 :: b1 :: b2 :: ownF lo hi s x' n :: l) :=
  chg [b0, b1, b2] (e := ownF lo hi s x n) (e' := ownF lo hi s x' n) h k hp rfl rfl
theorem mark4 {lo hi n : Nat} {s : Value} {x x' : Nat → Nat} {l : List Fact} {b0 b1 b2 b3 : Fact} (h : Frg w0 w (b0 :: b1 :: b2 :: b3 :: ownF lo hi s x n :: l)) (hp : OwnS w' lo hi s x' n) (k : Chg (rng lo hi) w w') : Frg w0 w' (b0 :: b1 :: b2 :: b3 :: ownF lo hi s x' n :: l) :=
  chg [b0, b1, b2, b3] (e := ownF lo hi s x n) (e' := ownF lo hi s x' n) h k hp rfl rfl
theorem mark5 {lo hi n : Nat} {s : Value} {x x' : Nat → Nat} {l : List Fact} {b0 b1 b2 b3 b4 : Fact} (h : Frg w0 w (b0 :: b1 :: b2 :: b3 :: b4 :: ownF lo hi s x n :: l)) (hp : OwnS w' lo hi s x' n) (k : Chg (rng lo hi) w w') : Frg w0 w' (b0 :: b1 :: b2 :: b3 :: b4 :: ownF lo hi s x' n :: l) :=
  chg [b0, b1, b2, b3, b4] (e := ownF lo hi s x n) (e' := ownF lo hi s x' n) h k hp rfl rfl
theorem mark6 {lo hi n : Nat} {s : Value} {x x' : Nat → Nat} {l : List Fact} {b0 b1 b2 b3 b4 b5 : Fact} (h : Frg w0 w (b0 :: b1 :: b2 :: b3 :: b4 :: b5 :: ownF lo hi s x n :: l)) (hp : OwnS w' lo hi s x' n) (k : Chg (rng lo hi) w w') : Frg w0 w' (b0 :: b1 :: b2 :: b3 :: b4 :: b5 :: ownF lo hi s x' n :: l) :=
  chg [b0, b1, b2, b3, b4, b5] (e := ownF lo hi s x n) (e' := ownF lo hi s x' n) h k hp rfl rfl
theorem mark7 {lo hi n : Nat} {s : Value} {x x' : Nat → Nat} {l : List Fact} {b0 b1 b2 b3 b4 b5 b6 : Fact} (h : Frg w0 w (b0 :: b1 :: b2 :: b3 :: b4 :: b5 :: b6 :: ownF lo hi s x n :: l)) (hp : OwnS w' lo hi s x' n) (k : Chg (rng lo hi) w w') : Frg w0 w' (b0 :: b1 :: b2 :: b3 :: b4 :: b5 :: b6 :: ownF lo hi s x' n :: l) :=
  chg [b0, b1, b2, b3, b4, b5, b6] (e := ownF lo hi s x n) (e' := ownF lo hi s x' n) h k hp rfl rfl
theorem mark8 {lo hi n : Nat} {s : Value} {x x' : Nat → Nat} {l : List Fact} {b0 b1 b2 b3 b4 b5 b6 b7 : Fact} (h : Frg w0 w (b0 :: b1 :: b2 :: b3 :: b4 :: b5 :: b6 :: b7 :: ownF lo hi s x n :: l)) (hp : OwnS w' lo hi s x' n) (k : Chg (rng lo hi) w w') : Frg w0 w' (b0 :: b1 :: b2 :: b3 :: b4 :: b5 :: b6 :: b7 :: ownF lo hi s x' n :: l) :=
  chg [b0, b1, b2, b3, b4, b5, b6, b7] (e := ownF lo hi s x n) (e' := ownF lo hi s x' n) h k hp rfl rfl
theorem mark9 {lo hi n : Nat} {s : Value} {x x' : Nat → Nat} {l : List Fact} {b0 b1 b2 b3 b4 b5 b6 b7 b8 : Fact} (h : Frg w0 w (b0 :: b1 :: b2 :: b3 :: b4 :: b5 :: b6 :: b7 :: b8 :: ownF lo hi s x n :: l)) (hp : OwnS w' lo hi s x' n) (k : Chg (rng lo hi) w w') : Frg w0 w' (b0 :: b1 :: b2 :: b3 :: b4 :: b5 :: b6 :: b7 :: b8 :: ownF lo hi s x' n :: l) :=
  chg [b0, b1, b2, b3, b4, b5, b6, b7, b8] (e := ownF lo hi s x n) (e' := ownF lo hi s x' n) h k hp rfl rfl
end Frg

section
variable {P : Program} {w : World} {ops : Array Oper} {rest : List Oper} {o : Oper} {a : Act} {Q : Exit → Act → World → Prop}
theorem wpList_loadG {w0 : World} {L : List Fact} (hF : Frg w0 w L) (hg : o.guard = none) {ty : TypeId} {x : Operand} (hop : o.op = .load ty x) {g : Nat} (hx : a.eval x = .pointer (some ⟨g, 0, none⟩)) {t : TypeId} {cs : Array Value} {d : TypeDesc}
    (hm : rowF g t cs ∈ L) (hu : P.underlying ty = some d) (hd : (match d with | .struct _ | .array _ _ => true | _ => false) = true) {n : Nat} (hi : (P.info? ty).map (·.size) = some n) (hn : cs.size = n)
    (h : wpList P ops Q rest (a.put o.dst (.agg cs)) w) : wpList P ops Q (o :: rest) a w :=
  wpList_loadD hg hop hx (hF.row hm) hu hd (hn ▸ hi) h
theorem wpList_loadGG {w0 : World} {L : List Fact} (hF : Frg w0 w L) {ty : TypeId} {x : Operand} (hop : o.op = .load ty x) {g : Nat} (hx : a.eval x = .pointer (some ⟨g, 0, none⟩)) {t : TypeId} {cs : Array Value} {d : TypeDesc}
    (hm : rowF g t cs ∈ L) (hu : P.underlying ty = some d) (hd : (match d with | .struct _ | .array _ _ => true | _ => false) = true) {n : Nat} (hi : (P.info? ty).map (·.size) = some n) (hn : cs.size = n) (hw : Region.wanted o (yielded ops a.tmps) = true)
    (h : wpList P ops Q rest (a.put o.dst (.agg cs)) w) : wpList P ops Q (o :: rest) a w :=
  wpList_step fun K hK => by
    simp only [hw, if_true]
    exact wp_load_row ty x hop g hx t cs (0, 0) d (hF.row hm) hu hd (hn ▸ hi) (hK _ _ h)
/-- A part of a block is loaded. -/
theorem wpList_loadGP {w0 : World} {L : List Fact} (hF : Frg w0 w L) (hg : o.guard = none) {ty : TypeId} {x : Operand} (hop : o.op = .load ty x) {g f : Nat} (hx : a.eval x = .pointer (some ⟨g, f, none⟩)) {t : TypeId} {cs : Array Value} {d : TypeDesc}
    (hm : rowF g t cs ∈ L) (hu : P.underlying ty = some d) (hd : d.isRow = true) (ds : List Value) (hc : ∀ j, j < ds.length → cs[f + j]? = ds[j]?) {n : Nat} (hi : (P.info? ty).map (·.size) = some n) (hn : ds.length = n)
    (h : wpList P ops Q rest (a.put o.dst (.agg ds.toArray)) w) : wpList P ops Q (o :: rest) a w :=
  wpList_loadP hg hop hx (hF.row hm) hu hd ds hc (hn ▸ hi) h
theorem wpList_loadDR {g : Nat} {t : TypeId} {cs : Array Value} (hr : Row w g t cs) (hg : o.guard = none) {ty : TypeId} {x : Operand} (hop : o.op = .load ty x) (hx : a.eval x = .pointer (some ⟨g, 0, none⟩)) {d : TypeDesc}
    (hu : P.underlying ty = some d) (hd : (match d with | .struct _ | .array _ _ => true | _ => false) = true) {n : Nat} (hi : (P.info? ty).map (·.size) = some n) (hn : cs.size = n)
    (h : wpList P ops Q rest (a.put o.dst (.agg cs)) w) : wpList P ops Q (o :: rest) a w :=
  wpList_loadD hg hop hx hr hu hd (hn ▸ hi) h
theorem wpList_loadPR {g f : Nat} {t : TypeId} {cs : Array Value} (hr : Row w g t cs) (hg : o.guard = none) {ty : TypeId} {x : Operand} (hop : o.op = .load ty x) (hx : a.eval x = .pointer (some ⟨g, f, none⟩)) {d : TypeDesc}
    (hu : P.underlying ty = some d) (hd : d.isRow = true) (ds : List Value) (hc : ∀ j, j < ds.length → cs[f + j]? = ds[j]?) {n : Nat} (hi : (P.info? ty).map (·.size) = some n) (hn : ds.length = n)
    (h : wpList P ops Q rest (a.put o.dst (.agg ds.toArray)) w) : wpList P ops Q (o :: rest) a w :=
  wpList_loadP hg hop hx hr hu hd ds hc (hn ▸ hi) h
/-- A part of a block is loaded, by a guarded operation. -/
theorem wpList_loadGPG {w0 : World} {L : List Fact} (hF : Frg w0 w L) {ty : TypeId} {x : Operand} (hop : o.op = .load ty x) {g f : Nat} (hx : a.eval x = .pointer (some ⟨g, f, none⟩)) {t : TypeId} {cs : Array Value} {d : TypeDesc}
    (hm : rowF g t cs ∈ L) (hu : P.underlying ty = some d) (hd : d.isRow = true) (ds : List Value) (hc : ∀ j, j < ds.length → cs[f + j]? = ds[j]?) {n : Nat} (hi : (P.info? ty).map (·.size) = some n) (hn : ds.length = n) (hw : Region.wanted o (yielded ops a.tmps) = true)
    (h : wpList P ops Q rest (a.put o.dst (.agg ds.toArray)) w) : wpList P ops Q (o :: rest) a w :=
  wpList_step fun K hK => by
    simp only [hw, if_true]
    exact wp_load_mid ty x hop g f hx ds d (fun j v hv => by rw [(hF.row hm).cell?, hc j (List.getElem?_eq_some_iff.1 hv).1, hv]) hu hd (hn ▸ hi) (hK _ _ h)
/-- A fresh block is written whole. -/
theorem wpList_storeG {w0 w1 : World} {L : List Fact} {t : TypeId} {old : Array Value} (hF : Frg w0 w1 L) (hw : w = w1.alloc (.cells old t)) (hg : o.guard = none) {ty : TypeId} {x y : Operand} (hop : o.op = .store ty x y) (hx : a.eval x = .pointer (some ⟨w1.heap.size, 0, none⟩)) {cells : Array Value} (hy : a.eval y = .agg cells)
    (hi : (P.info? ty).map (·.size) = some cells.size) (ho : old.size = cells.size) (h1 : cells.all (·.oneCell') = true)
    (h : ∀ w', Frg w0 w' (rowF w1.heap.size t cells :: L) → w'.heap.size = w1.heap.size + 1 → wpList P ops Q rest (a.put o.dst undef) w') : wpList P ops Q (o :: rest) a w :=
  wpList_storeN hw hg hop hx hy hi ho h1 (fun w' hr hl hz => h w' (hF.push hl hr (Nat.le_refl _) (by have := hr.lt; simp only [rowF]; omega)) hz)
end

theorem wpAt0 {P : Program} {c : Code} {Q : Exit → Act → World → Prop} {a : Act} {w0 w : World} {L : List Fact} (F : Frg w0 w L) (h : ∀ w', Frg w0 w' L → c.wp P Q a w') : c.wp P Q a w := h _ F
theorem wpAtN {P : Program} {c : Code} {Q : Exit → Act → World → Prop} {a : Act} {w0 w : World} {L : List Fact} {n : Nat} (F : Frg w0 w L) (h : ∀ w', Frg w0 w' L → c.wp P Q a w') : c.wp P Q a (w.drewN n) := h _ (F.drewN n)
theorem callAt0 {P : Program} {f : FuncId} {args : Array Value} {R : Ending → World → Prop} {w0 w : World} {L : List Fact} (F : Frg w0 w L) (h : ∀ w', Frg w0 w' L → Calls P f args w' R) : Calls P f args w R := h _ F
theorem callAtN {P : Program} {f : FuncId} {args : Array Value} {R : Ending → World → Prop} {w0 w : World} {L : List Fact} {n : Nat} (F : Frg w0 w L) (h : ∀ w', Frg w0 w' L → Calls P f args w' R) : Calls P f args (w.drewN n) R := h _ (F.drewN n)
section
variable {P : Program} {w0 w : World} {L : List Fact} {n : Nat} {ops : Array Oper} {rest : List Oper} {o : Oper} {a : Act} {Q : Exit → Act → World → Prop}
/-- The world behind draws under a name. -/
theorem listN (F : Frg w0 w L) (h : ∀ w', Frg w0 w' L → wpList P ops Q rest a w') : wpList P ops Q rest a (w.drewN n) := h _ (F.drewN n)
theorem at_loadU {ty : TypeId} {x : Operand} (_ : o.guard = none) (_ : o.op = .load ty x) (h : wpList P ops Q (o :: rest) a w) : wpList P ops Q (o :: rest) a w := h
theorem at_loadV {ty : TypeId} {x : Operand} {g : Tmp × Bool} (_ : o.guard = some g) (_ : o.op = .load ty x) (h : wpList P ops Q (o :: rest) a w) : wpList P ops Q (o :: rest) a w := h
theorem at_store {ty : TypeId} {x y : Operand} (_ : o.op = .store ty x y) (h : wpList P ops Q (o :: rest) a w) : wpList P ops Q (o :: rest) a w := h
end
/-- Nothing turns. -/
def leX : Ext := ⟨le, le_refl, le_trans, id⟩
section
variable {E : Ext} {P : Program} {ops : Array Oper} {W : World} {K : FuncId → Array Value → World → Value → Prop} {Q : Act → World → Prop} {F : Facts} {k : Nat} {o : Oper} {rest : List Oper} {a : Act}
/-- A call that leans on what is known of the operations that it comes behind. -/
theorem wpFreeD_callB (hg : o.guard = none) {f : FuncId} {xs : Array Operand} {ts : Array TypeId} (hop : o.op = Op.call { callee := Callee.value (Operand.func f), args := xs, argTypes := ts }) {fn : Func} (hf : P.funcs[f]? = some fn)
    (hb : fn.body.isNone = false) (hn : (fn.name == "runtime.NumGoroutine") = false) {args : Array Value} (ha : xs.map a.eval = args) (hm : MonoT E (K f args))
    (h1 : ∀ w, E.R W w → behind .any o F w → Calls P f args w (fun e w' => ∃ v, e = .returned v ∧ le w w' ∧ K f args w' v)) (h2 : ∀ v, (∃ w, E.R W w ∧ (∀ e, F e w) ∧ K f args w v) → wpFreeD E P ops .any W K Q rest (k + 1) (a.put o.dst v) (F.with k (fun w => K f args w v))) : wpFreeD E P ops .any W K Q (o :: rest) k a F := by
  refine ⟨K f args, ⟨hm, .inl ⟨by simp [Region.wanted, hg], fun w hw hbe => ?_⟩⟩, fun v hv => h2 v hv⟩
  rw [run_enter hop hf hb hn ha]
  refine ⟨E.refl w, (h1 w hw hbe).mono ?_, fun _ _ h => h⟩
  rintro e w' ⟨v, rfl, hl, hk⟩
  exact ⟨v, rfl, E.of_le hl, hk⟩
theorem wpFreeD_loadG {w0 w1 : World} {L : List Fact} {n : Nat} (hF : Frg w0 w1 L) (hW : W = w1.drewN n) (hg : o.guard = none) {ty : TypeId} {x : Operand} (hop : o.op = .load ty x) {g : Nat} (hx : a.eval x = .pointer (some ⟨g, 0, none⟩)) {t : TypeId} {cs : Array Value} {d : TypeDesc}
    (hm : rowF g t cs ∈ L) (hu : P.underlying ty = some d) (hd : (match d with | .struct _ | .array _ _ => true | _ => false) = true) {m : Nat} (hi : (P.info? ty).map (·.size) = some m) (hs : cs.size = m)
    (h : wpFreeD leX P ops .any W K Q rest (k + 1) (a.put o.dst (.agg cs)) (F.with k (fun _ => True))) : wpFreeD leX P ops .any W K Q (o :: rest) k a F := by
  subst hW hs
  refine wpFreeD_one hg (.agg cs) (fun w hw => ?_) h
  have := run_loadVar_row (P := P) w g t ty cs (0, 0) _ (((hF.row hm).drewN n).le hw) hu hd hi
  simp [execOp, hop, hx, Instr.loadAt, Instr.sureAddr, this, Result.andThen]
end
end Go.Fk

/- 'MixFour' and 'SpreadFour' of both. -/
namespace Go.Fk
open Go Go.RowKit
def OutF (n : Nat) (F : Nat → Nat) (w : World) (e : Ending) (w' : World) : Prop := ∃ g, e = .returned (.agg (ftab .f32 g n)) ∧ (∀ j, j < n → can .f32 (g j) = F j ∧ fits .f32 (g j)) ∧ Below w.heap.size w w'
/-- Four samples, mixed. -/
def mixV (a b c d : Nat) : Nat → Nat
  | 0 => fop .mul .f32 1056964608 (fop .add .f32 (fop .add .f32 a b) (fop .add .f32 c d))
  | 1 => fop .mul .f32 1056964608 (fop .add .f32 (fop .sub .f32 a b) (fop .sub .f32 c d))
  | 2 => fop .mul .f32 1056964608 (fop .sub .f32 (fop .add .f32 a b) (fop .add .f32 c d))
  | _ => fop .mul .f32 1056964608 (fop .sub .f32 (fop .sub .f32 a b) (fop .sub .f32 c d))
theorem mix_of {o1 o2 o3 : BinOp} {a b c d h p q t r : Nat} (hp : can .f32 p = fop o1 .f32 a b) (hq : can .f32 q = fop o2 .f32 c d) (ht : can .f32 t = fop o3 .f32 p q) (hr : can .f32 r = fop .mul .f32 h t) : can .f32 r = fop .mul .f32 h (fop o3 .f32 (fop o1 .f32 a b) (fop o2 .f32 c d)) := by
  rw [hr]
  refine fop_congr rfl ?_
  rw [can_fop, ht]
  exact fop_congr (hp.trans (can_fop _ _ _ _).symm) (hq.trans (can_fop _ _ _ _).symm)
theorem four_tab (a b c d : Nat) : (#[.float .f32 a, .float .f32 b, .float .f32 c, .float .f32 d] : Array Value) = ftab .f32 (fun j => [a, b, c, d].getD j 0) 4 := rfl
theorem four_all {a b c d : Nat} {F : Nat → Nat} (h0 : can .f32 a = F 0) (h1 : can .f32 b = F 1) (h2 : can .f32 c = F 2) (h3 : can .f32 d = F 3) (f0 : fits .f32 a) (f1 : fits .f32 b) (f2 : fits .f32 c) (f3 : fits .f32 d) : ∀ j, j < 4 → can .f32 ([a, b, c, d].getD j 0) = F j ∧ fits .f32 ([a, b, c, d].getD j 0) := fun j hj => by
  match j, hj with
  | 0, _ => exact ⟨h0, f0⟩
  | 1, _ => exact ⟨h1, f1⟩
  | 2, _ => exact ⟨h2, f2⟩
  | 3, _ => exact ⟨h3, f3⟩
theorem tab_four (x : Nat → Nat) : ftab .f32 x 4 = #[.float .f32 (x 0), .float .f32 (x 1), .float .f32 (x 2), .float .f32 (x 3)] := rfl
/-- What is taken from each of four samples. -/
def shareV (x : Nat → Nat) (c : Nat) : Nat := fop .quo .f32 (fop .mul .f32 c (fop .add .f32 (fop .add .f32 (fop .add .f32 (x 0) (x 1)) (x 2)) (x 3))) 1073741824
theorem share_of {x : Nat → Nat} {c s1 s2 s3 m q : Nat} (h1 : can .f32 s1 = fop .add .f32 (x 0) (x 1)) (h2 : can .f32 s2 = fop .add .f32 s1 (x 2)) (h3 : can .f32 s3 = fop .add .f32 s2 (x 3)) (hm : can .f32 m = fop .mul .f32 c s3) (hq : can .f32 q = fop .quo .f32 m 1073741824) : can .f32 q = shareV x c := by
  unfold shareV
  rw [hq]
  refine fop_congr (hm.trans ?_) rfl
  rw [can_fop]
  refine fop_congr rfl (h3.trans ?_)
  rw [can_fop]
  refine fop_congr (h2.trans ?_) rfl
  rw [can_fop]
  exact fop_congr (h1.trans (can_fop _ _ _ _).symm) rfl
theorem less_of {x q r : Nat} {S : Nat} (hq : can .f32 q = S) (hS : can .f32 S = S) (hr : can .f32 r = fop .sub .f32 x q) : can .f32 r = fop .sub .f32 x S := by
  rw [hr]; exact fop_congr rfl (hq.trans hS.symm)
theorem can_shareV (x : Nat → Nat) (c : Nat) : can .f32 (shareV x c) = shareV x c := can_fop _ _ _ _
end Go.Fk
namespace Go.Proofs.Ytgjdmoenobacgab
open Go.RowKit Go.Fk
set_option maxRecDepth 100000 in
set_option maxHeartbeats 4000000 in
theorem s_MixFour (x : Nat → Nat) (w : World) : Calls Try.prog 27 #[.agg (ftab .f32 x 4)] w (OutF 4 (mixV (x 0) (x 1) (x 2) (x 3)) w) := by
  rw [tab_four]
  have F := ((Frg.nil w).box 45 #[.float .f32 (x 0), .float .f32 (x 1), .float .f32 (x 2), .float .f32 (x 3)]).box 45 #[.float .f32 0, .float .f32 0, .float .f32 0, .float .f32 0]
  simp only [World.size_alloc] at F
  go_enter Try.func27, Try.ntmps27
  go_wp2_with (first | (with_reducible refine wpList_farith (op := .add) (p := x 0) (q := x 1) rfl rfl rfl rfl rfl ?_; intro p np hp fp) | (with_reducible refine wpList_farith (op := .sub) (p := x 0) (q := x 1) rfl rfl rfl rfl rfl ?_; intro q nq hq fq) | (with_reducible refine wpList_farith (op := .add) (p := x 2) (q := x 3) rfl rfl rfl rfl rfl ?_; intro r nr hr fr) | (with_reducible refine wpList_farith (op := .sub) (p := x 2) (q := x 3) rfl rfl rfl rfl rfl ?_; intro s ns hs fs) | (with_reducible refine wpList_farith (op := .add) (p := p) (q := r) rfl rfl rfl rfl rfl ?_; intro t0 nt0 ht0 ft0) | (with_reducible refine wpList_farith (op := .mul) (p := 1056964608) (q := t0) rfl rfl rfl rfl rfl ?_; intro m0_ nm0_ hm0_ fm0_) | (with_reducible refine wpList_farith (op := .add) (p := q) (q := s) rfl rfl rfl rfl rfl ?_; intro t1 nt1 ht1 ft1) | (with_reducible refine wpList_farith (op := .mul) (p := 1056964608) (q := t1) rfl rfl rfl rfl rfl ?_; intro m1_ nm1_ hm1_ fm1_) | (with_reducible refine wpList_farith (op := .sub) (p := p) (q := r) rfl rfl rfl rfl rfl ?_; intro t2 nt2 ht2 ft2) | (with_reducible refine wpList_farith (op := .mul) (p := 1056964608) (q := t2) rfl rfl rfl rfl rfl ?_; intro m2_ nm2_ hm2_ fm2_) | (with_reducible refine wpList_farith (op := .sub) (p := q) (q := s) rfl rfl rfl rfl rfl ?_; intro t3 nt3 ht3 ft3) | (with_reducible refine wpList_farith (op := .mul) (p := 1056964608) (q := t3) rfl rfl rfl rfl rfl ?_; intro m3_ nm3_ hm3_ fm3_) | (with_reducible refine stop_store rfl ?_))
  show wpList _ _ _ _ _ _
  refine wpList_storeD rfl rfl rfl (cells := #[.float .f32 m0_, .float .f32 m1_, .float .f32 m2_, .float .f32 m3_]) rfl ((F.drewN _).row m0) infoA4 rfl (by simp [Value.oneCell']) (fun w4 KW => ?_)
  have R := hid KW.row
  have L := hid ((F.drewN _).wr0 KW).below
  clear KW F
  go_wp2
  refine bodyPost_ret (results_row1 rfl _ _ _ _ _ rfl R.out Try.underlying45 rfl infoA4) rfl ⟨_, by rw [four_tab], ?_, L.out⟩
  exact four_all (mix_of hp.out hr.out ht0.out hm0_.out) (mix_of hq.out hs.out ht1.out hm1_.out) (mix_of hp.out hr.out ht2.out hm2_.out) (mix_of hq.out hs.out ht3.out hm3_.out) fm0_.out fm1_.out fm2_.out fm3_.out
set_option maxRecDepth 100000 in
set_option maxHeartbeats 4000000 in
theorem i_MixFour (x : Nat → Nat) (w : World) : Calls Try.prog 29 #[.agg (ftab .f32 x 4)] w (OutF 4 (mixV (x 0) (x 1) (x 2) (x 3)) w) := by
  rw [tab_four]
  have F := ((Frg.nil w).box 45 #[.float .f32 (x 0), .float .f32 (x 1), .float .f32 (x 2), .float .f32 (x 3)]).box 45 #[.float .f32 0, .float .f32 0, .float .f32 0, .float .f32 0]
  simp only [World.size_alloc] at F
  go_enter Try.func29, Try.ntmps29
  go_wp2_with fail
  refine wp_region_loose (fun _ _ _ => True) (by kernel_rfl) (by kernel_rfl) ?_
  repeat (first | (with_reducible refine wpLoose_farith (op := .add) (p := x 0) (q := x 1) rfl rfl rfl rfl rfl ?_; intro p hp fp; simp only [Act.put, List.setIfInBounds_toArray, List.set_cons_succ, List.set_cons_zero]) | (with_reducible refine wpLoose_farith (op := .sub) (p := x 0) (q := x 1) rfl rfl rfl rfl rfl ?_; intro q hq fq; simp only [Act.put, List.setIfInBounds_toArray, List.set_cons_succ, List.set_cons_zero]) | (refine wpLoose_quiet rfl ?_; go_big_quiet_step (fail); refine wpQuiet_nil ?_))
  refine wpLoose_nil (fun m1 => ?_)
  go_wp2_with fail
  refine wp_region_loose (fun _ _ _ => True) (by kernel_rfl) (by kernel_rfl) ?_
  repeat (first | (with_reducible refine wpLoose_farith (op := .add) (p := x 2) (q := x 3) rfl rfl rfl rfl rfl ?_; intro r hr fr; simp only [Act.put, List.setIfInBounds_toArray, List.set_cons_succ, List.set_cons_zero]) | (with_reducible refine wpLoose_farith (op := .sub) (p := x 2) (q := x 3) rfl rfl rfl rfl rfl ?_; intro s hs fs; simp only [Act.put, List.setIfInBounds_toArray, List.set_cons_succ, List.set_cons_zero]) | (refine wpLoose_quiet rfl ?_; go_big_quiet_step (fail); refine wpQuiet_nil ?_))
  refine wpLoose_nil (fun m2 => ?_)
  go_wp2_with (first | (with_reducible refine wpList_farith (op := .add) (p := p) (q := r) rfl rfl rfl rfl rfl ?_; intro t0 nt0 ht0 ft0) | (with_reducible refine wpList_farith (op := .mul) (p := 1056964608) (q := t0) rfl rfl rfl rfl rfl ?_; intro m0_ nm0_ hm0_ fm0_) | (with_reducible refine wpList_farith (op := .add) (p := q) (q := s) rfl rfl rfl rfl rfl ?_; intro t1 nt1 ht1 ft1) | (with_reducible refine wpList_farith (op := .mul) (p := 1056964608) (q := t1) rfl rfl rfl rfl rfl ?_; intro m1_ nm1_ hm1_ fm1_) | (with_reducible refine wpList_farith (op := .sub) (p := p) (q := r) rfl rfl rfl rfl rfl ?_; intro t2 nt2 ht2 ft2) | (with_reducible refine wpList_farith (op := .mul) (p := 1056964608) (q := t2) rfl rfl rfl rfl rfl ?_; intro m2_ nm2_ hm2_ fm2_) | (with_reducible refine wpList_farith (op := .sub) (p := q) (q := s) rfl rfl rfl rfl rfl ?_; intro t3 nt3 ht3 ft3) | (with_reducible refine wpList_farith (op := .mul) (p := 1056964608) (q := t3) rfl rfl rfl rfl rfl ?_; intro m3_ nm3_ hm3_ fm3_) | (with_reducible refine stop_store rfl ?_))
  show wpList _ _ _ _ _ _
  refine wpList_storeD rfl rfl rfl (cells := #[.float .f32 m0_, .float .f32 m1_, .float .f32 m2_, .float .f32 m3_]) rfl ((F.drewN _).row m0) infoA4 rfl (by simp [Value.oneCell']) (fun w4 KW => ?_)
  have R := hid KW.row
  have L := hid ((F.drewN _).wr0 KW).below
  clear KW F
  go_wp2
  refine bodyPost_ret (results_row1 rfl _ _ _ _ _ rfl R.out Try.underlying45 rfl infoA4) rfl ⟨_, by rw [four_tab], ?_, L.out⟩
  exact four_all (mix_of hp.out hr.out ht0.out hm0_.out) (mix_of hq.out hs.out ht1.out hm1_.out) (mix_of hp.out hr.out ht2.out hm2_.out) (mix_of hq.out hs.out ht3.out hm3_.out) fm0_.out fm1_.out fm2_.out fm3_.out
set_option maxRecDepth 100000 in
set_option maxHeartbeats 4000000 in
theorem s_SpreadFour (x : Nat → Nat) (c : Nat) (w : World) : Calls Try.prog 31 #[.agg (ftab .f32 x 4), .float .f32 c] w (OutF 4 (fun j => fop .sub .f32 (x j) (shareV x c)) w) := by
  rw [tab_four]
  have F := ((Frg.nil w).box 45 #[.float .f32 (x 0), .float .f32 (x 1), .float .f32 (x 2), .float .f32 (x 3)]).box 45 #[.float .f32 0, .float .f32 0, .float .f32 0, .float .f32 0]
  simp only [World.size_alloc] at F
  go_enter Try.func31, Try.ntmps31
  go_wp2_with (first | (with_reducible refine wpList_farith (op := .add) (p := x 0) (q := x 1) rfl rfl rfl rfl rfl ?_; intro s1 ns1 hs1 fs1) | (with_reducible refine wpList_farith (op := .add) (p := s1) (q := x 2) rfl rfl rfl rfl rfl ?_; intro s2 ns2 hs2 fs2) | (with_reducible refine wpList_farith (op := .add) (p := s2) (q := x 3) rfl rfl rfl rfl rfl ?_; intro s3 ns3 hs3 fs3) | (with_reducible refine wpList_farith (op := .mul) (p := c) (q := s3) rfl rfl rfl rfl rfl ?_; intro mm nmm hmm fmm) | (with_reducible refine wpList_farith (op := .quo) (p := mm) (q := 1073741824) rfl rfl rfl rfl rfl ?_; intro q nq hq fq) | (with_reducible refine wpList_farith (op := .sub) (p := x 0) (q := q) rfl rfl rfl rfl rfl ?_; intro d0 nd0 hd0 fd0) | (with_reducible refine wpList_farith (op := .sub) (p := x 1) (q := q) rfl rfl rfl rfl rfl ?_; intro d1 nd1 hd1 fd1) | (with_reducible refine wpList_farith (op := .sub) (p := x 2) (q := q) rfl rfl rfl rfl rfl ?_; intro d2 nd2 hd2 fd2) | (with_reducible refine wpList_farith (op := .sub) (p := x 3) (q := q) rfl rfl rfl rfl rfl ?_; intro d3 nd3 hd3 fd3) | (with_reducible refine stop_store rfl ?_))
  show wpList _ _ _ _ _ _
  refine wpList_storeD rfl rfl rfl (cells := #[.float .f32 d0, .float .f32 d1, .float .f32 d2, .float .f32 d3]) rfl ((F.drewN _).row m0) infoA4 rfl (by simp [Value.oneCell']) (fun w4 KW => ?_)
  have R := hid KW.row
  have L := hid ((F.drewN _).wr0 KW).below
  clear KW F
  go_wp2
  refine bodyPost_ret (results_row1 rfl _ _ _ _ _ rfl R.out Try.underlying45 rfl infoA4) rfl ⟨_, by rw [four_tab], ?_, L.out⟩
  have hS := share_of hs1.out hs2.out hs3.out hmm.out hq.out
  exact four_all (less_of hS (can_shareV x c) hd0.out) (less_of hS (can_shareV x c) hd1.out) (less_of hS (can_shareV x c) hd2.out) (less_of hS (can_shareV x c) hd3.out) fd0.out fd1.out fd2.out fd3.out
set_option maxRecDepth 100000 in
set_option maxHeartbeats 4000000 in
theorem i_SpreadFour (x : Nat → Nat) (c : Nat) (w : World) : Calls Try.prog 32 #[.agg (ftab .f32 x 4), .float .f32 c] w (OutF 4 (fun j => fop .sub .f32 (x j) (shareV x c)) w) := by
  rw [tab_four]
  have F := ((Frg.nil w).box 45 #[.float .f32 (x 0), .float .f32 (x 1), .float .f32 (x 2), .float .f32 (x 3)]).box 45 #[.float .f32 0, .float .f32 0, .float .f32 0, .float .f32 0]
  simp only [World.size_alloc] at F
  go_enter Try.func32, Try.ntmps32
  go_wp2_with (first | (with_reducible refine wpList_farith (op := .add) (p := x 0) (q := x 1) rfl rfl rfl rfl rfl ?_; intro s1 ns1 hs1 fs1) | (with_reducible refine wpList_farith (op := .add) (p := s1) (q := x 2) rfl rfl rfl rfl rfl ?_; intro s2 ns2 hs2 fs2) | (with_reducible refine wpList_farith (op := .add) (p := s2) (q := x 3) rfl rfl rfl rfl rfl ?_; intro s3 ns3 hs3 fs3) | (with_reducible refine wpList_farith (op := .mul) (p := c) (q := s3) rfl rfl rfl rfl rfl ?_; intro mm nmm hmm fmm) | (with_reducible refine wpList_farith (op := .quo) (p := mm) (q := 1073741824) rfl rfl rfl rfl rfl ?_; intro q nq hq fq))
  have hS := hid (share_of hs1.out hs2.out hs3.out hmm.out hq.out)
  have FD := F.drewN ns1
  have G0 := hid F; clear F FD
  go_loopw [23] (fun i wr => ∃ k : Nat, k ≤ 4 ∧ i = .int .i64 k ∧ ∃ g, Hid (∀ j, j < k → can .f32 (g j) = fop .sub .f32 (x j) (shareV x c) ∧ fits .f32 (g j)) ∧ Hid (∀ j, k ≤ j → g j = x j) ∧ Hid (Frg w wr [rowF (w.heap.size + 1) 45 #[.float .f32 0, .float .f32 0, .float .f32 0, .float .f32 0], rowF w.heap.size 45 (ftab .f32 g 4)])) (fun i _ => 4 - (intOf i).toNat)
  case atStart =>
    refine ⟨0, by omega, rfl, x, fun j hj => by omega, fun j _ => rfl, ?_⟩
    exact G0.out.drewN _
  case round =>
    obtain ⟨k, hk, rfl, g, Hg, Hx, HF⟩ := hrel
    by_cases hlt : k < 4
    · have c1 := (HF.out.row m1).ftab hlt
      rw [Hx.out k (Nat.le_refl _)] at c1
      have f1 := (HF.out.row m1).frozen k
      go_wp2_with (with_reducible refine wpList_farith (op := .sub) rfl rfl rfl rfl rfl ?_; intro r nr hr fr)
      go_roundw
      case rel =>
        refine ⟨k + 1, by omega, by go_num, fun j => if j = k then r else g j, fill_step (p := fun j v => can .f32 v = fop .sub .f32 (x j) (shareV x c) ∧ fits .f32 v) Hg.out ⟨less_of hS.out (can_shareV x c) hr.out, fr.out⟩, rest_step Hx.out, ?_⟩
        have h := (HF.out.drewN nr).set1 k (.float .f32 r)
        rw [set_ftab] at h
        exact h
      case measure => simp [intOf]; omega
    · obtain rfl : k = 4 := by omega
      have F := HF.out
      have hsz : (Try.prog.info? 45).map (·.size) = some (ftab .f32 g 4).size := by rw [size_ftab]; exact infoA4
      go_wp2_with (first | (with_reducible refine wpList_loadA rfl rfl rfl (F.row m1) Try.underlying45 hsz ?_) | (with_reducible refine stop_store rfl ?_))
      show wpList _ _ _ _ _ _
      refine wpList_storeD rfl rfl rfl (cells := ftab .f32 g 4) rfl (F.row m0) hsz (by rw [size_ftab]; rfl) (one_ftab _ _ _) (fun w4 KW => ?_)
      have R := hid KW.row
      have L := hid (F.wr0 KW).below
      clear KW F
      go_wp2
      exact bodyPost_ret (results_row1 rfl _ _ _ _ _ rfl R.out Try.underlying45 rfl hsz) rfl ⟨g, rfl, Hg.out, L.out⟩
end Go.Proofs.Ytgjdmoenobacgab

/- The walk of 'FnExactSpreadFour'. -/
namespace Go.Proofs.Ytgjdmoenobacgab.fnExactSpreadFour
open Go.RowKit Go.Fk

theorem walk (a0 : List Nat) (c : Nat) (w : World) (l0 : a0.length = 4) (w0 : ∀ b ∈ a0, fits .f32 b) (w1 : fits .f32 c) :
    Calls Try.prog 7 #[.agg (a0.map (Value.float .f32)).toArray, .float .f32 c] w fun e w' => e = .returned (.bool true) ∧ Below w.heap.size w w' := by
  rw [ftab_of_list, l0]
  obtain ⟨x, hx⟩ : ∃ x : Nat → Nat, x = fun j => a0.getD j 0 := ⟨_, rfl⟩
  rw [← hx]
  clear hx
  clear l0 w0 w1
  have hsx : (Try.prog.info? 45).map (·.size) = some (ftab .f32 x 4).size := by rw [size_ftab]; kernel_rfl
  go_enter Try.func7, Try.ntmps7
  go_upto_region 1 with (fail)
  obtain ⟨W, hW⟩ : ∃ W, W = w.alloc (.cells (ftab .f32 x 4) 45) := ⟨_, rfl⟩
  rw [← hW]
  have rx : Row W (w.heap.size) 45 (ftab .f32 x 4) := by rw [hW]; exact Row.new w _ _
  have hb0 : le w W := by rw [hW]; exact le_alloc _ _
  have hsz0 : w.heap.size + 1 ≤ W.heap.size := by rw [hW]; simp
  clear hW
  have Rx := hid rx; clear rx
  have Hb0 := hid hb0; clear hb0
  have Hsz0 := hid hsz0; clear hsz0
  refine region_line (fun f args _ v => (f = 28 ∧ args = #[v]) ∨ (f = 31 ∧ ∃ g, v = .agg (ftab .f32 g 4) ∧ ∀ j, j < 4 → can .f32 (g j) = fop .sub .f32 (x j) (shareV x c))) 5 ?_
  simp only [List.take_succ_cons, List.take_zero, List.drop_succ_cons, List.drop_zero]
  refine wpFree_loadA rfl rfl rfl (Rx.out.drewN 0) Try.underlying45 hsx ?_
  simp only [Act.put, List.setIfInBounds_toArray, List.set_cons_succ, List.set_cons_zero]
  refine wpFree_call rfl rfl Try.func28 (by kernel_rfl) (by kernel_rfl) (args := #[.agg (ftab .f32 x 4)]) (by simp [Act.eval]) (fun _ _ _ _ h => h) (fun w1 _ => (toA4_any x w1).mono ?_) ?_
  · rintro e w2 ⟨rfl, hb⟩
    exact ⟨_, rfl, hb, .inl ⟨rfl, rfl⟩⟩
  rintro v ⟨_, _, hv⟩
  simp at hv
  subst hv
  simp only [Act.put, List.setIfInBounds_toArray, List.set_cons_succ, List.set_cons_zero]
  refine wpFree_one rfl (.float .f32 c) (fun w1 _ => by simp [execOp, Act.eval]) ?_
  simp only [Act.put, List.setIfInBounds_toArray, List.set_cons_succ, List.set_cons_zero]
  refine wpFree_call rfl rfl Try.func31 (by kernel_rfl) (by kernel_rfl) (args := #[.agg (ftab .f32 x 4), .float .f32 c]) (by simp [Act.eval]) (fun _ _ _ _ h => h) (fun w1 _ => (s_SpreadFour x c w1).mono ?_) ?_
  · rintro e w2 ⟨g, rfl, hg, hb⟩
    exact ⟨_, rfl, hb, .inr ⟨rfl, g, rfl, fun j hj => (hg j hj).1⟩⟩
  rintro v ⟨_, _, hv⟩
  simp at hv
  obtain ⟨g, rfl, hg⟩ := hv
  have Hg := hid hg; clear hg
  simp only [Act.put, List.setIfInBounds_toArray, List.set_cons_succ, List.set_cons_zero]
  refine wpFree_alloc rfl rfl (ftab .f32 (fun _ => 0) 4) allocA4 (fun bg hb => ?_)
  simp only [Act.put, List.setIfInBounds_toArray, List.set_cons_succ, List.set_cons_zero]
  refine wpFree_nil (fun w3 hw3 hF => ?_)
  obtain ⟨_, b', hbb, _, hrow⟩ := hF
  obtain rfl : bg = b' := by simpa using hbb
  have hsz : (Try.prog.info? 45).map (·.size) = some (ftab .f32 g 4).size := by rw [size_ftab]; exact infoA4
  refine wpList_storeA rfl rfl rfl rfl hrow hsz (by rw [size_ftab, size_ftab]) (one_ftab _ _ _) ?_
  clear hsz
  have hbg : W.heap.size ≤ bg := hb
  have nx := Hsz0.out
  obtain ⟨W2, hW2⟩ : ∃ W2, W2 = w3.setRow bg (ftab .f32 g 4) := ⟨_, rfl⟩
  have rg : Row W2 bg 45 (ftab .f32 g 4) := by rw [hW2]; exact hrow.setRow _
  have rx : Row W2 (w.heap.size) 45 (ftab .f32 x 4) := by rw [hW2]; exact ((Rx.out.drewN 0).le hw3).setRow_other (by omega) _
  have hb2 : le w W2 := by rw [hW2]; exact below_setRow (le_trans Hb0.out (le_trans (le_drewN W _) hw3)) (by omega) _
  have hsz2 : bg < W2.heap.size := rg.lt
  rw [← hW2]
  clear hW2 hrow hbb hw3 hb Rx Hb0
  have Rg := hid rg; have Hb2 := hid hb2; have Hsz2 := hid hsz2; have Hbg := hid hbg; have Nx := hid nx; clear rg hb2 hsz2 hbg nx
  have Rx := hid rx; clear rx
  go_upto_region 2 with (fail)
  refine region_line (fun f args _ v => (f = 28 ∧ args = #[v]) ∨ (f = 32 ∧ ∃ g, v = .agg (ftab .f32 g 4) ∧ ∀ j, j < 4 → can .f32 (g j) = fop .sub .f32 (x j) (shareV x c))) 5 ?_
  simp only [List.take_succ_cons, List.take_zero, List.drop_succ_cons, List.drop_zero]
  refine wpFree_loadA rfl rfl rfl (Rx.out.drewN 0) Try.underlying45 hsx ?_
  simp only [Act.put, List.setIfInBounds_toArray, List.set_cons_succ, List.set_cons_zero]
  refine wpFree_call rfl rfl Try.func28 (by kernel_rfl) (by kernel_rfl) (args := #[.agg (ftab .f32 x 4)]) (by simp [Act.eval]) (fun _ _ _ _ h => h) (fun w1 _ => (toA4_any x w1).mono ?_) ?_
  · rintro e w2 ⟨rfl, hb⟩
    exact ⟨_, rfl, hb, .inl ⟨rfl, rfl⟩⟩
  rintro v ⟨_, _, hv⟩
  simp at hv
  subst hv
  simp only [Act.put, List.setIfInBounds_toArray, List.set_cons_succ, List.set_cons_zero]
  refine wpFree_one rfl (.float .f32 c) (fun w1 _ => by simp [execOp, Act.eval]) ?_
  simp only [Act.put, List.setIfInBounds_toArray, List.set_cons_succ, List.set_cons_zero]
  refine wpFree_call rfl rfl Try.func32 (by kernel_rfl) (by kernel_rfl) (args := #[.agg (ftab .f32 x 4), .float .f32 c]) (by simp [Act.eval]) (fun _ _ _ _ h => h) (fun w1 _ => (i_SpreadFour x c w1).mono ?_) ?_
  · rintro e w2 ⟨g, rfl, hg, hb⟩
    exact ⟨_, rfl, hb, .inr ⟨rfl, g, rfl, fun j hj => (hg j hj).1⟩⟩
  rintro v ⟨_, _, hv⟩
  simp at hv
  obtain ⟨h, rfl, hh⟩ := hv
  have Hh := hid hh; clear hh
  simp only [Act.put, List.setIfInBounds_toArray, List.set_cons_succ, List.set_cons_zero]
  refine wpFree_alloc rfl rfl (ftab .f32 (fun _ => 0) 4) allocA4 (fun bh hb => ?_)
  simp only [Act.put, List.setIfInBounds_toArray, List.set_cons_succ, List.set_cons_zero]
  refine wpFree_nil (fun w3 hw3 hF => ?_)
  obtain ⟨_, b', hbb, _, hrow⟩ := hF
  obtain rfl : bh = b' := by simpa using hbb
  have hsz : (Try.prog.info? 45).map (·.size) = some (ftab .f32 h 4).size := by rw [size_ftab]; exact infoA4
  refine wpList_storeA rfl rfl rfl rfl hrow hsz (by rw [size_ftab, size_ftab]) (one_ftab _ _ _) ?_
  clear hsz
  have hbh : W2.heap.size ≤ bh := hb
  have n2 := Hsz2.out
  obtain ⟨W3, hW3⟩ : ∃ W3, W3 = w3.setRow bh (ftab .f32 h 4) := ⟨_, rfl⟩
  have rh : Row W3 bh 45 (ftab .f32 h 4) := by rw [hW3]; exact hrow.setRow _
  have rg : Row W3 bg 45 (ftab .f32 g 4) := by rw [hW3]; exact ((Rg.out.drewN _).le hw3).setRow_other (by omega) _
  have nb := Hbg.out
  have nx := Nx.out
  have hb3 : le w W3 := by rw [hW3]; exact below_setRow (le_trans Hb2.out (le_trans (le_drewN W2 _) hw3)) (by omega) _
  rw [← hW3]
  have hsh : (Try.prog.info? 45).map (·.size) = some (ftab .f32 h 4).size := by rw [size_ftab]; exact infoA4
  have hsg : (Try.prog.info? 45).map (·.size) = some (ftab .f32 g 4).size := by rw [size_ftab]; exact infoA4
  clear hW3 hrow hbb hw3 hb Rg Hb2
  go_wp2_with (first | (with_reducible refine wpList_loadA rfl rfl rfl rh Try.underlying45 hsh ?_) | (with_reducible refine wpList_loadA rfl rfl rfl rg Try.underlying45 hsg ?_) | (go_at_call 30; refine (eqA4_yes _ _ _ (fun j hj => (Hh.out j hj).trans (Hg.out j hj).symm)).mono ?_; rintro e w5 ⟨rfl, hb5⟩))
  go_ret
  exact ⟨rfl, le_trans hb3 hb5⟩
end Go.Proofs.Ytgjdmoenobacgab.fnExactSpreadFour
