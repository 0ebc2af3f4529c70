/- As FreeT, but an operation may lean on what is known of the operations that it comes behind: so a region may write blocks that it has made itself. Nothing here names a program. -/
import Derived.Test.YtaenbpkcehenkadFreeT
namespace Go.Fk
open Go Go.RowKit

/-- What is known of each operation's value. -/
abbrev Facts := Nat → World → Prop
def Facts.with (F : Facts) (k : Nat) (V : World → Prop) : Facts := fun e w => F e w ∧ (e = k → V w)
theorem Facts.with_of {F : Facts} {k : Nat} {V : World → Prop} {w : World} (h : ∀ e, (F.with k V) e w) : (∀ e, F e w) ∧ V w := ⟨fun e => (h e).1, (h k).2 rfl⟩
theorem Facts.with_mk {F : Facts} {k : Nat} {V : World → Prop} {w : World} (h : ∀ e, F e w) (hv : V w) : ∀ e, (F.with k V) e w := fun e => ⟨h e, fun _ => hv⟩

section
variable (E : Ext) (P : Program) (ops : Array Oper) (md : Region.Mode) (W : World) (K : FuncId → Array Value → World → Value → Prop)
/-- What is known where an operation comes up. -/
def behind (o : Oper) (F : Facts) (w : World) : Prop := ∀ e ∈ o.after, Region.binds md e = true → F e.on w
def YieldsD (o : Oper) (a : Act) (F : Facts) (V : World → Value → Prop) : Prop :=
  MonoT E V ∧ ((Region.wanted o (yielded ops a.tmps) = true ∧ ∀ w, E.R W w → behind md o F w → insideT E P K w V ((execOp a.eval o).run P w)) ∨ (Region.wanted o (yielded ops a.tmps) = false ∧ ∀ w, E.R W w → behind md o F w → V w undef))
/-- Some world may be met in which all of this is known. -/
def met (F : Facts) (V : World → Prop) : Prop := ∃ w, E.R W w ∧ (∀ e, F e w) ∧ V w
def wpFreeD (Q : Act → World → Prop) : List Oper → Nat → Act → Facts → Prop
  | [], _, a, F => ∀ w, E.R W w → (∀ e, F e w) → Q a w
  | o :: rest, k, a, F => ∃ V, YieldsD E P ops md W K o a F V ∧ ∀ v, met E W F (fun w => V w v) → wpFreeD Q rest (k + 1) (a.put o.dst v) (F.with k (fun w => V w v))
def anyFreeD (n : Nat) (L : Array Bool → Act → Facts → Prop) : Nat → Array Bool → Act → Facts → Prop
  | 0, listed, a, F => L listed a F
  | f + 1, listed, a, F => Region.ready md ops listed ≠ [] ∧
      ∀ i ∈ Region.ready md ops listed, i < n ∧ ∀ o, ops[i]? = some o → ∃ V, YieldsD E P ops md W K o a F V ∧ ∀ v, met E W F (fun w => V w v) → anyFreeD n L f (listed.setIfInBounds i true) (a.put o.dst v) (F.with i (fun w => V w v))
def FMono (F : Facts) : Prop := ∀ w w', E.R w w' → (∀ e, F e w) → ∀ e, F e w'
end

section
variable {E : Ext} {P : Program} {ops : Array Oper} {md : Region.Mode} {W : World} {K : FuncId → Array Value → World → Value → Prop}

theorem FMono.with {F : Facts} (h : FMono E F) {V : World → Value → Prop} (hV : MonoT E V) (k : Nat) (v : Value) : FMono E (F.with k (fun w => V w v)) := fun w w' hw hF =>
  Facts.with_mk (h w w' hw (Facts.with_of hF).1) (hV v w w' hw (Facts.with_of hF).2)

theorem insideT_some {V : World → Value → Prop} {w : World} {r : Result Next} (h : insideT E P K w V r) : ∃ v, ∃ w', E.R w w' ∧ V w' v := by
  cases r with
  | ok n w' =>
    cases n <;> simp only [insideT] at h
    case value u => exact ⟨u, w', h.1, h.2⟩
    case skip => exact ⟨undef, w', h.1, h.2⟩
    case enter f args =>
      obtain ⟨e, w'', fr, ⟨v, _, hl, hk⟩, _⟩ := h.2.1 []
      exact ⟨v, w'', E.trans h.1 hl, h.2.2 w'' v hk⟩
  | halt x w' => simp only [insideT] at h

theorem YieldsD.some {o : Oper} {a : Act} {F : Facts} {V : World → Value → Prop} (hm : FMono E F) (hx : met E W F (fun _ => True)) (h : YieldsD E P ops md W K o a F V) : ∃ v, met E W F (fun w => V w v) := by
  obtain ⟨w, hw, hF, _⟩ := hx
  rcases h.2 with ⟨_, h⟩ | ⟨_, h⟩
  · obtain ⟨v, w', hl, hv⟩ := insideT_some (h w hw (fun e _ _ => hF e.on))
    exact ⟨v, w', E.trans hw hl, hm w w' hl hF, hv⟩
  · exact ⟨undef, w, hw, hF, h w hw (fun e _ _ => hF e.on)⟩

theorem YieldsD.same {o : Oper} {a a' : Act} {F : Facts} {V : World → Value → Prop} (he : execOp a'.eval o = execOp a.eval o) (hw : Region.wanted o (yielded ops a'.tmps) = Region.wanted o (yielded ops a.tmps))
    (h : YieldsD E P ops md W K o a F V) : YieldsD E P ops md W K o a' F V := by
  unfold YieldsD at *; rw [he, hw]; exact h

/-- What is known of an operation that it does not come behind is of no use to it. -/
theorem YieldsD.less {o : Oper} {a : Act} {F : Facts} {i : Nat} {X : World → Prop} {V : World → Value → Prop} (hn : ∀ e ∈ o.after, Region.binds md e = true → e.on ≠ i) (h : YieldsD E P ops md W K o a (F.with i X) V) : YieldsD E P ops md W K o a F V := by
  have key : ∀ w, behind md o F w → behind md o (F.with i X) w := fun w hw e he hb => ⟨hw e he hb, fun h => absurd h (hn e he hb)⟩
  refine ⟨h.1, ?_⟩
  rcases h.2 with ⟨h1, h2⟩ | ⟨h1, h2⟩
  · exact .inl ⟨h1, fun w hw hb => h2 w hw (key w hb)⟩
  · exact .inr ⟨h1, fun w hw hb => h2 w hw (key w hb)⟩
theorem YieldsD.more {o : Oper} {a : Act} {F : Facts} {i : Nat} {X : World → Prop} {V : World → Value → Prop} (h : YieldsD E P ops md W K o a F V) : YieldsD E P ops md W K o a (F.with i X) V := by
  have key : ∀ w, behind md o (F.with i X) w → behind md o F w := fun w hw e he hb => (hw e he hb).1
  refine ⟨h.1, ?_⟩
  rcases h.2 with ⟨h1, h2⟩ | ⟨h1, h2⟩
  · exact .inl ⟨h1, fun w hw hb => h2 w hw (key w hb)⟩
  · exact .inr ⟨h1, fun w hw hb => h2 w hw (key w hb)⟩

theorem wpOp_yieldsD {i : Nat} {o : Oper} {a : Act} {w : World} {F : Facts} {V : World → Value → Prop} {next : Act → World → Prop} {Q' : Exit → Act → World → Prop} (ho : ops[i]? = some o) (hw : E.R W w) (hF : ∀ e, F e w) (hg : YieldsD E P ops md W K o a F V)
    (hn : ∀ v w', E.R w w' → V w' v → next (a.put o.dst v) w') : wpOp P ops Q' i next a w := by
  unfold wpOp
  simp only [ho]
  rcases hg.2 with ⟨hwant, hv⟩ | ⟨hwant, hv⟩
  · rw [if_pos hwant]
    left
    have h3 := hv w hw (fun e _ _ => hF e.on)
    unfold Oper.wp
    generalize (execOp a.eval o).run P w = r at h3
    cases r with
    | ok x w' =>
      cases x <;> simp only [insideT] at h3 <;> simp only [Oper.upon]
      case value u => exact hn u _ h3.1 h3.2
      case skip => exact hn undef _ h3.1 h3.2
      case enter f args =>
        refine h3.2.1.mono fun e w'' he => ?_
        obtain ⟨v, rfl, hl, hk⟩ := he
        exact hn v _ (E.trans h3.1 hl) (h3.2.2 w'' v hk)
    | halt x w' => simp only [insideT] at h3
  · rw [if_neg (by simp [hwant])]
    exact hn undef _ (E.refl w) (hv w hw (fun e _ _ => hF e.on))

theorem anyFreeD_sound {n g : Nat} {L : Array Bool → Act → Facts → Prop} {Q' : Exit → Act → World → Prop} (hL : ∀ listed a F w, E.R W w → (∀ e, F e w) → L listed a F → wpAny P md ops Q' g listed a w) :
    ∀ (f : Nat) (listed : Array Bool) (a : Act) (F : Facts) (w : World), FMono E F → E.R W w → (∀ e, F e w) → anyFreeD E P ops md W K n L f listed a F → wpAny P md ops Q' (f + g) listed a w := by
  intro f
  induction f with
  | zero => intro listed a F w _ hw hF h; rw [Nat.zero_add]; exact hL _ _ _ _ hw hF h
  | succ f ih =>
    intro listed a F w hm hw hF h
    rw [show f + 1 + g = (f + g) + 1 by omega]
    refine ⟨fun h0 => absurd h0 h.1, fun i hi => ?_⟩
    obtain ⟨_, o, ho, _⟩ := mem_ready.1 hi
    obtain ⟨V, hg, hn⟩ := (h.2 i hi).2 o ho
    exact wpOp_yieldsD ho hw hF hg (fun v w' hl hv => ih _ _ _ _ (hm.with hg.1 i v) (E.trans hw hl) (Facts.with_mk (hm w w' hl hF) hv) (hn v ⟨w', E.trans hw hl, hm w w' hl hF, hv⟩))

theorem met.weaken {F F' : Facts} {V : World → Prop} (h : ∀ w, (∀ e, F' e w) → ∀ e, F e w) (hx : met E W F' V) : met E W F V := by
  obtain ⟨w, hw, hF, hv⟩ := hx; exact ⟨w, hw, h w hF, hv⟩

/-- Facts that are pointwise the same. -/
theorem anyFreeD_congr {n : Nat} {L : Array Bool → Act → Facts → Prop} (hLm : ∀ listed a F F', (∀ e w, F' e w ↔ F e w) → L listed a F → L listed a F') :
    ∀ (f : Nat) (listed : Array Bool) (a : Act) (F F' : Facts), (∀ e w, F' e w ↔ F e w) → anyFreeD E P ops md W K n L f listed a F → anyFreeD E P ops md W K n L f listed a F' := by
  intro f listed a F F' h
  have : F' = F := by funext e w; exact propext (h e w)
  rw [this]; exact id

theorem with_comm (F : Facts) (i j : Nat) (X Y : World → Prop) : (F.with i X).with j Y = (F.with j Y).with i X := by
  funext e w
  unfold Facts.with
  exact propext ⟨fun h => ⟨⟨h.1.1, h.2⟩, h.1.2⟩, fun h => ⟨⟨h.1.1, h.2⟩, h.1.2⟩⟩

theorem YieldsD.stronger {o : Oper} {a : Act} {F F' : Facts} {V : World → Value → Prop} (hF : ∀ e w, F' e w → F e w) (h : YieldsD E P ops md W K o a F V) : YieldsD E P ops md W K o a F' V := by
  have key : ∀ w, behind md o F' w → behind md o F w := fun w hw e he hb => hF _ _ (hw e he hb)
  refine ⟨h.1, ?_⟩
  rcases h.2 with ⟨h1, h2⟩ | ⟨h1, h2⟩
  · exact .inl ⟨h1, fun w hw hb => h2 w hw (key w hb)⟩
  · exact .inr ⟨h1, fun w hw hb => h2 w hw (key w hb)⟩

theorem anyFreeD_weaken {n : Nat} {L : Array Bool → Act → Facts → Prop} (hLm : ∀ listed a F F', (∀ e w, F' e w → F e w) → L listed a F → L listed a F') :
    ∀ (f : Nat) (listed : Array Bool) (a : Act) (F F' : Facts), (∀ e w, F' e w → F e w) → anyFreeD E P ops md W K n L f listed a F → anyFreeD E P ops md W K n L f listed a F' := by
  intro f
  induction f with
  | zero => intro listed a F F' h hh; exact hLm _ _ _ _ h hh
  | succ f ih =>
    intro listed a F F' h hh
    refine ⟨hh.1, fun i hi => ⟨(hh.2 i hi).1, fun o ho => ?_⟩⟩
    obtain ⟨V, hg, hn⟩ := (hh.2 i hi).2 o ho
    exact ⟨V, hg.stronger h, fun v hv => ih _ _ _ _ (fun e w hw => ⟨h e w hw.1, hw.2⟩) (hn v (hv.weaken (fun w hw e => h e w (hw e))))⟩

theorem anyFreeD_first {n i : Nat} {oi : Oper} {V : World → Value → Prop} {L : Array Bool → Act → Facts → Prop} (hi : ops[i]? = some oi) (hsel : ∀ (j : Nat) (o : Oper) cs b, ops[j]? = some o → o.op ≠ .select cs b)
    (hbound : ∀ listed i, HeadInv md ops n listed → i < n → listed.getD i true = false → ∀ j ∈ Region.ready md ops listed, j < n) (hin : i < n)
    (hdone : ∀ listed a F, L listed a F → ∀ j ∈ Region.ready md ops listed, n ≤ j) (hLm : ∀ listed a F F', (∀ e w, F' e w → F e w) → L listed a F → L listed a F') :
    ∀ (f : Nat) (listed : Array Bool) (a : Act) (F : Facts), HeadInv md ops n listed →
      (∀ j oj, ops[j]? = some oj → j ≠ i → listed.getD j true = false → (∀ e ∈ oj.after, Region.binds md e = true → e.on ≠ i) → oi.apart ops oj = true) →
      i ∈ Region.ready md ops listed → FMono E F → met E W F (fun _ => True) → YieldsD E P ops md W K oi a F V →
      (∀ v, met E W F (fun w => V w v) → anyFreeD E P ops md W K n L f (listed.setIfInBounds i true) (a.put oi.dst v) (F.with i (fun w => V w v))) → anyFreeD E P ops md W K n L (f + 1) listed a F := by
  intro f
  induction f with
  | zero =>
    intro listed a F inv _ hr hm hx hg H
    have hun := (mem_ready.1 hr).1
    refine ⟨fun h => (by rw [h] at hr; cases hr), fun j hj => ?_⟩
    have hjn := hbound listed i inv hin hun j hj
    refine ⟨hjn, fun o ho => ?_⟩
    by_cases hji : j = i
    · subst hji
      rw [hi] at ho; cases ho
      exact ⟨V, hg, H⟩
    · obtain ⟨v, hv⟩ := hg.some hm hx
      have := hdone _ _ _ (H v hv) j (ready_mono hj hji)
      omega
  | succ f ih =>
    intro listed a F inv hfree hr hm hx hg H
    have hun := (mem_ready.1 hr).1
    refine ⟨fun h => (by rw [h] at hr; cases hr), fun j hj => ?_⟩
    have hjn := hbound listed i inv hin hun j hj
    refine ⟨hjn, fun o ho => ?_⟩
    by_cases hji : j = i
    · subst hji
      rw [hi] at ho; cases ho
      exact ⟨V, hg, H⟩
    · obtain ⟨hjun, oj, hoj, hall⟩ := mem_ready.1 hj
      rw [ho] at hoj; cases hoj
      have hnot : ∀ e ∈ o.after, Region.binds md e = true → e.on ≠ i := fun e he hb heq => by
        have h1 := hall e he hb
        rw [heq, getD_both hun] at h1
        cases h1
      have hap := hfree j o ho hji hjun hnot
      obtain ⟨a1, a2, a3⟩ := Oper.apart_spec hap
      have hsi := fun cs b => hsel i oi cs b hi
      have hsj := fun cs b => hsel j o cs b ho
      have hU : ∀ v : {v // met E W F (fun w => V w v)}, ∃ U, YieldsD E P ops md W K o (a.put oi.dst v.1) (F.with i (fun w => V w v.1)) U ∧ ∀ u, met E W (F.with i (fun w => V w v.1)) (fun w => U w u) →
          anyFreeD E P ops md W K n L f ((listed.setIfInBounds i true).setIfInBounds j true) ((a.put oi.dst v.1).put o.dst u) ((F.with i (fun w => V w v.1)).with j (fun w => U w u)) :=
        fun v => ((H v.1 v.2).2 j (ready_mono hj hji)).2 o ho
      obtain ⟨U, hU⟩ := Classical.skolem.1 hU
      obtain ⟨v0, hv0⟩ := hg.some hm hx
      have hone : ∀ v, YieldsD E P ops md W K o a F (U v) := fun v => ((hU v).1.same (execOp_put o hsj a oi.dst v.1 a1).symm (wanted_put o a oi.dst v.1 a1).symm).less hnot
      have hgood : YieldsD E P ops md W K o a F (fun w u => ∀ v, U v w u) := by
        refine ⟨fun u w w' hl h v => (hone v).1 u w w' hl (h v), ?_⟩
        by_cases hw : Region.wanted o (yielded ops a.tmps) = true
        · refine .inl ⟨hw, fun w hw' hb => inside_allT ⟨⟨v0, hv0⟩, trivial⟩ (fun v => ?_)⟩
          rcases (hone v).2 with ⟨_, h3⟩ | ⟨h3, _⟩
          · exact h3 w hw' hb
          · rw [hw] at h3; cases h3
        · refine .inr ⟨by simpa using hw, fun w hw' hb v => ?_⟩
          rcases (hone v).2 with ⟨h3, _⟩ | ⟨_, h3⟩
          · exact absurd h3 hw
          · exact h3 w hw' hb
      refine ⟨_, hgood, ?_⟩
      intro u hu
      have hfree' : ∀ k ok, ops[k]? = some ok → k ≠ i → (listed.setIfInBounds j true).getD k true = false →
          (∀ e ∈ ok.after, Region.binds md e = true → e.on ≠ i) → oi.apart ops ok = true := fun k ok hk hki hun hno => by
        refine hfree k ok hk hki ?_ hno
        by_cases hjk : j = k
        · subst hjk; exact hjun
        · rw [getD_set_ne true hjk] at hun; exact hun
      have hx' : met E W (F.with j (fun w => ∀ v, U v w u)) (fun _ => True) := by
        obtain ⟨w, hw, hF, hv⟩ := hu
        exact ⟨w, hw, Facts.with_mk hF hv, trivial⟩
      refine ih (listed.setIfInBounds j true) (a.put o.dst u) (F.with j (fun w => ∀ v, U v w u)) (inv.set hj hjn) hfree' (ready_mono hr (Ne.symm hji)) (hm.with hgood.1 j u) hx' ((hg.same (execOp_put oi hsi a o.dst u a3) (wanted_put oi a o.dst u a3)).more) (fun v hv => ?_)
      rw [Array.setIfInBounds_comm _ _ hji, ← Act.put_comm a v u a2]
      obtain ⟨w, hw, hF, hVv⟩ := hv
      have hF' := Facts.with_of hF
      have mv : met E W F (fun w => V w v) := ⟨w, hw, hF'.1, hVv⟩
      exact anyFreeD_weaken hLm _ _ _ _ _ (fun e w' h' => ⟨⟨h'.1.1, h'.2⟩, fun he => h'.1.2 he ⟨v, mv⟩⟩) ((hU ⟨v, mv⟩).2 u ⟨w, hw, Facts.with_mk hF'.1 hVv, hF'.2 ⟨v, mv⟩⟩)

theorem anyFreeD_lex {n g : Nat} {R : Act → World → Prop} (hsel : Region.noSelect ops = true)
    (hbound : ∀ listed i, HeadInv md ops n listed → i < n → listed.getD i true = false → ∀ j ∈ Region.ready md ops listed, j < n) :
    ∀ (l : List Oper) (k : Nat) (listed : Array Bool) (a : Act) (F : Facts), (∀ j, j < l.length → l[j]? = ops[k + j]?) → k + l.length = n → HeadInv md ops n listed →
    Region.lexHead md ops g l.length k listed = true → FMono E F → met E W F (fun _ => True) → wpFreeD E P ops md W K R l k a F →
    anyFreeD E P ops md W K n (fun listed' a' F' => Region.seqB md ops g n listed' = true ∧ ∀ w, E.R W w → (∀ e, F' e w) → R a' w) l.length listed a F := by
  intro l
  induction l with
  | nil =>
    intro k listed a F _ hk _ hB _ _ h
    have : k = n := by simpa using hk
    subst this
    exact ⟨by simpa [Region.lexHead] using hB, h⟩
  | cons o l ih =>
    intro k listed a F hl hk inv hB hm hx h
    have h0 : ops[k]? = some o := by simpa using (hl 0 (by simp)).symm
    simp only [List.length_cons, Region.lexHead, Bool.and_eq_true] at hB
    obtain ⟨⟨hr, hf⟩, hB'⟩ := hB
    have hkn : k < n := by simp only [List.length_cons] at hk; omega
    have hr' : k ∈ Region.ready md ops listed := by simpa using hr
    obtain ⟨V, hg, hnext⟩ := h
    exact anyFreeD_first h0 (Region.noSelect_spec hsel) hbound hkn (fun listed' a' F' hL => seqB_ready hL.1) (fun _ _ _ _ hF hL => ⟨hL.1, fun w hw h' => hL.2 w hw (fun e => hF e w (h' e))⟩) l.length listed a F inv (Region.free_spec h0 hf) hr' hm hx hg
      (fun v hv => ih (k + 1) _ _ _ (fun j hj => by have := hl (j + 1) (by simp; omega); simpa [Nat.add_assoc, Nat.add_comm 1 j] using this) (by simp only [List.length_cons] at hk; omega) (inv.set hr' hkn) hB' (hm.with hg.1 k v)
        (by obtain ⟨w, hw, hF, hv'⟩ := hv; exact ⟨w, hw, Facts.with_mk hF hv', trivial⟩) (hnext v hv))

def noFacts : Facts := fun _ _ => True
/-- A REGION THAT DRAWS ITS ORDER. -/
theorem region_freeD (K : FuncId → Array Value → World → Value → Prop) {id : Nat} {Q : Exit → Act → World → Prop} {a : Act} {w : World} {l : List Oper} (hm : P.follows .mixedOrders = true)
    (hB : (Region.noSelect l.toArray && Region.lexHead .any l.toArray 0 l.length 0 (Array.replicate l.toArray.size false)) = true)
    (h : wpFreeD E P l.toArray .any (w.drewN 1) K (fun a' w' => Q .normal a' w') l 0 a noFacts) : (Code.region id l.toArray true).wp P Q a w := by
  simp only [Bool.and_eq_true] at hB
  obtain ⟨hsel, hlex⟩ := hB
  have hbound : ∀ listed i, HeadInv .any l.toArray l.length listed → i < l.length → listed.getD i true = false → ∀ j ∈ Region.ready .any l.toArray listed, j < l.length := by
    intro listed i _ _ _ j hj
    obtain ⟨_, oj, hoj, _⟩ := mem_ready.1 hj
    simpa using (Array.getElem?_eq_some_iff.1 hoj).1
  have H := anyFreeD_lex (md := .any) (g := 0) hsel hbound l 0 _ a noFacts (fun j hj => by simp) (by simp) (head_start _ l.length) hlex (fun _ _ _ h => h) ⟨w.drewN 1, E.refl _, fun _ => trivial, trivial⟩ h
  refine wp_region_any hm ?_
  have := anyFreeD_sound (Q' := Q) (W := w.drewN 1) (g := 0) (fun listed a' F w' hw' hF hL => ⟨by simpa [Region.seqB] using hL.1, hL.2 w' hw' hF⟩) _ _ _ _ _ (fun _ _ _ h => h) (E.refl _) (fun _ => trivial) H
  rw [Nat.add_zero] at this
  exact this
end

theorem wpFreeD_weaken {E : Ext} {P : Program} {ops : Array Oper} {md : Region.Mode} {W : World} {K : FuncId → Array Value → World → Value → Prop} {Q : Act → World → Prop} : ∀ (l : List Oper) (k : Nat) (a : Act) (F F' : Facts), (∀ e w, F' e w → F e w) → wpFreeD E P ops md W K Q l k a F → wpFreeD E P ops md W K Q l k a F' := by
  intro l
  induction l with
  | nil => intro k a F F' h hh w hw hF; exact hh w hw (fun e => h e w (hF e))
  | cons o l ih =>
    intro k a F F' h hh
    obtain ⟨V, hg, hn⟩ := hh
    exact ⟨V, hg.stronger h, fun v hv => ih _ _ _ _ (fun e w hw => ⟨h e w hw.1, hw.2⟩) (hn v (hv.weaken (fun w hw e => h e w (hw e))))⟩

/-- The operations may make blocks, and write these rows into blocks of their own, by types. -/
def newX (B : Nat) (T : List (TypeId × Nat × (Array Value → Prop))) : Ext where
  R w w' := w'.os = w.os ∧ w'.tape = w.tape ∧ w'.output = w.output ∧ w.heap.size ≤ w'.heap.size ∧ (∀ k, k < B → k < w.heap.size → w'.heap[k]? = w.heap[k]?) ∧
    (∀ k x, x ∈ T → (∃ cs, Row w k x.1 cs ∧ x.2.2 cs) → ∃ cs, Row w' k x.1 cs ∧ x.2.2 cs) ∧ (∀ k x, x ∈ T → (∃ cs, Row w k x.1 cs ∧ cs.size = x.2.1) → ∃ cs, Row w' k x.1 cs ∧ cs.size = x.2.1) ∧
    (∀ k t cs, (∀ x ∈ T, x.1 ≠ t) → Row w k t cs → Row w' k t cs)
  refl w := ⟨rfl, rfl, rfl, Nat.le_refl _, fun _ _ _ => rfl, fun _ _ _ h => h, fun _ _ _ h => h, fun _ _ _ _ h => h⟩
  trans := by
    rintro a b c ⟨h1, h2, h3, h4, h5, h6, h7, h8⟩ ⟨k1, k2, k3, k4, k5, k6, k7, k8⟩
    exact ⟨k1.trans h1, k2.trans h2, k3.trans h3, Nat.le_trans h4 k4, fun k hk hx => (k5 k hk (Nat.lt_of_lt_of_le hx h4)).trans (h5 k hk hx), fun k x hx h => k6 k x hx (h6 k x hx h), fun k x hx h => k7 k x hx (h7 k x hx h), fun k t cs hn h => k8 k t cs hn (h8 k t cs hn h)⟩
  of_le := by
    intro a b h
    exact ⟨h.os, h.tape, h.output, h.size, fun k _ hk => h.block k hk, fun k x _ ⟨cs, hr, hs⟩ => ⟨cs, hr.le h, hs⟩, fun k x _ ⟨cs, hr, hs⟩ => ⟨cs, hr.le h, hs⟩, fun k t cs _ hr => hr.le h⟩
theorem newX_le {B : Nat} {T : List (TypeId × Nat × (Array Value → Prop))} {w w' : World} (h : (newX B T).R w w') (hB : w.heap.size = B) : le w w' :=
  ⟨h.1, h.2.1, h.2.2.1, h.2.2.2.1, fun k hk => h.2.2.2.2.1 k (by omega) hk⟩
theorem newX_row {B : Nat} {T : List (TypeId × Nat × (Array Value → Prop))} {w w' : World} (h : (newX B T).R w w') {g : Nat} {t : TypeId} {cs : Array Value} (hr : Row w g t cs) (hg : g < B) : Row w' g t cs := by
  have := h.2.2.2.2.1 g hg hr.lt
  unfold Row at *
  rw [this]; exact hr
/-- Block b is a row of type t, of n cells. -/
def IsRow (b : Nat) (t : TypeId) (n : Nat) (w : World) : Prop := ∃ cs, Row w b t cs ∧ cs.size = n

section
variable {E : Ext} {P : Program} {ops : Array Oper} {W : World} {K : FuncId → Array Value → World → Value → Prop} {Q : Act → World → Prop} {F : Facts} {k : Nat} {o : Oper} {rest : List Oper} {a : Act}
theorem wpFreeD_nil (h : ∀ w, E.R W w → (∀ e, F e w) → Q a w) : wpFreeD E P ops .any W K Q [] k a F := h
theorem wpFreeD_one (hg : o.guard = none) (v : Value) (hr : ∀ w, E.R W w → (execOp a.eval o).run P w = .ok (.value v) w)
    (h : wpFreeD E P ops .any W K Q rest (k + 1) (a.put o.dst v) (F.with k (fun _ => True))) : wpFreeD E P ops .any W K Q (o :: rest) k a F := by
  refine ⟨fun _ u => u = v, ⟨fun _ _ _ _ h => h, .inl ⟨by simp [Region.wanted, hg], fun w hw _ => ?_⟩⟩, fun u hu => ?_⟩
  · rw [hr w hw]; exact ⟨E.refl w, rfl⟩
  · obtain ⟨w, _, _, rfl⟩ := hu
    exact wpFreeD_weaken _ _ _ _ _ (fun e w h => ⟨h.1, fun _ => trivial⟩) h
theorem wpFreeD_call (hg : o.guard = none) {f : FuncId} {xs : Array Operand} {ts : Array TypeId} (hop : o.op = Op.call { callee := Callee.value (Operand.func f), args := xs, argTypes := ts }) {fn : Func} (hf : P.funcs[f]? = some fn)
    (hb : fn.body.isNone = false) (hn : (fn.name == "runtime.NumGoroutine") = false) {args : Array Value} (ha : xs.map a.eval = args) (hm : MonoT E (K f args))
    (h1 : ∀ w, E.R W w → Calls P f args w (fun e w' => ∃ v, e = .returned v ∧ le w w' ∧ K f args w' v)) (h2 : ∀ v, (∃ w, K f args w v) → wpFreeD E P ops .any W K Q rest (k + 1) (a.put o.dst v) (F.with k (fun w => K f args w v))) : wpFreeD E P ops .any W K Q (o :: rest) k a F := by
  refine ⟨K f args, ⟨hm, .inl ⟨by simp [Region.wanted, hg], fun w hw _ => ?_⟩⟩, fun v hv => h2 v (by obtain ⟨w, _, _, h⟩ := hv; exact ⟨w, h⟩)⟩
  rw [run_enter hop hf hb hn ha]
  refine ⟨E.refl w, (h1 w hw).mono ?_, fun _ _ h => h⟩
  rintro e w' ⟨v, rfl, hl, hk⟩
  exact ⟨v, rfl, E.of_le hl, hk⟩
variable {B : Nat} {T : List (TypeId × Nat × (Array Value → Prop))}
theorem wpFreeD_load (hg : o.guard = none) {ty : TypeId} {x : Operand} (hop : o.op = .load ty x) {g : Nat} (hx : a.eval x = .pointer (some ⟨g, 0, none⟩)) {t : TypeId} {cs : Array Value} {d : TypeDesc}
    (hr : Row W g t cs) (hB : g < B) (hu : P.underlying ty = some d) (hd : (match d with | .struct _ | .array _ _ => true | _ => false) = true) {m : Nat} (hi : (P.info? ty).map (·.size) = some m) (hm : cs.size = m)
    (h : wpFreeD (newX B T) P ops .any W K Q rest (k + 1) (a.put o.dst (.agg cs)) (F.with k (fun _ => True))) : wpFreeD (newX B T) P ops .any W K Q (o :: rest) k a F := by
  subst hm
  refine wpFreeD_one hg (.agg cs) (fun w hw => ?_) h
  have := run_loadVar_row (P := P) w g t ty cs (0, 0) _ (newX_row hw hr hB) hu hd hi
  simp [execOp, hop, hx, Instr.loadAt, Instr.sureAddr, this, Result.andThen]
theorem wpFreeD_alloc (hg : o.guard = none) {ty : TypeId} (hop : o.op = .alloc ty) (cs : Array Value)
    (hr : ∀ w, (Instr.alloc ty true (.tuple #[])).run P w = .ok (.pointer (some ⟨w.heap.size, 0, none⟩)) (w.alloc (.cells cs ty))) {n : Nat} {p : Array Value → Prop} (hT : (ty, n, p) ∈ T) (hs : cs.size = n) (hB : W.heap.size = B)
    (h : ∀ b, B ≤ b → wpFreeD (newX B T) P ops .any W K Q rest (k + 1) (a.put o.dst (.pointer (some ⟨b, 0, none⟩))) (F.with k (IsRow b ty n))) : wpFreeD (newX B T) P ops .any W K Q (o :: rest) k a F := by
  refine ⟨fun w v => ∃ b, v = .pointer (some ⟨b, 0, none⟩) ∧ B ≤ b ∧ IsRow b ty n w, ⟨fun v w w' hw hv => ?_, .inl ⟨by simp [Region.wanted, hg], fun w hw _ => ?_⟩⟩, fun v hv => ?_⟩
  · obtain ⟨b, e, h1, h2⟩ := hv; exact ⟨b, e, h1, hw.2.2.2.2.2.2.1 b _ hT h2⟩
  · simp [execOp, hop, hr, Result.andThen, insideT]
    exact ⟨(newX B T).of_le (le_alloc w _), by have := hw.2.2.2.1; omega, cs, Row.new w ty cs, hs⟩
  · obtain ⟨w, _, _, b, rfl, hb, _⟩ := hv
    exact wpFreeD_weaken _ _ _ _ _ (fun e w h => ⟨h.1, fun he => by obtain ⟨b', e', _, h'⟩ := h.2 he; obtain rfl : b = b' := by simpa using e'
                                                                    exact h'⟩) (h b hb)
theorem wpFreeD_store (hg : o.guard = none) {ty : TypeId} {x y : Operand} (hop : o.op = .store ty x y) {b : Nat} (hx : a.eval x = .pointer (some ⟨b, 0, none⟩)) {cells : Array Value} (hy : a.eval y = .agg cells)
    {n : Nat} {p : Array Value → Prop} (hT : (ty, n, p) ∈ T) (hp : p cells) (hd : ∀ x ∈ T, ∀ y ∈ T, x.1 = y.1 → x = y) (hb : B ≤ b) (hpre : ∀ w, behind .any o F w → IsRow b ty n w) (hi : (P.info? ty).map (·.size) = some n) (hm : cells.size = n) (h1 : cells.all (·.oneCell') = true)
    (h : wpFreeD (newX B T) P ops .any W K Q rest (k + 1) (a.put o.dst undef) (F.with k (fun w => ∃ cs, Row w b ty cs ∧ p cs))) : wpFreeD (newX B T) P ops .any W K Q (o :: rest) k a F := by
  subst hm
  refine ⟨fun w v => v = undef ∧ ∃ cs, Row w b ty cs ∧ p cs, ⟨fun v w w' hw hv => ⟨hv.1, hw.2.2.2.2.2.1 b _ hT hv.2⟩, .inl ⟨by simp [Region.wanted, hg], fun w hw hbe => ?_⟩⟩, fun v hv => ?_⟩
  · obtain ⟨cs, hc, hcs⟩ := hpre w hbe
    have hrun := run_storeVar_row (P := P) w b ty ty cs cells hc hi hcs h1
    have : (execOp a.eval o).run P w = .ok .skip (w.setRow b cells) := by
      unfold execOp
      simp only [hop, hx, hy, Instr.storeAt, Instr.sureAddr, Sem.run_bind, Sem.run_pure, Result.andThen_ok, hrun]
    rw [this]
    have hrow : Row (w.setRow b cells) b ty cells := hc.setRow _
    have one : ∀ q t' c', Row w q t' c' → q = b → t' = ty ∧ c' = cs := by
      rintro q t' c' hq rfl
      unfold Row at hq hc
      rw [hc] at hq
      simp only [Option.some.injEq, Obj.cells.injEq] at hq
      exact ⟨hq.2.1.symm, hq.1.symm⟩
    refine ⟨⟨rfl, rfl, rfl, by simp, fun q hq _ => ?_, fun q x' hx' ⟨c', hrx, hsx⟩ => ?_, fun q x' hx' ⟨c', hrx, hsx⟩ => ?_, fun q t' c' hn hrx => ?_⟩, rfl, cells, hrow, hp⟩
    · unfold World.setRow
      rw [Array.getElem?_modify, if_neg (by omega)]
    · by_cases e : q = b
      · have := hd x' hx' _ hT (one _ _ _ hrx e).1
        subst this; subst e; exact ⟨cells, hrow, hp⟩
      · exact ⟨c', hrx.setRow_other e _, hsx⟩
    · by_cases e : q = b
      · have := hd x' hx' _ hT (one _ _ _ hrx e).1
        subst this; subst e; exact ⟨cells, hrow, rfl⟩
      · exact ⟨c', hrx.setRow_other e _, hsx⟩
    · by_cases e : q = b
      · exact absurd (one _ _ _ hrx e).1.symm (hn _ hT)
      · exact hrx.setRow_other e _
  · obtain ⟨w, _, _, rfl, _⟩ := hv
    exact wpFreeD_weaken _ _ _ _ _ (fun e w h => ⟨h.1, fun he => (h.2 he).2⟩) h
end
theorem region_newD {P : Program} (T : List (TypeId × Nat × (Array Value → Prop))) (K : FuncId → Array Value → World → Value → Prop) {id : Nat} {Q : Exit → Act → World → Prop} {a : Act} {w : World} {l : List Oper} (hm : P.follows .mixedOrders = true)
    (hB : (Region.noSelect l.toArray && Region.lexHead .any l.toArray 0 l.length 0 (Array.replicate l.toArray.size false)) = true)
    (h : wpFreeD (newX (w.drewN 1).heap.size T) P l.toArray .any (w.drewN 1) K (fun a' w' => Q .normal a' w') l 0 a noFacts) : (Code.region id l.toArray true).wp P Q a w :=
  region_freeD K hm hB h
end Go.Fk
