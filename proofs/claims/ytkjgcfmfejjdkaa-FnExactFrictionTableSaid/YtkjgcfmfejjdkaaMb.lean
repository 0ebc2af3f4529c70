/- Texts of the walk, laid in one file. -/
import Derived.Test.YtkjgcfmfejjdkaaRows
import Derived.Handy
import Derived.Deep.Quiet
import Derived.Deep.QuietTactic
import Derived.BigQuiet
import Derived.StillTail
import Derived.OwnWalk
import Derived.Test.YtkjgcfmfejjdkaaMa
set_option linter.unusedVariables false
set_option linter.unusedSimpArgs false
/- As Free, but the operations of the region may write into some blocks: the order of worlds is a parameter. Nothing here names a program. -/
namespace Go.Fk
open Go Go.RowKit

/-- An order of worlds: what the operations of a region may turn. -/
structure Ext where
  R : World → World → Prop
  refl : ∀ w, R w w
  trans : ∀ {a b c : World}, R a b → R b c → R a c
  of_le : ∀ {a b : World}, le a b → R a b
theorem Ext.drewN (E : Ext) (w : World) (n : Nat) : E.R w (w.drewN n) := E.of_le (le_drewN w n)

section
variable (E : Ext) (P : Program) (ops : Array Oper) (md : Region.Mode) (W : World) (K : FuncId → Array Value → World → Value → Prop)

/-- What an operation's run in w must be, for its value to be one of V. -/
def insideT (w : World) (V : World → Value → Prop) : Result Next → Prop
  | .ok (.value u) w' => E.R w w' ∧ V w' u
  | .ok .skip w' => E.R w w' ∧ V w' undef
  | .ok (.enter f args) w' => E.R w w' ∧ Calls P f args w' (fun e w'' => ∃ v, e = .returned v ∧ E.R w' w'' ∧ K f args w'' v) ∧ ∀ w'' v, K f args w'' v → V w'' v
  | _ => False

def MonoT (V : World → Value → Prop) : Prop := ∀ v w w', E.R w w' → V w v → V w' v

def YieldsT (o : Oper) (a : Act) (V : World → Value → Prop) : Prop :=
  MonoT E V ∧ ((Region.wanted o (yielded ops a.tmps) = true ∧ ∀ w, E.R W w → insideT E P K w V ((execOp a.eval o).run P w)) ∨ (Region.wanted o (yielded ops a.tmps) = false ∧ ∀ w, E.R W w → V w undef))

/-- The walk in the order of the text; what is known of the world is gathered. -/
def wpFreeT (Q : Act → World → Prop) : List Oper → Act → (World → Prop) → Prop
  | [], a, F => ∀ w, E.R W w → F w → Q a w
  | o :: rest, a, F => ∃ V, YieldsT E P ops W K o a V ∧ ∀ v, (∃ w, E.R W w ∧ V w v) → wpFreeT Q rest (a.put o.dst v) (fun w => F w ∧ V w v)

/-- Whatever order is picked of the first n operations; then L. -/
def anyFreeT (n : Nat) (L : Array Bool → Act → (World → Prop) → Prop) : Nat → Array Bool → Act → (World → Prop) → Prop
  | 0, listed, a, F => L listed a F
  | f + 1, listed, a, F => Region.ready md ops listed ≠ [] ∧
      ∀ i ∈ Region.ready md ops listed, i < n ∧ ∀ o, ops[i]? = some o → ∃ V, YieldsT E P ops W K o a V ∧ ∀ v, (∃ w, E.R W w ∧ V w v) → anyFreeT n L f (listed.setIfInBounds i true) (a.put o.dst v) (fun w => F w ∧ V w v)
end

section
variable {E : Ext} {P : Program} {ops : Array Oper} {md : Region.Mode} {W : World} {K : FuncId → Array Value → World → Value → Prop}

theorem inside_allT {ι : Type} {V : ι → World → Value → Prop} {w : World} {r : Result Next} (hne : ∃ _ : ι, True) (h : ∀ i, insideT E P K w (V i) r) : insideT E P K w (fun w' v => ∀ i, V i w' v) r := by
  obtain ⟨i0, _⟩ := hne
  have hr := h i0
  cases r with
  | ok n w' =>
    cases n <;> simp only [insideT] at hr h ⊢
    case value u => exact ⟨hr.1, fun i => (h i).2⟩
    case skip => exact ⟨hr.1, fun i => (h i).2⟩
    case enter f args => exact ⟨hr.1, hr.2.1, fun w'' v hv i => (h i).2.2 w'' v hv⟩
  | halt x w' => simp only [insideT] at hr

theorem inside_someT {V : World → Value → Prop} {w : World} (hw : E.R W w) {r : Result Next} (h : insideT E P K w V r) : ∃ v, ∃ w', E.R W w' ∧ V w' v := by
  cases r with
  | ok n w' =>
    cases n <;> simp only [insideT] at h
    case value u => exact ⟨u, w', E.trans hw h.1, h.2⟩
    case skip => exact ⟨undef, w', E.trans hw h.1, h.2⟩
    case enter f args =>
      obtain ⟨e, w'', fr, ⟨v, _, hl, hk⟩, _⟩ := h.2.1 []
      exact ⟨v, w'', E.trans (E.trans hw h.1) hl, h.2.2 w'' v hk⟩
  | halt x w' => simp only [insideT] at h

theorem YieldsT.some {o : Oper} {a : Act} {V : World → Value → Prop} (h : YieldsT E P ops W K o a V) : ∃ v, ∃ w, E.R W w ∧ V w v := by
  rcases h.2 with ⟨_, h⟩ | ⟨_, h⟩
  · exact inside_someT (E.refl W) (h W (E.refl W))
  · exact ⟨undef, W, E.refl W, h W (E.refl W)⟩

theorem YieldsT.same {o : Oper} {a a' : Act} {V : World → Value → Prop} (he : execOp a'.eval o = execOp a.eval o) (hw : Region.wanted o (yielded ops a'.tmps) = Region.wanted o (yielded ops a.tmps))
    (h : YieldsT E P ops W K o a V) : YieldsT E P ops W K o a' V := by
  unfold YieldsT at *; rw [he, hw]; exact h

theorem wpOp_yieldsT {i : Nat} {o : Oper} {a : Act} {w : World} {V : World → Value → Prop} {next : Act → World → Prop} {Q' : Exit → Act → World → Prop} (ho : ops[i]? = some o) (hw : E.R W w) (hg : YieldsT E P ops W K o a V)
    (hn : ∀ v w', E.R w w' → V w' v → next (a.put o.dst v) w') : wpOp P ops Q' i next a w := by
  unfold wpOp
  simp only [ho]
  rcases hg.2 with ⟨hwant, hv⟩ | ⟨hwant, hv⟩
  · rw [if_pos hwant]
    left
    have h3 := hv w hw
    unfold Oper.wp
    generalize (execOp a.eval o).run P w = r at h3
    cases r with
    | ok x w' =>
      cases x <;> simp only [insideT] at h3 <;> simp only [Oper.upon]
      case value u => exact hn u _ h3.1 h3.2
      case skip => exact hn undef _ h3.1 h3.2
      case enter f args =>
        refine h3.2.1.mono fun e w'' he => ?_
        obtain ⟨v, rfl, hl, hk⟩ := he
        exact hn v _ (E.trans h3.1 hl) (h3.2.2 w'' v hk)
    | halt x w' => simp only [insideT] at h3
  · rw [if_neg (by simp [hwant])]
    exact hn undef _ (E.refl w) (hv w hw)

theorem anyFree_soundT {n g : Nat} {L : Array Bool → Act → (World → Prop) → Prop} {Q' : Exit → Act → World → Prop} (hL : ∀ listed a F w, E.R W w → F w → L listed a F → wpAny P md ops Q' g listed a w) :
    ∀ (f : Nat) (listed : Array Bool) (a : Act) (F : World → Prop) (w : World), (∀ w w', E.R w w' → F w → F w') → E.R W w → F w → anyFreeT E P ops md W K n L f listed a F → wpAny P md ops Q' (f + g) listed a w := by
  intro f
  induction f with
  | zero => intro listed a F w _ hw hF h; rw [Nat.zero_add]; exact hL _ _ _ _ hw hF h
  | succ f ih =>
    intro listed a F w hm hw hF h
    rw [show f + 1 + g = (f + g) + 1 by omega]
    refine ⟨fun h0 => absurd h0 h.1, fun i hi => ?_⟩
    obtain ⟨_, o, ho, _⟩ := mem_ready.1 hi
    obtain ⟨V, hg, hn⟩ := (h.2 i hi).2 o ho
    exact wpOp_yieldsT ho hw hg (fun v w' hl hv => ih _ _ _ _ (fun u u' hu hh => ⟨hm u u' hu hh.1, hg.1 v u u' hu hh.2⟩) (E.trans hw hl) ⟨hm w w' hl hF, hv⟩ (hn v ⟨w', E.trans hw hl, hv⟩))

theorem anyFree_weakenT {n : Nat} {L : Array Bool → Act → (World → Prop) → Prop} (hLm : ∀ listed a F F', (∀ w, F' w → F w) → L listed a F → L listed a F') :
    ∀ (f : Nat) (listed : Array Bool) (a : Act) (F F' : World → Prop), (∀ w, F' w → F w) → anyFreeT E P ops md W K n L f listed a F → anyFreeT E P ops md W K n L f listed a F' := by
  intro f
  induction f with
  | zero => intro listed a F F' h hh; exact hLm _ _ _ _ h hh
  | succ f ih =>
    intro listed a F F' h hh
    refine ⟨hh.1, fun i hi => ⟨(hh.2 i hi).1, fun o ho => ?_⟩⟩
    obtain ⟨V, hg, hn⟩ := (hh.2 i hi).2 o ho
    exact ⟨V, hg, fun v hv => ih _ _ _ _ (fun w hw => ⟨h w hw.1, hw.2⟩) (hn v hv)⟩

theorem anyFree_firstT {n i : Nat} {oi : Oper} {V : World → Value → Prop} {L : Array Bool → Act → (World → Prop) → Prop} (hi : ops[i]? = some oi) (hsel : ∀ (j : Nat) (o : Oper) cs b, ops[j]? = some o → o.op ≠ .select cs b)
    (hbound : ∀ listed i, HeadInv md ops n listed → i < n → listed.getD i true = false → ∀ j ∈ Region.ready md ops listed, j < n) (hin : i < n)
    (hdone : ∀ listed a F, L listed a F → ∀ j ∈ Region.ready md ops listed, n ≤ j) (hLm : ∀ listed a F F', (∀ w, F' w → F w) → L listed a F → L listed a F') :
    ∀ (f : Nat) (listed : Array Bool) (a : Act) (F : World → Prop), HeadInv md ops n listed →
      (∀ j oj, ops[j]? = some oj → j ≠ i → listed.getD j true = false → (∀ e ∈ oj.after, Region.binds md e = true → e.on ≠ i) → oi.apart ops oj = true) →
      i ∈ Region.ready md ops listed → YieldsT E P ops W K oi a V →
      (∀ v, (∃ w, E.R W w ∧ V w v) → anyFreeT E P ops md W K n L f (listed.setIfInBounds i true) (a.put oi.dst v) (fun w => F w ∧ V w v)) → anyFreeT E P ops md W K n L (f + 1) listed a F := by
  intro f
  induction f with
  | zero =>
    intro listed a F inv _ hr hg H
    have hun := (mem_ready.1 hr).1
    refine ⟨fun h => (by rw [h] at hr; cases hr), fun j hj => ?_⟩
    have hjn := hbound listed i inv hin hun j hj
    refine ⟨hjn, fun o ho => ?_⟩
    by_cases hji : j = i
    · subst hji
      rw [hi] at ho; cases ho
      exact ⟨V, hg, H⟩
    · obtain ⟨v, hv⟩ := hg.some
      have := hdone _ _ _ (H v hv) j (ready_mono hj hji)
      omega
  | succ f ih =>
    intro listed a F inv hfree hr hg H
    have hun := (mem_ready.1 hr).1
    refine ⟨fun h => (by rw [h] at hr; cases hr), fun j hj => ?_⟩
    have hjn := hbound listed i inv hin hun j hj
    refine ⟨hjn, fun o ho => ?_⟩
    by_cases hji : j = i
    · subst hji
      rw [hi] at ho; cases ho
      exact ⟨V, hg, H⟩
    · obtain ⟨hjun, oj, hoj, hall⟩ := mem_ready.1 hj
      rw [ho] at hoj; cases hoj
      have hnot : ∀ e ∈ o.after, Region.binds md e = true → e.on ≠ i := fun e he hb heq => by
        have h1 := hall e he hb
        rw [heq, getD_both hun] at h1
        cases h1
      have hap := hfree j o ho hji hjun hnot
      obtain ⟨a1, a2, a3⟩ := Oper.apart_spec hap
      have hsi := fun cs b => hsel i oi cs b hi
      have hsj := fun cs b => hsel j o cs b ho
      have hU : ∀ v : {v // ∃ w, E.R W w ∧ V w v}, ∃ U, YieldsT E P ops W K o (a.put oi.dst v.1) U ∧ ∀ u, (∃ w, E.R W w ∧ U w u) →
          anyFreeT E P ops md W K n L f ((listed.setIfInBounds i true).setIfInBounds j true) ((a.put oi.dst v.1).put o.dst u) (fun w => (F w ∧ V w v.1) ∧ U w u) :=
        fun v => ((H v.1 v.2).2 j (ready_mono hj hji)).2 o ho
      obtain ⟨U, hU⟩ := Classical.skolem.1 hU
      obtain ⟨v0, hv0⟩ := hg.some
      have hone : ∀ v, YieldsT E P ops W K o a (U v) := fun v => (hU v).1.same (execOp_put o hsj a oi.dst v.1 a1).symm (wanted_put o a oi.dst v.1 a1).symm
      have hgood : YieldsT E P ops W K o a (fun w u => ∀ v, U v w u) := by
        refine ⟨fun u w w' hl h v => (hone v).1 u w w' hl (h v), ?_⟩
        by_cases hw : Region.wanted o (yielded ops a.tmps) = true
        · refine .inl ⟨hw, fun w hw' => inside_allT ⟨⟨v0, hv0⟩, trivial⟩ (fun v => ?_)⟩
          rcases (hone v).2 with ⟨_, h3⟩ | ⟨h3, _⟩
          · exact h3 w hw'
          · rw [hw] at h3; cases h3
        · refine .inr ⟨by simpa using hw, fun w hw' v => ?_⟩
          rcases (hone v).2 with ⟨h3, _⟩ | ⟨_, h3⟩
          · exact absurd h3 hw
          · exact h3 w hw'
      refine ⟨_, hgood, ?_⟩
      intro u hu
      have hfree' : ∀ k ok, ops[k]? = some ok → k ≠ i → (listed.setIfInBounds j true).getD k true = false →
          (∀ e ∈ ok.after, Region.binds md e = true → e.on ≠ i) → oi.apart ops ok = true := fun k ok hk hki hun hno => by
        refine hfree k ok hk hki ?_ hno
        by_cases hjk : j = k
        · subst hjk; exact hjun
        · rw [getD_set_ne true hjk] at hun; exact hun
      refine ih (listed.setIfInBounds j true) (a.put o.dst u) _ (inv.set hj hjn) hfree' (ready_mono hr (Ne.symm hji)) (hg.same (execOp_put oi hsi a o.dst u a3) (wanted_put oi a o.dst u a3)) (fun v hv => ?_)
      rw [Array.setIfInBounds_comm _ _ hji, ← Act.put_comm a v u a2]
      obtain ⟨w, hw, hu⟩ := hu
      exact anyFree_weakenT hLm _ _ _ _ _ (fun w' h' => ⟨⟨h'.1.1, h'.2⟩, h'.1.2 ⟨v, hv⟩⟩) ((hU ⟨v, hv⟩).2 u ⟨w, hw, hu ⟨v, hv⟩⟩)

theorem anyFree_lexT {n g : Nat} {R : Act → World → Prop} (hsel : Region.noSelect ops = true)
    (hbound : ∀ listed i, HeadInv md ops n listed → i < n → listed.getD i true = false → ∀ j ∈ Region.ready md ops listed, j < n) :
    ∀ (l : List Oper) (k : Nat) (listed : Array Bool) (a : Act) (F : World → Prop), (∀ j, j < l.length → l[j]? = ops[k + j]?) → k + l.length = n → HeadInv md ops n listed →
    Region.lexHead md ops g l.length k listed = true → wpFreeT E P ops W K R l a F →
    anyFreeT E P ops md W K n (fun listed' a' F' => Region.seqB md ops g n listed' = true ∧ ∀ w, E.R W w → F' w → R a' w) l.length listed a F := by
  intro l
  induction l with
  | nil =>
    intro k listed a F _ hk _ hB h
    have : k = n := by simpa using hk
    subst this
    exact ⟨by simpa [Region.lexHead] using hB, h⟩
  | cons o l ih =>
    intro k listed a F hl hk inv hB h
    have h0 : ops[k]? = some o := by simpa using (hl 0 (by simp)).symm
    simp only [List.length_cons, Region.lexHead, Bool.and_eq_true] at hB
    obtain ⟨⟨hr, hf⟩, hB'⟩ := hB
    have hkn : k < n := by simp only [List.length_cons] at hk; omega
    have hr' : k ∈ Region.ready md ops listed := by simpa using hr
    obtain ⟨V, hg, hnext⟩ := h
    exact anyFree_firstT h0 (Region.noSelect_spec hsel) hbound hkn (fun listed' a' F' hL => seqB_ready hL.1) (fun _ _ _ _ hF hL => ⟨hL.1, fun w hw h' => hL.2 w hw (hF w h')⟩) l.length listed a F inv (Region.free_spec h0 hf) hr' hg
      (fun v hv => ih (k + 1) _ _ _ (fun j hj => by have := hl (j + 1) (by simp; omega); simpa [Nat.add_assoc, Nat.add_comm 1 j] using this) (by simp only [List.length_cons] at hk; omega) (inv.set hr' hkn) hB' (hnext v hv))

/-- A REGION WITH FORCED LAST OPERATIONS (from number n on). -/
theorem region_tailT (K : FuncId → Array Value → World → Value → Prop) {id : Nat} {Q : Exit → Act → World → Prop} {a : Act} {w : World} {l : List Oper} (n : Nat) (hm : P.follows .mixedOrders = true) (hB : Region.lexTailB .any l.toArray n = true)
    (h : wpFreeT E P l.toArray (w.drewN 1) K (fun a' w' => wpList P l.toArray Q (l.drop n) a' w') (l.take n) a (fun _ => True)) : (Code.region id l.toArray true).wp P Q a w := by
  simp only [Region.lexTailB, Bool.and_eq_true, decide_eq_true_eq] at hB
  obtain ⟨⟨⟨⟨hsel, hn⟩, hs⟩, hc⟩, hlex⟩ := hB
  have hn' : n < l.length := by simpa using hn
  have htl : (l.take n).length = n := by simp; omega
  have hdl : (l.drop n).length = l.toArray.size - n := by simp
  have hbound : ∀ listed i, HeadInv .any l.toArray n listed → i < n → listed.getD i true = false → ∀ j ∈ Region.ready .any l.toArray listed, j < n := by
    intro listed i inv hi hun j hj
    rcases Nat.lt_or_ge j n with h | h
    · exact h
    · exact absurd hj (tail_waits hs hc hn inv _ i rfl hi hun j h)
  have H := anyFree_lexT (md := .any) (g := l.toArray.size - n) hsel hbound (l.take n) 0 _ a _ (fun j hj => by
    have hj' : j < n := by rw [htl] at hj; exact hj
    simp [hj']) (by simpa using htl) (head_start _ n) (by rw [htl]; exact hlex) h
  refine wp_region_any hm ?_
  have := anyFree_soundT (Q' := Q) (W := w.drewN 1) (g := l.toArray.size - n) (fun listed a' F w' hw' hF hL => by
    have := wpAny_of_seq (md := .any) (Q' := Q) (l.drop n) n listed a' w' (fun j => by simp [List.getElem?_drop]) (by rw [hdl]; exact hL.1) (hL.2 w' hw' hF)
    rwa [hdl] at this) _ _ _ _ _ (fun _ _ _ h => h) (E.refl _) trivial H
  rw [htl, show n + (l.toArray.size - n) = l.toArray.size by omega] at this
  exact this

/-- A REGION WITHOUT. -/
theorem region_freeT (K : FuncId → Array Value → World → Value → Prop) {id : Nat} {Q : Exit → Act → World → Prop} {a : Act} {w : World} {l : List Oper} (hm : P.follows .mixedOrders = true)
    (hB : (Region.noSelect l.toArray && Region.lexHead .any l.toArray 0 l.length 0 (Array.replicate l.toArray.size false)) = true)
    (h : wpFreeT E P l.toArray (w.drewN 1) K (fun a' w' => Q .normal a' w') l a (fun _ => True)) : (Code.region id l.toArray true).wp P Q a w := by
  simp only [Bool.and_eq_true] at hB
  obtain ⟨hsel, hlex⟩ := hB
  have hbound : ∀ listed i, HeadInv .any l.toArray l.length listed → i < l.length → listed.getD i true = false → ∀ j ∈ Region.ready .any l.toArray listed, j < l.length := by
    intro listed i _ _ _ j hj
    obtain ⟨_, oj, hoj, _⟩ := mem_ready.1 hj
    simpa using (Array.getElem?_eq_some_iff.1 hoj).1
  have H := anyFree_lexT (md := .any) (g := 0) hsel hbound l 0 _ a _ (fun j hj => by simp) (by simp) (head_start _ l.length) hlex h
  refine wp_region_any hm ?_
  have := anyFree_soundT (Q' := Q) (W := w.drewN 1) (g := 0) (fun listed a' F w' hw' hF hL => ⟨by simpa [Region.seqB] using hL.1, hL.2 w' hw' hF⟩) _ _ _ _ _ (fun _ _ _ h => h) (E.refl _) trivial H
  rw [Nat.add_zero] at this
  exact this
end

section
variable {E : Ext} {P : Program} {ops : Array Oper} {W : World} {K : FuncId → Array Value → World → Value → Prop} {Q : Act → World → Prop} {F : World → Prop} {o : Oper} {rest : List Oper} {a : Act}

theorem wpFree_nilT (h : ∀ w, E.R W w → F w → Q a w) : wpFreeT E P ops W K Q [] a F := h

/-- An operation that gives one value and leaves the world as it is. -/
theorem wpFree_oneT (hg : o.guard = none) (v : Value) (hr : ∀ w, E.R W w → (execOp a.eval o).run P w = .ok (.value v) w)
    (h : wpFreeT E P ops W K Q rest (a.put o.dst v) F) : wpFreeT E P ops W K Q (o :: rest) a F := by
  refine ⟨fun _ u => u = v, ⟨fun _ _ _ _ h => h, .inl ⟨by simp [Region.wanted, hg], fun w hw => ?_⟩⟩, fun u hu => ?_⟩
  · rw [hr w hw]; exact ⟨E.refl w, rfl⟩
  · obtain ⟨w, _, rfl⟩ := hu
    have e : (fun w => F w ∧ u = u) = F := by funext w; simp
    rw [e]; exact h

/-- A value known up to a predicate that does not speak of the world; the world may be drawn from. -/
theorem wpFree_someT (hg : o.guard = none) (V : Value → Prop) (hr : ∀ w, E.R W w → ∃ v n, (execOp a.eval o).run P w = .ok (.value v) (w.drewN n) ∧ V v)
    (h : ∀ v, V v → wpFreeT E P ops W K Q rest (a.put o.dst v) F) : wpFreeT E P ops W K Q (o :: rest) a F := by
  refine ⟨fun _ u => V u, ⟨fun _ _ _ _ h => h, .inl ⟨by simp [Region.wanted, hg], fun w hw => ?_⟩⟩, fun u hu => ?_⟩
  · obtain ⟨v, n, hrun, hv⟩ := hr w hw
    rw [hrun]; exact ⟨E.drewN w n, hv⟩
  · obtain ⟨w, _, hv⟩ := hu
    have h' := h u hv
    have e : (fun w => F w ∧ V u) = F := by funext w; simp [hv]
    rw [e]; exact h'

/-- A call. -/
theorem wpFree_callT (hg : o.guard = none) {f : FuncId} {xs : Array Operand} {ts : Array TypeId} (hop : o.op = Op.call { callee := Callee.value (Operand.func f), args := xs, argTypes := ts }) {fn : Func} (hf : P.funcs[f]? = some fn)
    (hb : fn.body.isNone = false) (hn : (fn.name == "runtime.NumGoroutine") = false) {args : Array Value} (ha : xs.map a.eval = args) (hm : MonoT E (K f args))
    (h1 : ∀ w, E.R W w → Calls P f args w (fun e w' => ∃ v, e = .returned v ∧ E.R w w' ∧ K f args w' v)) (h2 : ∀ v, (∃ w, E.R W w ∧ K f args w v) → wpFreeT E P ops W K Q rest (a.put o.dst v) (fun w => F w ∧ K f args w v)) : wpFreeT E P ops W K Q (o :: rest) a F :=
  ⟨K f args, ⟨hm, .inl ⟨by simp [Region.wanted, hg], fun w hw => by rw [run_enter hop hf hb hn ha]; exact ⟨E.refl w, h1 w hw, fun _ _ h => h⟩⟩⟩, h2⟩

end

/-- The operations may write these rows into these blocks, each as a whole. -/
def finX (T : List (Nat × TypeId × Array Value)) : Ext where
  R w w' := w'.os = w.os ∧ w'.tape = w.tape ∧ w'.output = w.output ∧ w.heap.size ≤ w'.heap.size ∧ (∀ k, k < w.heap.size → (∀ x ∈ T, x.1 ≠ k) → w'.heap[k]? = w.heap[k]?) ∧
    (∀ x ∈ T, Row w x.1 x.2.1 x.2.2 → Row w' x.1 x.2.1 x.2.2) ∧ (∀ x ∈ T, (∃ cs, Row w x.1 x.2.1 cs ∧ cs.size = x.2.2.size) → ∃ cs, Row w' x.1 x.2.1 cs ∧ cs.size = x.2.2.size)
  refl w := ⟨rfl, rfl, rfl, Nat.le_refl _, fun _ _ _ => rfl, fun _ _ h => h, fun _ _ h => h⟩
  trans := by
    rintro a b c ⟨h1, h2, h3, h4, h5, h6, h7⟩ ⟨k1, k2, k3, k4, k5, k6, k7⟩
    exact ⟨k1.trans h1, k2.trans h2, k3.trans h3, Nat.le_trans h4 k4, fun k hk hx => (k5 k (Nat.lt_of_lt_of_le hk h4) hx).trans (h5 k hk hx), fun x hx h => k6 x hx (h6 x hx h), fun x hx h => k7 x hx (h7 x hx h)⟩
  of_le := by
    intro a b h
    exact ⟨h.os, h.tape, h.output, h.size, fun k hk _ => h.block k hk, fun x _ hr => hr.le h, fun x _ ⟨cs, hr, hs⟩ => ⟨cs, hr.le h, hs⟩⟩
theorem finX_below {T : List (Nat × TypeId × Array Value)} {w w' : World} (h : (finX T).R w w') {B : Nat} (hB : ∀ x ∈ T, B ≤ x.1) (hw : B ≤ w.heap.size) : Below B w w' :=
  ⟨h.1, h.2.1, h.2.2.1, h.2.2.2.1, fun k hk => h.2.2.2.2.1 k (Nat.lt_of_lt_of_le hk hw) (fun x hx => by have := hB x hx; omega)⟩
theorem finX_row {T : List (Nat × TypeId × Array Value)} {w w' : World} (h : (finX T).R w w') {g : Nat} {t : TypeId} {cs : Array Value} (hr : Row w g t cs) (hn : ∀ x ∈ T, x.1 ≠ g) : Row w' g t cs := by
  have := h.2.2.2.2.1 g hr.lt hn
  unfold Row at *
  rw [this]; exact hr

section
variable {P : Program} {ops : Array Oper} {W : World} {K : FuncId → Array Value → World → Value → Prop} {Q : Act → World → Prop} {F : World → Prop} {o : Oper} {rest : List Oper} {a : Act} {T : List (Nat × TypeId × Array Value)}
theorem wpFreeT_load (hg : o.guard = none) {ty : TypeId} {x : Operand} (hop : o.op = .load ty x) {g : Nat} (hx : a.eval x = .pointer (some ⟨g, 0, none⟩)) {t : TypeId} {cs : Array Value} {d : TypeDesc}
    (hr : Row W g t cs) (hn : ∀ x ∈ T, x.1 ≠ g) (hu : P.underlying ty = some d) (hd : (match d with | .struct _ | .array _ _ => true | _ => false) = true) {m : Nat} (hi : (P.info? ty).map (·.size) = some m) (hm : cs.size = m)
    (h : wpFreeT (finX T) P ops W K Q rest (a.put o.dst (.agg cs)) F) : wpFreeT (finX T) P ops W K Q (o :: rest) a F := by
  subst hm
  refine wpFree_oneT hg (.agg cs) (fun w hw => ?_) h
  have := run_loadVar_row (P := P) w g t ty cs (0, 0) _ (finX_row hw hr hn) hu hd hi
  simp [execOp, hop, hx, Instr.loadAt, Instr.sureAddr, this, Result.andThen]
theorem wpFreeT_store (hg : o.guard = none) {ty : TypeId} {x y : Operand} (hop : o.op = .store ty x y) {g : Nat} (hx : a.eval x = .pointer (some ⟨g, 0, none⟩)) {cells : Array Value} (hy : a.eval y = .agg cells) {t : TypeId} {old : Array Value}
    (hT : (g, t, cells) ∈ T) (hd : ∀ x ∈ T, ∀ y ∈ T, x.1 = y.1 → x = y) (hr : Row W g t old) (hs : old.size = cells.size) {m : Nat} (hi : (P.info? ty).map (·.size) = some m) (hm : cells.size = m) (h1 : cells.all (·.oneCell') = true)
    (h : wpFreeT (finX T) P ops W K Q rest (a.put o.dst undef) (fun w => F w ∧ Row w g t cells)) : wpFreeT (finX T) P ops W K Q (o :: rest) a F := by
  subst hm
  refine ⟨fun w v => v = undef ∧ Row w g t cells, ⟨fun v w w' hw hv => ⟨hv.1, hw.2.2.2.2.2.1 _ hT hv.2⟩, .inl ⟨by simp [Region.wanted, hg], fun w hw => ?_⟩⟩, fun v hv => ?_⟩
  · obtain ⟨cs, hc, hcs⟩ := hw.2.2.2.2.2.2 _ hT ⟨old, hr, hs⟩
    have hc : Row w g t cs := hc
    have hcs : cs.size = cells.size := hcs
    have hrun := run_storeVar_row (P := P) w g t ty cs cells hc hi hcs h1
    have : (execOp a.eval o).run P w = .ok .skip (w.setRow g cells) := by
      unfold execOp
      simp only [hop, hx, hy, Instr.storeAt, Instr.sureAddr, Sem.run_bind, Sem.run_pure, Result.andThen_ok, hrun]
    rw [this]
    have hrow : Row (w.setRow g cells) g t cells := hc.setRow _
    refine ⟨⟨rfl, rfl, rfl, by simp, fun k hk hx' => ?_, fun x' hx' hrx => ?_, fun x' hx' ⟨c', hrx, hsx⟩ => ?_⟩, rfl, hrow⟩
    · have := hx' _ hT
      unfold World.setRow
      rw [Array.getElem?_modify, if_neg this]
    · by_cases e : x'.1 = g
      · have := hd x' hx' _ hT e
        subst this; exact hrow
      · exact hrx.setRow_other e _
    · by_cases e : x'.1 = g
      · have := hd x' hx' _ hT e
        subst this; exact ⟨cells, hrow, rfl⟩
      · exact ⟨c', hrx.setRow_other e _, hsx⟩
  · obtain ⟨w, _, rfl, _⟩ := hv
    have e : (fun w => F w ∧ undef = undef ∧ Row w g t cells) = (fun w => F w ∧ Row w g t cells) := by funext w; simp
    rw [e]; exact h
end
end Go.Fk

/- As FreeT, but an operation may lean on what is known of the operations that it comes behind: so a region may write blocks that it has made itself. Nothing here names a program. -/
namespace Go.Fk
open Go Go.RowKit

/-- What is known of each operation's value. -/
abbrev Facts := Nat → World → Prop
def Facts.with (F : Facts) (k : Nat) (V : World → Prop) : Facts := fun e w => F e w ∧ (e = k → V w)
theorem Facts.with_of {F : Facts} {k : Nat} {V : World → Prop} {w : World} (h : ∀ e, (F.with k V) e w) : (∀ e, F e w) ∧ V w := ⟨fun e => (h e).1, (h k).2 rfl⟩
theorem Facts.with_mk {F : Facts} {k : Nat} {V : World → Prop} {w : World} (h : ∀ e, F e w) (hv : V w) : ∀ e, (F.with k V) e w := fun e => ⟨h e, fun _ => hv⟩

section
variable (E : Ext) (P : Program) (ops : Array Oper) (md : Region.Mode) (W : World) (K : FuncId → Array Value → World → Value → Prop)
/-- What is known where an operation comes up. -/
def behind (o : Oper) (F : Facts) (w : World) : Prop := ∀ e ∈ o.after, Region.binds md e = true → F e.on w
def YieldsD (o : Oper) (a : Act) (F : Facts) (V : World → Value → Prop) : Prop :=
  MonoT E V ∧ ((Region.wanted o (yielded ops a.tmps) = true ∧ ∀ w, E.R W w → behind md o F w → insideT E P K w V ((execOp a.eval o).run P w)) ∨ (Region.wanted o (yielded ops a.tmps) = false ∧ ∀ w, E.R W w → behind md o F w → V w undef))
/-- Some world may be met in which all of this is known. -/
def met (F : Facts) (V : World → Prop) : Prop := ∃ w, E.R W w ∧ (∀ e, F e w) ∧ V w
def wpFreeD (Q : Act → World → Prop) : List Oper → Nat → Act → Facts → Prop
  | [], _, a, F => ∀ w, E.R W w → (∀ e, F e w) → Q a w
  | o :: rest, k, a, F => ∃ V, YieldsD E P ops md W K o a F V ∧ ∀ v, met E W F (fun w => V w v) → wpFreeD Q rest (k + 1) (a.put o.dst v) (F.with k (fun w => V w v))
def anyFreeD (n : Nat) (L : Array Bool → Act → Facts → Prop) : Nat → Array Bool → Act → Facts → Prop
  | 0, listed, a, F => L listed a F
  | f + 1, listed, a, F => Region.ready md ops listed ≠ [] ∧
      ∀ i ∈ Region.ready md ops listed, i < n ∧ ∀ o, ops[i]? = some o → ∃ V, YieldsD E P ops md W K o a F V ∧ ∀ v, met E W F (fun w => V w v) → anyFreeD n L f (listed.setIfInBounds i true) (a.put o.dst v) (F.with i (fun w => V w v))
def FMono (F : Facts) : Prop := ∀ w w', E.R w w' → (∀ e, F e w) → ∀ e, F e w'
end

section
variable {E : Ext} {P : Program} {ops : Array Oper} {md : Region.Mode} {W : World} {K : FuncId → Array Value → World → Value → Prop}

theorem FMono.with {F : Facts} (h : FMono E F) {V : World → Value → Prop} (hV : MonoT E V) (k : Nat) (v : Value) : FMono E (F.with k (fun w => V w v)) := fun w w' hw hF =>
  Facts.with_mk (h w w' hw (Facts.with_of hF).1) (hV v w w' hw (Facts.with_of hF).2)

theorem insideT_some {V : World → Value → Prop} {w : World} {r : Result Next} (h : insideT E P K w V r) : ∃ v, ∃ w', E.R w w' ∧ V w' v := by
  cases r with
  | ok n w' =>
    cases n <;> simp only [insideT] at h
    case value u => exact ⟨u, w', h.1, h.2⟩
    case skip => exact ⟨undef, w', h.1, h.2⟩
    case enter f args =>
      obtain ⟨e, w'', fr, ⟨v, _, hl, hk⟩, _⟩ := h.2.1 []
      exact ⟨v, w'', E.trans h.1 hl, h.2.2 w'' v hk⟩
  | halt x w' => simp only [insideT] at h

theorem YieldsD.some {o : Oper} {a : Act} {F : Facts} {V : World → Value → Prop} (hm : FMono E F) (hx : met E W F (fun _ => True)) (h : YieldsD E P ops md W K o a F V) : ∃ v, met E W F (fun w => V w v) := by
  obtain ⟨w, hw, hF, _⟩ := hx
  rcases h.2 with ⟨_, h⟩ | ⟨_, h⟩
  · obtain ⟨v, w', hl, hv⟩ := insideT_some (h w hw (fun e _ _ => hF e.on))
    exact ⟨v, w', E.trans hw hl, hm w w' hl hF, hv⟩
  · exact ⟨undef, w, hw, hF, h w hw (fun e _ _ => hF e.on)⟩

theorem YieldsD.same {o : Oper} {a a' : Act} {F : Facts} {V : World → Value → Prop} (he : execOp a'.eval o = execOp a.eval o) (hw : Region.wanted o (yielded ops a'.tmps) = Region.wanted o (yielded ops a.tmps))
    (h : YieldsD E P ops md W K o a F V) : YieldsD E P ops md W K o a' F V := by
  unfold YieldsD at *; rw [he, hw]; exact h

/-- What is known of an operation that it does not come behind is of no use to it. -/
theorem YieldsD.less {o : Oper} {a : Act} {F : Facts} {i : Nat} {X : World → Prop} {V : World → Value → Prop} (hn : ∀ e ∈ o.after, Region.binds md e = true → e.on ≠ i) (h : YieldsD E P ops md W K o a (F.with i X) V) : YieldsD E P ops md W K o a F V := by
  have key : ∀ w, behind md o F w → behind md o (F.with i X) w := fun w hw e he hb => ⟨hw e he hb, fun h => absurd h (hn e he hb)⟩
  refine ⟨h.1, ?_⟩
  rcases h.2 with ⟨h1, h2⟩ | ⟨h1, h2⟩
  · exact .inl ⟨h1, fun w hw hb => h2 w hw (key w hb)⟩
  · exact .inr ⟨h1, fun w hw hb => h2 w hw (key w hb)⟩
theorem YieldsD.more {o : Oper} {a : Act} {F : Facts} {i : Nat} {X : World → Prop} {V : World → Value → Prop} (h : YieldsD E P ops md W K o a F V) : YieldsD E P ops md W K o a (F.with i X) V := by
  have key : ∀ w, behind md o (F.with i X) w → behind md o F w := fun w hw e he hb => (hw e he hb).1
  refine ⟨h.1, ?_⟩
  rcases h.2 with ⟨h1, h2⟩ | ⟨h1, h2⟩
  · exact .inl ⟨h1, fun w hw hb => h2 w hw (key w hb)⟩
  · exact .inr ⟨h1, fun w hw hb => h2 w hw (key w hb)⟩

theorem wpOp_yieldsD {i : Nat} {o : Oper} {a : Act} {w : World} {F : Facts} {V : World → Value → Prop} {next : Act → World → Prop} {Q' : Exit → Act → World → Prop} (ho : ops[i]? = some o) (hw : E.R W w) (hF : ∀ e, F e w) (hg : YieldsD E P ops md W K o a F V)
    (hn : ∀ v w', E.R w w' → V w' v → next (a.put o.dst v) w') : wpOp P ops Q' i next a w := by
  unfold wpOp
  simp only [ho]
  rcases hg.2 with ⟨hwant, hv⟩ | ⟨hwant, hv⟩
  · rw [if_pos hwant]
    left
    have h3 := hv w hw (fun e _ _ => hF e.on)
    unfold Oper.wp
    generalize (execOp a.eval o).run P w = r at h3
    cases r with
    | ok x w' =>
      cases x <;> simp only [insideT] at h3 <;> simp only [Oper.upon]
      case value u => exact hn u _ h3.1 h3.2
      case skip => exact hn undef _ h3.1 h3.2
      case enter f args =>
        refine h3.2.1.mono fun e w'' he => ?_
        obtain ⟨v, rfl, hl, hk⟩ := he
        exact hn v _ (E.trans h3.1 hl) (h3.2.2 w'' v hk)
    | halt x w' => simp only [insideT] at h3
  · rw [if_neg (by simp [hwant])]
    exact hn undef _ (E.refl w) (hv w hw (fun e _ _ => hF e.on))

theorem anyFreeD_sound {n g : Nat} {L : Array Bool → Act → Facts → Prop} {Q' : Exit → Act → World → Prop} (hL : ∀ listed a F w, E.R W w → (∀ e, F e w) → L listed a F → wpAny P md ops Q' g listed a w) :
    ∀ (f : Nat) (listed : Array Bool) (a : Act) (F : Facts) (w : World), FMono E F → E.R W w → (∀ e, F e w) → anyFreeD E P ops md W K n L f listed a F → wpAny P md ops Q' (f + g) listed a w := by
  intro f
  induction f with
  | zero => intro listed a F w _ hw hF h; rw [Nat.zero_add]; exact hL _ _ _ _ hw hF h
  | succ f ih =>
    intro listed a F w hm hw hF h
    rw [show f + 1 + g = (f + g) + 1 by omega]
    refine ⟨fun h0 => absurd h0 h.1, fun i hi => ?_⟩
    obtain ⟨_, o, ho, _⟩ := mem_ready.1 hi
    obtain ⟨V, hg, hn⟩ := (h.2 i hi).2 o ho
    exact wpOp_yieldsD ho hw hF hg (fun v w' hl hv => ih _ _ _ _ (hm.with hg.1 i v) (E.trans hw hl) (Facts.with_mk (hm w w' hl hF) hv) (hn v ⟨w', E.trans hw hl, hm w w' hl hF, hv⟩))

theorem met.weaken {F F' : Facts} {V : World → Prop} (h : ∀ w, (∀ e, F' e w) → ∀ e, F e w) (hx : met E W F' V) : met E W F V := by
  obtain ⟨w, hw, hF, hv⟩ := hx; exact ⟨w, hw, h w hF, hv⟩

/-- Facts that are pointwise the same. -/
theorem anyFreeD_congr {n : Nat} {L : Array Bool → Act → Facts → Prop} (hLm : ∀ listed a F F', (∀ e w, F' e w ↔ F e w) → L listed a F → L listed a F') :
    ∀ (f : Nat) (listed : Array Bool) (a : Act) (F F' : Facts), (∀ e w, F' e w ↔ F e w) → anyFreeD E P ops md W K n L f listed a F → anyFreeD E P ops md W K n L f listed a F' := by
  intro f listed a F F' h
  have : F' = F := by funext e w; exact propext (h e w)
  rw [this]; exact id

theorem with_comm (F : Facts) (i j : Nat) (X Y : World → Prop) : (F.with i X).with j Y = (F.with j Y).with i X := by
  funext e w
  unfold Facts.with
  exact propext ⟨fun h => ⟨⟨h.1.1, h.2⟩, h.1.2⟩, fun h => ⟨⟨h.1.1, h.2⟩, h.1.2⟩⟩

theorem YieldsD.stronger {o : Oper} {a : Act} {F F' : Facts} {V : World → Value → Prop} (hF : ∀ e w, F' e w → F e w) (h : YieldsD E P ops md W K o a F V) : YieldsD E P ops md W K o a F' V := by
  have key : ∀ w, behind md o F' w → behind md o F w := fun w hw e he hb => hF _ _ (hw e he hb)
  refine ⟨h.1, ?_⟩
  rcases h.2 with ⟨h1, h2⟩ | ⟨h1, h2⟩
  · exact .inl ⟨h1, fun w hw hb => h2 w hw (key w hb)⟩
  · exact .inr ⟨h1, fun w hw hb => h2 w hw (key w hb)⟩

theorem anyFreeD_weaken {n : Nat} {L : Array Bool → Act → Facts → Prop} (hLm : ∀ listed a F F', (∀ e w, F' e w → F e w) → L listed a F → L listed a F') :
    ∀ (f : Nat) (listed : Array Bool) (a : Act) (F F' : Facts), (∀ e w, F' e w → F e w) → anyFreeD E P ops md W K n L f listed a F → anyFreeD E P ops md W K n L f listed a F' := by
  intro f
  induction f with
  | zero => intro listed a F F' h hh; exact hLm _ _ _ _ h hh
  | succ f ih =>
    intro listed a F F' h hh
    refine ⟨hh.1, fun i hi => ⟨(hh.2 i hi).1, fun o ho => ?_⟩⟩
    obtain ⟨V, hg, hn⟩ := (hh.2 i hi).2 o ho
    exact ⟨V, hg.stronger h, fun v hv => ih _ _ _ _ (fun e w hw => ⟨h e w hw.1, hw.2⟩) (hn v (hv.weaken (fun w hw e => h e w (hw e))))⟩

theorem anyFreeD_first {n i : Nat} {oi : Oper} {V : World → Value → Prop} {L : Array Bool → Act → Facts → Prop} (hi : ops[i]? = some oi) (hsel : ∀ (j : Nat) (o : Oper) cs b, ops[j]? = some o → o.op ≠ .select cs b)
    (hbound : ∀ listed i, HeadInv md ops n listed → i < n → listed.getD i true = false → ∀ j ∈ Region.ready md ops listed, j < n) (hin : i < n)
    (hdone : ∀ listed a F, L listed a F → ∀ j ∈ Region.ready md ops listed, n ≤ j) (hLm : ∀ listed a F F', (∀ e w, F' e w → F e w) → L listed a F → L listed a F') :
    ∀ (f : Nat) (listed : Array Bool) (a : Act) (F : Facts), HeadInv md ops n listed →
      (∀ j oj, ops[j]? = some oj → j ≠ i → listed.getD j true = false → (∀ e ∈ oj.after, Region.binds md e = true → e.on ≠ i) → oi.apart ops oj = true) →
      i ∈ Region.ready md ops listed → FMono E F → met E W F (fun _ => True) → YieldsD E P ops md W K oi a F V →
      (∀ v, met E W F (fun w => V w v) → anyFreeD E P ops md W K n L f (listed.setIfInBounds i true) (a.put oi.dst v) (F.with i (fun w => V w v))) → anyFreeD E P ops md W K n L (f + 1) listed a F := by
  intro f
  induction f with
  | zero =>
    intro listed a F inv _ hr hm hx hg H
    have hun := (mem_ready.1 hr).1
    refine ⟨fun h => (by rw [h] at hr; cases hr), fun j hj => ?_⟩
    have hjn := hbound listed i inv hin hun j hj
    refine ⟨hjn, fun o ho => ?_⟩
    by_cases hji : j = i
    · subst hji
      rw [hi] at ho; cases ho
      exact ⟨V, hg, H⟩
    · obtain ⟨v, hv⟩ := hg.some hm hx
      have := hdone _ _ _ (H v hv) j (ready_mono hj hji)
      omega
  | succ f ih =>
    intro listed a F inv hfree hr hm hx hg H
    have hun := (mem_ready.1 hr).1
    refine ⟨fun h => (by rw [h] at hr; cases hr), fun j hj => ?_⟩
    have hjn := hbound listed i inv hin hun j hj
    refine ⟨hjn, fun o ho => ?_⟩
    by_cases hji : j = i
    · subst hji
      rw [hi] at ho; cases ho
      exact ⟨V, hg, H⟩
    · obtain ⟨hjun, oj, hoj, hall⟩ := mem_ready.1 hj
      rw [ho] at hoj; cases hoj
      have hnot : ∀ e ∈ o.after, Region.binds md e = true → e.on ≠ i := fun e he hb heq => by
        have h1 := hall e he hb
        rw [heq, getD_both hun] at h1
        cases h1
      have hap := hfree j o ho hji hjun hnot
      obtain ⟨a1, a2, a3⟩ := Oper.apart_spec hap
      have hsi := fun cs b => hsel i oi cs b hi
      have hsj := fun cs b => hsel j o cs b ho
      have hU : ∀ v : {v // met E W F (fun w => V w v)}, ∃ U, YieldsD E P ops md W K o (a.put oi.dst v.1) (F.with i (fun w => V w v.1)) U ∧ ∀ u, met E W (F.with i (fun w => V w v.1)) (fun w => U w u) →
          anyFreeD E P ops md W K n L f ((listed.setIfInBounds i true).setIfInBounds j true) ((a.put oi.dst v.1).put o.dst u) ((F.with i (fun w => V w v.1)).with j (fun w => U w u)) :=
        fun v => ((H v.1 v.2).2 j (ready_mono hj hji)).2 o ho
      obtain ⟨U, hU⟩ := Classical.skolem.1 hU
      obtain ⟨v0, hv0⟩ := hg.some hm hx
      have hone : ∀ v, YieldsD E P ops md W K o a F (U v) := fun v => ((hU v).1.same (execOp_put o hsj a oi.dst v.1 a1).symm (wanted_put o a oi.dst v.1 a1).symm).less hnot
      have hgood : YieldsD E P ops md W K o a F (fun w u => ∀ v, U v w u) := by
        refine ⟨fun u w w' hl h v => (hone v).1 u w w' hl (h v), ?_⟩
        by_cases hw : Region.wanted o (yielded ops a.tmps) = true
        · refine .inl ⟨hw, fun w hw' hb => inside_allT ⟨⟨v0, hv0⟩, trivial⟩ (fun v => ?_)⟩
          rcases (hone v).2 with ⟨_, h3⟩ | ⟨h3, _⟩
          · exact h3 w hw' hb
          · rw [hw] at h3; cases h3
        · refine .inr ⟨by simpa using hw, fun w hw' hb v => ?_⟩
          rcases (hone v).2 with ⟨h3, _⟩ | ⟨_, h3⟩
          · exact absurd h3 hw
          · exact h3 w hw' hb
      refine ⟨_, hgood, ?_⟩
      intro u hu
      have hfree' : ∀ k ok, ops[k]? = some ok → k ≠ i → (listed.setIfInBounds j true).getD k true = false →
          (∀ e ∈ ok.after, Region.binds md e = true → e.on ≠ i) → oi.apart ops ok = true := fun k ok hk hki hun hno => by
        refine hfree k ok hk hki ?_ hno
        by_cases hjk : j = k
        · subst hjk; exact hjun
        · rw [getD_set_ne true hjk] at hun; exact hun
      have hx' : met E W (F.with j (fun w => ∀ v, U v w u)) (fun _ => True) := by
        obtain ⟨w, hw, hF, hv⟩ := hu
        exact ⟨w, hw, Facts.with_mk hF hv, trivial⟩
      refine ih (listed.setIfInBounds j true) (a.put o.dst u) (F.with j (fun w => ∀ v, U v w u)) (inv.set hj hjn) hfree' (ready_mono hr (Ne.symm hji)) (hm.with hgood.1 j u) hx' ((hg.same (execOp_put oi hsi a o.dst u a3) (wanted_put oi a o.dst u a3)).more) (fun v hv => ?_)
      rw [Array.setIfInBounds_comm _ _ hji, ← Act.put_comm a v u a2]
      obtain ⟨w, hw, hF, hVv⟩ := hv
      have hF' := Facts.with_of hF
      have mv : met E W F (fun w => V w v) := ⟨w, hw, hF'.1, hVv⟩
      exact anyFreeD_weaken hLm _ _ _ _ _ (fun e w' h' => ⟨⟨h'.1.1, h'.2⟩, fun he => h'.1.2 he ⟨v, mv⟩⟩) ((hU ⟨v, mv⟩).2 u ⟨w, hw, Facts.with_mk hF'.1 hVv, hF'.2 ⟨v, mv⟩⟩)

theorem anyFreeD_lex {n g : Nat} {R : Act → World → Prop} (hsel : Region.noSelect ops = true)
    (hbound : ∀ listed i, HeadInv md ops n listed → i < n → listed.getD i true = false → ∀ j ∈ Region.ready md ops listed, j < n) :
    ∀ (l : List Oper) (k : Nat) (listed : Array Bool) (a : Act) (F : Facts), (∀ j, j < l.length → l[j]? = ops[k + j]?) → k + l.length = n → HeadInv md ops n listed →
    Region.lexHead md ops g l.length k listed = true → FMono E F → met E W F (fun _ => True) → wpFreeD E P ops md W K R l k a F →
    anyFreeD E P ops md W K n (fun listed' a' F' => Region.seqB md ops g n listed' = true ∧ ∀ w, E.R W w → (∀ e, F' e w) → R a' w) l.length listed a F := by
  intro l
  induction l with
  | nil =>
    intro k listed a F _ hk _ hB _ _ h
    have : k = n := by simpa using hk
    subst this
    exact ⟨by simpa [Region.lexHead] using hB, h⟩
  | cons o l ih =>
    intro k listed a F hl hk inv hB hm hx h
    have h0 : ops[k]? = some o := by simpa using (hl 0 (by simp)).symm
    simp only [List.length_cons, Region.lexHead, Bool.and_eq_true] at hB
    obtain ⟨⟨hr, hf⟩, hB'⟩ := hB
    have hkn : k < n := by simp only [List.length_cons] at hk; omega
    have hr' : k ∈ Region.ready md ops listed := by simpa using hr
    obtain ⟨V, hg, hnext⟩ := h
    exact anyFreeD_first h0 (Region.noSelect_spec hsel) hbound hkn (fun listed' a' F' hL => seqB_ready hL.1) (fun _ _ _ _ hF hL => ⟨hL.1, fun w hw h' => hL.2 w hw (fun e => hF e w (h' e))⟩) l.length listed a F inv (Region.free_spec h0 hf) hr' hm hx hg
      (fun v hv => ih (k + 1) _ _ _ (fun j hj => by have := hl (j + 1) (by simp; omega); simpa [Nat.add_assoc, Nat.add_comm 1 j] using this) (by simp only [List.length_cons] at hk; omega) (inv.set hr' hkn) hB' (hm.with hg.1 k v)
        (by obtain ⟨w, hw, hF, hv'⟩ := hv; exact ⟨w, hw, Facts.with_mk hF hv', trivial⟩) (hnext v hv))

def noFacts : Facts := fun _ _ => True
/-- A REGION THAT DRAWS ITS ORDER. -/
theorem region_freeD (K : FuncId → Array Value → World → Value → Prop) {id : Nat} {Q : Exit → Act → World → Prop} {a : Act} {w : World} {l : List Oper} (hm : P.follows .mixedOrders = true)
    (hB : (Region.noSelect l.toArray && Region.lexHead .any l.toArray 0 l.length 0 (Array.replicate l.toArray.size false)) = true)
    (h : wpFreeD E P l.toArray .any (w.drewN 1) K (fun a' w' => Q .normal a' w') l 0 a noFacts) : (Code.region id l.toArray true).wp P Q a w := by
  simp only [Bool.and_eq_true] at hB
  obtain ⟨hsel, hlex⟩ := hB
  have hbound : ∀ listed i, HeadInv .any l.toArray l.length listed → i < l.length → listed.getD i true = false → ∀ j ∈ Region.ready .any l.toArray listed, j < l.length := by
    intro listed i _ _ _ j hj
    obtain ⟨_, oj, hoj, _⟩ := mem_ready.1 hj
    simpa using (Array.getElem?_eq_some_iff.1 hoj).1
  have H := anyFreeD_lex (md := .any) (g := 0) hsel hbound l 0 _ a noFacts (fun j hj => by simp) (by simp) (head_start _ l.length) hlex (fun _ _ _ h => h) ⟨w.drewN 1, E.refl _, fun _ => trivial, trivial⟩ h
  refine wp_region_any hm ?_
  have := anyFreeD_sound (Q' := Q) (W := w.drewN 1) (g := 0) (fun listed a' F w' hw' hF hL => ⟨by simpa [Region.seqB] using hL.1, hL.2 w' hw' hF⟩) _ _ _ _ _ (fun _ _ _ h => h) (E.refl _) (fun _ => trivial) H
  rw [Nat.add_zero] at this
  exact this
end

theorem wpFreeD_weaken {E : Ext} {P : Program} {ops : Array Oper} {md : Region.Mode} {W : World} {K : FuncId → Array Value → World → Value → Prop} {Q : Act → World → Prop} : ∀ (l : List Oper) (k : Nat) (a : Act) (F F' : Facts), (∀ e w, F' e w → F e w) → wpFreeD E P ops md W K Q l k a F → wpFreeD E P ops md W K Q l k a F' := by
  intro l
  induction l with
  | nil => intro k a F F' h hh w hw hF; exact hh w hw (fun e => h e w (hF e))
  | cons o l ih =>
    intro k a F F' h hh
    obtain ⟨V, hg, hn⟩ := hh
    exact ⟨V, hg.stronger h, fun v hv => ih _ _ _ _ (fun e w hw => ⟨h e w hw.1, hw.2⟩) (hn v (hv.weaken (fun w hw e => h e w (hw e))))⟩

/-- The operations may make blocks, and write these rows into blocks of their own, by types. -/
def newX (B : Nat) (T : List (TypeId × Nat × (Array Value → Prop))) : Ext where
  R w w' := w'.os = w.os ∧ w'.tape = w.tape ∧ w'.output = w.output ∧ w.heap.size ≤ w'.heap.size ∧ (∀ k, k < B → k < w.heap.size → w'.heap[k]? = w.heap[k]?) ∧
    (∀ k x, x ∈ T → (∃ cs, Row w k x.1 cs ∧ x.2.2 cs) → ∃ cs, Row w' k x.1 cs ∧ x.2.2 cs) ∧ (∀ k x, x ∈ T → (∃ cs, Row w k x.1 cs ∧ cs.size = x.2.1) → ∃ cs, Row w' k x.1 cs ∧ cs.size = x.2.1) ∧
    (∀ k t cs, (∀ x ∈ T, x.1 ≠ t) → Row w k t cs → Row w' k t cs)
  refl w := ⟨rfl, rfl, rfl, Nat.le_refl _, fun _ _ _ => rfl, fun _ _ _ h => h, fun _ _ _ h => h, fun _ _ _ _ h => h⟩
  trans := by
    rintro a b c ⟨h1, h2, h3, h4, h5, h6, h7, h8⟩ ⟨k1, k2, k3, k4, k5, k6, k7, k8⟩
    exact ⟨k1.trans h1, k2.trans h2, k3.trans h3, Nat.le_trans h4 k4, fun k hk hx => (k5 k hk (Nat.lt_of_lt_of_le hx h4)).trans (h5 k hk hx), fun k x hx h => k6 k x hx (h6 k x hx h), fun k x hx h => k7 k x hx (h7 k x hx h), fun k t cs hn h => k8 k t cs hn (h8 k t cs hn h)⟩
  of_le := by
    intro a b h
    exact ⟨h.os, h.tape, h.output, h.size, fun k _ hk => h.block k hk, fun k x _ ⟨cs, hr, hs⟩ => ⟨cs, hr.le h, hs⟩, fun k x _ ⟨cs, hr, hs⟩ => ⟨cs, hr.le h, hs⟩, fun k t cs _ hr => hr.le h⟩
theorem newX_le {B : Nat} {T : List (TypeId × Nat × (Array Value → Prop))} {w w' : World} (h : (newX B T).R w w') (hB : w.heap.size = B) : le w w' :=
  ⟨h.1, h.2.1, h.2.2.1, h.2.2.2.1, fun k hk => h.2.2.2.2.1 k (by omega) hk⟩
theorem newX_row {B : Nat} {T : List (TypeId × Nat × (Array Value → Prop))} {w w' : World} (h : (newX B T).R w w') {g : Nat} {t : TypeId} {cs : Array Value} (hr : Row w g t cs) (hg : g < B) : Row w' g t cs := by
  have := h.2.2.2.2.1 g hg hr.lt
  unfold Row at *
  rw [this]; exact hr
/-- Block b is a row of type t, of n cells. -/
def IsRow (b : Nat) (t : TypeId) (n : Nat) (w : World) : Prop := ∃ cs, Row w b t cs ∧ cs.size = n

section
variable {E : Ext} {P : Program} {ops : Array Oper} {W : World} {K : FuncId → Array Value → World → Value → Prop} {Q : Act → World → Prop} {F : Facts} {k : Nat} {o : Oper} {rest : List Oper} {a : Act}
theorem wpFreeD_nil (h : ∀ w, E.R W w → (∀ e, F e w) → Q a w) : wpFreeD E P ops .any W K Q [] k a F := h
theorem wpFreeD_one (hg : o.guard = none) (v : Value) (hr : ∀ w, E.R W w → (execOp a.eval o).run P w = .ok (.value v) w)
    (h : wpFreeD E P ops .any W K Q rest (k + 1) (a.put o.dst v) (F.with k (fun _ => True))) : wpFreeD E P ops .any W K Q (o :: rest) k a F := by
  refine ⟨fun _ u => u = v, ⟨fun _ _ _ _ h => h, .inl ⟨by simp [Region.wanted, hg], fun w hw _ => ?_⟩⟩, fun u hu => ?_⟩
  · rw [hr w hw]; exact ⟨E.refl w, rfl⟩
  · obtain ⟨w, _, _, rfl⟩ := hu
    exact wpFreeD_weaken _ _ _ _ _ (fun e w h => ⟨h.1, fun _ => trivial⟩) h
theorem wpFreeD_call (hg : o.guard = none) {f : FuncId} {xs : Array Operand} {ts : Array TypeId} (hop : o.op = Op.call { callee := Callee.value (Operand.func f), args := xs, argTypes := ts }) {fn : Func} (hf : P.funcs[f]? = some fn)
    (hb : fn.body.isNone = false) (hn : (fn.name == "runtime.NumGoroutine") = false) {args : Array Value} (ha : xs.map a.eval = args) (hm : MonoT E (K f args))
    (h1 : ∀ w, E.R W w → Calls P f args w (fun e w' => ∃ v, e = .returned v ∧ le w w' ∧ K f args w' v)) (h2 : ∀ v, (∃ w, K f args w v) → wpFreeD E P ops .any W K Q rest (k + 1) (a.put o.dst v) (F.with k (fun w => K f args w v))) : wpFreeD E P ops .any W K Q (o :: rest) k a F := by
  refine ⟨K f args, ⟨hm, .inl ⟨by simp [Region.wanted, hg], fun w hw _ => ?_⟩⟩, fun v hv => h2 v (by obtain ⟨w, _, _, h⟩ := hv; exact ⟨w, h⟩)⟩
  rw [run_enter hop hf hb hn ha]
  refine ⟨E.refl w, (h1 w hw).mono ?_, fun _ _ h => h⟩
  rintro e w' ⟨v, rfl, hl, hk⟩
  exact ⟨v, rfl, E.of_le hl, hk⟩
variable {B : Nat} {T : List (TypeId × Nat × (Array Value → Prop))}
theorem wpFreeD_load (hg : o.guard = none) {ty : TypeId} {x : Operand} (hop : o.op = .load ty x) {g : Nat} (hx : a.eval x = .pointer (some ⟨g, 0, none⟩)) {t : TypeId} {cs : Array Value} {d : TypeDesc}
    (hr : Row W g t cs) (hB : g < B) (hu : P.underlying ty = some d) (hd : (match d with | .struct _ | .array _ _ => true | _ => false) = true) {m : Nat} (hi : (P.info? ty).map (·.size) = some m) (hm : cs.size = m)
    (h : wpFreeD (newX B T) P ops .any W K Q rest (k + 1) (a.put o.dst (.agg cs)) (F.with k (fun _ => True))) : wpFreeD (newX B T) P ops .any W K Q (o :: rest) k a F := by
  subst hm
  refine wpFreeD_one hg (.agg cs) (fun w hw => ?_) h
  have := run_loadVar_row (P := P) w g t ty cs (0, 0) _ (newX_row hw hr hB) hu hd hi
  simp [execOp, hop, hx, Instr.loadAt, Instr.sureAddr, this, Result.andThen]
theorem wpFreeD_alloc (hg : o.guard = none) {ty : TypeId} (hop : o.op = .alloc ty) (cs : Array Value)
    (hr : ∀ w, (Instr.alloc ty true (.tuple #[])).run P w = .ok (.pointer (some ⟨w.heap.size, 0, none⟩)) (w.alloc (.cells cs ty))) {n : Nat} {p : Array Value → Prop} (hT : (ty, n, p) ∈ T) (hs : cs.size = n) (hB : W.heap.size = B)
    (h : ∀ b, B ≤ b → wpFreeD (newX B T) P ops .any W K Q rest (k + 1) (a.put o.dst (.pointer (some ⟨b, 0, none⟩))) (F.with k (IsRow b ty n))) : wpFreeD (newX B T) P ops .any W K Q (o :: rest) k a F := by
  refine ⟨fun w v => ∃ b, v = .pointer (some ⟨b, 0, none⟩) ∧ B ≤ b ∧ IsRow b ty n w, ⟨fun v w w' hw hv => ?_, .inl ⟨by simp [Region.wanted, hg], fun w hw _ => ?_⟩⟩, fun v hv => ?_⟩
  · obtain ⟨b, e, h1, h2⟩ := hv; exact ⟨b, e, h1, hw.2.2.2.2.2.2.1 b _ hT h2⟩
  · simp [execOp, hop, hr, Result.andThen, insideT]
    exact ⟨(newX B T).of_le (le_alloc w _), by have := hw.2.2.2.1; omega, cs, Row.new w ty cs, hs⟩
  · obtain ⟨w, _, _, b, rfl, hb, _⟩ := hv
    exact wpFreeD_weaken _ _ _ _ _ (fun e w h => ⟨h.1, fun he => by obtain ⟨b', e', _, h'⟩ := h.2 he; obtain rfl : b = b' := by simpa using e'
                                                                    exact h'⟩) (h b hb)
theorem wpFreeD_store (hg : o.guard = none) {ty : TypeId} {x y : Operand} (hop : o.op = .store ty x y) {b : Nat} (hx : a.eval x = .pointer (some ⟨b, 0, none⟩)) {cells : Array Value} (hy : a.eval y = .agg cells)
    {n : Nat} {p : Array Value → Prop} (hT : (ty, n, p) ∈ T) (hp : p cells) (hd : ∀ x ∈ T, ∀ y ∈ T, x.1 = y.1 → x = y) (hb : B ≤ b) (hpre : ∀ w, behind .any o F w → IsRow b ty n w) (hi : (P.info? ty).map (·.size) = some n) (hm : cells.size = n) (h1 : cells.all (·.oneCell') = true)
    (h : wpFreeD (newX B T) P ops .any W K Q rest (k + 1) (a.put o.dst undef) (F.with k (fun w => ∃ cs, Row w b ty cs ∧ p cs))) : wpFreeD (newX B T) P ops .any W K Q (o :: rest) k a F := by
  subst hm
  refine ⟨fun w v => v = undef ∧ ∃ cs, Row w b ty cs ∧ p cs, ⟨fun v w w' hw hv => ⟨hv.1, hw.2.2.2.2.2.1 b _ hT hv.2⟩, .inl ⟨by simp [Region.wanted, hg], fun w hw hbe => ?_⟩⟩, fun v hv => ?_⟩
  · obtain ⟨cs, hc, hcs⟩ := hpre w hbe
    have hrun := run_storeVar_row (P := P) w b ty ty cs cells hc hi hcs h1
    have : (execOp a.eval o).run P w = .ok .skip (w.setRow b cells) := by
      unfold execOp
      simp only [hop, hx, hy, Instr.storeAt, Instr.sureAddr, Sem.run_bind, Sem.run_pure, Result.andThen_ok, hrun]
    rw [this]
    have hrow : Row (w.setRow b cells) b ty cells := hc.setRow _
    have one : ∀ q t' c', Row w q t' c' → q = b → t' = ty ∧ c' = cs := by
      rintro q t' c' hq rfl
      unfold Row at hq hc
      rw [hc] at hq
      simp only [Option.some.injEq, Obj.cells.injEq] at hq
      exact ⟨hq.2.1.symm, hq.1.symm⟩
    refine ⟨⟨rfl, rfl, rfl, by simp, fun q hq _ => ?_, fun q x' hx' ⟨c', hrx, hsx⟩ => ?_, fun q x' hx' ⟨c', hrx, hsx⟩ => ?_, fun q t' c' hn hrx => ?_⟩, rfl, cells, hrow, hp⟩
    · unfold World.setRow
      rw [Array.getElem?_modify, if_neg (by omega)]
    · by_cases e : q = b
      · have := hd x' hx' _ hT (one _ _ _ hrx e).1
        subst this; subst e; exact ⟨cells, hrow, hp⟩
      · exact ⟨c', hrx.setRow_other e _, hsx⟩
    · by_cases e : q = b
      · have := hd x' hx' _ hT (one _ _ _ hrx e).1
        subst this; subst e; exact ⟨cells, hrow, rfl⟩
      · exact ⟨c', hrx.setRow_other e _, hsx⟩
    · by_cases e : q = b
      · exact absurd (one _ _ _ hrx e).1.symm (hn _ hT)
      · exact hrx.setRow_other e _
  · obtain ⟨w, _, _, rfl, _⟩ := hv
    exact wpFreeD_weaken _ _ _ _ _ (fun e w h => ⟨h.1, fun he => (h.2 he).2⟩) h
end
theorem region_newD {P : Program} (T : List (TypeId × Nat × (Array Value → Prop))) (K : FuncId → Array Value → World → Value → Prop) {id : Nat} {Q : Exit → Act → World → Prop} {a : Act} {w : World} {l : List Oper} (hm : P.follows .mixedOrders = true)
    (hB : (Region.noSelect l.toArray && Region.lexHead .any l.toArray 0 l.length 0 (Array.replicate l.toArray.size false)) = true)
    (h : wpFreeD (newX (w.drewN 1).heap.size T) P l.toArray .any (w.drewN 1) K (fun a' w' => Q .normal a' w') l 0 a noFacts) : (Code.region id l.toArray true).wp P Q a w :=
  region_freeD K hm hB h
end Go.Fk

/- How an argument that is a struct of a slice of floats and an integer is opened. Nothing here names a program. -/
namespace Go.Fk
open Go Go.RowKit Go.ChangeShapes
/-- A slice of n floats as it comes: nil, or cells that lie somewhere. -/
def SlIn (w : World) (v : Value) (x : Nat → Nat) (n : Nat) : Prop :=
  (v = .slice none 0 0 ∧ n = 0) ∨ ∃ (a : Addr) (cap : Nat), v = .slice (some a) n cap ∧ n ≤ cap ∧ cap ≤ maxLen ∧ ∀ i, i < n → w.cell? (a.add i) = some (.float .f32 (x i)) ∧ fits .f32 (x i)
section
variable {H : Type} {enc : TypeId × Value → H} {P : Program} {w : World} {base : Nat} {spare : Nat → Bool} {held : Bool}
theorem trod_fslice {t e : TypeId} {fuel : Nat} {cs : List Value} {x : DataW H × List MemPlace} (ht : P.underlying t = some (.slice e)) (he : P.underlying e = some (.float .f32)) (hc : P.cellsOf e = 1)
    (h : DataW.trod enc P w base spare held fuel t cs = some x) : ∃ v f n, cs = [v] ∧ SlIn w v f n := by
  rcases Go.Deep.open_slice1 ht hc h with ⟨rfl, _⟩ | ⟨a, len, cap, m, n, V, D, Pl, rfl, hb, hl, hm, hmm, _, hx⟩
  · exact ⟨_, fun _ => 0, 0, rfl, .inl ⟨rfl, rfl⟩⟩
  · have hle : len ≤ m := by rw [hmm]; split <;> omega
    refine ⟨_, fun i => match V i with | .float _ b => b | _ => 0, len, rfl, .inr ⟨a, cap, rfl, hl, hm, fun i hi => ?_⟩⟩
    obtain ⟨h1, h2⟩ := hx i (by omega)
    obtain ⟨b, hV, hf⟩ := trod_float_cell he h2
    simp only [hV] at h1 ⊢
    exact ⟨h1, hf⟩
theorem open_ring {r : Reach} {b0 : Nat} {t t0 t1 e : TypeId} {f0 f1 : Field} {v : Value} {d : DataW H} {ps : List MemPlace} (ht : P.underlying t = some (.struct #[f0, f1]))
    (e0 : (f0.type, f0.offset) = (t0, 0)) (e1 : (f1.type, f1.offset) = (t1, 1))
    (h0 : P.underlying t0 = some (.slice e)) (h1 : P.underlying t1 = some (.int .i64)) (he : P.underlying e = some (.float .f32))
    (c0 : P.cellsOf t0 = 1) (c1 : P.cellsOf t1 = 1) (ce : P.cellsOf e = 1) (ct : P.cellsOf t = 2)
    (hval : Value.okWide P w r b0 t v) (hd : DataW.Trod enc P w base spare held t v d ps) :
    ∃ (s : Value) (x : Nat → Nat) (n : Nat) (k : Int), v = .agg #[s, .int .i64 k] ∧ (Lit.int .i64 k).wf = true ∧ SlIn w s x n := by
  simp only [Value.okWide, ht] at hval
  obtain ⟨cs, rfl, hsz, _⟩ := hval
  obtain ⟨fuel, hf⟩ := hd
  simp only [Value.cells] at hf
  obtain ⟨xs, m, _, _, hlen, hl, hi⟩ := DataW.trod_struct ht hf
  simp only [Prod.mk.injEq] at e0 e1
  have g0 := hi 0 f0 rfl
  have g1 := hi 1 f1 rfl
  rw [e0.1, e0.2, c0] at g0
  rw [e1.1, e1.2, c1] at g1
  rw [List.getElem?_eq_getElem (by simp_all)] at g0 g1
  have hlen : cs.toList.length = 2 := hlen.trans ct
  obtain ⟨l⟩ := cs
  simp only at *
  match l, hlen with
  | [v0, v1], _ =>
    simp only [List.drop_zero, List.drop_succ_cons, List.take_succ_cons, List.take_zero] at g0 g1
    obtain ⟨s, f, n, hs, hsl⟩ := trod_fslice h0 he ce g0
    obtain ⟨k, rfl, hk⟩ := trod_int_cell h1 g1
    simp only [List.cons.injEq, and_true] at hs
    subst hs
    exact ⟨_, f, n, k, rfl, hk, hsl⟩
theorem open_fsl {r : Reach} {b0 : Nat} {t e : TypeId} {v : Value} {d : DataW H} {ps : List MemPlace} (ht : P.underlying t = some (.slice e)) (he : P.underlying e = some (.float .f32)) (ce : P.cellsOf e = 1)
    (hval : Value.okWide P w r b0 t v) (hd : DataW.Trod enc P w base spare held t v d ps) : ∃ (s : Value) (x : Nat → Nat) (n : Nat), v = s ∧ SlIn w s x n := by
  obtain ⟨fuel, hf⟩ := hd
  obtain ⟨v', f, n, hc, hsl⟩ := trod_fslice ht he ce hf
  refine ⟨v', f, n, ?_, hsl⟩
  cases v with
  | agg cs => simp [Value.okWide, Cell.okWide, Cell.ok, ht] at hval
  | _ => simpa [Value.cells] using hc
end
end Go.Fk

/- Facts of memory, all in one hypothesis: each speaks of a range of blocks. Slices of floats, up to the bits of NaN. Nothing here names a program. -/
namespace Go.Fk
open Go Go.RowKit

/-- Of what was there, blocks of S alone may have turned. -/
structure Chg (S : Nat → Prop) (w w' : World) : Prop where
  os : w'.os = w.os
  tape : w'.tape = w.tape
  output : w'.output = w.output
  size : w.heap.size ≤ w'.heap.size
  block : ∀ k, k < w.heap.size → ¬ S k → w'.heap[k]? = w.heap[k]?
/-- Blocks from lo to hi. -/
def rng (lo hi : Nat) (k : Nat) : Prop := lo ≤ k ∧ k < hi
namespace Chg
variable {S T : Nat → Prop} {w w' w'' : World}
theorem refl (S : Nat → Prop) (w : World) : Chg S w w := ⟨rfl, rfl, rfl, Nat.le_refl _, fun _ _ _ => rfl⟩
theorem of_le (k : Fk.le w w') : Chg S w w' := ⟨k.os, k.tape, k.output, k.size, fun i hi _ => k.block i hi⟩
theorem trans (h : Chg S w w') (k : Chg S w' w'') : Chg S w w'' :=
  ⟨k.os.trans h.os, k.tape.trans h.tape, k.output.trans h.output, Nat.le_trans h.size k.size, fun i hi hn => (k.block i (Nat.lt_of_lt_of_le hi h.size) hn).trans (h.block i hi hn)⟩
theorem le (h : Chg S w w') (k : Fk.le w' w'') : Chg S w w'' := h.trans (of_le k)
theorem setCell (h : Chg S w w') {a : Addr} (h1 : S a.block) (v : Value) : Chg S w (w'.setCell a v) :=
  ⟨h.os, h.tape, h.output, by simpa using h.size, fun i hi hn => (Below.heap_setCell _ _ _ _ (by intro e; subst e; exact hn h1)).trans (h.block i hi hn)⟩
theorem mono (h : Chg S w w') (hS : ∀ k, S k → T k) : Chg T w w' :=
  ⟨h.os, h.tape, h.output, h.size, fun i hi hn => h.block i hi (fun hs => hn (hS i hs))⟩
theorem below (h : Chg S w w') {B : Nat} (hB : ∀ k, S k → B ≤ k) (hw : B ≤ w.heap.size) : Below B w w' :=
  ⟨h.os, h.tape, h.output, h.size, fun i hi => h.block i (by omega) (fun hs => by have := hB i hs; omega)⟩
theorem row (h : Chg S w w') {g : Nat} {t : TypeId} {cs : Array Value} (hr : Row w g t cs) (hn : ¬ S g) : Row w' g t cs := by
  have := h.block g hr.lt hn
  unfold Row at *; rw [this]; exact hr
theorem wrote (h : Chg S w w') {g : Nat} {t : TypeId} {cs : Array Value} (k : Wrote w' w'' g t cs) (hg : S g) : Chg S w w'' :=
  have kb := k.below 0 w' (Below.refl _ _) (Nat.zero_le _)
  h.trans ⟨kb.os, kb.tape, kb.output, kb.size, fun i _ hn => k.block i (fun e => hn (e ▸ hg))⟩
end Chg

/-- What is known of memory, and the blocks that it speaks of. -/
structure Fact where
  lo : Nat
  hi : Nat
  p : World → Prop
  ok : ∀ w w', p w → (∀ k, lo ≤ k → k < hi → w'.heap[k]? = w.heap[k]?) → p w'

/-- Nothing that 'w0' holds has turned; and these facts, the newest first: each speaks of blocks that are newer than those of the next. -/
structure Frg (w0 w : World) (L : List Fact) : Prop where
  below : le w0 w
  facts : ∀ e ∈ L, w0.heap.size ≤ e.lo ∧ e.hi ≤ w.heap.size ∧ e.p w
  apart : L.Pairwise (fun a b => b.hi ≤ a.lo)

theorem m0 {a : Fact} {l : List Fact} : a ∈ a :: l := List.mem_cons_self
theorem m1 {b0 a : Fact} {l : List Fact} : a ∈ b0 :: a :: l := List.mem_cons_of_mem _ (List.mem_cons_self)
theorem m2 {b0 b1 a : Fact} {l : List Fact} : a ∈ b0 :: b1 :: a :: l := List.mem_cons_of_mem _ (List.mem_cons_of_mem _ (List.mem_cons_self))
theorem m3 {b0 b1 b2 a : Fact} {l : List Fact} : a ∈ b0 :: b1 :: b2 :: a :: l := List.mem_cons_of_mem _ (List.mem_cons_of_mem _ (List.mem_cons_of_mem _ (List.mem_cons_self)))
theorem m4 {b0 b1 b2 b3 a : Fact} {l : List Fact} : a ∈ b0 :: b1 :: b2 :: b3 :: a :: l := List.mem_cons_of_mem _ (List.mem_cons_of_mem _ (List.mem_cons_of_mem _ (List.mem_cons_of_mem _ (List.mem_cons_self))))
theorem m5 {b0 b1 b2 b3 b4 a : Fact} {l : List Fact} : a ∈ b0 :: b1 :: b2 :: b3 :: b4 :: a :: l := List.mem_cons_of_mem _ (List.mem_cons_of_mem _ (List.mem_cons_of_mem _ (List.mem_cons_of_mem _ (List.mem_cons_of_mem _ (List.mem_cons_self)))))
theorem m6 {b0 b1 b2 b3 b4 b5 a : Fact} {l : List Fact} : a ∈ b0 :: b1 :: b2 :: b3 :: b4 :: b5 :: a :: l := List.mem_cons_of_mem _ (List.mem_cons_of_mem _ (List.mem_cons_of_mem _ (List.mem_cons_of_mem _ (List.mem_cons_of_mem _ (List.mem_cons_of_mem _ (List.mem_cons_self))))))
theorem m7 {b0 b1 b2 b3 b4 b5 b6 a : Fact} {l : List Fact} : a ∈ b0 :: b1 :: b2 :: b3 :: b4 :: b5 :: b6 :: a :: l := List.mem_cons_of_mem _ (List.mem_cons_of_mem _ (List.mem_cons_of_mem _ (List.mem_cons_of_mem _ (List.mem_cons_of_mem _ (List.mem_cons_of_mem _ (List.mem_cons_of_mem _ (List.mem_cons_self)))))))
theorem m8 {b0 b1 b2 b3 b4 b5 b6 b7 a : Fact} {l : List Fact} : a ∈ b0 :: b1 :: b2 :: b3 :: b4 :: b5 :: b6 :: b7 :: a :: l := List.mem_cons_of_mem _ (List.mem_cons_of_mem _ (List.mem_cons_of_mem _ (List.mem_cons_of_mem _ (List.mem_cons_of_mem _ (List.mem_cons_of_mem _ (List.mem_cons_of_mem _ (List.mem_cons_of_mem _ (List.mem_cons_self))))))))
theorem m9 {b0 b1 b2 b3 b4 b5 b6 b7 b8 a : Fact} {l : List Fact} : a ∈ b0 :: b1 :: b2 :: b3 :: b4 :: b5 :: b6 :: b7 :: b8 :: a :: l := List.mem_cons_of_mem _ (List.mem_cons_of_mem _ (List.mem_cons_of_mem _ (List.mem_cons_of_mem _ (List.mem_cons_of_mem _ (List.mem_cons_of_mem _ (List.mem_cons_of_mem _ (List.mem_cons_of_mem _ (List.mem_cons_of_mem _ (List.mem_cons_self)))))))))
theorem m10 {b0 b1 b2 b3 b4 b5 b6 b7 b8 b9 a : Fact} {l : List Fact} : a ∈ b0 :: b1 :: b2 :: b3 :: b4 :: b5 :: b6 :: b7 :: b8 :: b9 :: a :: l := List.mem_cons_of_mem _ (List.mem_cons_of_mem _ (List.mem_cons_of_mem _ (List.mem_cons_of_mem _ (List.mem_cons_of_mem _ (List.mem_cons_of_mem _ (List.mem_cons_of_mem _ (List.mem_cons_of_mem _ (List.mem_cons_of_mem _ (List.mem_cons_of_mem _ (List.mem_cons_self))))))))))
theorem m11 {b0 b1 b2 b3 b4 b5 b6 b7 b8 b9 b10 a : Fact} {l : List Fact} : a ∈ b0 :: b1 :: b2 :: b3 :: b4 :: b5 :: b6 :: b7 :: b8 :: b9 :: b10 :: a :: l := List.mem_cons_of_mem _ (List.mem_cons_of_mem _ (List.mem_cons_of_mem _ (List.mem_cons_of_mem _ (List.mem_cons_of_mem _ (List.mem_cons_of_mem _ (List.mem_cons_of_mem _ (List.mem_cons_of_mem _ (List.mem_cons_of_mem _ (List.mem_cons_of_mem _ (List.mem_cons_of_mem _ (List.mem_cons_self)))))))))))
def rowF (g : Nat) (t : TypeId) (cs : Array Value) : Fact := ⟨g, g + 1, fun w => Row w g t cs, fun w w' h hk => by
  unfold Row at *; rw [hk g (Nat.le_refl _) (Nat.lt_succ_self _)]; exact h⟩

/-- A slice of n floats that can be read; its blocks lie below B. -/
def RdS (w : World) (B : Nat) (s : Value) (x : Nat → Nat) (n : Nat) : Prop :=
  (s = .slice none 0 0 ∧ n = 0) ∨ ∃ (a : Addr) (cap : Nat), s = .slice (some a) n cap ∧ n ≤ cap ∧ cap ≤ maxLen ∧ ∀ i, i < n → a.block < B ∧ ∃ y, w.cell? (a.add i) = some (.float .f32 y) ∧ fits .f32 y ∧ can .f32 y = x i
/-- A slice of n floats that one may write, in blocks from lo to hi. -/
def OwnS (w : World) (lo hi : Nat) (s : Value) (x : Nat → Nat) (n : Nat) : Prop :=
  (s = .slice none 0 0 ∧ n = 0) ∨ ∃ (b o cap : Nat) (cs : Array Value), s = .slice (some ⟨b, o, none⟩) n cap ∧ n ≤ cap ∧ cap ≤ maxLen ∧ lo ≤ b ∧ b < hi ∧ Row w b 22 cs ∧ ∀ i, i < n → ∃ y, cs[o + i]? = some (.float .f32 y) ∧ fits .f32 y ∧ can .f32 y = x i

theorem add_block (a : Addr) (i : Nat) : (a.add i).block = a.block := by unfold Addr.add; split <;> rfl
theorem add_none (b o i : Nat) : (⟨b, o, none⟩ : Addr).add i = ⟨b, o + i, none⟩ := by
  unfold Addr.add; split
  · subst_vars; rfl
  · rfl
theorem cell_of_heap {w w' : World} {a : Addr} (h : w'.heap[a.block]? = w.heap[a.block]?) : w'.cell? a = w.cell? a := by simp [World.cell?, h]
def rdF (B : Nat) (s : Value) (x : Nat → Nat) (n : Nat) : Fact := ⟨0, B, fun w => RdS w B s x n, fun w w' h hk => by
  rcases h with h | ⟨a, cap, h1, h2, h3, h5⟩
  · exact .inl h
  · exact .inr ⟨a, cap, h1, h2, h3, fun i hi => by
      obtain ⟨h4, y, e1, e2⟩ := h5 i hi
      exact ⟨h4, y, (cell_of_heap (a := a.add i) (by rw [add_block]; exact hk a.block (Nat.zero_le _) h4)).trans e1, e2⟩⟩⟩
def ownF (lo hi : Nat) (s : Value) (x : Nat → Nat) (n : Nat) : Fact := ⟨lo, hi, fun w => OwnS w lo hi s x n, fun w w' h hk => by
  rcases h with h | ⟨b, o, cap, cs, h1, h2, h3, h4, h5, h6, h7⟩
  · exact .inl h
  · exact .inr ⟨b, o, cap, cs, h1, h2, h3, h4, h5, by unfold Row at *; rw [hk b h4 h5]; exact h6, h7⟩⟩
theorem OwnS.rd {w : World} {lo hi : Nat} {s : Value} {x : Nat → Nat} {n : Nat} (h : OwnS w lo hi s x n) : RdS w hi s x n := by
  rcases h with h | ⟨b, o, cap, cs, h1, h2, h3, h4, h5, h6, h7⟩
  · exact .inl h
  · exact .inr ⟨_, cap, h1, h2, h3, fun i hi => by
      obtain ⟨y, e1, e2⟩ := h7 i hi
      exact ⟨h5, y, by rw [add_none]; exact (h6.cell? (o + i)).trans e1, e2⟩⟩
theorem RdS.mono {w : World} {B B' : Nat} {s : Value} {x : Nat → Nat} {n : Nat} (h : RdS w B s x n) (hB : B ≤ B') : RdS w B' s x n := by
  rcases h with h | ⟨a, cap, h1, h2, h3, h5⟩
  · exact .inl h
  · exact .inr ⟨a, cap, h1, h2, h3, fun i hi => ⟨Nat.lt_of_lt_of_le (h5 i hi).1 hB, (h5 i hi).2⟩⟩
theorem OwnS.mono {w : World} {lo hi lo' hi' : Nat} {s : Value} {x : Nat → Nat} {n : Nat} (h : OwnS w lo hi s x n) (h1 : lo' ≤ lo) (h2 : hi ≤ hi') : OwnS w lo' hi' s x n := by
  rcases h with h | ⟨b, o, cap, cs, e1, e2, e3, e4, e5, e6, e7⟩
  · exact .inl h
  · exact .inr ⟨b, o, cap, cs, e1, e2, e3, by omega, by omega, e6, e7⟩
theorem RdS.congr {w : World} {B : Nat} {s : Value} {x x' : Nat → Nat} {n : Nat} (h : RdS w B s x n) (hx : ∀ i, i < n → x i = x' i) : RdS w B s x' n := by
  rcases h with h | ⟨a, cap, h1, h2, h3, h5⟩
  · exact .inl h
  · exact .inr ⟨a, cap, h1, h2, h3, fun i hi => by obtain ⟨h4, y, e1, e2, e3⟩ := h5 i hi; exact ⟨h4, y, e1, e2, e3.trans (hx i hi)⟩⟩
theorem OwnS.congr {w : World} {lo hi : Nat} {s : Value} {x x' : Nat → Nat} {n : Nat} (h : OwnS w lo hi s x n) (hx : ∀ i, i < n → x i = x' i) : OwnS w lo hi s x' n := by
  rcases h with h | ⟨b, o, cap, cs, h1, h2, h3, h4, h5, h6, h7⟩
  · exact .inl h
  · exact .inr ⟨b, o, cap, cs, h1, h2, h3, h4, h5, h6, fun i hi => by obtain ⟨y, e1, e2, e3⟩ := h7 i hi; exact ⟨y, e1, e2, e3.trans (hx i hi)⟩⟩
theorem RdS.le {w w' : World} {B : Nat} {s : Value} {x : Nat → Nat} {n : Nat} (h : RdS w B s x n) (hl : Fk.le w w') : RdS w' B s x n := by
  rcases h with h | ⟨a, cap, h1, h2, h3, h5⟩
  · exact .inl h
  · exact .inr ⟨a, cap, h1, h2, h3, fun i hi => by
      obtain ⟨h4, y, e1, e2⟩ := h5 i hi
      have hlt : (a.add i).block < w.heap.size := by
        apply Nat.lt_of_not_le
        intro hle
        have : w.heap[(a.add i).block]? = none := Array.getElem?_eq_none hle
        simp [World.cell?, this] at e1
      exact ⟨h4, y, (Below.cell hl hlt).trans e1, e2⟩⟩
theorem OwnS.le {w w' : World} {lo hi : Nat} {s : Value} {x : Nat → Nat} {n : Nat} (h : OwnS w lo hi s x n) (hl : Fk.le w w') : OwnS w' lo hi s x n := by
  rcases h with h | ⟨b, o, cap, cs, h1, h2, h3, h4, h5, h6, h7⟩
  · exact .inl h
  · exact .inr ⟨b, o, cap, cs, h1, h2, h3, h4, h5, h6.le hl, h7⟩
theorem RdS.small {w : World} {B : Nat} {s : Value} {x : Nat → Nat} {n : Nat} (h : RdS w B s x n) : n ≤ 9223372036854775807 := by
  rcases h with ⟨_, rfl⟩ | ⟨a, cap, h1, h2, h3, _⟩
  · omega
  · unfold maxLen at h3; omega
theorem SlIn.rd {w : World} {s : Value} {x : Nat → Nat} {n : Nat} (h : SlIn w s x n) : RdS w w.heap.size s (fun i => can .f32 (x i)) n := by
  rcases h with h | ⟨a, cap, h1, h2, h3, h4⟩
  · exact .inl h
  · exact .inr ⟨a, cap, h1, h2, h3, fun i hi => by
      obtain ⟨e1, e2⟩ := h4 i hi
      refine ⟨?_, _, e1, e2, rfl⟩
      show a.block < _
      rw [← add_block a i]
      apply Nat.lt_of_not_le
      intro hle
      have : w.heap[(a.add i).block]? = none := Array.getElem?_eq_none hle
      simp [World.cell?, this] at e1⟩

theorem OwnS.one {w : World} {lo hi : Nat} {s : Value} {x : Nat → Nat} {n : Nat} (h : OwnS w lo hi s x n) : s.oneCell' = true := by
  rcases h with ⟨rfl, _⟩ | ⟨b, o, cap, cs, rfl, _⟩ <;> rfl
theorem RdS.one {w : World} {B : Nat} {s : Value} {x : Nat → Nat} {n : Nat} (h : RdS w B s x n) : s.oneCell' = true := by
  rcases h with ⟨rfl, _⟩ | ⟨a, cap, rfl, _⟩ <;> rfl
theorem one_head {s : Value} {l : List Value} (h : s.oneCell' = true) (hl : l.all (·.oneCell') = true) : (s :: l).toArray.all (·.oneCell') = true := by
  simp only [List.all_toArray', List.all_cons, h, hl, Bool.and_self]
namespace Frg
variable {w0 w w' : World} {L : List Fact}
theorem nil (w : World) : Frg w w [] := ⟨le_refl w, by simp, .nil⟩
theorem le (h : Frg w0 w L) (k : Below w.heap.size w w') : Frg w0 w' L := ⟨le_trans h.below k, fun e he => by
  obtain ⟨h0, h1, h2⟩ := h.facts e he
  exact ⟨h0, Nat.le_trans h1 k.size, e.ok w w' h2 (fun i _ hi => k.block i (by omega))⟩, h.apart⟩
theorem drewN (h : Frg w0 w L) (n : Nat) : Frg w0 (w.drewN n) L := h.le (le_drewN w n)
theorem alloc (h : Frg w0 w L) (o : Obj) : Frg w0 (w.alloc o) L := h.le (le_alloc w o)
/-- A new fact, of blocks that are newer than all that was there. -/
theorem push (h : Frg w0 w L) (k : Below w.heap.size w w') {e : Fact} (he : e.p w') (hl : w.heap.size ≤ e.lo) (hh : e.hi ≤ w'.heap.size) : Frg w0 w' (e :: L) := by
  refine ⟨(h.le k).below, fun x hx => ?_, .cons (fun x hx => Nat.le_trans (h.facts x hx).2.1 hl) h.apart⟩
  rcases List.mem_cons.1 hx with rfl | hx
  · exact ⟨Nat.le_trans h.below.size hl, hh, he⟩
  · exact (h.le k).facts x hx
theorem box (h : Frg w0 w L) (t : TypeId) (cs : Array Value) : Frg w0 (w.alloc (.cells cs t)) (rowF w.heap.size t cs :: L) :=
  h.push (le_alloc w _) (Row.new w t cs) (Nat.le_refl _) (by simp [rowF])
theorem own1 (h : Frg w0 w L) (k : Below w.heap.size w w') {s : Value} {x : Nat → Nat} {n : Nat} (he : OwnS w' w.heap.size w'.heap.size s x n) : Frg w0 w' (ownF w.heap.size w'.heap.size s x n :: L) :=
  h.push k he (Nat.le_refl _) (Nat.le_refl _)
theorem row (h : Frg w0 w L) {g : Nat} {t : TypeId} {cs : Array Value} (hm : rowF g t cs ∈ L) : Row w g t cs := (h.facts _ hm).2.2
theorem own (h : Frg w0 w L) {lo hi : Nat} {s : Value} {x : Nat → Nat} {n : Nat} (hm : ownF lo hi s x n ∈ L) : OwnS w lo hi s x n := (h.facts _ hm).2.2
theorem size (h : Frg w0 w L) : w0.heap.size ≤ w.heap.size := h.below.size
theorem sub {L' : List Fact} (h : Frg w0 w L) (hs : L'.Sublist L) : Frg w0 w L' := ⟨h.below, fun x hx => h.facts x (hs.mem hx), h.apart.sublist hs⟩
/-- One fact's blocks are written: all other facts stand. -/
theorem chg (pre : List Fact) {post : List Fact} {e e' : Fact} (h : Frg w0 w (pre ++ e :: post)) (k : Chg (rng e.lo e.hi) w w') (hp : e'.p w') (h1 : e'.lo = e.lo) (h2 : e'.hi = e.hi) : Frg w0 w' (pre ++ e' :: post) := by
  have he := h.facts e (by simp)
  have hap := List.pairwise_append.1 h.apart
  have hap2 := List.pairwise_cons.1 hap.2.1
  refine ⟨h.below.trans (k.below (fun i hi => Nat.le_trans he.1 hi.1) h.size), fun x hx => ?_, ?_⟩
  · rcases List.mem_append.1 hx with hx | hx
    · have hx' := h.facts x (List.mem_append_left _ hx)
      have ha := hap.2.2 x hx e (by simp)
      exact ⟨hx'.1, Nat.le_trans hx'.2.1 k.size, x.ok w w' hx'.2.2 (fun i a b => k.block i (by omega) (fun c => by have := c.2; omega))⟩
    · rcases List.mem_cons.1 hx with rfl | hx
      · exact ⟨by rw [h1]; exact he.1, by rw [h2]; exact Nat.le_trans he.2.1 k.size, hp⟩
      · have hx' := h.facts x (List.mem_append_right _ (List.mem_cons_of_mem _ hx))
        have ha := hap2.1 x hx
        exact ⟨hx'.1, Nat.le_trans hx'.2.1 k.size, x.ok w w' hx'.2.2 (fun i a b => k.block i (by omega) (fun c => by have := c.1; omega))⟩
  · refine List.pairwise_append.2 ⟨hap.1, List.pairwise_cons.2 ⟨fun x hx => ?_, hap2.2⟩, fun x hx y hy => ?_⟩
    · show x.hi ≤ e'.lo; rw [h1]; exact hap2.1 x hx
    · rcases List.mem_cons.1 hy with rfl | hy
      · show y.hi ≤ x.lo; rw [h2]; exact hap.2.2 x hx e (by simp)
      · exact hap.2.2 x hx y (List.mem_cons_of_mem _ hy)
/-- A row is written. -/
theorem wrote (pre : List Fact) {post : List Fact} {g : Nat} {t : TypeId} {cs cs' : Array Value} (h : Frg w0 w (pre ++ rowF g t cs :: post)) (k : Wrote w w' g t cs') : Frg w0 w' (pre ++ rowF g t cs' :: post) :=
  chg pre (e := rowF g t cs) (e' := rowF g t cs') h ((Chg.refl (rng g (g + 1)) w).wrote k ⟨Nat.le_refl _, Nat.lt_succ_self _⟩) k.row rfl rfl
theorem setC (pre : List Fact) {post : List Fact} {g : Nat} {t : TypeId} {cs : Array Value} (h : Frg w0 w (pre ++ rowF g t cs :: post)) (i : Nat) (v : Value) : Frg w0 (w.setCell ⟨g, i, none⟩ v) (pre ++ rowF g t (cs.setIfInBounds i v) :: post) :=
  chg pre (e := rowF g t cs) (e' := rowF g t (cs.setIfInBounds i v)) h ((Chg.refl (rng g (g + 1)) w).setCell ⟨Nat.le_refl _, Nat.lt_succ_self _⟩ v) ((h.row (by simp)).set i v) rfl rfl
theorem wr0 {post : List Fact} {g : Nat} {t : TypeId} {cs cs' : Array Value} (h : Frg w0 w (rowF g t cs :: post)) (k : Wrote w w' g t cs') : Frg w0 w' (rowF g t cs' :: post) := wrote [] h k
theorem wr1 {b0 : Fact} {post : List Fact} {g : Nat} {t : TypeId} {cs cs' : Array Value} (h : Frg w0 w (b0 :: rowF g t cs :: post)) (k : Wrote w w' g t cs') : Frg w0 w' (b0 :: rowF g t cs' :: post) := wrote [b0] h k
theorem wr2 {b0 b1 : Fact} {post : List Fact} {g : Nat} {t : TypeId} {cs cs' : Array Value} (h : Frg w0 w (b0 :: b1 :: rowF g t cs :: post)) (k : Wrote w w' g t cs') : Frg w0 w' (b0 :: b1 :: rowF g t cs' :: post) := wrote [b0, b1] h k
theorem wr3 {b0 b1 b2 : Fact} {post : List Fact} {g : Nat} {t : TypeId} {cs cs' : Array Value} (h : Frg w0 w (b0 :: b1 :: b2 :: rowF g t cs :: post)) (k : Wrote w w' g t cs') : Frg w0 w' (b0 :: b1 :: b2 :: rowF g t cs' :: post) := wrote [b0, b1, b2] h k
theorem set0 {post : List Fact} {g : Nat} {t : TypeId} {cs : Array Value} (h : Frg w0 w (rowF g t cs :: post)) (i : Nat) (v : Value) : Frg w0 (w.setCell ⟨g, i, none⟩ v) (rowF g t (cs.setIfInBounds i v) :: post) := setC [] h i v
theorem set1 {b0 : Fact} {post : List Fact} {g : Nat} {t : TypeId} {cs : Array Value} (h : Frg w0 w (b0 :: rowF g t cs :: post)) (i : Nat) (v : Value) : Frg w0 (w.setCell ⟨g, i, none⟩ v) (b0 :: rowF g t (cs.setIfInBounds i v) :: post) := setC [b0] h i v
theorem set2 {b0 b1 : Fact} {post : List Fact} {g : Nat} {t : TypeId} {cs : Array Value} (h : Frg w0 w (b0 :: b1 :: rowF g t cs :: post)) (i : Nat) (v : Value) : Frg w0 (w.setCell ⟨g, i, none⟩ v) (b0 :: b1 :: rowF g t (cs.setIfInBounds i v) :: post) := setC [b0, b1] h i v
theorem mark0 {lo hi n : Nat} {s : Value} {x x' : Nat → Nat} {l : List Fact} (h : Frg w0 w (ownF lo hi s x n :: l)) (hp : OwnS w' lo hi s x' n) (k : Chg (rng lo hi) w w') : Frg w0 w' (ownF lo hi s x' n :: l) :=
  chg [] (e := ownF lo hi s x n) (e' := ownF lo hi s x' n) h k hp rfl rfl
theorem mark1 {lo hi n : Nat} {s : Value} {x x' : Nat → Nat} {l : List Fact} {b0 : Fact} (h : Frg w0 w (b0 :: ownF lo hi s x n :: l)) (hp : OwnS w' lo hi s x' n) (k : Chg (rng lo hi) w w') : Frg w0 w' (b0 :: ownF lo hi s x' n :: l) :=
  chg [b0] (e := ownF lo hi s x n) (e' := ownF lo hi s x' n) h k hp rfl rfl
theorem mark2 {lo hi n : Nat} {s : Value} {x x' : Nat → Nat} {l : List Fact} {b0 b1 : Fact} (h : Frg w0 w (b0 :: b1 :: ownF lo hi s x n :: l)) (hp : OwnS w' lo hi s x' n) (k : Chg (rng lo hi) w w') : Frg w0 w' (b0 :: b1 :: ownF lo hi s x' n :: l) :=
  chg [b0, b1] (e := ownF lo hi s x n) (e' := ownF lo hi s x' n) h k hp rfl rfl
theorem mark3 {lo hi n : Nat} {s : Value} {x x' : Nat → Nat} {l : List Fact} {b0 b1 b2 : Fact} (h : Frg w0 w (b0 :: b1 :: b2 :: ownF lo hi s x n :: l)) (hp : OwnS w' lo hi s x' n) (k : Chg (rng lo hi) w w') : Frg w0 w' (b0 :: b1 :: b2 :: ownF lo hi s x' n :: l) :=
  chg [b0, b1, b2] (e := ownF lo hi s x n) (e' := ownF lo hi s x' n) h k hp rfl rfl
theorem mark4 {lo hi n : Nat} {s : Value} {x x' : Nat → Nat} {l : List Fact} {b0 b1 b2 b3 : Fact} (h : Frg w0 w (b0 :: b1 :: b2 :: b3 :: ownF lo hi s x n :: l)) (hp : OwnS w' lo hi s x' n) (k : Chg (rng lo hi) w w') : Frg w0 w' (b0 :: b1 :: b2 :: b3 :: ownF lo hi s x' n :: l) :=
  chg [b0, b1, b2, b3] (e := ownF lo hi s x n) (e' := ownF lo hi s x' n) h k hp rfl rfl
theorem mark5 {lo hi n : Nat} {s : Value} {x x' : Nat → Nat} {l : List Fact} {b0 b1 b2 b3 b4 : Fact} (h : Frg w0 w (b0 :: b1 :: b2 :: b3 :: b4 :: ownF lo hi s x n :: l)) (hp : OwnS w' lo hi s x' n) (k : Chg (rng lo hi) w w') : Frg w0 w' (b0 :: b1 :: b2 :: b3 :: b4 :: ownF lo hi s x' n :: l) :=
  chg [b0, b1, b2, b3, b4] (e := ownF lo hi s x n) (e' := ownF lo hi s x' n) h k hp rfl rfl
theorem mark6 {lo hi n : Nat} {s : Value} {x x' : Nat → Nat} {l : List Fact} {b0 b1 b2 b3 b4 b5 : Fact} (h : Frg w0 w (b0 :: b1 :: b2 :: b3 :: b4 :: b5 :: ownF lo hi s x n :: l)) (hp : OwnS w' lo hi s x' n) (k : Chg (rng lo hi) w w') : Frg w0 w' (b0 :: b1 :: b2 :: b3 :: b4 :: b5 :: ownF lo hi s x' n :: l) :=
  chg [b0, b1, b2, b3, b4, b5] (e := ownF lo hi s x n) (e' := ownF lo hi s x' n) h k hp rfl rfl
theorem mark7 {lo hi n : Nat} {s : Value} {x x' : Nat → Nat} {l : List Fact} {b0 b1 b2 b3 b4 b5 b6 : Fact} (h : Frg w0 w (b0 :: b1 :: b2 :: b3 :: b4 :: b5 :: b6 :: ownF lo hi s x n :: l)) (hp : OwnS w' lo hi s x' n) (k : Chg (rng lo hi) w w') : Frg w0 w' (b0 :: b1 :: b2 :: b3 :: b4 :: b5 :: b6 :: ownF lo hi s x' n :: l) :=
  chg [b0, b1, b2, b3, b4, b5, b6] (e := ownF lo hi s x n) (e' := ownF lo hi s x' n) h k hp rfl rfl
theorem mark8 {lo hi n : Nat} {s : Value} {x x' : Nat → Nat} {l : List Fact} {b0 b1 b2 b3 b4 b5 b6 b7 : Fact} (h : Frg w0 w (b0 :: b1 :: b2 :: b3 :: b4 :: b5 :: b6 :: b7 :: ownF lo hi s x n :: l)) (hp : OwnS w' lo hi s x' n) (k : Chg (rng lo hi) w w') : Frg w0 w' (b0 :: b1 :: b2 :: b3 :: b4 :: b5 :: b6 :: b7 :: ownF lo hi s x' n :: l) :=
  chg [b0, b1, b2, b3, b4, b5, b6, b7] (e := ownF lo hi s x n) (e' := ownF lo hi s x' n) h k hp rfl rfl
theorem mark9 {lo hi n : Nat} {s : Value} {x x' : Nat → Nat} {l : List Fact} {b0 b1 b2 b3 b4 b5 b6 b7 b8 : Fact} (h : Frg w0 w (b0 :: b1 :: b2 :: b3 :: b4 :: b5 :: b6 :: b7 :: b8 :: ownF lo hi s x n :: l)) (hp : OwnS w' lo hi s x' n) (k : Chg (rng lo hi) w w') : Frg w0 w' (b0 :: b1 :: b2 :: b3 :: b4 :: b5 :: b6 :: b7 :: b8 :: ownF lo hi s x' n :: l) :=
  chg [b0, b1, b2, b3, b4, b5, b6, b7, b8] (e := ownF lo hi s x n) (e' := ownF lo hi s x' n) h k hp rfl rfl
end Frg

section
variable {P : Program} {w : World} {ops : Array Oper} {rest : List Oper} {o : Oper} {a : Act} {Q : Exit → Act → World → Prop}
theorem wpList_loadG {w0 : World} {L : List Fact} (hF : Frg w0 w L) (hg : o.guard = none) {ty : TypeId} {x : Operand} (hop : o.op = .load ty x) {g : Nat} (hx : a.eval x = .pointer (some ⟨g, 0, none⟩)) {t : TypeId} {cs : Array Value} {d : TypeDesc}
    (hm : rowF g t cs ∈ L) (hu : P.underlying ty = some d) (hd : (match d with | .struct _ | .array _ _ => true | _ => false) = true) {n : Nat} (hi : (P.info? ty).map (·.size) = some n) (hn : cs.size = n)
    (h : wpList P ops Q rest (a.put o.dst (.agg cs)) w) : wpList P ops Q (o :: rest) a w :=
  wpList_loadD hg hop hx (hF.row hm) hu hd (hn ▸ hi) h
theorem wpList_loadGG {w0 : World} {L : List Fact} (hF : Frg w0 w L) {ty : TypeId} {x : Operand} (hop : o.op = .load ty x) {g : Nat} (hx : a.eval x = .pointer (some ⟨g, 0, none⟩)) {t : TypeId} {cs : Array Value} {d : TypeDesc}
    (hm : rowF g t cs ∈ L) (hu : P.underlying ty = some d) (hd : (match d with | .struct _ | .array _ _ => true | _ => false) = true) {n : Nat} (hi : (P.info? ty).map (·.size) = some n) (hn : cs.size = n) (hw : Region.wanted o (yielded ops a.tmps) = true)
    (h : wpList P ops Q rest (a.put o.dst (.agg cs)) w) : wpList P ops Q (o :: rest) a w :=
  wpList_step fun K hK => by
    simp only [hw, if_true]
    exact wp_load_row ty x hop g hx t cs (0, 0) d (hF.row hm) hu hd (hn ▸ hi) (hK _ _ h)
/-- A part of a block is loaded. -/
theorem wpList_loadGP {w0 : World} {L : List Fact} (hF : Frg w0 w L) (hg : o.guard = none) {ty : TypeId} {x : Operand} (hop : o.op = .load ty x) {g f : Nat} (hx : a.eval x = .pointer (some ⟨g, f, none⟩)) {t : TypeId} {cs : Array Value} {d : TypeDesc}
    (hm : rowF g t cs ∈ L) (hu : P.underlying ty = some d) (hd : d.isRow = true) (ds : List Value) (hc : ∀ j, j < ds.length → cs[f + j]? = ds[j]?) {n : Nat} (hi : (P.info? ty).map (·.size) = some n) (hn : ds.length = n)
    (h : wpList P ops Q rest (a.put o.dst (.agg ds.toArray)) w) : wpList P ops Q (o :: rest) a w :=
  wpList_loadP hg hop hx (hF.row hm) hu hd ds hc (hn ▸ hi) h
theorem wpList_loadDR {g : Nat} {t : TypeId} {cs : Array Value} (hr : Row w g t cs) (hg : o.guard = none) {ty : TypeId} {x : Operand} (hop : o.op = .load ty x) (hx : a.eval x = .pointer (some ⟨g, 0, none⟩)) {d : TypeDesc}
    (hu : P.underlying ty = some d) (hd : (match d with | .struct _ | .array _ _ => true | _ => false) = true) {n : Nat} (hi : (P.info? ty).map (·.size) = some n) (hn : cs.size = n)
    (h : wpList P ops Q rest (a.put o.dst (.agg cs)) w) : wpList P ops Q (o :: rest) a w :=
  wpList_loadD hg hop hx hr hu hd (hn ▸ hi) h
theorem wpList_loadPR {g f : Nat} {t : TypeId} {cs : Array Value} (hr : Row w g t cs) (hg : o.guard = none) {ty : TypeId} {x : Operand} (hop : o.op = .load ty x) (hx : a.eval x = .pointer (some ⟨g, f, none⟩)) {d : TypeDesc}
    (hu : P.underlying ty = some d) (hd : d.isRow = true) (ds : List Value) (hc : ∀ j, j < ds.length → cs[f + j]? = ds[j]?) {n : Nat} (hi : (P.info? ty).map (·.size) = some n) (hn : ds.length = n)
    (h : wpList P ops Q rest (a.put o.dst (.agg ds.toArray)) w) : wpList P ops Q (o :: rest) a w :=
  wpList_loadP hg hop hx hr hu hd ds hc (hn ▸ hi) h
/-- A part of a block is loaded, by a guarded operation. -/
theorem wpList_loadGPG {w0 : World} {L : List Fact} (hF : Frg w0 w L) {ty : TypeId} {x : Operand} (hop : o.op = .load ty x) {g f : Nat} (hx : a.eval x = .pointer (some ⟨g, f, none⟩)) {t : TypeId} {cs : Array Value} {d : TypeDesc}
    (hm : rowF g t cs ∈ L) (hu : P.underlying ty = some d) (hd : d.isRow = true) (ds : List Value) (hc : ∀ j, j < ds.length → cs[f + j]? = ds[j]?) {n : Nat} (hi : (P.info? ty).map (·.size) = some n) (hn : ds.length = n) (hw : Region.wanted o (yielded ops a.tmps) = true)
    (h : wpList P ops Q rest (a.put o.dst (.agg ds.toArray)) w) : wpList P ops Q (o :: rest) a w :=
  wpList_step fun K hK => by
    simp only [hw, if_true]
    exact wp_load_mid ty x hop g f hx ds d (fun j v hv => by rw [(hF.row hm).cell?, hc j (List.getElem?_eq_some_iff.1 hv).1, hv]) hu hd (hn ▸ hi) (hK _ _ h)
/-- A fresh block is written whole. -/
theorem wpList_storeG {w0 w1 : World} {L : List Fact} {t : TypeId} {old : Array Value} (hF : Frg w0 w1 L) (hw : w = w1.alloc (.cells old t)) (hg : o.guard = none) {ty : TypeId} {x y : Operand} (hop : o.op = .store ty x y) (hx : a.eval x = .pointer (some ⟨w1.heap.size, 0, none⟩)) {cells : Array Value} (hy : a.eval y = .agg cells)
    (hi : (P.info? ty).map (·.size) = some cells.size) (ho : old.size = cells.size) (h1 : cells.all (·.oneCell') = true)
    (h : ∀ w', Frg w0 w' (rowF w1.heap.size t cells :: L) → w'.heap.size = w1.heap.size + 1 → wpList P ops Q rest (a.put o.dst undef) w') : wpList P ops Q (o :: rest) a w :=
  wpList_storeN hw hg hop hx hy hi ho h1 (fun w' hr hl hz => h w' (hF.push hl hr (Nat.le_refl _) (by have := hr.lt; simp only [rowF]; omega)) hz)
end

theorem wpAt0 {P : Program} {c : Code} {Q : Exit → Act → World → Prop} {a : Act} {w0 w : World} {L : List Fact} (F : Frg w0 w L) (h : ∀ w', Frg w0 w' L → c.wp P Q a w') : c.wp P Q a w := h _ F
theorem wpAtN {P : Program} {c : Code} {Q : Exit → Act → World → Prop} {a : Act} {w0 w : World} {L : List Fact} {n : Nat} (F : Frg w0 w L) (h : ∀ w', Frg w0 w' L → c.wp P Q a w') : c.wp P Q a (w.drewN n) := h _ (F.drewN n)
theorem callAt0 {P : Program} {f : FuncId} {args : Array Value} {R : Ending → World → Prop} {w0 w : World} {L : List Fact} (F : Frg w0 w L) (h : ∀ w', Frg w0 w' L → Calls P f args w' R) : Calls P f args w R := h _ F
theorem callAtN {P : Program} {f : FuncId} {args : Array Value} {R : Ending → World → Prop} {w0 w : World} {L : List Fact} {n : Nat} (F : Frg w0 w L) (h : ∀ w', Frg w0 w' L → Calls P f args w' R) : Calls P f args (w.drewN n) R := h _ (F.drewN n)
section
variable {P : Program} {w0 w : World} {L : List Fact} {n : Nat} {ops : Array Oper} {rest : List Oper} {o : Oper} {a : Act} {Q : Exit → Act → World → Prop}
/-- The world behind draws under a name. -/
theorem listN (F : Frg w0 w L) (h : ∀ w', Frg w0 w' L → wpList P ops Q rest a w') : wpList P ops Q rest a (w.drewN n) := h _ (F.drewN n)
theorem at_loadU {ty : TypeId} {x : Operand} (_ : o.guard = none) (_ : o.op = .load ty x) (h : wpList P ops Q (o :: rest) a w) : wpList P ops Q (o :: rest) a w := h
theorem at_loadV {ty : TypeId} {x : Operand} {g : Tmp × Bool} (_ : o.guard = some g) (_ : o.op = .load ty x) (h : wpList P ops Q (o :: rest) a w) : wpList P ops Q (o :: rest) a w := h
theorem at_store {ty : TypeId} {x y : Operand} (_ : o.op = .store ty x y) (h : wpList P ops Q (o :: rest) a w) : wpList P ops Q (o :: rest) a w := h
end
/-- Nothing turns. -/
def leX : Ext := ⟨le, le_refl, le_trans, id⟩
section
variable {E : Ext} {P : Program} {ops : Array Oper} {W : World} {K : FuncId → Array Value → World → Value → Prop} {Q : Act → World → Prop} {F : Facts} {k : Nat} {o : Oper} {rest : List Oper} {a : Act}
/-- A call that leans on what is known of the operations that it comes behind. -/
theorem wpFreeD_callB (hg : o.guard = none) {f : FuncId} {xs : Array Operand} {ts : Array TypeId} (hop : o.op = Op.call { callee := Callee.value (Operand.func f), args := xs, argTypes := ts }) {fn : Func} (hf : P.funcs[f]? = some fn)
    (hb : fn.body.isNone = false) (hn : (fn.name == "runtime.NumGoroutine") = false) {args : Array Value} (ha : xs.map a.eval = args) (hm : MonoT E (K f args))
    (h1 : ∀ w, E.R W w → behind .any o F w → Calls P f args w (fun e w' => ∃ v, e = .returned v ∧ le w w' ∧ K f args w' v)) (h2 : ∀ v, (∃ w, E.R W w ∧ (∀ e, F e w) ∧ K f args w v) → wpFreeD E P ops .any W K Q rest (k + 1) (a.put o.dst v) (F.with k (fun w => K f args w v))) : wpFreeD E P ops .any W K Q (o :: rest) k a F := by
  refine ⟨K f args, ⟨hm, .inl ⟨by simp [Region.wanted, hg], fun w hw hbe => ?_⟩⟩, fun v hv => h2 v hv⟩
  rw [run_enter hop hf hb hn ha]
  refine ⟨E.refl w, (h1 w hw hbe).mono ?_, fun _ _ h => h⟩
  rintro e w' ⟨v, rfl, hl, hk⟩
  exact ⟨v, rfl, E.of_le hl, hk⟩
theorem wpFreeD_loadG {w0 w1 : World} {L : List Fact} {n : Nat} (hF : Frg w0 w1 L) (hW : W = w1.drewN n) (hg : o.guard = none) {ty : TypeId} {x : Operand} (hop : o.op = .load ty x) {g : Nat} (hx : a.eval x = .pointer (some ⟨g, 0, none⟩)) {t : TypeId} {cs : Array Value} {d : TypeDesc}
    (hm : rowF g t cs ∈ L) (hu : P.underlying ty = some d) (hd : (match d with | .struct _ | .array _ _ => true | _ => false) = true) {m : Nat} (hi : (P.info? ty).map (·.size) = some m) (hs : cs.size = m)
    (h : wpFreeD leX P ops .any W K Q rest (k + 1) (a.put o.dst (.agg cs)) (F.with k (fun _ => True))) : wpFreeD leX P ops .any W K Q (o :: rest) k a F := by
  subst hW hs
  refine wpFreeD_one hg (.agg cs) (fun w hw => ?_) h
  have := run_loadVar_row (P := P) w g t ty cs (0, 0) _ (((hF.row hm).drewN n).le hw) hu hd hi
  simp [execOp, hop, hx, Instr.loadAt, Instr.sureAddr, this, Result.andThen]
end
end Go.Fk

/- What functions give, by their results' kinds. Nothing here names a program. -/
namespace Go.Fk
open Go Go.RowKit
def Out_b (ar0 : Bool) (w : World) (e : Ending) (w' : World) : Prop := e = .returned (.bool ar0) ∧ le w w'
def Out_rfi (xr0 : Nat → Nat) (nr0 : Nat) (kr0 : Int) (ar1 : Nat) (ar2 : Int) (w : World) (e : Ending) (w' : World) : Prop := ∃ (v0 : Value) (v1 : Nat), e = .returned (.tuple #[.agg #[v0, .int .i64 kr0], .float .f32 v1, .int .i64 ar2]) ∧ OwnS w' w.heap.size w'.heap.size v0 xr0 nr0 ∧ can .f32 v1 = ar1 ∧ le w w'
def Out_fi (ar0 : Nat) (ar1 : Int) (w : World) (e : Ending) (w' : World) : Prop := ∃ (v0 : Nat), e = .returned (.tuple #[.float .f32 v0, .int .i64 ar1]) ∧ can .f32 v0 = ar0 ∧ le w w'
def Out_ri (xr0 : Nat → Nat) (nr0 : Nat) (kr0 : Int) (ar1 : Int) (w : World) (e : Ending) (w' : World) : Prop := ∃ (v0 : Value), e = .returned (.tuple #[.agg #[v0, .int .i64 kr0], .int .i64 ar1]) ∧ OwnS w' w.heap.size w'.heap.size v0 xr0 nr0 ∧ le w w'
def Out_si (xr0 : Nat → Nat) (nr0 : Nat) (kr0 : Int) (tkr0 : Int) (tar0 : Nat) (tbr0 : Nat) (tcr0 : Nat) (txr0 : Nat) (tyr0 : Nat) (dkr0 : Int) (dar0 : Nat) (dbr0 : Nat) (dcr0 : Nat) (dxr0 : Nat) (dyr0 : Nat) (lr0 : Nat) (ar1 : Int) (w : World) (e : Ending) (w' : World) : Prop := ∃ (v0 : Value), e = .returned (.tuple #[.agg #[v0, .int .i64 kr0, .int .i64 tkr0, .float .f32 tar0, .float .f32 tbr0, .float .f32 tcr0, .float .f32 txr0, .float .f32 tyr0, .int .i64 dkr0, .float .f32 dar0, .float .f32 dbr0, .float .f32 dcr0, .float .f32 dxr0, .float .f32 dyr0, .float .f32 lr0], .int .i64 ar1]) ∧ OwnS w' w.heap.size w'.heap.size v0 xr0 nr0 ∧ le w w'
def Out_sfi (xr0 : Nat → Nat) (nr0 : Nat) (kr0 : Int) (tkr0 : Int) (tar0 : Nat) (tbr0 : Nat) (tcr0 : Nat) (txr0 : Nat) (tyr0 : Nat) (dkr0 : Int) (dar0 : Nat) (dbr0 : Nat) (dcr0 : Nat) (dxr0 : Nat) (dyr0 : Nat) (lr0 : Nat) (ar1 : Nat) (ar2 : Int) (w : World) (e : Ending) (w' : World) : Prop := ∃ (v0 : Value) (v1 : Nat), e = .returned (.tuple #[.agg #[v0, .int .i64 kr0, .int .i64 tkr0, .float .f32 tar0, .float .f32 tbr0, .float .f32 tcr0, .float .f32 txr0, .float .f32 tyr0, .int .i64 dkr0, .float .f32 dar0, .float .f32 dbr0, .float .f32 dcr0, .float .f32 dxr0, .float .f32 dyr0, .float .f32 lr0], .float .f32 v1, .int .i64 ar2]) ∧ OwnS w' w.heap.size w'.heap.size v0 xr0 nr0 ∧ can .f32 v1 = ar1 ∧ le w w'
def Out_sui (xr0 : Nat → Nat) (nr0 : Nat) (kr0 : Int) (tkr0 : Int) (tar0 : Nat) (tbr0 : Nat) (tcr0 : Nat) (txr0 : Nat) (tyr0 : Nat) (dkr0 : Int) (dar0 : Nat) (dbr0 : Nat) (dcr0 : Nat) (dxr0 : Nat) (dyr0 : Nat) (lr0 : Nat) (ar1 : Int) (ar2 : Int) (w : World) (e : Ending) (w' : World) : Prop := ∃ (v0 : Value), e = .returned (.tuple #[.agg #[v0, .int .i64 kr0, .int .i64 tkr0, .float .f32 tar0, .float .f32 tbr0, .float .f32 tcr0, .float .f32 txr0, .float .f32 tyr0, .int .i64 dkr0, .float .f32 dar0, .float .f32 dbr0, .float .f32 dcr0, .float .f32 dxr0, .float .f32 dyr0, .float .f32 lr0], .int .u32 ar1, .int .i64 ar2]) ∧ OwnS w' w.heap.size w'.heap.size v0 xr0 nr0 ∧ le w w'
def Out_sli (xr0 : Nat → Nat) (nr0 : Nat) (kr0 : Int) (tkr0 : Int) (tar0 : Nat) (tbr0 : Nat) (tcr0 : Nat) (txr0 : Nat) (tyr0 : Nat) (dkr0 : Int) (dar0 : Nat) (dbr0 : Nat) (dcr0 : Nat) (dxr0 : Nat) (dyr0 : Nat) (lr0 : Nat) (xr1 : Nat → Nat) (nr1 : Nat) (ar2 : Int) (w : World) (e : Ending) (w' : World) : Prop := ∃ (v0 : Value) (v1 : Value) (q : Nat), e = .returned (.tuple #[.agg #[v0, .int .i64 kr0, .int .i64 tkr0, .float .f32 tar0, .float .f32 tbr0, .float .f32 tcr0, .float .f32 txr0, .float .f32 tyr0, .int .i64 dkr0, .float .f32 dar0, .float .f32 dbr0, .float .f32 dcr0, .float .f32 dxr0, .float .f32 dyr0, .float .f32 lr0], v1, .int .i64 ar2]) ∧ OwnS w' w.heap.size q v0 xr0 nr0 ∧ OwnS w' q w'.heap.size v1 xr1 nr1 ∧ w.heap.size ≤ q ∧ q ≤ w'.heap.size ∧ le w w'
def Out_bi (ar0 : Bool) (ar1 : Int) (w : World) (e : Ending) (w' : World) : Prop := e = .returned (.tuple #[.bool ar0, .int .i64 ar1]) ∧ le w w'
def Out_ii (ar0 : Int) (ar1 : Int) (w : World) (e : Ending) (w' : World) : Prop := e = .returned (.tuple #[.int .i64 ar0, .int .i64 ar1]) ∧ le w w'
def Out_s (xr0 : Nat → Nat) (nr0 : Nat) (kr0 : Int) (tkr0 : Int) (tar0 : Nat) (tbr0 : Nat) (tcr0 : Nat) (txr0 : Nat) (tyr0 : Nat) (dkr0 : Int) (dar0 : Nat) (dbr0 : Nat) (dcr0 : Nat) (dxr0 : Nat) (dyr0 : Nat) (lr0 : Nat) (w : World) (e : Ending) (w' : World) : Prop := ∃ (v0 : Value), e = .returned (.agg #[v0, .int .i64 kr0, .int .i64 tkr0, .float .f32 tar0, .float .f32 tbr0, .float .f32 tcr0, .float .f32 txr0, .float .f32 tyr0, .int .i64 dkr0, .float .f32 dar0, .float .f32 dbr0, .float .f32 dcr0, .float .f32 dxr0, .float .f32 dyr0, .float .f32 lr0]) ∧ OwnS w' w.heap.size w'.heap.size v0 xr0 nr0 ∧ le w w'
def Out_li (xr0 : Nat → Nat) (nr0 : Nat) (ar1 : Int) (w : World) (e : Ending) (w' : World) : Prop := ∃ (v0 : Value), e = .returned (.tuple #[v0, .int .i64 ar1]) ∧ OwnS w' w.heap.size w'.heap.size v0 xr0 nr0 ∧ le w w'
def Out_f (ar0 : Nat) (w : World) (e : Ending) (w' : World) : Prop := ∃ (v0 : Nat), e = .returned (.float .f32 v0) ∧ can .f32 v0 = ar0 ∧ le w w'
end Go.Fk

/- 'FrictionAt' of both. -/
namespace Go.Fk
open Go Go.RowKit
/-- A difference of speeds on the way to its friction: the parts of it, up to the bits of NaN. -/
def fr1 (p : Nat) : Nat := fop .add .f32 (p % 2147483648) 1061158912
theorem fits_one : fits .f32 1065353216 := by simp [fits, Lit.wf]
def frSq (a : Nat) : Nat := fop .mul .f32 a a
def fr4 (a : Nat) : Nat := can .f32 (fmin .f32 (fop .quo .f32 1065353216 a) 1065353216)
def friV (s d : Nat) : Nat := fr4 (frSq (frSq (fr1 (fop .mul .f32 s d))))
theorem mod_congr {a b : Nat} (h : can .f32 a = can .f32 b) : can .f32 (a % 2147483648) = can .f32 (b % 2147483648) := by
  cases hn : isNan .f32 a
  · rw [eq_of_can h hn]
  · have hm := (isNan_of_can h).symm.trans hn
    have h1 : isNan .f32 (a % 2147483648) = true := by rw [isNan_f32] at hn ⊢; rwa [Nat.mod_mod]
    have h2 : isNan .f32 (b % 2147483648) = true := by rw [isNan_f32] at hm ⊢; rwa [Nat.mod_mod]
    rw [can_of_nan h1, can_of_nan h2]
theorem fr1_congr {a b : Nat} (h : can .f32 a = can .f32 b) : fr1 a = fr1 b := fop_congr (mod_congr h) rfl
theorem frSq_congr {a b : Nat} (h : can .f32 a = can .f32 b) : frSq a = frSq b := fop_congr h h
theorem fmin_congr {a b c : Nat} (h : can .f32 a = can .f32 b) : can .f32 (fmin .f32 a c) = can .f32 (fmin .f32 b c) := by
  cases hn : isNan .f32 a
  · rw [eq_of_can h hn]
  · have hm := (isNan_of_can h).symm.trans hn
    unfold fmin
    rw [order_of_nan_l hn, order_of_nan_l hm]
theorem fr4_congr {a b : Nat} (h : can .f32 a = can .f32 b) : fr4 a = fr4 b := by
  unfold fr4
  have e : fop .quo .f32 1065353216 a = fop .quo .f32 1065353216 b := fop_congr rfl h
  rw [e]
theorem fr_can (op : BinOp) (k : FloatKind) (x y : Nat) : can k (fop op k x y) = fop op k x y := can_fop _ _ _ _
/-- A word that is equal to 1 is 1. -/
theorem one_of_eq {x : Nat} (hf : fits .f32 x) (h : FloatKind.f32.format.order x 1065353216 = some .eq) : x = 1065353216 := by
  have hx : isNan .f32 x = false := by
    cases hn : isNan .f32 x
    · rfl
    · rw [order_of_nan_l hn] at h; cases h
  rw [order_val hx (by decide)] at h
  have hv : val .f32 x = val .f32 1065353216 := Int.compare_eq_eq.1 (by simpa using h)
  have h1 : val .f32 1065353216 = 2 ^ 149 := by decide +kernel
  have hsm := val_small (k := .f32) (b := 1065353216) (s := false) (m := 8388608) (e := -23) (by decide)
  rw [h1] at hv hsm
  have x0 := fits32 hf
  unfold val at hv
  cases hr : FloatKind.f32.format.read x with
  | nan s t => rw [hr] at hv; simp only at hv; exact absurd hv.symm (by decide)
  | infinity s =>
    rw [hr] at hv
    simp only at hv
    have hp : (0 : Int) < 2 ^ 149 := by decide
    generalize (far : Int) = F at *
    generalize (2 : Int) ^ 149 = G at *
    cases s <;> simp at hv <;> omega
  | number s m e =>
    rw [hr] at hv
    simp only at hv
    rw [signed_eq] at hv
    have hp := read_place hr
    have e1 : Ieee.single.signWeight = 2147483648 := by decide
    have e2 : Ieee.single.infRung = 2139095040 := by decide
    have e3 : Ieee.single.binade = 8388608 := by decide
    have e4 : Ieee.single.leastPlace = -149 := by decide
    simp only [FloatKind.format, Ieee.Format.read, e1, e2, e3, e4] at hr
    have hs : s = false ∧ ((m * 2 ^ (e + (unitOf .f32 : Int)).toNat : Nat) : Int) = 2 ^ 149 := by
      cases s
      · refine ⟨rfl, ?_⟩
        push_cast; simpa using hv
      · exfalso
        simp only [if_true] at hv
        have hnn : (0 : Int) ≤ ((m * 2 ^ (e + (unitOf .f32 : Int)).toNat : Nat) : Int) := Int.natCast_nonneg _
        push_cast at hnn
        rw [Int.neg_mul] at hv
        have hp2 : (0 : Int) < 2 ^ 149 := by decide
        omega
    obtain ⟨rfl, hm⟩ := hs
    have hm2 : m * 2 ^ (e + (unitOf .f32 : Int)).toNat = 2 ^ 149 := by exact_mod_cast hm
    clear hv hm h1 hsm hp h hx
    split at hr
    · rename_i h2
      have h2' : x % 2147483648 < 8388608 := by simpa using h2
      simp only [Ieee.Datum.number.injEq] at hr
      obtain ⟨_, rfl, rfl⟩ := hr
      exfalso
      have : x % 2147483648 * 2 ^ ((-149 : Int) + (unitOf .f32 : Int)).toNat = x % 2147483648 := by
        show _ * 2 ^ 0 = _; omega
      rw [this] at hm2
      have : (2 : Nat) ^ 149 > 8388608 := by decide
      omega
    · split at hr
      · simp only [Ieee.Datum.number.injEq] at hr
        obtain ⟨hs, rfl, rfl⟩ := hr
        have hj : ((-149 : Int) + ((x % 2147483648 / 8388608 - 1 : Nat) : Int) + (unitOf .f32 : Int)).toNat = x % 2147483648 / 8388608 - 1 := by
          show ((-149 : Int) + ((x % 2147483648 / 8388608 - 1 : Nat) : Int) + 149).toNat = _; omega
        rw [hj] at hm2
        generalize hJ : x % 2147483648 / 8388608 - 1 = j at hm2
        have hj1 : j = 126 := by
          by_cases a : j ≤ 125
          · exfalso
            have := Nat.pow_le_pow_right (show 0 < 2 by omega) a
            have h5 : (8388608 + x % 2147483648 % 8388608) * 2 ^ j < 16777216 * 2 ^ 125 := by
              calc (8388608 + x % 2147483648 % 8388608) * 2 ^ j ≤ 16777215 * 2 ^ 125 := Nat.mul_le_mul (by omega) this
                _ < 16777216 * 2 ^ 125 := by decide
            rw [hm2] at h5
            exact absurd h5 (by decide)
          · by_cases b : 127 ≤ j
            · exfalso
              have := Nat.pow_le_pow_right (show 0 < 2 by omega) b
              have h5 : 8388608 * 2 ^ 127 ≤ (8388608 + x % 2147483648 % 8388608) * 2 ^ j := Nat.mul_le_mul (by omega) this
              rw [hm2] at h5
              exact absurd h5 (by decide)
            · omega
        subst hj1
        have hmm : 8388608 + x % 2147483648 % 8388608 = 8388608 := Nat.eq_of_mul_eq_mul_right (show 0 < 2 ^ 126 by decide) (hm2.trans (by decide))
        have hs' : x / 2147483648 % 2 = 0 := by
          have : (x / 2147483648 % 2 == 1) = false := hs
          simp at this; omega
        omega
      · split at hr <;> cases hr
/-- What stands behind k of the four steps. -/
def frK (p : Nat) : Nat → Nat
  | 0 => can .f32 p
  | 1 => fr1 p
  | 2 => frSq (fr1 p)
  | 3 => frSq (frSq (fr1 p))
  | _ => fr4 (frSq (frSq (fr1 p)))
end Go.Fk
namespace Go.Proofs.Ytkjgcfmfejjdkaa
open Go.RowKit Go.Fk
theorem i_raised (p : Nat) (w : World) (hp : fits .f32 p) : Calls Try.prog 52 #[.float .f32 p] w fun e w' => ∃ r, e = .returned (.float .f32 r) ∧ can .f32 r = fr1 p ∧ fits .f32 r ∧ le w w' := by
  go_enter Try.func52, Try.ntmps52
  go_wp2_with (first | (with_reducible refine wpList_farith rfl rfl rfl rfl rfl ?_; intro r1 n1 hr1 hf1) | (with_reducible refine wpList_widen rfl rfl rfl Try.underlying75 Try.underlying25 ?_; intro s1 n1 h1 f1; have hwf := f1.out; have hna := hid (narrow_abs h1.out)) | (go_at_call 91; refine (abs64 _ _ hwf).mono ?_; rintro e w' ⟨rfl, rfl⟩) | (with_reducible refine wpList_narrowX rfl rfl rfl Try.underlying25 Try.underlying75 (by exact hna.out.1) ?_; intro q nq hq hqf))
  go_ret
  refine ⟨_, rfl, ?_, hf1.out, le_drewN _ _⟩
  rw [hr1.out]
  exact fop_congr (hq.out.trans hna.out.2) rfl
theorem i_squared (p : Nat) (w : World) : Calls Try.prog 53 #[.float .f32 p] w fun e w' => ∃ r, e = .returned (.float .f32 r) ∧ can .f32 r = frSq p ∧ fits .f32 r ∧ le w w' := by
  go_enter Try.func53, Try.ntmps53
  go_wp2_with (first | (with_reducible refine wpList_farith rfl rfl rfl rfl rfl ?_; intro r1 n1 hr1 hf1))
  go_ret
  exact ⟨_, rfl, hr1.out, hf1.out, le_drewN _ _⟩
theorem i_slipShare (p : Nat) (w : World) : Calls Try.prog 54 #[.float .f32 p] w fun e w' => ∃ r, e = .returned (.float .f32 r) ∧ can .f32 r = fr4 p ∧ fits .f32 r ∧ le w w' := by
  go_enter Try.func54, Try.ntmps54
  go_wp2_with (first | (with_reducible refine wpList_farith rfl rfl rfl rfl rfl ?_; intro r1 n1 hr1 hf1) | (with_reducible refine wpList_min rfl rfl rfl rfl hf1.out fits_one ?_; intro r2 n2 hr2 hf2))
  go_ret
  refine ⟨_, rfl, ?_, hf2.out, le_drewN _ _⟩
  rw [hr2.out]
  exact fmin_congr (hr1.out.trans (can_fop _ _ _ _).symm)
theorem slipOne : (Try.prog.info? 76).map (·.size) = some 1 := by kernel_rfl
theorem slipKind : ∀ w : World, (isAgg 76).run Try.prog w = .ok false w := fun w => by kernel_rfl
set_option maxRecDepth 100000 in
set_option maxHeartbeats 2000000 in
theorem i_FrictionAt (s d : Nat) (w : World) : Calls Try.prog 16 #[.float .f32 s, .float .f32 d] w (Out_f (friV s d) w) := by
  go_enter Try.func16, Try.ntmps16
  go_wp2_with (first | (with_reducible refine wpList_farith rfl rfl rfl rfl rfl ?_; intro r1 n1 hr1 hf1))
  have HL := hid (le_drewN w n1)
  have HF := hid hf1.out; have HR := hid hr1.out
  go_loopw [5, 12] (fun sv i wr => ∃ (k : Nat) (r : Nat), k ≤ 4 ∧ i = .int .i64 k ∧ sv = .float .f32 r ∧ Hid (can .f32 r = frK r1 k) ∧ Hid (fits .f32 r) ∧ Hid (le w wr)) (fun _ i _ => 4 - (intOf i).toNat)
  case atStart => exact ⟨0, _, by omega, rfl, rfl, rfl, HF.out, HL.out⟩
  case round =>
    obtain ⟨k, r, hk, rfl, rfl, HRk, HFk, HLk⟩ := hrel
    match k, hk with
    | 0, _ =>
      go_wp2_with (first | (refine wpList_indexArr rfl rfl (k := 0) rfl rfl Try.underlying78 slipOne slipKind (by decide) rfl ?_) | go_at_call 52; ((with_reducible refine (i_raised _ _ HFk.out).mono ?_); rintro e w2 ⟨q, rfl, hq, fq, hl⟩; have HQ := hid hq; have FQ := hid fq; have HL2 := hid (le_trans HLk.out hl); clear hq fq hl))
      go_roundw
      case rel => exact ⟨1, q, by omega, by go_num, rfl, HQ.out.trans (fr1_congr (show can .f32 r = can .f32 r1 from HRk.out)), FQ.out, HL2.out⟩
      case measure => simp [intOf]
    | 1, _ =>
      go_wp2_with (first | (refine wpList_indexArr rfl rfl (k := 1) rfl rfl Try.underlying78 slipOne slipKind (by decide) rfl ?_) | go_at_call 53; ((with_reducible refine (i_squared _ _).mono ?_); rintro e w2 ⟨q, rfl, hq, fq, hl⟩; have HQ := hid hq; have FQ := hid fq; have HL2 := hid (le_trans HLk.out hl); clear hq fq hl))
      go_roundw
      case rel => exact ⟨2, q, by omega, by go_num, rfl, HQ.out.trans (frSq_congr (HRk.out.trans (can_fop _ _ _ _).symm)), FQ.out, HL2.out⟩
      case measure => simp [intOf]
    | 2, _ =>
      go_wp2_with (first | (refine wpList_indexArr rfl rfl (k := 2) rfl rfl Try.underlying78 slipOne slipKind (by decide) rfl ?_) | go_at_call 53; ((with_reducible refine (i_squared _ _).mono ?_); rintro e w2 ⟨q, rfl, hq, fq, hl⟩; have HQ := hid hq; have FQ := hid fq; have HL2 := hid (le_trans HLk.out hl); clear hq fq hl))
      go_roundw
      case rel => exact ⟨3, q, by omega, by go_num, rfl, HQ.out.trans (frSq_congr (HRk.out.trans (can_fop _ _ _ _).symm)), FQ.out, HL2.out⟩
      case measure => simp [intOf]
    | 3, _ =>
      go_wp2_with (first | (refine wpList_indexArr rfl rfl (k := 3) rfl rfl Try.underlying78 slipOne slipKind (by decide) rfl ?_) | go_at_call 54; ((with_reducible refine (i_slipShare _ _).mono ?_); rintro e w2 ⟨q, rfl, hq, fq, hl⟩; have HQ := hid hq; have FQ := hid fq; have HL2 := hid (le_trans HLk.out hl); clear hq fq hl))
      go_roundw
      case rel => exact ⟨4, q, by omega, by go_num, rfl, HQ.out.trans (fr4_congr (HRk.out.trans (can_fop _ _ _ _).symm)), FQ.out, HL2.out⟩
      case measure => simp [intOf]
    | 4, _ =>
      go_wp2
      go_ret
      exact ⟨r, rfl, HRk.out.trans (by
        unfold friV
        show fr4 _ = _
        rw [fr1_congr (show can .f32 r1 = can .f32 (fop .mul .f32 s d) by rw [can_fop]; exact HR.out)]), HLk.out⟩
theorem s_l05Friction (s d : Nat) (w : World) : Calls Try.prog 51 #[.float .f32 s, .float .f32 d] w (Out_f (friV s d) w) := by
  go_enter Try.func51, Try.ntmps51
  go_wp2_with (first | (with_reducible refine wpList_farith (op := .mul) (p := s) (q := d) rfl rfl rfl rfl rfl ?_; intro r1 n1 hr1 hf1; have gf1 := hf1.out) | (go_at_call 90; refine (s_l01Abs _ _ gf1).mono ?_; rintro e w' ⟨rfl, rfl⟩) | (with_reducible refine wpList_farith (op := .add) rfl rfl rfl rfl rfl ?_; intro r2 n2 hr2 hf2) | (with_reducible refine wpList_farith (op := .mul) (p := r2) rfl rfl rfl rfl rfl ?_; intro r3 n3 hr3 hf3) | (with_reducible refine wpList_farith (op := .mul) (p := r3) rfl rfl rfl rfl rfl ?_; intro r4 n4 hr4 hf4) | (with_reducible refine wpList_farith (op := .quo) rfl rfl rfl rfl rfl ?_; intro r5 n5 hr5 hf5))
  all_goals
    have k1 : can .f32 r2 = can .f32 (fr1 (fop .mul .f32 s d)) := by
      rw [hr2.out]
      unfold fr1
      rw [can_fop]
      exact fop_congr (mod_congr (by rw [can_fop]; exact hr1.out)) rfl
    have k2 : can .f32 r3 = can .f32 (frSq (fr1 (fop .mul .f32 s d))) := by
      rw [hr3.out, frSq, can_fop]; exact fop_congr k1 k1
    have k3 : can .f32 r4 = can .f32 (frSq (frSq (fr1 (fop .mul .f32 s d)))) := by
      rw [hr4.out]
      unfold frSq
      rw [can_fop]
      exact fop_congr k2 k2
    have k4 : friV s d = can .f32 (fmin .f32 r5 1065353216) := by
      unfold friV
      rw [fr4_congr k3.symm]
      unfold fr4
      exact fmin_congr (by rw [can_fop]; exact hr5.out.symm)
    clear k1 k2 k3
    replace k4 := hid k4
    go_ret
  · refine ⟨_, rfl, ?_, le_drewN _ _⟩
    rw [k4.out]
    have hg : FloatKind.f32.format.order r5 1065353216 = some .gt := by simpa using ‹(FloatKind.f32.format.order r5 1065353216 == some .gt) = true›
    simp only [fmin, hg]
  · refine ⟨_, rfl, ?_, le_drewN _ _⟩
    rw [k4.out]
    have hg : ¬ FloatKind.f32.format.order r5 1065353216 = some .gt := by
      have := ‹(FloatKind.f32.format.order r5 1065353216 == some .gt) = false›
      simpa using this
    cases ho : FloatKind.f32.format.order r5 1065353216 with
    | none =>
      have hn : isNan .f32 r5 = true := by
        cases hn : isNan .f32 r5
        · rw [order_val hn (by decide)] at ho; cases ho
        · rfl
      simp only [fmin, ho]
      rw [can_of_nan hn, can_qnan]
    | some o =>
      cases o with
      | lt => simp only [fmin, ho]
      | gt => exact absurd ho hg
      | eq =>
        obtain rfl := one_of_eq hf5.out ho
        simp only [fmin, ho]
        split <;> rfl
theorem s_FrictionAt (s d : Nat) (w : World) : Calls Try.prog 15 #[.float .f32 s, .float .f32 d] w (Out_f (friV s d) w) := by
  go_enter Try.func15, Try.ntmps15
  go_wp2_with (go_at_call 51; ((with_reducible refine (s_l05Friction _ _ _).mono ?_); rintro e w' ⟨y, rfl, hy, hl⟩; have HY := hid hy; have HL := hid hl; clear hy hl))
  go_ret
  exact ⟨_, rfl, HY.out, HL.out⟩
theorem both_FrictionAt (a b : Nat) : ∃ (ar0 : Nat), (∀ w : World, Calls Try.prog 15 #[.float .f32 a, .float .f32 b] w (Out_f ar0 w)) ∧ (∀ w : World, Calls Try.prog 16 #[.float .f32 a, .float .f32 b] w (Out_f ar0 w)) :=
  ⟨_, s_FrictionAt a b, i_FrictionAt a b⟩
end Go.Proofs.Ytkjgcfmfejjdkaa

/- 'laws.sameFloat': true of two words that are one up to the bits of NaN. -/
namespace Go.Proofs.Ytkjgcfmfejjdkaa
open Go.RowKit Go.Fk

theorem sameFloat_nan (x y : Nat) (w : World) (hx : isNan .f64 x = true) (hy : isNan .f64 y = true) :
    Calls Try.prog 17 #[.float .f64 x, .float .f64 y] w fun e w' => e = .returned (.bool true) ∧ ∃ n, w' = w.drewN n := by
  have h1 : FloatKind.f64.format.order x x = none := order_of_nan_l hx
  have h2 : FloatKind.f64.format.order y y = none := order_of_nan_l hy
  go_enter Try.func17, Try.ntmps17
  go_wp2
  go_ret
  exact ⟨rfl, 0, rfl⟩

theorem sameFloat_num (x : Nat) (w : World) (hx : isNan .f64 x = false) :
    Calls Try.prog 17 #[.float .f64 x, .float .f64 x] w fun e w' => e = .returned (.bool true) ∧ ∃ n, w' = w.drewN n := by
  have h1 : FloatKind.f64.format.order x x = some .eq := order_self hx
  cases h0 : (FloatKind.f64.format.order x 0 == some .eq)
  · go_enter Try.func17, Try.ntmps17
    go_wp2
    go_ret
    exact ⟨rfl, 0, rfl⟩
  · go_enter Try.func17, Try.ntmps17
    go_wp2_with (with_reducible refine wpList_farith rfl rfl rfl rfl rfl ?_; intro r n hr hf)
    rename_i r1 n1 hr1 _
    go_ret
    refine ⟨?_, _, rfl⟩
    rw [show FloatKind.f64.format.order r1 0 = FloatKind.f64.format.order r 0 from order_congr (hr1.trans hr.symm) rfl]
    simp

theorem sameFloat_yes (x y : Nat) (w : World) (h : can .f64 x = can .f64 y) :
    Calls Try.prog 17 #[.float .f64 x, .float .f64 y] w fun e w' => e = .returned (.bool true) ∧ ∃ n, w' = w.drewN n := by
  cases hx : isNan .f64 x
  · obtain rfl := eq_of_can h hx
    exact sameFloat_num x w hx
  · exact sameFloat_nan x y w hx (by rw [← isNan_of_can h, hx])
end Go.Proofs.Ytkjgcfmfejjdkaa

/- A region that draws its order, whose operations may draw the bits of a NaN: one walk, in the order of the text, serves every order, also where an operation's value is known up to a predicate alone. 'C': the worlds that may be met. 'K': what is known of what a call gives. Nothing here names a program. -/
namespace Go.Fk
open Go Go.RowKit

section
variable (P : Program) (ops : Array Oper) (md : Region.Mode) (C : World → Prop) (K : FuncId → Array Value → Value → Prop)

/-- What an operation's run must be, for its value to be one of V. -/
def within (V : Value → Prop) : Result Next → Prop
  | .ok (.value u) w' => C w' ∧ V u
  | .ok .skip w' => C w' ∧ V undef
  | .ok (.enter f args) w' => Calls P f args w' (fun e w'' => ∃ v, e = .returned v ∧ K f args v ∧ C w'') ∧ ∀ v, K f args v → V v
  | _ => False

/-- In every world of the class the operation gives a value of V (none of its own where its guard bars it). -/
def Gives (o : Oper) (a : Act) (V : Value → Prop) : Prop :=
  (Region.wanted o (yielded ops a.tmps) = true ∧ ∀ w, C w → within P C K V ((execOp a.eval o).run P w)) ∨ (Region.wanted o (yielded ops a.tmps) = false ∧ V undef)

/-- The walk in the order of the text. -/
def wpLoose (Q : Act → Prop) : List Oper → Act → Prop
  | [], a => Q a
  | o :: rest, a => ∃ V, Gives P ops C K o a V ∧ ∀ v, V v → wpLoose Q rest (a.put o.dst v)

/-- Whatever order is picked. -/
def anyLoose (Q : Act → Prop) : Nat → Array Bool → Act → Prop
  | 0, listed, a => Region.ready md ops listed = [] ∧ Q a
  | fuel + 1, listed, a => (Region.ready md ops listed = [] → Q a) ∧
      ∀ i ∈ Region.ready md ops listed, ∀ o, ops[i]? = some o → ∃ V, Gives P ops C K o a V ∧ ∀ v, V v → anyLoose Q fuel (listed.setIfInBounds i true) (a.put o.dst v)
end

section
variable {P : Program} {ops : Array Oper} {md : Region.Mode} {C : World → Prop} {K : FuncId → Array Value → Value → Prop}

theorem within_mono {V U : Value → Prop} (h : ∀ v, V v → U v) {r : Result Next} (hr : within P C K V r) : within P C K U r := by
  cases r with
  | ok n w' =>
    cases n <;> simp only [within] at hr ⊢
    case value u => exact ⟨hr.1, h _ hr.2⟩
    case skip => exact ⟨hr.1, h _ hr.2⟩
    case enter f args => exact ⟨hr.1, fun v hv => h v (hr.2 v hv)⟩
  | halt x w' => simp only [within] at hr

/-- What holds for each of a family of predicates, of which there is one, holds for all at once. -/
theorem within_all {ι : Type} {p : ι → Prop} {V : ι → Value → Prop} {r : Result Next} (hne : ∃ i, p i) (h : ∀ i, p i → within P C K (V i) r) : within P C K (fun v => ∀ i, p i → V i v) r := by
  obtain ⟨i0, h0⟩ := hne
  have hr := h i0 h0
  cases r with
  | ok n w' =>
    cases n <;> simp only [within] at hr h ⊢
    case value u => exact ⟨hr.1, fun i hi => (h i hi).2⟩
    case skip => exact ⟨hr.1, fun i hi => (h i hi).2⟩
    case enter f args => exact ⟨hr.1, fun v hv i hi => (h i hi).2 v hv⟩
  | halt x w' => simp only [within] at hr

theorem Gives.same {o : Oper} {a a' : Act} {V : Value → Prop} (he : execOp a'.eval o = execOp a.eval o) (hw : Region.wanted o (yielded ops a'.tmps) = Region.wanted o (yielded ops a.tmps))
    (h : Gives P ops C K o a V) : Gives P ops C K o a' V := by
  unfold Gives at *; rw [he, hw]; exact h

theorem within_some {V : Value → Prop} {r : Result Next} (h : within P C K V r) : ∃ v, V v := by
  cases r with
  | ok n w' =>
    cases n <;> simp only [within] at h
    case value u => exact ⟨u, h.2⟩
    case skip => exact ⟨undef, h.2⟩
    case enter f args =>
      obtain ⟨e, w'', fr, ⟨v, _, hk, _⟩, _⟩ := h.1 []
      exact ⟨v, h.2 v hk⟩
  | halt x w' => simp only [within] at h
theorem Gives.some (hC : ∃ w, C w) {o : Oper} {a : Act} {V : Value → Prop} (h : Gives P ops C K o a V) : ∃ v, V v := by
  obtain ⟨w, hw⟩ := hC
  rcases h with ⟨_, h⟩ | ⟨_, h⟩
  · exact within_some (h w hw)
  · exact ⟨undef, h⟩

theorem anyLoose_sound {Q : Act → Prop} {Q' : Exit → Act → World → Prop} (hQ : ∀ a w, C w → Q a → Q' .normal a w) : ∀ (fuel : Nat) (listed : Array Bool) (a : Act) (w : World), C w →
    anyLoose P ops md C K Q fuel listed a → wpAny P md ops Q' fuel listed a w := by
  intro fuel
  induction fuel with
  | zero => intro listed a w hw h; exact ⟨h.1, hQ a w hw h.2⟩
  | succ fuel ih =>
    intro listed a w hw h
    refine ⟨fun h0 => hQ a w hw (h.1 h0), fun i hi => ?_⟩
    obtain ⟨_, o, ho, _⟩ := mem_ready.1 hi
    obtain ⟨V, hg, hn⟩ := h.2 i hi o ho
    unfold wpOp
    simp only [ho]
    rcases hg with ⟨hwant, hv⟩ | ⟨hwant, hv⟩
    · rw [if_pos hwant]
      left
      have h3 := hv w hw
      unfold Oper.wp
      generalize (execOp a.eval o).run P w = r at h3
      cases r with
      | ok n w' =>
        cases n <;> simp only [within] at h3 <;> simp only [Oper.upon]
        case value u => exact ih _ _ _ h3.1 (hn u h3.2)
        case skip => exact ih _ _ _ h3.1 (hn undef h3.2)
        case enter f args =>
          refine h3.1.mono fun e w'' he => ?_
          obtain ⟨v, rfl, hk, hc⟩ := he
          exact ih _ _ _ hc (hn v (h3.2 v hk))
      | halt x w' => simp only [within] at h3
    · rw [if_neg (by simp [hwant])]
      exact ih _ _ _ hw (hn undef hv)

/-- What may come up now may be taken first. -/
theorem anyLoose_first {Q : Act → Prop} {i : Nat} {oi : Oper} {V : Value → Prop} (hi : ops[i]? = some oi) (hsel : ∀ (j : Nat) (o : Oper) cs b, ops[j]? = some o → o.op ≠ .select cs b) (hne : ∃ v, V v) :
    ∀ (fuel : Nat) (listed : Array Bool) (a : Act),
      (∀ j oj, ops[j]? = some oj → j ≠ i → listed.getD j true = false → (∀ e ∈ oj.after, Region.binds md e = true → e.on ≠ i) → oi.apart ops oj = true) →
      i ∈ Region.ready md ops listed → Gives P ops C K oi a V →
      (∀ v, V v → anyLoose P ops md C K Q fuel (listed.setIfInBounds i true) (a.put oi.dst v)) → anyLoose P ops md C K Q (fuel + 1) listed a := by
  intro fuel
  induction fuel with
  | zero =>
    intro listed a _ hr hg H
    refine ⟨fun h => (by rw [h] at hr; cases hr), fun j hj o ho => ?_⟩
    by_cases hji : j = i
    · subst hji
      rw [hi] at ho; cases ho
      exact ⟨V, hg, H⟩
    · obtain ⟨v, hv⟩ := hne
      have h1 := ready_mono hj hji
      rw [(H v hv).1] at h1
      cases h1
  | succ fuel ih =>
    intro listed a hfree hr hg H
    refine ⟨fun h => (by rw [h] at hr; cases hr), fun j hj o ho => ?_⟩
    by_cases hji : j = i
    · subst hji
      rw [hi] at ho; cases ho
      exact ⟨V, hg, H⟩
    · obtain ⟨hjun, oj, hoj, hall⟩ := mem_ready.1 hj
      rw [ho] at hoj; cases hoj
      have hnot : ∀ e ∈ o.after, Region.binds md e = true → e.on ≠ i := fun e he hb heq => by
        have h1 := hall e he hb
        have h0 := (mem_ready.1 hr).1
        rw [heq] at h1
        rcases Nat.lt_or_ge i listed.size with h' | h'
        · simp [h'] at h0 h1; rw [h0] at h1; cases h1
        · simp [Array.getElem?_eq_none h'] at h1
      have hap := hfree j o ho hji hjun hnot
      obtain ⟨a1, a2, a3⟩ := Oper.apart_spec hap
      have hsi := fun cs b => hsel i oi cs b hi
      have hsj := fun cs b => hsel j o cs b ho
      -- at each value of the first, the other one has its predicate; all of them at once
      have hU : ∀ v : {v // V v}, ∃ U, Gives P ops C K o (a.put oi.dst v.1) U ∧ ∀ u, U u → anyLoose P ops md C K Q fuel ((listed.setIfInBounds i true).setIfInBounds j true) ((a.put oi.dst v.1).put o.dst u) :=
        fun v => (H v.1 v.2).2 j (ready_mono hj hji) o ho
      obtain ⟨v0, hv0⟩ := hne
      let good : Value → Prop := fun u => ∀ v : {v // V v}, True → anyLoose P ops md C K Q fuel ((listed.setIfInBounds i true).setIfInBounds j true) ((a.put oi.dst v.1).put o.dst u)
      have hgood : Gives P ops C K o a good := by
        have hone : ∀ v : {v // V v}, Gives P ops C K o a (fun u => anyLoose P ops md C K Q fuel ((listed.setIfInBounds i true).setIfInBounds j true) ((a.put oi.dst v.1).put o.dst u)) := fun v => by
          obtain ⟨U, h1, h2⟩ := hU v
          have h1' : Gives P ops C K o a U := h1.same (execOp_put o hsj a oi.dst v.1 a1).symm (wanted_put o a oi.dst v.1 a1).symm
          rcases h1' with ⟨hw, h3⟩ | ⟨hw, h3⟩
          · exact .inl ⟨hw, fun w hw' => within_mono h2 (h3 w hw')⟩
          · exact .inr ⟨hw, h2 _ h3⟩
        by_cases hw : Region.wanted o (yielded ops a.tmps) = true
        · refine .inl ⟨hw, fun w hw' => ?_⟩
          refine within_all ⟨⟨v0, hv0⟩, trivial⟩ (fun v _ => ?_)
          rcases hone v with ⟨_, h3⟩ | ⟨h3, _⟩
          · exact h3 w hw'
          · rw [hw] at h3; cases h3
        · refine .inr ⟨by simpa using hw, fun v _ => ?_⟩
          rcases hone v with ⟨h3, _⟩ | ⟨_, h3⟩
          · exact absurd h3 hw
          · exact h3
      refine ⟨good, hgood, ?_⟩
      · intro u hu
        have hfree' : ∀ k ok, ops[k]? = some ok → k ≠ i → (listed.setIfInBounds j true).getD k true = false →
            (∀ e ∈ ok.after, Region.binds md e = true → e.on ≠ i) → oi.apart ops ok = true := fun k ok hk hki hun hno => by
          refine hfree k ok hk hki ?_ hno
          by_cases hjk : j = k
          · subst hjk; exact hjun
          · rw [getD_set_ne true hjk] at hun; exact hun
        refine ih (listed.setIfInBounds j true) (a.put o.dst u) hfree' (ready_mono hr (Ne.symm hji)) (hg.same (execOp_put oi hsi a o.dst u a3) (wanted_put oi a o.dst u a3)) (fun v hv => ?_)
        rw [Array.setIfInBounds_comm _ _ hji, ← Act.put_comm a v u a2]
        exact hu ⟨v, hv⟩ trivial

theorem anyLoose_lex {Q : Act → Prop} (hC : ∃ w, C w) (hs : Region.noSelect ops = true) : ∀ (l : List Oper) (k : Nat) (listed : Array Bool) (a : Act), (∀ j, l[j]? = ops[k + j]?) →
    Region.lexFrom md ops l.length k listed = true → wpLoose P ops C K Q l a → anyLoose P ops md C K Q l.length listed a := by
  intro l
  induction l with
  | nil => intro k listed a _ hB h; exact ⟨by simpa [Region.lexFrom] using hB, h⟩
  | cons o l ih =>
    intro k listed a hl hB h
    have h0 : ops[k]? = some o := by simpa using (hl 0).symm
    simp only [List.length_cons, Region.lexFrom, Bool.and_eq_true] at hB
    obtain ⟨⟨hr, hf⟩, hB'⟩ := hB
    obtain ⟨V, hg, hn⟩ := h
    exact anyLoose_first h0 (Region.noSelect_spec hs) (hg.some hC) l.length listed a (Region.free_spec h0 hf) (by simpa using hr) hg
      (fun v hv => ih (k + 1) _ _ (fun j => by have := hl (j + 1); simpa [Nat.add_assoc, Nat.add_comm 1 j] using this) hB' (hn v hv))

/-- ONE WALK SERVES EVERY ORDER. -/
theorem wp_region_loose (K : FuncId → Array Value → Value → Prop) {id : Nat} {Q : Exit → Act → World → Prop} {a : Act} {w : World} {l : List Oper} (hm : P.follows .mixedOrders = true) (hB : Region.lexB .any l.toArray = true)
    (h : wpLoose P l.toArray (fun w' => ∃ n, w' = w.drewN n) K (fun a' => ∀ n, Q .normal a' (w.drewN n)) l a) : (Code.region id l.toArray true).wp P Q a w := by
  simp only [Region.lexB, Bool.and_eq_true] at hB
  have hC : ∃ n, ({ w with drawn := w.drawn + 1 } : World) = w.drewN n := ⟨1, rfl⟩
  refine wp_region_any hm (anyLoose_sound (C := fun w' => ∃ n, w' = w.drewN n) (K := K) (Q := fun a' => ∀ n, Q .normal a' (w.drewN n)) (fun a' w' hw' h' => by obtain ⟨n, rfl⟩ := hw'; exact h' n) _ _ _ _ hC ?_)
  have := anyLoose_lex (md := .any) ⟨_, hC⟩ hB.1 l 0 (Array.replicate l.toArray.size false) a (by simp) (by simpa using hB.2) h
  simpa using this

theorem wpLoose_nil {Q : Act → Prop} {a : Act} (h : Q a) : wpLoose P ops C K Q [] a := h
theorem andThen_value {α : Type} (r : Result α) (f : α → Next) {f' : FuncId} {args : Array Value} {w' : World} (h : (r.andThen fun x w'' => .ok (f x) w'') = .ok (.enter f' args) w') : ∃ x, f x = .enter f' args := by
  cases r with
  | ok x w => simp only [Result.andThen, Result.ok.injEq] at h; exact ⟨x, h.1⟩
  | halt x w => simp [Result.andThen] at h

/-- Operations that surely enter no function. -/
def simple : Op → Bool
  | .nilCheck _ | .call _ | .go _ | .defer _ | .recv .. | .select .. => false
  | _ => true
/-- Only a call enters a function. -/
theorem noEnter {P : Program} {ρ : Operand → Value} {o : Oper} (hnc : simple o.op = true) {w w' : World} {f : FuncId} {args : Array Value} : (execOp ρ o).run P w ≠ .ok (.enter f args) w' := by
  intro h
  unfold execOp at h
  cases ho : o.op <;> simp only [ho, simple] at h hnc
  all_goals first
    | (cases hnc; done)
    | (simp only [Sem.run_bind, Sem.run_pure] at h; obtain ⟨x, hx⟩ := andThen_value _ _ h; cases hx; done)
    | (simp at h; done)

/-- A quiet operation is a loose one: one value, in the very world. -/
theorem wpLoose_quiet {Q : Act → Prop} {o : Oper} {rest : List Oper} {a : Act} (hnc : simple o.op = true) (h : wpQuiet P ops C (fun a' => wpLoose P ops C K Q rest a') [o] a) : wpLoose P ops C K Q (o :: rest) a := by
  simp only [wpQuiet] at h
  by_cases hw : Region.wanted o (yielded ops a.tmps) = true
  · rw [if_pos hw] at h
    obtain ⟨v, h1, h2⟩ := h
    refine ⟨(· = v), .inl ⟨hw, fun w hw' => ?_⟩, fun u hu => by rw [hu]; exact h2⟩
    have h3 := h1 w hw'
    unfold Oper.quietAt at h3
    generalize hrun : (execOp a.eval o).run P w = r at h3
    cases r with
    | ok n w' =>
      cases n <;> simp only [Oper.quietUpon] at h3 <;> simp only [within]
      case value u => exact ⟨by rw [h3.1]; exact hw', h3.2⟩
      case skip => exact ⟨by rw [h3.1]; exact hw', h3.2.symm⟩
      case enter f args => exact (noEnter hnc hrun).elim
    | halt x w' => simp only [Oper.quietUpon] at h3
  · rw [if_neg hw] at h
    exact ⟨(· = undef), .inr ⟨by simpa using hw, rfl⟩, fun u hu => by rw [hu]; exact h⟩
end
end Go.Fk

/- The steps of a walk through a region that draws its order: + - * / on floats, float64(x), float32(x), calls. Nothing here names a program. -/
namespace Go.Fk
open Go Go.RowKit
attribute [go_sem] within

section
variable {P : Program} {ops : Array Oper} {w : World} {K : FuncId → Array Value → Value → Prop} {Q : Act → Prop} {o : Oper} {rest : List Oper} {a : Act}

theorem wpLoose_any (hg : o.guard = none) (V : Value → Prop) (h1 : ∀ n, within P (fun w' => ∃ m, w' = w.drewN m) K V ((execOp a.eval o).run P (w.drewN n)))
    (h2 : ∀ v, V v → wpLoose P ops (fun w' => ∃ m, w' = w.drewN m) K Q rest (a.put o.dst v)) : wpLoose P ops (fun w' => ∃ m, w' = w.drewN m) K Q (o :: rest) a :=
  ⟨V, .inl ⟨by simp [Region.wanted, hg], fun w' hw' => by obtain ⟨n, rfl⟩ := hw'; exact h1 n⟩, h2⟩

theorem wpLoose_farith (hg : o.guard = none) {op : BinOp} {t t' : TypeId} {x y : Operand} (hop : o.op = Op.binOp op t x y t') (ho : arith op = true)
    {k : FloatKind} {p q : Nat} (hx : a.eval x = .float k p) (hy : a.eval y = .float k q)
    (hK : ∀ r, Hid (can k r = fop op k p q) → Hid (fits k r) → wpLoose P ops (fun w' => ∃ m, w' = w.drewN m) K Q rest (a.put o.dst (.float k r))) : wpLoose P ops (fun w' => ∃ m, w' = w.drewN m) K Q (o :: rest) a := by
  refine wpLoose_any hg (fun v => ∃ r, v = .float k r ∧ can k r = fop op k p q ∧ fits k r) (fun n => ?_) ?_
  · obtain ⟨r, m, hrun, hr, hf⟩ := run_farith (P := P) (w.drewN n) op ho t k p q
    have he := eqGuard_float (P := P) (w.drewN n) op t x y k k p q
    simp [execOp, hop, hx, hy, he, hrun, Result.andThen, within]
    exact ⟨⟨_, rfl⟩, hr, hf⟩
  · rintro v ⟨r, rfl, hr, hf⟩
    exact hK r hr hf
theorem wpLoose_widen (hg : o.guard = none) {src dst : TypeId} {x : Operand} (hop : o.op = Op.convert src dst x) {b : Nat} (hx : a.eval x = .float .f32 b)
    (hs : P.underlying src = some (.float .f32)) (hd : P.underlying dst = some (.float .f64))
    (hK : ∀ r, Hid (can .f64 r = can .f64 (widen b)) → Hid (fits .f64 r) → wpLoose P ops (fun w' => ∃ m, w' = w.drewN m) K Q rest (a.put o.dst (.float .f64 r))) : wpLoose P ops (fun w' => ∃ m, w' = w.drewN m) K Q (o :: rest) a := by
  refine wpLoose_any hg (fun v => ∃ r, v = .float .f64 r ∧ can .f64 r = can .f64 (widen b) ∧ fits .f64 r) (fun n => ?_) ?_
  · obtain ⟨r, m, hrun, hr, hf⟩ := run_widen (P := P) (w.drewN n) src dst b hs hd
    simp [execOp, hop, hx, hrun, Result.andThen, within]
    exact ⟨⟨_, rfl⟩, hr, hf⟩
  · rintro v ⟨r, rfl, hr, hf⟩
    exact hK r hr hf
theorem wpLoose_narrow (hg : o.guard = none) {src dst : TypeId} {x : Operand} (hop : o.op = Op.convert src dst x) {b : Nat} (hx : a.eval x = .float .f64 b)
    (hs : P.underlying src = some (.float .f64)) (hd : P.underlying dst = some (.float .f32)) (hb : narrowable b)
    (hK : ∀ r, Hid (can .f32 r = can .f32 (narrow b)) → Hid (fits .f32 r) → wpLoose P ops (fun w' => ∃ m, w' = w.drewN m) K Q rest (a.put o.dst (.float .f32 r))) : wpLoose P ops (fun w' => ∃ m, w' = w.drewN m) K Q (o :: rest) a := by
  refine wpLoose_any hg (fun v => ∃ r, v = .float .f32 r ∧ can .f32 r = can .f32 (narrow b) ∧ fits .f32 r) (fun n => ?_) ?_
  · obtain ⟨r, m, hrun, hr, hf⟩ := run_narrow (P := P) (w.drewN n) src dst b hs hd hb
    simp [execOp, hop, hx, hrun, Result.andThen, within]
    exact ⟨⟨_, rfl⟩, hr, hf⟩
  · rintro v ⟨r, rfl, hr, hf⟩
    exact hK r hr hf
end
/-- A contract that gives one value, met in a region. -/
theorem loose_of {P : Program} {f : FuncId} {args : Array Value} {w : World} {n : Nat} {v : Value}
    (h : Calls P f args (w.drewN n) fun e w' => e = .returned v ∧ ∃ m, w' = (w.drewN n).drewN m) : Calls P f args (w.drewN n) fun e w'' => ∃ u, e = .returned u ∧ u = v ∧ ∃ m, w'' = w.drewN m :=
  h.mono fun _ _ ⟨he, m, hm⟩ => ⟨v, he, rfl, n + m, by rw [hm, World.drewN_drewN]⟩
theorem loose_of_same {P : Program} {f : FuncId} {args : Array Value} {w : World} {n : Nat} {v : Value}
    (h : Calls P f args (w.drewN n) fun e w' => e = .returned v ∧ w.drewN n = w') : Calls P f args (w.drewN n) fun e w'' => ∃ u, e = .returned u ∧ u = v ∧ ∃ m, w'' = w.drewN m :=
  h.mono fun _ _ ⟨he, hm⟩ => ⟨v, he, rfl, n, hm.symm⟩
end Go.Fk

/- The same for a region whose last operations are forced to come last, and may write. Nothing here names a program. -/
namespace Go.Fk
open Go Go.RowKit

section
variable {P : Program} {ops : Array Oper} {md : Region.Mode} {C : World → Prop} {K : FuncId → Array Value → Value → Prop}

/-- Whatever order is picked of the first n operations; then L. -/
def anyTail (P : Program) (ops : Array Oper) (md : Region.Mode) (C : World → Prop) (K : FuncId → Array Value → Value → Prop) (n : Nat) (L : Array Bool → Act → Prop) : Nat → Array Bool → Act → Prop
  | 0, listed, a => L listed a
  | f + 1, listed, a => Region.ready md ops listed ≠ [] ∧
      ∀ i ∈ Region.ready md ops listed, i < n ∧ ∀ o, ops[i]? = some o → ∃ V, Gives P ops C K o a V ∧ ∀ v, V v → anyTail P ops md C K n L f (listed.setIfInBounds i true) (a.put o.dst v)

theorem wpOp_gives {i : Nat} {o : Oper} {a : Act} {w : World} {V : Value → Prop} {next : Act → World → Prop} {Q' : Exit → Act → World → Prop} (ho : ops[i]? = some o) (hw : C w) (hg : Gives P ops C K o a V)
    (hn : ∀ v w', C w' → V v → next (a.put o.dst v) w') : wpOp P ops Q' i next a w := by
  unfold wpOp
  simp only [ho]
  rcases hg with ⟨hwant, hv⟩ | ⟨hwant, hv⟩
  · rw [if_pos hwant]
    left
    have h3 := hv w hw
    unfold Oper.wp
    generalize (execOp a.eval o).run P w = r at h3
    cases r with
    | ok x w' =>
      cases x <;> simp only [within] at h3 <;> simp only [Oper.upon]
      case value u => exact hn u _ h3.1 h3.2
      case skip => exact hn undef _ h3.1 h3.2
      case enter f args =>
        refine h3.1.mono fun e w'' he => ?_
        obtain ⟨v, rfl, hk, hc⟩ := he
        exact hn v _ hc (h3.2 v hk)
    | halt x w' => simp only [within] at h3
  · rw [if_neg (by simp [hwant])]
    exact hn undef _ hw hv

theorem anyTail_sound {n g : Nat} {L : Array Bool → Act → Prop} {Q' : Exit → Act → World → Prop} (hL : ∀ listed a w, C w → L listed a → wpAny P md ops Q' g listed a w) :
    ∀ (f : Nat) (listed : Array Bool) (a : Act) (w : World), C w → anyTail P ops md C K n L f listed a → wpAny P md ops Q' (f + g) listed a w := by
  intro f
  induction f with
  | zero => intro listed a w hw h; rw [Nat.zero_add]; exact hL _ _ _ hw h
  | succ f ih =>
    intro listed a w hw h
    rw [show f + 1 + g = (f + g) + 1 by omega]
    refine ⟨fun h0 => absurd h0 h.1, fun i hi => ?_⟩
    obtain ⟨_, o, ho, _⟩ := mem_ready.1 hi
    obtain ⟨V, hg, hn⟩ := (h.2 i hi).2 o ho
    exact wpOp_gives ho hw hg (fun v w' hw' hv => ih _ _ _ hw' (hn v hv))

theorem anyTail_first {n i : Nat} {oi : Oper} {V : Value → Prop} {L : Array Bool → Act → Prop} (hi : ops[i]? = some oi) (hsel : ∀ (j : Nat) (o : Oper) cs b, ops[j]? = some o → o.op ≠ .select cs b) (hne : ∃ v, V v)
    (hs : Region.sinkB md ops n = true) (hc : Region.chainB md ops n = true) (hn : n < ops.size) (hin : i < n)
    (hdone : ∀ listed a, L listed a → ∀ j ∈ Region.ready md ops listed, n ≤ j) :
    ∀ (f : Nat) (listed : Array Bool) (a : Act), HeadInv md ops n listed →
      (∀ j oj, ops[j]? = some oj → j ≠ i → listed.getD j true = false → (∀ e ∈ oj.after, Region.binds md e = true → e.on ≠ i) → oi.apart ops oj = true) →
      i ∈ Region.ready md ops listed → Gives P ops C K oi a V →
      (∀ v, V v → anyTail P ops md C K n L f (listed.setIfInBounds i true) (a.put oi.dst v)) → anyTail P ops md C K n L (f + 1) listed a := by
  intro f
  induction f with
  | zero =>
    intro listed a inv _ hr hg H
    have hun := (mem_ready.1 hr).1
    refine ⟨fun h => (by rw [h] at hr; cases hr), fun j hj => ?_⟩
    have hjn : j < n := by
      rcases Nat.lt_or_ge j n with h | h
      · exact h
      · exact absurd hj (tail_waits hs hc hn inv _ i rfl hin hun j h)
    refine ⟨hjn, fun o ho => ?_⟩
    by_cases hji : j = i
    · subst hji
      rw [hi] at ho; cases ho
      exact ⟨V, hg, H⟩
    · obtain ⟨v, hv⟩ := hne
      have := hdone _ _ (H v hv) j (ready_mono hj hji)
      omega
  | succ f ih =>
    intro listed a inv hfree hr hg H
    have hun := (mem_ready.1 hr).1
    refine ⟨fun h => (by rw [h] at hr; cases hr), fun j hj => ?_⟩
    have hjn : j < n := by
      rcases Nat.lt_or_ge j n with h | h
      · exact h
      · exact absurd hj (tail_waits hs hc hn inv _ i rfl hin hun j h)
    refine ⟨hjn, fun o ho => ?_⟩
    by_cases hji : j = i
    · subst hji
      rw [hi] at ho; cases ho
      exact ⟨V, hg, H⟩
    · obtain ⟨hjun, oj, hoj, hall⟩ := mem_ready.1 hj
      rw [ho] at hoj; cases hoj
      have hnot : ∀ e ∈ o.after, Region.binds md e = true → e.on ≠ i := fun e he hb heq => by
        have h1 := hall e he hb
        rw [heq, getD_both hun] at h1
        cases h1
      have hap := hfree j o ho hji hjun hnot
      obtain ⟨a1, a2, a3⟩ := Oper.apart_spec hap
      have hsi := fun cs b => hsel i oi cs b hi
      have hsj := fun cs b => hsel j o cs b ho
      have hU : ∀ v : {v // V v}, ∃ U, Gives P ops C K o (a.put oi.dst v.1) U ∧ ∀ u, U u → anyTail P ops md C K n L f ((listed.setIfInBounds i true).setIfInBounds j true) ((a.put oi.dst v.1).put o.dst u) :=
        fun v => ((H v.1 v.2).2 j (ready_mono hj hji)).2 o ho
      obtain ⟨v0, hv0⟩ := hne
      let good : Value → Prop := fun u => ∀ v : {v // V v}, True → anyTail P ops md C K n L f ((listed.setIfInBounds i true).setIfInBounds j true) ((a.put oi.dst v.1).put o.dst u)
      have hone : ∀ v : {v // V v}, Gives P ops C K o a (fun u => anyTail P ops md C K n L f ((listed.setIfInBounds i true).setIfInBounds j true) ((a.put oi.dst v.1).put o.dst u)) := fun v => by
        obtain ⟨U, h1, h2⟩ := hU v
        have h1' : Gives P ops C K o a U := h1.same (execOp_put o hsj a oi.dst v.1 a1).symm (wanted_put o a oi.dst v.1 a1).symm
        rcases h1' with ⟨hw, h3⟩ | ⟨hw, h3⟩
        · exact .inl ⟨hw, fun w hw' => within_mono h2 (h3 w hw')⟩
        · exact .inr ⟨hw, h2 _ h3⟩
      have hgood : Gives P ops C K o a good := by
        by_cases hw : Region.wanted o (yielded ops a.tmps) = true
        · refine .inl ⟨hw, fun w hw' => ?_⟩
          refine within_all ⟨⟨v0, hv0⟩, trivial⟩ (fun v _ => ?_)
          rcases hone v with ⟨_, h3⟩ | ⟨h3, _⟩
          · exact h3 w hw'
          · rw [hw] at h3; cases h3
        · refine .inr ⟨by simpa using hw, fun v _ => ?_⟩
          rcases hone v with ⟨h3, _⟩ | ⟨_, h3⟩
          · exact absurd h3 hw
          · exact h3
      refine ⟨good, hgood, ?_⟩
      intro u hu
      have hfree' : ∀ k ok, ops[k]? = some ok → k ≠ i → (listed.setIfInBounds j true).getD k true = false →
          (∀ e ∈ ok.after, Region.binds md e = true → e.on ≠ i) → oi.apart ops ok = true := fun k ok hk hki hun hno => by
        refine hfree k ok hk hki ?_ hno
        by_cases hjk : j = k
        · subst hjk; exact hjun
        · rw [getD_set_ne true hjk] at hun; exact hun
      refine ih (listed.setIfInBounds j true) (a.put o.dst u) (inv.set hj hjn) hfree' (ready_mono hr (Ne.symm hji)) (hg.same (execOp_put oi hsi a o.dst u a3) (wanted_put oi a o.dst u a3)) (fun v hv => ?_)
      rw [Array.setIfInBounds_comm _ _ hji, ← Act.put_comm a v u a2]
      exact hu ⟨v, hv⟩ trivial

theorem anyTail_lex {n g : Nat} {Lq : Act → Prop} (hC : ∃ w, C w) (hsel : Region.noSelect ops = true) (hs : Region.sinkB md ops n = true) (hc : Region.chainB md ops n = true) (hn : n < ops.size) :
    ∀ (l : List Oper) (k : Nat) (listed : Array Bool) (a : Act), (∀ j, j < l.length → l[j]? = ops[k + j]?) → k + l.length = n → HeadInv md ops n listed →
    Region.lexHead md ops g l.length k listed = true → wpLoose P ops C K Lq l a →
    anyTail P ops md C K n (fun listed' a' => Region.seqB md ops g n listed' = true ∧ Lq a') l.length listed a := by
  intro l
  induction l with
  | nil =>
    intro k listed a _ hk _ hB h
    have : k = n := by simpa using hk
    subst this
    exact ⟨by simpa [Region.lexHead] using hB, h⟩
  | cons o l ih =>
    intro k listed a hl hk inv hB h
    have h0 : ops[k]? = some o := by simpa using (hl 0 (by simp)).symm
    simp only [List.length_cons, Region.lexHead, Bool.and_eq_true] at hB
    obtain ⟨⟨hr, hf⟩, hB'⟩ := hB
    have hkn : k < n := by simp only [List.length_cons] at hk; omega
    have hr' : k ∈ Region.ready md ops listed := by simpa using hr
    obtain ⟨V, hg, hnext⟩ := h
    exact anyTail_first h0 (Region.noSelect_spec hsel) (hg.some hC) hs hc hn hkn (fun listed' a' hL => seqB_ready hL.1) l.length listed a inv (Region.free_spec h0 hf) hr' hg
      (fun v hv => ih (k + 1) _ _ (fun j hj => by have := hl (j + 1) (by simp; omega); simpa [Nat.add_assoc, Nat.add_comm 1 j] using this) (by simp only [List.length_cons] at hk; omega) (inv.set hr' hkn) hB' (hnext v hv))

/-- ONE WALK SERVES EVERY ORDER; then the last operations, in theirs. -/
theorem wp_region_tail (K : FuncId → Array Value → Value → Prop) {id : Nat} {Q : Exit → Act → World → Prop} {a : Act} {w : World} {l : List Oper} (n : Nat) (hm : P.follows .mixedOrders = true) (hB : Region.lexTailB .any l.toArray n = true)
    (h : wpLoose P l.toArray (fun w' => ∃ m, w' = w.drewN m) K (fun a' => ∀ m, wpList P l.toArray Q (l.drop n) a' (w.drewN m)) (l.take n) a) : (Code.region id l.toArray true).wp P Q a w := by
  simp only [Region.lexTailB, Bool.and_eq_true, decide_eq_true_eq] at hB
  obtain ⟨⟨⟨⟨hsel, hn⟩, hs⟩, hc⟩, hlex⟩ := hB
  have hn' : n < l.length := by simpa using hn
  have htl : (l.take n).length = n := by simp; omega
  have hdl : (l.drop n).length = l.toArray.size - n := by simp
  have hC : ∃ m, ({ w with drawn := w.drawn + 1 } : World) = w.drewN m := ⟨1, rfl⟩
  have inv0 : HeadInv .any l.toArray n (Array.replicate l.toArray.size false) :=
    ⟨by simp, fun j oj _ hl => (by rw [getD_replicate_false] at hl; cases hl), fun t _ ht => getD_in (by simpa using ht) (getD_replicate_false _ _)⟩
  have H := anyTail_lex (md := .any) (C := fun w' => ∃ m, w' = w.drewN m) (g := l.toArray.size - n) ⟨_, hC⟩ hsel hs hc hn (l.take n) 0 _ a (fun j hj => by
    have hj' : j < n := by rw [htl] at hj; exact hj
    simp [hj']) (by simpa using htl) inv0 (by rw [htl]; exact hlex) h
  refine wp_region_any hm ?_
  have := anyTail_sound (Q' := Q) (C := fun w' => ∃ m, w' = w.drewN m) (g := l.toArray.size - n) (fun listed a' w' hw' hL => by
    obtain ⟨m, rfl⟩ := hw'
    have := wpAny_of_seq (md := .any) (Q' := Q) (l.drop n) n listed a' (w.drewN m) (fun j => by simp [List.getElem?_drop]) (by rw [hdl]; exact hL.1) (hL.2 m)
    rwa [hdl] at this) _ _ _ _ hC H
  rw [htl, show n + (l.toArray.size - n) = l.toArray.size by omega] at this
  exact this
end
end Go.Fk

/- Blocks of 16 floats: 'laws.toBlock', 'laws.eqBlock'. -/
namespace Go.Fk
open Go Go.RowKit
/-- A block of 16 floats is given, each up to the bits of NaN; nothing old is written. -/
def OutB (F : Nat → Nat) (w : World) (e : Ending) (w' : World) : Prop := ∃ g, e = .returned (.agg (ftab .f32 g 16)) ∧ (∀ j, j < 16 → can .f32 (g j) = F j ∧ fits .f32 (g j)) ∧ Below w.heap.size w w'
/-- One cell more of a row that is being filled. -/
theorem fill_step {α : Type} {p : Nat → α → Prop} {g : Nat → α} {k : Nat} {r : α} (h : ∀ j, j < k → p j (g j)) (hr : p k r) : ∀ j, j < k + 1 → p j (if j = k then r else g j) := by
  intro j hj
  by_cases e : j = k
  · subst e; simpa using hr
  · simpa [e] using h j (by omega)
theorem rest_step {α : Type} {g x : Nat → α} {k : Nat} {r : α} (h : ∀ j, k ≤ j → g j = x j) : ∀ j, k + 1 ≤ j → (if j = k then r else g j) = x j := by
  intro j hj
  rw [if_neg (by omega)]
  exact h j (by omega)
end Go.Fk
namespace Go.Proofs.Ytkjgcfmfejjdkaa
open Go.RowKit Go.Fk



end Go.Proofs.Ytkjgcfmfejjdkaa

/- Tables of 257 floats: 'laws.toTable', 'laws.eqTable'. -/
namespace Go.Proofs.Ytkjgcfmfejjdkaa
open Go.RowKit Go.Fk
theorem infoTab : (Try.prog.info? 28).map (·.size) = some 257 := by kernel_rfl
theorem allocTab (w : World) : (Instr.alloc 28 true (.tuple #[])).run Try.prog w = .ok (.pointer (some ⟨w.heap.size, 0, none⟩)) (w.alloc (.cells (ftab .f32 (fun _ => 0) 257) 28)) := by kernel_rfl
set_option maxRecDepth 100000 in
theorem eqTab_yes (x y : Nat → Nat) (w : World) (h : ∀ j, j < 257 → can .f32 (x j) = can .f32 (y j)) :
    Calls Try.prog 20 #[.agg (ftab .f32 x 257), .agg (ftab .f32 y 257)] w fun e w' => e = .returned (.bool true) ∧ Below w.heap.size w w' := by
  have H := hid h; clear h
  go_enter Try.func20, Try.ntmps20
  go_wp2
  go_loopw [5] (fun i wr => ∃ k : Nat, k ≤ 257 ∧ i = .int .i64 k ∧ Row wr w.heap.size 28 (ftab .f32 x 257) ∧ Row wr (w.heap.size + 1) 28 (ftab .f32 y 257) ∧ Below w.heap.size w wr) (fun i _ => 257 - (intOf i).toNat)
  case atStart =>
    exact ⟨0, by omega, rfl, (Row.new w _ _).alloc _, Row.new' _ _ _ (by simp), by repeat' (first | (with_reducible exact Below.refl _ _) | (with_reducible assumption) | (with_reducible refine below_drewN ?_ _) | (with_reducible refine Below.alloc ?_ ?_ _) | (with_reducible refine Below.drew ?_) | (with_reducible refine Below.setCell ?_ ?_ _) | go_size)⟩
  case round =>
    obtain ⟨k, hk, rfl, hA, hB, hb⟩ := hrel
    by_cases hlt : k < 257
    · have c1 := hA.ftab hlt
      have c2 := hB.ftab hlt
      have HA := hid hA; clear hA
      have HB := hid hB; clear hB
      have hxy := hid (H.out k hlt)
      go_wp2_with fail
      refine wp_region_loose (fun _ _ v => v = .bool true) (by kernel_rfl) (by kernel_rfl) ?_
      repeat (first | (with_reducible refine wpLoose_widen rfl rfl rfl Try.underlying22 Try.underlying25 ?_; intro r hr hf; simp only [Act.put, List.setIfInBounds_toArray, List.set_cons_succ, List.set_cons_zero]) | (refine wpLoose_quiet rfl ?_; go_big_quiet_step (fail); refine wpQuiet_nil ?_))
      refine wpLoose_any rfl (· = .bool true) (fun n => ?_) ?_
      · go_simp
        refine loose_of (sameFloat_yes _ _ _ ?_)
        have hr1 := ‹Hid (can .f64 _ = can .f64 (widen (x k)))›
        exact hr1.out.trans ((congrArg (can .f64) (widen_congr hxy)).trans hr.out.symm)
      · rintro v rfl
        simp only [Act.put, List.setIfInBounds_toArray, List.set_cons_succ, List.set_cons_zero]
        repeat (refine wpLoose_quiet rfl ?_; go_big_quiet_step (fail); refine wpQuiet_nil ?_)
        refine wpLoose_nil (fun n => ?_)
        go_wp2
        go_roundw
        case rel => exact ⟨k + 1, by omega, by go_num, HA.out.drewN _, HB.out.drewN _, below_drewN hb _⟩
        case measure => simp [intOf]; omega
    · obtain rfl : k = 257 := by omega
      have HA := hid hA; clear hA
      have HB := hid hB; clear hB
      go_wp2
      go_ret
      exact ⟨rfl, hb⟩
end Go.Proofs.Ytkjgcfmfejjdkaa

/- 'FrictionTable' of both. -/
namespace Go.Fk
open Go Go.RowKit
/-- The differences of the table. -/
def difI (j : Nat) : Nat := fop .quo .f32 (floatOfInt .f32 ((j : Int) - 128)) 1124073472
def difS (j : Nat) : Nat := fop .sub .f32 (fop .quo .f32 (floatOfInt .f32 (j : Int)) 1124073472) 1065353216
theorem dif_eq {j : Nat} (h : j < 257) : difI j = difS j := by
  have key : ∀ i : Fin 257, difI i = difS i := by decide +kernel
  exact key ⟨j, h⟩
theorem friV_congr {s d d' : Nat} (h : can .f32 d = can .f32 d') : friV s d = friV s d' := by
  unfold friV
  rw [fop_congr rfl h]
def OutTc (o : Nat → Nat) (c : Int) (w : World) (e : Ending) (w' : World) : Prop := ∃ g : Nat → Nat, e = .returned (.tuple #[.agg (ftab .f32 g 257), .int .i64 c]) ∧ (∀ j, j < 257 → can .f32 (g j) = o j) ∧ le w w'
/-- The table, and the code. -/
def ftO (s j : Nat) : Nat := if fin s = true then friV s (difI j) else 0
def ftC (s : Nat) : Int := if fin s = true then 0 else 2
end Go.Fk
namespace Go.Proofs.Ytkjgcfmfejjdkaa
open Go.RowKit Go.Fk
theorem zeroTabF : Try.zeroCells28 = ftab .f32 (fun _ => 0) 257 := by kernel_rfl
set_option maxRecDepth 100000 in
set_option maxHeartbeats 2000000 in
theorem i_FrictionTable_yes (s : Nat) (w : World) (hx : fits .f32 s) (hs : fin s = true) : Calls Try.prog 19 #[.float .f32 s] w (OutTc (fun j => friV s (difI j)) 0 w) := by
  have HI := hid (fun (w' : World) => i_isFinite s w' hx)
  rw [hs] at HI
  clear hs
  go_enter Try.func19, Try.ntmps19
  go_wp2_with (go_at_call 56; refine (HI.out _).mono ?_; rintro e w' ⟨rfl, rfl⟩)
  go_loopw [10] (fun i wr => ∃ k : Nat, k ≤ 257 ∧ i = .int .i64 k ∧ ∃ g : Nat → Nat, Hid (∀ j, j < k → can .f32 (g j) = friV s (difI j)) ∧ Hid (Row wr (w.heap.size + 1) 28 (ftab .f32 g 257)) ∧ Hid (∃ z, Row wr w.heap.size 28 (ftab .f32 z 257)) ∧ Hid (le w wr)) (fun i _ => 257 - (intOf i).toNat)
  case atStart =>
    refine ⟨0, by omega, rfl, fun _ => 0, fun j hj => absurd hj (by omega), Row.new' _ _ _ (by simp), ⟨fun _ => 0, (Row.new w _ _).alloc _⟩, ?_⟩
    show le w _
    unfold le
    repeat' (first | (with_reducible exact Below.refl _ _) | (with_reducible assumption) | (with_reducible refine below_drewN ?_ _) | (with_reducible refine Below.alloc ?_ ?_ _) | (with_reducible refine Below.drew ?_) | (with_reducible refine Below.setCell ?_ ?_ _) | go_size)
  case round =>
    obtain ⟨k, hk, rfl, g, HG, HT, HZ, HB⟩ := hrel
    by_cases hlt : k < 257
    · go_wp2_with (first | (with_reducible refine wpList_farith (op := .quo) rfl rfl rfl rfl rfl ?_; intro q0 n2 hq0 fs) | (go_at_call 16; ((with_reducible refine (i_FrictionAt _ _ _).mono ?_); rintro e w2 ⟨q, rfl, hq, hb⟩; replace hq := hid hq; replace HB := hid (le_trans (le_trans HB.out (le_drewN _ n2)) hb); have RT := HT.out.le (le_trans (le_drewN _ n2) hb); replace HZ := hid (HZ.out.imp (fun z hz => Row.le hz (le_trans (le_drewN _ n2) hb))); have cc := RT.ftab hlt; have ff := RT.frozen k; replace HT := hid RT; clear hb RT)))
      go_roundw
      case rel =>
        refine ⟨k + 1, by omega, by go_num, fun j => if j = k then q else g j, fill_step (p := fun j v => can .f32 v = friV s (difI j)) HG.out (hq.out.trans (friV_congr (hq0.out.trans (can_fop _ _ _ _).symm))), ?_, HZ.out.imp (fun z hz => hz.other _ _ (by simp)), ?_⟩
        · have := HT.out.set k (.float .f32 q)
          rw [set_ftab] at this
          exact this
        · exact Below.setCell HB.out (by simp) _
      case measure => simp [intOf]; omega
    · obtain rfl : k = 257 := by omega
      have hT := HT.out
      obtain ⟨z, hZ⟩ := HZ.out
      have hsz : (Try.prog.info? 28).map (·.size) = some (ftab .f32 g 257).size := by rw [size_ftab]; exact infoTab
      go_wp2_with (first | (with_reducible refine wpList_loadA rfl rfl rfl hT Try.underlying28 hsz ?_) | (with_reducible refine wpList_storeA rfl rfl rfl rfl hZ hsz (by rw [size_ftab, size_ftab]) (one_ftab _ _ _) ?_))
      exact bodyPost_ret (results_cellrow_tmp rfl _ _ _ _ _ rfl (hZ.setRow _) Try.underlying28 hsz) rfl ⟨g, rfl, HG.out, below_setRow HB.out (Nat.le_refl _) _⟩
set_option maxRecDepth 100000 in
set_option maxHeartbeats 2000000 in
theorem i_FrictionTable_no (s : Nat) (w : World) (hx : fits .f32 s) (hs : fin s = false) : Calls Try.prog 19 #[.float .f32 s] w (OutTc (fun _ => 0) 2 w) := by
  have HI := hid (fun (w' : World) => i_isFinite s w' hx)
  rw [hs] at HI
  clear hs
  have F := (Frm.nil w).box 28 Try.zeroCells28
  go_enter Try.func19, Try.ntmps19
  go_wp2_with (first | (go_at_call 56; refine (HI.out _).mono ?_; rintro e w' ⟨rfl, rfl⟩) | (with_reducible refine stop_store rfl ?_))
  show wpList _ _ _ _ _ _
  refine wpList_storeFr (cells := Try.zeroCells28) (Frm.nil w) rfl rfl rfl (by show Value.pointer _ = _; simp) rfl (by rw [zeroTabF, size_ftab]; exact infoTab) rfl (by rw [zeroTabF]; exact one_ftab _ _ _) (fun W F => ?_)
  rw [zeroTabF] at F
  have RZ := hid (F.row (g := w.heap.size) (t := 28) (cs := ftab .f32 (fun _ => 0) 257) List.mem_cons_self)
  have LB := hid F.below
  clear F
  go_wp2
  have hsz : (Try.prog.info? 28).map (·.size) = some (ftab .f32 (fun _ => 0) 257).size := by rw [size_ftab]; exact infoTab
  exact bodyPost_ret (results_cellrow_tmp rfl _ _ _ _ _ rfl RZ.out Try.underlying28 hsz) rfl ⟨fun _ => 0, rfl, fun _ _ => by show can .f32 0 = 0; decide, LB.out⟩
theorem i_FrictionTable (s : Nat) (w : World) (hx : fits .f32 s) : Calls Try.prog 19 #[.float .f32 s] w (OutTc (ftO s) (ftC s) w) := by
  cases hs : fin s
  · have e1 : ftO s = fun _ => 0 := by funext j; simp [ftO, hs]
    have e2 : ftC s = 2 := by simp [ftC, hs]
    rw [e1, e2]; exact i_FrictionTable_no s w hx hs
  · have e1 : ftO s = fun j => friV s (difI j) := by funext j; simp [ftO, hs]
    have e2 : ftC s = 0 := by simp [ftC, hs]
    rw [e1, e2]; exact i_FrictionTable_yes s w hx hs
set_option maxRecDepth 100000 in
set_option maxHeartbeats 2000000 in
theorem s_FrictionTable_yes (s : Nat) (w : World) (hs : fin s = true) : Calls Try.prog 18 #[.float .f32 s] w (OutTc (fun j => friV s (difI j)) 0 w) := by
  have HI := hid (fun (w' : World) => s_l01Finite s w')
  rw [hs] at HI
  clear hs
  go_enter Try.func18, Try.ntmps18
  have F := (Frm.nil w).box 28 Try.zeroCells28
  go_wp2_with ((with_reducible refine stop_store rfl ?_))
  show wpList _ _ _ _ _ _
  refine wpList_storeFr (cells := Try.zeroCells28) F rfl rfl rfl (by show Value.pointer _ = _; simp) rfl (by rw [zeroTabF, size_ftab]; exact infoTab) rfl (by rw [zeroTabF]; exact one_ftab _ _ _) (fun W F => ?_)
  rw [zeroTabF] at F
  simp only [World.size_alloc] at F
  have RT := hid (F.row (g := w.heap.size + 1) (t := 28) (cs := ftab .f32 (fun _ => 0) 257) List.mem_cons_self)
  have RZ := hid (F.row (g := w.heap.size) (t := 28) (cs := ftab .f32 (fun _ => 0) 257) (List.mem_cons_of_mem _ List.mem_cons_self))
  have LB := hid F.below
  clear F
  go_wp2_with (go_at_call 55; refine (HI.out _).mono ?_; rintro e w' ⟨rfl, nf, rfl⟩)
  go_loopw [5] (fun i wr => ∃ k : Nat, k ≤ 257 ∧ i = .int .i64 k ∧ ∃ g : Nat → Nat, Hid (∀ j, j < k → can .f32 (g j) = friV s (difI j)) ∧ Hid (Row wr (w.heap.size + 1) 28 (ftab .f32 g 257)) ∧ Hid (∃ z, Row wr w.heap.size 28 (ftab .f32 z 257)) ∧ Hid (le w wr)) (fun i _ => 257 - (intOf i).toNat)
  case atStart =>
    exact ⟨0, by omega, rfl, fun _ => 0, fun j hj => absurd hj (by omega), RT.out.drewN _, ⟨fun _ => 0, RZ.out.drewN _⟩, le_trans LB.out (le_drewN _ _)⟩
  case round =>
    clear RT RZ LB
    obtain ⟨k, hk, rfl, g, HG, HT, HZ, HB⟩ := hrel
    by_cases hlt : k < 257
    · have hlt' : (k : Int) ≤ 256 := by omega
      go_wp2_with (first | (with_reducible refine wpList_farith (op := .quo) rfl rfl rfl rfl rfl ?_; intro q0 n2 hq0 fs) | (with_reducible refine wpList_farith (op := .sub) rfl rfl rfl rfl rfl ?_; intro q1 n3 hq1 fs1) | (go_at_call 51; ((with_reducible refine (s_l05Friction _ _ _).mono ?_); rintro e w2 ⟨q, rfl, hq, hb⟩; replace hq := hid hq; replace HB := hid (le_trans (le_trans HB.out (le_drewN _ (n2 + n3))) hb); have RT := HT.out.le (le_trans (le_drewN _ (n2 + n3)) hb); replace HZ := hid (HZ.out.imp (fun z hz => Row.le hz (le_trans (le_drewN _ (n2 + n3)) hb))); have cc := RT.ftab hlt; have ff := RT.frozen k; replace HT := hid RT; clear hb RT)))
      go_roundw
      case rel =>
        have hd : can .f32 q1 = can .f32 (difI k) := by
          rw [dif_eq hlt]
          unfold difS
          rw [can_fop, hq1.out]
          exact fop_congr (hq0.out.trans (can_fop _ _ _ _).symm) rfl
        refine ⟨k + 1, by omega, by go_num, fun j => if j = k then q else g j, fill_step (p := fun j v => can .f32 v = friV s (difI j)) HG.out (hq.out.trans (friV_congr hd)), ?_, HZ.out.imp (fun z hz => Row.other hz _ _ (by simp)), ?_⟩
        · have := HT.out.set k (.float .f32 q)
          rw [set_ftab] at this
          exact this
        · exact Below.setCell HB.out (by simp) _
      case measure => simp [intOf]; omega
    · obtain rfl : k = 257 := by omega
      have hT := HT.out
      obtain ⟨z, hZ⟩ := HZ.out
      have hsz : (Try.prog.info? 28).map (·.size) = some (ftab .f32 g 257).size := by rw [size_ftab]; exact infoTab
      go_wp2_with (first | (with_reducible refine wpList_loadA rfl rfl rfl hT Try.underlying28 hsz ?_) | (with_reducible refine wpList_storeA rfl rfl rfl rfl hZ hsz (by rw [size_ftab, size_ftab]) (one_ftab _ _ _) ?_))
      exact bodyPost_ret (results_cellrow_tmp rfl _ _ _ _ _ rfl (hZ.setRow _) Try.underlying28 hsz) rfl ⟨g, rfl, HG.out, below_setRow HB.out (Nat.le_refl _) _⟩
set_option maxRecDepth 100000 in
set_option maxHeartbeats 2000000 in
theorem s_FrictionTable_no (s : Nat) (w : World) (hs : fin s = false) : Calls Try.prog 18 #[.float .f32 s] w (OutTc (fun _ => 0) 2 w) := by
  have HI := hid (fun (w' : World) => s_l01Finite s w')
  rw [hs] at HI
  clear hs
  go_enter Try.func18, Try.ntmps18
  have F := (Frm.nil w).box 28 Try.zeroCells28
  go_wp2_with ((with_reducible refine stop_store rfl ?_))
  show wpList _ _ _ _ _ _
  refine wpList_storeFr (cells := Try.zeroCells28) F rfl rfl rfl (by show Value.pointer _ = _; simp) rfl (by rw [zeroTabF, size_ftab]; exact infoTab) rfl (by rw [zeroTabF]; exact one_ftab _ _ _) (fun W F => ?_)
  rw [zeroTabF] at F
  simp only [World.size_alloc] at F
  have RT := hid (F.row (g := w.heap.size + 1) (t := 28) (cs := ftab .f32 (fun _ => 0) 257) List.mem_cons_self)
  have RZ := hid (F.row (g := w.heap.size) (t := 28) (cs := ftab .f32 (fun _ => 0) 257) (List.mem_cons_of_mem _ List.mem_cons_self))
  have LB := hid F.below
  clear F
  have hsz : (Try.prog.info? 28).map (·.size) = some (ftab .f32 (fun _ => 0) 257).size := by rw [size_ftab]; exact infoTab
  go_wp2_with (first | (go_at_call 55; refine (HI.out _).mono ?_; rintro e w' ⟨rfl, nf, rfl⟩; have hT := RT.out.drewN nf; have hZ := RZ.out.drewN nf) | (with_reducible refine wpList_loadA rfl rfl rfl hT Try.underlying28 hsz ?_) | (with_reducible refine wpList_storeA rfl rfl rfl rfl hZ hsz (by rw [size_ftab]) (one_ftab _ _ _) ?_))
  exact bodyPost_ret (results_cellrow_tmp rfl _ _ _ _ _ rfl (hZ.setRow _) Try.underlying28 hsz) rfl ⟨fun _ => 0, rfl, fun _ _ => by show can .f32 0 = 0; decide, below_setRow (le_trans LB.out (le_drewN _ _)) (Nat.le_refl _) _⟩
theorem s_FrictionTable (s : Nat) (w : World) : Calls Try.prog 18 #[.float .f32 s] w (OutTc (ftO s) (ftC s) w) := by
  cases hs : fin s
  · have e1 : ftO s = fun _ => 0 := by funext j; simp [ftO, hs]
    have e2 : ftC s = 2 := by simp [ftC, hs]
    rw [e1, e2]; exact s_FrictionTable_no s w hs
  · have e1 : ftO s = fun j => friV s (difI j) := by funext j; simp [ftO, hs]
    have e2 : ftC s = 0 := by simp [ftC, hs]
    rw [e1, e2]; exact s_FrictionTable_yes s w hs
end Go.Proofs.Ytkjgcfmfejjdkaa

/- The walk of 'FnExactFrictionTable'. -/
namespace Go.Proofs.Ytkjgcfmfejjdkaa.fnExactFrictionTable
open Go.RowKit Go.Fk
set_option maxRecDepth 100000 in
set_option maxHeartbeats 2000000 in
theorem walk (a0 : Nat) (w : World) (w0 : fits .f32 a0) :
    Calls Try.prog 4 #[.float .f32 a0] w fun e w' => e = .returned (.bool true) ∧ Below w.heap.size w w' := by
  have F := Frm.nil w
  go_enter Try.func4, Try.ntmps4
  go_wp2_with (first | ((with_reducible refine at_load rfl ?_); first | (with_reducible refine wpList_loadFr F rfl rfl rfl (by first | exact List.mem_cons_self | exact List.mem_cons_of_mem _ (List.mem_cons_self) | exact List.mem_cons_of_mem _ (List.mem_cons_of_mem _ (List.mem_cons_self)) | exact List.mem_cons_of_mem _ (List.mem_cons_of_mem _ (List.mem_cons_of_mem _ (List.mem_cons_self))) | exact List.mem_cons_of_mem _ (List.mem_cons_of_mem _ (List.mem_cons_of_mem _ (List.mem_cons_of_mem _ (List.mem_cons_self)))) | exact List.mem_cons_of_mem _ (List.mem_cons_of_mem _ (List.mem_cons_of_mem _ (List.mem_cons_of_mem _ (List.mem_cons_of_mem _ (List.mem_cons_self))))) | exact List.mem_cons_of_mem _ (List.mem_cons_of_mem _ (List.mem_cons_of_mem _ (List.mem_cons_of_mem _ (List.mem_cons_of_mem _ (List.mem_cons_of_mem _ (List.mem_cons_self))))))) Try.underlying28 rfl infoTab (by simp [size_ftab]) ?_)) | (go_at_call 18; ((with_reducible refine (s_FrictionTable _ _).mono ?_); rintro e w1 ⟨p, rfl, hp, hb⟩; replace hp := hid hp; (first | replace F := F.le hb | replace F := (F.box _ _).le hb | replace F := ((F.box _ _).box _ _).le hb | replace F := (F.drewN _).le hb | replace F := ((F.box _ _).drewN _).le hb))) | (go_at_call 19; ((with_reducible refine (i_FrictionTable _ _ w0).mono ?_); rintro e w1 ⟨q, rfl, hq, hb⟩; replace hq := hid hq; (first | replace F := F.le hb | replace F := (F.box _ _).le hb | replace F := ((F.box _ _).box _ _).le hb | replace F := (F.drewN _).le hb | replace F := ((F.box _ _).drewN _).le hb))) | (refine wpList_storeFr F rfl rfl rfl rfl rfl (by rw [size_ftab]; exact infoTab) (by rw [size_ftab]; rfl) (one_ftab _ _ _) ?_; clear F; intro W F) | (go_at_call 20; ((with_reducible refine (eqTab_yes _ _ _ (fun j hj => ((hq.out j hj).trans (hp.out j hj).symm))).mono ?_); rintro e w7 ⟨rfl, hb7⟩; (first | replace F := F.le hb7 | replace F := (F.box _ _).le hb7 | replace F := ((F.box _ _).box _ _).le hb7 | replace F := (F.drewN _).le hb7 | replace F := ((F.box _ _).drewN _).le hb7))))
  go_ret
  first | exact ⟨rfl, F.below⟩ | exact ⟨rfl, below_drewN F.below _⟩
end Go.Proofs.Ytkjgcfmfejjdkaa.fnExactFrictionTable
