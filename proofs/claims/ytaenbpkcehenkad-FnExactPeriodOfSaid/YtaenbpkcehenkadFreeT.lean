/- As Free, but the operations of the region may write into some blocks: the order of worlds is a parameter. Nothing here names a program. -/
import Derived.Test.YtaenbpkcehenkadFrm
namespace Go.Fk
open Go Go.RowKit

/-- An order of worlds: what the operations of a region may turn. -/
structure Ext where
  R : World → World → Prop
  refl : ∀ w, R w w
  trans : ∀ {a b c : World}, R a b → R b c → R a c
  of_le : ∀ {a b : World}, le a b → R a b
theorem Ext.drewN (E : Ext) (w : World) (n : Nat) : E.R w (w.drewN n) := E.of_le (le_drewN w n)

section
variable (E : Ext) (P : Program) (ops : Array Oper) (md : Region.Mode) (W : World) (K : FuncId → Array Value → World → Value → Prop)

/-- What an operation's run in w must be, for its value to be one of V. -/
def insideT (w : World) (V : World → Value → Prop) : Result Next → Prop
  | .ok (.value u) w' => E.R w w' ∧ V w' u
  | .ok .skip w' => E.R w w' ∧ V w' undef
  | .ok (.enter f args) w' => E.R w w' ∧ Calls P f args w' (fun e w'' => ∃ v, e = .returned v ∧ E.R w' w'' ∧ K f args w'' v) ∧ ∀ w'' v, K f args w'' v → V w'' v
  | _ => False

def MonoT (V : World → Value → Prop) : Prop := ∀ v w w', E.R w w' → V w v → V w' v

def YieldsT (o : Oper) (a : Act) (V : World → Value → Prop) : Prop :=
  MonoT E V ∧ ((Region.wanted o (yielded ops a.tmps) = true ∧ ∀ w, E.R W w → insideT E P K w V ((execOp a.eval o).run P w)) ∨ (Region.wanted o (yielded ops a.tmps) = false ∧ ∀ w, E.R W w → V w undef))

/-- The walk in the order of the text; what is known of the world is gathered. -/
def wpFreeT (Q : Act → World → Prop) : List Oper → Act → (World → Prop) → Prop
  | [], a, F => ∀ w, E.R W w → F w → Q a w
  | o :: rest, a, F => ∃ V, YieldsT E P ops W K o a V ∧ ∀ v, (∃ w, E.R W w ∧ V w v) → wpFreeT Q rest (a.put o.dst v) (fun w => F w ∧ V w v)

/-- Whatever order is picked of the first n operations; then L. -/
def anyFreeT (n : Nat) (L : Array Bool → Act → (World → Prop) → Prop) : Nat → Array Bool → Act → (World → Prop) → Prop
  | 0, listed, a, F => L listed a F
  | f + 1, listed, a, F => Region.ready md ops listed ≠ [] ∧
      ∀ i ∈ Region.ready md ops listed, i < n ∧ ∀ o, ops[i]? = some o → ∃ V, YieldsT E P ops W K o a V ∧ ∀ v, (∃ w, E.R W w ∧ V w v) → anyFreeT n L f (listed.setIfInBounds i true) (a.put o.dst v) (fun w => F w ∧ V w v)
end

section
variable {E : Ext} {P : Program} {ops : Array Oper} {md : Region.Mode} {W : World} {K : FuncId → Array Value → World → Value → Prop}

theorem inside_allT {ι : Type} {V : ι → World → Value → Prop} {w : World} {r : Result Next} (hne : ∃ _ : ι, True) (h : ∀ i, insideT E P K w (V i) r) : insideT E P K w (fun w' v => ∀ i, V i w' v) r := by
  obtain ⟨i0, _⟩ := hne
  have hr := h i0
  cases r with
  | ok n w' =>
    cases n <;> simp only [insideT] at hr h ⊢
    case value u => exact ⟨hr.1, fun i => (h i).2⟩
    case skip => exact ⟨hr.1, fun i => (h i).2⟩
    case enter f args => exact ⟨hr.1, hr.2.1, fun w'' v hv i => (h i).2.2 w'' v hv⟩
  | halt x w' => simp only [insideT] at hr

theorem inside_someT {V : World → Value → Prop} {w : World} (hw : E.R W w) {r : Result Next} (h : insideT E P K w V r) : ∃ v, ∃ w', E.R W w' ∧ V w' v := by
  cases r with
  | ok n w' =>
    cases n <;> simp only [insideT] at h
    case value u => exact ⟨u, w', E.trans hw h.1, h.2⟩
    case skip => exact ⟨undef, w', E.trans hw h.1, h.2⟩
    case enter f args =>
      obtain ⟨e, w'', fr, ⟨v, _, hl, hk⟩, _⟩ := h.2.1 []
      exact ⟨v, w'', E.trans (E.trans hw h.1) hl, h.2.2 w'' v hk⟩
  | halt x w' => simp only [insideT] at h

theorem YieldsT.some {o : Oper} {a : Act} {V : World → Value → Prop} (h : YieldsT E P ops W K o a V) : ∃ v, ∃ w, E.R W w ∧ V w v := by
  rcases h.2 with ⟨_, h⟩ | ⟨_, h⟩
  · exact inside_someT (E.refl W) (h W (E.refl W))
  · exact ⟨undef, W, E.refl W, h W (E.refl W)⟩

theorem YieldsT.same {o : Oper} {a a' : Act} {V : World → Value → Prop} (he : execOp a'.eval o = execOp a.eval o) (hw : Region.wanted o (yielded ops a'.tmps) = Region.wanted o (yielded ops a.tmps))
    (h : YieldsT E P ops W K o a V) : YieldsT E P ops W K o a' V := by
  unfold YieldsT at *; rw [he, hw]; exact h

theorem wpOp_yieldsT {i : Nat} {o : Oper} {a : Act} {w : World} {V : World → Value → Prop} {next : Act → World → Prop} {Q' : Exit → Act → World → Prop} (ho : ops[i]? = some o) (hw : E.R W w) (hg : YieldsT E P ops W K o a V)
    (hn : ∀ v w', E.R w w' → V w' v → next (a.put o.dst v) w') : wpOp P ops Q' i next a w := by
  unfold wpOp
  simp only [ho]
  rcases hg.2 with ⟨hwant, hv⟩ | ⟨hwant, hv⟩
  · rw [if_pos hwant]
    left
    have h3 := hv w hw
    unfold Oper.wp
    generalize (execOp a.eval o).run P w = r at h3
    cases r with
    | ok x w' =>
      cases x <;> simp only [insideT] at h3 <;> simp only [Oper.upon]
      case value u => exact hn u _ h3.1 h3.2
      case skip => exact hn undef _ h3.1 h3.2
      case enter f args =>
        refine h3.2.1.mono fun e w'' he => ?_
        obtain ⟨v, rfl, hl, hk⟩ := he
        exact hn v _ (E.trans h3.1 hl) (h3.2.2 w'' v hk)
    | halt x w' => simp only [insideT] at h3
  · rw [if_neg (by simp [hwant])]
    exact hn undef _ (E.refl w) (hv w hw)

theorem anyFree_soundT {n g : Nat} {L : Array Bool → Act → (World → Prop) → Prop} {Q' : Exit → Act → World → Prop} (hL : ∀ listed a F w, E.R W w → F w → L listed a F → wpAny P md ops Q' g listed a w) :
    ∀ (f : Nat) (listed : Array Bool) (a : Act) (F : World → Prop) (w : World), (∀ w w', E.R w w' → F w → F w') → E.R W w → F w → anyFreeT E P ops md W K n L f listed a F → wpAny P md ops Q' (f + g) listed a w := by
  intro f
  induction f with
  | zero => intro listed a F w _ hw hF h; rw [Nat.zero_add]; exact hL _ _ _ _ hw hF h
  | succ f ih =>
    intro listed a F w hm hw hF h
    rw [show f + 1 + g = (f + g) + 1 by omega]
    refine ⟨fun h0 => absurd h0 h.1, fun i hi => ?_⟩
    obtain ⟨_, o, ho, _⟩ := mem_ready.1 hi
    obtain ⟨V, hg, hn⟩ := (h.2 i hi).2 o ho
    exact wpOp_yieldsT ho hw hg (fun v w' hl hv => ih _ _ _ _ (fun u u' hu hh => ⟨hm u u' hu hh.1, hg.1 v u u' hu hh.2⟩) (E.trans hw hl) ⟨hm w w' hl hF, hv⟩ (hn v ⟨w', E.trans hw hl, hv⟩))

theorem anyFree_weakenT {n : Nat} {L : Array Bool → Act → (World → Prop) → Prop} (hLm : ∀ listed a F F', (∀ w, F' w → F w) → L listed a F → L listed a F') :
    ∀ (f : Nat) (listed : Array Bool) (a : Act) (F F' : World → Prop), (∀ w, F' w → F w) → anyFreeT E P ops md W K n L f listed a F → anyFreeT E P ops md W K n L f listed a F' := by
  intro f
  induction f with
  | zero => intro listed a F F' h hh; exact hLm _ _ _ _ h hh
  | succ f ih =>
    intro listed a F F' h hh
    refine ⟨hh.1, fun i hi => ⟨(hh.2 i hi).1, fun o ho => ?_⟩⟩
    obtain ⟨V, hg, hn⟩ := (hh.2 i hi).2 o ho
    exact ⟨V, hg, fun v hv => ih _ _ _ _ (fun w hw => ⟨h w hw.1, hw.2⟩) (hn v hv)⟩

theorem anyFree_firstT {n i : Nat} {oi : Oper} {V : World → Value → Prop} {L : Array Bool → Act → (World → Prop) → Prop} (hi : ops[i]? = some oi) (hsel : ∀ (j : Nat) (o : Oper) cs b, ops[j]? = some o → o.op ≠ .select cs b)
    (hbound : ∀ listed i, HeadInv md ops n listed → i < n → listed.getD i true = false → ∀ j ∈ Region.ready md ops listed, j < n) (hin : i < n)
    (hdone : ∀ listed a F, L listed a F → ∀ j ∈ Region.ready md ops listed, n ≤ j) (hLm : ∀ listed a F F', (∀ w, F' w → F w) → L listed a F → L listed a F') :
    ∀ (f : Nat) (listed : Array Bool) (a : Act) (F : World → Prop), HeadInv md ops n listed →
      (∀ j oj, ops[j]? = some oj → j ≠ i → listed.getD j true = false → (∀ e ∈ oj.after, Region.binds md e = true → e.on ≠ i) → oi.apart ops oj = true) →
      i ∈ Region.ready md ops listed → YieldsT E P ops W K oi a V →
      (∀ v, (∃ w, E.R W w ∧ V w v) → anyFreeT E P ops md W K n L f (listed.setIfInBounds i true) (a.put oi.dst v) (fun w => F w ∧ V w v)) → anyFreeT E P ops md W K n L (f + 1) listed a F := by
  intro f
  induction f with
  | zero =>
    intro listed a F inv _ hr hg H
    have hun := (mem_ready.1 hr).1
    refine ⟨fun h => (by rw [h] at hr; cases hr), fun j hj => ?_⟩
    have hjn := hbound listed i inv hin hun j hj
    refine ⟨hjn, fun o ho => ?_⟩
    by_cases hji : j = i
    · subst hji
      rw [hi] at ho; cases ho
      exact ⟨V, hg, H⟩
    · obtain ⟨v, hv⟩ := hg.some
      have := hdone _ _ _ (H v hv) j (ready_mono hj hji)
      omega
  | succ f ih =>
    intro listed a F inv hfree hr hg H
    have hun := (mem_ready.1 hr).1
    refine ⟨fun h => (by rw [h] at hr; cases hr), fun j hj => ?_⟩
    have hjn := hbound listed i inv hin hun j hj
    refine ⟨hjn, fun o ho => ?_⟩
    by_cases hji : j = i
    · subst hji
      rw [hi] at ho; cases ho
      exact ⟨V, hg, H⟩
    · obtain ⟨hjun, oj, hoj, hall⟩ := mem_ready.1 hj
      rw [ho] at hoj; cases hoj
      have hnot : ∀ e ∈ o.after, Region.binds md e = true → e.on ≠ i := fun e he hb heq => by
        have h1 := hall e he hb
        rw [heq, getD_both hun] at h1
        cases h1
      have hap := hfree j o ho hji hjun hnot
      obtain ⟨a1, a2, a3⟩ := Oper.apart_spec hap
      have hsi := fun cs b => hsel i oi cs b hi
      have hsj := fun cs b => hsel j o cs b ho
      have hU : ∀ v : {v // ∃ w, E.R W w ∧ V w v}, ∃ U, YieldsT E P ops W K o (a.put oi.dst v.1) U ∧ ∀ u, (∃ w, E.R W w ∧ U w u) →
          anyFreeT E P ops md W K n L f ((listed.setIfInBounds i true).setIfInBounds j true) ((a.put oi.dst v.1).put o.dst u) (fun w => (F w ∧ V w v.1) ∧ U w u) :=
        fun v => ((H v.1 v.2).2 j (ready_mono hj hji)).2 o ho
      obtain ⟨U, hU⟩ := Classical.skolem.1 hU
      obtain ⟨v0, hv0⟩ := hg.some
      have hone : ∀ v, YieldsT E P ops W K o a (U v) := fun v => (hU v).1.same (execOp_put o hsj a oi.dst v.1 a1).symm (wanted_put o a oi.dst v.1 a1).symm
      have hgood : YieldsT E P ops W K o a (fun w u => ∀ v, U v w u) := by
        refine ⟨fun u w w' hl h v => (hone v).1 u w w' hl (h v), ?_⟩
        by_cases hw : Region.wanted o (yielded ops a.tmps) = true
        · refine .inl ⟨hw, fun w hw' => inside_allT ⟨⟨v0, hv0⟩, trivial⟩ (fun v => ?_)⟩
          rcases (hone v).2 with ⟨_, h3⟩ | ⟨h3, _⟩
          · exact h3 w hw'
          · rw [hw] at h3; cases h3
        · refine .inr ⟨by simpa using hw, fun w hw' v => ?_⟩
          rcases (hone v).2 with ⟨h3, _⟩ | ⟨_, h3⟩
          · exact absurd h3 hw
          · exact h3 w hw'
      refine ⟨_, hgood, ?_⟩
      intro u hu
      have hfree' : ∀ k ok, ops[k]? = some ok → k ≠ i → (listed.setIfInBounds j true).getD k true = false →
          (∀ e ∈ ok.after, Region.binds md e = true → e.on ≠ i) → oi.apart ops ok = true := fun k ok hk hki hun hno => by
        refine hfree k ok hk hki ?_ hno
        by_cases hjk : j = k
        · subst hjk; exact hjun
        · rw [getD_set_ne true hjk] at hun; exact hun
      refine ih (listed.setIfInBounds j true) (a.put o.dst u) _ (inv.set hj hjn) hfree' (ready_mono hr (Ne.symm hji)) (hg.same (execOp_put oi hsi a o.dst u a3) (wanted_put oi a o.dst u a3)) (fun v hv => ?_)
      rw [Array.setIfInBounds_comm _ _ hji, ← Act.put_comm a v u a2]
      obtain ⟨w, hw, hu⟩ := hu
      exact anyFree_weakenT hLm _ _ _ _ _ (fun w' h' => ⟨⟨h'.1.1, h'.2⟩, h'.1.2 ⟨v, hv⟩⟩) ((hU ⟨v, hv⟩).2 u ⟨w, hw, hu ⟨v, hv⟩⟩)

theorem anyFree_lexT {n g : Nat} {R : Act → World → Prop} (hsel : Region.noSelect ops = true)
    (hbound : ∀ listed i, HeadInv md ops n listed → i < n → listed.getD i true = false → ∀ j ∈ Region.ready md ops listed, j < n) :
    ∀ (l : List Oper) (k : Nat) (listed : Array Bool) (a : Act) (F : World → Prop), (∀ j, j < l.length → l[j]? = ops[k + j]?) → k + l.length = n → HeadInv md ops n listed →
    Region.lexHead md ops g l.length k listed = true → wpFreeT E P ops W K R l a F →
    anyFreeT E P ops md W K n (fun listed' a' F' => Region.seqB md ops g n listed' = true ∧ ∀ w, E.R W w → F' w → R a' w) l.length listed a F := by
  intro l
  induction l with
  | nil =>
    intro k listed a F _ hk _ hB h
    have : k = n := by simpa using hk
    subst this
    exact ⟨by simpa [Region.lexHead] using hB, h⟩
  | cons o l ih =>
    intro k listed a F hl hk inv hB h
    have h0 : ops[k]? = some o := by simpa using (hl 0 (by simp)).symm
    simp only [List.length_cons, Region.lexHead, Bool.and_eq_true] at hB
    obtain ⟨⟨hr, hf⟩, hB'⟩ := hB
    have hkn : k < n := by simp only [List.length_cons] at hk; omega
    have hr' : k ∈ Region.ready md ops listed := by simpa using hr
    obtain ⟨V, hg, hnext⟩ := h
    exact anyFree_firstT h0 (Region.noSelect_spec hsel) hbound hkn (fun listed' a' F' hL => seqB_ready hL.1) (fun _ _ _ _ hF hL => ⟨hL.1, fun w hw h' => hL.2 w hw (hF w h')⟩) l.length listed a F inv (Region.free_spec h0 hf) hr' hg
      (fun v hv => ih (k + 1) _ _ _ (fun j hj => by have := hl (j + 1) (by simp; omega); simpa [Nat.add_assoc, Nat.add_comm 1 j] using this) (by simp only [List.length_cons] at hk; omega) (inv.set hr' hkn) hB' (hnext v hv))

/-- A REGION WITH FORCED LAST OPERATIONS (from number n on). -/
theorem region_tailT (K : FuncId → Array Value → World → Value → Prop) {id : Nat} {Q : Exit → Act → World → Prop} {a : Act} {w : World} {l : List Oper} (n : Nat) (hm : P.follows .mixedOrders = true) (hB : Region.lexTailB .any l.toArray n = true)
    (h : wpFreeT E P l.toArray (w.drewN 1) K (fun a' w' => wpList P l.toArray Q (l.drop n) a' w') (l.take n) a (fun _ => True)) : (Code.region id l.toArray true).wp P Q a w := by
  simp only [Region.lexTailB, Bool.and_eq_true, decide_eq_true_eq] at hB
  obtain ⟨⟨⟨⟨hsel, hn⟩, hs⟩, hc⟩, hlex⟩ := hB
  have hn' : n < l.length := by simpa using hn
  have htl : (l.take n).length = n := by simp; omega
  have hdl : (l.drop n).length = l.toArray.size - n := by simp
  have hbound : ∀ listed i, HeadInv .any l.toArray n listed → i < n → listed.getD i true = false → ∀ j ∈ Region.ready .any l.toArray listed, j < n := by
    intro listed i inv hi hun j hj
    rcases Nat.lt_or_ge j n with h | h
    · exact h
    · exact absurd hj (tail_waits hs hc hn inv _ i rfl hi hun j h)
  have H := anyFree_lexT (md := .any) (g := l.toArray.size - n) hsel hbound (l.take n) 0 _ a _ (fun j hj => by
    have hj' : j < n := by rw [htl] at hj; exact hj
    simp [hj']) (by simpa using htl) (head_start _ n) (by rw [htl]; exact hlex) h
  refine wp_region_any hm ?_
  have := anyFree_soundT (Q' := Q) (W := w.drewN 1) (g := l.toArray.size - n) (fun listed a' F w' hw' hF hL => by
    have := wpAny_of_seq (md := .any) (Q' := Q) (l.drop n) n listed a' w' (fun j => by simp [List.getElem?_drop]) (by rw [hdl]; exact hL.1) (hL.2 w' hw' hF)
    rwa [hdl] at this) _ _ _ _ _ (fun _ _ _ h => h) (E.refl _) trivial H
  rw [htl, show n + (l.toArray.size - n) = l.toArray.size by omega] at this
  exact this

/-- A REGION WITHOUT. -/
theorem region_freeT (K : FuncId → Array Value → World → Value → Prop) {id : Nat} {Q : Exit → Act → World → Prop} {a : Act} {w : World} {l : List Oper} (hm : P.follows .mixedOrders = true)
    (hB : (Region.noSelect l.toArray && Region.lexHead .any l.toArray 0 l.length 0 (Array.replicate l.toArray.size false)) = true)
    (h : wpFreeT E P l.toArray (w.drewN 1) K (fun a' w' => Q .normal a' w') l a (fun _ => True)) : (Code.region id l.toArray true).wp P Q a w := by
  simp only [Bool.and_eq_true] at hB
  obtain ⟨hsel, hlex⟩ := hB
  have hbound : ∀ listed i, HeadInv .any l.toArray l.length listed → i < l.length → listed.getD i true = false → ∀ j ∈ Region.ready .any l.toArray listed, j < l.length := by
    intro listed i _ _ _ j hj
    obtain ⟨_, oj, hoj, _⟩ := mem_ready.1 hj
    simpa using (Array.getElem?_eq_some_iff.1 hoj).1
  have H := anyFree_lexT (md := .any) (g := 0) hsel hbound l 0 _ a _ (fun j hj => by simp) (by simp) (head_start _ l.length) hlex h
  refine wp_region_any hm ?_
  have := anyFree_soundT (Q' := Q) (W := w.drewN 1) (g := 0) (fun listed a' F w' hw' hF hL => ⟨by simpa [Region.seqB] using hL.1, hL.2 w' hw' hF⟩) _ _ _ _ _ (fun _ _ _ h => h) (E.refl _) trivial H
  rw [Nat.add_zero] at this
  exact this
end

section
variable {E : Ext} {P : Program} {ops : Array Oper} {W : World} {K : FuncId → Array Value → World → Value → Prop} {Q : Act → World → Prop} {F : World → Prop} {o : Oper} {rest : List Oper} {a : Act}

theorem wpFree_nilT (h : ∀ w, E.R W w → F w → Q a w) : wpFreeT E P ops W K Q [] a F := h

/-- An operation that gives one value and leaves the world as it is. -/
theorem wpFree_oneT (hg : o.guard = none) (v : Value) (hr : ∀ w, E.R W w → (execOp a.eval o).run P w = .ok (.value v) w)
    (h : wpFreeT E P ops W K Q rest (a.put o.dst v) F) : wpFreeT E P ops W K Q (o :: rest) a F := by
  refine ⟨fun _ u => u = v, ⟨fun _ _ _ _ h => h, .inl ⟨by simp [Region.wanted, hg], fun w hw => ?_⟩⟩, fun u hu => ?_⟩
  · rw [hr w hw]; exact ⟨E.refl w, rfl⟩
  · obtain ⟨w, _, rfl⟩ := hu
    have e : (fun w => F w ∧ u = u) = F := by funext w; simp
    rw [e]; exact h

/-- A value known up to a predicate that does not speak of the world; the world may be drawn from. -/
theorem wpFree_someT (hg : o.guard = none) (V : Value → Prop) (hr : ∀ w, E.R W w → ∃ v n, (execOp a.eval o).run P w = .ok (.value v) (w.drewN n) ∧ V v)
    (h : ∀ v, V v → wpFreeT E P ops W K Q rest (a.put o.dst v) F) : wpFreeT E P ops W K Q (o :: rest) a F := by
  refine ⟨fun _ u => V u, ⟨fun _ _ _ _ h => h, .inl ⟨by simp [Region.wanted, hg], fun w hw => ?_⟩⟩, fun u hu => ?_⟩
  · obtain ⟨v, n, hrun, hv⟩ := hr w hw
    rw [hrun]; exact ⟨E.drewN w n, hv⟩
  · obtain ⟨w, _, hv⟩ := hu
    have h' := h u hv
    have e : (fun w => F w ∧ V u) = F := by funext w; simp [hv]
    rw [e]; exact h'

/-- A call. -/
theorem wpFree_callT (hg : o.guard = none) {f : FuncId} {xs : Array Operand} {ts : Array TypeId} (hop : o.op = Op.call { callee := Callee.value (Operand.func f), args := xs, argTypes := ts }) {fn : Func} (hf : P.funcs[f]? = some fn)
    (hb : fn.body.isNone = false) (hn : (fn.name == "runtime.NumGoroutine") = false) {args : Array Value} (ha : xs.map a.eval = args) (hm : MonoT E (K f args))
    (h1 : ∀ w, E.R W w → Calls P f args w (fun e w' => ∃ v, e = .returned v ∧ E.R w w' ∧ K f args w' v)) (h2 : ∀ v, (∃ w, E.R W w ∧ K f args w v) → wpFreeT E P ops W K Q rest (a.put o.dst v) (fun w => F w ∧ K f args w v)) : wpFreeT E P ops W K Q (o :: rest) a F :=
  ⟨K f args, ⟨hm, .inl ⟨by simp [Region.wanted, hg], fun w hw => by rw [run_enter hop hf hb hn ha]; exact ⟨E.refl w, h1 w hw, fun _ _ h => h⟩⟩⟩, h2⟩

end

/-- The operations may write these rows into these blocks, each as a whole. -/
def finX (T : List (Nat × TypeId × Array Value)) : Ext where
  R w w' := w'.os = w.os ∧ w'.tape = w.tape ∧ w'.output = w.output ∧ w.heap.size ≤ w'.heap.size ∧ (∀ k, k < w.heap.size → (∀ x ∈ T, x.1 ≠ k) → w'.heap[k]? = w.heap[k]?) ∧
    (∀ x ∈ T, Row w x.1 x.2.1 x.2.2 → Row w' x.1 x.2.1 x.2.2) ∧ (∀ x ∈ T, (∃ cs, Row w x.1 x.2.1 cs ∧ cs.size = x.2.2.size) → ∃ cs, Row w' x.1 x.2.1 cs ∧ cs.size = x.2.2.size)
  refl w := ⟨rfl, rfl, rfl, Nat.le_refl _, fun _ _ _ => rfl, fun _ _ h => h, fun _ _ h => h⟩
  trans := by
    rintro a b c ⟨h1, h2, h3, h4, h5, h6, h7⟩ ⟨k1, k2, k3, k4, k5, k6, k7⟩
    exact ⟨k1.trans h1, k2.trans h2, k3.trans h3, Nat.le_trans h4 k4, fun k hk hx => (k5 k (Nat.lt_of_lt_of_le hk h4) hx).trans (h5 k hk hx), fun x hx h => k6 x hx (h6 x hx h), fun x hx h => k7 x hx (h7 x hx h)⟩
  of_le := by
    intro a b h
    exact ⟨h.os, h.tape, h.output, h.size, fun k hk _ => h.block k hk, fun x _ hr => hr.le h, fun x _ ⟨cs, hr, hs⟩ => ⟨cs, hr.le h, hs⟩⟩
theorem finX_below {T : List (Nat × TypeId × Array Value)} {w w' : World} (h : (finX T).R w w') {B : Nat} (hB : ∀ x ∈ T, B ≤ x.1) (hw : B ≤ w.heap.size) : Below B w w' :=
  ⟨h.1, h.2.1, h.2.2.1, h.2.2.2.1, fun k hk => h.2.2.2.2.1 k (Nat.lt_of_lt_of_le hk hw) (fun x hx => by have := hB x hx; omega)⟩
theorem finX_row {T : List (Nat × TypeId × Array Value)} {w w' : World} (h : (finX T).R w w') {g : Nat} {t : TypeId} {cs : Array Value} (hr : Row w g t cs) (hn : ∀ x ∈ T, x.1 ≠ g) : Row w' g t cs := by
  have := h.2.2.2.2.1 g hr.lt hn
  unfold Row at *
  rw [this]; exact hr

section
variable {P : Program} {ops : Array Oper} {W : World} {K : FuncId → Array Value → World → Value → Prop} {Q : Act → World → Prop} {F : World → Prop} {o : Oper} {rest : List Oper} {a : Act} {T : List (Nat × TypeId × Array Value)}
theorem wpFreeT_load (hg : o.guard = none) {ty : TypeId} {x : Operand} (hop : o.op = .load ty x) {g : Nat} (hx : a.eval x = .pointer (some ⟨g, 0, none⟩)) {t : TypeId} {cs : Array Value} {d : TypeDesc}
    (hr : Row W g t cs) (hn : ∀ x ∈ T, x.1 ≠ g) (hu : P.underlying ty = some d) (hd : (match d with | .struct _ | .array _ _ => true | _ => false) = true) {m : Nat} (hi : (P.info? ty).map (·.size) = some m) (hm : cs.size = m)
    (h : wpFreeT (finX T) P ops W K Q rest (a.put o.dst (.agg cs)) F) : wpFreeT (finX T) P ops W K Q (o :: rest) a F := by
  subst hm
  refine wpFree_oneT hg (.agg cs) (fun w hw => ?_) h
  have := run_loadVar_row (P := P) w g t ty cs (0, 0) _ (finX_row hw hr hn) hu hd hi
  simp [execOp, hop, hx, Instr.loadAt, Instr.sureAddr, this, Result.andThen]
theorem wpFreeT_store (hg : o.guard = none) {ty : TypeId} {x y : Operand} (hop : o.op = .store ty x y) {g : Nat} (hx : a.eval x = .pointer (some ⟨g, 0, none⟩)) {cells : Array Value} (hy : a.eval y = .agg cells) {t : TypeId} {old : Array Value}
    (hT : (g, t, cells) ∈ T) (hd : ∀ x ∈ T, ∀ y ∈ T, x.1 = y.1 → x = y) (hr : Row W g t old) (hs : old.size = cells.size) {m : Nat} (hi : (P.info? ty).map (·.size) = some m) (hm : cells.size = m) (h1 : cells.all (·.oneCell') = true)
    (h : wpFreeT (finX T) P ops W K Q rest (a.put o.dst undef) (fun w => F w ∧ Row w g t cells)) : wpFreeT (finX T) P ops W K Q (o :: rest) a F := by
  subst hm
  refine ⟨fun w v => v = undef ∧ Row w g t cells, ⟨fun v w w' hw hv => ⟨hv.1, hw.2.2.2.2.2.1 _ hT hv.2⟩, .inl ⟨by simp [Region.wanted, hg], fun w hw => ?_⟩⟩, fun v hv => ?_⟩
  · obtain ⟨cs, hc, hcs⟩ := hw.2.2.2.2.2.2 _ hT ⟨old, hr, hs⟩
    have hc : Row w g t cs := hc
    have hcs : cs.size = cells.size := hcs
    have hrun := run_storeVar_row (P := P) w g t ty cs cells hc hi hcs h1
    have : (execOp a.eval o).run P w = .ok .skip (w.setRow g cells) := by
      unfold execOp
      simp only [hop, hx, hy, Instr.storeAt, Instr.sureAddr, Sem.run_bind, Sem.run_pure, Result.andThen_ok, hrun]
    rw [this]
    have hrow : Row (w.setRow g cells) g t cells := hc.setRow _
    refine ⟨⟨rfl, rfl, rfl, by simp, fun k hk hx' => ?_, fun x' hx' hrx => ?_, fun x' hx' ⟨c', hrx, hsx⟩ => ?_⟩, rfl, hrow⟩
    · have := hx' _ hT
      unfold World.setRow
      rw [Array.getElem?_modify, if_neg this]
    · by_cases e : x'.1 = g
      · have := hd x' hx' _ hT e
        subst this; exact hrow
      · exact hrx.setRow_other e _
    · by_cases e : x'.1 = g
      · have := hd x' hx' _ hT e
        subst this; exact ⟨cells, hrow, rfl⟩
      · exact ⟨c', hrx.setRow_other e _, hsx⟩
  · obtain ⟨w, _, rfl, _⟩ := hv
    have e : (fun w => F w ∧ undef = undef ∧ Row w g t cells) = (fun w => F w ∧ Row w g t cells) := by funext w; simp
    rw [e]; exact h
end
end Go.Fk
