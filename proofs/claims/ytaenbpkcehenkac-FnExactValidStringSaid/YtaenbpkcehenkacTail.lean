/- The same for a region whose last operations are forced to come last, and may write. Nothing here names a program. -/
import Derived.Test.YtaenbpkcehenkacLoose
import Derived.StillTail
namespace Go.Fk
open Go Go.RowKit

section
variable {P : Program} {ops : Array Oper} {md : Region.Mode} {C : World → Prop} {K : FuncId → Array Value → Value → Prop}

/-- Whatever order is picked of the first n operations; then L. -/
def anyTail (P : Program) (ops : Array Oper) (md : Region.Mode) (C : World → Prop) (K : FuncId → Array Value → Value → Prop) (n : Nat) (L : Array Bool → Act → Prop) : Nat → Array Bool → Act → Prop
  | 0, listed, a => L listed a
  | f + 1, listed, a => Region.ready md ops listed ≠ [] ∧
      ∀ i ∈ Region.ready md ops listed, i < n ∧ ∀ o, ops[i]? = some o → ∃ V, Gives P ops C K o a V ∧ ∀ v, V v → anyTail P ops md C K n L f (listed.setIfInBounds i true) (a.put o.dst v)

theorem wpOp_gives {i : Nat} {o : Oper} {a : Act} {w : World} {V : Value → Prop} {next : Act → World → Prop} {Q' : Exit → Act → World → Prop} (ho : ops[i]? = some o) (hw : C w) (hg : Gives P ops C K o a V)
    (hn : ∀ v w', C w' → V v → next (a.put o.dst v) w') : wpOp P ops Q' i next a w := by
  unfold wpOp
  simp only [ho]
  rcases hg with ⟨hwant, hv⟩ | ⟨hwant, hv⟩
  · rw [if_pos hwant]
    left
    have h3 := hv w hw
    unfold Oper.wp
    generalize (execOp a.eval o).run P w = r at h3
    cases r with
    | ok x w' =>
      cases x <;> simp only [within] at h3 <;> simp only [Oper.upon]
      case value u => exact hn u _ h3.1 h3.2
      case skip => exact hn undef _ h3.1 h3.2
      case enter f args =>
        refine h3.1.mono fun e w'' he => ?_
        obtain ⟨v, rfl, hk, hc⟩ := he
        exact hn v _ hc (h3.2 v hk)
    | halt x w' => simp only [within] at h3
  · rw [if_neg (by simp [hwant])]
    exact hn undef _ hw hv

theorem anyTail_sound {n g : Nat} {L : Array Bool → Act → Prop} {Q' : Exit → Act → World → Prop} (hL : ∀ listed a w, C w → L listed a → wpAny P md ops Q' g listed a w) :
    ∀ (f : Nat) (listed : Array Bool) (a : Act) (w : World), C w → anyTail P ops md C K n L f listed a → wpAny P md ops Q' (f + g) listed a w := by
  intro f
  induction f with
  | zero => intro listed a w hw h; rw [Nat.zero_add]; exact hL _ _ _ hw h
  | succ f ih =>
    intro listed a w hw h
    rw [show f + 1 + g = (f + g) + 1 by omega]
    refine ⟨fun h0 => absurd h0 h.1, fun i hi => ?_⟩
    obtain ⟨_, o, ho, _⟩ := mem_ready.1 hi
    obtain ⟨V, hg, hn⟩ := (h.2 i hi).2 o ho
    exact wpOp_gives ho hw hg (fun v w' hw' hv => ih _ _ _ hw' (hn v hv))

theorem anyTail_first {n i : Nat} {oi : Oper} {V : Value → Prop} {L : Array Bool → Act → Prop} (hi : ops[i]? = some oi) (hsel : ∀ (j : Nat) (o : Oper) cs b, ops[j]? = some o → o.op ≠ .select cs b) (hne : ∃ v, V v)
    (hs : Region.sinkB md ops n = true) (hc : Region.chainB md ops n = true) (hn : n < ops.size) (hin : i < n)
    (hdone : ∀ listed a, L listed a → ∀ j ∈ Region.ready md ops listed, n ≤ j) :
    ∀ (f : Nat) (listed : Array Bool) (a : Act), HeadInv md ops n listed →
      (∀ j oj, ops[j]? = some oj → j ≠ i → listed.getD j true = false → (∀ e ∈ oj.after, Region.binds md e = true → e.on ≠ i) → oi.apart ops oj = true) →
      i ∈ Region.ready md ops listed → Gives P ops C K oi a V →
      (∀ v, V v → anyTail P ops md C K n L f (listed.setIfInBounds i true) (a.put oi.dst v)) → anyTail P ops md C K n L (f + 1) listed a := by
  intro f
  induction f with
  | zero =>
    intro listed a inv _ hr hg H
    have hun := (mem_ready.1 hr).1
    refine ⟨fun h => (by rw [h] at hr; cases hr), fun j hj => ?_⟩
    have hjn : j < n := by
      rcases Nat.lt_or_ge j n with h | h
      · exact h
      · exact absurd hj (tail_waits hs hc hn inv _ i rfl hin hun j h)
    refine ⟨hjn, fun o ho => ?_⟩
    by_cases hji : j = i
    · subst hji
      rw [hi] at ho; cases ho
      exact ⟨V, hg, H⟩
    · obtain ⟨v, hv⟩ := hne
      have := hdone _ _ (H v hv) j (ready_mono hj hji)
      omega
  | succ f ih =>
    intro listed a inv hfree hr hg H
    have hun := (mem_ready.1 hr).1
    refine ⟨fun h => (by rw [h] at hr; cases hr), fun j hj => ?_⟩
    have hjn : j < n := by
      rcases Nat.lt_or_ge j n with h | h
      · exact h
      · exact absurd hj (tail_waits hs hc hn inv _ i rfl hin hun j h)
    refine ⟨hjn, fun o ho => ?_⟩
    by_cases hji : j = i
    · subst hji
      rw [hi] at ho; cases ho
      exact ⟨V, hg, H⟩
    · obtain ⟨hjun, oj, hoj, hall⟩ := mem_ready.1 hj
      rw [ho] at hoj; cases hoj
      have hnot : ∀ e ∈ o.after, Region.binds md e = true → e.on ≠ i := fun e he hb heq => by
        have h1 := hall e he hb
        rw [heq, getD_both hun] at h1
        cases h1
      have hap := hfree j o ho hji hjun hnot
      obtain ⟨a1, a2, a3⟩ := Oper.apart_spec hap
      have hsi := fun cs b => hsel i oi cs b hi
      have hsj := fun cs b => hsel j o cs b ho
      have hU : ∀ v : {v // V v}, ∃ U, Gives P ops C K o (a.put oi.dst v.1) U ∧ ∀ u, U u → anyTail P ops md C K n L f ((listed.setIfInBounds i true).setIfInBounds j true) ((a.put oi.dst v.1).put o.dst u) :=
        fun v => ((H v.1 v.2).2 j (ready_mono hj hji)).2 o ho
      obtain ⟨v0, hv0⟩ := hne
      let good : Value → Prop := fun u => ∀ v : {v // V v}, True → anyTail P ops md C K n L f ((listed.setIfInBounds i true).setIfInBounds j true) ((a.put oi.dst v.1).put o.dst u)
      have hone : ∀ v : {v // V v}, Gives P ops C K o a (fun u => anyTail P ops md C K n L f ((listed.setIfInBounds i true).setIfInBounds j true) ((a.put oi.dst v.1).put o.dst u)) := fun v => by
        obtain ⟨U, h1, h2⟩ := hU v
        have h1' : Gives P ops C K o a U := h1.same (execOp_put o hsj a oi.dst v.1 a1).symm (wanted_put o a oi.dst v.1 a1).symm
        rcases h1' with ⟨hw, h3⟩ | ⟨hw, h3⟩
        · exact .inl ⟨hw, fun w hw' => within_mono h2 (h3 w hw')⟩
        · exact .inr ⟨hw, h2 _ h3⟩
      have hgood : Gives P ops C K o a good := by
        by_cases hw : Region.wanted o (yielded ops a.tmps) = true
        · refine .inl ⟨hw, fun w hw' => ?_⟩
          refine within_all ⟨⟨v0, hv0⟩, trivial⟩ (fun v _ => ?_)
          rcases hone v with ⟨_, h3⟩ | ⟨h3, _⟩
          · exact h3 w hw'
          · rw [hw] at h3; cases h3
        · refine .inr ⟨by simpa using hw, fun v _ => ?_⟩
          rcases hone v with ⟨h3, _⟩ | ⟨_, h3⟩
          · exact absurd h3 hw
          · exact h3
      refine ⟨good, hgood, ?_⟩
      intro u hu
      have hfree' : ∀ k ok, ops[k]? = some ok → k ≠ i → (listed.setIfInBounds j true).getD k true = false →
          (∀ e ∈ ok.after, Region.binds md e = true → e.on ≠ i) → oi.apart ops ok = true := fun k ok hk hki hun hno => by
        refine hfree k ok hk hki ?_ hno
        by_cases hjk : j = k
        · subst hjk; exact hjun
        · rw [getD_set_ne true hjk] at hun; exact hun
      refine ih (listed.setIfInBounds j true) (a.put o.dst u) (inv.set hj hjn) hfree' (ready_mono hr (Ne.symm hji)) (hg.same (execOp_put oi hsi a o.dst u a3) (wanted_put oi a o.dst u a3)) (fun v hv => ?_)
      rw [Array.setIfInBounds_comm _ _ hji, ← Act.put_comm a v u a2]
      exact hu ⟨v, hv⟩ trivial

theorem anyTail_lex {n g : Nat} {Lq : Act → Prop} (hC : ∃ w, C w) (hsel : Region.noSelect ops = true) (hs : Region.sinkB md ops n = true) (hc : Region.chainB md ops n = true) (hn : n < ops.size) :
    ∀ (l : List Oper) (k : Nat) (listed : Array Bool) (a : Act), (∀ j, j < l.length → l[j]? = ops[k + j]?) → k + l.length = n → HeadInv md ops n listed →
    Region.lexHead md ops g l.length k listed = true → wpLoose P ops C K Lq l a →
    anyTail P ops md C K n (fun listed' a' => Region.seqB md ops g n listed' = true ∧ Lq a') l.length listed a := by
  intro l
  induction l with
  | nil =>
    intro k listed a _ hk _ hB h
    have : k = n := by simpa using hk
    subst this
    exact ⟨by simpa [Region.lexHead] using hB, h⟩
  | cons o l ih =>
    intro k listed a hl hk inv hB h
    have h0 : ops[k]? = some o := by simpa using (hl 0 (by simp)).symm
    simp only [List.length_cons, Region.lexHead, Bool.and_eq_true] at hB
    obtain ⟨⟨hr, hf⟩, hB'⟩ := hB
    have hkn : k < n := by simp only [List.length_cons] at hk; omega
    have hr' : k ∈ Region.ready md ops listed := by simpa using hr
    obtain ⟨V, hg, hnext⟩ := h
    exact anyTail_first h0 (Region.noSelect_spec hsel) (hg.some hC) hs hc hn hkn (fun listed' a' hL => seqB_ready hL.1) l.length listed a inv (Region.free_spec h0 hf) hr' hg
      (fun v hv => ih (k + 1) _ _ (fun j hj => by have := hl (j + 1) (by simp; omega); simpa [Nat.add_assoc, Nat.add_comm 1 j] using this) (by simp only [List.length_cons] at hk; omega) (inv.set hr' hkn) hB' (hnext v hv))

/-- ONE WALK SERVES EVERY ORDER; then the last operations, in theirs. -/
theorem wp_region_tail (K : FuncId → Array Value → Value → Prop) {id : Nat} {Q : Exit → Act → World → Prop} {a : Act} {w : World} {l : List Oper} (n : Nat) (hm : P.follows .mixedOrders = true) (hB : Region.lexTailB .any l.toArray n = true)
    (h : wpLoose P l.toArray (fun w' => ∃ m, w' = w.drewN m) K (fun a' => ∀ m, wpList P l.toArray Q (l.drop n) a' (w.drewN m)) (l.take n) a) : (Code.region id l.toArray true).wp P Q a w := by
  simp only [Region.lexTailB, Bool.and_eq_true, decide_eq_true_eq] at hB
  obtain ⟨⟨⟨⟨hsel, hn⟩, hs⟩, hc⟩, hlex⟩ := hB
  have hn' : n < l.length := by simpa using hn
  have htl : (l.take n).length = n := by simp; omega
  have hdl : (l.drop n).length = l.toArray.size - n := by simp
  have hC : ∃ m, ({ w with drawn := w.drawn + 1 } : World) = w.drewN m := ⟨1, rfl⟩
  have inv0 : HeadInv .any l.toArray n (Array.replicate l.toArray.size false) :=
    ⟨by simp, fun j oj _ hl => (by rw [getD_replicate_false] at hl; cases hl), fun t _ ht => getD_in (by simpa using ht) (getD_replicate_false _ _)⟩
  have H := anyTail_lex (md := .any) (C := fun w' => ∃ m, w' = w.drewN m) (g := l.toArray.size - n) ⟨_, hC⟩ hsel hs hc hn (l.take n) 0 _ a (fun j hj => by
    have hj' : j < n := by rw [htl] at hj; exact hj
    simp [hj']) (by simpa using htl) inv0 (by rw [htl]; exact hlex) h
  refine wp_region_any hm ?_
  have := anyTail_sound (Q' := Q) (C := fun w' => ∃ m, w' = w.drewN m) (g := l.toArray.size - n) (fun listed a' w' hw' hL => by
    obtain ⟨m, rfl⟩ := hw'
    have := wpAny_of_seq (md := .any) (Q' := Q) (l.drop n) n listed a' (w.drewN m) (fun j => by simp [List.getElem?_drop]) (by rw [hdl]; exact hL.1) (hL.2 m)
    rwa [hdl] at this) _ _ _ _ hC H
  rw [htl, show n + (l.toArray.size - n) = l.toArray.size by omega] at this
  exact this
end
end Go.Fk
