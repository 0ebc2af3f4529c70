/- Texts of the walk, laid in one file. -/
import Derived.OwnWalk
import Derived.Deep.AppendLies
import Derived.Test.YtcchiooiogkofaaDoorMc
set_option linter.unusedVariables false
set_option linter.unusedSimpArgs false
/- As FreeD, where one operation (with the index c) may write what all others leave as it is: it comes up but once. Nothing here names a program. -/
namespace Go.Fk
open Go Go.RowKit
section
variable (E0 E1 : Ext) (c : Nat) (Vc : World → Value → Prop) (P : Program) (ops : Array Oper) (md : Region.Mode) (W : World) (K : FuncId → Array Value → World → Value → Prop)
def preE (i : Nat) : Ext := if i = c then E0 else E1
def stepE (i : Nat) : Ext := if i = c then E1 else E0
def YieldsP (i : Nat) (o : Oper) (a : Act) (F : Facts) (V : World → Value → Prop) : Prop :=
  MonoT E1 V ∧ (i = c → V = Vc) ∧ ((Region.wanted o (yielded ops a.tmps) = true ∧ ∀ w, (preE E0 E1 c i).R W w → behind md o F w → insideT (stepE E0 E1 c i) P K w V ((execOp a.eval o).run P w)) ∨ (i ≠ c ∧ Region.wanted o (yielded ops a.tmps) = false ∧ ∀ w, E1.R W w → behind md o F w → V w undef))
def wpFreeP (Q : Act → World → Prop) : List Oper → Nat → Act → Facts → Prop
  | [], _, a, F => ∀ w, E1.R W w → (∀ e, F e w) → Q a w
  | o :: rest, k, a, F => ∃ V, YieldsP E0 E1 c Vc P ops md W K k o a F V ∧ ∀ v, met E1 W F (fun w => V w v) → wpFreeP Q rest (k + 1) (a.put o.dst v) (F.with k (fun w => V w v))
def anyFreeP (n : Nat) (L : Array Bool → Act → Facts → Prop) : Nat → Array Bool → Act → Facts → Prop
  | 0, listed, a, F => L listed a F
  | f + 1, listed, a, F => Region.ready md ops listed ≠ [] ∧
      ∀ i ∈ Region.ready md ops listed, i < n ∧ ∀ o, ops[i]? = some o → ∃ V, YieldsP E0 E1 c Vc P ops md W K i o a F V ∧ ∀ v, met E1 W F (fun w => V w v) → anyFreeP n L f (listed.setIfInBounds i true) (a.put o.dst v) (F.with i (fun w => V w v))
end
section
variable {E0 E1 : Ext} {c : Nat} {Vc : World → Value → Prop} {P : Program} {ops : Array Oper} {md : Region.Mode} {W : World} {K : FuncId → Array Value → World → Value → Prop}
theorem stepE_sub (hs : ∀ w w', E0.R w w' → E1.R w w') {i : Nat} {w w' : World} (h : (stepE E0 E1 c i).R w w') : E1.R w w' := by
  unfold stepE at h
  split at h
  · exact h
  · exact hs _ _ h
theorem YieldsP.some (hs : ∀ w w', E0.R w w' → E1.R w w') (hVc : ∀ w, E1.R W w → ∃ v w', E1.R w w' ∧ Vc w' v) {i : Nat} {o : Oper} {a : Act} {F : Facts} {V : World → Value → Prop} (hm : FMono E1 F) (hx : met E1 W F (fun _ => True)) (h : YieldsP E0 E1 c Vc P ops md W K i o a F V) : ∃ v, met E1 W F (fun w => V w v) := by
  obtain ⟨w, hw, hF, _⟩ := hx
  by_cases e : i = c
  · obtain ⟨v, w', hl, hv⟩ := hVc w hw
    exact ⟨v, w', E1.trans hw hl, hm w w' hl hF, by rw [h.2.1 e]; exact hv⟩
  · rcases h.2.2 with ⟨_, h⟩ | ⟨_, _, h⟩
    · obtain ⟨v, w', hl, hv⟩ := insideT_some (h w (by unfold preE; rw [if_neg e]; exact hw) (fun e _ _ => hF e.on))
      have hl' := stepE_sub hs hl
      exact ⟨v, w', E1.trans hw hl', hm w w' hl' hF, hv⟩
    · exact ⟨undef, w, hw, hF, h w hw (fun e _ _ => hF e.on)⟩
theorem YieldsP.same {i : Nat} {o : Oper} {a a' : Act} {F : Facts} {V : World → Value → Prop} (he : execOp a'.eval o = execOp a.eval o) (hw : Region.wanted o (yielded ops a'.tmps) = Region.wanted o (yielded ops a.tmps))
    (h : YieldsP E0 E1 c Vc P ops md W K i o a F V) : YieldsP E0 E1 c Vc P ops md W K i o a' F V := by
  unfold YieldsP at *; rw [he, hw]; exact h
theorem YieldsP.less {j : Nat} {o : Oper} {a : Act} {F : Facts} {i : Nat} {X : World → Prop} {V : World → Value → Prop} (hn : ∀ e ∈ o.after, Region.binds md e = true → e.on ≠ i) (h : YieldsP E0 E1 c Vc P ops md W K j o a (F.with i X) V) : YieldsP E0 E1 c Vc P ops md W K j o a F V := by
  have key : ∀ w, behind md o F w → behind md o (F.with i X) w := fun w hw e he hb => ⟨hw e he hb, fun h => absurd h (hn e he hb)⟩
  refine ⟨h.1, h.2.1, ?_⟩
  rcases h.2.2 with ⟨h1, h2⟩ | ⟨h0, h1, h2⟩
  · exact .inl ⟨h1, fun w hw hb => h2 w hw (key w hb)⟩
  · exact .inr ⟨h0, h1, fun w hw hb => h2 w hw (key w hb)⟩
theorem YieldsP.stronger {j : Nat} {o : Oper} {a : Act} {F F' : Facts} {V : World → Value → Prop} (hF : ∀ e w, F' e w → F e w) (h : YieldsP E0 E1 c Vc P ops md W K j o a F V) : YieldsP E0 E1 c Vc P ops md W K j o a F' V := by
  have key : ∀ w, behind md o F' w → behind md o F w := fun w hw e he hb => hF _ _ (hw e he hb)
  refine ⟨h.1, h.2.1, ?_⟩
  rcases h.2.2 with ⟨h1, h2⟩ | ⟨h0, h1, h2⟩
  · exact .inl ⟨h1, fun w hw hb => h2 w hw (key w hb)⟩
  · exact .inr ⟨h0, h1, fun w hw hb => h2 w hw (key w hb)⟩
theorem YieldsP.more {j : Nat} {o : Oper} {a : Act} {F : Facts} {i : Nat} {X : World → Prop} {V : World → Value → Prop} (h : YieldsP E0 E1 c Vc P ops md W K j o a F V) : YieldsP E0 E1 c Vc P ops md W K j o a (F.with i X) V := h.stronger (fun _ _ h => h.1)
theorem insideT_mono {E E' : Ext} (hE : ∀ w w', E.R w w' → E'.R w w') {V : World → Value → Prop} {w : World} {r : Result Next} (h : insideT E P K w V r) : insideT E' P K w V r := by
  cases r with
  | ok n w' =>
    cases n <;> simp only [insideT] at h ⊢
    case value u => exact ⟨hE _ _ h.1, h.2⟩
    case skip => exact ⟨hE _ _ h.1, h.2⟩
    case enter f args => exact ⟨hE _ _ h.1, h.2.1.mono (fun e w'' ⟨v, e1, e2, e3⟩ => ⟨v, e1, hE _ _ e2, e3⟩), h.2.2⟩
  | halt x w' => simp only [insideT] at h
theorem wpOp_yieldsP {i : Nat} {o : Oper} {a : Act} {w : World} {F : Facts} {V : World → Value → Prop} {next : Act → World → Prop} {Q' : Exit → Act → World → Prop} (ho : ops[i]? = some o) (hw1 : E1.R W w) (hw : (preE E0 E1 c i).R W w) (hF : ∀ e, F e w) (hg : YieldsP E0 E1 c Vc P ops md W K i o a F V)
    (hn : ∀ v w', (stepE E0 E1 c i).R w w' → V w' v → next (a.put o.dst v) w') : wpOp P ops Q' i next a w := by
  unfold wpOp
  simp only [ho]
  rcases hg.2.2 with ⟨hwant, hv⟩ | ⟨_, hwant, hv⟩
  · rw [if_pos hwant]
    left
    have h3 := hv w hw (fun e _ _ => hF e.on)
    unfold Oper.wp
    generalize (execOp a.eval o).run P w = r at h3
    cases r with
    | ok x w' =>
      cases x <;> simp only [insideT] at h3 <;> simp only [Oper.upon]
      case value u => exact hn u _ h3.1 h3.2
      case skip => exact hn undef _ h3.1 h3.2
      case enter f args =>
        refine h3.2.1.mono fun e w'' he => ?_
        obtain ⟨v, rfl, hl, hk⟩ := he
        exact hn v _ ((stepE E0 E1 c i).trans h3.1 hl) (h3.2.2 w'' v hk)
    | halt x w' => simp only [insideT] at h3
  · rw [if_neg (by simp [hwant])]
    exact hn undef _ ((stepE E0 E1 c i).refl w) (hv w hw1 (fun e _ _ => hF e.on))
theorem anyFreeP_sound (hs : ∀ w w', E0.R w w' → E1.R w w') {n g : Nat} {L : Array Bool → Act → Facts → Prop} {Q' : Exit → Act → World → Prop} (hL : ∀ listed a F w, E1.R W w → (∀ e, F e w) → L listed a F → wpAny P md ops Q' g listed a w) :
    ∀ (f : Nat) (listed : Array Bool) (a : Act) (F : Facts) (w : World), FMono E1 F → E1.R W w → (listed.getD c true = false → E0.R W w) → (∀ e, F e w) → anyFreeP E0 E1 c Vc P ops md W K n L f listed a F → wpAny P md ops Q' (f + g) listed a w := by
  intro f
  induction f with
  | zero => intro listed a F w _ hw _ hF h; rw [Nat.zero_add]; exact hL _ _ _ _ hw hF h
  | succ f ih =>
    intro listed a F w hm hw hph hF h
    rw [show f + 1 + g = (f + g) + 1 by omega]
    refine ⟨fun h0 => absurd h0 h.1, fun i hi => ?_⟩
    obtain ⟨hun, o, ho, _⟩ := mem_ready.1 hi
    obtain ⟨V, hg, hn⟩ := (h.2 i hi).2 o ho
    have hpre : (preE E0 E1 c i).R W w := by
      unfold preE
      split
      · next e => subst e; exact hph hun
      · exact hw
    refine wpOp_yieldsP ho hw hpre hF hg (fun v w' hl hv => ih _ _ _ _ (hm.with hg.1 i v) (E1.trans hw (stepE_sub hs hl)) (fun hc => ?_) (Facts.with_mk (hm w w' (stepE_sub hs hl) hF) hv) (hn v ⟨w', E1.trans hw (stepE_sub hs hl), hm w w' (stepE_sub hs hl) hF, hv⟩))
    by_cases e : i = c
    · subst e
      have hlt : i < listed.size := by
        apply Nat.lt_of_not_le
        intro hle
        simp [Array.getD, Nat.not_lt.2 hle] at hun
      simp [Array.getD, hlt] at hc
    · rw [getD_set_ne true e] at hc
      unfold stepE at hl
      rw [if_neg e] at hl
      exact E0.trans (hph hc) hl
theorem anyFreeP_weaken {n : Nat} {L : Array Bool → Act → Facts → Prop} (hLm : ∀ listed a F F', (∀ e w, F' e w → F e w) → L listed a F → L listed a F') :
    ∀ (f : Nat) (listed : Array Bool) (a : Act) (F F' : Facts), (∀ e w, F' e w → F e w) → anyFreeP E0 E1 c Vc P ops md W K n L f listed a F → anyFreeP E0 E1 c Vc P ops md W K n L f listed a F' := by
  intro f
  induction f with
  | zero => intro listed a F F' h hh; exact hLm _ _ _ _ h hh
  | succ f ih =>
    intro listed a F F' h hh
    refine ⟨hh.1, fun i hi => ⟨(hh.2 i hi).1, fun o ho => ?_⟩⟩
    obtain ⟨V, hg, hn⟩ := (hh.2 i hi).2 o ho
    exact ⟨V, hg.stronger h, fun v hv => ih _ _ _ _ (fun e w hw => ⟨h e w hw.1, hw.2⟩) (hn v (hv.weaken (fun w hw e => h e w (hw e))))⟩
theorem anyFreeP_first (hs : ∀ w w', E0.R w w' → E1.R w w') (hVc : ∀ w, E1.R W w → ∃ v w', E1.R w w' ∧ Vc w' v) {n i : Nat} {oi : Oper} {V : World → Value → Prop} {L : Array Bool → Act → Facts → Prop} (hi : ops[i]? = some oi) (hsel : ∀ (j : Nat) (o : Oper) cs b, ops[j]? = some o → o.op ≠ .select cs b)
    (hbound : ∀ listed i, HeadInv md ops n listed → i < n → listed.getD i true = false → ∀ j ∈ Region.ready md ops listed, j < n) (hin : i < n)
    (hdone : ∀ listed a F, L listed a F → ∀ j ∈ Region.ready md ops listed, n ≤ j) (hLm : ∀ listed a F F', (∀ e w, F' e w → F e w) → L listed a F → L listed a F') :
    ∀ (f : Nat) (listed : Array Bool) (a : Act) (F : Facts), HeadInv md ops n listed →
      (∀ j oj, ops[j]? = some oj → j ≠ i → listed.getD j true = false → (∀ e ∈ oj.after, Region.binds md e = true → e.on ≠ i) → oi.apart ops oj = true) →
      i ∈ Region.ready md ops listed → FMono E1 F → met E1 W F (fun _ => True) → YieldsP E0 E1 c Vc P ops md W K i oi a F V →
      (∀ v, met E1 W F (fun w => V w v) → anyFreeP E0 E1 c Vc P ops md W K n L f (listed.setIfInBounds i true) (a.put oi.dst v) (F.with i (fun w => V w v))) → anyFreeP E0 E1 c Vc P ops md W K n L (f + 1) listed a F := by
  intro f
  induction f with
  | zero =>
    intro listed a F inv _ hr hm hx hg H
    have hun := (mem_ready.1 hr).1
    refine ⟨fun h => (by rw [h] at hr; cases hr), fun j hj => ?_⟩
    have hjn := hbound listed i inv hin hun j hj
    refine ⟨hjn, fun o ho => ?_⟩
    by_cases hji : j = i
    · subst hji
      rw [hi] at ho; cases ho
      exact ⟨V, hg, H⟩
    · obtain ⟨v, hv⟩ := hg.some hs hVc hm hx
      have := hdone _ _ _ (H v hv) j (ready_mono hj hji)
      omega
  | succ f ih =>
    intro listed a F inv hfree hr hm hx hg H
    have hun := (mem_ready.1 hr).1
    refine ⟨fun h => (by rw [h] at hr; cases hr), fun j hj => ?_⟩
    have hjn := hbound listed i inv hin hun j hj
    refine ⟨hjn, fun o ho => ?_⟩
    by_cases hji : j = i
    · subst hji
      rw [hi] at ho; cases ho
      exact ⟨V, hg, H⟩
    · obtain ⟨hjun, oj, hoj, hall⟩ := mem_ready.1 hj
      rw [ho] at hoj; cases hoj
      have hnot : ∀ e ∈ o.after, Region.binds md e = true → e.on ≠ i := fun e he hb heq => by
        have h1 := hall e he hb
        rw [heq, getD_both hun] at h1
        cases h1
      have hap := hfree j o ho hji hjun hnot
      obtain ⟨a1, a2, a3⟩ := Oper.apart_spec hap
      have hsi := fun cs b => hsel i oi cs b hi
      have hsj := fun cs b => hsel j o cs b ho
      have hU : ∀ v : {v // met E1 W F (fun w => V w v)}, ∃ U, YieldsP E0 E1 c Vc P ops md W K j o (a.put oi.dst v.1) (F.with i (fun w => V w v.1)) U ∧ ∀ u, met E1 W (F.with i (fun w => V w v.1)) (fun w => U w u) →
          anyFreeP E0 E1 c Vc P ops md W K n L f ((listed.setIfInBounds i true).setIfInBounds j true) ((a.put oi.dst v.1).put o.dst u) ((F.with i (fun w => V w v.1)).with j (fun w => U w u)) :=
        fun v => ((H v.1 v.2).2 j (ready_mono hj hji)).2 o ho
      obtain ⟨U, hU⟩ := Classical.skolem.1 hU
      obtain ⟨v0, hv0⟩ := hg.some hs hVc hm hx
      have hone : ∀ v, YieldsP E0 E1 c Vc P ops md W K j o a F (U v) := fun v => ((hU v).1.same (execOp_put o hsj a oi.dst v.1 a1).symm (wanted_put o a oi.dst v.1 a1).symm).less hnot
      have hgood : YieldsP E0 E1 c Vc P ops md W K j o a F (fun w u => ∀ v, U v w u) := by
        refine ⟨fun u w w' hl h v => (hone v).1 u w w' hl (h v), fun e => ?_, ?_⟩
        · funext w u
          exact propext ⟨fun h => by have := h ⟨v0, hv0⟩; rw [(hone ⟨v0, hv0⟩).2.1 e] at this; exact this, fun h v => by rw [(hone v).2.1 e]; exact h⟩
        by_cases hw : Region.wanted o (yielded ops a.tmps) = true
        · refine .inl ⟨hw, fun w hw' hb => inside_allT ⟨⟨v0, hv0⟩, trivial⟩ (fun v => ?_)⟩
          rcases (hone v).2.2 with ⟨_, h3⟩ | ⟨_, h3, _⟩
          · exact h3 w hw' hb
          · rw [hw] at h3; cases h3
        · have hne : j ≠ c := by
            rcases (hone ⟨v0, hv0⟩).2.2 with ⟨h3, _⟩ | ⟨h3, _, _⟩
            · exact absurd h3 hw
            · exact h3
          refine .inr ⟨hne, by simpa using hw, fun w hw' hb v => ?_⟩
          rcases (hone v).2.2 with ⟨h3, _⟩ | ⟨_, _, h3⟩
          · exact absurd h3 hw
          · exact h3 w hw' hb
      refine ⟨_, hgood, ?_⟩
      intro u hu
      have hfree' : ∀ k ok, ops[k]? = some ok → k ≠ i → (listed.setIfInBounds j true).getD k true = false →
          (∀ e ∈ ok.after, Region.binds md e = true → e.on ≠ i) → oi.apart ops ok = true := fun k ok hk hki hun hno => by
        refine hfree k ok hk hki ?_ hno
        by_cases hjk : j = k
        · subst hjk; exact hjun
        · rw [getD_set_ne true hjk] at hun; exact hun
      have hx' : met E1 W (F.with j (fun w => ∀ v, U v w u)) (fun _ => True) := by
        obtain ⟨w, hw, hF, hv⟩ := hu
        exact ⟨w, hw, Facts.with_mk hF hv, trivial⟩
      refine ih (listed.setIfInBounds j true) (a.put o.dst u) (F.with j (fun w => ∀ v, U v w u)) (inv.set hj hjn) hfree' (ready_mono hr (Ne.symm hji)) (hm.with hgood.1 j u) hx' ((hg.same (execOp_put oi hsi a o.dst u a3) (wanted_put oi a o.dst u a3)).more) (fun v hv => ?_)
      rw [Array.setIfInBounds_comm _ _ hji, ← Act.put_comm a v u a2]
      obtain ⟨w, hw, hF, hVv⟩ := hv
      have hF' := Facts.with_of hF
      have mv : met E1 W F (fun w => V w v) := ⟨w, hw, hF'.1, hVv⟩
      exact anyFreeP_weaken hLm _ _ _ _ _ (fun e w' h' => ⟨⟨h'.1.1, h'.2⟩, fun he => h'.1.2 he ⟨v, mv⟩⟩) ((hU ⟨v, mv⟩).2 u ⟨w, hw, Facts.with_mk hF'.1 hVv, hF'.2 ⟨v, mv⟩⟩)

theorem anyFreeP_lex (hs : ∀ w w', E0.R w w' → E1.R w w') (hVc : ∀ w, E1.R W w → ∃ v w', E1.R w w' ∧ Vc w' v) {n g : Nat} {R : Act → World → Prop} (hsel : Region.noSelect ops = true)
    (hbound : ∀ listed i, HeadInv md ops n listed → i < n → listed.getD i true = false → ∀ j ∈ Region.ready md ops listed, j < n) :
    ∀ (l : List Oper) (k : Nat) (listed : Array Bool) (a : Act) (F : Facts), (∀ j, j < l.length → l[j]? = ops[k + j]?) → k + l.length = n → HeadInv md ops n listed →
    Region.lexHead md ops g l.length k listed = true → FMono E1 F → met E1 W F (fun _ => True) → wpFreeP E0 E1 c Vc P ops md W K R l k a F →
    anyFreeP E0 E1 c Vc P ops md W K n (fun listed' a' F' => Region.seqB md ops g n listed' = true ∧ ∀ w, E1.R W w → (∀ e, F' e w) → R a' w) l.length listed a F := by
  intro l
  induction l with
  | nil =>
    intro k listed a F _ hk _ hB _ _ h
    have : k = n := by simpa using hk
    subst this
    exact ⟨by simpa [Region.lexHead] using hB, h⟩
  | cons o l ih =>
    intro k listed a F hl hk inv hB hm hx h
    have h0 : ops[k]? = some o := by simpa using (hl 0 (by simp)).symm
    simp only [List.length_cons, Region.lexHead, Bool.and_eq_true] at hB
    obtain ⟨⟨hr, hf⟩, hB'⟩ := hB
    have hkn : k < n := by simp only [List.length_cons] at hk; omega
    have hr' : k ∈ Region.ready md ops listed := by simpa using hr
    obtain ⟨V, hg, hnext⟩ := h
    exact anyFreeP_first hs hVc h0 (Region.noSelect_spec hsel) hbound hkn (fun listed' a' F' hL => seqB_ready hL.1) (fun _ _ _ _ hF hL => ⟨hL.1, fun w hw h' => hL.2 w hw (fun e => hF e w (h' e))⟩) l.length listed a F inv (Region.free_spec h0 hf) hr' hm hx hg
      (fun v hv => ih (k + 1) _ _ _ (fun j hj => by have := hl (j + 1) (by simp; omega); simpa [Nat.add_assoc, Nat.add_comm 1 j] using this) (by simp only [List.length_cons] at hk; omega) (inv.set hr' hkn) hB' (hm.with hg.1 k v)
        (by obtain ⟨w, hw, hF, hv'⟩ := hv; exact ⟨w, hw, Facts.with_mk hF hv', trivial⟩) (hnext v hv))

/-- A REGION THAT DRAWS ITS ORDER, one of whose operations writes. -/
theorem region_freeP (hs : ∀ w w', E0.R w w' → E1.R w w') (K : FuncId → Array Value → World → Value → Prop) {id : Nat} {Q : Exit → Act → World → Prop} {a : Act} {w : World} {l : List Oper} (hVc : ∀ w', E1.R (w.drewN 1) w' → ∃ v w'', E1.R w' w'' ∧ Vc w'' v) (hm : P.follows .mixedOrders = true)
    (hB : (Region.noSelect l.toArray && Region.lexHead .any l.toArray 0 l.length 0 (Array.replicate l.toArray.size false)) = true)
    (h : wpFreeP E0 E1 c Vc P l.toArray .any (w.drewN 1) K (fun a' w' => Q .normal a' w') l 0 a noFacts) : (Code.region id l.toArray true).wp P Q a w := by
  simp only [Bool.and_eq_true] at hB
  obtain ⟨hsel, hlex⟩ := hB
  have hbound : ∀ listed i, HeadInv .any l.toArray l.length listed → i < l.length → listed.getD i true = false → ∀ j ∈ Region.ready .any l.toArray listed, j < l.length := by
    intro listed i _ _ _ j hj
    obtain ⟨_, oj, hoj, _⟩ := mem_ready.1 hj
    simpa using (Array.getElem?_eq_some_iff.1 hoj).1
  have H := anyFreeP_lex (md := .any) (g := 0) hs hVc hsel hbound l 0 _ a noFacts (fun j hj => by simp) (by simp) (head_start _ l.length) hlex (fun _ _ _ h => h) ⟨w.drewN 1, E1.refl _, fun _ => trivial, trivial⟩ h
  refine wp_region_any hm ?_
  have := anyFreeP_sound (Q' := Q) (W := w.drewN 1) (g := 0) hs (fun listed a' F w' hw' hF hL => ⟨by simpa [Region.seqB] using hL.1, hL.2 w' hw' hF⟩) _ _ _ _ _ (fun _ _ _ h => h) (E1.refl _) (fun _ => E0.refl _) (fun _ => trivial) H
  rw [Nat.add_zero] at this
  exact this
end
end Go.Fk

/- Regions with a call that writes: laws of single operations. Nothing here names a program. -/
namespace Go.Fk
open Go Go.RowKit
section
variable {E0 E1 : Ext} {c : Nat} {Vc : World → Value → Prop} {P : Program} {ops : Array Oper} {W : World} {K : FuncId → Array Value → World → Value → Prop} {Q : Act → World → Prop} {F : Facts} {k : Nat} {o : Oper} {rest : List Oper} {a : Act}
theorem wpFreeP_weaken : ∀ (l : List Oper) (k : Nat) (a : Act) (F F' : Facts), (∀ e w, F' e w → F e w) → wpFreeP E0 E1 c Vc P ops .any W K Q l k a F → wpFreeP E0 E1 c Vc P ops .any W K Q l k a F' := by
  intro l
  induction l with
  | nil => intro k a F F' h hh w hw hF; exact hh w hw (fun e => h e w (hF e))
  | cons o l ih =>
    intro k a F F' h hh
    obtain ⟨V, hg, hn⟩ := hh
    exact ⟨V, hg.stronger h, fun v hv => ih _ _ _ _ (fun e w hw => ⟨h e w hw.1, hw.2⟩) (hn v (hv.weaken (fun w hw e => h e w (hw e))))⟩
theorem wpFreeP_nil (h : ∀ w, E1.R W w → (∀ e, F e w) → Q a w) : wpFreeP E0 E1 c Vc P ops .any W K Q [] k a F := h
theorem wpFreeP_some (hk : k ≠ c) (hg : o.guard = none) (V : Value → Prop) (hr : ∀ w, E1.R W w → ∃ v n, (execOp a.eval o).run P w = .ok (.value v) (w.drewN n) ∧ V v)
    (h : ∀ v, V v → wpFreeP E0 E1 c Vc P ops .any W K Q rest (k + 1) (a.put o.dst v) (F.with k (fun _ => True))) : wpFreeP E0 E1 c Vc P ops .any W K Q (o :: rest) k a F := by
  refine ⟨fun _ u => V u, ⟨fun _ _ _ _ h => h, fun e => absurd e hk, .inl ⟨by simp [Region.wanted, hg], fun w hw _ => ?_⟩⟩, fun u hu => ?_⟩
  · obtain ⟨v, n, hrun, hv⟩ := hr w (by unfold preE at hw; rw [if_neg hk] at hw; exact hw)
    rw [hrun]; exact ⟨(stepE E0 E1 c k).of_le (le_drewN w n), hv⟩
  · obtain ⟨w, _, _, hv⟩ := hu
    exact wpFreeP_weaken _ _ _ _ _ (fun e w h => ⟨h.1, fun _ => trivial⟩) (h u hv)
theorem wpFreeP_one (hk : k ≠ c) (hg : o.guard = none) (v : Value) (hr : ∀ w, E1.R W w → (execOp a.eval o).run P w = .ok (.value v) w)
    (h : wpFreeP E0 E1 c Vc P ops .any W K Q rest (k + 1) (a.put o.dst v) (F.with k (fun _ => True))) : wpFreeP E0 E1 c Vc P ops .any W K Q (o :: rest) k a F :=
  wpFreeP_some hk hg (· = v) (fun w hw => ⟨v, 0, by rw [hr w hw]; rfl, rfl⟩) (by rintro u rfl; exact h)
theorem wpFreeP_quiet (hk : k ≠ c) (hnc : simple o.op = true) (h : wpQuiet P ops (fun _ => True) (fun a' => wpFreeP E0 E1 c Vc P ops .any W K Q rest (k + 1) a' (F.with k (fun _ => True))) [o] a) : wpFreeP E0 E1 c Vc P ops .any W K Q (o :: rest) k a F := by
  simp only [wpQuiet] at h
  by_cases hw : Region.wanted o (yielded ops a.tmps) = true
  · rw [if_pos hw] at h
    obtain ⟨v, h1, h2⟩ := h
    refine ⟨fun _ u => u = v, ⟨fun _ _ _ _ h => h, fun e => absurd e hk, .inl ⟨hw, fun w hw' _ => ?_⟩⟩, fun u hu => ?_⟩
    · have h3 := h1 w trivial
      unfold Oper.quietAt at h3
      generalize hrun : (execOp a.eval o).run P w = r at h3
      cases r with
      | ok n w' =>
        cases n <;> simp only [Oper.quietUpon] at h3 <;> simp only [insideT]
        case value u => exact ⟨by rw [h3.1]; exact (stepE E0 E1 c k).refl w, h3.2⟩
        case skip => exact ⟨by rw [h3.1]; exact (stepE E0 E1 c k).refl w, h3.2.symm⟩
        case enter f args => exact (noEnter hnc hrun).elim
      | halt x w' => simp only [Oper.quietUpon] at h3
    · obtain ⟨w, _, _, rfl⟩ := hu
      exact wpFreeP_weaken _ _ _ _ _ (fun e w h => ⟨h.1, fun _ => trivial⟩) h2
  · rw [if_neg hw] at h
    refine ⟨fun _ u => u = undef, ⟨fun _ _ _ _ h => h, fun e => absurd e hk, .inr ⟨hk, by simpa using hw, fun _ _ _ => rfl⟩⟩, fun u hu => ?_⟩
    obtain ⟨w, _, _, rfl⟩ := hu
    exact wpFreeP_weaken _ _ _ _ _ (fun e w h => ⟨h.1, fun _ => trivial⟩) h
theorem wpFreeP_farith (hk : k ≠ c) (hg : o.guard = none) {op : BinOp} {t t' : TypeId} {x y : Operand} (hop : o.op = Op.binOp op t x y t') (ho : arith op = true)
    {fk : FloatKind} {p q : Nat} (hx : a.eval x = .float fk p) (hy : a.eval y = .float fk q)
    (h : ∀ r, Hid (can fk r = fop op fk p q) → Hid (fits fk r) → wpFreeP E0 E1 c Vc P ops .any W K Q rest (k + 1) (a.put o.dst (.float fk r)) (F.with k (fun _ => True))) : wpFreeP E0 E1 c Vc P ops .any W K Q (o :: rest) k a F := by
  refine wpFreeP_some hk hg (fun v => ∃ r, v = .float fk r ∧ can fk r = fop op fk p q ∧ fits fk r) (fun w _ => ?_) ?_
  · obtain ⟨r, n, hrun, hr, hf⟩ := run_farith (P := P) w op ho t fk p q
    have he := eqGuard_float (P := P) w op t x y fk fk p q
    refine ⟨.float fk r, n, ?_, r, rfl, hr, hf⟩
    simp [execOp, hop, hx, hy, he, hrun, Result.andThen]
  · rintro v ⟨r, rfl, h1, h2⟩
    exact h r h1 h2
theorem wpFreeP_call (hk : k = c) (hg : o.guard = none) (hm : MonoT E1 Vc) (h1 : ∀ w, E0.R W w → insideT E1 P K w Vc ((execOp a.eval o).run P w))
    (h2 : ∀ v, (∃ w, E1.R W w ∧ Vc w v) → wpFreeP E0 E1 c Vc P ops .any W K Q rest (k + 1) (a.put o.dst v) (F.with k (fun w => Vc w v))) : wpFreeP E0 E1 c Vc P ops .any W K Q (o :: rest) k a F := by
  refine ⟨Vc, ⟨hm, fun _ => rfl, .inl ⟨by simp [Region.wanted, hg], fun w hw _ => ?_⟩⟩, fun v hv => h2 v (by obtain ⟨w, hw, _, h⟩ := hv; exact ⟨w, hw, h⟩)⟩
  unfold preE at hw
  rw [if_pos hk] at hw
  unfold stepE
  rw [if_pos hk]
  exact h1 w hw
/-- A REGION WITH FORCED LAST OPERATIONS (from number n on), one of whose first ones writes. -/
theorem region_tailP (hs : ∀ w w', E0.R w w' → E1.R w w') (K : FuncId → Array Value → World → Value → Prop) {id : Nat} {Q : Exit → Act → World → Prop} {a : Act} {w : World} {l : List Oper} (n : Nat) (hVc : ∀ w', E1.R (w.drewN 1) w' → ∃ v w'', E1.R w' w'' ∧ Vc w'' v) (hm : P.follows .mixedOrders = true) (hB : Region.lexTailB .any l.toArray n = true)
    (h : wpFreeP E0 E1 c Vc P l.toArray .any (w.drewN 1) K (fun a' w' => wpList P l.toArray Q (l.drop n) a' w') (l.take n) 0 a noFacts) : (Code.region id l.toArray true).wp P Q a w := by
  simp only [Region.lexTailB, Bool.and_eq_true, decide_eq_true_eq] at hB
  obtain ⟨⟨⟨⟨hsel, hn⟩, hs'⟩, hc⟩, hlex⟩ := hB
  have hn' : n < l.length := by simpa using hn
  have htl : (l.take n).length = n := by simp; omega
  have hdl : (l.drop n).length = l.toArray.size - n := by simp
  have hbound : ∀ listed i, HeadInv .any l.toArray n listed → i < n → listed.getD i true = false → ∀ j ∈ Region.ready .any l.toArray listed, j < n := by
    intro listed i inv hi hun j hj
    rcases Nat.lt_or_ge j n with h | h
    · exact h
    · exact absurd hj (tail_waits hs' hc hn inv _ i rfl hi hun j h)
  have H := anyFreeP_lex (md := .any) (g := l.toArray.size - n) hs hVc hsel hbound (l.take n) 0 _ a noFacts (fun j hj => by
    have hj' : j < n := by rw [htl] at hj; exact hj
    simp [hj']) (by simpa using htl) (head_start _ n) (by rw [htl]; exact hlex) (fun _ _ _ h => h) ⟨w.drewN 1, E1.refl _, fun _ => trivial, trivial⟩ h
  refine wp_region_any hm ?_
  have := anyFreeP_sound (Q' := Q) (W := w.drewN 1) (g := l.toArray.size - n) hs (fun listed a' F w' hw' hF hL => by
    have := wpAny_of_seq (md := .any) (Q' := Q) (l.drop n) n listed a' w' (fun j => by simp [List.getElem?_drop]) (by rw [hdl]; exact hL.1) (hL.2 w' hw' hF)
    rwa [hdl] at this) _ _ _ _ _ (fun _ _ _ h => h) (E1.refl _) (fun _ => E0.refl _) (fun _ => trivial) H
  rw [htl, show n + (l.toArray.size - n) = l.toArray.size by omega] at this
  exact this
end
/-- What may turn: before a call has run, all is as Pre says; behind it, as Post says. -/
def altE (S : Nat → Prop) (Pre Post : World → Prop) (h1 : ∀ w w', le w w' → Pre w → Pre w') (h2 : ∀ w w', le w w' → Post w → Post w') : Ext where
  R w w' := Chg S w w' ∧ (Post w → Post w') ∧ (Pre w ∨ Post w → Pre w' ∨ Post w')
  refl w := ⟨Chg.refl _ w, id, id⟩
  trans := by
    rintro a b c ⟨p1, p2, p3⟩ ⟨q1, q2, q3⟩
    exact ⟨p1.trans q1, fun h => q2 (p2 h), fun h => q3 (p3 h)⟩
  of_le := by
    intro a b h
    exact ⟨Chg.of_le h, h2 a b h, fun e => e.elim (fun x => .inl (h1 a b h x)) (fun x => .inr (h2 a b h x))⟩
section
variable {E0 E1 : Ext} {c : Nat} {Vc : World → Value → Prop} {P : Program} {ops : Array Oper} {W : World} {K : FuncId → Array Value → World → Value → Prop} {Q : Act → World → Prop} {F : Facts} {k : Nat} {o : Oper} {rest : List Oper} {a : Act}
/-- A cell that holds the same before and behind. -/
theorem wpFreeP_cellA (hk : k ≠ c) (hg : o.guard = none) {ty : TypeId} {x : Operand} (hop : o.op = .load ty x) {ad : Addr} (hx : a.eval x = .pointer (some ad)) {v : Value} (hv : ∀ w, E1.R W w → w.cell? ad = some v) (hu : ∀ w, (isAgg ty).run P w = .ok false w)
    (h : wpFreeP E0 E1 c Vc P ops .any W K Q rest (k + 1) (a.put o.dst v) (F.with k (fun _ => True))) : wpFreeP E0 E1 c Vc P ops .any W K Q (o :: rest) k a F := by
  refine wpFreeP_one hk hg v (fun w hw => ?_) h
  have hl : (Instr.loadAt ty (.pointer (some ad))).run P w = .ok v w := by
    simp [Instr.loadAt, Instr.sureAddr, loadVar, hu, hv w hw]
  simp [execOp, hop, hx, hl, Result.andThen]
/-- A call that only reads. -/
theorem wpFreeP_callQ (hk : k ≠ c) (hg : o.guard = none) {f : FuncId} {xs : Array Operand} {ts : Array TypeId} (hop : o.op = Op.call { callee := Callee.value (Operand.func f), args := xs, argTypes := ts }) {fn : Func} (hf : P.funcs[f]? = some fn)
    (hb : fn.body.isNone = false) (hn : (fn.name == "runtime.NumGoroutine") = false) {args : Array Value} (ha : xs.map a.eval = args) (V : Value → Prop)
    (h1 : ∀ w, E1.R W w → Calls P f args w (fun e w' => ∃ v, e = .returned v ∧ le w w' ∧ K f args w' v ∧ V v)) (hK : ∀ w v, K f args w v → V v)
    (h : ∀ v, V v → wpFreeP E0 E1 c Vc P ops .any W K Q rest (k + 1) (a.put o.dst v) (F.with k (fun _ => True))) : wpFreeP E0 E1 c Vc P ops .any W K Q (o :: rest) k a F := by
  refine ⟨fun _ u => V u, ⟨fun _ _ _ _ h => h, fun e => absurd e hk, .inl ⟨by simp [Region.wanted, hg], fun w hw _ => ?_⟩⟩, fun u hu => ?_⟩
  · rw [run_enter hop hf hb hn ha]
    unfold preE at hw
    rw [if_neg hk] at hw
    refine ⟨(stepE E0 E1 c k).refl w, (h1 w hw).mono ?_, fun w'' v hk => hK w'' v hk⟩
    rintro e w' ⟨v, rfl, hl, hk', _⟩
    exact ⟨v, rfl, (stepE E0 E1 c k).of_le hl, hk'⟩
  · obtain ⟨w, _, _, hv⟩ := hu
    exact wpFreeP_weaken _ _ _ _ _ (fun e w h => ⟨h.1, fun _ => trivial⟩) (h u hv)
/-- The call that writes. -/
theorem wpFreeP_callC (hk : k = c) (hg : o.guard = none) {f : FuncId} {xs : Array Operand} {ts : Array TypeId} (hop : o.op = Op.call { callee := Callee.value (Operand.func f), args := xs, argTypes := ts }) {fn : Func} (hf : P.funcs[f]? = some fn)
    (hb : fn.body.isNone = false) (hn : (fn.name == "runtime.NumGoroutine") = false) {args : Array Value} (ha : xs.map a.eval = args) (hm : MonoT E1 Vc)
    (h1 : ∀ w, E0.R W w → Calls P f args w (fun e w' => ∃ v, e = .returned v ∧ E1.R w w' ∧ K f args w' v)) (hK : ∀ w v, K f args w v → Vc w v)
    (h2 : ∀ v, (∃ w, E1.R W w ∧ Vc w v) → wpFreeP E0 E1 c Vc P ops .any W K Q rest (k + 1) (a.put o.dst v) (F.with k (fun w => Vc w v))) : wpFreeP E0 E1 c Vc P ops .any W K Q (o :: rest) k a F := by
  refine wpFreeP_call hk hg hm (fun w hw => ?_) h2
  rw [run_enter hop hf hb hn ha]
  exact ⟨E1.refl w, h1 w hw, fun w'' v hk => hK w'' v hk⟩
end
end Go.Fk

/- What grows by append, beside facts of memory. Nothing here names a program. -/
namespace Go.Fk
open Go Go.RowKit
theorem ownsRow_chS {S : Nat → Prop} {w w' : World} {e : TypeId} {n B : Nat} {xs : List Value} {v : Value} (hw : Chg S w w') (h : w.ownsRow B e 1 v n xs) (hS : ∀ i, S i → i < B) : w'.ownsRow B e 1 v n xs := by
  obtain ⟨h1, h2⟩ := h
  refine ⟨h1, ?_⟩
  rcases h2 with h2 | ⟨q, cap, cur, e1, e2, e3, e4⟩
  · exact .inl h2
  · exact .inr ⟨q, cap, cur, e1, e2, by have := hw.row (g := q) (t := e) (cs := cur) e3 (fun hq => by have := hS q hq; omega); exact this, e4⟩
theorem ownBlock_ge {w : World} {B : Nat} {e : TypeId} {z : Nat} {v : Value} {n : Nat} {xs : List Value} (h : w.ownsRow B e z v n xs) : ∀ k, v.ownBlock = some k → B ≤ k := by
  rcases h.2 with ⟨rfl, _⟩ | ⟨q, cap, cur, rfl, hb, _⟩
  · intro k hk; cases hk
  · intro k hk; simp only [Value.ownBlock, Option.some.injEq] at hk; omega
theorem chg_grown {w w' : World} {row : Option Nat} {B : Nat} (h : w.grownBy w' row) (hr : ∀ k, row = some k → B ≤ k) : Chg (B ≤ ·) w w' :=
  ⟨h.os, h.tape, h.output, h.size, fun k hk hn => h.block k hk (fun e => hn (hr k e.symm))⟩
theorem Frg.up {w0 w w' : World} {L : List Fact} {B : Nat} (h : Frg w0 w L) (k : Chg (B ≤ ·) w w') (hB : ∀ e ∈ L, e.hi ≤ B) (h0 : w0.heap.size ≤ B) : Frg w0 w' L :=
  ⟨h.below.trans (k.below (fun i hi => Nat.le_trans h0 hi) h.size), fun e he => by
    obtain ⟨h1, h2, h3⟩ := h.facts e he
    exact ⟨h1, Nat.le_trans h2 k.size, e.ok w w' h3 (fun i _ hi => k.block i (by omega) (fun hb => by have := hB e he; omega))⟩, h.apart⟩
theorem flist_snoc (y : Nat → Nat) (n a : Nat) : flist y n ++ [.float .f32 a] = flist (fun j => if j = n then a else y j) (n + 1) := by
  have h := flist_app y (fun _ => a) n 1
  have h1 : flist (fun _ => a) 1 = [.float .f32 a] := by simp [flist]
  rw [h1] at h
  rw [h]
  apply List.ext_getElem?
  intro i
  by_cases hi : i < n + 1
  · rw [flist_get' _ hi, flist_get' _ hi]
    by_cases e : i = n
    · simp [e]
    · simp [e, show i < n by omega]
  · rw [List.getElem?_eq_none (by rw [flist_length]; omega), List.getElem?_eq_none (by rw [flist_length]; omega)]
theorem Frg.own2 {w0 w w' : World} {L : List Fact} {q n n' : Nat} {s s' : Value} {x x' : Nat → Nat} (h : Frg w0 w L) (k : Below w.heap.size w w') (h1 : w.heap.size ≤ q) (h2 : q ≤ w'.heap.size) (o1 : OwnS w' w.heap.size q s x n) (o2 : OwnS w' q w'.heap.size s' x' n') :
    Frg w0 w' (ownF q w'.heap.size s' x' n' :: ownF w.heap.size q s x n :: L) := by
  refine ⟨(h.le k).below, fun e he => ?_, .cons (fun e he => ?_) (.cons (fun e he => (h.facts e he).2.1) h.apart)⟩
  · rcases List.mem_cons.1 he with rfl | he
    · exact ⟨Nat.le_trans h.size h1, Nat.le_refl _, o2⟩
    · rcases List.mem_cons.1 he with rfl | he
      · exact ⟨h.size, h2, o1⟩
      · exact (h.le k).facts e he
  · rcases List.mem_cons.1 he with rfl | he
    · exact Nat.le_refl q
    · exact Nat.le_trans (h.facts e he).2.1 h1
theorem m12 {b0 b1 b2 b3 b4 b5 b6 b7 b8 b9 b10 b11 a : Fact} {l : List Fact} : a ∈ b0 :: b1 :: b2 :: b3 :: b4 :: b5 :: b6 :: b7 :: b8 :: b9 :: b10 :: b11 :: a :: l := List.mem_cons_of_mem _ (List.mem_cons_of_mem _ (List.mem_cons_of_mem _ (List.mem_cons_of_mem _ (List.mem_cons_of_mem _ (List.mem_cons_of_mem _ (List.mem_cons_of_mem _ (List.mem_cons_of_mem _ (List.mem_cons_of_mem _ (List.mem_cons_of_mem _ (List.mem_cons_of_mem _ (List.mem_cons_of_mem _ (List.mem_cons_self))))))))))))
theorem m13 {b0 b1 b2 b3 b4 b5 b6 b7 b8 b9 b10 b11 b12 a : Fact} {l : List Fact} : a ∈ b0 :: b1 :: b2 :: b3 :: b4 :: b5 :: b6 :: b7 :: b8 :: b9 :: b10 :: b11 :: b12 :: a :: l := List.mem_cons_of_mem _ (List.mem_cons_of_mem _ (List.mem_cons_of_mem _ (List.mem_cons_of_mem _ (List.mem_cons_of_mem _ (List.mem_cons_of_mem _ (List.mem_cons_of_mem _ (List.mem_cons_of_mem _ (List.mem_cons_of_mem _ (List.mem_cons_of_mem _ (List.mem_cons_of_mem _ (List.mem_cons_of_mem _ (List.mem_cons_of_mem _ (List.mem_cons_self)))))))))))))
theorem m14 {b0 b1 b2 b3 b4 b5 b6 b7 b8 b9 b10 b11 b12 b13 a : Fact} {l : List Fact} : a ∈ b0 :: b1 :: b2 :: b3 :: b4 :: b5 :: b6 :: b7 :: b8 :: b9 :: b10 :: b11 :: b12 :: b13 :: a :: l := List.mem_cons_of_mem _ (List.mem_cons_of_mem _ (List.mem_cons_of_mem _ (List.mem_cons_of_mem _ (List.mem_cons_of_mem _ (List.mem_cons_of_mem _ (List.mem_cons_of_mem _ (List.mem_cons_of_mem _ (List.mem_cons_of_mem _ (List.mem_cons_of_mem _ (List.mem_cons_of_mem _ (List.mem_cons_of_mem _ (List.mem_cons_of_mem _ (List.mem_cons_of_mem _ (List.mem_cons_self))))))))))))))
theorem m15 {b0 b1 b2 b3 b4 b5 b6 b7 b8 b9 b10 b11 b12 b13 b14 a : Fact} {l : List Fact} : a ∈ b0 :: b1 :: b2 :: b3 :: b4 :: b5 :: b6 :: b7 :: b8 :: b9 :: b10 :: b11 :: b12 :: b13 :: b14 :: a :: l := List.mem_cons_of_mem _ (List.mem_cons_of_mem _ (List.mem_cons_of_mem _ (List.mem_cons_of_mem _ (List.mem_cons_of_mem _ (List.mem_cons_of_mem _ (List.mem_cons_of_mem _ (List.mem_cons_of_mem _ (List.mem_cons_of_mem _ (List.mem_cons_of_mem _ (List.mem_cons_of_mem _ (List.mem_cons_of_mem _ (List.mem_cons_of_mem _ (List.mem_cons_of_mem _ (List.mem_cons_of_mem _ (List.mem_cons_self)))))))))))))))
theorem m16 {b0 b1 b2 b3 b4 b5 b6 b7 b8 b9 b10 b11 b12 b13 b14 b15 a : Fact} {l : List Fact} : a ∈ b0 :: b1 :: b2 :: b3 :: b4 :: b5 :: b6 :: b7 :: b8 :: b9 :: b10 :: b11 :: b12 :: b13 :: b14 :: b15 :: a :: l := List.mem_cons_of_mem _ (List.mem_cons_of_mem _ (List.mem_cons_of_mem _ (List.mem_cons_of_mem _ (List.mem_cons_of_mem _ (List.mem_cons_of_mem _ (List.mem_cons_of_mem _ (List.mem_cons_of_mem _ (List.mem_cons_of_mem _ (List.mem_cons_of_mem _ (List.mem_cons_of_mem _ (List.mem_cons_of_mem _ (List.mem_cons_of_mem _ (List.mem_cons_of_mem _ (List.mem_cons_of_mem _ (List.mem_cons_of_mem _ (List.mem_cons_self))))))))))))))))
theorem m17 {b0 b1 b2 b3 b4 b5 b6 b7 b8 b9 b10 b11 b12 b13 b14 b15 b16 a : Fact} {l : List Fact} : a ∈ b0 :: b1 :: b2 :: b3 :: b4 :: b5 :: b6 :: b7 :: b8 :: b9 :: b10 :: b11 :: b12 :: b13 :: b14 :: b15 :: b16 :: a :: l := List.mem_cons_of_mem _ (List.mem_cons_of_mem _ (List.mem_cons_of_mem _ (List.mem_cons_of_mem _ (List.mem_cons_of_mem _ (List.mem_cons_of_mem _ (List.mem_cons_of_mem _ (List.mem_cons_of_mem _ (List.mem_cons_of_mem _ (List.mem_cons_of_mem _ (List.mem_cons_of_mem _ (List.mem_cons_of_mem _ (List.mem_cons_of_mem _ (List.mem_cons_of_mem _ (List.mem_cons_of_mem _ (List.mem_cons_of_mem _ (List.mem_cons_of_mem _ (List.mem_cons_self)))))))))))))))))
theorem m18 {b0 b1 b2 b3 b4 b5 b6 b7 b8 b9 b10 b11 b12 b13 b14 b15 b16 b17 a : Fact} {l : List Fact} : a ∈ b0 :: b1 :: b2 :: b3 :: b4 :: b5 :: b6 :: b7 :: b8 :: b9 :: b10 :: b11 :: b12 :: b13 :: b14 :: b15 :: b16 :: b17 :: a :: l := List.mem_cons_of_mem _ (List.mem_cons_of_mem _ (List.mem_cons_of_mem _ (List.mem_cons_of_mem _ (List.mem_cons_of_mem _ (List.mem_cons_of_mem _ (List.mem_cons_of_mem _ (List.mem_cons_of_mem _ (List.mem_cons_of_mem _ (List.mem_cons_of_mem _ (List.mem_cons_of_mem _ (List.mem_cons_of_mem _ (List.mem_cons_of_mem _ (List.mem_cons_of_mem _ (List.mem_cons_of_mem _ (List.mem_cons_of_mem _ (List.mem_cons_of_mem _ (List.mem_cons_of_mem _ (List.mem_cons_self))))))))))))))))))
theorem m19 {b0 b1 b2 b3 b4 b5 b6 b7 b8 b9 b10 b11 b12 b13 b14 b15 b16 b17 b18 a : Fact} {l : List Fact} : a ∈ b0 :: b1 :: b2 :: b3 :: b4 :: b5 :: b6 :: b7 :: b8 :: b9 :: b10 :: b11 :: b12 :: b13 :: b14 :: b15 :: b16 :: b17 :: b18 :: a :: l := List.mem_cons_of_mem _ (List.mem_cons_of_mem _ (List.mem_cons_of_mem _ (List.mem_cons_of_mem _ (List.mem_cons_of_mem _ (List.mem_cons_of_mem _ (List.mem_cons_of_mem _ (List.mem_cons_of_mem _ (List.mem_cons_of_mem _ (List.mem_cons_of_mem _ (List.mem_cons_of_mem _ (List.mem_cons_of_mem _ (List.mem_cons_of_mem _ (List.mem_cons_of_mem _ (List.mem_cons_of_mem _ (List.mem_cons_of_mem _ (List.mem_cons_of_mem _ (List.mem_cons_of_mem _ (List.mem_cons_of_mem _ (List.mem_cons_self)))))))))))))))))))
theorem Frg.mark10 {w0 w w' : World} {lo hi n : Nat} {s : Value} {x x' : Nat → Nat} {l : List Fact} {b0 b1 b2 b3 b4 b5 b6 b7 b8 b9 : Fact} (h : Frg w0 w (b0 :: b1 :: b2 :: b3 :: b4 :: b5 :: b6 :: b7 :: b8 :: b9 :: ownF lo hi s x n :: l)) (hp : OwnS w' lo hi s x' n) (k : Chg (rng lo hi) w w') : Frg w0 w' (b0 :: b1 :: b2 :: b3 :: b4 :: b5 :: b6 :: b7 :: b8 :: b9 :: ownF lo hi s x' n :: l) :=
  Frg.chg [b0, b1, b2, b3, b4, b5, b6, b7, b8, b9] (e := ownF lo hi s x n) (e' := ownF lo hi s x' n) h k hp rfl rfl
theorem Frg.mark11 {w0 w w' : World} {lo hi n : Nat} {s : Value} {x x' : Nat → Nat} {l : List Fact} {b0 b1 b2 b3 b4 b5 b6 b7 b8 b9 b10 : Fact} (h : Frg w0 w (b0 :: b1 :: b2 :: b3 :: b4 :: b5 :: b6 :: b7 :: b8 :: b9 :: b10 :: ownF lo hi s x n :: l)) (hp : OwnS w' lo hi s x' n) (k : Chg (rng lo hi) w w') : Frg w0 w' (b0 :: b1 :: b2 :: b3 :: b4 :: b5 :: b6 :: b7 :: b8 :: b9 :: b10 :: ownF lo hi s x' n :: l) :=
  Frg.chg [b0, b1, b2, b3, b4, b5, b6, b7, b8, b9, b10] (e := ownF lo hi s x n) (e' := ownF lo hi s x' n) h k hp rfl rfl
theorem Frg.mark12 {w0 w w' : World} {lo hi n : Nat} {s : Value} {x x' : Nat → Nat} {l : List Fact} {b0 b1 b2 b3 b4 b5 b6 b7 b8 b9 b10 b11 : Fact} (h : Frg w0 w (b0 :: b1 :: b2 :: b3 :: b4 :: b5 :: b6 :: b7 :: b8 :: b9 :: b10 :: b11 :: ownF lo hi s x n :: l)) (hp : OwnS w' lo hi s x' n) (k : Chg (rng lo hi) w w') : Frg w0 w' (b0 :: b1 :: b2 :: b3 :: b4 :: b5 :: b6 :: b7 :: b8 :: b9 :: b10 :: b11 :: ownF lo hi s x' n :: l) :=
  Frg.chg [b0, b1, b2, b3, b4, b5, b6, b7, b8, b9, b10, b11] (e := ownF lo hi s x n) (e' := ownF lo hi s x' n) h k hp rfl rfl
theorem Frg.mark13 {w0 w w' : World} {lo hi n : Nat} {s : Value} {x x' : Nat → Nat} {l : List Fact} {b0 b1 b2 b3 b4 b5 b6 b7 b8 b9 b10 b11 b12 : Fact} (h : Frg w0 w (b0 :: b1 :: b2 :: b3 :: b4 :: b5 :: b6 :: b7 :: b8 :: b9 :: b10 :: b11 :: b12 :: ownF lo hi s x n :: l)) (hp : OwnS w' lo hi s x' n) (k : Chg (rng lo hi) w w') : Frg w0 w' (b0 :: b1 :: b2 :: b3 :: b4 :: b5 :: b6 :: b7 :: b8 :: b9 :: b10 :: b11 :: b12 :: ownF lo hi s x' n :: l) :=
  Frg.chg [b0, b1, b2, b3, b4, b5, b6, b7, b8, b9, b10, b11, b12] (e := ownF lo hi s x n) (e' := ownF lo hi s x' n) h k hp rfl rfl
theorem Frg.mark14 {w0 w w' : World} {lo hi n : Nat} {s : Value} {x x' : Nat → Nat} {l : List Fact} {b0 b1 b2 b3 b4 b5 b6 b7 b8 b9 b10 b11 b12 b13 : Fact} (h : Frg w0 w (b0 :: b1 :: b2 :: b3 :: b4 :: b5 :: b6 :: b7 :: b8 :: b9 :: b10 :: b11 :: b12 :: b13 :: ownF lo hi s x n :: l)) (hp : OwnS w' lo hi s x' n) (k : Chg (rng lo hi) w w') : Frg w0 w' (b0 :: b1 :: b2 :: b3 :: b4 :: b5 :: b6 :: b7 :: b8 :: b9 :: b10 :: b11 :: b12 :: b13 :: ownF lo hi s x' n :: l) :=
  Frg.chg [b0, b1, b2, b3, b4, b5, b6, b7, b8, b9, b10, b11, b12, b13] (e := ownF lo hi s x n) (e' := ownF lo hi s x' n) h k hp rfl rfl
theorem Frg.mark15 {w0 w w' : World} {lo hi n : Nat} {s : Value} {x x' : Nat → Nat} {l : List Fact} {b0 b1 b2 b3 b4 b5 b6 b7 b8 b9 b10 b11 b12 b13 b14 : Fact} (h : Frg w0 w (b0 :: b1 :: b2 :: b3 :: b4 :: b5 :: b6 :: b7 :: b8 :: b9 :: b10 :: b11 :: b12 :: b13 :: b14 :: ownF lo hi s x n :: l)) (hp : OwnS w' lo hi s x' n) (k : Chg (rng lo hi) w w') : Frg w0 w' (b0 :: b1 :: b2 :: b3 :: b4 :: b5 :: b6 :: b7 :: b8 :: b9 :: b10 :: b11 :: b12 :: b13 :: b14 :: ownF lo hi s x' n :: l) :=
  Frg.chg [b0, b1, b2, b3, b4, b5, b6, b7, b8, b9, b10, b11, b12, b13, b14] (e := ownF lo hi s x n) (e' := ownF lo hi s x' n) h k hp rfl rfl
theorem Frg.mark16 {w0 w w' : World} {lo hi n : Nat} {s : Value} {x x' : Nat → Nat} {l : List Fact} {b0 b1 b2 b3 b4 b5 b6 b7 b8 b9 b10 b11 b12 b13 b14 b15 : Fact} (h : Frg w0 w (b0 :: b1 :: b2 :: b3 :: b4 :: b5 :: b6 :: b7 :: b8 :: b9 :: b10 :: b11 :: b12 :: b13 :: b14 :: b15 :: ownF lo hi s x n :: l)) (hp : OwnS w' lo hi s x' n) (k : Chg (rng lo hi) w w') : Frg w0 w' (b0 :: b1 :: b2 :: b3 :: b4 :: b5 :: b6 :: b7 :: b8 :: b9 :: b10 :: b11 :: b12 :: b13 :: b14 :: b15 :: ownF lo hi s x' n :: l) :=
  Frg.chg [b0, b1, b2, b3, b4, b5, b6, b7, b8, b9, b10, b11, b12, b13, b14, b15] (e := ownF lo hi s x n) (e' := ownF lo hi s x' n) h k hp rfl rfl
end Go.Fk

/- An append to a row of one's own in a region that draws its order: elements of any width. Nothing here names a program. -/
namespace Go.Fk
open Go Go.RowKit
theorem ownsRow_keep {w w' : World} {B : Nat} {e : TypeId} {z : Nat} {v : Value} {n : Nat} {xs : List Value} {S : Nat → Prop} (h : w.ownsRow B e z v n xs) (hw : Chg S w w') (hS : ∀ k, v.ownBlock = some k → ¬ S k) : w'.ownsRow B e z v n xs := by
  obtain ⟨h1, h2⟩ := h
  refine ⟨h1, ?_⟩
  rcases h2 with h2 | ⟨q, cap, cur, e1, e2, e3, e4⟩
  · exact .inl h2
  · exact .inr ⟨q, cap, cur, e1, e2, by have := hw.row (g := q) (t := e) (cs := cur) e3 (hS q (by rw [e1]; rfl)); exact this, e4⟩
theorem ownsRow_mono {w : World} {B B' : Nat} {e : TypeId} {z : Nat} {v : Value} {n : Nat} {xs : List Value} (h : w.ownsRow B e z v n xs) (hb : B' ≤ B) : w.ownsRow B' e z v n xs := by
  obtain ⟨h1, h2⟩ := h
  refine ⟨h1, ?_⟩
  rcases h2 with h2 | ⟨q, cap, cur, e1, e2, e3⟩
  · exact .inl h2
  · exact .inr ⟨q, cap, cur, e1, Nat.le_trans hb e2, e3⟩
theorem ownsRow_lt {w : World} {B : Nat} {e : TypeId} {z : Nat} {v : Value} {n : Nat} {xs : List Value} (h : w.ownsRow B e z v n xs) : ∀ k, v.ownBlock = some k → B ≤ k ∧ k < w.heap.size := by
  intro k hk
  rcases h.2 with ⟨rfl, _⟩ | ⟨q, cap, cur, rfl, e2, e3, _⟩
  · cases hk
  · obtain rfl : q = k := by simpa [Value.ownBlock] using hk
    refine ⟨e2, ?_⟩
    rcases Nat.lt_or_ge q w.heap.size with hlt | hge
    · exact hlt
    · rw [Array.getElem?_eq_none hge] at e3; cases e3
theorem run_append_keep {P : Program} (w : World) (t ty : TypeId) (base : Nat) (e : TypeId) (i : TypeInfo) (z : Value) (size bytes : Nat) (ht : P.underlying t = some (.slice e)) (hi : P.info? e = some i) (hz : i.zero = some z)
    (hsize : i.size = size) (hby : i.bytes = bytes) (hzs : z.cells.size = size) (hsz : 0 < size)
    (v : Value) (n : Nat) (xs : List Value) (hown : w.ownsRow base e size v n xs)
    (ad : Addr) (m c : Nat) (news : List Value) (hl : news.length = m * size) (hnews : ∀ j u, news[j]? = some u → w.cell? (ad.add j) = some u) (h1 : ∀ u ∈ news, u.oneCell' = true)
    (hm : 0 < m) (h63 : n + m ≤ maxLen) (hbytes : (n + m) * bytes ≤ 140737488355328) (hbase : base ≤ w.heap.size) :
    ∃ v' w', (Builtin.append_ #[t, t] ty #[v, .slice (some ad) m c]).run P w = .ok v' w' ∧ w'.ownsRow base e size v' (n + m) (xs ++ news) ∧ Chg (fun k => v.ownBlock = some k) w w' ∧
      (v'.ownBlock = v.ownBlock ∨ ∃ q, v'.ownBlock = some q ∧ w.heap.size ≤ q) ∧ w'.ownsRow base e size v n xs ∧ (∀ u, u.ownBlock = v.ownBlock → w.ownsRow base e size u (n + m) (xs ++ news) → w'.ownsRow base e size u (n + m) (xs ++ news)) := by
  have hlen : (xs ++ news).length = (n + m) * size := by rw [List.length_append, hown.1, hl, Nat.add_mul]
  rcases hown.2 with ⟨rfl, rfl⟩ | ⟨g, cap, cur, rfl, hbg, hg, hnc, hcm, hcs, htake⟩
  · obtain ⟨v', w', hr, h2, h3, _, h5⟩ := run_append_own_at (P := P) w base t ty e i z size bytes ht hi hz hsize hby hzs hsz (.slice none 0 0) 0 xs hown ad m c news hl hnews h1 h63 hbytes hbase
    have hle : le w w' := le_of_grown h3
    refine ⟨v', w', hr, h2, Chg.of_le hle, ?_, ownsRow_le hown hle, fun u _ hu => ownsRow_le hu hle⟩
    rcases h5 with h5 | h5
    · exact .inl h5
    · exact .inr ⟨_, h5, Nat.le_refl _⟩
  · by_cases hroom : n + m ≤ cap
    · subst hsize
      have hfit : n * i.size + news.length ≤ cur.size := by rw [hl, hcs, ← Nat.add_mul]; exact Nat.mul_le_mul_right _ hroom
      have hr := run_append_room (P := P) w t ty e i ht hi g n cap cur hg ad m c news hl hnews h1 hroom hfit
      have hnew : (w.setRow g (cur.toList.take (n * i.size) ++ news ++ cur.toList.drop (n * i.size + news.length)).toArray).ownsRow base e i.size (.slice (some ⟨g, 0, none⟩) (n + m) cap) (n + m) (xs ++ news) := by
        refine ⟨hlen, .inr ⟨g, cap, _, rfl, hbg, setRow_heap w g cur _ e _ hg, hroom, hcm, ?_, ?_⟩⟩
        · simp only [List.size_toArray, List.length_append, List.length_take, List.length_drop, Array.length_toList]
          omega
        · rw [htake, ← hlen]
          exact List.take_left
      refine ⟨_, _, hr, hnew, ⟨rfl, rfl, rfl, by simp, fun k _ hk => setRow_other w g k _ (fun e => hk (by simp [Value.ownBlock, e]))⟩, .inl rfl, ?_, fun u hu ho => ?_⟩
      · refine ⟨hown.1, .inr ⟨g, cap, _, rfl, hbg, setRow_heap w g cur _ e _ hg, hnc, hcm, ?_, ?_⟩⟩
        · simp only [List.size_toArray, List.length_append, List.length_take, List.length_drop, Array.length_toList]
          omega
        · rw [htake, List.append_assoc, ← hown.1]
          exact List.take_left
      · rcases ho.2 with ⟨rfl, h0⟩ | ⟨g0, cap0, cur0, rfl, _, hg0, _, _, hs0, _⟩
        · omega
        · obtain rfl : g0 = g := by simpa [Value.ownBlock] using hu
          rw [hg] at hg0
          simp only [Option.some.injEq, Obj.cells.injEq] at hg0
          obtain ⟨rfl, _⟩ := hg0
          obtain rfl : cap = cap0 := Nat.eq_of_mul_eq_mul_right hsz (hcs.symm.trans hs0)
          exact hnew
    · obtain ⟨v', w', hr, h2, h3⟩ := run_append_arg_grows (P := P) w t ty e i z size bytes ht hi hz hsize hby hzs hsz ⟨g, 0, none⟩ n cap xs hown.1 (hown.cells (g := g) rfl) ad m c news hl hnews (by omega) h63 hbytes
      have hle : le w w' := le_of_grown h3
      obtain ⟨q, c', rfl, hq, _⟩ := h2.form (by omega)
      exact ⟨_, w', hr, ownsRow_mono h2 hbase, Chg.of_le hle, .inr ⟨q, rfl, hq⟩, ownsRow_le hown hle, fun u _ hu => ownsRow_le hu hle⟩
/-- Only the row that one owns is written, by one append. -/
def appX (base : Nat) (e : TypeId) (z : Nat) (v : Value) (n : Nat) (xs : List Value) (m : Nat) (news : List Value) : Ext where
  R w w' := Chg (fun k => v.ownBlock = some k) w w' ∧ (w.ownsRow base e z v n xs → w'.ownsRow base e z v n xs) ∧ (∀ u, u.ownBlock = v.ownBlock → w.ownsRow base e z u (n + m) (xs ++ news) → w'.ownsRow base e z u (n + m) (xs ++ news))
  refl w := ⟨Chg.refl _ w, fun h => h, fun _ _ h => h⟩
  trans h k := ⟨h.1.trans k.1, fun x => k.2.1 (h.2.1 x), fun u hu x => k.2.2 u hu (h.2.2 u hu x)⟩
  of_le h := ⟨Chg.of_le h, fun x => ownsRow_le x h, fun _ _ x => ownsRow_le x h⟩
section
variable {P : Program} {ops : Array Oper} {W : World} {K : FuncId → Array Value → World → Value → Prop} {Q : Act → World → Prop} {F : Facts} {k : Nat} {o : Oper} {rest : List Oper} {a : Act}
variable {base : Nat} {e : TypeId} {z : Nat} {v : Value} {n : Nat} {xs : List Value} {m : Nat} {news : List Value}
theorem appX_row {w : World} (hown : W.ownsRow base e z v n xs) (hw : (appX base e z v n xs m news).R W w) {q : Nat} {t : TypeId} {cs : Array Value} (hr : Row W q t cs) (hq : v.ownBlock ≠ some q) : Row w q t cs := hw.1.row hr hq
theorem wpFreeD_madeX (hown : W.ownsRow base e z v n xs) (hg : o.guard = none) (f : Nat → Value) (t : TypeId) (cs : Array Value) (hr : ∀ w, (execOp a.eval o).run P w = .ok (.value (f w.heap.size)) (w.alloc (.cells cs t)))
    (h : ∀ b, wpFreeD (appX base e z v n xs m news) P ops .any W K Q rest (k + 1) (a.put o.dst (f b)) (F.with k (fun w => ∃ b', f b = f b' ∧ Row w b' t cs))) : wpFreeD (appX base e z v n xs m news) P ops .any W K Q (o :: rest) k a F := by
  refine ⟨fun w u => ∃ b', u = f b' ∧ W.heap.size ≤ b' ∧ Row w b' t cs, ⟨fun u w w' hw hu => ?_, .inl ⟨by simp [Region.wanted, hg], fun w hw _ => ?_⟩⟩, fun u hu => ?_⟩
  · obtain ⟨b', e1, h2, hrow⟩ := hu
    exact ⟨b', e1, h2, hw.1.row hrow (fun e2 => by have := (ownsRow_lt hown _ e2).2; omega)⟩
  · rw [hr w]
    exact ⟨(appX base e z v n xs m news).of_le (le_alloc w _), w.heap.size, rfl, hw.1.size, Row.new w t cs⟩
  · obtain ⟨w, _, _, b, rfl, _⟩ := hu
    exact wpFreeD_weaken _ _ _ _ _ (fun e w h => ⟨h.1, fun he => by obtain ⟨b', e1, _, h2⟩ := h.2 he; exact ⟨b', e1, h2⟩⟩) (h b)
/-- What an append gives. -/
def Gave (W : World) (base : Nat) (e : TypeId) (z : Nat) (v : Value) (n : Nat) (xs : List Value) (w : World) (u : Value) : Prop := w.ownsRow base e z u n xs ∧ (u.ownBlock = v.ownBlock ∨ ∃ q, u.ownBlock = some q ∧ W.heap.size ≤ q)
theorem wpFreeD_appK (hown : W.ownsRow base e z v n xs) (hg : o.guard = none) {s x : Operand} {t : TypeId} (hop : o.op = .call { callee := .builtin .append, args := #[s, x], argTypes := #[t, t] }) {i : TypeInfo} {zv : Value} {bytes : Nat}
    (ht : P.underlying t = some (.slice e)) (hi : P.info? e = some i) (hz : i.zero = some zv) (hsize : i.size = z) (hby : i.bytes = bytes) (hzs : zv.cells.size = z) (hsz : 0 < z)
    (hs : a.eval s = v) {ad : Addr} {c : Nat} (hx : a.eval x = .slice (some ad) m c) (hl : news.length = m * z) (hnews : ∀ w, (appX base e z v n xs m news).R W w → behind .any o F w → ∀ j u, news[j]? = some u → w.cell? (ad.add j) = some u) (h1 : ∀ u ∈ news, u.oneCell' = true)
    (hm : 0 < m) (h63 : n + m ≤ maxLen) (hbytes : (n + m) * bytes ≤ 140737488355328) (hbase : base ≤ W.heap.size)
    (h : ∀ u, (∃ w, (appX base e z v n xs m news).R W w ∧ Gave W base e z v (n + m) (xs ++ news) w u) → wpFreeD (appX base e z v n xs m news) P ops .any W K Q rest (k + 1) (a.put o.dst u) (F.with k (fun w => Gave W base e z v (n + m) (xs ++ news) w u))) : wpFreeD (appX base e z v n xs m news) P ops .any W K Q (o :: rest) k a F := by
  refine ⟨Gave W base e z v (n + m) (xs ++ news), ⟨fun u w w' hw hu => ?_, .inl ⟨by simp [Region.wanted, hg], fun w hw hbe => ?_⟩⟩, fun u hu => h u (by obtain ⟨w, h1, _, h2⟩ := hu; exact ⟨w, h1, h2⟩)⟩
  · obtain ⟨g1, g2⟩ := hu
    refine ⟨?_, g2⟩
    by_cases hq : u.ownBlock = v.ownBlock
    · exact hw.2.2 u hq g1
    · exact ownsRow_keep g1 hw.1 (fun q e1 e2 => hq (e1.trans e2.symm))
  · obtain ⟨v', w', hr, r1, r2, r3, r4, r5⟩ := run_append_keep (P := P) w t o.type base e i zv z bytes ht hi hz hsize hby hzs hsz v n xs (hw.2.1 hown) ad m c news hl (hnews w hw hbe) h1 hm h63 hbytes (Nat.le_trans hbase hw.1.size)
    simp [execOp, hop, resolve, invoke, builtin, hs, hx, hr, Result.andThen, insideT]
    refine ⟨⟨r2, fun _ => r4, r5⟩, r1, ?_⟩
    rcases r3 with r3 | ⟨q, r3, r6⟩
    · exact .inl r3
    · exact .inr ⟨q, r3, Nat.le_trans hw.1.size r6⟩
end
end Go.Fk

/- Drawn regions with facts whose last operations are forced; float arithmetic within them. Nothing here names a program. -/
namespace Go.Fk
open Go Go.RowKit
section
variable {E : Ext} {P : Program} {ops : Array Oper} {W : World} {K : FuncId → Array Value → World → Value → Prop} {Q : Act → World → Prop} {F : Facts} {k : Nat} {o : Oper} {rest : List Oper} {a : Act}
theorem wpFreeD_some (hg : o.guard = none) (V : Value → Prop) (hr : ∀ w, E.R W w → ∃ v n, (execOp a.eval o).run P w = .ok (.value v) (w.drewN n) ∧ V v)
    (h : ∀ v, V v → wpFreeD E P ops .any W K Q rest (k + 1) (a.put o.dst v) (F.with k (fun _ => True))) : wpFreeD E P ops .any W K Q (o :: rest) k a F := by
  refine ⟨fun _ u => V u, ⟨fun _ _ _ _ h => h, .inl ⟨by simp [Region.wanted, hg], fun w hw _ => ?_⟩⟩, fun u hu => ?_⟩
  · obtain ⟨v, n, hrun, hv⟩ := hr w hw
    rw [hrun]; exact ⟨E.of_le (le_drewN w n), hv⟩
  · obtain ⟨w, _, _, hv⟩ := hu
    exact wpFreeD_weaken _ _ _ _ _ (fun e w h => ⟨h.1, fun _ => trivial⟩) (h u hv)
theorem wpFreeD_farith (hg : o.guard = none) {op : BinOp} {t t' : TypeId} {x y : Operand} (hop : o.op = Op.binOp op t x y t') (ho : arith op = true)
    {fk : FloatKind} {p q : Nat} (hx : a.eval x = .float fk p) (hy : a.eval y = .float fk q)
    (h : ∀ r, Hid (can fk r = fop op fk p q) → Hid (fits fk r) → wpFreeD E P ops .any W K Q rest (k + 1) (a.put o.dst (.float fk r)) (F.with k (fun _ => True))) : wpFreeD E P ops .any W K Q (o :: rest) k a F := by
  refine wpFreeD_some hg (fun v => ∃ r, v = .float fk r ∧ can fk r = fop op fk p q ∧ fits fk r) (fun w _ => ?_) ?_
  · obtain ⟨r, n, hrun, hr, hf⟩ := run_farith (P := P) w op ho t fk p q
    have he := eqGuard_float (P := P) w op t x y fk fk p q
    refine ⟨.float fk r, n, ?_, r, rfl, hr, hf⟩
    simp [execOp, hop, hx, hy, he, hrun, Result.andThen]
  · rintro v ⟨r, rfl, h1, h2⟩
    exact h r h1 h2
end
section
variable {E : Ext} {P : Program}
/-- A REGION WITH FORCED LAST OPERATIONS (from number n on). -/
theorem region_tailD (K : FuncId → Array Value → World → Value → Prop) {id : Nat} {Q : Exit → Act → World → Prop} {a : Act} {w : World} {l : List Oper} (n : Nat) (hm : P.follows .mixedOrders = true) (hB : Region.lexTailB .any l.toArray n = true)
    (h : wpFreeD E P l.toArray .any (w.drewN 1) K (fun a' w' => wpList P l.toArray Q (l.drop n) a' w') (l.take n) 0 a noFacts) : (Code.region id l.toArray true).wp P Q a w := by
  simp only [Region.lexTailB, Bool.and_eq_true, decide_eq_true_eq] at hB
  obtain ⟨⟨⟨⟨hsel, hn⟩, hs'⟩, hc⟩, hlex⟩ := hB
  have hn' : n < l.length := by simpa using hn
  have htl : (l.take n).length = n := by simp; omega
  have hdl : (l.drop n).length = l.toArray.size - n := by simp
  have hbound : ∀ listed i, HeadInv .any l.toArray n listed → i < n → listed.getD i true = false → ∀ j ∈ Region.ready .any l.toArray listed, j < n := by
    intro listed i inv hi hun j hj
    rcases Nat.lt_or_ge j n with h | h
    · exact h
    · exact absurd hj (tail_waits hs' hc hn inv _ i rfl hi hun j h)
  have H := anyFreeD_lex (md := .any) (g := l.toArray.size - n) hsel hbound (l.take n) 0 _ a noFacts (fun j hj => by
    have hj' : j < n := by rw [htl] at hj; exact hj
    simp [hj']) (by simpa using htl) (head_start _ n) (by rw [htl]; exact hlex) (fun _ _ _ h => h) ⟨w.drewN 1, E.refl _, fun _ => trivial, trivial⟩ h
  refine wp_region_any hm ?_
  have := anyFreeD_sound (Q' := Q) (W := w.drewN 1) (g := l.toArray.size - n) (fun listed a' F w' hw' hF hL => by
    have := wpAny_of_seq (md := .any) (Q' := Q) (l.drop n) n listed a' w' (fun j => by simp [List.getElem?_drop]) (by rw [hdl]; exact hL.1) (hL.2 w' hw' hF)
    rwa [hdl] at this) _ _ _ _ _ (fun _ _ _ h => h) (E.refl _) (fun _ => trivial) H
  rw [htl, show n + (l.toArray.size - n) = l.toArray.size by omega] at this
  exact this
end
end Go.Fk

/- The texts of samples, each behind a blank. -/
namespace Go.Fk
open Go Go.RowKit
/-- Each behind a blank. -/
def samL (f : Nat → Nat) : Nat → ByteArray
  | 0 => ⟨#[]⟩
  | n + 1 => samL f n ++ (spB ++ hexT (can .f32 (f n)))
theorem ba_assoc (a b c : ByteArray) : a ++ b ++ c = a ++ (b ++ c) := by apply ba_ext; simp
theorem ba_nil (a : ByteArray) : (⟨#[]⟩ : ByteArray) ++ a = a := by apply ba_ext; simp
theorem samL_txt (f : Nat → Nat) {n : Nat} (h : 0 < n) : samL f n = spB ++ txtS f n := by
  induction n with
  | zero => omega
  | succ n ih =>
    by_cases h0 : n = 0
    · subst h0; rw [txtS_one, samL, samL, ba_nil]
    · rw [samL, ih (by omega), txtS_succ f (by omega), ba_assoc]
theorem samL_size (f : Nat → Nat) (n : Nat) : (samL f n).size = n * 9 := by
  induction n with
  | zero => rfl
  | succ n ih => rw [samL, ByteArray.size_append, ByteArray.size_append, ih, hexT_size, show spB.size = 1 from rfl]; omega
theorem samL_congr {f g : Nat → Nat} {n : Nat} (h : ∀ i, i < n → can .f32 (f i) = can .f32 (g i)) : samL f n = samL g n := by
  induction n with
  | zero => rfl
  | succ n ih => rw [samL, samL, ih (fun i hi => h i (by omega)), h n (by omega)]
/-- A text. -/
def Out_t (ar0 : ByteArray) (w : World) (e : Ending) (w' : World) : Prop := e = .returned (.string ar0) ∧ le w w'
end Go.Fk
namespace Go.Proofs.YtcchiooiogkofaaDoor
open Go.RowKit Go.Fk
end Go.Proofs.YtcchiooiogkofaaDoor

/- The model's 'Decimal'. -/
namespace Go.Fk
open Go Go.RowKit
def oneB (d : Nat) : ByteArray := ⟨#[UInt8.ofNat d]⟩
theorem oneB_bytes {w : World} {b d : Nat} {t : TypeId} (h : Row w b t #[.int .u8 (d : Int)]) (hd : d < 256) : Lib.Bytes w b 0 (oneB d) := fun i hi => by
  have h1 : i < 1 := hi
  obtain rfl : i = 0 := by omega
  rw [Nat.zero_add, h.cell?]
  show some (Value.int .u8 (d : Int)) = some (Value.int .u8 (((UInt8.ofNat d).toNat : Nat) : Int))
  rw [show (UInt8.ofNat d).toNat = d by simp; omega]
theorem decT_small {n : Nat} (h : n < 10) : decT n = oneB (48 + n) := by unfold decT oneB; rw [Lib.decDigits_one h]
theorem decT_big {n : Nat} (h : ¬ n < 10) : decT (n / 10) ++ oneB (48 + n % 10) = decT n := by
  apply ba_ext
  unfold decT oneB
  conv => rhs; rw [Lib.decDigits, dif_neg h]
  simp
theorem nDigits_le : ∀ (k n : Nat), n < 10 ^ (k + 1) → Lib.nDigits n ≤ k + 1 := by
  intro k
  induction k with
  | zero => intro n h; rw [Lib.nDigits_small (by simpa using h)]; exact Nat.le_refl _
  | succ k ih =>
    intro n h
    by_cases h1 : n < 10
    · rw [Lib.nDigits_small h1]; omega
    · rw [Lib.nDigits, dif_neg h1]
      have := ih (n / 10) (by rw [Nat.pow_succ] at h; omega)
      omega
theorem decT_size (n : Nat) (h : n ≤ 9223372036854775807) : (decT n).size ≤ 19 := by
  have : (decT n).size = Lib.nDigits n := by rw [ba_size]; unfold decT; simp [Lib.decDigits_length]
  rw [this]
  exact nDigits_le 18 n (by omega)
section
variable {P : Program} {ops : Array Oper} {W : World} {K : FuncId → Array Value → World → Value → Prop} {Q : Act → World → Prop} {F : Facts} {k : Nat} {o : Oper} {rest : List Oper} {a : Act}
/-- An operation whose value hangs on what is known of the ones that it comes behind. -/
theorem wpFreeD_oneF (hg : o.guard = none) (v : Value) (hr : ∀ w, le W w → behind .any o F w → (execOp a.eval o).run P w = .ok (.value v) w)
    (h : wpFreeD leX P ops .any W K Q rest (k + 1) (a.put o.dst v) (F.with k (fun _ => True))) : wpFreeD leX P ops .any W K Q (o :: rest) k a F := by
  refine ⟨fun _ u => u = v, ⟨fun _ _ _ _ h => h, .inl ⟨by simp [Region.wanted, hg], fun w hw hbe => ?_⟩⟩, fun u hu => ?_⟩
  · rw [hr w hw hbe]; exact ⟨le_refl w, rfl⟩
  · obtain ⟨w, _, _, rfl⟩ := hu
    exact wpFreeD_weaken _ _ _ _ _ (fun e w h => ⟨h.1, fun _ => trivial⟩) h
end
end Go.Fk
namespace Go.Proofs.YtcchiooiogkofaaDoor
open Go.RowKit Go.Fk
theorem infoU14 : (Tryd.prog.info? 5).map (fun i => (i.zero, i.size, i.bytes)) = some (some (.int .u8 0), 1, 1) := by kernel_rfl
theorem fillU1 (ti : TypeInfo) (p : Int) (h : ti.size = 1) : Instr.fill (fun i => some (i * ti.size, ti.size)) ((Array.range (1 * ti.size)).map ((.int .u8 0 : Value).cells[· % (.int .u8 0 : Value).cells.size]!)) (#[(0, .int .u8 p)] : Array (Nat × Value)).toList = some #[.int .u8 p] := by
  rw [h]
  have hr : Array.range (1 * 1) = #[0] := by decide
  rw [hr]
  simp [Instr.fill, Value.cells]
theorem mkU1 (p : Int) (w : World) : (Instr.buildSlice 68 1 #[(0, .int .u8 p)]).run Tryd.prog w = .ok (.slice (some ⟨w.heap.size, 0, none⟩) 1 1) (w.alloc (.cells #[.int .u8 p] 5)) := by
  have h := infoU14
  cases hi : Tryd.prog.info? 5 with
  | none => rw [hi] at h; simp at h
  | some i =>
    rw [hi] at h; simp at h
    exact run_buildSlice (P := Tryd.prog) w 68 5 1 _ _ i _ Tryd.underlying68 hi h.1 (by rw [h.2.1]; decide) (by rw [h.2.1]; decide) (fillU1 _ _ h.2.1)
theorem conv1 {w : World} {b d : Nat} {t : TypeId} (h : Row w b t #[.int .u8 (d : Int)]) (hd : d < 256) : (convert 68 9 (.slice (some ⟨b, 0, none⟩) 1 1)).run Tryd.prog w = .ok (.string (oneB d)) w := by
  have := Lib.run_convert_whole (P := Tryd.prog) w 68 5 9 Tryd.underlying68 Tryd.underlying5 Tryd.underlying9 b 0 (oneB d) (oneB_bytes h hd) 1
  exact this
set_option maxRecDepth 100000 in
set_option maxHeartbeats 4000000 in
theorem s_Decimal : ∀ (n : Nat), n ≤ 9223372036854775807 → ∀ w : World, Calls Tryd.prog 14 #[.int .i64 n] w fun e w' => e = .returned (.string (decT n)) ∧ le w w' := by
  intro n
  induction n using Nat.strongRecOn with
  | ind n ih =>
  intro hn w
  by_cases h10 : n < 10
  · have e1 := decT_small h10
    have hb := mkU1 ((48 : Int) + n) w
    have hR := Row.new w 5 #[.int .u8 (((48 + n : Nat) : Int))]
    have hc := conv1 hR (by omega)
    have e2 : (((48 + n : Nat) : Int)) = (48 : Int) + n := by omega
    rw [e2] at hc hR
    rw [e1]
    have HL := hid (le_alloc w (.cells #[.int .u8 ((48 : Int) + n)] 5))
    clear ih hR e1 e2
    go_enter Tryd.func14, Tryd.ntmps14
    go_wp2
    go_ret
    exact ⟨rfl, HL.out⟩
  · have IH := hid (ih (n / 10) (by omega) (by omega))
    have ez := decT_size (n / 10) (by omega)
    have EB := hid (decT_big h10)
    clear ih
    go_enter Tryd.func14, Tryd.ntmps14
    go_wp2_with fail
    have G := hid (le_drewN w 1)
    refine region_freeD (E := leX) (fun _ _ _ v => v = .string (decT (n / 10))) (by kernel_rfl) (by kernel_rfl) ?_
    refine wpFreeD_one rfl (.int .i64 n) (fun w1 _ => by kernel_rfl) ?_
    simp only [Act.put, List.setIfInBounds_toArray, List.set_cons_succ, List.set_cons_zero]
    refine wpFreeD_one rfl (.int .i64 ((n / 10 : Nat) : Int)) (fun w1 _ => ?_) ?_
    · first | (go_simp; done) | (go_simp; go_num; done) | (go_simp; exact Int.tmod_eq_emod_of_nonneg (by omega)) | (go_simp; simp [IntKind.wrap, IntKind.bits]; omega)
    simp only [Act.put, List.setIfInBounds_toArray, List.set_cons_succ, List.set_cons_zero]
    refine wpFreeD_callB rfl rfl Tryd.func14 (by kernel_rfl) (by kernel_rfl) (args := #[.int .i64 ((n / 10 : Nat) : Int)]) (by simp [Act.eval]) (fun v w1 w2 hw hv => hv) (fun w1 hw1 _ => (IH.out w1).mono ?_) ?_
    · rintro e w2 ⟨rfl, hl⟩
      exact ⟨_, rfl, hl, rfl⟩
    rintro v ⟨_, _, _, rfl⟩
    simp only [Act.put, List.setIfInBounds_toArray, List.set_cons_succ, List.set_cons_zero]
    refine wpFreeD_one rfl (.int .i64 n) (fun w1 _ => by kernel_rfl) ?_
    simp only [Act.put, List.setIfInBounds_toArray, List.set_cons_succ, List.set_cons_zero]
    refine wpFreeD_one rfl (.int .i64 ((n % 10 : Nat) : Int)) (fun w1 _ => ?_) ?_
    · first | (go_simp; done) | (go_simp; go_num; done) | (go_simp; exact Int.tmod_eq_emod_of_nonneg (by omega)) | (go_simp; simp [IntKind.wrap, IntKind.bits]; omega)
    simp only [Act.put, List.setIfInBounds_toArray, List.set_cons_succ, List.set_cons_zero]
    refine wpFreeD_one rfl (.int .i64 ((48 + n % 10 : Nat) : Int)) (fun w1 _ => ?_) ?_
    · first | (go_simp; done) | (go_simp; go_num; done) | (go_simp; exact Int.tmod_eq_emod_of_nonneg (by omega)) | (go_simp; simp [IntKind.wrap, IntKind.bits]; omega)
    simp only [Act.put, List.setIfInBounds_toArray, List.set_cons_succ, List.set_cons_zero]
    refine wpFreeD_one rfl (.int .u8 ((48 + n % 10 : Nat) : Int)) (fun w1 _ => ?_) ?_
    · first | (go_simp; done) | (go_simp; go_num; done) | (go_simp; exact Int.tmod_eq_emod_of_nonneg (by omega)) | (go_simp; simp [IntKind.wrap, IntKind.bits]; omega)
    simp only [Act.put, List.setIfInBounds_toArray, List.set_cons_succ, List.set_cons_zero]
    refine wpFreeD_newN rfl (fun q => .slice (some ⟨q, 0, none⟩) 1 1) (fun b b' h => by simpa using h) 5 #[.int .u8 ((48 + n % 10 : Nat) : Int)] (fun w1 => ?_) (fun q => ?_)
    · have hb := mkU1 ((48 + n % 10 : Nat) : Int) w1
      push_cast at hb
      simp [execOp, Act.eval, Result.andThen, hb]
    simp only [Act.put, List.setIfInBounds_toArray, List.set_cons_succ, List.set_cons_zero]
    refine wpFreeD_oneF rfl (.string (oneB (48 + n % 10))) (fun w1 hw1 hbe => ?_) ?_
    · obtain ⟨_, h2⟩ := (hbe ⟨7, Ground.data⟩ (by simp) (by kernel_rfl)).2 rfl
      have hc := conv1 h2 (by omega)
      simp [execOp, Act.eval, Result.andThen, hc]
    simp only [Act.put, List.setIfInBounds_toArray, List.set_cons_succ, List.set_cons_zero]
    refine wpFreeD_cat rfl rfl (s := decT (n / 10)) (r := oneB (48 + n % 10)) rfl rfl (by rw [show (oneB (48 + n % 10)).size = 1 from rfl]; omega) EB.out ?_
    simp only [Act.put, List.setIfInBounds_toArray, List.set_cons_succ, List.set_cons_zero]
    refine wpFreeD_one rfl (.string (decT n)) (fun w1 _ => by kernel_rfl) ?_
    simp only [Act.put, List.setIfInBounds_toArray, List.set_cons_succ, List.set_cons_zero]
    refine wpFreeD_nil (fun wR hwR _ => ?_)
    have HL := hid (le_trans G.out hwR)
    clear hwR
    go_wp2
    go_ret
    exact ⟨rfl, HL.out⟩
end Go.Proofs.YtcchiooiogkofaaDoor

/- The kinds of filters as the program has them: 'modelOf', 'sizesOf'; 'ValidFilter' of both. -/
namespace Go.Proofs.YtcchiooiogkofaaDoor
open Go.RowKit Go.Fk
/-- The value of a kind. -/
def mdl (k : Int) (a b c : Nat) : Value :=
  if k = 1 then .iface 95 (.agg #[.float .f32 a, .float .f32 b, .float .f32 c])
  else if k = 2 then .iface 96 (.agg #[.float .f32 a, .float .f32 b, .float .f32 c])
  else if k = 3 then .iface 97 (.agg #[.float .f32 a, .float .f32 b, .float .f32 c])
  else if k = 4 then .iface 98 (.agg #[.float .f32 a, .float .f32 b, .float .f32 c])
  else if k = 5 then .iface 99 (.agg #[.float .f32 a, .float .f32 b, .float .f32 c])
  else .nilIface
set_option maxRecDepth 100000 in
@[go_sem] theorem ta11 (v : Value) (w : World) : (Instr.typeAssert (.iface 95 v) 72 95 true).run Tryd.prog w = .ok (.tuple #[v, .bool true]) w := by rfl
set_option maxRecDepth 100000 in
@[go_sem] theorem ta12 (v : Value) (w : World) : (Instr.typeAssert (.iface 95 v) 72 96 true).run Tryd.prog w = .ok (.tuple #[.agg #[.float .f32 0, .float .f32 0, .float .f32 0], .bool false]) w := by rfl
set_option maxRecDepth 100000 in
@[go_sem] theorem ta13 (v : Value) (w : World) : (Instr.typeAssert (.iface 95 v) 72 97 true).run Tryd.prog w = .ok (.tuple #[.agg #[.float .f32 0, .float .f32 0, .float .f32 0], .bool false]) w := by rfl
set_option maxRecDepth 100000 in
@[go_sem] theorem ta15 (v : Value) (w : World) : (Instr.typeAssert (.iface 95 v) 72 99 true).run Tryd.prog w = .ok (.tuple #[.agg #[.float .f32 0, .float .f32 0, .float .f32 0], .bool false]) w := by rfl
set_option maxRecDepth 100000 in
@[go_sem] theorem ta21 (v : Value) (w : World) : (Instr.typeAssert (.iface 96 v) 72 95 true).run Tryd.prog w = .ok (.tuple #[.agg #[.float .f32 0, .float .f32 0, .float .f32 0], .bool false]) w := by rfl
set_option maxRecDepth 100000 in
@[go_sem] theorem ta22 (v : Value) (w : World) : (Instr.typeAssert (.iface 96 v) 72 96 true).run Tryd.prog w = .ok (.tuple #[v, .bool true]) w := by rfl
set_option maxRecDepth 100000 in
@[go_sem] theorem ta23 (v : Value) (w : World) : (Instr.typeAssert (.iface 96 v) 72 97 true).run Tryd.prog w = .ok (.tuple #[.agg #[.float .f32 0, .float .f32 0, .float .f32 0], .bool false]) w := by rfl
set_option maxRecDepth 100000 in
@[go_sem] theorem ta25 (v : Value) (w : World) : (Instr.typeAssert (.iface 96 v) 72 99 true).run Tryd.prog w = .ok (.tuple #[.agg #[.float .f32 0, .float .f32 0, .float .f32 0], .bool false]) w := by rfl
set_option maxRecDepth 100000 in
@[go_sem] theorem ta31 (v : Value) (w : World) : (Instr.typeAssert (.iface 97 v) 72 95 true).run Tryd.prog w = .ok (.tuple #[.agg #[.float .f32 0, .float .f32 0, .float .f32 0], .bool false]) w := by rfl
set_option maxRecDepth 100000 in
@[go_sem] theorem ta32 (v : Value) (w : World) : (Instr.typeAssert (.iface 97 v) 72 96 true).run Tryd.prog w = .ok (.tuple #[.agg #[.float .f32 0, .float .f32 0, .float .f32 0], .bool false]) w := by rfl
set_option maxRecDepth 100000 in
@[go_sem] theorem ta33 (v : Value) (w : World) : (Instr.typeAssert (.iface 97 v) 72 97 true).run Tryd.prog w = .ok (.tuple #[v, .bool true]) w := by rfl
set_option maxRecDepth 100000 in
@[go_sem] theorem ta35 (v : Value) (w : World) : (Instr.typeAssert (.iface 97 v) 72 99 true).run Tryd.prog w = .ok (.tuple #[.agg #[.float .f32 0, .float .f32 0, .float .f32 0], .bool false]) w := by rfl
set_option maxRecDepth 100000 in
@[go_sem] theorem ta41 (v : Value) (w : World) : (Instr.typeAssert (.iface 98 v) 72 95 true).run Tryd.prog w = .ok (.tuple #[.agg #[.float .f32 0, .float .f32 0, .float .f32 0], .bool false]) w := by rfl
set_option maxRecDepth 100000 in
@[go_sem] theorem ta42 (v : Value) (w : World) : (Instr.typeAssert (.iface 98 v) 72 96 true).run Tryd.prog w = .ok (.tuple #[.agg #[.float .f32 0, .float .f32 0, .float .f32 0], .bool false]) w := by rfl
set_option maxRecDepth 100000 in
@[go_sem] theorem ta43 (v : Value) (w : World) : (Instr.typeAssert (.iface 98 v) 72 97 true).run Tryd.prog w = .ok (.tuple #[.agg #[.float .f32 0, .float .f32 0, .float .f32 0], .bool false]) w := by rfl
set_option maxRecDepth 100000 in
@[go_sem] theorem ta45 (v : Value) (w : World) : (Instr.typeAssert (.iface 98 v) 72 99 true).run Tryd.prog w = .ok (.tuple #[.agg #[.float .f32 0, .float .f32 0, .float .f32 0], .bool false]) w := by rfl
set_option maxRecDepth 100000 in
@[go_sem] theorem ta51 (v : Value) (w : World) : (Instr.typeAssert (.iface 99 v) 72 95 true).run Tryd.prog w = .ok (.tuple #[.agg #[.float .f32 0, .float .f32 0, .float .f32 0], .bool false]) w := by rfl
set_option maxRecDepth 100000 in
@[go_sem] theorem ta52 (v : Value) (w : World) : (Instr.typeAssert (.iface 99 v) 72 96 true).run Tryd.prog w = .ok (.tuple #[.agg #[.float .f32 0, .float .f32 0, .float .f32 0], .bool false]) w := by rfl
set_option maxRecDepth 100000 in
@[go_sem] theorem ta53 (v : Value) (w : World) : (Instr.typeAssert (.iface 99 v) 72 97 true).run Tryd.prog w = .ok (.tuple #[.agg #[.float .f32 0, .float .f32 0, .float .f32 0], .bool false]) w := by rfl
set_option maxRecDepth 100000 in
@[go_sem] theorem ta55 (v : Value) (w : World) : (Instr.typeAssert (.iface 99 v) 72 99 true).run Tryd.prog w = .ok (.tuple #[v, .bool true]) w := by rfl
set_option maxRecDepth 100000 in
theorem mdl1 (a b c : Nat) : mdl 1 a b c = .iface 95 (.agg #[.float .f32 a, .float .f32 b, .float .f32 c]) := by simp [mdl]
theorem i_modelOf1 (a b c x y : Nat) (w : World) : Calls Tryd.prog 35 #[(.agg #[.int .i64 1, .float .f32 a, .float .f32 b, .float .f32 c, .float .f32 x, .float .f32 y])] w fun e w' => e = .returned (.iface 95 (.agg #[.float .f32 a, .float .f32 b, .float .f32 c])) ∧ Below w.heap.size w w' := by
  go_enter Tryd.func35, Tryd.ntmps35
  go_wp2
  go_ret
  exact ⟨rfl, by repeat' (first | (with_reducible exact Below.refl _ _) | (with_reducible assumption) | (with_reducible refine below_drewN ?_ _) | (with_reducible refine Below.alloc ?_ ?_ _) | (with_reducible refine Below.drew ?_) | (with_reducible refine Below.setCell ?_ ?_ _) | go_size)⟩
set_option maxRecDepth 100000 in
theorem i_sizesOf1 (v : Value) (w : World) : Calls Tryd.prog 36 #[.iface 95 v] w fun e w' => e = .returned (.tuple #[.int .i64 (cU 1), .int .i64 (sU 1)]) ∧ w = w' := by
  go_enter Tryd.func36, Tryd.ntmps36
  go_wp2
  go_ret2
  exact ⟨rfl, rfl⟩
set_option maxRecDepth 100000 in
theorem mdl2 (a b c : Nat) : mdl 2 a b c = .iface 96 (.agg #[.float .f32 a, .float .f32 b, .float .f32 c]) := by simp [mdl]
theorem i_modelOf2 (a b c x y : Nat) (w : World) : Calls Tryd.prog 35 #[(.agg #[.int .i64 2, .float .f32 a, .float .f32 b, .float .f32 c, .float .f32 x, .float .f32 y])] w fun e w' => e = .returned (.iface 96 (.agg #[.float .f32 a, .float .f32 b, .float .f32 c])) ∧ Below w.heap.size w w' := by
  go_enter Tryd.func35, Tryd.ntmps35
  go_wp2
  go_ret
  exact ⟨rfl, by repeat' (first | (with_reducible exact Below.refl _ _) | (with_reducible assumption) | (with_reducible refine below_drewN ?_ _) | (with_reducible refine Below.alloc ?_ ?_ _) | (with_reducible refine Below.drew ?_) | (with_reducible refine Below.setCell ?_ ?_ _) | go_size)⟩
set_option maxRecDepth 100000 in
theorem i_sizesOf2 (v : Value) (w : World) : Calls Tryd.prog 36 #[.iface 96 v] w fun e w' => e = .returned (.tuple #[.int .i64 (cU 2), .int .i64 (sU 2)]) ∧ w = w' := by
  go_enter Tryd.func36, Tryd.ntmps36
  go_wp2
  go_ret2
  exact ⟨rfl, rfl⟩
set_option maxRecDepth 100000 in
theorem mdl3 (a b c : Nat) : mdl 3 a b c = .iface 97 (.agg #[.float .f32 a, .float .f32 b, .float .f32 c]) := by simp [mdl]
theorem i_modelOf3 (a b c x y : Nat) (w : World) : Calls Tryd.prog 35 #[(.agg #[.int .i64 3, .float .f32 a, .float .f32 b, .float .f32 c, .float .f32 x, .float .f32 y])] w fun e w' => e = .returned (.iface 97 (.agg #[.float .f32 a, .float .f32 b, .float .f32 c])) ∧ Below w.heap.size w w' := by
  go_enter Tryd.func35, Tryd.ntmps35
  go_wp2
  go_ret
  exact ⟨rfl, by repeat' (first | (with_reducible exact Below.refl _ _) | (with_reducible assumption) | (with_reducible refine below_drewN ?_ _) | (with_reducible refine Below.alloc ?_ ?_ _) | (with_reducible refine Below.drew ?_) | (with_reducible refine Below.setCell ?_ ?_ _) | go_size)⟩
set_option maxRecDepth 100000 in
theorem i_sizesOf3 (v : Value) (w : World) : Calls Tryd.prog 36 #[.iface 97 v] w fun e w' => e = .returned (.tuple #[.int .i64 (cU 3), .int .i64 (sU 3)]) ∧ w = w' := by
  go_enter Tryd.func36, Tryd.ntmps36
  go_wp2
  go_ret2
  exact ⟨rfl, rfl⟩
set_option maxRecDepth 100000 in
theorem mdl4 (a b c : Nat) : mdl 4 a b c = .iface 98 (.agg #[.float .f32 a, .float .f32 b, .float .f32 c]) := by simp [mdl]
theorem i_modelOf4 (a b c x y : Nat) (w : World) : Calls Tryd.prog 35 #[(.agg #[.int .i64 4, .float .f32 a, .float .f32 b, .float .f32 c, .float .f32 x, .float .f32 y])] w fun e w' => e = .returned (.iface 98 (.agg #[.float .f32 a, .float .f32 b, .float .f32 c])) ∧ Below w.heap.size w w' := by
  go_enter Tryd.func35, Tryd.ntmps35
  go_wp2
  go_ret
  exact ⟨rfl, by repeat' (first | (with_reducible exact Below.refl _ _) | (with_reducible assumption) | (with_reducible refine below_drewN ?_ _) | (with_reducible refine Below.alloc ?_ ?_ _) | (with_reducible refine Below.drew ?_) | (with_reducible refine Below.setCell ?_ ?_ _) | go_size)⟩
set_option maxRecDepth 100000 in
theorem i_sizesOf4 (v : Value) (w : World) : Calls Tryd.prog 36 #[.iface 98 v] w fun e w' => e = .returned (.tuple #[.int .i64 (cU 4), .int .i64 (sU 4)]) ∧ w = w' := by
  go_enter Tryd.func36, Tryd.ntmps36
  go_wp2
  go_ret2
  exact ⟨rfl, rfl⟩
set_option maxRecDepth 100000 in
theorem mdl5 (a b c : Nat) : mdl 5 a b c = .iface 99 (.agg #[.float .f32 a, .float .f32 b, .float .f32 c]) := by simp [mdl]
theorem i_modelOf5 (a b c x y : Nat) (w : World) : Calls Tryd.prog 35 #[(.agg #[.int .i64 5, .float .f32 a, .float .f32 b, .float .f32 c, .float .f32 x, .float .f32 y])] w fun e w' => e = .returned (.iface 99 (.agg #[.float .f32 a, .float .f32 b, .float .f32 c])) ∧ Below w.heap.size w w' := by
  go_enter Tryd.func35, Tryd.ntmps35
  go_wp2
  go_ret
  exact ⟨rfl, by repeat' (first | (with_reducible exact Below.refl _ _) | (with_reducible assumption) | (with_reducible refine below_drewN ?_ _) | (with_reducible refine Below.alloc ?_ ?_ _) | (with_reducible refine Below.drew ?_) | (with_reducible refine Below.setCell ?_ ?_ _) | go_size)⟩
set_option maxRecDepth 100000 in
theorem i_sizesOf5 (v : Value) (w : World) : Calls Tryd.prog 36 #[.iface 99 v] w fun e w' => e = .returned (.tuple #[.int .i64 (cU 5), .int .i64 (sU 5)]) ∧ w = w' := by
  go_enter Tryd.func36, Tryd.ntmps36
  go_wp2
  go_ret2
  exact ⟨rfl, rfl⟩
set_option maxRecDepth 100000 in
theorem mdl_no {k : Int} (h : ¬ (1 ≤ k ∧ k ≤ 5)) (a b c : Nat) : mdl k a b c = .nilIface := by
  unfold mdl
  rw [if_neg (by omega), if_neg (by omega), if_neg (by omega), if_neg (by omega), if_neg (by omega)]
set_option maxRecDepth 100000 in
theorem i_modelOf_no (k : Int) (a b c x y : Nat) (w : World) (h : ¬ (1 ≤ k ∧ k ≤ 5)) : Calls Tryd.prog 35 #[(.agg #[.int .i64 k, .float .f32 a, .float .f32 b, .float .f32 c, .float .f32 x, .float .f32 y])] w fun e w' => e = .returned .nilIface ∧ Below w.heap.size w w' := by
  have h1 : ((k : Int) == 1) = false := by simp only [beq_eq_false_iff_ne]; omega
  have h2 : ((k : Int) == 2) = false := by simp only [beq_eq_false_iff_ne]; omega
  have h3 : ((k : Int) == 3) = false := by simp only [beq_eq_false_iff_ne]; omega
  have h4 : ((k : Int) == 4) = false := by simp only [beq_eq_false_iff_ne]; omega
  have h5 : ((k : Int) == 5) = false := by simp only [beq_eq_false_iff_ne]; omega
  clear h
  go_enter Tryd.func35, Tryd.ntmps35
  go_wp2
  go_ret
  exact ⟨rfl, by repeat' (first | (with_reducible exact Below.refl _ _) | (with_reducible assumption) | (with_reducible refine below_drewN ?_ _) | (with_reducible refine Below.alloc ?_ ?_ _) | (with_reducible refine Below.drew ?_) | (with_reducible refine Below.setCell ?_ ?_ _) | go_size)⟩
set_option maxRecDepth 100000 in
theorem i_modelOf (k : Int) (a b c x y : Nat) (w : World) : Calls Tryd.prog 35 #[(.agg #[.int .i64 k, .float .f32 a, .float .f32 b, .float .f32 c, .float .f32 x, .float .f32 y])] w fun e w' => e = .returned (mdl k a b c) ∧ Below w.heap.size w w' := by
  by_cases h : 1 ≤ k ∧ k ≤ 5
  · rcases (show k = 1 ∨ k = 2 ∨ k = 3 ∨ k = 4 ∨ k = 5 by omega) with rfl | rfl | rfl | rfl | rfl
    · rw [mdl1]; exact i_modelOf1 a b c x y w
    · rw [mdl2]; exact i_modelOf2 a b c x y w
    · rw [mdl3]; exact i_modelOf3 a b c x y w
    · rw [mdl4]; exact i_modelOf4 a b c x y w
    · rw [mdl5]; exact i_modelOf5 a b c x y w
  · rw [mdl_no h]; exact i_modelOf_no k a b c x y w h
set_option maxRecDepth 100000 in
theorem i_ValidFilter_no (k : Int) (a b c x y : Nat) (w : World) (h : ¬ (1 ≤ k ∧ k ≤ 5)) : Calls Tryd.prog 18 #[(.agg #[.int .i64 k, .float .f32 a, .float .f32 b, .float .f32 c, .float .f32 x, .float .f32 y])] w fun e w' => e = .returned (.bool false) ∧ Below w.heap.size w w' := by
  go_enter Tryd.func18, Tryd.ntmps18
  go_wp2_with (first | (go_at_call 35; refine (i_modelOf_no _ _ _ _ _ _ _ h).mono ?_; rintro e w' ⟨rfl, hb⟩))
  go_ret
  exact ⟨rfl, le_trans (le_alloc w _) hb⟩
set_option maxRecDepth 100000 in
set_option maxHeartbeats 1000000 in
theorem i_ValidFilter1 (a b c x y : Nat) (w : World) (fa : fits .f32 a) (fb : fits .f32 b) (fc : fits .f32 c) (fx : fits .f32 x) (fy : fits .f32 y) : Calls Tryd.prog 18 #[(.agg #[.int .i64 1, .float .f32 a, .float .f32 b, .float .f32 c, .float .f32 x, .float .f32 y])] w fun e w' => e = .returned (.bool (usedB (tri a b c) 3 (cU 1) && usedB (duo x y) 2 (sU 1))) ∧ Below w.heap.size w w' := by
  have F3 := hid (fits_tri fa fb fc)
  have F2 := hid (fits_duo fx fy)
  clear fa fb fc fx fy
  have F := (Frm.nil w).box 28 (#[.int .i64 1, .float .f32 a, .float .f32 b, .float .f32 c, .float .f32 x, .float .f32 y] : Array Value)
  cases h1 : usedB (tri a b c) 3 (cU 1) <;> cases h2 : usedB (duo x y) 2 (sU 1)
  all_goals
    have H1 := hid h1
    have H2 := hid h2
    clear h1 h2
    go_enter Tryd.func18, Tryd.ntmps18
    go_wp2_with (first | (go_at_call 35; refine (i_modelOf1 _ _ _ _ _ _).mono ?_; rintro e w' ⟨rfl, hb⟩; replace F := F.le hb; have R := hid (F.row List.mem_cons_self)) | (go_at_call 36; refine (i_sizesOf1 _ _).mono ?_; rintro e w' ⟨rfl, rfl⟩) | (go_at_call 37; (with_reducible refine (i_areUsed (tri a b c) _ 1 3 (cU 1) _ (by omega) (cU_le _) F3.out (fun i hi => R.out.tri i hi)).mono ?_); rw [H1.out]; rintro e w' ⟨rfl, rfl⟩) | (go_at_call 37; (with_reducible refine (i_areUsed (duo x y) _ 4 2 (sU 1) _ (by omega) (sU_le _) F2.out (fun i hi => R.out.duo i hi)).mono ?_); rw [H2.out]; rintro e w' ⟨rfl, rfl⟩))
    go_ret
    exact ⟨rfl, F.below⟩
set_option maxRecDepth 100000 in
set_option maxHeartbeats 1000000 in
theorem i_ValidFilter2 (a b c x y : Nat) (w : World) (fa : fits .f32 a) (fb : fits .f32 b) (fc : fits .f32 c) (fx : fits .f32 x) (fy : fits .f32 y) : Calls Tryd.prog 18 #[(.agg #[.int .i64 2, .float .f32 a, .float .f32 b, .float .f32 c, .float .f32 x, .float .f32 y])] w fun e w' => e = .returned (.bool (usedB (tri a b c) 3 (cU 2) && usedB (duo x y) 2 (sU 2))) ∧ Below w.heap.size w w' := by
  have F3 := hid (fits_tri fa fb fc)
  have F2 := hid (fits_duo fx fy)
  clear fa fb fc fx fy
  have F := (Frm.nil w).box 28 (#[.int .i64 2, .float .f32 a, .float .f32 b, .float .f32 c, .float .f32 x, .float .f32 y] : Array Value)
  cases h1 : usedB (tri a b c) 3 (cU 2) <;> cases h2 : usedB (duo x y) 2 (sU 2)
  all_goals
    have H1 := hid h1
    have H2 := hid h2
    clear h1 h2
    go_enter Tryd.func18, Tryd.ntmps18
    go_wp2_with (first | (go_at_call 35; refine (i_modelOf2 _ _ _ _ _ _).mono ?_; rintro e w' ⟨rfl, hb⟩; replace F := F.le hb; have R := hid (F.row List.mem_cons_self)) | (go_at_call 36; refine (i_sizesOf2 _ _).mono ?_; rintro e w' ⟨rfl, rfl⟩) | (go_at_call 37; (with_reducible refine (i_areUsed (tri a b c) _ 1 3 (cU 2) _ (by omega) (cU_le _) F3.out (fun i hi => R.out.tri i hi)).mono ?_); rw [H1.out]; rintro e w' ⟨rfl, rfl⟩) | (go_at_call 37; (with_reducible refine (i_areUsed (duo x y) _ 4 2 (sU 2) _ (by omega) (sU_le _) F2.out (fun i hi => R.out.duo i hi)).mono ?_); rw [H2.out]; rintro e w' ⟨rfl, rfl⟩))
    go_ret
    exact ⟨rfl, F.below⟩
set_option maxRecDepth 100000 in
set_option maxHeartbeats 1000000 in
theorem i_ValidFilter3 (a b c x y : Nat) (w : World) (fa : fits .f32 a) (fb : fits .f32 b) (fc : fits .f32 c) (fx : fits .f32 x) (fy : fits .f32 y) : Calls Tryd.prog 18 #[(.agg #[.int .i64 3, .float .f32 a, .float .f32 b, .float .f32 c, .float .f32 x, .float .f32 y])] w fun e w' => e = .returned (.bool (usedB (tri a b c) 3 (cU 3) && usedB (duo x y) 2 (sU 3))) ∧ Below w.heap.size w w' := by
  have F3 := hid (fits_tri fa fb fc)
  have F2 := hid (fits_duo fx fy)
  clear fa fb fc fx fy
  have F := (Frm.nil w).box 28 (#[.int .i64 3, .float .f32 a, .float .f32 b, .float .f32 c, .float .f32 x, .float .f32 y] : Array Value)
  cases h1 : usedB (tri a b c) 3 (cU 3) <;> cases h2 : usedB (duo x y) 2 (sU 3)
  all_goals
    have H1 := hid h1
    have H2 := hid h2
    clear h1 h2
    go_enter Tryd.func18, Tryd.ntmps18
    go_wp2_with (first | (go_at_call 35; refine (i_modelOf3 _ _ _ _ _ _).mono ?_; rintro e w' ⟨rfl, hb⟩; replace F := F.le hb; have R := hid (F.row List.mem_cons_self)) | (go_at_call 36; refine (i_sizesOf3 _ _).mono ?_; rintro e w' ⟨rfl, rfl⟩) | (go_at_call 37; (with_reducible refine (i_areUsed (tri a b c) _ 1 3 (cU 3) _ (by omega) (cU_le _) F3.out (fun i hi => R.out.tri i hi)).mono ?_); rw [H1.out]; rintro e w' ⟨rfl, rfl⟩) | (go_at_call 37; (with_reducible refine (i_areUsed (duo x y) _ 4 2 (sU 3) _ (by omega) (sU_le _) F2.out (fun i hi => R.out.duo i hi)).mono ?_); rw [H2.out]; rintro e w' ⟨rfl, rfl⟩))
    go_ret
    exact ⟨rfl, F.below⟩
set_option maxRecDepth 100000 in
set_option maxHeartbeats 1000000 in
theorem i_ValidFilter4 (a b c x y : Nat) (w : World) (fa : fits .f32 a) (fb : fits .f32 b) (fc : fits .f32 c) (fx : fits .f32 x) (fy : fits .f32 y) : Calls Tryd.prog 18 #[(.agg #[.int .i64 4, .float .f32 a, .float .f32 b, .float .f32 c, .float .f32 x, .float .f32 y])] w fun e w' => e = .returned (.bool (usedB (tri a b c) 3 (cU 4) && usedB (duo x y) 2 (sU 4))) ∧ Below w.heap.size w w' := by
  have F3 := hid (fits_tri fa fb fc)
  have F2 := hid (fits_duo fx fy)
  clear fa fb fc fx fy
  have F := (Frm.nil w).box 28 (#[.int .i64 4, .float .f32 a, .float .f32 b, .float .f32 c, .float .f32 x, .float .f32 y] : Array Value)
  cases h1 : usedB (tri a b c) 3 (cU 4) <;> cases h2 : usedB (duo x y) 2 (sU 4)
  all_goals
    have H1 := hid h1
    have H2 := hid h2
    clear h1 h2
    go_enter Tryd.func18, Tryd.ntmps18
    go_wp2_with (first | (go_at_call 35; refine (i_modelOf4 _ _ _ _ _ _).mono ?_; rintro e w' ⟨rfl, hb⟩; replace F := F.le hb; have R := hid (F.row List.mem_cons_self)) | (go_at_call 36; refine (i_sizesOf4 _ _).mono ?_; rintro e w' ⟨rfl, rfl⟩) | (go_at_call 37; (with_reducible refine (i_areUsed (tri a b c) _ 1 3 (cU 4) _ (by omega) (cU_le _) F3.out (fun i hi => R.out.tri i hi)).mono ?_); rw [H1.out]; rintro e w' ⟨rfl, rfl⟩) | (go_at_call 37; (with_reducible refine (i_areUsed (duo x y) _ 4 2 (sU 4) _ (by omega) (sU_le _) F2.out (fun i hi => R.out.duo i hi)).mono ?_); rw [H2.out]; rintro e w' ⟨rfl, rfl⟩))
    go_ret
    exact ⟨rfl, F.below⟩
set_option maxRecDepth 100000 in
set_option maxHeartbeats 1000000 in
theorem i_ValidFilter5 (a b c x y : Nat) (w : World) (fa : fits .f32 a) (fb : fits .f32 b) (fc : fits .f32 c) (fx : fits .f32 x) (fy : fits .f32 y) : Calls Tryd.prog 18 #[(.agg #[.int .i64 5, .float .f32 a, .float .f32 b, .float .f32 c, .float .f32 x, .float .f32 y])] w fun e w' => e = .returned (.bool (usedB (tri a b c) 3 (cU 5) && usedB (duo x y) 2 (sU 5))) ∧ Below w.heap.size w w' := by
  have F3 := hid (fits_tri fa fb fc)
  have F2 := hid (fits_duo fx fy)
  clear fa fb fc fx fy
  have F := (Frm.nil w).box 28 (#[.int .i64 5, .float .f32 a, .float .f32 b, .float .f32 c, .float .f32 x, .float .f32 y] : Array Value)
  cases h1 : usedB (tri a b c) 3 (cU 5) <;> cases h2 : usedB (duo x y) 2 (sU 5)
  all_goals
    have H1 := hid h1
    have H2 := hid h2
    clear h1 h2
    go_enter Tryd.func18, Tryd.ntmps18
    go_wp2_with (first | (go_at_call 35; refine (i_modelOf5 _ _ _ _ _ _).mono ?_; rintro e w' ⟨rfl, hb⟩; replace F := F.le hb; have R := hid (F.row List.mem_cons_self)) | (go_at_call 36; refine (i_sizesOf5 _ _).mono ?_; rintro e w' ⟨rfl, rfl⟩) | (go_at_call 37; (with_reducible refine (i_areUsed (tri a b c) _ 1 3 (cU 5) _ (by omega) (cU_le _) F3.out (fun i hi => R.out.tri i hi)).mono ?_); rw [H1.out]; rintro e w' ⟨rfl, rfl⟩) | (go_at_call 37; (with_reducible refine (i_areUsed (duo x y) _ 4 2 (sU 5) _ (by omega) (sU_le _) F2.out (fun i hi => R.out.duo i hi)).mono ?_); rw [H2.out]; rintro e w' ⟨rfl, rfl⟩))
    go_ret
    exact ⟨rfl, F.below⟩
set_option maxRecDepth 100000 in
theorem i_ValidFilter (k : Int) (a b c x y : Nat) (w : World) (hf : fits .f32 a ∧ fits .f32 b ∧ fits .f32 c ∧ fits .f32 x ∧ fits .f32 y) : Calls Tryd.prog 18 #[(.agg #[.int .i64 k, .float .f32 a, .float .f32 b, .float .f32 c, .float .f32 x, .float .f32 y])] w fun e w' => e = .returned (.bool (okF k a b c x y)) ∧ Below w.heap.size w w' := by
  obtain ⟨fa, fb, fc, fx, fy⟩ := hf
  by_cases h : 1 ≤ k ∧ k ≤ 5
  · have E : okF k a b c x y = (usedB (tri a b c) 3 (cU k) && usedB (duo x y) 2 (sU k)) := by simp [okF, h.1, h.2]
    rw [E]
    rcases (show k = 1 ∨ k = 2 ∨ k = 3 ∨ k = 4 ∨ k = 5 by omega) with rfl | rfl | rfl | rfl | rfl
    · exact i_ValidFilter1 a b c x y w fa fb fc fx fy
    · exact i_ValidFilter2 a b c x y w fa fb fc fx fy
    · exact i_ValidFilter3 a b c x y w fa fb fc fx fy
    · exact i_ValidFilter4 a b c x y w fa fb fc fx fy
    · exact i_ValidFilter5 a b c x y w fa fb fc fx fy
  · rw [okF_out h]; exact i_ValidFilter_no k a b c x y w h
end Go.Proofs.YtcchiooiogkofaaDoor

/- Laws for operations that are guarded and wanted. Nothing here names a program. -/
namespace Go.Fk
open Go Go.RowKit
section
variable {P : Program} {w : World} {ops : Array Oper} {rest : List Oper} {o : Oper} {a : Act} {Q : Exit → Act → World → Prop}
theorem wpList_wanted (hw : Region.wanted o (yielded ops a.tmps) = true) (h : ∀ K : Act → World → Prop, (∀ a w, wpList P ops Q rest a w → K a w) → o.wp P a w K Q) : wpList P ops Q (o :: rest) a w :=
  wpList_step fun K hK => by simp only [hw, if_true]; exact h K hK
theorem wpList_widenG {src dst : TypeId} {x : Operand} (hop : o.op = Op.convert src dst x) {b : Nat} (hx : a.eval x = .float .f32 b)
    (hs : P.underlying src = some (.float .f32)) (hd : P.underlying dst = some (.float .f64)) (hw : Region.wanted o (yielded ops a.tmps) = true)
    (hK : ∀ r n, Hid (can .f64 r = can .f64 (widen b)) → Hid (fits .f64 r) → wpList P ops Q rest (a.put o.dst (.float .f64 r)) (w.drewN n)) : wpList P ops Q (o :: rest) a w := by
  refine wpList_wanted hw fun K hK' => ?_
  obtain ⟨r, n, hrun, hr, hf⟩ := run_widen (P := P) w src dst b hs hd
  unfold Oper.wp
  simp [execOp, hop, hx, hrun, Result.andThen]
  exact hK' _ _ (hK r n hr hf)
end
end Go.Fk

/- Loads that may be guarded (and wanted), the cells being told as facts. Nothing here names a program. -/
namespace Go.Fk
open Go Go.RowKit
section
variable {P : Program} {w : World} {ops : Array Oper} {rest : List Oper} {o : Oper} {a : Act} {Q : Exit → Act → World → Prop}
theorem wpList_load1C {ty : TypeId} {x : Operand} (hop : o.op = .load ty x) {g f : Nat} (hx : a.eval x = .pointer (some ⟨g, f, none⟩)) {v : Value} (hw : Region.wanted o (yielded ops a.tmps) = true) {t : TypeId} {cs : Array Value} (hr : Row w g t cs) (hv : cs[f]? = some v) (hu : ∀ w, (isAgg ty).run P w = .ok false w)
    (h : wpList P ops Q rest (a.put o.dst v) w) : wpList P ops Q (o :: rest) a w := by
  refine wpList_wanted hw fun K hK' => ?_
  unfold Oper.wp execOp
  have hc : w.cell? ⟨g, f, none⟩ = some v := by rw [hr.cell?, hv]
  have hl : (Instr.loadAt ty (.pointer (some ⟨g, f, none⟩))).run P w = .ok v w := by
    simp [Instr.loadAt, Instr.sureAddr, loadVar, hu, hc]
  simp [hop, hx, hl, Result.andThen]
  exact hK' _ _ h
/-- A value of one cell is loaded, guarded or not. -/
theorem wpList_load1G {ty : TypeId} {x : Operand} (hop : o.op = .load ty x) {p : Addr} (hx : a.eval x = .pointer (some p)) {v : Value} (hw : Region.wanted o (yielded ops a.tmps) = true) (hc : w.cell? p = some v) (hu : ∀ w, (isAgg ty).run P w = .ok false w)
    (h : wpList P ops Q rest (a.put o.dst v) w) : wpList P ops Q (o :: rest) a w := by
  refine wpList_wanted hw fun K hK' => ?_
  unfold Oper.wp execOp
  have hl : (Instr.loadAt ty (.pointer (some p))).run P w = .ok v w := by
    simp [Instr.loadAt, Instr.sureAddr, loadVar, hu, hc]
  simp [hop, hx, hl, Result.andThen]
  exact hK' _ _ h
theorem wpList_load1X {ty : TypeId} {x : Operand} (hop : o.op = .load ty x) {g f : Nat} (hx : a.eval x = .pointer (some ⟨g, f, none⟩)) {v : Value} (hw : Region.wanted o (yielded ops a.tmps) = true) (hc : w.cell? ((⟨g, 0, none⟩ : Addr).add f) = some v) (hu : ∀ w, (isAgg ty).run P w = .ok false w)
    (h : wpList P ops Q rest (a.put o.dst v) w) : wpList P ops Q (o :: rest) a w := by
  refine wpList_wanted hw fun K hK' => ?_
  unfold Oper.wp execOp
  rw [add_none, Nat.zero_add] at hc
  have hl : (Instr.loadAt ty (.pointer (some ⟨g, f, none⟩))).run P w = .ok v w := by
    simp [Instr.loadAt, Instr.sureAddr, loadVar, hu, hc]
  simp [hop, hx, hl, Result.andThen]
  exact hK' _ _ h
theorem wpList_loadWC {ty : TypeId} {x : Operand} (hop : o.op = .load ty x) {p : Addr} (hx : a.eval x = .pointer (some p)) (vs : List Value) (hw : Region.wanted o (yielded ops a.tmps) = true) (hc : ∀ j v, vs[j]? = some v → w.cell? (p.add j) = some v) {d : TypeDesc} (hu : P.underlying ty = some d) (hd : d.isRow = true) {sz : Nat} (hs : (P.info? ty).map (·.size) = some sz) (hl : vs.length = sz)
    (h : wpList P ops Q rest (a.put o.dst (.agg vs.toArray)) w) : wpList P ops Q (o :: rest) a w := by
  refine wpList_wanted hw fun K hK' => ?_
  unfold Oper.wp execOp
  have hl' : (loadCells p vs.length).run P w = .ok vs.toArray w := run_loadCells_list (P := P) w p vs hc
  cases hq : P.info? ty with
  | none => simp [hq] at hs
  | some inf =>
    have hz : inf.size = vs.length := by simp [hq] at hs; omega
    have hagg : (isAgg ty).run P w = .ok true w := by
      unfold isAgg
      rw [Sem.run_bind, run_underlying hu w]
      cases d <;> simp_all
    have hL : (Instr.loadAt ty (.pointer (some p))).run P w = .ok (.agg vs.toArray) w := by
      simp [Instr.loadAt, Instr.sureAddr, loadVar, hagg, sizeOf, typeInfo, hq, hz, Sem.run_bind, hl']
    simp [hop, hx, hL, Result.andThen]
    exact hK' _ _ h
end
end Go.Fk
namespace Go.Fk
open Go Go.RowKit
/-- One call has one end: two contracts tell the same bool. -/
theorem agree_b {P : Program} {f : FuncId} {args : Array Value} {w : World} {c d : Bool} {R R' : World → Prop} (h : Calls P f args w fun e w' => e = .returned (.bool c) ∧ R w') (h' : Calls P f args w fun e w' => e = .returned (.bool d) ∧ R' w') (hi : P.inits.idxOf? f = none) : c = d := by
  have g := (h.mono (R' := fun e w' => match e, w' with | .returned v, _ => v = .bool c | _, _ => False) (fun e w' ⟨h1, _⟩ => by subst h1; rfl)).done (R := fun v _ => v = .bool c) hi
  have g' := (h'.mono (R' := fun e w' => match e, w' with | .returned v, _ => v = .bool d | _, _ => False) (fun e w' ⟨h1, _⟩ => by subst h1; rfl)).done (R := fun v _ => v = .bool d) hi
  obtain ⟨n, v, w1, e1, rfl⟩ := g
  obtain ⟨m, v', w2, e2, rfl⟩ := g'
  have a := runN_ended e1 m
  have b := runN_ended e2 n
  rw [Nat.add_comm, a] at b
  injection b with ho hw
  injection ho with hv
  injection hv
end Go.Fk

/- 'FilterText' of both. -/
namespace Go.Fk
open Go Go.RowKit
def filW : ByteArray := ⟨#[102, 105, 108, 116, 101, 114]⟩
def filWb : ByteArray := ⟨#[102, 105, 108, 116, 101, 114, 32]⟩
theorem filWb_eq (a : ByteArray) : filWb ++ a = filW ++ (spB ++ a) := by apply ba_ext; rw [← ba_assoc]; simp [filWb, filW, spB]
/-- The text of a filter. -/
def txtF (k : Nat) (a b c x y : Nat) : ByteArray := jnB spB [filW, decT k, txtS (tri a b c) 3, txtS (duo x y) 2]
theorem txtF_eq (k a b c x y : Nat) : (filWb ++ decT k ++ samL (tri a b c) 3) ++ spB ++ hexT (can .f32 x) ++ spB ++ hexT (can .f32 y) = txtF k a b c x y := by
  unfold txtF
  rw [samL_txt _ (by decide), jnB_cons, jnB_cons, jnB_cons, jnB_one, txtS_succ (duo x y) (n := 1) (by decide), txtS_one]
  simp only [filWb_eq, ba_assoc]
  rfl
theorem decT_sz100 {k : Nat} (h : k < 100) : (decT k).size ≤ 19 := decT_size k (by omega)
/-- The text of the float that a call gets. -/
def hexA (args : Array Value) : ByteArray := match args.toList with | [.float _ a] => hexT (can .f32 a) | _ => ⟨#[]⟩
end Go.Fk
namespace Go.Proofs.YtcchiooiogkofaaDoor
open Go.RowKit Go.Fk
theorem infoStr4F : (Tryd.prog.info? 9).map (fun i => (i.zero, i.size, i.bytes)) = some (some (.string ⟨#[]⟩), 1, 16) := by kernel_rfl
theorem fill4F (ti : TypeInfo) (p q r t : ByteArray) (h : ti.size = 1) : Instr.fill (fun i => some (i * ti.size, ti.size)) ((Array.range (4 * ti.size)).map ((.string ⟨#[]⟩ : Value).cells[· % (.string ⟨#[]⟩ : Value).cells.size]!)) (#[(0, .string p), (1, .string q), (2, .string r), (3, .string t)] : Array (Nat × Value)).toList = some #[.string p, .string q, .string r, .string t] := by
  rw [h]
  have hr : Array.range (4 * 1) = #[0, 1, 2, 3] := by decide
  rw [hr]
  simp [Instr.fill, Value.cells]
theorem mkStr4F (p q r t : ByteArray) (w : World) : (Instr.buildSlice 52 4 #[(0, .string p), (1, .string q), (2, .string r), (3, .string t)]).run Tryd.prog w = .ok (.slice (some ⟨w.heap.size, 0, none⟩) 4 4) (w.alloc (.cells #[.string p, .string q, .string r, .string t] 9)) := by
  have h := infoStr4F
  cases hi : Tryd.prog.info? 9 with
  | none => rw [hi] at h; simp at h
  | some i =>
    rw [hi] at h; simp at h
    exact run_buildSlice (P := Tryd.prog) w 52 9 4 _ _ i _ Tryd.underlying52 hi h.1 (by rw [h.2.1]; decide) (by rw [h.2.1]; decide) (fill4F _ _ _ _ _ h.2.1)
set_option maxRecDepth 100000 in
set_option maxHeartbeats 4000000 in
theorem i_FilterText_no (k : Int) (a b c x y : Nat) (w : World) (hf : fits .f32 a ∧ fits .f32 b ∧ fits .f32 c ∧ fits .f32 x ∧ fits .f32 y) (hok : okF k a b c x y = false) : Calls Tryd.prog 7 #[(.agg #[.int .i64 k, .float .f32 a, .float .f32 b, .float .f32 c, .float .f32 x, .float .f32 y])] w (Out_t ⟨#[]⟩ w) := by
  have HV := hid (fun (w' : World) => i_ValidFilter k a b c x y w' hf)
  rw [hok] at HV
  clear hok hf
  have F := (Frg.nil w).box 28 (#[.int .i64 k, .float .f32 a, .float .f32 b, .float .f32 c, .float .f32 x, .float .f32 y] : Array Value)
  go_enter Tryd.func7, Tryd.ntmps7
  go_wp2_with (first | ((with_reducible refine listN F ?_); clear F; intro wN F) | ((with_reducible refine at_load rfl ?_); (with_reducible refine wpList_loadG F rfl rfl rfl m0 Tryd.underlying28 rfl infoFil rfl ?_)) | (go_at_call 18; ((with_reducible refine (HV.out _).mono ?_); rintro e w1 ⟨rfl, hl1⟩; replace F := F.le hl1; clear hl1)))
  go_ret
  exact ⟨rfl, F.below⟩
set_option maxRecDepth 100000 in
set_option maxHeartbeats 4000000 in
theorem i_FilterText_yes (k : Nat) (a b c x y : Nat) (w : World) (hf : fits .f32 a ∧ fits .f32 b ∧ fits .f32 c ∧ fits .f32 x ∧ fits .f32 y) (hk : k < 100) (hok : okF (k : Int) a b c x y = true) : Calls Tryd.prog 7 #[(.agg #[.int .i64 (k : Nat), .float .f32 a, .float .f32 b, .float .f32 c, .float .f32 x, .float .f32 y])] w (Out_t (txtF k a b c x y) w) := by
  have HV := hid (fun (w' : World) => i_ValidFilter k a b c x y w' hf)
  rw [hok] at HV
  clear hok
  obtain ⟨fa, fb, fc, fx, fy⟩ := hf
  have HC := hid (fun (w' : World) (g : Nat) (R : Row w' g 28 (#[.int .i64 (k : Nat), .float .f32 a, .float .f32 b, .float .f32 c, .float .f32 x, .float .f32 y] : Array Value)) => i_samplesText (tri a b c) ⟨g, 1, none⟩ 3 3 w' (by decide) (fun i hi => by match i, hi with | 0, _ => exact fa | 1, _ => exact fb | 2, _ => exact fc) (fun i hi => by rw [add_none, R.cell?]; match i, hi with | 0, _ => rfl | 1, _ => rfl | 2, _ => rfl))
  have HS := hid (fun (w' : World) (g : Nat) (R : Row w' g 28 (#[.int .i64 (k : Nat), .float .f32 a, .float .f32 b, .float .f32 c, .float .f32 x, .float .f32 y] : Array Value)) => i_samplesText (duo x y) ⟨g, 4, none⟩ 2 2 w' (by decide) (fun i hi => by match i, hi with | 0, _ => exact fx | 1, _ => exact fy) (fun i hi => by rw [add_none, R.cell?]; match i, hi with | 0, _ => rfl | 1, _ => rfl))
  have HD := hid (i_decimalS k hk)
  have ed := decT_sz100 hk
  clear fa fb fc fx fy
  have F := (Frg.nil w).box 28 (#[.int .i64 (k : Nat), .float .f32 a, .float .f32 b, .float .f32 c, .float .f32 x, .float .f32 y] : Array Value)
  go_enter Tryd.func7, Tryd.ntmps7
  go_wp2_with (first | ((with_reducible refine listN F ?_); clear F; intro wN F) | ((with_reducible refine at_load rfl ?_); (with_reducible refine wpList_loadG F rfl rfl rfl m0 Tryd.underlying28 rfl infoFil rfl ?_)) | (go_at_call 18; ((with_reducible refine (HV.out _).mono ?_); rintro e w1 ⟨rfl, hl1⟩; replace F := F.le hl1; clear hl1)))
  first | (refine wpAt0 F ?_; clear F; intro wN F) | (refine wpAtN F ?_; clear F; intro wN F)
  have FD := F.drewN 1
  refine region_freeD (E := leX) (fun f args _ v => v = .string (if f = 19 then decT k else (match args.toList with | [.slice _ 3 _] => txtS (tri a b c) 3 | _ => txtS (duo x y) 2))) (by kernel_rfl) (by kernel_rfl) ?_
  refine wpFreeD_one rfl (.pointer (some ⟨w.heap.size, 0, none⟩)) (fun w1 _ => by kernel_rfl) ?_
  simp only [Act.put, List.setIfInBounds_toArray, List.set_cons_succ, List.set_cons_zero]
  refine wpFreeD_load1 rfl rfl rfl (p := ⟨w.heap.size, 0, none⟩) (v := .int .i64 k) (fun w1 h1 => by rw [((FD.le h1).row m0).cell?]; rfl) ukindInt64 ?_
  simp only [Act.put, List.setIfInBounds_toArray, List.set_cons_succ, List.set_cons_zero]
  refine wpFreeD_callB rfl rfl Tryd.func19 (by kernel_rfl) (by kernel_rfl) (args := #[.int .i64 k]) (by simp [Act.eval]) (fun v w1 w2 hw hv => hv) (fun w1 hw1 _ => (HD.out w1).mono ?_) ?_
  · rintro e w2 ⟨rfl, hl⟩
    exact ⟨_, rfl, hl, rfl⟩
  rintro v ⟨_, _, _, hv⟩
  replace hv : v = .string (decT k) := hv
  subst hv
  simp only [Act.put, List.setIfInBounds_toArray, List.set_cons_succ, List.set_cons_zero]
  refine wpFreeD_one rfl (.pointer (some ⟨w.heap.size, 1, none⟩)) (fun w1 _ => by kernel_rfl) ?_
  simp only [Act.put, List.setIfInBounds_toArray, List.set_cons_succ, List.set_cons_zero]
  refine wpFreeD_one rfl (.slice (some ⟨w.heap.size, 1, none⟩) 3 3) (fun w1 _ => by kernel_rfl) ?_
  simp only [Act.put, List.setIfInBounds_toArray, List.set_cons_succ, List.set_cons_zero]
  refine wpFreeD_callB rfl rfl Tryd.func20 (by kernel_rfl) (by kernel_rfl) (args := #[.slice (some ⟨w.heap.size, 1, none⟩) 3 3]) (by simp [Act.eval]) (fun v w1 w2 hw hv => hv) (fun w1 hw1 _ => (HC.out w1 _ ((FD.le hw1).row m0)).mono ?_) ?_
  · rintro e w2 ⟨rfl, hl⟩
    exact ⟨_, rfl, hl, rfl⟩
  rintro v ⟨_, _, _, hv⟩
  replace hv : v = .string (txtS (tri a b c) 3) := hv
  subst hv
  simp only [Act.put, List.setIfInBounds_toArray, List.set_cons_succ, List.set_cons_zero]
  refine wpFreeD_one rfl (.pointer (some ⟨w.heap.size, 4, none⟩)) (fun w1 _ => by kernel_rfl) ?_
  simp only [Act.put, List.setIfInBounds_toArray, List.set_cons_succ, List.set_cons_zero]
  refine wpFreeD_one rfl (.slice (some ⟨w.heap.size, 4, none⟩) 2 2) (fun w1 _ => by kernel_rfl) ?_
  simp only [Act.put, List.setIfInBounds_toArray, List.set_cons_succ, List.set_cons_zero]
  refine wpFreeD_callB rfl rfl Tryd.func20 (by kernel_rfl) (by kernel_rfl) (args := #[.slice (some ⟨w.heap.size, 4, none⟩) 2 2]) (by simp [Act.eval]) (fun v w1 w2 hw hv => hv) (fun w1 hw1 _ => (HS.out w1 _ ((FD.le hw1).row m0)).mono ?_) ?_
  · rintro e w2 ⟨rfl, hl⟩
    exact ⟨_, rfl, hl, rfl⟩
  rintro v ⟨_, _, _, hv⟩
  replace hv : v = .string (txtS (duo x y) 2) := hv
  subst hv
  simp only [Act.put, List.setIfInBounds_toArray, List.set_cons_succ, List.set_cons_zero]
  refine wpFreeD_newN rfl (fun q => .slice (some ⟨q, 0, none⟩) 4 4) (fun b b' h => by simpa using h) 9 #[.string filW, .string (decT k), .string (txtS (tri a b c) 3), .string (txtS (duo x y) 2)] (fun w1 => ?_) (fun q => ?_)
  · have hb := mkStr4F filW (decT k) (txtS (tri a b c) 3) (txtS (duo x y) 2) w1
    unfold filW at hb ⊢
    simp [execOp, Act.eval, Result.andThen, hb]
  simp only [Act.put, List.setIfInBounds_toArray, List.set_cons_succ, List.set_cons_zero]
  refine wpFreeD_one rfl (.slice (some ⟨q, 0, none⟩) 4 4) (fun w1 _ => by kernel_rfl) ?_
  simp only [Act.put, List.setIfInBounds_toArray, List.set_cons_succ, List.set_cons_zero]
  refine wpFreeD_nil (fun wR hwR hF => ?_)
  obtain ⟨_, hq⟩ := (hF 9).1.2 rfl
  clear hF
  replace F := FD.le hwR
  clear hwR FD
  have HJ := hid (run_Join q 0 4 [filW, decT k, txtS (tri a b c) 3, txtS (duo x y) 2] spB 4 rfl wR (fun j z hj => by
    rw [Nat.zero_add, hq.cell?]
    match j, hj with
    | 0, hj => simp at hj; subst hj; rfl
    | 1, hj => simp at hj; subst hj; rfl
    | 2, hj => simp at hj; subst hj; rfl
    | 3, hj => simp at hj; subst hj; rfl
    | j + 4, hj => simp at hj) hq.lt (Nat.le_refl _) (by decide) (by
      have h1 := txtS_size (tri a b c) 3; have h2 := txtS_size (duo x y) 2
      have := jnB_size spB 1024 [filW, decT k, txtS (tri a b c) 3, txtS (duo x y) 2] (fun z hz => by
        simp only [List.mem_cons, List.not_mem_nil, or_false] at hz
        rcases hz with rfl | rfl | rfl | rfl
        · decide
        · omega
        · omega
        · omega)
      simp only [List.length_cons, List.length_nil] at this
      rw [show spB.size = 1 from rfl] at this
      omega))
  clear hq
  go_wp2_with (first | ((with_reducible refine listN F ?_); clear F; intro wN F) | (go_at_call 21; (refine HJ.out.mono ?_; rintro e w1 ⟨rfl, hl1⟩; replace F := F.le hl1; clear hl1)))
  go_ret
  exact ⟨rfl, F.below⟩
set_option maxRecDepth 100000 in
set_option maxHeartbeats 4000000 in
theorem s_FilterText_no (k : Int) (a b c x y : Nat) (w : World) (hok : okF k a b c x y = false) : Calls Tryd.prog 5 #[(.agg #[.int .i64 k, .float .f32 a, .float .f32 b, .float .f32 c, .float .f32 x, .float .f32 y])] w (Out_t ⟨#[]⟩ w) := by
  have HV := hid (fun (w' : World) (R : Row w' w.heap.size 28 (#[.int .i64 k, .float .f32 a, .float .f32 b, .float .f32 c, .float .f32 x, .float .f32 y] : Array Value)) => s_Ok k a b c x y w.heap.size w' R)
  rw [hok] at HV
  clear hok
  have F := (Frg.nil w).box 28 (#[.int .i64 k, .float .f32 a, .float .f32 b, .float .f32 c, .float .f32 x, .float .f32 y] : Array Value)
  go_enter Tryd.func5, Tryd.ntmps5
  go_wp2_with (first | ((with_reducible refine listN F ?_); clear F; intro wN F) | (go_at_call 13; ((with_reducible refine (HV.out _ (F.row m0)).mono ?_); rintro e w1 ⟨rfl, dn, rfl⟩; replace F := F.drewN dn)))
  go_ret
  exact ⟨rfl, F.below⟩
set_option maxRecDepth 100000 in
set_option maxHeartbeats 4000000 in
theorem s_FilterText_yes (k : Nat) (a b c x y : Nat) (w : World) (hf : fits .f32 a ∧ fits .f32 b ∧ fits .f32 c ∧ fits .f32 x ∧ fits .f32 y) (hk : k < 100) (hok : okF (k : Int) a b c x y = true) : Calls Tryd.prog 5 #[(.agg #[.int .i64 (k : Nat), .float .f32 a, .float .f32 b, .float .f32 c, .float .f32 x, .float .f32 y])] w (Out_t (txtF k a b c x y) w) := by
  have HV := hid (fun (w' : World) (R : Row w' w.heap.size 28 (#[.int .i64 (k : Nat), .float .f32 a, .float .f32 b, .float .f32 c, .float .f32 x, .float .f32 y] : Array Value)) => s_Ok k a b c x y w.heap.size w' R)
  rw [hok] at HV
  clear hok
  obtain ⟨fa, fb, fc, fx, fy⟩ := hf
  have HS := hid (fun j (hj : j < 3) => s_l01Hex (tri a b c j) (by match j, hj with | 0, _ => exact fa | 1, _ => exact fb | 2, _ => exact fc))
  have HX := hid (s_l01Hex x fx)
  have HY := hid (s_l01Hex y fy)
  have HA := hid (fun j (hj : j < 3) => show ((#[.int .i64 (k : Nat), .float .f32 a, .float .f32 b, .float .f32 c, .float .f32 x, .float .f32 y] : Array Value))[1 + j]? = some (.float .f32 (tri a b c j)) by match j, hj with | 0, _ => rfl | 1, _ => rfl | 2, _ => rfl)
  have HD := hid (s_Decimal k (by omega))
  have ed := decT_sz100 hk
  have ef : filWb.size = 7 := rfl
  clear fa fb fc fx fy
  have F := (Frg.nil w).box 28 (#[.int .i64 (k : Nat), .float .f32 a, .float .f32 b, .float .f32 c, .float .f32 x, .float .f32 y] : Array Value)
  obtain ⟨S, hS⟩ : ∃ S, S = filWb ++ decT k := ⟨_, rfl⟩
  have es : S.size ≤ 26 := by rw [hS, ByteArray.size_append]; omega
  have HSS := hid hS
  clear hS
  go_enter Tryd.func5, Tryd.ntmps5
  go_wp2_with (first | ((with_reducible refine listN F ?_); clear F; intro wN F) | (go_at_call 13; ((with_reducible refine (HV.out _ (F.row m0)).mono ?_); rintro e w1 ⟨rfl, dn, rfl⟩; replace F := F.drewN dn)) | ((with_reducible refine at_load rfl ?_); (refine wpList_load1 F rfl rfl rfl m0 (f := 0) (v := .int .i64 k) rfl ukindInt64 ?_)) | (go_at_call 14; ((with_reducible refine (HD.out _).mono ?_); rintro e w1 ⟨rfl, hl1⟩; replace F := F.le hl1; clear hl1)))
  go_loopw [3, 4] (fun q i wr => ∃ j : Nat, j ≤ 3 ∧ i = .int .i64 j ∧ q = .string (S ++ samL (tri a b c) j) ∧ Hid (Frg w wr [rowF w.heap.size 28 (#[.int .i64 (k : Nat), .float .f32 a, .float .f32 b, .float .f32 c, .float .f32 x, .float .f32 y] : Array Value)])) (fun _ i _ => 3 - (intOf i).toNat)
  case atStart => exact ⟨0, by omega, rfl, by rw [HSS.out]; congr 1; apply ba_ext; simp [samL, filWb], F⟩
  case round =>
    obtain ⟨j, hj, rfl, rfl, FJ⟩ := hrel
    rename_i wr _
    clear F
    have F := FJ.out
    clear FJ
    by_cases hlt : j < 3
    · have HT := hid (HS.out j hlt)
      have HG := hid (HA.out j hlt)
      have ez := samL_size (tri a b c) j
      have e2 : (S ++ samL (tri a b c) j).size ≤ 60 := by rw [ByteArray.size_append]; omega
      have eh := hexT_size (can .f32 (tri a b c j))
      have EN := hid (show S ++ samL (tri a b c) (j + 1) = (S ++ samL (tri a b c) j) ++ (spB ++ hexT (can .f32 (tri a b c j))) by rw [samL, ba_assoc])
      obtain ⟨Z, hZ⟩ : ∃ Z, Z = S ++ samL (tri a b c) j := ⟨_, rfl⟩
      rw [← hZ] at EN e2 ⊢
      clear hZ
      go_wp2_with (first | ((with_reducible refine listN F ?_); clear F; intro wN F) | ((with_reducible refine at_load rfl ?_); (refine wpList_load1 F rfl rfl rfl m0 (f := 1 + j) (v := .float .f32 (tri a b c j)) HG.out ukindFloat32 ?_)) | (go_at_call 15; ((with_reducible refine (HT.out _).mono ?_); rintro e w1 ⟨rfl, hl1⟩; replace F := F.le hl1; clear hl1)))
      go_roundw
      case rel => exact ⟨j + 1, by omega, by go_num, by rw [EN.out]; rfl, F⟩
      case measure => simp [intOf]; omega
    · obtain rfl : j = 3 := by omega
      have ez := samL_size (tri a b c) 3
      have e2 : (S ++ samL (tri a b c) 3).size ≤ 60 := by rw [ByteArray.size_append]; omega
      have EN := hid (show (S ++ samL (tri a b c) 3) ++ spB ++ hexT (can .f32 x) ++ spB ++ hexT (can .f32 y) = txtF k a b c x y by rw [HSS.out]; exact txtF_eq k a b c x y)
      obtain ⟨Z, hZ⟩ : ∃ Z, Z = S ++ samL (tri a b c) 3 := ⟨_, rfl⟩
      rw [← hZ] at EN e2 ⊢
      clear hZ
      have hx8 := hexT_size (can .f32 x)
      have hy8 := hexT_size (can .f32 y)
      have e1 : spB.size = 1 := rfl
      go_wp2_with fail
      first | (refine wpAt0 F ?_; clear F; intro wN F) | (refine wpAtN F ?_; clear F; intro wN F)
      have FD := F.drewN 1
      refine region_freeD (E := leX) (fun _ args _ v => v = .string (hexA args)) (by kernel_rfl) (by kernel_rfl) ?_
      refine wpFreeD_one rfl (.string Z) (fun w1 _ => by kernel_rfl) ?_
      simp only [Act.put, List.setIfInBounds_toArray, List.set_cons_succ, List.set_cons_zero]
      refine wpFreeD_cat rfl rfl (s := Z) (r := spB) rfl rfl (by first | omega | (simp only [ByteArray.size_append]; omega)) (q := Z ++ spB) rfl ?_
      simp only [Act.put, List.setIfInBounds_toArray, List.set_cons_succ, List.set_cons_zero]
      refine wpFreeD_one rfl (.pointer (some ⟨w.heap.size, 4, none⟩)) (fun w1 _ => by kernel_rfl) ?_
      simp only [Act.put, List.setIfInBounds_toArray, List.set_cons_succ, List.set_cons_zero]
      refine wpFreeD_one rfl (.pointer (some ⟨w.heap.size, 4, none⟩)) (fun w1 _ => by kernel_rfl) ?_
      simp only [Act.put, List.setIfInBounds_toArray, List.set_cons_succ, List.set_cons_zero]
      refine wpFreeD_load1 rfl rfl rfl (p := ⟨w.heap.size, 4, none⟩) (v := .float .f32 x) (fun w1 h1 => by rw [((FD.le h1).row m0).cell?]; rfl) ukindFloat32 ?_
      simp only [Act.put, List.setIfInBounds_toArray, List.set_cons_succ, List.set_cons_zero]
      refine wpFreeD_callB rfl rfl Tryd.func15 (by kernel_rfl) (by kernel_rfl) (args := #[.float .f32 x]) (by simp [Act.eval]) (fun v w1 w2 hw hv => hv) (fun w1 hw1 _ => (HX.out w1).mono ?_) ?_
      · rintro e w2 ⟨rfl, hl⟩
        exact ⟨_, rfl, hl, rfl⟩
      rintro v ⟨_, _, _, hv⟩
      replace hv : v = .string (hexT (can .f32 x)) := hv
      subst hv
      simp only [Act.put, List.setIfInBounds_toArray, List.set_cons_succ, List.set_cons_zero]
      refine wpFreeD_cat rfl rfl (s := (Z ++ spB)) (r := (hexT (can .f32 x))) rfl rfl (by first | omega | (simp only [ByteArray.size_append]; omega)) (q := Z ++ spB ++ hexT (can .f32 x)) rfl ?_
      simp only [Act.put, List.setIfInBounds_toArray, List.set_cons_succ, List.set_cons_zero]
      refine wpFreeD_cat rfl rfl (s := (Z ++ spB ++ hexT (can .f32 x))) (r := spB) rfl rfl (by first | omega | (simp only [ByteArray.size_append]; omega)) (q := Z ++ spB ++ hexT (can .f32 x) ++ spB) rfl ?_
      simp only [Act.put, List.setIfInBounds_toArray, List.set_cons_succ, List.set_cons_zero]
      refine wpFreeD_one rfl (.pointer (some ⟨w.heap.size, 4, none⟩)) (fun w1 _ => by kernel_rfl) ?_
      simp only [Act.put, List.setIfInBounds_toArray, List.set_cons_succ, List.set_cons_zero]
      refine wpFreeD_one rfl (.pointer (some ⟨w.heap.size, 5, none⟩)) (fun w1 _ => by kernel_rfl) ?_
      simp only [Act.put, List.setIfInBounds_toArray, List.set_cons_succ, List.set_cons_zero]
      refine wpFreeD_load1 rfl rfl rfl (p := ⟨w.heap.size, 5, none⟩) (v := .float .f32 y) (fun w1 h1 => by rw [((FD.le h1).row m0).cell?]; rfl) ukindFloat32 ?_
      simp only [Act.put, List.setIfInBounds_toArray, List.set_cons_succ, List.set_cons_zero]
      refine wpFreeD_callB rfl rfl Tryd.func15 (by kernel_rfl) (by kernel_rfl) (args := #[.float .f32 y]) (by simp [Act.eval]) (fun v w1 w2 hw hv => hv) (fun w1 hw1 _ => (HY.out w1).mono ?_) ?_
      · rintro e w2 ⟨rfl, hl⟩
        exact ⟨_, rfl, hl, rfl⟩
      rintro v ⟨_, _, _, hv⟩
      replace hv : v = .string (hexT (can .f32 y)) := hv
      subst hv
      simp only [Act.put, List.setIfInBounds_toArray, List.set_cons_succ, List.set_cons_zero]
      refine wpFreeD_cat rfl rfl (s := (Z ++ spB ++ hexT (can .f32 x) ++ spB)) (r := (hexT (can .f32 y))) rfl rfl (by first | omega | (simp only [ByteArray.size_append]; omega)) (q := txtF k a b c x y) EN.out ?_
      simp only [Act.put, List.setIfInBounds_toArray, List.set_cons_succ, List.set_cons_zero]
      refine wpFreeD_one rfl (.string (txtF k a b c x y)) (fun w1 _ => by kernel_rfl) ?_
      simp only [Act.put, List.setIfInBounds_toArray, List.set_cons_succ, List.set_cons_zero]
      refine wpFreeD_nil (fun wR hwR _ => ?_)
      replace F := FD.le hwR
      clear hwR FD
      go_wp2
      go_ret
      exact ⟨rfl, F.below⟩
theorem okF_k {k : Int} {a b c x y : Nat} (h : okF k a b c x y = true) : ∃ n : Nat, k = n ∧ n < 100 := by
  unfold okF at h
  simp only [Bool.and_eq_true, decide_eq_true_eq] at h
  exact ⟨k.toNat, by omega, by omega⟩
/-- The text of a filter, or none. -/
def filT (k : Int) (a b c x y : Nat) : ByteArray := if okF k a b c x y then txtF k.toNat a b c x y else ⟨#[]⟩
theorem i_FilterText (k : Int) (a b c x y : Nat) (w : World) (hf : fits .f32 a ∧ fits .f32 b ∧ fits .f32 c ∧ fits .f32 x ∧ fits .f32 y) : Calls Tryd.prog 7 #[(.agg #[.int .i64 k, .float .f32 a, .float .f32 b, .float .f32 c, .float .f32 x, .float .f32 y])] w (Out_t (filT k a b c x y) w) := by
  unfold filT
  cases hok : okF k a b c x y
  · simpa using i_FilterText_no k a b c x y w hf hok
  · obtain ⟨n, rfl, hn⟩ := okF_k hok
    simpa using i_FilterText_yes n a b c x y w hf hn hok
theorem s_FilterText (k : Int) (a b c x y : Nat) (w : World) (hf : fits .f32 a ∧ fits .f32 b ∧ fits .f32 c ∧ fits .f32 x ∧ fits .f32 y) : Calls Tryd.prog 5 #[(.agg #[.int .i64 k, .float .f32 a, .float .f32 b, .float .f32 c, .float .f32 x, .float .f32 y])] w (Out_t (filT k a b c x y) w) := by
  unfold filT
  cases hok : okF k a b c x y
  · simpa using s_FilterText_no k a b c x y w hok
  · obtain ⟨n, rfl, hn⟩ := okF_k hok
    simpa using s_FilterText_yes n a b c x y w hf hn hok
end Go.Proofs.YtcchiooiogkofaaDoor

/- The walk of 'FnExactFilterText'. -/
namespace Go.Proofs.YtcchiooiogkofaaDoor.fnExactFilterText
open Go.RowKit Go.Fk
set_option maxRecDepth 100000 in
set_option maxHeartbeats 4000000 in
theorem walk (k0 : Int) (a0 b0 c0 x0 y0 : Nat) (w : World) (w0 : (Lit.int .i64 k0).wf = true ∧ fits .f32 a0 ∧ fits .f32 b0 ∧ fits .f32 c0 ∧ fits .f32 x0 ∧ fits .f32 y0) :
    Calls Tryd.prog 3 #[(.agg #[.int .i64 k0, .float .f32 a0, .float .f32 b0, .float .f32 c0, .float .f32 x0, .float .f32 y0])] w fun e w' => e = .returned (.bool true) ∧ Below w.heap.size w w' := by
  have HI := hid (fun (w' : World) => i_FilterText k0 a0 b0 c0 x0 y0 w' w0.2)
  have HS := hid (fun (w' : World) => s_FilterText k0 a0 b0 c0 x0 y0 w' w0.2)
  have HT := hid (toFil_any k0 a0 b0 c0 x0 y0)
  clear w0
  have F := (Frg.nil w).box 26 (#[.int .i64 k0, .float .f32 a0, .float .f32 b0, .float .f32 c0, .float .f32 x0, .float .f32 y0] : Array Value)
  go_enter Tryd.func3, Tryd.ntmps3
  go_wp2_with (first | ((with_reducible refine at_load rfl ?_); (with_reducible refine wpList_loadG F rfl rfl rfl m0 Tryd.underlying26 rfl uinfoFilterL rfl ?_)) | (go_at_call 6; ((with_reducible refine (HT.out _).mono ?_); rintro e w1 ⟨rfl, hl1⟩; replace F := F.le hl1; clear hl1)) | (go_at_call 5; ((with_reducible refine (HS.out _).mono ?_); rintro e w1 ⟨rfl, hl1⟩; replace F := F.le hl1; clear hl1)) | (go_at_call 7; ((with_reducible refine (HI.out _).mono ?_); rintro e w1 ⟨rfl, hl1⟩; replace F := F.le hl1; clear hl1)))
  go_ret
  exact ⟨rfl, F.below⟩
end Go.Proofs.YtcchiooiogkofaaDoor.fnExactFilterText
