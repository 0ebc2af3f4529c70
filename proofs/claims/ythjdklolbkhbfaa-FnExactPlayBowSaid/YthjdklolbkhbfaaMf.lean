/- Texts of the walk, laid in one file. -/
import Derived.IntWalk
import Derived.Deep.MidRow
import Derived.Test.YthjdklolbkhbfaaRows
import Derived.Laws.BitsAllLaws
import Derived.Handy
import Derived.Test.YthjdklolbkhbfaaMe
set_option linter.unusedVariables false
set_option linter.unusedSimpArgs false
/- Regions with a call that writes: laws of single operations. Nothing here names a program. -/
namespace Go.Fk
open Go Go.RowKit
section
variable {E0 E1 : Ext} {c : Nat} {Vc : World → Value → Prop} {P : Program} {ops : Array Oper} {W : World} {K : FuncId → Array Value → World → Value → Prop} {Q : Act → World → Prop} {F : Facts} {k : Nat} {o : Oper} {rest : List Oper} {a : Act}
theorem wpFreeP_weaken : ∀ (l : List Oper) (k : Nat) (a : Act) (F F' : Facts), (∀ e w, F' e w → F e w) → wpFreeP E0 E1 c Vc P ops .any W K Q l k a F → wpFreeP E0 E1 c Vc P ops .any W K Q l k a F' := by
  intro l
  induction l with
  | nil => intro k a F F' h hh w hw hF; exact hh w hw (fun e => h e w (hF e))
  | cons o l ih =>
    intro k a F F' h hh
    obtain ⟨V, hg, hn⟩ := hh
    exact ⟨V, hg.stronger h, fun v hv => ih _ _ _ _ (fun e w hw => ⟨h e w hw.1, hw.2⟩) (hn v (hv.weaken (fun w hw e => h e w (hw e))))⟩
theorem wpFreeP_nil (h : ∀ w, E1.R W w → (∀ e, F e w) → Q a w) : wpFreeP E0 E1 c Vc P ops .any W K Q [] k a F := h
theorem wpFreeP_some (hk : k ≠ c) (hg : o.guard = none) (V : Value → Prop) (hr : ∀ w, E1.R W w → ∃ v n, (execOp a.eval o).run P w = .ok (.value v) (w.drewN n) ∧ V v)
    (h : ∀ v, V v → wpFreeP E0 E1 c Vc P ops .any W K Q rest (k + 1) (a.put o.dst v) (F.with k (fun _ => True))) : wpFreeP E0 E1 c Vc P ops .any W K Q (o :: rest) k a F := by
  refine ⟨fun _ u => V u, ⟨fun _ _ _ _ h => h, fun e => absurd e hk, .inl ⟨by simp [Region.wanted, hg], fun w hw _ => ?_⟩⟩, fun u hu => ?_⟩
  · obtain ⟨v, n, hrun, hv⟩ := hr w (by unfold preE at hw; rw [if_neg hk] at hw; exact hw)
    rw [hrun]; exact ⟨(stepE E0 E1 c k).of_le (le_drewN w n), hv⟩
  · obtain ⟨w, _, _, hv⟩ := hu
    exact wpFreeP_weaken _ _ _ _ _ (fun e w h => ⟨h.1, fun _ => trivial⟩) (h u hv)
theorem wpFreeP_one (hk : k ≠ c) (hg : o.guard = none) (v : Value) (hr : ∀ w, E1.R W w → (execOp a.eval o).run P w = .ok (.value v) w)
    (h : wpFreeP E0 E1 c Vc P ops .any W K Q rest (k + 1) (a.put o.dst v) (F.with k (fun _ => True))) : wpFreeP E0 E1 c Vc P ops .any W K Q (o :: rest) k a F :=
  wpFreeP_some hk hg (· = v) (fun w hw => ⟨v, 0, by rw [hr w hw]; rfl, rfl⟩) (by rintro u rfl; exact h)
theorem wpFreeP_quiet (hk : k ≠ c) (hnc : simple o.op = true) (h : wpQuiet P ops (fun _ => True) (fun a' => wpFreeP E0 E1 c Vc P ops .any W K Q rest (k + 1) a' (F.with k (fun _ => True))) [o] a) : wpFreeP E0 E1 c Vc P ops .any W K Q (o :: rest) k a F := by
  simp only [wpQuiet] at h
  by_cases hw : Region.wanted o (yielded ops a.tmps) = true
  · rw [if_pos hw] at h
    obtain ⟨v, h1, h2⟩ := h
    refine ⟨fun _ u => u = v, ⟨fun _ _ _ _ h => h, fun e => absurd e hk, .inl ⟨hw, fun w hw' _ => ?_⟩⟩, fun u hu => ?_⟩
    · have h3 := h1 w trivial
      unfold Oper.quietAt at h3
      generalize hrun : (execOp a.eval o).run P w = r at h3
      cases r with
      | ok n w' =>
        cases n <;> simp only [Oper.quietUpon] at h3 <;> simp only [insideT]
        case value u => exact ⟨by rw [h3.1]; exact (stepE E0 E1 c k).refl w, h3.2⟩
        case skip => exact ⟨by rw [h3.1]; exact (stepE E0 E1 c k).refl w, h3.2.symm⟩
        case enter f args => exact (noEnter hnc hrun).elim
      | halt x w' => simp only [Oper.quietUpon] at h3
    · obtain ⟨w, _, _, rfl⟩ := hu
      exact wpFreeP_weaken _ _ _ _ _ (fun e w h => ⟨h.1, fun _ => trivial⟩) h2
  · rw [if_neg hw] at h
    refine ⟨fun _ u => u = undef, ⟨fun _ _ _ _ h => h, fun e => absurd e hk, .inr ⟨hk, by simpa using hw, fun _ _ _ => rfl⟩⟩, fun u hu => ?_⟩
    obtain ⟨w, _, _, rfl⟩ := hu
    exact wpFreeP_weaken _ _ _ _ _ (fun e w h => ⟨h.1, fun _ => trivial⟩) h
theorem wpFreeP_farith (hk : k ≠ c) (hg : o.guard = none) {op : BinOp} {t t' : TypeId} {x y : Operand} (hop : o.op = Op.binOp op t x y t') (ho : arith op = true)
    {fk : FloatKind} {p q : Nat} (hx : a.eval x = .float fk p) (hy : a.eval y = .float fk q)
    (h : ∀ r, Hid (can fk r = fop op fk p q) → Hid (fits fk r) → wpFreeP E0 E1 c Vc P ops .any W K Q rest (k + 1) (a.put o.dst (.float fk r)) (F.with k (fun _ => True))) : wpFreeP E0 E1 c Vc P ops .any W K Q (o :: rest) k a F := by
  refine wpFreeP_some hk hg (fun v => ∃ r, v = .float fk r ∧ can fk r = fop op fk p q ∧ fits fk r) (fun w _ => ?_) ?_
  · obtain ⟨r, n, hrun, hr, hf⟩ := run_farith (P := P) w op ho t fk p q
    have he := eqGuard_float (P := P) w op t x y fk fk p q
    refine ⟨.float fk r, n, ?_, r, rfl, hr, hf⟩
    simp [execOp, hop, hx, hy, he, hrun, Result.andThen]
  · rintro v ⟨r, rfl, h1, h2⟩
    exact h r h1 h2
theorem wpFreeP_call (hk : k = c) (hg : o.guard = none) (hm : MonoT E1 Vc) (h1 : ∀ w, E0.R W w → insideT E1 P K w Vc ((execOp a.eval o).run P w))
    (h2 : ∀ v, (∃ w, E1.R W w ∧ Vc w v) → wpFreeP E0 E1 c Vc P ops .any W K Q rest (k + 1) (a.put o.dst v) (F.with k (fun w => Vc w v))) : wpFreeP E0 E1 c Vc P ops .any W K Q (o :: rest) k a F := by
  refine ⟨Vc, ⟨hm, fun _ => rfl, .inl ⟨by simp [Region.wanted, hg], fun w hw _ => ?_⟩⟩, fun v hv => h2 v (by obtain ⟨w, hw, _, h⟩ := hv; exact ⟨w, hw, h⟩)⟩
  unfold preE at hw
  rw [if_pos hk] at hw
  unfold stepE
  rw [if_pos hk]
  exact h1 w hw
/-- A REGION WITH FORCED LAST OPERATIONS (from number n on), one of whose first ones writes. -/
theorem region_tailP (hs : ∀ w w', E0.R w w' → E1.R w w') (K : FuncId → Array Value → World → Value → Prop) {id : Nat} {Q : Exit → Act → World → Prop} {a : Act} {w : World} {l : List Oper} (n : Nat) (hVc : ∀ w', E1.R (w.drewN 1) w' → ∃ v w'', E1.R w' w'' ∧ Vc w'' v) (hm : P.follows .mixedOrders = true) (hB : Region.lexTailB .any l.toArray n = true)
    (h : wpFreeP E0 E1 c Vc P l.toArray .any (w.drewN 1) K (fun a' w' => wpList P l.toArray Q (l.drop n) a' w') (l.take n) 0 a noFacts) : (Code.region id l.toArray true).wp P Q a w := by
  simp only [Region.lexTailB, Bool.and_eq_true, decide_eq_true_eq] at hB
  obtain ⟨⟨⟨⟨hsel, hn⟩, hs'⟩, hc⟩, hlex⟩ := hB
  have hn' : n < l.length := by simpa using hn
  have htl : (l.take n).length = n := by simp; omega
  have hdl : (l.drop n).length = l.toArray.size - n := by simp
  have hbound : ∀ listed i, HeadInv .any l.toArray n listed → i < n → listed.getD i true = false → ∀ j ∈ Region.ready .any l.toArray listed, j < n := by
    intro listed i inv hi hun j hj
    rcases Nat.lt_or_ge j n with h | h
    · exact h
    · exact absurd hj (tail_waits hs' hc hn inv _ i rfl hi hun j h)
  have H := anyFreeP_lex (md := .any) (g := l.toArray.size - n) hs hVc hsel hbound (l.take n) 0 _ a noFacts (fun j hj => by
    have hj' : j < n := by rw [htl] at hj; exact hj
    simp [hj']) (by simpa using htl) (head_start _ n) (by rw [htl]; exact hlex) (fun _ _ _ h => h) ⟨w.drewN 1, E1.refl _, fun _ => trivial, trivial⟩ h
  refine wp_region_any hm ?_
  have := anyFreeP_sound (Q' := Q) (W := w.drewN 1) (g := l.toArray.size - n) hs (fun listed a' F w' hw' hF hL => by
    have := wpAny_of_seq (md := .any) (Q' := Q) (l.drop n) n listed a' w' (fun j => by simp [List.getElem?_drop]) (by rw [hdl]; exact hL.1) (hL.2 w' hw' hF)
    rwa [hdl] at this) _ _ _ _ _ (fun _ _ _ h => h) (E1.refl _) (fun _ => E0.refl _) (fun _ => trivial) H
  rw [htl, show n + (l.toArray.size - n) = l.toArray.size by omega] at this
  exact this
end
/-- What may turn: before a call has run, all is as Pre says; behind it, as Post says. -/
def altE (S : Nat → Prop) (Pre Post : World → Prop) (h1 : ∀ w w', le w w' → Pre w → Pre w') (h2 : ∀ w w', le w w' → Post w → Post w') : Ext where
  R w w' := Chg S w w' ∧ (Post w → Post w') ∧ (Pre w ∨ Post w → Pre w' ∨ Post w')
  refl w := ⟨Chg.refl _ w, id, id⟩
  trans := by
    rintro a b c ⟨p1, p2, p3⟩ ⟨q1, q2, q3⟩
    exact ⟨p1.trans q1, fun h => q2 (p2 h), fun h => q3 (p3 h)⟩
  of_le := by
    intro a b h
    exact ⟨Chg.of_le h, h2 a b h, fun e => e.elim (fun x => .inl (h1 a b h x)) (fun x => .inr (h2 a b h x))⟩
section
variable {E0 E1 : Ext} {c : Nat} {Vc : World → Value → Prop} {P : Program} {ops : Array Oper} {W : World} {K : FuncId → Array Value → World → Value → Prop} {Q : Act → World → Prop} {F : Facts} {k : Nat} {o : Oper} {rest : List Oper} {a : Act}
/-- A cell that holds the same before and behind. -/
theorem wpFreeP_cellA (hk : k ≠ c) (hg : o.guard = none) {ty : TypeId} {x : Operand} (hop : o.op = .load ty x) {ad : Addr} (hx : a.eval x = .pointer (some ad)) {v : Value} (hv : ∀ w, E1.R W w → w.cell? ad = some v) (hu : ∀ w, (isAgg ty).run P w = .ok false w)
    (h : wpFreeP E0 E1 c Vc P ops .any W K Q rest (k + 1) (a.put o.dst v) (F.with k (fun _ => True))) : wpFreeP E0 E1 c Vc P ops .any W K Q (o :: rest) k a F := by
  refine wpFreeP_one hk hg v (fun w hw => ?_) h
  have hl : (Instr.loadAt ty (.pointer (some ad))).run P w = .ok v w := by
    simp [Instr.loadAt, Instr.sureAddr, loadVar, hu, hv w hw]
  simp [execOp, hop, hx, hl, Result.andThen]
/-- A call that only reads. -/
theorem wpFreeP_callQ (hk : k ≠ c) (hg : o.guard = none) {f : FuncId} {xs : Array Operand} {ts : Array TypeId} (hop : o.op = Op.call { callee := Callee.value (Operand.func f), args := xs, argTypes := ts }) {fn : Func} (hf : P.funcs[f]? = some fn)
    (hb : fn.body.isNone = false) (hn : (fn.name == "runtime.NumGoroutine") = false) {args : Array Value} (ha : xs.map a.eval = args) (V : Value → Prop)
    (h1 : ∀ w, E1.R W w → Calls P f args w (fun e w' => ∃ v, e = .returned v ∧ le w w' ∧ K f args w' v ∧ V v)) (hK : ∀ w v, K f args w v → V v)
    (h : ∀ v, V v → wpFreeP E0 E1 c Vc P ops .any W K Q rest (k + 1) (a.put o.dst v) (F.with k (fun _ => True))) : wpFreeP E0 E1 c Vc P ops .any W K Q (o :: rest) k a F := by
  refine ⟨fun _ u => V u, ⟨fun _ _ _ _ h => h, fun e => absurd e hk, .inl ⟨by simp [Region.wanted, hg], fun w hw _ => ?_⟩⟩, fun u hu => ?_⟩
  · rw [run_enter hop hf hb hn ha]
    unfold preE at hw
    rw [if_neg hk] at hw
    refine ⟨(stepE E0 E1 c k).refl w, (h1 w hw).mono ?_, fun w'' v hk => hK w'' v hk⟩
    rintro e w' ⟨v, rfl, hl, hk', _⟩
    exact ⟨v, rfl, (stepE E0 E1 c k).of_le hl, hk'⟩
  · obtain ⟨w, _, _, hv⟩ := hu
    exact wpFreeP_weaken _ _ _ _ _ (fun e w h => ⟨h.1, fun _ => trivial⟩) (h u hv)
/-- The call that writes. -/
theorem wpFreeP_callC (hk : k = c) (hg : o.guard = none) {f : FuncId} {xs : Array Operand} {ts : Array TypeId} (hop : o.op = Op.call { callee := Callee.value (Operand.func f), args := xs, argTypes := ts }) {fn : Func} (hf : P.funcs[f]? = some fn)
    (hb : fn.body.isNone = false) (hn : (fn.name == "runtime.NumGoroutine") = false) {args : Array Value} (ha : xs.map a.eval = args) (hm : MonoT E1 Vc)
    (h1 : ∀ w, E0.R W w → Calls P f args w (fun e w' => ∃ v, e = .returned v ∧ E1.R w w' ∧ K f args w' v)) (hK : ∀ w v, K f args w v → Vc w v)
    (h2 : ∀ v, (∃ w, E1.R W w ∧ Vc w v) → wpFreeP E0 E1 c Vc P ops .any W K Q rest (k + 1) (a.put o.dst v) (F.with k (fun w => Vc w v))) : wpFreeP E0 E1 c Vc P ops .any W K Q (o :: rest) k a F := by
  refine wpFreeP_call hk hg hm (fun w hw => ?_) h2
  rw [run_enter hop hf hb hn ha]
  exact ⟨E1.refl w, h1 w hw, fun w'' v hk => hK w'' v hk⟩
end
end Go.Fk

/- Delays: '(*delay).come', 'newDelay'. -/
namespace Go.Fk
open Go Go.RowKit
/-- A ring's samples behind a further one that is kept. -/
def comeX (x : Nat → Nat) (j a : Nat) : Nat → Nat := pushX x j (kept a)
theorem loud_int {x : Nat → Nat} {n j a : Nat} (hj : j < n) : ((loudN x n : Nat) : Int) + (((loudB (kept a) : Nat) : Int) - ((loudB (x j) : Nat) : Int)) = ((loudN (comeX x j a) n : Nat) : Int) := by
  have := loudN_push (x := x) (a := kept a) hj
  unfold comeX; omega
theorem own_form {w : World} {lo hi : Nat} {s : Value} {x : Nat → Nat} {n : Nat} (h : OwnS w lo hi s x n) (hn : 1 ≤ n) : ∃ b o cap, s = .slice (some ⟨b, o, none⟩) n cap ∧ n ≤ cap ∧ cap ≤ maxLen := by
  rcases h with ⟨_, h⟩ | ⟨b, o, cap, cs, h1, h2, h3, _⟩
  · omega
  · exact ⟨b, o, cap, h1, h2, h3⟩
theorem loudB_le (a : Nat) : loudB a ≤ 1 := by unfold loudB; split <;> omega
theorem loudB_congr {a b : Nat} (h : can .f32 a = can .f32 b) : loudB a = loudB b := by rw [← loudB_can a, h, loudB_can]
end Go.Fk
namespace Go.Proofs.Ythjdklolbkhbfaa
open Go.RowKit Go.Fk
theorem i_loudness (x : Nat) (w : World) : Calls Try.prog 75 #[.float .f32 x] w fun e w' => e = .returned (.int .i64 (loudB x : Nat)) ∧ w = w' := by
  cases h : zeroF x
  · have HZ : Hid (loudB x = 1) := by unfold Hid loudB; rw [if_neg (by rw [h]; decide)]
    unfold zeroF at h
    have h2 : (FloatKind.f32.format.order x 0 != some .eq) = !(FloatKind.f32.format.order x 0 == some .eq) := rfl
    rw [h] at h2
    replace h2 := h2.trans (show _ = true from rfl)
    go_enter Try.func75, Try.ntmps75
    go_wp2
    go_ret
    exact ⟨by rw [HZ.out]; rfl, rfl⟩
  · have HZ : Hid (loudB x = 0) := by unfold Hid loudB; rw [if_pos h]
    unfold zeroF at h
    have h2 : (FloatKind.f32.format.order x 0 != some .eq) = !(FloatKind.f32.format.order x 0 == some .eq) := rfl
    rw [h] at h2
    replace h2 := h2.trans (show _ = false from rfl)
    go_enter Try.func75, Try.ntmps75
    go_wp2
    go_ret
    exact ⟨by rw [HZ.out]; rfl, rfl⟩
def loudK (_ : FuncId) (args : Array Value) (v : Value) : Prop := ∃ p, args = #[.float .f32 p] ∧ v = .int .i64 (loudB p : Nat)
theorem loudK_v {f : FuncId} {p : Nat} {v : Value} (h : loudK f #[.float .f32 p] v) : v = .int .i64 (loudB p : Nat) := by
  obtain ⟨p', h, rfl⟩ := h
  simp at h
  subst h
  rfl
theorem loud_call {p N : Nat} {w : World} : Calls Try.prog 75 #[.float .f32 p] (w.drewN N) fun e w'' => ∃ u, e = .returned u ∧ loudK 75 #[.float .f32 p] u ∧ ∃ m, w'' = w.drewN m :=
  (i_loudness p (w.drewN N)).mono fun _ _ ⟨he, hw⟩ => ⟨_, he, ⟨p, rfl, rfl⟩, N, hw.symm⟩
theorem kindN : ∀ w : World, (isAgg 3).run Try.prog w = .ok false w := fun w => by kernel_rfl
set_option maxRecDepth 100000 in
set_option maxHeartbeats 4000000 in
theorem i_come (lo hi : Nat) (s : Value) (x : Nat → Nat) (n j a g f : Nat) (t : TypeId) (cs : Array Value) (w : World) (hs : OwnS w lo hi s x n) (hr : Row w g t cs) (e0 : cs[f]? = some s) (e1 : cs[f + 1]? = some (.int .i64 j)) (e2 : cs[f + 2]? = some (.int .i64 (loudN x n : Nat))) (hg : ¬ (lo ≤ g ∧ g < hi)) (hj : j < n) (hn : n ≤ 1024) (ha : fits .f32 a) :
    Calls Try.prog 62 #[.pointer (some ⟨g, f, none⟩), .float .f32 a] w fun e w' => (∃ v, e = .returned v) ∧ Row w' g t ((cs.setIfInBounds (f + 1) (.int .i64 (((j + 1) % n : Nat) : Int))).setIfInBounds (f + 2) (.int .i64 (loudN (comeX x j a) n : Nat))) ∧ OwnS w' lo hi s (comeX x j a) n ∧ Chg (fun i => i = g ∨ lo ≤ i ∧ i < hi) w w' := by
  have hlow : ∀ w w' : World, le w w' → (Row w g t cs ∧ OwnS w lo hi s x n) → (Row w' g t cs ∧ OwnS w' lo hi s x n) := fun w w' h e => ⟨e.1.le h, e.2.le h⟩
  have hlow2 : ∀ w w' : World, le w w' → (Row w g t (cs.setIfInBounds (f + 1) (.int .i64 (((j + 1) % n : Nat) : Int))) ∧ OwnS w lo hi s (comeX x j a) n) → (Row w' g t (cs.setIfInBounds (f + 1) (.int .i64 (((j + 1) % n : Nat) : Int))) ∧ OwnS w' lo hi s (comeX x j a) n) := fun w w' h e => ⟨e.1.le h, e.2.le h⟩
  have HK := hid (fun w' => i_kept a w' ha)
  have HP := hid (fun (w' : World) (hl : le w w') => i_push lo hi s x n j (kept a) g f t cs w' (hs.le hl) (hr.le hl) e0 e1 hg hj hn (fits_kept ha))
  have HPRE := hid (And.intro hr hs)
  have h2 : ∀ w' : World, (Row w' g t cs ∧ OwnS w' lo hi s x n) ∨ (Row w' g t (cs.setIfInBounds (f + 1) (.int .i64 (((j + 1) % n : Nat) : Int))) ∧ OwnS w' lo hi s (comeX x j a) n) → w'.cell? ⟨g, f + 2, none⟩ = some (.int .i64 (loudN x n : Nat)) := fun w' h => by
    rcases h with h | h
    · exact (h.1.cell? (f + 2)).trans e2
    · exact (h.1.cell? (f + 2)).trans (by rw [Array.getElem?_setIfInBounds_ne (by omega)]; exact e2)
  have H2 := hid h2
  obtain ⟨y0, hy0⟩ : ∃ y, fits .f32 y ∧ can .f32 y = x j := by
    rcases hs with ⟨_, h⟩ | ⟨b, o, cap, ds, _, _, _, _, _, _, hx⟩
    · omega
    · obtain ⟨y, _, f1, c1⟩ := hx j hj; exact ⟨y, f1, c1⟩
  have HY0 := hid hy0
  have l1 : loudN x n ≤ 1024 := Nat.le_trans (loudN_le _ _) hn
  have l2 := loudB_le (kept a)
  have l3 := loudB_le (x j)
  have LI := hid (loud_int (x := x) (a := a) hj)
  clear hr hs e0 e1 e2 h2 hy0
  go_enter Try.func62, Try.ntmps62
  go_wp2_with (go_at_call 77; ((with_reducible refine (HK.out _).mono ?_); rintro e w1 ⟨rfl, rfl⟩))
  refine region_tailP (E0 := leX) (E1 := altE (fun i => i = g ∨ lo ≤ i ∧ i < hi) _ _ hlow hlow2) (c := 10) (Vc := fun wa v => ∃ o, v = .float .f32 o ∧ can .f32 o = x j ∧ fits .f32 o ∧ Row wa g t (cs.setIfInBounds (f + 1) (.int .i64 (((j + 1) % n : Nat) : Int))) ∧ OwnS wa lo hi s (comeX x j a) n) (fun _ _ h => (altE _ _ _ hlow hlow2).of_le h) (fun _ args wa v => (∀ o, args = #[.float .f32 o] → v = .int .i64 (loudB o : Nat)) ∧ (args.size = 2 → ∃ o, v = .float .f32 o ∧ can .f32 o = x j ∧ fits .f32 o ∧ Row wa g t (cs.setIfInBounds (f + 1) (.int .i64 (((j + 1) % n : Nat) : Int))) ∧ OwnS wa lo hi s (comeX x j a) n)) 16 (fun wa hwa => ?_) (by kernel_rfl) (by kernel_rfl) ?_
  · rcases hwa.2.2 (.inl (hlow _ _ (le_drewN w 1) HPRE.out)) with h | h
    · obtain ⟨h3, h4⟩ := h
      have hp := i_push lo hi s x n j (kept a) g f t cs wa h4 h3
      rcases h4 with ⟨_, h0⟩ | ⟨b, o, cap, ds, rfl, hc, hm, hb, hb', hrow, hx⟩
      · omega
      have hjs : o + j < ds.size := by obtain ⟨y, e, _⟩ := hx j hj; exact (Array.getElem?_eq_some_iff.1 e).1
      have hne : b ≠ g := fun e => hg (e ▸ ⟨hb, hb'⟩)
      refine ⟨.float .f32 y0, (wa.setCell ⟨b, o + j, none⟩ (.float .f32 (kept a))).setCell ⟨g, f + 1, none⟩ (.int .i64 (((j + 1) % n : Nat) : Int)), ?_, y0, rfl, HY0.out.2, HY0.out.1, (h3.other _ _ (by simp; omega)).set _ _, own_set j (kept a) ((hrow.set _ _).other _ _ (by simp; exact hne)) hc hm hb hb' hjs (fits_kept ha) hx⟩
      have hpost : Row ((wa.setCell ⟨b, o + j, none⟩ (.float .f32 (kept a))).setCell ⟨g, f + 1, none⟩ (.int .i64 (((j + 1) % n : Nat) : Int))) g t (cs.setIfInBounds (f + 1) (.int .i64 (((j + 1) % n : Nat) : Int))) ∧ OwnS ((wa.setCell ⟨b, o + j, none⟩ (.float .f32 (kept a))).setCell ⟨g, f + 1, none⟩ (.int .i64 (((j + 1) % n : Nat) : Int))) lo hi (.slice (some ⟨b, o, none⟩) n cap) (comeX x j a) n := ⟨(h3.other _ _ (by simp; omega)).set _ _, own_set j (kept a) ((hrow.set _ _).other _ _ (by simp; exact hne)) hc hm hb hb' hjs (fits_kept ha) hx⟩
      exact ⟨(Chg.setCell (S := fun i => i = g ∨ lo ≤ i ∧ i < hi) (Chg.refl _ wa) (.inr ⟨hb, hb'⟩) _).setCell (.inl rfl) _, fun _ => hpost, fun _ => .inr hpost⟩
    · exact ⟨.float .f32 y0, wa, (altE _ _ _ hlow hlow2).refl wa, y0, rfl, HY0.out.2, HY0.out.1, h.1, h.2⟩
  simp only [List.take_succ_cons, List.take_zero, List.drop_succ_cons, List.drop_zero]
  refine wpFreeP_one (by decide) rfl (.pointer (some ⟨g, f, none⟩)) (fun w1 _ => by kernel_rfl) ?_
  simp only [Act.put, List.setIfInBounds_toArray, List.set_cons_succ, List.set_cons_zero]
  refine wpFreeP_one (by decide) rfl (.pointer (some ⟨g, f, none⟩)) (fun w1 _ => by kernel_rfl) ?_
  simp only [Act.put, List.setIfInBounds_toArray, List.set_cons_succ, List.set_cons_zero]
  refine wpFreeP_one (by decide) rfl (.pointer (some ⟨g, f + 2, none⟩)) (fun w1 _ => by kernel_rfl) ?_
  simp only [Act.put, List.setIfInBounds_toArray, List.set_cons_succ, List.set_cons_zero]
  refine wpFreeP_cellA (by decide) rfl rfl rfl (fun w1 h1 => H2.out w1 (h1.2.2 (.inl (hlow _ _ (le_drewN w 1) HPRE.out)))) kindN ?_
  simp only [Act.put, List.setIfInBounds_toArray, List.set_cons_succ, List.set_cons_zero]
  refine wpFreeP_one (by decide) rfl (.float .f32 (kept a)) (fun w1 _ => by kernel_rfl) ?_
  simp only [Act.put, List.setIfInBounds_toArray, List.set_cons_succ, List.set_cons_zero]
  refine wpFreeP_callQ (by decide) rfl rfl Try.func75 (by kernel_rfl) (by kernel_rfl) (args := #[.float .f32 (kept a)]) (by simp [Act.eval]) (· = .int .i64 (loudB (kept a) : Nat)) (fun w1 h1 => (i_loudness (kept a) w1).mono ?_) (fun w1 v h => h.1 _ rfl) ?_
  · rintro e w2 ⟨rfl, rfl⟩
    exact ⟨_, rfl, le_refl _, ⟨fun o ho => by simp at ho; rw [ho], fun h => by simp at h⟩, rfl⟩
  rintro v rfl
  simp only [Act.put, List.setIfInBounds_toArray, List.set_cons_succ, List.set_cons_zero]
  refine wpFreeP_one (by decide) rfl (.pointer (some ⟨g, f, none⟩)) (fun w1 _ => by kernel_rfl) ?_
  simp only [Act.put, List.setIfInBounds_toArray, List.set_cons_succ, List.set_cons_zero]
  refine wpFreeP_one (by decide) rfl (.pointer (some ⟨g, f, none⟩)) (fun w1 _ => by kernel_rfl) ?_
  simp only [Act.put, List.setIfInBounds_toArray, List.set_cons_succ, List.set_cons_zero]
  refine wpFreeP_one (by decide) rfl (.pointer (some ⟨g, f, none⟩)) (fun w1 _ => by kernel_rfl) ?_
  simp only [Act.put, List.setIfInBounds_toArray, List.set_cons_succ, List.set_cons_zero]
  refine wpFreeP_one (by decide) rfl (.float .f32 (kept a)) (fun w1 _ => by kernel_rfl) ?_
  simp only [Act.put, List.setIfInBounds_toArray, List.set_cons_succ, List.set_cons_zero]
  refine wpFreeP_callC rfl rfl rfl Try.func80 (by kernel_rfl) (by kernel_rfl) (args := #[.pointer (some ⟨g, f, none⟩), .float .f32 (kept a)]) (by simp [Act.eval]) (fun v wa wb hw hv => by obtain ⟨o, h1, h2, h3, h4, h5⟩ := hv; exact ⟨o, h1, h2, h3, hw.2.1 ⟨h4, h5⟩⟩) (fun w1 h1 => (HP.out w1 (le_trans (le_drewN w 1) h1)).mono ?_) (fun w1 v h => h.2 rfl) ?_
  · rintro e w2 ⟨o, rfl, ho, fo, hR, hO, hC⟩
    exact ⟨_, rfl, ⟨hC, fun _ => ⟨hR, hO⟩, fun _ => .inr ⟨hR, hO⟩⟩, fun o2 h => by simp at h, fun _ => ⟨o, rfl, ho, fo, hR, hO⟩⟩
  rintro v ⟨_, _, o, rfl, ho, fo, _⟩
  have HO := hid ho; clear ho
  simp only [Act.put, List.setIfInBounds_toArray, List.set_cons_succ, List.set_cons_zero]
  refine wpFreeP_callQ (by decide) rfl rfl Try.func75 (by kernel_rfl) (by kernel_rfl) (args := #[.float .f32 o]) (by simp [Act.eval]) (· = .int .i64 (loudB o : Nat)) (fun w1 h1 => (i_loudness o w1).mono ?_) (fun w1 v h => h.1 _ rfl) ?_
  · rintro e w2 ⟨rfl, rfl⟩
    exact ⟨_, rfl, le_refl _, ⟨fun o ho => by simp at ho; rw [ho], fun h => by simp at h⟩, rfl⟩
  rintro v rfl
  simp only [Act.put, List.setIfInBounds_toArray, List.set_cons_succ, List.set_cons_zero]
  have hlo : loudB o = loudB (x j) := by rw [← loudB_can o, HO.out]
  rw [hlo]
  refine wpFreeP_one (by decide) rfl (.int .i64 (((loudB (kept a) : Nat) : Int) - ((loudB (x j) : Nat) : Int))) (fun w1 _ => ?_) ?_
  · go_simp
    exact IntWalk.i64_in _ (by omega)
  simp only [Act.put, List.setIfInBounds_toArray, List.set_cons_succ, List.set_cons_zero]
  refine wpFreeP_one (by decide) rfl (.int .i64 (((loudN x n : Nat) : Int) + (((loudB (kept a) : Nat) : Int) - ((loudB (x j) : Nat) : Int)))) (fun w1 _ => ?_) ?_
  · go_simp
    exact IntWalk.i64_in _ (by omega)
  simp only [Act.put, List.setIfInBounds_toArray, List.set_cons_succ, List.set_cons_zero]
  refine wpFreeP_one (by decide) rfl (.pointer (some ⟨g, f, none⟩)) (fun w1 _ => by kernel_rfl) ?_
  simp only [Act.put, List.setIfInBounds_toArray, List.set_cons_succ, List.set_cons_zero]
  refine wpFreeP_one (by decide) rfl (.pointer (some ⟨g, f + 2, none⟩)) (fun w1 _ => by kernel_rfl) ?_
  simp only [Act.put, List.setIfInBounds_toArray, List.set_cons_succ, List.set_cons_zero]
  rw [LI.out]
  refine wpFreeP_nil (fun wR hwR hF => ?_)
  obtain ⟨o', _, _, _, hRR, hRO⟩ := (hF 10).1.1.1.1.1.2 rfl
  have C0 := hid ((Chg.of_le (le_drewN w 1)).trans hwR.1)
  have RR := hid hRR; have RO := hid hRO
  have fz := hRR.frozen (f + 2)
  have cz : wR.cell? ⟨g, f + 2, none⟩ = some (.int .i64 (loudN x n : Nat)) := H2.out wR (.inr ⟨hRR, hRO⟩)
  clear hF hwR hRR hRO
  go_wp2
  go_end0
  refine ⟨⟨_, rfl⟩, RR.out.set _ _, RO.out.chgS (S := fun i => i = g) (Chg.setCell (S := fun i => i = g) (a := ⟨g, f + 2, none⟩) (Chg.refl _ wR) rfl _) (fun i h1 h2 e => by have e' : i = g := e; subst e'; exact hg ⟨h1, h2⟩), C0.out.setCell (.inl rfl) _⟩
theorem infoDelay : (Try.prog.info? 85).map (·.size) = some 3 := by kernel_rfl
set_option maxRecDepth 100000 in
set_option maxHeartbeats 4000000 in
theorem i_newDelay (B : Nat) (s : Value) (x : Nat → Nat) (n : Nat) (k : Int) (w : World) (hs : RdS w B s x n) (h1 : 1 ≤ n) (h2 : n ≤ 1024) :
    Calls Try.prog 51 #[.agg #[s, .int .i64 k]] w fun e w' => ∃ s', e = .returned (.agg #[s', .int .i64 k, .int .i64 (loudN x n : Nat)]) ∧ OwnS w' w.heap.size w'.heap.size s' x n ∧ le w w' := by
  have HC := hid (fun (w' : World) (hl : le w w') => i_copied B s x n k w' (hs.le hl) h1 h2)
  clear hs
  have F := ((Frg.nil w).box 35 #[s, .int .i64 k]).box 85 #[.slice none 0 0, .int .i64 0, .int .i64 0]
  simp only [World.size_alloc] at F
  go_enter Try.func51, Try.ntmps51
  go_wp2_with (first | ((with_reducible refine at_loadU rfl rfl ?_); (with_reducible refine wpList_loadG F rfl rfl rfl (by first | exact m0 | exact m1) Try.underlying35 rfl infoRing rfl ?_)) | (go_at_call 74; ((with_reducible refine (HC.out _ F.below).mono ?_); rintro e w1 ⟨s1, rfl, ho, hl⟩; obtain ⟨b, o, cap, rfl, hc, hm⟩ := own_form ho h1; have mm := hm; unfold maxLen at mm; replace F := F.own1 hl ho; clear ho hl)) | (refine wpList_storeG F rfl rfl rfl rfl rfl infoDelay rfl rfl ?_; clear F; intro W3 F zW; clear zW; have c0 := (F.row m0).cell? 0))
  have F0 := hid F
  clear F
  go_loopw [13] (fun i wr => ∃ m : Nat, m ≤ n ∧ i = .int .i64 m ∧ Hid (Frg w wr [rowF w1.heap.size 85 #[.slice (some ⟨b, o, none⟩) n cap, .int .i64 k, .int .i64 (loudN x m : Nat)], ownF (w.heap.size + 1 + 1) w1.heap.size (.slice (some ⟨b, o, none⟩) n cap) x n, rowF (w.heap.size + 1) 85 #[.slice none 0 0, .int .i64 0, .int .i64 0], rowF w.heap.size 35 #[s, .int .i64 k]])) (fun i _ => n - (intOf i).toNat)
  case atStart => exact ⟨0, by omega, rfl, by have h := F0.out.box 85 #[.slice (some ⟨b, o, none⟩) n cap, .int .i64 k, .int .i64 0]; simp only [World.size_alloc] at h; exact h⟩
  case round =>
    obtain ⟨m, hk, rfl, HF⟩ := hrel
    rename_i wr _
    by_cases hlt : m < n
    · obtain ⟨y, cy, fy, ey⟩ : ∃ y, wr.cell? ⟨b, o + m, none⟩ = some (.float .f32 y) ∧ fits .f32 y ∧ can .f32 y = x m := by
        rcases HF.out.own m1 with ⟨e, h0⟩ | ⟨b2, o2, cap2, ds2, e, _, _, _, _, hrow, hx⟩
        · omega
        · simp only [Value.slice.injEq, Option.some.injEq, Addr.mk.injEq] at e
          obtain ⟨⟨rfl, rfl, _⟩, _, rfl⟩ := e
          obtain ⟨y, e1, e2, e3⟩ := hx m hlt
          exact ⟨y, (hrow.cell? (o + m)).trans e1, e2, e3⟩
      have EY := hid ey
      have c2 := (HF.out.row m0).cell? 2
      have f2 := (HF.out.row m0).frozen 2
      have l1 : loudN x m ≤ 1024 := Nat.le_trans (loudN_le _ _) (by omega)
      have l2 := loudB_le y
      have hw : IntKind.i64.wrap (((loudN x m : Nat) : Int) + ((loudB y : Nat) : Int)) = ((loudN x m : Nat) : Int) + ((loudB y : Nat) : Int) := IntWalk.i64_in _ (by omega)
      clear ey
      go_wp2_with fail
      refine wp_region_tail (fun _ _ v => v = .int .i64 (loudB y : Nat)) 6 (by kernel_rfl) (by kernel_rfl) ?_; simp only [List.take_succ_cons, List.take_zero, List.drop_succ_cons, List.drop_zero]
      repeat (refine wpLoose_quiet rfl ?_; go_big_quiet_step (fail); refine wpQuiet_nil ?_)
      refine wpLoose_any rfl (· = .int .i64 (loudB y : Nat)) (fun m0 => ?_) ?_
      · go_simp
        refine (i_loudness _ _).mono ?_
        rintro e w9 ⟨rfl, rfl⟩
        exact ⟨_, rfl, rfl, m0, by first | rfl | (go_simp; done)⟩
      rintro v0 rfl
      simp only [Act.put, List.setIfInBounds_toArray, List.set_cons_succ, List.set_cons_zero]
      repeat (refine wpLoose_quiet rfl ?_; go_big_quiet_step (fail); refine wpQuiet_nil ?_)
      refine wpLoose_nil (fun m3 => ?_)
      have HW := hid hw
      clear hw
      go_wp2
      go_roundw
      case rel =>
        refine ⟨m + 1, by omega, by go_num, ?_⟩
        have h := (HF.out.drewN m3).set0 2 (.int .i64 (loudN x (m + 1) : Nat))
        have e1 : ((loudN x (m + 1) : Nat) : Int) = ((loudN x m : Nat) : Int) + ((loudB y : Nat) : Int) := by
          have : loudB y = loudB (x m) := by rw [← loudB_can y, EY.out]
          simp only [loudN]; omega
        rw [e1] at h
        first
        | simpa [e1] using h
        | (rw [e1]; exact h)
      case measure => simp [intOf]; omega
    · obtain rfl : m = n := by omega
      have F := HF.out
      go_wp2_with (first | ((with_reducible refine at_loadU rfl rfl ?_); (with_reducible refine wpList_loadG F rfl rfl rfl (by first | exact m0 | exact m1) Try.underlying85 rfl infoDelay rfl ?_)) | (with_reducible refine stop_store rfl ?_))
      show wpList _ _ _ _ _ _
      have O1 := F.own m1
      refine wpList_storeD rfl rfl rfl (cells := #[.slice (some ⟨b, o, none⟩) m cap, .int .i64 k, .int .i64 (loudN x m : Nat)]) rfl (F.row m2) infoDelay rfl (by simp [Value.oneCell']) (fun w9 K => ?_)
      have C := (Chg.refl (· = w.heap.size + 1) _).wrote K rfl
      have zc := C.size
      have a2 := (F.facts _ m1).2.1
      simp only [ownF] at a2
      have Q1 := hid (O1.chgS C (fun i a b e => by have e' : i = w.heap.size + 1 := e; omega))
      have R := hid K.row
      have L := hid (F.wr2 K).below
      clear K F C O1
      go_wp2
      exact bodyPost_ret (results_row1 rfl _ _ _ _ _ rfl R.out Try.underlying85 rfl infoDelay) rfl ⟨_, rfl, Q1.out.mono (by omega) (by omega), L.out⟩
end Go.Proofs.Ythjdklolbkhbfaa

/- Copies of a Bow: the program's, as delays. -/
namespace Go.Fk
open Go Go.RowKit
/-- A delay that was made: its block came behind z. -/
def CpD (g : Nat) (x : Nat → Nat) (n : Nat) (j l : Int) (z : Nat) (w : World) (v : Value) : Prop := ∃ s, v = .agg #[s, .int .i64 j, .int .i64 l] ∧ Cp g x n j z w (.agg #[s, .int .i64 j])
theorem CpD.mk {g : Nat} {x : Nat → Nat} {n : Nat} {j l : Int} {w w' : World} {s : Value} (h : OwnS w' w.heap.size w'.heap.size s x n) (hn : 1 ≤ n) (hg : g < w.heap.size) : CpD g x n j l w.heap.size w' (.agg #[s, .int .i64 j, .int .i64 l]) := ⟨s, rfl, Cp.mk h hn hg⟩
theorem CpD.le {g : Nat} {x : Nat → Nat} {n : Nat} {j l : Int} {z : Nat} {w w' : World} {v : Value} (h : CpD g x n j l z w v) (hl : Fk.le w w') : CpD g x n j l z w' v := by
  obtain ⟨s, h1, h2⟩ := h
  exact ⟨s, h1, h2.le hl⟩
theorem CpD.get {g : Nat} {x : Nat → Nat} {n : Nat} {j l : Int} {z : Nat} {w : World} {s : Value} (h : CpD g x n j l z w (.agg #[s, .int .i64 j, .int .i64 l])) : Cp g x n j z w (.agg #[s, .int .i64 j]) := by
  obtain ⟨s', h1, h2⟩ := h
  obtain rfl : s = s' := by simpa using h1
  exact h2
theorem cpd_loud {w : World} {B B' : Nat} {s : Value} {x x' : Nat → Nat} {n n' : Nat} (h : RdS w B s x n) (h' : RdS w B' s x' n') : loudN x' n' = loudN x n := by
  obtain ⟨rfl, e⟩ := h.uniq h'
  exact (loudN_congr e).symm
end Go.Fk
namespace Go.Proofs.Ythjdklolbkhbfaa
open Go.RowKit Go.Fk
theorem own_neq {w : World} {b r n : Nat} {s : Value} {x : Nat → Nat} {t : TypeId} {cs : Array Value} (h : OwnS w b (b + 1) s x n) (hn : 1 ≤ n) (ht : t ≠ 25) (hr : Row w r t cs) : b ≠ r := by
  intro e
  rcases h with ⟨_, h⟩ | ⟨b1, o, cap, ds, _, _, _, h4, h5, hrow, _⟩
  · omega
  · obtain rfl : b1 = b := by omega
    subst e
    unfold Row at hrow hr
    rw [hrow] at hr
    simp at hr
    exact ht hr.2.symm
set_option maxRecDepth 100000 in
set_option maxHeartbeats 4000000 in
theorem i_newDrawn (x y : Nat → Nat) (nx ny : Nat) (j k : Int) (fk : Int) (a b c p q : Nat) (m o : Nat) (B : Nat) (s t : Value) (w : World) (hs : RdS w B s x nx) (ht : RdS w B t y ny) (hx : 1 ≤ nx ∧ nx ≤ 1024) (hy : 1 ≤ ny ∧ ny ≤ 1024) (hk0 : 1 ≤ fk ∧ fk ≤ 5) :
    Calls Try.prog 30 #[.agg #[s, .int .i64 j, t, .int .i64 k, .int .i64 fk, .float .f32 a, .float .f32 b, .float .f32 c, .float .f32 p, .float .f32 q, .float .f32 m, .float .f32 o]] w fun e w' => ∃ g r s1 t1 b0 d0, e = .returned (.pointer (some ⟨g, 0, none⟩)) ∧ Row w' g 90 #[s, .int .i64 j, t, .int .i64 k, .int .i64 fk, .float .f32 a, .float .f32 b, .float .f32 c, .float .f32 p, .float .f32 q, .float .f32 m, .float .f32 o, s1, .int .i64 j, .int .i64 (loudN x nx : Nat), t1, .int .i64 k, .int .i64 (loudN y ny : Nat), .pointer (some ⟨r, 0, none⟩)] ∧ Row w' r 103 #[mdl fk a b c, .float .f32 p, .float .f32 q] ∧ OwnS w' b0 (b0 + 1) s1 x nx ∧ OwnS w' d0 (d0 + 1) t1 y ny ∧ b0 ≠ d0 ∧ w.heap.size ≤ b0 ∧ w.heap.size ≤ d0 ∧ (b0 ≠ r ∧ d0 ≠ r ∧ w.heap.size ≤ r) ∧ (b0 < g ∧ d0 < g ∧ r < g) ∧ g < w'.heap.size ∧ le w w' := by
  have F := (Frg.nil w).box 38 #[s, .int .i64 j, t, .int .i64 k, .int .i64 fk, .float .f32 a, .float .f32 b, .float .f32 c, .float .f32 p, .float .f32 q, .float .f32 m, .float .f32 o]
  have HS := hid hs; have HT := hid ht; clear hs ht
  go_enter Try.func30, Try.ntmps30
  go_wp2_with fail
  obtain ⟨W, hW⟩ : ∃ W, W = w.alloc (.cells #[s, .int .i64 j, t, .int .i64 k, .int .i64 fk, .float .f32 a, .float .f32 b, .float .f32 c, .float .f32 p, .float .f32 q, .float .f32 m, .float .f32 o] 38) := ⟨_, rfl⟩
  rw [← hW] at F ⊢
  have hz : W.heap.size = w.heap.size + 1 := by rw [hW]; simp
  clear hW
  have HZ := hid hz; clear hz
  have G := F.drewN 1
  refine region_tailZ (E := leX) (fun _ args z w1 v => (args = #[.agg #[s, .int .i64 j]] → CpD w.heap.size x nx j (loudN x nx : Nat) z w1 v) ∧ (args = #[.agg #[t, .int .i64 k]] → CpD w.heap.size y ny k (loudN y ny : Nat) z w1 v) ∧ (args = #[(.agg #[.int .i64 fk, .float .f32 a, .float .f32 b, .float .f32 c, .float .f32 p, .float .f32 q])] → ∃ r, v = .pointer (some ⟨r, 0, none⟩) ∧ w.heap.size ≤ r ∧ Row w1 r 103 #[mdl fk a b c, .float .f32 p, .float .f32 q])) 11 (by kernel_rfl) (by kernel_rfl) ?_
  simp only [List.take_succ_cons, List.take_zero, List.drop_succ_cons, List.drop_zero]
  refine wpFreeZ_loadW rfl rfl rfl [s, .int .i64 j, t, .int .i64 k, .int .i64 fk, .float .f32 a, .float .f32 b, .float .f32 c, .float .f32 p, .float .f32 q, .float .f32 m, .float .f32 o] (fun w1 h1 => Row.at_all ((G.row m0).le h1)) Try.underlying38 rfl uinfoBowI rfl ?_
  simp only [Act.put, List.setIfInBounds_toArray, List.set_cons_succ, List.set_cons_zero]
  refine wpFreeZ_one rfl (.pointer (some ⟨w.heap.size, 0, none⟩)) (fun w1 _ => by kernel_rfl) ?_
  simp only [Act.put, List.setIfInBounds_toArray, List.set_cons_succ, List.set_cons_zero]
  refine wpFreeZ_loadW rfl rfl rfl [s, .int .i64 j] (fun w1 h1 => Row.at_part ((G.row m0).le h1) (partBow_Neck (s) (.int .i64 j) (t) (.int .i64 k) (.int .i64 fk) (.float .f32 a) (.float .f32 b) (.float .f32 c) (.float .f32 p) (.float .f32 q) (.float .f32 m) (.float .f32 o))) Try.underlying35 rfl uinfoRingI rfl ?_
  simp only [Act.put, List.setIfInBounds_toArray, List.set_cons_succ, List.set_cons_zero]
  refine wpFreeZ_callW (by kernel_rfl) rfl Try.func51 (by kernel_rfl) (by kernel_rfl) (args := #[.agg #[s, .int .i64 j]]) (by simp [Act.eval]) (fun z v w1 w2 hw hv => ⟨fun e => (hv.1 e).le hw, fun e => (hv.2.1 e).le hw, fun e => (hv.2.2 e).imp fun r ⟨e1, e2, e3⟩ => ⟨e1, e2, e3.le hw⟩⟩) (fun w1 hw1 hbe => ?_) ?_
  · have hg : w.heap.size < w1.heap.size := by have h0 := hw1.size; have e0 : (W.drewN 1).heap.size = W.heap.size := rfl; have := HZ.out; omega
    refine (i_newDelay B s x nx _ w1 ((HS.out.le G.below).le hw1) hx.1 hx.2).mono ?_
    rintro e w2 ⟨s1, rfl, ho, hl⟩
    refine ⟨_, rfl, hl, fun e => ?_, fun e => ?_, fun e => ?_⟩
    · exact CpD.mk ho hx.1 hg
    · simp only [Array.mk.injEq, List.cons.injEq, Value.agg.injEq, Value.int.injEq, and_true, true_and] at e
      obtain ⟨e1, e2⟩ := e
      rw [e2, cpd_loud HS.out (e1 ▸ HT.out)]; exact CpD.mk (own_same HS.out (e1 ▸ HT.out) ho) hy.1 hg
    · simp at e
  rintro v0 ⟨z, wv, _, hv⟩
  obtain ⟨s1, rfl, ho⟩ := hv.1 rfl
  clear hv ho
  simp only [Act.put, List.setIfInBounds_toArray, List.set_cons_succ, List.set_cons_zero]
  refine wpFreeZ_one rfl (.pointer (some ⟨w.heap.size, 2, none⟩)) (fun w1 _ => by kernel_rfl) ?_
  simp only [Act.put, List.setIfInBounds_toArray, List.set_cons_succ, List.set_cons_zero]
  refine wpFreeZ_loadW rfl rfl rfl [t, .int .i64 k] (fun w1 h1 => Row.at_part ((G.row m0).le h1) (partBow_Bridge (s) (.int .i64 j) (t) (.int .i64 k) (.int .i64 fk) (.float .f32 a) (.float .f32 b) (.float .f32 c) (.float .f32 p) (.float .f32 q) (.float .f32 m) (.float .f32 o))) Try.underlying35 rfl uinfoRingI rfl ?_
  simp only [Act.put, List.setIfInBounds_toArray, List.set_cons_succ, List.set_cons_zero]
  refine wpFreeZ_callW (by kernel_rfl) rfl Try.func51 (by kernel_rfl) (by kernel_rfl) (args := #[.agg #[t, .int .i64 k]]) (by simp [Act.eval]) (fun z v w1 w2 hw hv => ⟨fun e => (hv.1 e).le hw, fun e => (hv.2.1 e).le hw, fun e => (hv.2.2 e).imp fun r ⟨e1, e2, e3⟩ => ⟨e1, e2, e3.le hw⟩⟩) (fun w1 hw1 hbe => ?_) ?_
  · have hg : w.heap.size < w1.heap.size := by have h0 := hw1.size; have e0 : (W.drewN 1).heap.size = W.heap.size := rfl; have := HZ.out; omega
    refine (i_newDelay B t y ny _ w1 ((HT.out.le G.below).le hw1) hy.1 hy.2).mono ?_
    rintro e w2 ⟨s1, rfl, ho, hl⟩
    refine ⟨_, rfl, hl, fun e => ?_, fun e => ?_, fun e => ?_⟩
    · simp only [Array.mk.injEq, List.cons.injEq, Value.agg.injEq, Value.int.injEq, and_true, true_and] at e
      obtain ⟨e1, e2⟩ := e
      rw [e2, cpd_loud HT.out (e1 ▸ HS.out)]; exact CpD.mk (own_same HT.out (e1 ▸ HS.out) ho) hx.1 hg
    · exact CpD.mk ho hy.1 hg
    · simp at e
  rintro v1 ⟨z, wv, _, hv⟩
  obtain ⟨t1, rfl, ho⟩ := hv.2.1 rfl
  clear hv ho
  simp only [Act.put, List.setIfInBounds_toArray, List.set_cons_succ, List.set_cons_zero]
  refine wpFreeZ_one rfl (.pointer (some ⟨w.heap.size, 4, none⟩)) (fun w1 _ => by kernel_rfl) ?_
  simp only [Act.put, List.setIfInBounds_toArray, List.set_cons_succ, List.set_cons_zero]
  refine wpFreeZ_loadW rfl rfl rfl [.int .i64 fk, .float .f32 a, .float .f32 b, .float .f32 c, .float .f32 p, .float .f32 q] (fun w1 h1 => Row.at_part ((G.row m0).le h1) (partBow_Damp (s) (.int .i64 j) (t) (.int .i64 k) (.int .i64 fk) (.float .f32 a) (.float .f32 b) (.float .f32 c) (.float .f32 p) (.float .f32 q) (.float .f32 m) (.float .f32 o))) Try.underlying36 rfl uinfoFilterI rfl ?_
  simp only [Act.put, List.setIfInBounds_toArray, List.set_cons_succ, List.set_cons_zero]
  refine wpFreeZ_callW (by kernel_rfl) rfl Try.func52 (by kernel_rfl) (by kernel_rfl) (args := #[(.agg #[.int .i64 fk, .float .f32 a, .float .f32 b, .float .f32 c, .float .f32 p, .float .f32 q])]) (by simp [Act.eval]) (fun z v w1 w2 hw hv => ⟨fun e => (hv.1 e).le hw, fun e => (hv.2.1 e).le hw, fun e => (hv.2.2 e).imp fun r ⟨e1, e2, e3⟩ => ⟨e1, e2, e3.le hw⟩⟩) (fun w1 hw1 hbe => ?_) ?_
  · have hg : w.heap.size < w1.heap.size := by have h0 := hw1.size; have e0 : (W.drewN 1).heap.size = W.heap.size := rfl; have := HZ.out; omega
    refine (i_newRunner fk a b c p q w1 hk0).mono ?_
    rintro e w2 ⟨r, rfl, hr, hR, hl⟩
    exact ⟨_, rfl, hl, fun e => by simp at e, fun e => by simp at e, fun _ => ⟨r, rfl, by omega, hR⟩⟩
  rintro v2 ⟨z, wv, _, hv⟩
  obtain ⟨r, rfl, _⟩ := hv.2.2 rfl
  clear hv
  simp only [Act.put, List.setIfInBounds_toArray, List.set_cons_succ, List.set_cons_zero]
  refine wpFreeZ_one rfl (.agg #[s, .int .i64 j, t, .int .i64 k, .int .i64 fk, .float .f32 a, .float .f32 b, .float .f32 c, .float .f32 p, .float .f32 q, .float .f32 m, .float .f32 o, s1, .int .i64 j, .int .i64 (loudN x nx : Nat), t1, .int .i64 k, .int .i64 (loudN y ny : Nat), .pointer (some ⟨r, 0, none⟩)]) (fun w1 _ => by kernel_rfl) ?_
  simp only [Act.put, List.setIfInBounds_toArray, List.set_cons_succ, List.set_cons_zero]
  refine wpFreeZ_nil (fun w3 zs hw3 hF hc => ?_)
  obtain ⟨b0, d0, O1, O2, hne, l1, l2, l3, l4⟩ := Cp.two hx.1 hy.1 (F := _) (((hF 3).1.1.1.1.1.1.1.2 rfl).1 trivial).get (((hF 6).1.1.1.1.2 rfl).2.1 trivial).get (hc 3 6 (by decide)) (fun w2 h => ((h.1.1.1.1.1.1.1.2 rfl).1 trivial).get) (fun w2 h => ((h.1.1.1.1.2 rfl).2.1 trivial).get)
  obtain ⟨r', er, hr0, hR0⟩ := ((hF 9).1.2 rfl).2.2 trivial
  obtain rfl : r = r' := by simpa using er
  clear hF hc er
  have n1 := own_neq O1 hx.1 (by decide) hR0
  have n2 := own_neq O2 hy.1 (by decide) hR0
  have lr := hR0.lt
  have B3 := hid (le_trans G.below hw3)
  have Q1 := hid O1; have Q2 := hid O2; have Q3 := hid hR0
  clear hw3 G F O1 O2 hR0
  go_wp2
  go_ret
  exact ⟨w3.heap.size, r, s1, t1, b0, d0, rfl, Row.new _ _ _, Q3.out.le (le_alloc _ _), Q1.out.le (le_alloc _ _), Q2.out.le (le_alloc _ _), hne, by omega, by omega, ⟨n1, n2, hr0⟩, ⟨by omega, by omega, by omega⟩, by simp, le_trans B3.out (le_alloc _ _)⟩
end Go.Proofs.Ythjdklolbkhbfaa

/- A drawn region that writes the first two cells of a row, and the next two. -/
namespace Go.Fk
open Go Go.RowKit
def mk4 (c0 c1 c2 c3 : Value) (tl : List Value) : Array Value := (c0 :: c1 :: c2 :: c3 :: tl).toArray
theorem mk4_inj {c0 c1 c2 c3 d0 d1 d2 d3 : Value} {tl : List Value} (h : mk4 c0 c1 c2 c3 tl = mk4 d0 d1 d2 d3 tl) : c0 = d0 ∧ c1 = d1 ∧ c2 = d2 ∧ c3 = d3 := by
  unfold mk4 at h
  simp only [List.toArray_inj, Array.mk.injEq, List.cons.injEq, and_true] at h
  exact h
theorem Row.uniq4 {w : World} {g : Nat} {t : TypeId} {cs ds : Array Value} (h : Row w g t cs) (h' : Row w g t ds) : cs = ds := by
  unfold Row at h h'
  rw [h] at h'
  simp at h'
  exact h'
/-- Only block g is written; of its row the first two cells are as they were, or s0 and s1, the next two as they were, or u0 and u1. -/
def prX (g : Nat) (t : TypeId) (tl : List Value) (s0 s1 u0 u1 : Value) : Ext where
  R w w' := Chg (· = g) w w' ∧ ∀ c0 c1 c2 c3, Row w g t (mk4 c0 c1 c2 c3 tl) → ∃ d0 d1 d2 d3, Row w' g t (mk4 d0 d1 d2 d3 tl) ∧ ((d0 = c0 ∧ d1 = c1) ∨ (d0 = s0 ∧ d1 = s1)) ∧ ((d2 = c2 ∧ d3 = c3) ∨ (d2 = u0 ∧ d3 = u1))
  refl w := ⟨Chg.refl _ _, fun c0 c1 c2 c3 h => ⟨c0, c1, c2, c3, h, .inl ⟨rfl, rfl⟩, .inl ⟨rfl, rfl⟩⟩⟩
  trans := by
    rintro a b c ⟨h1, h2⟩ ⟨k1, k2⟩
    refine ⟨h1.trans k1, fun c0 c1 c2 c3 h => ?_⟩
    obtain ⟨d0, d1, d2, d3, hr, e1, e2⟩ := h2 _ _ _ _ h
    obtain ⟨f0, f1, f2, f3, hr', g1, g2⟩ := k2 _ _ _ _ hr
    refine ⟨f0, f1, f2, f3, hr', ?_, ?_⟩
    · rcases g1 with ⟨rfl, rfl⟩ | g1
      · exact e1
      · exact .inr g1
    · rcases g2 with ⟨rfl, rfl⟩ | g2
      · exact e2
      · exact .inr g2
  of_le h := ⟨Chg.of_le h, fun c0 c1 c2 c3 hr => ⟨c0, c1, c2, c3, hr.le h, .inl ⟨rfl, rfl⟩, .inl ⟨rfl, rfl⟩⟩⟩
section
variable {g : Nat} {t : TypeId} {tl : List Value} {s0 s1 u0 u1 : Value} {P : Program} {ops : Array Oper} {W : World} {K : FuncId → Array Value → World → Value → Prop} {Q : Act → World → Prop} {F : Facts} {k : Nat} {o : Oper} {rest : List Oper} {a : Act}
theorem wpFreeD_storeA (hg : o.guard = none) {ty : TypeId} {x y : Operand} (hop : o.op = .store ty x y) (hx : a.eval x = .pointer (some ⟨g, 0, none⟩)) (hy : a.eval y = .agg #[s0, s1]) (hi : (P.info? ty).map (·.size) = some 2) (h1 : (#[s0, s1] : Array Value).all (·.oneCell') = true)
    (hpre : ∃ c0 c1 c2 c3, Row W g t (mk4 c0 c1 c2 c3 tl)) (h : wpFreeD (prX g t tl s0 s1 u0 u1) P ops .any W K Q rest (k + 1) (a.put o.dst undef) (F.with k (fun w => ∃ d2 d3, Row w g t (mk4 s0 s1 d2 d3 tl)))) : wpFreeD (prX g t tl s0 s1 u0 u1) P ops .any W K Q (o :: rest) k a F := by
  refine ⟨fun w v => v = undef ∧ ∃ d2 d3, Row w g t (mk4 s0 s1 d2 d3 tl), ⟨fun v w w' hw hv => ⟨hv.1, ?_⟩, .inl ⟨by simp [Region.wanted, hg], fun w hw hbe => ?_⟩⟩, fun v hv => ?_⟩
  · obtain ⟨d2, d3, hr⟩ := hv.2
    obtain ⟨e0, e1, e2, e3, hr', h01, _⟩ := hw.2 _ _ _ _ hr
    rcases h01 with ⟨rfl, rfl⟩ | ⟨rfl, rfl⟩ <;> exact ⟨e2, e3, hr'⟩
  · obtain ⟨c0, c1, c2, c3, hp⟩ := hpre
    obtain ⟨d0, d1, d2, d3, hr, _, _⟩ := hw.2 _ _ _ _ hp
    have hth : w.there g 0 (#[s0, s1] : Array Value).size := fun j hj => ⟨by
      have hj2 : j < 2 := hj
      rw [hr.cell?]
      match j, hj2 with
      | 0, _ => rfl
      | 1, _ => rfl, hr.frozen _⟩
    have hrun := run_storeAt_mid (P := P) w g 0 ty #[s0, s1] hth (by simpa using hi) h1
    have : (execOp a.eval o).run P w = .ok .skip (w.setCells g 0 [s0, s1]) := by
      unfold execOp
      simp only [hop, hx, hy, Sem.run_bind, Sem.run_pure, Result.andThen_ok, hrun]
    rw [this]
    have K := wrote_setCells [s0, s1] 0 (mk4 d0 d1 d2 d3 tl) w hr
    have hrow : Row (w.setCells g 0 [s0, s1]) g t (mk4 s0 s1 d2 d3 tl) := by have := K.row; simpa [patch, mk4] using this
    refine ⟨⟨(Chg.refl _ _).wrote K rfl, fun c0' c1' c2' c3' h' => ?_⟩, rfl, d2, d3, hrow⟩
    obtain ⟨rfl, rfl, rfl, rfl⟩ := mk4_inj (h'.uniq4 hr)
    exact ⟨s0, s1, c2', c3', hrow, .inr ⟨rfl, rfl⟩, .inl ⟨rfl, rfl⟩⟩
  · obtain ⟨w, _, _, rfl, _⟩ := hv
    exact wpFreeD_weaken _ _ _ _ _ (fun e w h => ⟨h.1, fun he => (h.2 he).2⟩) h
theorem wpFreeD_storeB (hg : o.guard = none) {ty : TypeId} {x y : Operand} (hop : o.op = .store ty x y) (hx : a.eval x = .pointer (some ⟨g, 2, none⟩)) (hy : a.eval y = .agg #[u0, u1]) (hi : (P.info? ty).map (·.size) = some 2) (h1 : (#[u0, u1] : Array Value).all (·.oneCell') = true)
    (hpre : ∃ c0 c1 c2 c3, Row W g t (mk4 c0 c1 c2 c3 tl)) (h : wpFreeD (prX g t tl s0 s1 u0 u1) P ops .any W K Q rest (k + 1) (a.put o.dst undef) (F.with k (fun w => ∃ d0 d1, Row w g t (mk4 d0 d1 u0 u1 tl)))) : wpFreeD (prX g t tl s0 s1 u0 u1) P ops .any W K Q (o :: rest) k a F := by
  refine ⟨fun w v => v = undef ∧ ∃ d0 d1, Row w g t (mk4 d0 d1 u0 u1 tl), ⟨fun v w w' hw hv => ⟨hv.1, ?_⟩, .inl ⟨by simp [Region.wanted, hg], fun w hw hbe => ?_⟩⟩, fun v hv => ?_⟩
  · obtain ⟨d2, d3, hr⟩ := hv.2
    obtain ⟨e0, e1, e2, e3, hr', _, h23⟩ := hw.2 _ _ _ _ hr
    rcases h23 with ⟨rfl, rfl⟩ | ⟨rfl, rfl⟩ <;> exact ⟨e0, e1, hr'⟩
  · obtain ⟨c0, c1, c2, c3, hp⟩ := hpre
    obtain ⟨d0, d1, d2, d3, hr, _, _⟩ := hw.2 _ _ _ _ hp
    have hth : w.there g 2 (#[u0, u1] : Array Value).size := fun j hj => ⟨by
      have hj2 : j < 2 := hj
      rw [hr.cell?]
      match j, hj2 with
      | 0, _ => rfl
      | 1, _ => rfl, hr.frozen _⟩
    have hrun := run_storeAt_mid (P := P) w g 2 ty #[u0, u1] hth (by simpa using hi) h1
    have : (execOp a.eval o).run P w = .ok .skip (w.setCells g 2 [u0, u1]) := by
      unfold execOp
      simp only [hop, hx, hy, Sem.run_bind, Sem.run_pure, Result.andThen_ok, hrun]
    rw [this]
    have K := wrote_setCells [u0, u1] 2 (mk4 d0 d1 d2 d3 tl) w hr
    have hrow : Row (w.setCells g 2 [u0, u1]) g t (mk4 d0 d1 u0 u1 tl) := by have := K.row; simpa [patch, mk4] using this
    refine ⟨⟨(Chg.refl _ _).wrote K rfl, fun c0' c1' c2' c3' h' => ?_⟩, rfl, d0, d1, hrow⟩
    obtain ⟨rfl, rfl, rfl, rfl⟩ := mk4_inj (h'.uniq4 hr)
    exact ⟨c0', c1', u0, u1, hrow, .inl ⟨rfl, rfl⟩, .inr ⟨rfl, rfl⟩⟩
  · obtain ⟨w, _, _, rfl, _⟩ := hv
    exact wpFreeD_weaken _ _ _ _ _ (fun e w h => ⟨h.1, fun he => (h.2 he).2⟩) h
end
end Go.Fk

/- Two slices, as a fact of a range of blocks. Nothing here names a program. -/
namespace Go.Fk
open Go Go.RowKit
/-- Two slices, as a fact of a range of blocks. -/
def twF (lo hi : Nat) (x : Nat → Nat) (nx : Nat) (y : Nat → Nat) (ny : Nat) (s t : Value) : Fact := ⟨lo, hi, fun w => ∃ b d, OwnS w b (b + 1) s x nx ∧ OwnS w d (d + 1) t y ny ∧ b ≠ d ∧ lo ≤ b ∧ b < hi ∧ lo ≤ d ∧ d < hi, fun w w' h hk => by
  obtain ⟨b, d, h1, h2, h3, h4, h5, h6, h7⟩ := h
  exact ⟨b, d, (ownF b (b + 1) s x nx).ok w w' h1 (fun k a c => hk k (by have a' : b ≤ k := a; omega) (by have c' : k < b + 1 := c; omega)), (ownF d (d + 1) t y ny).ok w w' h2 (fun k a c => hk k (by have a' : d ≤ k := a; omega) (by have c' : k < d + 1 := c; omega)), h3, h4, h5, h6, h7⟩⟩
theorem Frg.two {w0 w w' : World} {L : List Fact} (h : Frg w0 w L) (k : Below w.heap.size w w') {x : Nat → Nat} {nx : Nat} {y : Nat → Nat} {ny : Nat} {s t : Value} (ht : Two w.heap.size x nx y ny s t w') : Frg w0 w' (twF w.heap.size w'.heap.size x nx y ny s t :: L) :=
  h.push k (e := twF w.heap.size w'.heap.size x nx y ny s t) (by obtain ⟨b, d, h1, h2, h3, h4, h5, h6, h7⟩ := ht; exact ⟨b, d, h1, h2, h3, h4, h5, h6, h7⟩) (Nat.le_refl _) (Nat.le_refl _)
theorem Two.of_own {w : World} {lo lo1 hi1 lo2 hi2 : Nat} {x : Nat → Nat} {nx : Nat} {y : Nat → Nat} {ny : Nat} {s t : Value} (h1 : OwnS w lo1 hi1 s x nx) (h2 : OwnS w lo2 hi2 t y ny) (n1 : 1 ≤ nx) (n2 : 1 ≤ ny) (ha : hi1 ≤ lo2) (hl : lo ≤ lo1) (hl2 : lo ≤ lo2) : Two lo x nx y ny s t w := by
  obtain ⟨b, a1, a2, a3⟩ := h1.tight n1
  obtain ⟨d, c1, c2, c3⟩ := h2.tight n2
  have hb : b < w.heap.size := by
    rcases a3 with ⟨_, h⟩ | ⟨b', o, cap, cs, _, _, _, e1, e2, r, _⟩
    · omega
    · have := r.lt; omega
  have hd : d < w.heap.size := by
    rcases c3 with ⟨_, h⟩ | ⟨b', o, cap, cs, _, _, _, e1, e2, r, _⟩
    · omega
    · have := r.lt; omega
  exact ⟨b, d, a3, c3, by omega, by omega, hb, by omega, hd⟩
theorem rngB_j {x : Nat → Nat} {n : Nat} {k : Int} (h : rngB x n k = true) : 1 ≤ n ∧ n ≤ 1024 ∧ ∃ j : Nat, k = j ∧ j < n := okRing_j (by unfold rngB at h; simp only [Bool.and_eq_true] at h; exact h.1)
theorem own_sameN {w w2 : World} {B B' lo hi : Nat} {s u : Value} {x x' z : Nat → Nat} {n n' : Nat} (h : RdS w B s x n) (h' : RdS w B' s x' n') (o : OwnS w2 lo hi u z n) : OwnS w2 lo hi u z n' := by
  obtain ⟨rfl, _⟩ := h.uniq h'; exact o
theorem midOf (pre mid post : List Value) (f : Nat) (hf : pre.length = f) : ∀ j, j < mid.length → (pre ++ (mid ++ post)).toArray[f + j]? = mid[j]? := by
  intro j hj
  subst hf
  simp only [List.getElem?_toArray]
  rw [List.getElem?_append_right (by omega), Nat.add_sub_cancel_left, List.getElem?_append_left hj]
theorem RdS.fits {w : World} {B : Nat} {s : Value} {x : Nat → Nat} {n k : Nat} (h : RdS w B s x n) (hk : k < n) : Fk.fits .f32 (x k) := by
  rcases h with ⟨_, h0⟩ | ⟨a, cap, _, _, _, h5⟩
  · omega
  · obtain ⟨_, y, _, f, e⟩ := h5 k hk
    rw [← e]; unfold can; split
    · simp [Fk.fits, Lit.wf, qnan]
    · exact f
end Go.Fk

/- 'ValidBow' of both. -/
namespace Go.Fk
open Go Go.RowKit
def okBow (x y : Nat → Nat) (nx ny : Nat) (j k : Int) (fk : Int) (a b c p q : Nat) (m o : Nat) : Bool := (fk == 1) && okF fk a b c p q && rngB x nx j && rngB y ny k && fin m && fin o
end Go.Fk
namespace Go.Proofs.Ythjdklolbkhbfaa
open Go.RowKit Go.Fk
set_option maxRecDepth 100000 in
set_option maxHeartbeats 4000000 in
@[go_sem] theorem taBow (v : Value) (w : World) : (Instr.typeAssert (.iface 38 v) 116 38 true).run Try.prog w = .ok (.tuple #[v, .bool true]) w := by rfl
set_option maxRecDepth 100000 in
set_option maxHeartbeats 4000000 in
theorem i_filtersBow (s t : Value) (j k fk : Int) (a b c p q m o : Nat) (w : World)  : Calls Try.prog 108 #[.agg #[s, .int .i64 j, t, .int .i64 k, .int .i64 fk, .float .f32 a, .float .f32 b, .float .f32 c, .float .f32 p, .float .f32 q, .float .f32 m, .float .f32 o]] w (OutSl 36 1 #[.int .i64 fk, .float .f32 a, .float .f32 b, .float .f32 c, .float .f32 p, .float .f32 q] w) := by
  have F := (Frg.nil w).box 38 #[s, .int .i64 j, t, .int .i64 k, .int .i64 fk, .float .f32 a, .float .f32 b, .float .f32 c, .float .f32 p, .float .f32 q, .float .f32 m, .float .f32 o]
  go_enter Try.func108, Try.ntmps108
  go_wp2_with (first | ((with_reducible refine at_load rfl ?_); first | (with_reducible refine wpList_loadGP F rfl rfl rfl (by first | exact m0 | exact m1 | exact m2) Try.underlying35 rfl [s, .int .i64 j] (partBow_Neck (s) (.int .i64 j) (t) (.int .i64 k) (.int .i64 fk) (.float .f32 a) (.float .f32 b) (.float .f32 c) (.float .f32 p) (.float .f32 q) (.float .f32 m) (.float .f32 o)) uinfoRingI rfl ?_) | (with_reducible refine wpList_loadGP F rfl rfl rfl (by first | exact m0 | exact m1 | exact m2) Try.underlying35 rfl [t, .int .i64 k] (partBow_Bridge (s) (.int .i64 j) (t) (.int .i64 k) (.int .i64 fk) (.float .f32 a) (.float .f32 b) (.float .f32 c) (.float .f32 p) (.float .f32 q) (.float .f32 m) (.float .f32 o)) uinfoRingI rfl ?_) | (with_reducible refine wpList_loadGP F rfl rfl rfl (by first | exact m0 | exact m1 | exact m2) Try.underlying36 rfl [.int .i64 fk, .float .f32 a, .float .f32 b, .float .f32 c, .float .f32 p, .float .f32 q] (partBow_Damp (s) (.int .i64 j) (t) (.int .i64 k) (.int .i64 fk) (.float .f32 a) (.float .f32 b) (.float .f32 c) (.float .f32 p) (.float .f32 q) (.float .f32 m) (.float .f32 o)) uinfoFilterI rfl ?_) | (with_reducible refine wpList_load1 F rfl rfl rfl (by first | exact m0 | exact m1 | exact m2) (f := 10) (v := .float .f32 m) rfl ukindFloat32 ?_) | (with_reducible refine wpList_load1 F rfl rfl rfl (by first | exact m0 | exact m1 | exact m2) (f := 11) (v := .float .f32 o) rfl ukindFloat32 ?_)))
  go_ret
  exact ⟨w.heap.size + 1, rfl, by omega, Row.new' _ _ _ (by simp), le_trans (le_alloc _ _) (le_alloc _ _)⟩
set_option maxRecDepth 100000 in
set_option maxHeartbeats 4000000 in
theorem i_ringsBow (s t : Value) (j k fk : Int) (a b c p q m o : Nat) (w : World)  : Calls Try.prog 110 #[.agg #[s, .int .i64 j, t, .int .i64 k, .int .i64 fk, .float .f32 a, .float .f32 b, .float .f32 c, .float .f32 p, .float .f32 q, .float .f32 m, .float .f32 o]] w (OutSl 35 2 #[s, .int .i64 j, t, .int .i64 k] w) := by
  have F := (Frg.nil w).box 38 #[s, .int .i64 j, t, .int .i64 k, .int .i64 fk, .float .f32 a, .float .f32 b, .float .f32 c, .float .f32 p, .float .f32 q, .float .f32 m, .float .f32 o]
  go_enter Try.func110, Try.ntmps110
  go_wp2_with (first | ((with_reducible refine at_load rfl ?_); first | (with_reducible refine wpList_loadGP F rfl rfl rfl (by first | exact m0 | exact m1 | exact m2) Try.underlying35 rfl [s, .int .i64 j] (partBow_Neck (s) (.int .i64 j) (t) (.int .i64 k) (.int .i64 fk) (.float .f32 a) (.float .f32 b) (.float .f32 c) (.float .f32 p) (.float .f32 q) (.float .f32 m) (.float .f32 o)) uinfoRingI rfl ?_) | (with_reducible refine wpList_loadGP F rfl rfl rfl (by first | exact m0 | exact m1 | exact m2) Try.underlying35 rfl [t, .int .i64 k] (partBow_Bridge (s) (.int .i64 j) (t) (.int .i64 k) (.int .i64 fk) (.float .f32 a) (.float .f32 b) (.float .f32 c) (.float .f32 p) (.float .f32 q) (.float .f32 m) (.float .f32 o)) uinfoRingI rfl ?_) | (with_reducible refine wpList_loadGP F rfl rfl rfl (by first | exact m0 | exact m1 | exact m2) Try.underlying36 rfl [.int .i64 fk, .float .f32 a, .float .f32 b, .float .f32 c, .float .f32 p, .float .f32 q] (partBow_Damp (s) (.int .i64 j) (t) (.int .i64 k) (.int .i64 fk) (.float .f32 a) (.float .f32 b) (.float .f32 c) (.float .f32 p) (.float .f32 q) (.float .f32 m) (.float .f32 o)) uinfoFilterI rfl ?_) | (with_reducible refine wpList_load1 F rfl rfl rfl (by first | exact m0 | exact m1 | exact m2) (f := 10) (v := .float .f32 m) rfl ukindFloat32 ?_) | (with_reducible refine wpList_load1 F rfl rfl rfl (by first | exact m0 | exact m1 | exact m2) (f := 11) (v := .float .f32 o) rfl ukindFloat32 ?_)))
  go_ret
  exact ⟨w.heap.size + 1, rfl, by omega, Row.new' _ _ _ (by simp), le_trans (le_alloc _ _) (le_alloc _ _)⟩
set_option maxRecDepth 100000 in
set_option maxHeartbeats 4000000 in
theorem i_numbersBow (s t : Value) (j k fk : Int) (a b c p q m o : Nat) (w : World)  : Calls Try.prog 109 #[.agg #[s, .int .i64 j, t, .int .i64 k, .int .i64 fk, .float .f32 a, .float .f32 b, .float .f32 c, .float .f32 p, .float .f32 q, .float .f32 m, .float .f32 o]] w (OutSl 25 2 #[.float .f32 m, .float .f32 o] w) := by
  have F := (Frg.nil w).box 38 #[s, .int .i64 j, t, .int .i64 k, .int .i64 fk, .float .f32 a, .float .f32 b, .float .f32 c, .float .f32 p, .float .f32 q, .float .f32 m, .float .f32 o]
  go_enter Try.func109, Try.ntmps109
  go_wp2_with (first | ((with_reducible refine at_load rfl ?_); first | (with_reducible refine wpList_loadGP F rfl rfl rfl (by first | exact m0 | exact m1 | exact m2) Try.underlying35 rfl [s, .int .i64 j] (partBow_Neck (s) (.int .i64 j) (t) (.int .i64 k) (.int .i64 fk) (.float .f32 a) (.float .f32 b) (.float .f32 c) (.float .f32 p) (.float .f32 q) (.float .f32 m) (.float .f32 o)) uinfoRingI rfl ?_) | (with_reducible refine wpList_loadGP F rfl rfl rfl (by first | exact m0 | exact m1 | exact m2) Try.underlying35 rfl [t, .int .i64 k] (partBow_Bridge (s) (.int .i64 j) (t) (.int .i64 k) (.int .i64 fk) (.float .f32 a) (.float .f32 b) (.float .f32 c) (.float .f32 p) (.float .f32 q) (.float .f32 m) (.float .f32 o)) uinfoRingI rfl ?_) | (with_reducible refine wpList_loadGP F rfl rfl rfl (by first | exact m0 | exact m1 | exact m2) Try.underlying36 rfl [.int .i64 fk, .float .f32 a, .float .f32 b, .float .f32 c, .float .f32 p, .float .f32 q] (partBow_Damp (s) (.int .i64 j) (t) (.int .i64 k) (.int .i64 fk) (.float .f32 a) (.float .f32 b) (.float .f32 c) (.float .f32 p) (.float .f32 q) (.float .f32 m) (.float .f32 o)) uinfoFilterI rfl ?_) | (with_reducible refine wpList_load1 F rfl rfl rfl (by first | exact m0 | exact m1 | exact m2) (f := 10) (v := .float .f32 m) rfl ukindFloat32 ?_) | (with_reducible refine wpList_load1 F rfl rfl rfl (by first | exact m0 | exact m1 | exact m2) (f := 11) (v := .float .f32 o) rfl ukindFloat32 ?_)))
  go_ret
  exact ⟨w.heap.size + 1, rfl, by omega, Row.new' _ _ _ (by simp), le_trans (le_alloc _ _) (le_alloc _ _)⟩
def wordVBow : ByteArray := ⟨#[98, 111, 119]⟩
set_option maxRecDepth 100000 in
set_option maxHeartbeats 4000000 in
theorem i_wordBow (v : Value) (w : World) : Calls Try.prog 70 #[.iface 38 v] w fun e w' => ∃ g, e = .returned (.tuple #[.string wordVBow, .slice (some ⟨g, 0, none⟩) 1 1]) ∧ w.heap.size ≤ g ∧ Row w' g 2 #[.int .i64 1] ∧ le w w' := by
  go_enter Try.func70, Try.ntmps70
  go_wp2
  go_ret2
  exact ⟨w.heap.size, rfl, Nat.le_refl _, Row.new _ _ _, le_alloc _ _⟩
theorem rngAt0 (s t : Value) (j k : Int) : ∀ q, q < [s, .int .i64 j].length → (#[s, .int .i64 j, t, .int .i64 k] : Array Value)[0 + q]? = [s, .int .i64 j][q]? := fun q hq => by match q, hq with | 0, _ => rfl | 1, _ => rfl
theorem rngAt1 (s t : Value) (j k : Int) : ∀ q, q < [t, .int .i64 k].length → (#[s, .int .i64 j, t, .int .i64 k] : Array Value)[2 + q]? = [t, .int .i64 k][q]? := fun q hq => by match q, hq with | 0, _ => rfl | 1, _ => rfl
theorem filAtBow0 (fk : Int) (a b c p q : Nat) : ∀ j, j < ([.int .i64 fk, .float .f32 a, .float .f32 b, .float .f32 c, .float .f32 p, .float .f32 q] : List Value).length → (#[.int .i64 fk, .float .f32 a, .float .f32 b, .float .f32 c, .float .f32 p, .float .f32 q] : Array Value)[0 + j]? = ([.int .i64 fk, .float .f32 a, .float .f32 b, .float .f32 c, .float .f32 p, .float .f32 q] : List Value)[j]? := fun j hj => by match j, hj with | 0, _ => rfl | 1, _ => rfl | 2, _ => rfl | 3, _ => rfl | 4, _ => rfl | 5, _ => rfl
set_option maxRecDepth 100000 in
set_option maxHeartbeats 4000000 in
theorem i_validPartsBow (x y : Nat → Nat) (nx ny : Nat) (j k : Int) (fk : Int) (a b c p q : Nat) (m o : Nat) (B : Nat) (s t : Value) (w : World) (hs : (slT x nx).RdN w B s) (ht : (slT y ny).RdN w B t) (wf : (Lit.int .i64 j).wf = true ∧ (Lit.int .i64 k).wf = true) (hf : (fits .f32 a ∧ fits .f32 b ∧ fits .f32 c ∧ fits .f32 p ∧ fits .f32 q ∧ fits .f32 m ∧ fits .f32 o)) :
    Calls Try.prog 50 #[.iface 38 (.agg #[s, .int .i64 j, t, .int .i64 k, .int .i64 fk, .float .f32 a, .float .f32 b, .float .f32 c, .float .f32 p, .float .f32 q, .float .f32 m, .float .f32 o])] w (Out_b (okBow x y nx ny j k fk a b c p q m o) w) := by
  obtain ⟨fa, fb, fc, fp, fq, fm, fo⟩ := hf
  obtain ⟨wj, wk⟩ := wf
  have HV0 := hid (fun w' => i_ValidFilter fk a b c p q w' ⟨fa, fb, fc, fp, fq⟩)
  have HX := hid (fun (w' : World) (hl : le w w') => i_isFiniteRing B s x nx j w' ((slT_rds hs).le hl))
  have HY := hid (fun (w' : World) (hl : le w w') => i_isFiniteRing B t y ny k w' ((slT_rds ht).le hl))
  have HN := hid (fun (b : Nat) (w' : World) (R : Row w' b 25 #[.float .f32 m, .float .f32 o]) => i_areFiniteQ (b + 1) (.slice (some ⟨b, 0, none⟩) 2 2) (two m o) 2 w' (two_rd fm fo R))
  have HW := hid (fun (w' : World) => i_wordBow (.agg #[s, .int .i64 j, t, .int .i64 k, .int .i64 fk, .float .f32 a, .float .f32 b, .float .f32 c, .float .f32 p, .float .f32 q, .float .f32 m, .float .f32 o]) w')
  have HF := hid (fun (w' : World) => i_filtersBow s t j k fk a b c p q m o w')
  have HR := hid (fun (w' : World) => i_ringsBow s t j k fk a b c p q m o w')
  have HM := hid (fun (w' : World) => i_numbersBow s t j k fk a b c p q m o w')
  have SO0 := hid (slT_rds hs).one; have SO1 := hid (slT_rds ht).one
  clear hs ht wj wk fa fb fc fp fq fm fo
  change Calls _ _ _ _ (Out_b ((fk == 1) && okF fk a b c p q && rngB x nx j && rngB y ny k && fin m && fin o) w)
  rw [show ((fk == 1) && okF fk a b c p q && rngB x nx j && rngB y ny k && fin m && fin o) = ((fk == 1) && okF fk a b c p q && rngB x nx j && rngB y ny k && finB (two m o) 2) by rw [fin_two, ← Bool.and_assoc]]
  go_enter Try.func50, Try.ntmps50
  have F := Frg.nil w
  go_wp2_with (first | (go_at_call 70; ((with_reducible refine (HW.out _).mono ?_); rintro e w1 ⟨gK, rfl, hgK, hrK, hlK⟩; replace F := F.rowS hlK hgK hrK; clear hgK hrK hlK)) | (go_at_call 108; ((with_reducible refine (HF.out _).mono ?_); rintro e w2 ⟨gF, rfl, hgF, hrF, hlF⟩; replace F := F.rowS hlF hgF hrF; clear hgF hrF hlF)))
  go_loopw [17] (fun i wr => ∃ n : Nat, n ≤ 1 ∧ i = .int .i64 n ∧ Hid ((0 < n → (fk == 1) = true ∧ okF fk a b c p q = true)) ∧ Hid (Frg w wr [rowF gF 36 #[.int .i64 fk, .float .f32 a, .float .f32 b, .float .f32 c, .float .f32 p, .float .f32 q], rowF gK 2 #[.int .i64 1]])) (fun i _ => 1 - (intOf i).toNat)
  case atStart => exact ⟨0, by omega, rfl, fun h => absurd h (by omega), F⟩
  case round =>
    clear F
    obtain ⟨n, hn, rfl, HP, HF0⟩ := hrel
    rename_i wr _
    match n, hn with
    | 0, _ =>
      have F := HF0.out
      go_wp2_with (first | ((with_reducible refine listN F ?_); clear F; intro wN F) | (with_reducible refine wpList_indexW0 (i := 0) rfl rfl rfl rfl Try.underlying120 uinfoFilterI (by decide) ?_) | ((with_reducible refine at_load rfl ?_); (with_reducible refine wpList_loadGP F rfl rfl rfl (by first | exact m0 | exact m1 | exact m2 | exact m3 | exact m4 | exact m5 | exact m6 | exact m7) Try.underlying36 rfl [.int .i64 fk, .float .f32 a, .float .f32 b, .float .f32 c, .float .f32 p, .float .f32 q] (filAtBow0 fk a b c p q) uinfoFilterI rfl ?_)))
      replace F := F.box 36 #[.int .i64 fk, .float .f32 a, .float .f32 b, .float .f32 c, .float .f32 p, .float .f32 q]
      cases hc : (fk == 1)
      · have hne := hid (show (fk != 1) = true by rw [bne, hc]; rfl)
        have hp0 := HP.out
        have E := hid (show ((fk == 1) && okF fk a b c p q && rngB x nx j && rngB y ny k && finB (two m o) 2) = false by simp [hc])
        clear hc hp0
        refine region_freeD (E := leX) (fun _ _ _ v => v = .bool false) (by kernel_rfl) (by kernel_rfl) ?_
        refine wpFreeD_one rfl (.pointer (some ⟨wr.heap.size, 0, none⟩)) (fun w1 _ => by kernel_rfl) ?_
        simp only [Act.put, List.setIfInBounds_toArray, List.set_cons_succ, List.set_cons_zero]
        refine wpFreeD_load1 rfl rfl rfl (p := ⟨wr.heap.size, 0, none⟩) (fun w1 h1 => (((F.drewN 1).le h1).row m0).cell? 0) ukindInt64 ?_
        simp only [Act.put, List.setIfInBounds_toArray, List.set_cons_succ, List.set_cons_zero]
        refine wpFreeD_one rfl (.slice (some ⟨gK, 0, none⟩) 1 1) (fun w1 _ => by kernel_rfl) ?_
        simp only [Act.put, List.setIfInBounds_toArray, List.set_cons_succ, List.set_cons_zero]
        refine wpFreeD_one rfl (.int .i64 0) (fun w1 _ => by kernel_rfl) ?_
        simp only [Act.put, List.setIfInBounds_toArray, List.set_cons_succ, List.set_cons_zero]
        refine wpFreeD_indexW0 rfl rfl (i := 0) rfl rfl Try.underlying117 uinfo1Int64 (by decide) ?_
        simp only [Act.put, List.setIfInBounds_toArray, List.set_cons_succ, List.set_cons_zero]
        refine wpFreeD_load1 rfl rfl rfl (p := ⟨gK, 0 + 0 * 1, none⟩) (fun w1 h1 => (((F.drewN 1).le h1).row m2).cell? 0) ukindInt64 ?_
        simp only [Act.put, List.setIfInBounds_toArray, List.set_cons_succ, List.set_cons_zero]
        refine wpFreeD_one rfl (.bool (fk != 1)) (fun w1 _ => by kernel_rfl) ?_
        simp only [Act.put, List.setIfInBounds_toArray, List.set_cons_succ, List.set_cons_zero]
        rw [hne.out]
        refine wpFreeD_one rfl (.bool true) (fun w1 _ => by kernel_rfl) ?_
        simp only [Act.put, List.setIfInBounds_toArray, List.set_cons_succ, List.set_cons_zero]
        refine wpFreeD_skip (by kernel_rfl) ?_
        simp only [Act.put, List.setIfInBounds_toArray, List.set_cons_succ, List.set_cons_zero]
        refine wpFreeD_skip (by kernel_rfl) ?_
        simp only [Act.put, List.setIfInBounds_toArray, List.set_cons_succ, List.set_cons_zero]
        refine wpFreeD_skip (by kernel_rfl) ?_
        simp only [Act.put, List.setIfInBounds_toArray, List.set_cons_succ, List.set_cons_zero]
        refine wpFreeD_one rfl (.bool true) (fun w1 _ => by kernel_rfl) ?_
        simp only [Act.put, List.setIfInBounds_toArray, List.set_cons_succ, List.set_cons_zero]
        refine wpFreeD_nil (fun wR hwR _ => ?_)
        replace F := (F.drewN 1).le hwR
        clear hwR
        go_wp2
        go_ret
        exact ⟨ret_b E.out.symm, F.below⟩
      have hne := hid (show (fk != 1) = false by rw [bne, hc]; rfl)
      cases hk : okF fk a b c p q
      · rw [hk] at HV0
        have hp0 := HP.out
        have E := hid (show ((fk == 1) && okF fk a b c p q && rngB x nx j && rngB y ny k && finB (two m o) 2) = false by simp [hk])
        clear hc hk hp0
        refine region_freeD (E := leX) (fun _ _ _ v => v = .bool false) (by kernel_rfl) (by kernel_rfl) ?_
        refine wpFreeD_one rfl (.pointer (some ⟨wr.heap.size, 0, none⟩)) (fun w1 _ => by kernel_rfl) ?_
        simp only [Act.put, List.setIfInBounds_toArray, List.set_cons_succ, List.set_cons_zero]
        refine wpFreeD_load1 rfl rfl rfl (p := ⟨wr.heap.size, 0, none⟩) (fun w1 h1 => (((F.drewN 1).le h1).row m0).cell? 0) ukindInt64 ?_
        simp only [Act.put, List.setIfInBounds_toArray, List.set_cons_succ, List.set_cons_zero]
        refine wpFreeD_one rfl (.slice (some ⟨gK, 0, none⟩) 1 1) (fun w1 _ => by kernel_rfl) ?_
        simp only [Act.put, List.setIfInBounds_toArray, List.set_cons_succ, List.set_cons_zero]
        refine wpFreeD_one rfl (.int .i64 0) (fun w1 _ => by kernel_rfl) ?_
        simp only [Act.put, List.setIfInBounds_toArray, List.set_cons_succ, List.set_cons_zero]
        refine wpFreeD_indexW0 rfl rfl (i := 0) rfl rfl Try.underlying117 uinfo1Int64 (by decide) ?_
        simp only [Act.put, List.setIfInBounds_toArray, List.set_cons_succ, List.set_cons_zero]
        refine wpFreeD_load1 rfl rfl rfl (p := ⟨gK, 0 + 0 * 1, none⟩) (fun w1 h1 => (((F.drewN 1).le h1).row m2).cell? 0) ukindInt64 ?_
        simp only [Act.put, List.setIfInBounds_toArray, List.set_cons_succ, List.set_cons_zero]
        refine wpFreeD_one rfl (.bool (fk != 1)) (fun w1 _ => by kernel_rfl) ?_
        simp only [Act.put, List.setIfInBounds_toArray, List.set_cons_succ, List.set_cons_zero]
        rw [hne.out]
        refine wpFreeD_one rfl (.bool false) (fun w1 _ => by kernel_rfl) ?_
        simp only [Act.put, List.setIfInBounds_toArray, List.set_cons_succ, List.set_cons_zero]
        refine wpFreeD_loadGW F rfl (by kernel_rfl) rfl rfl m0 Try.underlying36 rfl uinfoFilterI rfl ?_
        simp only [Act.put, List.setIfInBounds_toArray, List.set_cons_succ, List.set_cons_zero]
        refine wpFreeD_callW (by kernel_rfl) rfl Try.func71 (by kernel_rfl) (by kernel_rfl) (args := #[.agg #[.int .i64 fk, .float .f32 a, .float .f32 b, .float .f32 c, .float .f32 p, .float .f32 q]]) (by simp [Act.eval]) (fun v w1 w2 hw hv => hv) (fun w1 hw1 _ => (HV0.out w1).mono ?_) ?_
        · rintro e w2 ⟨rfl, hl⟩
          exact ⟨_, rfl, hl, rfl⟩
        rintro v ⟨_, _, _, rfl⟩
        simp only [Act.put, List.setIfInBounds_toArray, List.set_cons_succ, List.set_cons_zero]
        refine wpFreeD_oneW (by kernel_rfl) (.bool true) (fun w1 _ => by kernel_rfl) ?_
        simp only [Act.put, List.setIfInBounds_toArray, List.set_cons_succ, List.set_cons_zero]
        refine wpFreeD_one rfl (.bool true) (fun w1 _ => by kernel_rfl) ?_
        simp only [Act.put, List.setIfInBounds_toArray, List.set_cons_succ, List.set_cons_zero]
        refine wpFreeD_nil (fun wR hwR _ => ?_)
        replace F := (F.drewN 1).le hwR
        clear hwR
        go_wp2
        go_ret
        exact ⟨ret_b E.out.symm, F.below⟩
      · rw [hk] at HV0
        have hkk := hid hk; have hcc := hid hc
        clear hc hk
        refine region_freeD (E := leX) (fun _ _ _ v => v = .bool true) (by kernel_rfl) (by kernel_rfl) ?_
        refine wpFreeD_one rfl (.pointer (some ⟨wr.heap.size, 0, none⟩)) (fun w1 _ => by kernel_rfl) ?_
        simp only [Act.put, List.setIfInBounds_toArray, List.set_cons_succ, List.set_cons_zero]
        refine wpFreeD_load1 rfl rfl rfl (p := ⟨wr.heap.size, 0, none⟩) (fun w1 h1 => (((F.drewN 1).le h1).row m0).cell? 0) ukindInt64 ?_
        simp only [Act.put, List.setIfInBounds_toArray, List.set_cons_succ, List.set_cons_zero]
        refine wpFreeD_one rfl (.slice (some ⟨gK, 0, none⟩) 1 1) (fun w1 _ => by kernel_rfl) ?_
        simp only [Act.put, List.setIfInBounds_toArray, List.set_cons_succ, List.set_cons_zero]
        refine wpFreeD_one rfl (.int .i64 0) (fun w1 _ => by kernel_rfl) ?_
        simp only [Act.put, List.setIfInBounds_toArray, List.set_cons_succ, List.set_cons_zero]
        refine wpFreeD_indexW0 rfl rfl (i := 0) rfl rfl Try.underlying117 uinfo1Int64 (by decide) ?_
        simp only [Act.put, List.setIfInBounds_toArray, List.set_cons_succ, List.set_cons_zero]
        refine wpFreeD_load1 rfl rfl rfl (p := ⟨gK, 0 + 0 * 1, none⟩) (fun w1 h1 => (((F.drewN 1).le h1).row m2).cell? 0) ukindInt64 ?_
        simp only [Act.put, List.setIfInBounds_toArray, List.set_cons_succ, List.set_cons_zero]
        refine wpFreeD_one rfl (.bool (fk != 1)) (fun w1 _ => by kernel_rfl) ?_
        simp only [Act.put, List.setIfInBounds_toArray, List.set_cons_succ, List.set_cons_zero]
        rw [hne.out]
        refine wpFreeD_one rfl (.bool false) (fun w1 _ => by kernel_rfl) ?_
        simp only [Act.put, List.setIfInBounds_toArray, List.set_cons_succ, List.set_cons_zero]
        refine wpFreeD_loadGW F rfl (by kernel_rfl) rfl rfl m0 Try.underlying36 rfl uinfoFilterI rfl ?_
        simp only [Act.put, List.setIfInBounds_toArray, List.set_cons_succ, List.set_cons_zero]
        refine wpFreeD_callW (by kernel_rfl) rfl Try.func71 (by kernel_rfl) (by kernel_rfl) (args := #[.agg #[.int .i64 fk, .float .f32 a, .float .f32 b, .float .f32 c, .float .f32 p, .float .f32 q]]) (by simp [Act.eval]) (fun v w1 w2 hw hv => hv) (fun w1 hw1 _ => (HV0.out w1).mono ?_) ?_
        · rintro e w2 ⟨rfl, hl⟩
          exact ⟨_, rfl, hl, rfl⟩
        rintro v ⟨_, _, _, rfl⟩
        simp only [Act.put, List.setIfInBounds_toArray, List.set_cons_succ, List.set_cons_zero]
        refine wpFreeD_oneW (by kernel_rfl) (.bool false) (fun w1 _ => by kernel_rfl) ?_
        simp only [Act.put, List.setIfInBounds_toArray, List.set_cons_succ, List.set_cons_zero]
        refine wpFreeD_one rfl (.bool false) (fun w1 _ => by kernel_rfl) ?_
        simp only [Act.put, List.setIfInBounds_toArray, List.set_cons_succ, List.set_cons_zero]
        refine wpFreeD_nil (fun wR hwR _ => ?_)
        replace F := (F.drewN 1).le hwR
        clear hwR
        go_wp2
        go_roundw
        case rel => exact ⟨1, by omega, by go_num, fun _ => ⟨hcc.out, hkk.out⟩, F.tl⟩
        case measure => simp [intOf]
    | 1, _ =>
      have F := HF0.out
      clear HF0
      go_wp2_with (first | (go_at_call 110; ((with_reducible refine (HR.out _).mono ?_); rintro e w3 ⟨gR, rfl, hgR, hrR, hlR⟩; replace F := F.rowS hlR hgR hrR; clear hgR hrR hlR)))
      go_loopw [38] (fun i wr => ∃ n : Nat, n ≤ 2 ∧ i = .int .i64 n ∧ Hid ((0 < n → rngB x nx j = true) ∧ (1 < n → rngB y ny k = true)) ∧ Hid (Frg w wr [rowF gR 35 #[s, .int .i64 j, t, .int .i64 k]])) (fun i _ => 2 - (intOf i).toNat)
      case atStart => exact ⟨0, by omega, rfl, ⟨fun h => absurd h (by omega), fun h => absurd h (by omega)⟩, F.sub (by simp)⟩
      case round =>
        clear F
        obtain ⟨n, hn, rfl, HQ, HF1⟩ := hrel
        match n, hn with
        | 0, _ =>
          have F := HF1.out
          cases hk : rngB x nx j
          · have hk2 : rngB x nx j = false := hk
            unfold rngB at hk
            rw [hk] at HX
            obtain ⟨hq0, hq1⟩ := HQ.out
            have hp0 := HP.out
            clear hk hk2 hq0 hq1 hp0
            go_wp2_with (first | ((with_reducible refine listN F ?_); clear F; intro wN F) | (with_reducible refine wpList_indexW0 (i := 0) rfl rfl rfl rfl Try.underlying74 uinfoRingI (by decide) ?_) | ((with_reducible refine at_load rfl ?_); first | (with_reducible refine wpList_loadGP F rfl rfl rfl m0 Try.underlying35 rfl [s, .int .i64 j] (rngAt0 _ _ _ _) uinfoRingI rfl ?_) | (with_reducible refine wpList_loadG F rfl rfl rfl m0 Try.underlying35 rfl uinfoRingI rfl ?_)) | ((with_reducible refine at_store rfl ?_); (refine wpList_storeG F rfl rfl rfl rfl rfl uinfoRingI rfl (by (simp only [List.all_toArray', List.all_cons, List.all_nil, Bool.and_true, Bool.true_and, SO0.out]) <;> rfl) ?_; clear F; intro W F zW; clear zW)) | (go_at_call 72; ((with_reducible refine (HX.out _ F.below).mono ?_); rintro e w1 ⟨rfl, hl⟩; replace F := F.le hl; clear hl)))
            go_ret
            exact ⟨ret_b (by simp), F.below⟩
          · have hk2 := hid hk
            unfold rngB at hk
            rw [hk] at HX
            clear hk
            go_wp2_with (first | ((with_reducible refine listN F ?_); clear F; intro wN F) | (with_reducible refine wpList_indexW0 (i := 0) rfl rfl rfl rfl Try.underlying74 uinfoRingI (by decide) ?_) | ((with_reducible refine at_load rfl ?_); first | (with_reducible refine wpList_loadGP F rfl rfl rfl m0 Try.underlying35 rfl [s, .int .i64 j] (rngAt0 _ _ _ _) uinfoRingI rfl ?_) | (with_reducible refine wpList_loadG F rfl rfl rfl m0 Try.underlying35 rfl uinfoRingI rfl ?_)) | ((with_reducible refine at_store rfl ?_); (refine wpList_storeG F rfl rfl rfl rfl rfl uinfoRingI rfl (by (simp only [List.all_toArray', List.all_cons, List.all_nil, Bool.and_true, Bool.true_and, SO0.out]) <;> rfl) ?_; clear F; intro W F zW; clear zW)) | (go_at_call 72; ((with_reducible refine (HX.out _ F.below).mono ?_); rintro e w1 ⟨rfl, hl⟩; replace F := F.le hl; clear hl)))
            go_roundw
            case rel => exact ⟨1, by omega, by go_num, ⟨fun _ => trivial, fun h => absurd h (by omega)⟩, F.sub (by simp)⟩
            case measure => simp [intOf]
        | 1, _ =>
          have F := HF1.out
          cases hk : rngB y ny k
          · have hk2 : rngB y ny k = false := hk
            unfold rngB at hk
            rw [hk] at HY
            obtain ⟨hq0, hq1⟩ := HQ.out
            have hp0 := HP.out
            clear hk hk2 hq0 hq1 hp0
            go_wp2_with (first | ((with_reducible refine listN F ?_); clear F; intro wN F) | (with_reducible refine wpList_indexW0 (i := 1) rfl rfl rfl rfl Try.underlying74 uinfoRingI (by decide) ?_) | ((with_reducible refine at_load rfl ?_); first | (with_reducible refine wpList_loadGP F rfl rfl rfl m0 Try.underlying35 rfl [t, .int .i64 k] (rngAt1 _ _ _ _) uinfoRingI rfl ?_) | (with_reducible refine wpList_loadG F rfl rfl rfl m0 Try.underlying35 rfl uinfoRingI rfl ?_)) | ((with_reducible refine at_store rfl ?_); (refine wpList_storeG F rfl rfl rfl rfl rfl uinfoRingI rfl (by (simp only [List.all_toArray', List.all_cons, List.all_nil, Bool.and_true, Bool.true_and, SO1.out]) <;> rfl) ?_; clear F; intro W F zW; clear zW)) | (go_at_call 72; ((with_reducible refine (HY.out _ F.below).mono ?_); rintro e w1 ⟨rfl, hl⟩; replace F := F.le hl; clear hl)))
            go_ret
            exact ⟨ret_b (by simp), F.below⟩
          · have hk2 := hid hk
            unfold rngB at hk
            rw [hk] at HY
            clear hk
            go_wp2_with (first | ((with_reducible refine listN F ?_); clear F; intro wN F) | (with_reducible refine wpList_indexW0 (i := 1) rfl rfl rfl rfl Try.underlying74 uinfoRingI (by decide) ?_) | ((with_reducible refine at_load rfl ?_); first | (with_reducible refine wpList_loadGP F rfl rfl rfl m0 Try.underlying35 rfl [t, .int .i64 k] (rngAt1 _ _ _ _) uinfoRingI rfl ?_) | (with_reducible refine wpList_loadG F rfl rfl rfl m0 Try.underlying35 rfl uinfoRingI rfl ?_)) | ((with_reducible refine at_store rfl ?_); (refine wpList_storeG F rfl rfl rfl rfl rfl uinfoRingI rfl (by (simp only [List.all_toArray', List.all_cons, List.all_nil, Bool.and_true, Bool.true_and, SO1.out]) <;> rfl) ?_; clear F; intro W F zW; clear zW)) | (go_at_call 72; ((with_reducible refine (HY.out _ F.below).mono ?_); rintro e w1 ⟨rfl, hl⟩; replace F := F.le hl; clear hl)))
            go_roundw
            case rel => exact ⟨2, by omega, by go_num, ⟨fun _ => HQ.out.1 (by omega), fun _ => trivial⟩, F.sub (by simp)⟩
            case measure => simp [intOf]
        | 2, _ =>
          have F := HF1.out
          obtain ⟨hq0, hq1⟩ := HQ.out
          have hp0 := HP.out
          have E := hid (show ((fk == 1) && okF fk a b c p q && rngB x nx j && rngB y ny k && finB (two m o) 2) = finB (two m o) 2 by simp [(hp0 (by omega)).1, (hp0 (by omega)).2, hq0 (by omega), hq1 (by omega)])
          clear hq0 hq1 hp0
          go_wp2_with (first | (go_at_call 109; ((with_reducible refine (HM.out _).mono ?_); rintro e w3 ⟨gM, rfl, hgM, hrM, hlM⟩; replace F := F.rowS hlM hgM hrM; clear hgM hrM hlM)) | (go_at_call 73; ((with_reducible refine (HN.out _ _ (F.row m0)).mono ?_); rintro e w1 ⟨rfl, rfl⟩)))
          go_ret
          exact ⟨ret_b E.out.symm, F.below⟩
set_option maxRecDepth 100000 in
set_option maxHeartbeats 4000000 in
theorem i_ValidBow (x y : Nat → Nat) (nx ny : Nat) (j k : Int) (fk : Int) (a b c p q : Nat) (m o : Nat) (B : Nat) (s t : Value) (w : World) (hs : (slT x nx).RdN w B s) (ht : (slT y ny).RdN w B t) (wf : (Lit.int .i64 j).wf = true ∧ (Lit.int .i64 k).wf = true) (hf : (fits .f32 a ∧ fits .f32 b ∧ fits .f32 c ∧ fits .f32 p ∧ fits .f32 q ∧ fits .f32 m ∧ fits .f32 o)) :
    Calls Try.prog 29 #[.agg #[s, .int .i64 j, t, .int .i64 k, .int .i64 fk, .float .f32 a, .float .f32 b, .float .f32 c, .float .f32 p, .float .f32 q, .float .f32 m, .float .f32 o]] w (Out_b (okBow x y nx ny j k fk a b c p q m o) w) := by
  have HV := hid (fun (w' : World) (hl : le w w') => i_validPartsBow x y nx ny j k fk a b c p q m o B s t w' (hs.le hl) (ht.le hl) wf hf)
  have F := (Frg.nil w).box 38 #[s, .int .i64 j, t, .int .i64 k, .int .i64 fk, .float .f32 a, .float .f32 b, .float .f32 c, .float .f32 p, .float .f32 q, .float .f32 m, .float .f32 o]
  clear hs ht wf hf
  go_enter Try.func29, Try.ntmps29
  go_wp2_with (first | ((with_reducible refine at_loadU rfl rfl ?_); (with_reducible refine wpList_loadG F rfl rfl rfl m0 Try.underlying38 rfl uinfoBowI rfl ?_)) | (go_at_call 50; ((with_reducible refine (HV.out _ F.below).mono ?_); rintro e w1 ⟨rfl, hl⟩; replace F := F.le hl; clear hl)))
  go_ret
  exact ⟨rfl, F.below⟩
set_option maxRecDepth 100000 in
set_option maxHeartbeats 4000000 in
theorem s_l05Bow (x y : Nat → Nat) (nx ny : Nat) (j k : Int) (fk : Int) (a b c p q : Nat) (m o : Nat) (B : Nat) (s t : Value) (w : World) (g0 : Nat) (RR : Row w g0 38 #[s, .int .i64 j, t, .int .i64 k, .int .i64 fk, .float .f32 a, .float .f32 b, .float .f32 c, .float .f32 p, .float .f32 q, .float .f32 m, .float .f32 o]) (hs : (slT x nx).RdN w B s) (ht : (slT y ny).RdN w B t) (wf : (Lit.int .i64 j).wf = true ∧ (Lit.int .i64 k).wf = true) (hf : (fits .f32 a ∧ fits .f32 b ∧ fits .f32 c ∧ fits .f32 p ∧ fits .f32 q ∧ fits .f32 m ∧ fits .f32 o)) :
    Calls Try.prog 23 #[.pointer (some ⟨g0, 0, none⟩)] w (Out_b (okBow x y nx ny j k fk a b c p q m o) w) := by
  obtain ⟨fa, fb, fc, fp, fq, fm, fo⟩ := hf
  obtain ⟨wj, wk⟩ := wf
  have hRw := hid (fun (w1 : World) (h1 : le w w1) => RR.le h1)
  have HRD := hid (fun (b : Nat) (w1 : World) (h1 : le w w1) (R : Row w1 b 35 #[s, .int .i64 j, t, .int .i64 k]) => rg2_rd (hs.le h1) (ht.le h1) wj wk R)
  have HN := hid (fun (b : Nat) (w' : World) (R : Row w' b 25 #[.float .f32 m, .float .f32 o]) => s_l04All (b + 1) (.slice (some ⟨b, 0, none⟩) 2 2) (two m o) 2 w' (two_rd fm fo R))
  have HO0 := hid (fun (w' : World) (hl : le w w') => s_OkAt fk a b c p q g0 4 w' ⟨(hRw.out w' hl).cell? 4, fun i hi => by match i, hi with | 0, _ => exact (hRw.out w' hl).cell? 5 | 1, _ => exact (hRw.out w' hl).cell? 6 | 2, _ => exact (hRw.out w' hl).cell? 7, fun i hi => by match i, hi with | 0, _ => exact (hRw.out w' hl).cell? 8 | 1, _ => exact (hRw.out w' hl).cell? 9⟩)
  clear hs ht wj wk RR fa fb fc fp fq fm fo
  change Calls _ _ _ _ (Out_b ((fk == 1) && okF fk a b c p q && rngB x nx j && rngB y ny k && fin m && fin o) w)
  rw [show ((fk == 1) && okF fk a b c p q && rngB x nx j && rngB y ny k && fin m && fin o) = ((fk == 1) && okF fk a b c p q && rngB x nx j && rngB y ny k && finB (two m o) 2) by rw [fin_two, ← Bool.and_assoc]]
  rcases bool_ft ((rngB x nx j && rngB y ny k)) with h0 | h0
  · have hc0 := hid h0
    have E := hid (show ((fk == 1) && okF fk a b c p q && rngB x nx j && rngB y ny k && finB (two m o) 2) = false by have h0' := h0; simp only [Bool.and_eq_false_iff] at h0'; rcases h0' with h | h <;> simp [h])
    clear h0
    go_enter Try.func23, Try.ntmps23
    go_wp2_with fail
    refine region_freeD (E := leX) (fun f args _ v => if f = 42 then v = .bool false else if f = 43 then (args = #[.pointer (some ⟨g0, 4, none⟩)] → v = .bool false) else v = .bool (finB (two m o) 2)) (by kernel_rfl) (by kernel_rfl) ?_
    refine wpFreeD_one rfl (.pointer (some ⟨g0, 0, none⟩)) (fun w1 _ => by kernel_rfl) ?_
    simp only [Act.put, List.setIfInBounds_toArray, List.set_cons_succ, List.set_cons_zero]
    refine wpFreeD_one rfl (.pointer (some ⟨g0, 0, none⟩)) (fun w1 _ => by kernel_rfl) ?_
    simp only [Act.put, List.setIfInBounds_toArray, List.set_cons_succ, List.set_cons_zero]
    refine wpFreeD_one rfl (.pointer (some ⟨g0, 0, none⟩)) (fun w1 _ => by kernel_rfl) ?_
    simp only [Act.put, List.setIfInBounds_toArray, List.set_cons_succ, List.set_cons_zero]
    refine wpFreeD_loadW rfl rfl rfl [s, .int .i64 j] (fun w1 h1 => Row.at_part (hRw.out w1 (le_trans (le_drewN _ _) h1)) (partBow_Neck (s) (.int .i64 j) (t) (.int .i64 k) (.int .i64 fk) (.float .f32 a) (.float .f32 b) (.float .f32 c) (.float .f32 p) (.float .f32 q) (.float .f32 m) (.float .f32 o))) Try.underlying35 rfl uinfoRingI rfl ?_
    simp only [Act.put, List.setIfInBounds_toArray, List.set_cons_succ, List.set_cons_zero]
    refine wpFreeD_one rfl (.pointer (some ⟨g0, 0, none⟩)) (fun w1 _ => by kernel_rfl) ?_
    simp only [Act.put, List.setIfInBounds_toArray, List.set_cons_succ, List.set_cons_zero]
    refine wpFreeD_one rfl (.pointer (some ⟨g0, 0, none⟩)) (fun w1 _ => by kernel_rfl) ?_
    simp only [Act.put, List.setIfInBounds_toArray, List.set_cons_succ, List.set_cons_zero]
    refine wpFreeD_one rfl (.pointer (some ⟨g0, 2, none⟩)) (fun w1 _ => by kernel_rfl) ?_
    simp only [Act.put, List.setIfInBounds_toArray, List.set_cons_succ, List.set_cons_zero]
    refine wpFreeD_loadW rfl rfl rfl [t, .int .i64 k] (fun w1 h1 => Row.at_part (hRw.out w1 (le_trans (le_drewN _ _) h1)) (partBow_Bridge (s) (.int .i64 j) (t) (.int .i64 k) (.int .i64 fk) (.float .f32 a) (.float .f32 b) (.float .f32 c) (.float .f32 p) (.float .f32 q) (.float .f32 m) (.float .f32 o))) Try.underlying35 rfl uinfoRingI rfl ?_
    simp only [Act.put, List.setIfInBounds_toArray, List.set_cons_succ, List.set_cons_zero]
    refine wpFreeD_madeW (by kernel_rfl) (fun b => .slice (some ⟨b, 0, none⟩) 2 2) 35 #[s, .int .i64 j, t, .int .i64 k] (fun w1 => by kernel_rfl) (fun bR => ?_)
    simp only [Act.put, List.setIfInBounds_toArray, List.set_cons_succ, List.set_cons_zero]
    refine wpFreeD_callW (by kernel_rfl) rfl Try.func42 (by kernel_rfl) (by kernel_rfl) (args := #[.slice (some ⟨bR, 0, none⟩) 2 2]) (by simp [Act.eval]) (fun v w1 w2 hw hv => hv) (fun w1 hw1 hbe => ?_) ?_
    · obtain ⟨b', e1, hrow⟩ := (hbe ⟨8, Ground.data⟩ (by simp) (by kernel_rfl)).2 rfl
      obtain rfl : bR = b' := by simpa using e1
      refine (s_l04Rings _ _ _ _ w1 (HRD.out bR w1 (le_trans (le_drewN _ _) hw1) hrow) (rg2_ok _ _ _ _ _ _)).mono ?_
      rintro e w2 ⟨rfl, q, rfl⟩
      exact ⟨_, rfl, le_drewN _ _, by simp only [if_true]; rw [rg2_all, hc0.out]⟩
    rintro v ⟨_, _, _, hv⟩
    simp only [if_true] at hv
    subst hv
    simp only [Act.put, List.setIfInBounds_toArray, List.set_cons_succ, List.set_cons_zero]
    refine wpFreeD_one rfl (.bool false) (fun w1 _ => by kernel_rfl) ?_
    simp only [Act.put, List.setIfInBounds_toArray, List.set_cons_succ, List.set_cons_zero]
    refine wpFreeD_skip (by kernel_rfl) ?_
    simp only [Act.put, List.setIfInBounds_toArray, List.set_cons_succ, List.set_cons_zero]
    refine wpFreeD_skip (by kernel_rfl) ?_
    simp only [Act.put, List.setIfInBounds_toArray, List.set_cons_succ, List.set_cons_zero]
    refine wpFreeD_skip (by kernel_rfl) ?_
    simp only [Act.put, List.setIfInBounds_toArray, List.set_cons_succ, List.set_cons_zero]
    refine wpFreeD_skip (by kernel_rfl) ?_
    simp only [Act.put, List.setIfInBounds_toArray, List.set_cons_succ, List.set_cons_zero]
    refine wpFreeD_one rfl (.bool false) (fun w1 _ => by kernel_rfl) ?_
    simp only [Act.put, List.setIfInBounds_toArray, List.set_cons_succ, List.set_cons_zero]
    refine wpFreeD_one rfl (.bool false) (fun w1 _ => by kernel_rfl) ?_
    simp only [Act.put, List.setIfInBounds_toArray, List.set_cons_succ, List.set_cons_zero]
    refine wpFreeD_skip (by kernel_rfl) ?_
    simp only [Act.put, List.setIfInBounds_toArray, List.set_cons_succ, List.set_cons_zero]
    refine wpFreeD_skip (by kernel_rfl) ?_
    simp only [Act.put, List.setIfInBounds_toArray, List.set_cons_succ, List.set_cons_zero]
    refine wpFreeD_skip (by kernel_rfl) ?_
    simp only [Act.put, List.setIfInBounds_toArray, List.set_cons_succ, List.set_cons_zero]
    refine wpFreeD_skip (by kernel_rfl) ?_
    simp only [Act.put, List.setIfInBounds_toArray, List.set_cons_succ, List.set_cons_zero]
    refine wpFreeD_skip (by kernel_rfl) ?_
    simp only [Act.put, List.setIfInBounds_toArray, List.set_cons_succ, List.set_cons_zero]
    refine wpFreeD_skip (by kernel_rfl) ?_
    simp only [Act.put, List.setIfInBounds_toArray, List.set_cons_succ, List.set_cons_zero]
    refine wpFreeD_one rfl (.bool false) (fun w1 _ => by kernel_rfl) ?_
    simp only [Act.put, List.setIfInBounds_toArray, List.set_cons_succ, List.set_cons_zero]
    refine wpFreeD_one rfl (.bool false) (fun w1 _ => by kernel_rfl) ?_
    simp only [Act.put, List.setIfInBounds_toArray, List.set_cons_succ, List.set_cons_zero]
    refine wpFreeD_skip (by kernel_rfl) ?_
    simp only [Act.put, List.setIfInBounds_toArray, List.set_cons_succ, List.set_cons_zero]
    refine wpFreeD_skip (by kernel_rfl) ?_
    simp only [Act.put, List.setIfInBounds_toArray, List.set_cons_succ, List.set_cons_zero]
    refine wpFreeD_skip (by kernel_rfl) ?_
    simp only [Act.put, List.setIfInBounds_toArray, List.set_cons_succ, List.set_cons_zero]
    refine wpFreeD_skip (by kernel_rfl) ?_
    simp only [Act.put, List.setIfInBounds_toArray, List.set_cons_succ, List.set_cons_zero]
    refine wpFreeD_skip (by kernel_rfl) ?_
    simp only [Act.put, List.setIfInBounds_toArray, List.set_cons_succ, List.set_cons_zero]
    refine wpFreeD_skip (by kernel_rfl) ?_
    simp only [Act.put, List.setIfInBounds_toArray, List.set_cons_succ, List.set_cons_zero]
    refine wpFreeD_skip (by kernel_rfl) ?_
    simp only [Act.put, List.setIfInBounds_toArray, List.set_cons_succ, List.set_cons_zero]
    refine wpFreeD_skip (by kernel_rfl) ?_
    simp only [Act.put, List.setIfInBounds_toArray, List.set_cons_succ, List.set_cons_zero]
    refine wpFreeD_skip (by kernel_rfl) ?_
    simp only [Act.put, List.setIfInBounds_toArray, List.set_cons_succ, List.set_cons_zero]
    refine wpFreeD_skip (by kernel_rfl) ?_
    simp only [Act.put, List.setIfInBounds_toArray, List.set_cons_succ, List.set_cons_zero]
    refine wpFreeD_one rfl (.bool false) (fun w1 _ => by kernel_rfl) ?_
    simp only [Act.put, List.setIfInBounds_toArray, List.set_cons_succ, List.set_cons_zero]
    refine wpFreeD_one rfl (.bool false) (fun w1 _ => by kernel_rfl) ?_
    simp only [Act.put, List.setIfInBounds_toArray, List.set_cons_succ, List.set_cons_zero]
    refine wpFreeD_nil (fun wR hwR _ => ?_)
    have HL := hid (le_trans (le_drewN _ _) hwR)
    clear hwR
    go_wp2
    go_ret
    exact ⟨ret_b E.out.symm, HL.out⟩
  · have hc0 := hid h0; clear h0
    rcases bool_ft (okF fk a b c p q) with h1 | h1
    · have hc1 := hid h1
      have E := hid (show ((fk == 1) && okF fk a b c p q && rngB x nx j && rngB y ny k && finB (two m o) 2) = false by simp [h1])
      clear h1
      go_enter Try.func23, Try.ntmps23
      go_wp2_with fail
      refine region_freeD (E := leX) (fun f args _ v => if f = 42 then v = .bool true else if f = 43 then (args = #[.pointer (some ⟨g0, 4, none⟩)] → v = .bool false) else v = .bool (finB (two m o) 2)) (by kernel_rfl) (by kernel_rfl) ?_
      refine wpFreeD_one rfl (.pointer (some ⟨g0, 0, none⟩)) (fun w1 _ => by kernel_rfl) ?_
      simp only [Act.put, List.setIfInBounds_toArray, List.set_cons_succ, List.set_cons_zero]
      refine wpFreeD_one rfl (.pointer (some ⟨g0, 0, none⟩)) (fun w1 _ => by kernel_rfl) ?_
      simp only [Act.put, List.setIfInBounds_toArray, List.set_cons_succ, List.set_cons_zero]
      refine wpFreeD_one rfl (.pointer (some ⟨g0, 0, none⟩)) (fun w1 _ => by kernel_rfl) ?_
      simp only [Act.put, List.setIfInBounds_toArray, List.set_cons_succ, List.set_cons_zero]
      refine wpFreeD_loadW rfl rfl rfl [s, .int .i64 j] (fun w1 h1 => Row.at_part (hRw.out w1 (le_trans (le_drewN _ _) h1)) (partBow_Neck (s) (.int .i64 j) (t) (.int .i64 k) (.int .i64 fk) (.float .f32 a) (.float .f32 b) (.float .f32 c) (.float .f32 p) (.float .f32 q) (.float .f32 m) (.float .f32 o))) Try.underlying35 rfl uinfoRingI rfl ?_
      simp only [Act.put, List.setIfInBounds_toArray, List.set_cons_succ, List.set_cons_zero]
      refine wpFreeD_one rfl (.pointer (some ⟨g0, 0, none⟩)) (fun w1 _ => by kernel_rfl) ?_
      simp only [Act.put, List.setIfInBounds_toArray, List.set_cons_succ, List.set_cons_zero]
      refine wpFreeD_one rfl (.pointer (some ⟨g0, 0, none⟩)) (fun w1 _ => by kernel_rfl) ?_
      simp only [Act.put, List.setIfInBounds_toArray, List.set_cons_succ, List.set_cons_zero]
      refine wpFreeD_one rfl (.pointer (some ⟨g0, 2, none⟩)) (fun w1 _ => by kernel_rfl) ?_
      simp only [Act.put, List.setIfInBounds_toArray, List.set_cons_succ, List.set_cons_zero]
      refine wpFreeD_loadW rfl rfl rfl [t, .int .i64 k] (fun w1 h1 => Row.at_part (hRw.out w1 (le_trans (le_drewN _ _) h1)) (partBow_Bridge (s) (.int .i64 j) (t) (.int .i64 k) (.int .i64 fk) (.float .f32 a) (.float .f32 b) (.float .f32 c) (.float .f32 p) (.float .f32 q) (.float .f32 m) (.float .f32 o))) Try.underlying35 rfl uinfoRingI rfl ?_
      simp only [Act.put, List.setIfInBounds_toArray, List.set_cons_succ, List.set_cons_zero]
      refine wpFreeD_madeW (by kernel_rfl) (fun b => .slice (some ⟨b, 0, none⟩) 2 2) 35 #[s, .int .i64 j, t, .int .i64 k] (fun w1 => by kernel_rfl) (fun bR => ?_)
      simp only [Act.put, List.setIfInBounds_toArray, List.set_cons_succ, List.set_cons_zero]
      refine wpFreeD_callW (by kernel_rfl) rfl Try.func42 (by kernel_rfl) (by kernel_rfl) (args := #[.slice (some ⟨bR, 0, none⟩) 2 2]) (by simp [Act.eval]) (fun v w1 w2 hw hv => hv) (fun w1 hw1 hbe => ?_) ?_
      · obtain ⟨b', e1, hrow⟩ := (hbe ⟨8, Ground.data⟩ (by simp) (by kernel_rfl)).2 rfl
        obtain rfl : bR = b' := by simpa using e1
        refine (s_l04Rings _ _ _ _ w1 (HRD.out bR w1 (le_trans (le_drewN _ _) hw1) hrow) (rg2_ok _ _ _ _ _ _)).mono ?_
        rintro e w2 ⟨rfl, q, rfl⟩
        exact ⟨_, rfl, le_drewN _ _, by simp only [if_true]; rw [rg2_all, hc0.out]⟩
      rintro v ⟨_, _, _, hv⟩
      simp only [if_true] at hv
      subst hv
      simp only [Act.put, List.setIfInBounds_toArray, List.set_cons_succ, List.set_cons_zero]
      refine wpFreeD_one rfl (.bool true) (fun w1 _ => by kernel_rfl) ?_
      simp only [Act.put, List.setIfInBounds_toArray, List.set_cons_succ, List.set_cons_zero]
      refine wpFreeD_oneW (by kernel_rfl) (.pointer (some ⟨g0, 0, none⟩)) (fun w1 _ => by kernel_rfl) ?_
      simp only [Act.put, List.setIfInBounds_toArray, List.set_cons_succ, List.set_cons_zero]
      refine wpFreeD_oneW (by kernel_rfl) (.pointer (some ⟨g0, 0, none⟩)) (fun w1 _ => by kernel_rfl) ?_
      simp only [Act.put, List.setIfInBounds_toArray, List.set_cons_succ, List.set_cons_zero]
      refine wpFreeD_oneW (by kernel_rfl) (.pointer (some ⟨g0, 4, none⟩)) (fun w1 _ => by kernel_rfl) ?_
      simp only [Act.put, List.setIfInBounds_toArray, List.set_cons_succ, List.set_cons_zero]
      refine wpFreeD_callW (by kernel_rfl) rfl Try.func43 (by kernel_rfl) (by kernel_rfl) (args := #[.pointer (some ⟨g0, 4, none⟩)]) (by simp [Act.eval]) (fun v w1 w2 hw hv => hv) (fun w1 hw1 _ => (HO0.out w1 (le_trans (le_drewN _ _) hw1)).mono ?_) ?_
      · rintro e w2 ⟨rfl, q, rfl⟩
        exact ⟨_, rfl, le_drewN _ _, by simp only [show ¬ (43 = 42) by decide, if_false, if_true]; simp [hc1.out]⟩
      rintro v ⟨_, _, _, hv⟩
      simp only [show ¬ (43 = 42) by decide, if_false, if_true] at hv
      obtain rfl := hv (by first | rfl | trivial)
      simp only [Act.put, List.setIfInBounds_toArray, List.set_cons_succ, List.set_cons_zero]
      refine wpFreeD_one rfl (.bool false) (fun w1 _ => by kernel_rfl) ?_
      simp only [Act.put, List.setIfInBounds_toArray, List.set_cons_succ, List.set_cons_zero]
      refine wpFreeD_one rfl (.bool false) (fun w1 _ => by kernel_rfl) ?_
      simp only [Act.put, List.setIfInBounds_toArray, List.set_cons_succ, List.set_cons_zero]
      refine wpFreeD_skip (by kernel_rfl) ?_
      simp only [Act.put, List.setIfInBounds_toArray, List.set_cons_succ, List.set_cons_zero]
      refine wpFreeD_skip (by kernel_rfl) ?_
      simp only [Act.put, List.setIfInBounds_toArray, List.set_cons_succ, List.set_cons_zero]
      refine wpFreeD_skip (by kernel_rfl) ?_
      simp only [Act.put, List.setIfInBounds_toArray, List.set_cons_succ, List.set_cons_zero]
      refine wpFreeD_skip (by kernel_rfl) ?_
      simp only [Act.put, List.setIfInBounds_toArray, List.set_cons_succ, List.set_cons_zero]
      refine wpFreeD_skip (by kernel_rfl) ?_
      simp only [Act.put, List.setIfInBounds_toArray, List.set_cons_succ, List.set_cons_zero]
      refine wpFreeD_skip (by kernel_rfl) ?_
      simp only [Act.put, List.setIfInBounds_toArray, List.set_cons_succ, List.set_cons_zero]
      refine wpFreeD_one rfl (.bool false) (fun w1 _ => by kernel_rfl) ?_
      simp only [Act.put, List.setIfInBounds_toArray, List.set_cons_succ, List.set_cons_zero]
      refine wpFreeD_one rfl (.bool false) (fun w1 _ => by kernel_rfl) ?_
      simp only [Act.put, List.setIfInBounds_toArray, List.set_cons_succ, List.set_cons_zero]
      refine wpFreeD_skip (by kernel_rfl) ?_
      simp only [Act.put, List.setIfInBounds_toArray, List.set_cons_succ, List.set_cons_zero]
      refine wpFreeD_skip (by kernel_rfl) ?_
      simp only [Act.put, List.setIfInBounds_toArray, List.set_cons_succ, List.set_cons_zero]
      refine wpFreeD_skip (by kernel_rfl) ?_
      simp only [Act.put, List.setIfInBounds_toArray, List.set_cons_succ, List.set_cons_zero]
      refine wpFreeD_skip (by kernel_rfl) ?_
      simp only [Act.put, List.setIfInBounds_toArray, List.set_cons_succ, List.set_cons_zero]
      refine wpFreeD_skip (by kernel_rfl) ?_
      simp only [Act.put, List.setIfInBounds_toArray, List.set_cons_succ, List.set_cons_zero]
      refine wpFreeD_skip (by kernel_rfl) ?_
      simp only [Act.put, List.setIfInBounds_toArray, List.set_cons_succ, List.set_cons_zero]
      refine wpFreeD_skip (by kernel_rfl) ?_
      simp only [Act.put, List.setIfInBounds_toArray, List.set_cons_succ, List.set_cons_zero]
      refine wpFreeD_skip (by kernel_rfl) ?_
      simp only [Act.put, List.setIfInBounds_toArray, List.set_cons_succ, List.set_cons_zero]
      refine wpFreeD_skip (by kernel_rfl) ?_
      simp only [Act.put, List.setIfInBounds_toArray, List.set_cons_succ, List.set_cons_zero]
      refine wpFreeD_skip (by kernel_rfl) ?_
      simp only [Act.put, List.setIfInBounds_toArray, List.set_cons_succ, List.set_cons_zero]
      refine wpFreeD_one rfl (.bool false) (fun w1 _ => by kernel_rfl) ?_
      simp only [Act.put, List.setIfInBounds_toArray, List.set_cons_succ, List.set_cons_zero]
      refine wpFreeD_one rfl (.bool false) (fun w1 _ => by kernel_rfl) ?_
      simp only [Act.put, List.setIfInBounds_toArray, List.set_cons_succ, List.set_cons_zero]
      refine wpFreeD_nil (fun wR hwR _ => ?_)
      have HL := hid (le_trans (le_drewN _ _) hwR)
      clear hwR
      go_wp2
      go_ret
      exact ⟨ret_b E.out.symm, HL.out⟩
    · have hc1 := hid h1; clear h1
      rcases bool_ft ((fk == 1)) with h2 | h2
      · have hc2 := hid h2
        have E := hid (show ((fk == 1) && okF fk a b c p q && rngB x nx j && rngB y ny k && finB (two m o) 2) = false by simp [h2])
        clear h2
        go_enter Try.func23, Try.ntmps23
        go_wp2_with fail
        refine region_freeD (E := leX) (fun f args _ v => if f = 42 then v = .bool true else if f = 43 then (args = #[.pointer (some ⟨g0, 4, none⟩)] → v = .bool true) else v = .bool (finB (two m o) 2)) (by kernel_rfl) (by kernel_rfl) ?_
        refine wpFreeD_one rfl (.pointer (some ⟨g0, 0, none⟩)) (fun w1 _ => by kernel_rfl) ?_
        simp only [Act.put, List.setIfInBounds_toArray, List.set_cons_succ, List.set_cons_zero]
        refine wpFreeD_one rfl (.pointer (some ⟨g0, 0, none⟩)) (fun w1 _ => by kernel_rfl) ?_
        simp only [Act.put, List.setIfInBounds_toArray, List.set_cons_succ, List.set_cons_zero]
        refine wpFreeD_one rfl (.pointer (some ⟨g0, 0, none⟩)) (fun w1 _ => by kernel_rfl) ?_
        simp only [Act.put, List.setIfInBounds_toArray, List.set_cons_succ, List.set_cons_zero]
        refine wpFreeD_loadW rfl rfl rfl [s, .int .i64 j] (fun w1 h1 => Row.at_part (hRw.out w1 (le_trans (le_drewN _ _) h1)) (partBow_Neck (s) (.int .i64 j) (t) (.int .i64 k) (.int .i64 fk) (.float .f32 a) (.float .f32 b) (.float .f32 c) (.float .f32 p) (.float .f32 q) (.float .f32 m) (.float .f32 o))) Try.underlying35 rfl uinfoRingI rfl ?_
        simp only [Act.put, List.setIfInBounds_toArray, List.set_cons_succ, List.set_cons_zero]
        refine wpFreeD_one rfl (.pointer (some ⟨g0, 0, none⟩)) (fun w1 _ => by kernel_rfl) ?_
        simp only [Act.put, List.setIfInBounds_toArray, List.set_cons_succ, List.set_cons_zero]
        refine wpFreeD_one rfl (.pointer (some ⟨g0, 0, none⟩)) (fun w1 _ => by kernel_rfl) ?_
        simp only [Act.put, List.setIfInBounds_toArray, List.set_cons_succ, List.set_cons_zero]
        refine wpFreeD_one rfl (.pointer (some ⟨g0, 2, none⟩)) (fun w1 _ => by kernel_rfl) ?_
        simp only [Act.put, List.setIfInBounds_toArray, List.set_cons_succ, List.set_cons_zero]
        refine wpFreeD_loadW rfl rfl rfl [t, .int .i64 k] (fun w1 h1 => Row.at_part (hRw.out w1 (le_trans (le_drewN _ _) h1)) (partBow_Bridge (s) (.int .i64 j) (t) (.int .i64 k) (.int .i64 fk) (.float .f32 a) (.float .f32 b) (.float .f32 c) (.float .f32 p) (.float .f32 q) (.float .f32 m) (.float .f32 o))) Try.underlying35 rfl uinfoRingI rfl ?_
        simp only [Act.put, List.setIfInBounds_toArray, List.set_cons_succ, List.set_cons_zero]
        refine wpFreeD_madeW (by kernel_rfl) (fun b => .slice (some ⟨b, 0, none⟩) 2 2) 35 #[s, .int .i64 j, t, .int .i64 k] (fun w1 => by kernel_rfl) (fun bR => ?_)
        simp only [Act.put, List.setIfInBounds_toArray, List.set_cons_succ, List.set_cons_zero]
        refine wpFreeD_callW (by kernel_rfl) rfl Try.func42 (by kernel_rfl) (by kernel_rfl) (args := #[.slice (some ⟨bR, 0, none⟩) 2 2]) (by simp [Act.eval]) (fun v w1 w2 hw hv => hv) (fun w1 hw1 hbe => ?_) ?_
        · obtain ⟨b', e1, hrow⟩ := (hbe ⟨8, Ground.data⟩ (by simp) (by kernel_rfl)).2 rfl
          obtain rfl : bR = b' := by simpa using e1
          refine (s_l04Rings _ _ _ _ w1 (HRD.out bR w1 (le_trans (le_drewN _ _) hw1) hrow) (rg2_ok _ _ _ _ _ _)).mono ?_
          rintro e w2 ⟨rfl, q, rfl⟩
          exact ⟨_, rfl, le_drewN _ _, by simp only [if_true]; rw [rg2_all, hc0.out]⟩
        rintro v ⟨_, _, _, hv⟩
        simp only [if_true] at hv
        subst hv
        simp only [Act.put, List.setIfInBounds_toArray, List.set_cons_succ, List.set_cons_zero]
        refine wpFreeD_one rfl (.bool true) (fun w1 _ => by kernel_rfl) ?_
        simp only [Act.put, List.setIfInBounds_toArray, List.set_cons_succ, List.set_cons_zero]
        refine wpFreeD_oneW (by kernel_rfl) (.pointer (some ⟨g0, 0, none⟩)) (fun w1 _ => by kernel_rfl) ?_
        simp only [Act.put, List.setIfInBounds_toArray, List.set_cons_succ, List.set_cons_zero]
        refine wpFreeD_oneW (by kernel_rfl) (.pointer (some ⟨g0, 0, none⟩)) (fun w1 _ => by kernel_rfl) ?_
        simp only [Act.put, List.setIfInBounds_toArray, List.set_cons_succ, List.set_cons_zero]
        refine wpFreeD_oneW (by kernel_rfl) (.pointer (some ⟨g0, 4, none⟩)) (fun w1 _ => by kernel_rfl) ?_
        simp only [Act.put, List.setIfInBounds_toArray, List.set_cons_succ, List.set_cons_zero]
        refine wpFreeD_callW (by kernel_rfl) rfl Try.func43 (by kernel_rfl) (by kernel_rfl) (args := #[.pointer (some ⟨g0, 4, none⟩)]) (by simp [Act.eval]) (fun v w1 w2 hw hv => hv) (fun w1 hw1 _ => (HO0.out w1 (le_trans (le_drewN _ _) hw1)).mono ?_) ?_
        · rintro e w2 ⟨rfl, q, rfl⟩
          exact ⟨_, rfl, le_drewN _ _, by simp only [show ¬ (43 = 42) by decide, if_false, if_true]; simp [hc1.out]⟩
        rintro v ⟨_, _, _, hv⟩
        simp only [show ¬ (43 = 42) by decide, if_false, if_true] at hv
        obtain rfl := hv (by first | rfl | trivial)
        simp only [Act.put, List.setIfInBounds_toArray, List.set_cons_succ, List.set_cons_zero]
        refine wpFreeD_one rfl (.bool true) (fun w1 _ => by kernel_rfl) ?_
        simp only [Act.put, List.setIfInBounds_toArray, List.set_cons_succ, List.set_cons_zero]
        refine wpFreeD_one rfl (.bool true) (fun w1 _ => by kernel_rfl) ?_
        simp only [Act.put, List.setIfInBounds_toArray, List.set_cons_succ, List.set_cons_zero]
        refine wpFreeD_oneW (by kernel_rfl) (.pointer (some ⟨g0, 0, none⟩)) (fun w1 _ => by kernel_rfl) ?_
        simp only [Act.put, List.setIfInBounds_toArray, List.set_cons_succ, List.set_cons_zero]
        refine wpFreeD_oneW (by kernel_rfl) (.pointer (some ⟨g0, 0, none⟩)) (fun w1 _ => by kernel_rfl) ?_
        simp only [Act.put, List.setIfInBounds_toArray, List.set_cons_succ, List.set_cons_zero]
        refine wpFreeD_oneW (by kernel_rfl) (.pointer (some ⟨g0, 4, none⟩)) (fun w1 _ => by kernel_rfl) ?_
        simp only [Act.put, List.setIfInBounds_toArray, List.set_cons_succ, List.set_cons_zero]
        refine wpFreeD_oneW (by kernel_rfl) (.pointer (some ⟨g0, 4, none⟩)) (fun w1 _ => by kernel_rfl) ?_
        simp only [Act.put, List.setIfInBounds_toArray, List.set_cons_succ, List.set_cons_zero]
        refine wpFreeD_load1W (by kernel_rfl) rfl rfl (p := ⟨g0, 4, none⟩) (fun w1 h1 => (hRw.out w1 (le_trans (le_drewN _ _) h1)).cell? 4) ukindInt64 ?_
        simp only [Act.put, List.setIfInBounds_toArray, List.set_cons_succ, List.set_cons_zero]
        refine wpFreeD_oneW (by kernel_rfl) (.bool (fk == 1)) (fun w1 _ => by kernel_rfl) ?_
        simp only [Act.put, List.setIfInBounds_toArray, List.set_cons_succ, List.set_cons_zero]
        rw [hc2.out]
        refine wpFreeD_one rfl (.bool false) (fun w1 _ => by kernel_rfl) ?_
        simp only [Act.put, List.setIfInBounds_toArray, List.set_cons_succ, List.set_cons_zero]
        refine wpFreeD_one rfl (.bool false) (fun w1 _ => by kernel_rfl) ?_
        simp only [Act.put, List.setIfInBounds_toArray, List.set_cons_succ, List.set_cons_zero]
        refine wpFreeD_skip (by kernel_rfl) ?_
        simp only [Act.put, List.setIfInBounds_toArray, List.set_cons_succ, List.set_cons_zero]
        refine wpFreeD_skip (by kernel_rfl) ?_
        simp only [Act.put, List.setIfInBounds_toArray, List.set_cons_succ, List.set_cons_zero]
        refine wpFreeD_skip (by kernel_rfl) ?_
        simp only [Act.put, List.setIfInBounds_toArray, List.set_cons_succ, List.set_cons_zero]
        refine wpFreeD_skip (by kernel_rfl) ?_
        simp only [Act.put, List.setIfInBounds_toArray, List.set_cons_succ, List.set_cons_zero]
        refine wpFreeD_skip (by kernel_rfl) ?_
        simp only [Act.put, List.setIfInBounds_toArray, List.set_cons_succ, List.set_cons_zero]
        refine wpFreeD_skip (by kernel_rfl) ?_
        simp only [Act.put, List.setIfInBounds_toArray, List.set_cons_succ, List.set_cons_zero]
        refine wpFreeD_skip (by kernel_rfl) ?_
        simp only [Act.put, List.setIfInBounds_toArray, List.set_cons_succ, List.set_cons_zero]
        refine wpFreeD_skip (by kernel_rfl) ?_
        simp only [Act.put, List.setIfInBounds_toArray, List.set_cons_succ, List.set_cons_zero]
        refine wpFreeD_skip (by kernel_rfl) ?_
        simp only [Act.put, List.setIfInBounds_toArray, List.set_cons_succ, List.set_cons_zero]
        refine wpFreeD_skip (by kernel_rfl) ?_
        simp only [Act.put, List.setIfInBounds_toArray, List.set_cons_succ, List.set_cons_zero]
        refine wpFreeD_one rfl (.bool false) (fun w1 _ => by kernel_rfl) ?_
        simp only [Act.put, List.setIfInBounds_toArray, List.set_cons_succ, List.set_cons_zero]
        refine wpFreeD_one rfl (.bool false) (fun w1 _ => by kernel_rfl) ?_
        simp only [Act.put, List.setIfInBounds_toArray, List.set_cons_succ, List.set_cons_zero]
        refine wpFreeD_nil (fun wR hwR _ => ?_)
        have HL := hid (le_trans (le_drewN _ _) hwR)
        clear hwR
        go_wp2
        go_ret
        exact ⟨ret_b E.out.symm, HL.out⟩
      · have hc2 := hid h2; clear h2
        have E := hid (show ((fk == 1) && okF fk a b c p q && rngB x nx j && rngB y ny k && finB (two m o) 2) = finB (two m o) 2 by have h0' := hc0.out; simp only [Bool.and_eq_true] at h0'; simp [h0'.1, h0'.2, hc1.out, hc2.out])
        go_enter Try.func23, Try.ntmps23
        go_wp2_with fail
        refine region_freeD (E := leX) (fun f args _ v => if f = 42 then v = .bool true else if f = 43 then (args = #[.pointer (some ⟨g0, 4, none⟩)] → v = .bool true) else v = .bool (finB (two m o) 2)) (by kernel_rfl) (by kernel_rfl) ?_
        refine wpFreeD_one rfl (.pointer (some ⟨g0, 0, none⟩)) (fun w1 _ => by kernel_rfl) ?_
        simp only [Act.put, List.setIfInBounds_toArray, List.set_cons_succ, List.set_cons_zero]
        refine wpFreeD_one rfl (.pointer (some ⟨g0, 0, none⟩)) (fun w1 _ => by kernel_rfl) ?_
        simp only [Act.put, List.setIfInBounds_toArray, List.set_cons_succ, List.set_cons_zero]
        refine wpFreeD_one rfl (.pointer (some ⟨g0, 0, none⟩)) (fun w1 _ => by kernel_rfl) ?_
        simp only [Act.put, List.setIfInBounds_toArray, List.set_cons_succ, List.set_cons_zero]
        refine wpFreeD_loadW rfl rfl rfl [s, .int .i64 j] (fun w1 h1 => Row.at_part (hRw.out w1 (le_trans (le_drewN _ _) h1)) (partBow_Neck (s) (.int .i64 j) (t) (.int .i64 k) (.int .i64 fk) (.float .f32 a) (.float .f32 b) (.float .f32 c) (.float .f32 p) (.float .f32 q) (.float .f32 m) (.float .f32 o))) Try.underlying35 rfl uinfoRingI rfl ?_
        simp only [Act.put, List.setIfInBounds_toArray, List.set_cons_succ, List.set_cons_zero]
        refine wpFreeD_one rfl (.pointer (some ⟨g0, 0, none⟩)) (fun w1 _ => by kernel_rfl) ?_
        simp only [Act.put, List.setIfInBounds_toArray, List.set_cons_succ, List.set_cons_zero]
        refine wpFreeD_one rfl (.pointer (some ⟨g0, 0, none⟩)) (fun w1 _ => by kernel_rfl) ?_
        simp only [Act.put, List.setIfInBounds_toArray, List.set_cons_succ, List.set_cons_zero]
        refine wpFreeD_one rfl (.pointer (some ⟨g0, 2, none⟩)) (fun w1 _ => by kernel_rfl) ?_
        simp only [Act.put, List.setIfInBounds_toArray, List.set_cons_succ, List.set_cons_zero]
        refine wpFreeD_loadW rfl rfl rfl [t, .int .i64 k] (fun w1 h1 => Row.at_part (hRw.out w1 (le_trans (le_drewN _ _) h1)) (partBow_Bridge (s) (.int .i64 j) (t) (.int .i64 k) (.int .i64 fk) (.float .f32 a) (.float .f32 b) (.float .f32 c) (.float .f32 p) (.float .f32 q) (.float .f32 m) (.float .f32 o))) Try.underlying35 rfl uinfoRingI rfl ?_
        simp only [Act.put, List.setIfInBounds_toArray, List.set_cons_succ, List.set_cons_zero]
        refine wpFreeD_madeW (by kernel_rfl) (fun b => .slice (some ⟨b, 0, none⟩) 2 2) 35 #[s, .int .i64 j, t, .int .i64 k] (fun w1 => by kernel_rfl) (fun bR => ?_)
        simp only [Act.put, List.setIfInBounds_toArray, List.set_cons_succ, List.set_cons_zero]
        refine wpFreeD_callW (by kernel_rfl) rfl Try.func42 (by kernel_rfl) (by kernel_rfl) (args := #[.slice (some ⟨bR, 0, none⟩) 2 2]) (by simp [Act.eval]) (fun v w1 w2 hw hv => hv) (fun w1 hw1 hbe => ?_) ?_
        · obtain ⟨b', e1, hrow⟩ := (hbe ⟨8, Ground.data⟩ (by simp) (by kernel_rfl)).2 rfl
          obtain rfl : bR = b' := by simpa using e1
          refine (s_l04Rings _ _ _ _ w1 (HRD.out bR w1 (le_trans (le_drewN _ _) hw1) hrow) (rg2_ok _ _ _ _ _ _)).mono ?_
          rintro e w2 ⟨rfl, q, rfl⟩
          exact ⟨_, rfl, le_drewN _ _, by simp only [if_true]; rw [rg2_all, hc0.out]⟩
        rintro v ⟨_, _, _, hv⟩
        simp only [if_true] at hv
        subst hv
        simp only [Act.put, List.setIfInBounds_toArray, List.set_cons_succ, List.set_cons_zero]
        refine wpFreeD_one rfl (.bool true) (fun w1 _ => by kernel_rfl) ?_
        simp only [Act.put, List.setIfInBounds_toArray, List.set_cons_succ, List.set_cons_zero]
        refine wpFreeD_oneW (by kernel_rfl) (.pointer (some ⟨g0, 0, none⟩)) (fun w1 _ => by kernel_rfl) ?_
        simp only [Act.put, List.setIfInBounds_toArray, List.set_cons_succ, List.set_cons_zero]
        refine wpFreeD_oneW (by kernel_rfl) (.pointer (some ⟨g0, 0, none⟩)) (fun w1 _ => by kernel_rfl) ?_
        simp only [Act.put, List.setIfInBounds_toArray, List.set_cons_succ, List.set_cons_zero]
        refine wpFreeD_oneW (by kernel_rfl) (.pointer (some ⟨g0, 4, none⟩)) (fun w1 _ => by kernel_rfl) ?_
        simp only [Act.put, List.setIfInBounds_toArray, List.set_cons_succ, List.set_cons_zero]
        refine wpFreeD_callW (by kernel_rfl) rfl Try.func43 (by kernel_rfl) (by kernel_rfl) (args := #[.pointer (some ⟨g0, 4, none⟩)]) (by simp [Act.eval]) (fun v w1 w2 hw hv => hv) (fun w1 hw1 _ => (HO0.out w1 (le_trans (le_drewN _ _) hw1)).mono ?_) ?_
        · rintro e w2 ⟨rfl, q, rfl⟩
          exact ⟨_, rfl, le_drewN _ _, by simp only [show ¬ (43 = 42) by decide, if_false, if_true]; simp [hc1.out]⟩
        rintro v ⟨_, _, _, hv⟩
        simp only [show ¬ (43 = 42) by decide, if_false, if_true] at hv
        obtain rfl := hv (by first | rfl | trivial)
        simp only [Act.put, List.setIfInBounds_toArray, List.set_cons_succ, List.set_cons_zero]
        refine wpFreeD_one rfl (.bool true) (fun w1 _ => by kernel_rfl) ?_
        simp only [Act.put, List.setIfInBounds_toArray, List.set_cons_succ, List.set_cons_zero]
        refine wpFreeD_one rfl (.bool true) (fun w1 _ => by kernel_rfl) ?_
        simp only [Act.put, List.setIfInBounds_toArray, List.set_cons_succ, List.set_cons_zero]
        refine wpFreeD_oneW (by kernel_rfl) (.pointer (some ⟨g0, 0, none⟩)) (fun w1 _ => by kernel_rfl) ?_
        simp only [Act.put, List.setIfInBounds_toArray, List.set_cons_succ, List.set_cons_zero]
        refine wpFreeD_oneW (by kernel_rfl) (.pointer (some ⟨g0, 0, none⟩)) (fun w1 _ => by kernel_rfl) ?_
        simp only [Act.put, List.setIfInBounds_toArray, List.set_cons_succ, List.set_cons_zero]
        refine wpFreeD_oneW (by kernel_rfl) (.pointer (some ⟨g0, 4, none⟩)) (fun w1 _ => by kernel_rfl) ?_
        simp only [Act.put, List.setIfInBounds_toArray, List.set_cons_succ, List.set_cons_zero]
        refine wpFreeD_oneW (by kernel_rfl) (.pointer (some ⟨g0, 4, none⟩)) (fun w1 _ => by kernel_rfl) ?_
        simp only [Act.put, List.setIfInBounds_toArray, List.set_cons_succ, List.set_cons_zero]
        refine wpFreeD_load1W (by kernel_rfl) rfl rfl (p := ⟨g0, 4, none⟩) (fun w1 h1 => (hRw.out w1 (le_trans (le_drewN _ _) h1)).cell? 4) ukindInt64 ?_
        simp only [Act.put, List.setIfInBounds_toArray, List.set_cons_succ, List.set_cons_zero]
        refine wpFreeD_oneW (by kernel_rfl) (.bool (fk == 1)) (fun w1 _ => by kernel_rfl) ?_
        simp only [Act.put, List.setIfInBounds_toArray, List.set_cons_succ, List.set_cons_zero]
        rw [hc2.out]
        refine wpFreeD_one rfl (.bool true) (fun w1 _ => by kernel_rfl) ?_
        simp only [Act.put, List.setIfInBounds_toArray, List.set_cons_succ, List.set_cons_zero]
        refine wpFreeD_one rfl (.bool true) (fun w1 _ => by kernel_rfl) ?_
        simp only [Act.put, List.setIfInBounds_toArray, List.set_cons_succ, List.set_cons_zero]
        refine wpFreeD_oneW (by kernel_rfl) (.pointer (some ⟨g0, 0, none⟩)) (fun w1 _ => by kernel_rfl) ?_
        simp only [Act.put, List.setIfInBounds_toArray, List.set_cons_succ, List.set_cons_zero]
        refine wpFreeD_oneW (by kernel_rfl) (.pointer (some ⟨g0, 0, none⟩)) (fun w1 _ => by kernel_rfl) ?_
        simp only [Act.put, List.setIfInBounds_toArray, List.set_cons_succ, List.set_cons_zero]
        refine wpFreeD_oneW (by kernel_rfl) (.pointer (some ⟨g0, 10, none⟩)) (fun w1 _ => by kernel_rfl) ?_
        simp only [Act.put, List.setIfInBounds_toArray, List.set_cons_succ, List.set_cons_zero]
        refine wpFreeD_load1W (by kernel_rfl) rfl rfl (p := ⟨g0, 10, none⟩) (fun w1 h1 => (hRw.out w1 (le_trans (le_drewN _ _) h1)).cell? 10) ukindFloat32 ?_
        simp only [Act.put, List.setIfInBounds_toArray, List.set_cons_succ, List.set_cons_zero]
        refine wpFreeD_oneW (by kernel_rfl) (.pointer (some ⟨g0, 0, none⟩)) (fun w1 _ => by kernel_rfl) ?_
        simp only [Act.put, List.setIfInBounds_toArray, List.set_cons_succ, List.set_cons_zero]
        refine wpFreeD_oneW (by kernel_rfl) (.pointer (some ⟨g0, 0, none⟩)) (fun w1 _ => by kernel_rfl) ?_
        simp only [Act.put, List.setIfInBounds_toArray, List.set_cons_succ, List.set_cons_zero]
        refine wpFreeD_oneW (by kernel_rfl) (.pointer (some ⟨g0, 11, none⟩)) (fun w1 _ => by kernel_rfl) ?_
        simp only [Act.put, List.setIfInBounds_toArray, List.set_cons_succ, List.set_cons_zero]
        refine wpFreeD_load1W (by kernel_rfl) rfl rfl (p := ⟨g0, 11, none⟩) (fun w1 h1 => (hRw.out w1 (le_trans (le_drewN _ _) h1)).cell? 11) ukindFloat32 ?_
        simp only [Act.put, List.setIfInBounds_toArray, List.set_cons_succ, List.set_cons_zero]
        refine wpFreeD_madeW (by kernel_rfl) (fun b => .slice (some ⟨b, 0, none⟩) 2 2) 25 #[.float .f32 m, .float .f32 o] (fun w1 => by kernel_rfl) (fun bN => ?_)
        simp only [Act.put, List.setIfInBounds_toArray, List.set_cons_succ, List.set_cons_zero]
        refine wpFreeD_callW (by kernel_rfl) rfl Try.func44 (by kernel_rfl) (by kernel_rfl) (args := #[.slice (some ⟨bN, 0, none⟩) 2 2]) (by simp [Act.eval]) (fun v w1 w2 hw hv => hv) (fun w1 hw1 hbe => ?_) ?_
        · obtain ⟨b', e1, hrow⟩ := (hbe ⟨33, Ground.data⟩ (by simp) (by kernel_rfl)).2 rfl
          obtain rfl : bN = b' := by simpa using e1
          refine (HN.out bN w1 hrow).mono ?_
          rintro e w2 ⟨rfl, q, rfl⟩
          exact ⟨_, rfl, le_drewN _ _, by simp only [show ¬ (44 = 42) by decide, show ¬ (44 = 43) by decide, if_false]⟩
        rintro v ⟨_, _, _, hv⟩
        simp only [show ¬ (44 = 42) by decide, show ¬ (44 = 43) by decide, if_false] at hv
        subst hv
        simp only [Act.put, List.setIfInBounds_toArray, List.set_cons_succ, List.set_cons_zero]
        refine wpFreeD_one rfl (.bool (finB (two m o) 2)) (fun w1 _ => by kernel_rfl) ?_
        simp only [Act.put, List.setIfInBounds_toArray, List.set_cons_succ, List.set_cons_zero]
        refine wpFreeD_one rfl (.bool (finB (two m o) 2)) (fun w1 _ => by kernel_rfl) ?_
        simp only [Act.put, List.setIfInBounds_toArray, List.set_cons_succ, List.set_cons_zero]
        refine wpFreeD_nil (fun wR hwR _ => ?_)
        have HL := hid (le_trans (le_drewN _ _) hwR)
        clear hwR
        go_wp2
        go_ret
        exact ⟨ret_b E.out.symm, HL.out⟩
theorem bow_data {cs : List CD} (h : HasShL shBow cs) : ∃ (xs ys : Nat → CD) (nx ny : Nat) (j k : Int) (fk : Int) (a b c p q : Nat) (m o : Nat), cs = [.sl 1 nx xs, .int .i64 j, .sl 1 ny ys, .int .i64 k, .int .i64 fk, .flt .f32 a, .flt .f32 b, .flt .f32 c, .flt .f32 p, .flt .f32 q, .flt .f32 m, .flt .f32 o] ∧ (∀ i, i < nx → (xs i).flk = some .f32) ∧ (∀ i, i < ny → (ys i).flk = some .f32) := by
  obtain ⟨c0, cs, rfl, q0, h⟩ := h.inv
  obtain ⟨c1, cs, rfl, q1, h⟩ := h.inv
  obtain ⟨c2, cs, rfl, q2, h⟩ := h.inv
  obtain ⟨c3, cs, rfl, q3, h⟩ := h.inv
  obtain ⟨c4, cs, rfl, q4, h⟩ := h.inv
  obtain ⟨c5, cs, rfl, q5, h⟩ := h.inv
  obtain ⟨c6, cs, rfl, q6, h⟩ := h.inv
  obtain ⟨c7, cs, rfl, q7, h⟩ := h.inv
  obtain ⟨c8, cs, rfl, q8, h⟩ := h.inv
  obtain ⟨c9, cs, rfl, q9, h⟩ := h.inv
  obtain ⟨c10, cs, rfl, q10, h⟩ := h.inv
  obtain ⟨c11, cs, rfl, q11, h⟩ := h.inv
  obtain rfl := h.inv0
  obtain ⟨nx, xs, rfl, r0⟩ := q0
  obtain ⟨ny, ys, rfl, r2⟩ := q2
  obtain ⟨j, rfl⟩ := q1
  obtain ⟨k, rfl⟩ := q3
  obtain ⟨fk, rfl⟩ := q4
  obtain ⟨a, rfl⟩ := q5
  obtain ⟨b, rfl⟩ := q6
  obtain ⟨c, rfl⟩ := q7
  obtain ⟨p, rfl⟩ := q8
  obtain ⟨q, rfl⟩ := q9
  obtain ⟨m, rfl⟩ := q10
  obtain ⟨o, rfl⟩ := q11
  exact ⟨xs, ys, nx, ny, j, k, fk, a, b, c, p, q, m, o, rfl, fun i hi => ShOk.flts (fun i hi j hj => (r0 i hi j hj).ok) rfl i hi, fun i hi => ShOk.flts (fun i hi j hj => (r2 i hi j hj).ok) rfl i hi⟩
theorem bow_open {xs ys : Nat → CD} {nx ny : Nat} {j k : Int} {fk : Int} {a b c p q : Nat} {m o : Nat} {w : World} {B : Nat} {u : List Value} (h : RdLN w B (([.sl 1 nx xs, .int .i64 j, .sl 1 ny ys, .int .i64 k, .int .i64 fk, .flt .f32 a, .flt .f32 b, .flt .f32 c, .flt .f32 p, .flt .f32 q, .flt .f32 m, .flt .f32 o] : List CD).map CD.cp) u) (hx : ∀ i, i < nx → (xs i).flk = some .f32) (hy : ∀ i, i < ny → (ys i).flk = some .f32) : ∃ s t : Value, u = [s, .int .i64 j, t, .int .i64 k, .int .i64 fk, .float .f32 a, .float .f32 b, .float .f32 c, .float .f32 p, .float .f32 q, .float .f32 m, .float .f32 o] ∧ (slT (fun i => (xs i).fx) nx).RdN w B s ∧ (slT (fun i => (ys i).fx) ny).RdN w B t ∧ ((Lit.int .i64 j).wf = true ∧ (Lit.int .i64 k).wf = true) ∧ (fits .f32 a ∧ fits .f32 b ∧ fits .f32 c ∧ fits .f32 p ∧ fits .f32 q ∧ fits .f32 m ∧ fits .f32 o) := by
  simp only [List.map_cons, List.map_nil] at h
  obtain ⟨v0, u0, rfl, q0, hh0⟩ := h.inv
  obtain ⟨v1, u1, rfl, q1, hh1⟩ := hh0.inv
  obtain ⟨v2, u2, rfl, q2, hh2⟩ := hh1.inv
  obtain ⟨v3, u3, rfl, q3, hh3⟩ := hh2.inv
  obtain ⟨v4, u4, rfl, q4, hh4⟩ := hh3.inv
  obtain ⟨v5, u5, rfl, q5, hh5⟩ := hh4.inv
  obtain ⟨v6, u6, rfl, q6, hh6⟩ := hh5.inv
  obtain ⟨v7, u7, rfl, q7, hh7⟩ := hh6.inv
  obtain ⟨v8, u8, rfl, q8, hh8⟩ := hh7.inv
  obtain ⟨v9, u9, rfl, q9, hh9⟩ := hh8.inv
  obtain ⟨v10, u10, rfl, q10, hh10⟩ := hh9.inv
  obtain ⟨v11, u11, rfl, q11, hh11⟩ := hh10.inv
  obtain rfl := hh11.inv0
  obtain ⟨rfl, f1⟩ := q1
  obtain ⟨rfl, f3⟩ := q3
  obtain ⟨rfl, f4⟩ := q4
  obtain ⟨rfl, f5⟩ := q5
  obtain ⟨rfl, f6⟩ := q6
  obtain ⟨rfl, f7⟩ := q7
  obtain ⟨rfl, f8⟩ := q8
  obtain ⟨rfl, f9⟩ := q9
  obtain ⟨rfl, f10⟩ := q10
  obtain ⟨rfl, f11⟩ := q11
  exact ⟨v0, v2, rfl, q0.congr (slT_cp hx), q2.congr (slT_cp hy), ⟨f1, f3⟩, f5, f6, f7, f8, f9, f10, f11⟩
end Go.Proofs.Ythjdklolbkhbfaa

/- Results of a Bow, as trees. -/
namespace Go.Fk
open Go Go.RowKit
def cdBow (x y : Nat → Nat) (nx ny : Nat) (j k : Int) (fk : Int) (a b c p q : Nat) (m o : Nat) : List CD := [.sl 1 nx (fun i => .fcn .f32 (x i)), .int .i64 j, .sl 1 ny (fun i => .fcn .f32 (y i)), .int .i64 k, .int .i64 fk, .flt .f32 a, .flt .f32 b, .flt .f32 c, .flt .f32 p, .flt .f32 q, .flt .f32 m, .flt .f32 o]
end Go.Fk
namespace Go.Proofs.Ythjdklolbkhbfaa
open Go.RowKit Go.Fk
theorem cdBow_sh (x y : Nat → Nat) (nx ny : Nat) (j k : Int) (fk : Int) (a b c p q : Nat) (m o : Nat) : ShOkL shBow (cdBow x y nx ny j k fk a b c p q m o) :=
  (ShOkL.cons ⟨_, _, rfl, fun i hi j hj => by obtain rfl : j = 0 := (by omega); rfl⟩ (ShOkL.cons ⟨_, rfl⟩ (ShOkL.cons ⟨_, _, rfl, fun i hi j hj => by obtain rfl : j = 0 := (by omega); rfl⟩ (ShOkL.cons ⟨_, rfl⟩ (ShOkL.cons ⟨_, rfl⟩ (ShOkL.cons rfl (ShOkL.cons rfl (ShOkL.cons rfl (ShOkL.cons rfl (ShOkL.cons rfl (ShOkL.cons rfl (ShOkL.cons rfl ShOkL.nil))))))))))))
theorem cdBow_sz (x y : Nat → Nat) (nx ny : Nat) (j k : Int) (fk : Int) (a b c p q : Nat) (m o : Nat) : szL (cdBow x y nx ny j k fk a b c p q m o) = nx + ny := by
  have e1 := CD.sz_flts (n := nx) (x := fun i => CD.fcn .f32 (x i)) (fun i _ => rfl)
  have e2 := CD.sz_flts (n := ny) (x := fun i => CD.fcn .f32 (y i)) (fun i _ => rfl)
  simp only [cdBow, szL, List.map_cons, List.map_nil, List.sum_cons, List.sum_nil, e1, e2]
  simp [CD.sz]
theorem layBow (x y : Nat → Nat) (nx ny : Nat) (j k : Int) (fk : Int) (a b c p q : Nat) (m o : Nat) {lo : Nat} {s t : Value} {w : World} (h : Two lo x nx y ny s t w) (wi : (Lit.int .i64 j).wf = true ∧ (Lit.int .i64 k).wf = true ∧ (Lit.int .i64 fk).wf = true) (hf : fits .f32 a ∧ fits .f32 b ∧ fits .f32 c ∧ fits .f32 p ∧ fits .f32 q ∧ fits .f32 m ∧ fits .f32 o) : LayL w (rng lo w.heap.size) (cdBow x y nx ny j k fk a b c p q m o) [s, .int .i64 j, t, .int .i64 k, .int .i64 fk, .float .f32 a, .float .f32 b, .float .f32 c, .float .f32 p, .float .f32 q, .float .f32 m, .float .f32 o] := by
  obtain ⟨wj, wk, wfk⟩ := wi
  obtain ⟨fa, fb, fc, fp, fq, fm, fo⟩ := hf
  obtain ⟨bq, dq, h1, h2, h3, h4, h5, h6, h7⟩ := h
  have e1 : LayL w (rng dq (dq + 1)) ([.sl 1 ny (fun i => .fcn .f32 (y i)), .int .i64 k, .int .i64 fk, .flt .f32 a, .flt .f32 b, .flt .f32 c, .flt .f32 p, .flt .f32 q, .flt .f32 m, .flt .f32 o] : List CD) [t, .int .i64 k, .int .i64 fk, .float .f32 a, .float .f32 b, .float .f32 c, .float .f32 p, .float .f32 q, .float .f32 m, .float .f32 o] := LayL.cons h2.lay (LayL.leaf ⟨rfl, wk⟩ (LayL.leaf ⟨rfl, wfk⟩ (LayL.leaf ⟨rfl, fa⟩ (LayL.leaf ⟨rfl, fb⟩ (LayL.leaf ⟨rfl, fc⟩ (LayL.leaf ⟨rfl, fp⟩ (LayL.leaf ⟨rfl, fq⟩ (LayL.leaf ⟨rfl, fm⟩ (LayL.leaf ⟨rfl, fo⟩ (LayL.nil _ (fun _ => False))))))))))) (fun _ h => h) (fun _ h => h.elim) (fun _ _ h => h)
  exact LayL.cons (S1 := rng bq (bq + 1)) (S2 := rng dq (dq + 1)) h1.lay (LayL.leaf ⟨rfl, wj⟩ e1) (fun j h => ⟨Nat.le_trans h4 h.1, by have := h.2; omega⟩) (fun j h => ⟨Nat.le_trans h6 h.1, by have := h.2; omega⟩) (fun j h h2 => by have a1 := h.1; have a2 := h.2; have b1 := h2.1; have b2 := h2.2; omega)
theorem layBow0 (w : World) (S : Nat → Prop) : LayL w S (cdBow (fun _ => 0) (fun _ => 0) 0 0 0 0 0 0 0 0 0 0 0 0) [.slice none 0 0, .int .i64 0, .slice none 0 0, .int .i64 0, .int .i64 0, .float .f32 0, .float .f32 0, .float .f32 0, .float .f32 0, .float .f32 0, .float .f32 0, .float .f32 0] :=
  (LayL.leaf (.inl ⟨rfl, rfl⟩) (LayL.leaf ⟨rfl, by decide⟩ (LayL.leaf (.inl ⟨rfl, rfl⟩) (LayL.leaf ⟨rfl, by decide⟩ (LayL.leaf ⟨rfl, by decide⟩ (LayL.leaf ⟨rfl, by simp [fits, Lit.wf]⟩ (LayL.leaf ⟨rfl, by simp [fits, Lit.wf]⟩ (LayL.leaf ⟨rfl, by simp [fits, Lit.wf]⟩ (LayL.leaf ⟨rfl, by simp [fits, Lit.wf]⟩ (LayL.leaf ⟨rfl, by simp [fits, Lit.wf]⟩ (LayL.leaf ⟨rfl, by simp [fits, Lit.wf]⟩ (LayL.leaf ⟨rfl, by simp [fits, Lit.wf]⟩ (LayL.nil _ _)))))))))))))
theorem okBow_j {x y : Nat → Nat} {nx ny : Nat} {j k : Int} {fk : Int} {a b c p q : Nat} {m o : Nat} (h : okBow x y nx ny j k fk a b c p q m o = true) : 1 ≤ nx ∧ nx ≤ 1024 ∧ 1 ≤ ny ∧ ny ≤ 1024 ∧ (∃ i : Nat, j = i ∧ i < nx) ∧ (∃ i : Nat, k = i ∧ i < ny) ∧ fk = 1 ∧ okF 1 a b c p q = true := by
  unfold okBow at h
  simp only [Bool.and_eq_true, beq_iff_eq] at h
  obtain ⟨⟨⟨⟨⟨q0, q1⟩, q2⟩, q3⟩, q4⟩, q5⟩ := h
  obtain ⟨a1, a2, i, rfl, a3⟩ := rngB_j q2
  obtain ⟨b1, b2, i2, rfl, b3⟩ := rngB_j q3
  subst q0
  exact ⟨a1, a2, b1, b2, ⟨i, rfl, a3⟩, ⟨i2, rfl, b3⟩, rfl, q1⟩
end Go.Proofs.Ythjdklolbkhbfaa

/- The smaller of two floats, up to the bits of NaN. Nothing here names a program. -/
namespace Go.Fk
open Go Go.RowKit
/-- The smaller one. -/
def fmin (k : FloatKind) (x y : Nat) : Nat := match k.format.order x y with
  | none => qnan k
  | some .lt => x
  | some .gt => y
  | some .eq => if (k.decode x).neg then x else y
theorem nan_minmax (k : FloatKind) (b : Bool) (x y t : Nat) : isNan k (Question.cut (.nanMinMax k b x y) t) = true ∧ fits k (Question.cut (.nanMinMax k b x y) t) := by
  have := nan_bits k x y t
  cases k <;> exact this
section
variable {P : Program}
theorem run_min2 (k : FloatKind) (x y : Nat) (hx : fits k x) (hy : fits k y) (w : World) : ∃ r n, (Builtin.min2 (.float k x) (.float k y)).run P w = .ok (.float k r) (w.drewN n) ∧ Hid (can k r = can k (fmin k x y)) ∧ Hid (fits k r) := by
  cases h : k.format.order x y with
  | none =>
    refine ⟨(Question.nanMinMax k false x y).cut (w.tape w.drawn (.nanMinMax k false x y)), 1, ?_, ?_, (nan_minmax k false x y _).2⟩
    · simp [Builtin.min2, h, Question.forced]; rfl
    · show can k _ = can k _
      rw [can_of_nan (nan_minmax k false x y _).1]; simp only [fmin, h]; exact (can_qnan k).symm
  | some o =>
    cases o with
    | lt => exact ⟨x, 0, by simp [Builtin.min2, h]; rfl, by show can k _ = can k _; simp only [fmin, h], hx⟩
    | gt => exact ⟨y, 0, by simp [Builtin.min2, h]; rfl, by show can k _ = can k _; simp only [fmin, h], hy⟩
    | eq =>
      refine ⟨if (k.decode x).neg then x else y, 0, by simp [Builtin.min2, h]; rfl, by show can k _ = can k _; simp only [fmin, h], ?_⟩
      show fits k _
      split
      · exact hx
      · exact hy
theorem wpList_min {w : World} {ops : Array Oper} {rest : List Oper} {o : Oper} {a : Act} {Q : Exit → Act → World → Prop}
    (hg : o.guard = none) {x y : Operand} {ts : Array TypeId} (hop : o.op = Op.call { callee := Callee.builtin Builtin.min, args := #[x, y], argTypes := ts })
    {k : FloatKind} {p q : Nat} (hx : a.eval x = .float k p) (hy : a.eval y = .float k q) (fp : fits k p) (fq : fits k q)
    (hK : ∀ r n, Hid (can k r = can k (fmin k p q)) → Hid (fits k r) → wpList P ops Q rest (a.put o.dst (.float k r)) (w.drewN n)) : wpList P ops Q (o :: rest) a w := by
  refine wpList_plain hg fun K hK' => ?_
  obtain ⟨r, n, hrun, hr, hf⟩ := run_min2 (P := P) k p q fp fq w
  unfold Oper.wp
  simp [execOp, hop, hx, hy, Result.andThen, resolve, invoke, builtin, Builtin.min_, hrun]
  exact hK' _ _ (hK r n hr hf)
/-- An element of an array value. -/
theorem run_index_arrG (w : World) {t e : TypeId} {n k : Nat} {cs : Array Value} {v : Value} (h : P.underlying t = some (.array n e)) (ha : ∀ w, (isAgg e).run P w = .ok false w) (hs : (P.info? e).map (·.size) = some 1)
    (hk : k < n) (hc : cs[k]? = some v) (kk : IntKind) : (Instr.index t (.agg cs) (.int kk (k : Int))).run P w = .ok v w := by
  cases hq : P.info? e with
  | none => simp [hq] at hs
  | some i =>
    have hsz : i.size = 1 := by simpa [hq] using hs
    have h2 : (k : Int) < n := by omega
    simp [Instr.index, asIntOf, run_underlying h, sizeOf, typeInfo, hq, hsz, part, ha, h2, hc]
    exact fun h => by omega
theorem wpList_indexArr {w : World} {ops : Array Oper} {rest : List Oper} {o : Oper} {a : Act} {Q : Exit → Act → World → Prop}
    (hg : o.guard = none) {t : TypeId} {x y : Operand} (hop : o.op = .index t x y) {cs : Array Value} {kk : IntKind} {k : Nat} (hx : a.eval x = .agg cs) (hy : a.eval y = .int kk (k : Int)) {n : Nat} {e : TypeId} (hu : P.underlying t = some (.array n e)) (hs : (P.info? e).map (·.size) = some 1) (ha : ∀ w, (isAgg e).run P w = .ok false w) (hk : k < n) {v : Value} (hc : cs[k]? = some v)
    (h : wpList P ops Q rest (a.put o.dst v) w) : wpList P ops Q (o :: rest) a w := by
  refine wpList_plain hg fun K hK' => ?_
  unfold Oper.wp
  have := run_index_arrG (P := P) w hu ha hs hk hc kk
  simp [execOp, hop, hx, hy, this, Result.andThen]
  exact hK' _ _ h
end
end Go.Fk

/- Exactness: what a format has is written as it stands. Nothing here names a program. -/
namespace Go.Fk
open Go Go.RowKit

theorem cut_zero (s : Bool) (n : Nat) : Ieee.Toward.even.cut s n 0 = n := by
  simp [Ieee.Toward.cut, Nat.mod_one]

/-- What is cut off leaves nothing behind: the quotient. -/
theorem cut_exact (s : Bool) (n d : Nat) : Ieee.Toward.even.cut s (n * 2 ^ d) d = n := by
  by_cases hn : n = 0
  · subst hn
    have hp := Nat.two_pow_pos (min d (Nat.log2 0 + 2))
    simp only [Ieee.Toward.cut, Nat.zero_mul, Nat.one_shiftLeft, Nat.zero_div, Nat.zero_mod]
    simp
  · have h0 : n * 2 ^ d ≠ 0 := Nat.mul_ne_zero hn (Nat.ne_of_gt (Nat.two_pow_pos d))
    have hd : d ≤ (n * 2 ^ d).log2 := by
      refine (Nat.le_log2 h0).2 ?_
      exact Nat.le_mul_of_pos_left _ (by omega)
    have hp := Nat.two_pow_pos d
    simp only [Ieee.Toward.cut, Nat.one_shiftLeft]
    rw [Nat.min_eq_left (by omega), Nat.mul_div_cancel _ hp, Nat.mul_mod_left]
    simp

theorem cut_scale (s : Bool) (n d j : Nat) (hn : n ≠ 0) : Ieee.Toward.even.cut s (n * 2 ^ j) (d + j) = Ieee.Toward.even.cut s n d := by
  have hl : (n * 2 ^ j).log2 = n.log2 + j := by
    have h0 : n * 2 ^ j ≠ 0 := Nat.mul_ne_zero hn (Nat.ne_of_gt (Nat.two_pow_pos j))
    refine (Nat.log2_eq_iff h0).2 ⟨?_, ?_⟩
    · rw [Nat.pow_add]; exact Nat.mul_le_mul_right _ (Nat.log2_self_le hn)
    · rw [show n.log2 + j + 1 = (n.log2 + 1) + j by omega, Nat.pow_add]
      exact Nat.mul_lt_mul_of_pos_right Nat.lt_log2_self (Nat.two_pow_pos j)
  have hp := Nat.two_pow_pos j
  simp only [Ieee.Toward.cut, Nat.one_shiftLeft, hl]
  rw [show min (d + j) (n.log2 + j + 2) = min d (n.log2 + 2) + j by omega, Nat.pow_add, Nat.mul_div_mul_right _ _ hp, Nat.mul_mod_mul_right]
  generalize 2 ^ min d (n.log2 + 2) = g
  have e1 : decide (g * 2 ^ j < 2 * (n % g * 2 ^ j)) = decide (g < 2 * (n % g)) := by
    rw [← Nat.mul_assoc]
    exact decide_eq_decide.2 (Nat.mul_lt_mul_right hp)
  have e2 : (g * 2 ^ j == 2 * (n % g * 2 ^ j)) = (g == 2 * (n % g)) := by
    rw [← Nat.mul_assoc, Bool.eq_iff_iff, beq_iff_eq, beq_iff_eq]
    exact Nat.mul_left_inj (by omega)
  rw [e1, e2]

theorem log2_scale {n : Nat} (hn : n ≠ 0) (j : Nat) : (n * 2 ^ j).log2 = n.log2 + j := by
  have h0 : n * 2 ^ j ≠ 0 := Nat.mul_ne_zero hn (Nat.ne_of_gt (Nat.two_pow_pos j))
  refine (Nat.log2_eq_iff h0).2 ⟨?_, ?_⟩
  · rw [Nat.pow_add]; exact Nat.mul_le_mul_right _ (Nat.log2_self_le hn)
  · rw [show n.log2 + j + 1 = (n.log2 + 1) + j by omega, Nat.pow_add]
    exact Nat.mul_lt_mul_of_pos_right Nat.lt_log2_self (Nat.two_pow_pos j)

/-- What is written speaks of the number alone, not of how it is split. -/
theorem nearest_scale (f : Ieee.Format) (s : Bool) (m j : Nat) (e : Int) : f.nearest s (m * 2 ^ j) (e - j) = f.nearest s m e := by
  by_cases hm : m = 0
  · subst hm; simp [Ieee.Format.nearest]
  have h0 : m * 2 ^ j ≠ 0 := Nat.mul_ne_zero hm (Nat.ne_of_gt (Nat.two_pow_pos j))
  unfold Ieee.Format.nearest
  rw [if_neg hm, if_neg h0, log2_scale hm]
  rw [show e - (j : Int) + ((m.log2 + j : Nat) : Int) - f.fractionBits = e + m.log2 - f.fractionBits by omega]
  generalize max (e + (m.log2 : Int) - f.fractionBits) f.leastPlace = last
  dsimp only
  congr 3
  simp only [Nat.shiftLeft_eq]
  by_cases h1 : e ≤ last
  · rw [show (e - (j : Int) - last).toNat = 0 by omega, show (e - last).toNat = 0 by omega, show (last - (e - (j : Int))).toNat = (last - e).toNat + j by omega]
    simpa using cut_scale s m _ j hm
  · by_cases h2 : last ≤ e - j
    · rw [show (last - (e - (j : Int))).toNat = 0 by omega, show (last - e).toNat = 0 by omega, cut_zero, cut_zero, Nat.mul_assoc, ← Nat.pow_add,
        show j + (e - (j : Int) - last).toNat = (e - last).toNat by omega]
    · rw [show (e - (j : Int) - last).toNat = 0 by omega, show (last - e).toNat = 0 by omega, cut_zero, Nat.pow_zero, Nat.mul_one,
        show j = (e - last).toNat + (last - (e - (j : Int))).toNat by omega, Nat.pow_add, ← Nat.mul_assoc]
      rw [show (last - (e - (((e - last).toNat + (last - (e - (j : Int))).toNat : Nat) : Int))).toNat = (last - (e - (j : Int))).toNat by omega]
      exact cut_exact s _ _

/-- The place of the last digit that is kept. -/
def lastOf (f : Ieee.Format) (m : Nat) (e : Int) : Int := max (e + m.log2 - f.fractionBits) f.leastPlace

/-- A number that the format has is read as it was written, shifted to the format's own place. -/
theorem read_nearest (f : Ieee.Format) (s : Bool) (m : Nat) (e : Int) (hm : m ≠ 0) (hp : m.log2 ≤ f.fractionBits) (he : f.leastPlace ≤ e)
    (ho : e + m.log2 - f.fractionBits ≤ f.leastPlace + 2 ^ f.exponentBits - 3) (hx : 2 ≤ f.exponentBits) :
    f.read (f.nearest s m e) = .number s (m * 2 ^ (e - lastOf f m e).toNat) (lastOf f m e) ∧ f.nearest s m e % f.signWeight < f.infRung := by
  have hx4 : (4 : Int) ≤ 2 ^ f.exponentBits := by
    have h : 2 ^ 2 ≤ 2 ^ f.exponentBits := Nat.pow_le_pow_right (by omega) hx
    exact_mod_cast h
  have hb : f.binade = 2 ^ f.fractionBits := rfl
  have hbp : 0 < f.binade := by rw [hb]; exact Nat.two_pow_pos _
  have hl1 : lastOf f m e ≤ e := by unfold lastOf; omega
  have hl2 : f.leastPlace ≤ lastOf f m e := by unfold lastOf; omega
  have hl3 : lastOf f m e ≤ f.leastPlace + 2 ^ f.exponentBits - 3 := by unfold lastOf; omega
  have hlog : (m * 2 ^ (e - lastOf f m e).toNat).log2 = m.log2 + (e - lastOf f m e).toNat := log2_scale hm _
  have hM0 : m * 2 ^ (e - lastOf f m e).toNat ≠ 0 := Nat.mul_ne_zero hm (Nat.ne_of_gt (Nat.two_pow_pos _))
  have hM : m * 2 ^ (e - lastOf f m e).toNat < 2 * f.binade := by
    have h1 : m.log2 + (e - lastOf f m e).toNat ≤ f.fractionBits := by unfold lastOf; omega
    have := @Nat.lt_log2_self (m * 2 ^ (e - lastOf f m e).toNat)
    rw [hlog] at this
    calc _ < _ := this
      _ ≤ 2 ^ (f.fractionBits + 1) := Nat.pow_le_pow_right (by omega) (by omega)
      _ = 2 * f.binade := by rw [Nat.pow_succ, ← hb]; omega
  have hfull : f.leastPlace < lastOf f m e → f.binade ≤ m * 2 ^ (e - lastOf f m e).toNat := by
    intro h
    have h1 : m.log2 + (e - lastOf f m e).toNat = f.fractionBits := by unfold lastOf at h ⊢; omega
    have := Nat.log2_self_le hM0
    rw [hlog, h1, ← hb] at this
    exact this
  have hn : f.nearest s m e = f.word s (min ((lastOf f m e - f.leastPlace).toNat * f.binade + m * 2 ^ (e - lastOf f m e).toNat) f.infRung) := by
    unfold Ieee.Format.nearest
    rw [if_neg hm]
    show f.word s (min ((lastOf f m e - f.leastPlace).toNat * f.binade + Ieee.Toward.even.cut s (m <<< (e - lastOf f m e).toNat) (lastOf f m e - e).toNat) f.infRung) = _
    rw [show (lastOf f m e - e).toNat = 0 by omega, cut_zero, Nat.shiftLeft_eq]
  generalize hM' : m * 2 ^ (e - lastOf f m e).toNat = M at *
  generalize hq : (lastOf f m e - f.leastPlace).toNat = q at *
  have hq2 : q + 3 ≤ 2 ^ f.exponentBits := by
    have : (q : Int) + 3 ≤ ((2 ^ f.exponentBits : Nat) : Int) := by push_cast; omega
    exact_mod_cast this
  have hr : q * f.binade + M < f.infRung := by
    unfold Ieee.Format.infRung
    have h1 : (q + 2) * f.binade ≤ (2 ^ f.exponentBits - 1) * f.binade := Nat.mul_le_mul_right _ (by omega)
    rw [Nat.add_mul] at h1
    omega
  have hs : f.infRung < f.signWeight := Ieee.Format.infRung_lt _
  rw [Nat.min_eq_left (Nat.le_of_lt hr)] at hn
  rw [hn]
  have hmod := word_mod f s (r := q * f.binade + M) (by omega)
  refine ⟨?_, by rw [hmod]; exact hr⟩
  have hsg : (f.word s (q * f.binade + M) / f.signWeight % 2 == 1) = s := by
    unfold Ieee.Format.word
    cases s
    · simp [Nat.div_eq_of_lt (show q * f.binade + M < f.signWeight by omega)]
    · simp [Nat.add_div_left _ (show 0 < f.signWeight by omega), Nat.div_eq_of_lt (show q * f.binade + M < f.signWeight by omega)]
  unfold Ieee.Format.read
  simp only [hmod, hsg]
  by_cases hsub : q * f.binade + M < f.binade
  · rw [if_pos hsub]
    have hq0 : q = 0 := by
      apply Nat.eq_zero_of_not_pos
      intro h
      have : 1 * f.binade ≤ q * f.binade := Nat.mul_le_mul_right _ h
      omega
    rw [hq0]
    congr 1
    · simp
    · omega
  · rw [if_neg hsub, if_pos hr]
    have hMb : f.binade ≤ M := by
      by_cases h : f.leastPlace < lastOf f m e
      · exact hfull h
      · have : q = 0 := by omega
        rw [this] at hsub; omega
    have e1 : (q * f.binade + M) % f.binade = M - f.binade := by
      rw [Nat.mul_add_mod_self_right, Nat.mod_eq_sub_mod hMb, Nat.mod_eq_of_lt (by omega)]
    have e2 : (q * f.binade + M) / f.binade = q + 1 := by
      rw [Nat.mul_comm, Nat.mul_add_div hbp]
      congr 1
      rw [show M = f.binade + (M - f.binade) by omega, Nat.add_div_left _ hbp, Nat.div_eq_of_lt (by omega)]
    rw [e1, e2]
    congr 1
    · omega
    · omega

/-- What is read is written back. -/
theorem write_read (f : Ieee.Format) (hx : 2 ≤ f.exponentBits) (b : Nat) {s : Bool} {m : Nat} {e : Int} (h : f.read b = .number s m e) : f.nearest s m e = f.word s (b % f.signWeight) := by
  have hb : f.binade = 2 ^ f.fractionBits := rfl
  have hbp : 0 < f.binade := by rw [hb]; exact Nat.two_pow_pos _
  have hx4 : 4 ≤ 2 ^ f.exponentBits := Nat.pow_le_pow_right (n := 2) (by omega) hx
  have hinf : f.binade ≤ f.infRung := by
    unfold Ieee.Format.infRung
    exact Nat.le_mul_of_pos_left _ (by omega)
  unfold Ieee.Format.read at h
  dsimp only at h
  generalize b % f.signWeight = r at *
  split at h
  · rename_i h1
    simp only [Ieee.Datum.number.injEq] at h
    obtain ⟨_, rfl, rfl⟩ := h
    by_cases h0 : r = 0
    · subst h0; simp [Ieee.Format.nearest]
    · unfold Ieee.Format.nearest
      rw [if_neg h0]
      have h2 := h1
      rw [hb] at h2
      have := (Nat.log2_lt h0).2 h2
      rw [show max (f.leastPlace + (r.log2 : Int) - f.fractionBits) f.leastPlace = f.leastPlace by omega]
      simp only [Int.sub_self, Int.toNat_zero, Nat.shiftLeft_zero, cut_zero, Nat.zero_mul, Nat.zero_add]
      rw [Nat.min_eq_left (by omega)]
  · rename_i h1
    split at h
    · rename_i h2
      simp only [Ieee.Datum.number.injEq] at h
      obtain ⟨_, rfl, rfl⟩ := h
      have hlt := Nat.mod_lt r hbp
      have h0 : f.binade + r % f.binade ≠ 0 := by omega
      have e1 : (f.binade + r % f.binade).log2 = f.fractionBits := by
        refine (Nat.log2_eq_iff h0).2 ⟨?_, ?_⟩
        · rw [← hb]; omega
        · rw [Nat.pow_succ, ← hb]; omega
      have h3 : 1 ≤ r / f.binade := (Nat.le_div_iff_mul_le hbp).2 (by omega)
      unfold Ieee.Format.nearest
      rw [if_neg h0, e1]
      rw [show max (f.leastPlace + ((r / f.binade - 1 : Nat) : Int) + (f.fractionBits : Int) - f.fractionBits) f.leastPlace = f.leastPlace + ((r / f.binade - 1 : Nat) : Int) by omega]
      simp only [Int.sub_self, Int.toNat_zero, Nat.shiftLeft_zero, cut_zero]
      rw [show (f.leastPlace + ((r / f.binade - 1 : Nat) : Int) - f.leastPlace).toNat = r / f.binade - 1 by omega]
      have h4 : (r / f.binade - 1) * f.binade + (f.binade + r % f.binade) = r := by
        have h5 := Nat.div_add_mod r f.binade
        have h6 : (r / f.binade - 1) * f.binade + f.binade = r / f.binade * f.binade := by
          rw [← Nat.succ_mul]; congr 1; omega
        rw [Nat.mul_comm] at h5
        omega
      rw [h4, Nat.min_eq_left (by omega)]
    · split at h <;> cases h

theorem bits32 : FloatKind.f32.format.exponentBits = 8 ∧ FloatKind.f32.format.fractionBits = 23 ∧ FloatKind.f32.format.leastPlace = -149 ∧ FloatKind.f32.format.signWeight = 2147483648 ∧ FloatKind.f32.format.infRung = 2139095040 := by decide
theorem bits64 : FloatKind.f64.format.exponentBits = 11 ∧ FloatKind.f64.format.fractionBits = 52 ∧ FloatKind.f64.format.leastPlace = -1074 ∧ FloatKind.f64.format.signWeight = 9223372036854775808 ∧ FloatKind.f64.format.infRung = 9218868437227405312 := by decide

/-- What a narrow number's datum is made of. -/
theorem read32 {b : Nat} {s : Bool} {m : Nat} {e : Int} (h : FloatKind.f32.format.read b = .number s m e) : -149 ≤ e ∧ (m ≠ 0 → m.log2 ≤ 23 ∧ e + m.log2 + 1 ≤ 128) := by
  refine ⟨?_, fun h0 => ⟨?_, lt32 h h0⟩⟩
  all_goals
    have e1 : Ieee.single.signWeight = 2147483648 := by decide
    have e2 : Ieee.single.infRung = 2139095040 := by decide
    have e3 : Ieee.single.binade = 8388608 := by decide
    have e4 : Ieee.single.leastPlace = -149 := by decide
    simp only [FloatKind.format, Ieee.Format.read, e1, e2, e3, e4] at h
    split at h
    · simp only [Ieee.Datum.number.injEq] at h
      obtain ⟨_, rfl, rfl⟩ := h
      first | omega | (have : (b % 2147483648).log2 < 23 := (Nat.log2_lt h0).2 (by omega)
                       omega)
    · split at h
      · simp only [Ieee.Datum.number.injEq] at h
        obtain ⟨_, rfl, rfl⟩ := h
        first | omega | (have : (8388608 + b % 2147483648 % 8388608).log2 < 24 := (Nat.log2_lt h0).2 (by omega)
                         omega)
      · split at h <;> cases h

/-- A narrow number is widened exactly. -/
theorem read_widen {b : Nat} {s : Bool} {m : Nat} {e : Int} (h : FloatKind.f32.format.read b = .number s m e) :
    ∃ j : Nat, ∃ e', FloatKind.f64.format.read (widen b) = .number s (m * 2 ^ j) e' ∧ (m ≠ 0 → e' = e - j) ∧ widen b % 9223372036854775808 < 9218868437227405312 := by
  obtain ⟨b1, b2, b3, b4, b5⟩ := bits64
  obtain ⟨h1, h2⟩ := read32 h
  have hw : widen b = FloatKind.f64.format.nearest s m e := by simp only [widen, h]; rfl
  rw [hw]
  by_cases hm : m = 0
  · subst hm
    refine ⟨0, -1074, ?_, fun h => absurd rfl h, ?_⟩
    · cases s <;> simp [Ieee.Format.nearest, Ieee.Format.word] <;> decide
    · cases s <;> simp [Ieee.Format.nearest, Ieee.Format.word] <;> decide
  · obtain ⟨h3, h4⟩ := h2 hm
    obtain ⟨h5, h6⟩ := read_nearest FloatKind.f64.format s m e hm (by omega) (by omega) (by rw [b1, b2, b3]; omega) (by omega)
    rw [b4, b5] at h6
    refine ⟨_, _, h5, fun _ => ?_, h6⟩
    have : lastOf FloatKind.f64.format m e ≤ e := by unfold lastOf; omega
    omega
end Go.Fk
namespace Go.Fk
open Go Go.RowKit
theorem read_mod {k : FloatKind} {b : Nat} {s : Bool} {m : Nat} {e : Int} (h : k.format.read b = .number s m e) : k.format.read (b % k.format.signWeight) = .number false m e := by
  have hs : 0 < k.format.signWeight := by unfold Ieee.Format.signWeight; exact Nat.two_pow_pos _
  have e1 : (b % k.format.signWeight / k.format.signWeight % 2 == 1) = false := by
    rw [Nat.div_eq_of_lt (Nat.mod_lt _ hs)]; rfl
  unfold Ieee.Format.read at h ⊢
  dsimp only at h ⊢
  rw [e1, Nat.mod_mod]
  generalize b % k.format.signWeight = r at *
  split
  · rename_i h1
    rw [if_pos h1] at h
    simp only [Ieee.Datum.number.injEq] at h ⊢
    exact ⟨trivial, h.2⟩
  · rename_i h1
    rw [if_neg h1] at h
    split
    · rename_i h2
      rw [if_pos h2] at h
      simp only [Ieee.Datum.number.injEq] at h ⊢
      exact ⟨trivial, h.2⟩
    · rename_i h2
      rw [if_neg h2] at h
      split at h <;> cases h

/-- May be narrowed: what the language fixes, whole range. -/
def narrowableX (b : Nat) : Prop := ∀ s m e, FloatKind.f64.format.read b = .number s m e → (FloatKind.f32.decode (FloatKind.f32.encode (.number s m e))).isInfinity = false

/-- The size of a narrow number, by way of the wide ones. -/
theorem narrow_abs {b w : Nat} (hw : can .f64 w = can .f64 (widen b)) : narrowableX (w % 9223372036854775808) ∧ can .f32 (narrow (w % 9223372036854775808)) = can .f32 (b % 2147483648) := by
  obtain ⟨a1, a2, a3, a4, a5⟩ := bits32
  obtain ⟨b1, b2, b3, b4, b5⟩ := bits64
  cases hr : FloatKind.f32.format.read b with
  | nan s t =>
    have hn : isNan .f32 b = true := by simp [isNan, hr, Ieee.Datum.isNaN]
    have hq : widen b = qnan .f64 := by simp only [widen, hr]
    have hwn : isNan .f64 w = true := by rw [isNan_of_can hw, hq]; exact isNan_qnan _
    have hm : isNan .f64 (w % 9223372036854775808) = true := by rw [isNan_f64] at hwn ⊢; rwa [Nat.mod_mod]
    have hm2 : isNan .f32 (b % 2147483648) = true := by rw [isNan_f32] at hn ⊢; rwa [Nat.mod_mod]
    obtain ⟨s', t', hr'⟩ := read_nan hm
    refine ⟨fun s1 m1 e1 h => (by rw [hr'] at h; cases h), ?_⟩
    rw [can_of_nan hm2]
    simp only [narrow, hr', can_qnan]
  | infinity s =>
    have hb : b % 2147483648 = 2139095040 := by
      have e1 : Ieee.single.signWeight = 2147483648 := by decide
      have e2 : Ieee.single.infRung = 2139095040 := by decide
      simp only [FloatKind.format, Ieee.Format.read, e1, e2] at hr
      split at hr
      · cases hr
      · split at hr
        · cases hr
        · split at hr
          · assumption
          · cases hr
    have hq : widen b = FloatKind.f64.encode (.infinity s) := by simp only [widen, hr]
    have hwq : w = FloatKind.f64.encode (.infinity s) := by
      rw [hq] at hw
      exact (eq_of_can hw.symm (by cases s <;> decide)).symm
    rw [hwq, hb]
    have e1 : FloatKind.f64.format.read (FloatKind.f64.encode (.infinity s) % 9223372036854775808) = .infinity false := by cases s <;> decide
    refine ⟨fun s1 m1 e1' h => (by rw [e1] at h; cases h), ?_⟩
    simp only [narrow, e1]
    decide
  | number s m e =>
    obtain ⟨j, e', h1, h2, h3⟩ := read_widen hr
    have hwq : w = widen b := by
      refine (eq_of_can hw.symm ?_).symm
      simp [isNan, h1, Ieee.Datum.isNaN]
    rw [hwq]
    have h4 := read_mod h1
    have h5 := read_mod hr
    rw [b4] at h4
    rw [a4] at h5
    have h6 : FloatKind.f32.format.nearest false (m * 2 ^ j) e' = b % 2147483648 := by
      have h7 := write_read FloatKind.f32.format (by omega) (b % 2147483648) h5
      rw [a4, Nat.mod_mod] at h7
      by_cases hm : m = 0
      · subst hm
        rw [Nat.zero_mul]
        exact (show FloatKind.f32.format.nearest false 0 e' = FloatKind.f32.format.nearest false 0 e by simp [Ieee.Format.nearest]).trans h7
      · rw [h2 hm, nearest_scale, h7]; rfl
    have h8 : FloatKind.f32.encode (.number false (m * 2 ^ j) e') = b % 2147483648 := h6
    refine ⟨fun s1 m1 e1 h => ?_, ?_⟩
    · rw [h4] at h
      cases h
      rw [h8]
      have : FloatKind.f32.decode (b % 2147483648) = .number false m e := h5
      rw [this]; rfl
    · have : narrow (widen b % 9223372036854775808) = FloatKind.f32.encode (.number false (m * 2 ^ j) e') := by simp only [narrow, h4]
      rw [this, h8]

section
variable {P : Program}
theorem run_narrowX (w : World) (src dst : TypeId) (b : Nat) (hs : P.underlying src = some (.float .f64)) (hd : P.underlying dst = some (.float .f32)) (hb : narrowableX b) :
    ∃ r n, (convert src dst (.float .f64 b)).run P w = .ok (.float .f32 r) (w.drewN n) ∧ can .f32 r = can .f32 (narrow b) ∧ fits .f32 r := by
  cases hr : FloatKind.f64.format.read b with
  | nan s t =>
    refine ⟨(Question.nanConv .f32 b).cut (w.tape w.drawn (.nanConv .f32 b)), 1, ?_, ?_, (nan_conv .f32 b _).2⟩
    · simp [convert, run_underlying hs, run_underlying hd, Conv.floatToFloat, FloatKind.decode, hr, Question.forced]; rfl
    · rw [can_of_nan (nan_conv .f32 b _).1]; simp only [narrow, hr, can_qnan]
  | infinity s =>
    refine ⟨FloatKind.f32.encode (.infinity s), 0, ?_, by simp only [narrow, hr], encode_wf _ _⟩
    simp [convert, run_underlying hs, run_underlying hd, Conv.floatToFloat, FloatKind.decode, hr]; rfl
  | number s m e =>
    refine ⟨FloatKind.f32.encode (.number s m e), 0, ?_, by simp only [narrow, hr], encode_wf _ _⟩
    have h := hb s m e hr
    have hr' : FloatKind.f64.decode b = .number s m e := hr
    simp [convert, run_underlying hs, run_underlying hd, Conv.floatToFloat, hr', h]; rfl

variable {w : World} {ops : Array Oper} {rest : List Oper} {o : Oper} {a : Act} {Q : Exit → Act → World → Prop}
theorem wpList_narrowX (hg : o.guard = none) {src dst : TypeId} {x : Operand} (hop : o.op = Op.convert src dst x) {b : Nat} (hx : a.eval x = .float .f64 b)
    (hs : P.underlying src = some (.float .f64)) (hd : P.underlying dst = some (.float .f32)) (hb : narrowableX b)
    (hK : ∀ r n, Hid (can .f32 r = can .f32 (narrow b)) → Hid (fits .f32 r) → wpList P ops Q rest (a.put o.dst (.float .f32 r)) (w.drewN n)) : wpList P ops Q (o :: rest) a w := by
  refine wpList_plain hg fun K hK' => ?_
  obtain ⟨r, n, hrun, hr, hf⟩ := run_narrowX (P := P) w src dst b hs hd hb
  unfold Oper.wp
  simp [execOp, hop, hx, hrun, Result.andThen]
  exact hK' _ _ (hK r n hr hf)
end
end Go.Fk

/- What math.Float64bits, math.Float64frombits and math.Abs give. -/
namespace Go.Fk
open Go Go.RowKit
theorem andNot_sign (x : Nat) (hx : fits .f64 x) : (bits .andNot .u64 (x : Int) 9223372036854775808).toNat = x % 9223372036854775808 := by
  have h : x < 18446744073709551616 := by simp only [fits, Lit.wf, decide_eq_true_eq] at hx; omega
  have h1 := u64_andNot_nat x 9223372036854775808 (by omega) (by omega)
  rw [show ((9223372036854775808 : Nat) : Int) = 9223372036854775808 by rfl] at h1
  rw [h1, Int.toNat_natCast]
  exact Nat.and_two_pow_sub_one_eq_mod x 63
end Go.Fk
namespace Go.Proofs.Ythjdklolbkhbfaa
open Go.RowKit Go.Fk
@[go_sem] theorem run_f64bits (x : Nat) (w : World) : (callFunc 88 #[.float .f64 x]).run Try.prog w = .ok (.value (.int .u64 x)) w := by
  rw [run_callFunc_extern (e := Extern.MathFloatBits.float64bits) Try.func88 (by kernel_rfl) (by kernel_rfl) (by kernel_rfl) (by kernel_rfl)]; rfl
@[go_sem] theorem run_f64from (x : Int) (w : World) : (callFunc 87 #[.int .u64 x]).run Try.prog w = .ok (.value (.float .f64 x.toNat)) w := by
  rw [run_callFunc_extern (e := Extern.MathFloatBits.float64frombits) Try.func87 (by kernel_rfl) (by kernel_rfl) (by kernel_rfl) (by kernel_rfl)]; rfl
theorem abs64 (x : Nat) (w : World) (hx : fits .f64 x) : Calls Try.prog 78 #[.float .f64 x] w fun e w' => e = .returned (.float .f64 (x % 9223372036854775808)) ∧ w = w' := by
  have hn := andNot_sign x hx
  go_enter Try.func78, Try.ntmps78
  go_wp2
  go_ret
  exact ⟨rfl, rfl⟩
end Go.Proofs.Ythjdklolbkhbfaa

/- 'FrictionAt' of both. -/
namespace Go.Fk
open Go Go.RowKit
/-- A difference of speeds on the way to its friction: the parts of it, up to the bits of NaN. -/
def fr1 (p : Nat) : Nat := fop .add .f32 (p % 2147483648) 1061158912
theorem fits_one : fits .f32 1065353216 := by simp [fits, Lit.wf]
def frSq (a : Nat) : Nat := fop .mul .f32 a a
def fr4 (a : Nat) : Nat := can .f32 (fmin .f32 (fop .quo .f32 1065353216 a) 1065353216)
def friV (s d : Nat) : Nat := fr4 (frSq (frSq (fr1 (fop .mul .f32 s d))))
theorem mod_congr {a b : Nat} (h : can .f32 a = can .f32 b) : can .f32 (a % 2147483648) = can .f32 (b % 2147483648) := by
  cases hn : isNan .f32 a
  · rw [eq_of_can h hn]
  · have hm := (isNan_of_can h).symm.trans hn
    have h1 : isNan .f32 (a % 2147483648) = true := by rw [isNan_f32] at hn ⊢; rwa [Nat.mod_mod]
    have h2 : isNan .f32 (b % 2147483648) = true := by rw [isNan_f32] at hm ⊢; rwa [Nat.mod_mod]
    rw [can_of_nan h1, can_of_nan h2]
theorem fr1_congr {a b : Nat} (h : can .f32 a = can .f32 b) : fr1 a = fr1 b := fop_congr (mod_congr h) rfl
theorem frSq_congr {a b : Nat} (h : can .f32 a = can .f32 b) : frSq a = frSq b := fop_congr h h
theorem fmin_congr {a b c : Nat} (h : can .f32 a = can .f32 b) : can .f32 (fmin .f32 a c) = can .f32 (fmin .f32 b c) := by
  cases hn : isNan .f32 a
  · rw [eq_of_can h hn]
  · have hm := (isNan_of_can h).symm.trans hn
    unfold fmin
    rw [order_of_nan_l hn, order_of_nan_l hm]
theorem fr4_congr {a b : Nat} (h : can .f32 a = can .f32 b) : fr4 a = fr4 b := by
  unfold fr4
  have e : fop .quo .f32 1065353216 a = fop .quo .f32 1065353216 b := fop_congr rfl h
  rw [e]
theorem fr_can (op : BinOp) (k : FloatKind) (x y : Nat) : can k (fop op k x y) = fop op k x y := can_fop _ _ _ _
/-- A word that is equal to 1 is 1. -/
theorem one_of_eq {x : Nat} (hf : fits .f32 x) (h : FloatKind.f32.format.order x 1065353216 = some .eq) : x = 1065353216 := by
  have hx : isNan .f32 x = false := by
    cases hn : isNan .f32 x
    · rfl
    · rw [order_of_nan_l hn] at h; cases h
  rw [order_val hx (by decide)] at h
  have hv : val .f32 x = val .f32 1065353216 := Int.compare_eq_eq.1 (by simpa using h)
  have h1 : val .f32 1065353216 = 2 ^ 149 := by decide +kernel
  have hsm := val_small (k := .f32) (b := 1065353216) (s := false) (m := 8388608) (e := -23) (by decide)
  rw [h1] at hv hsm
  have x0 := fits32 hf
  unfold val at hv
  cases hr : FloatKind.f32.format.read x with
  | nan s t => rw [hr] at hv; simp only at hv; exact absurd hv.symm (by decide)
  | infinity s =>
    rw [hr] at hv
    simp only at hv
    have hp : (0 : Int) < 2 ^ 149 := by decide
    generalize (far : Int) = F at *
    generalize (2 : Int) ^ 149 = G at *
    cases s <;> simp at hv <;> omega
  | number s m e =>
    rw [hr] at hv
    simp only at hv
    rw [signed_eq] at hv
    have hp := read_place hr
    have e1 : Ieee.single.signWeight = 2147483648 := by decide
    have e2 : Ieee.single.infRung = 2139095040 := by decide
    have e3 : Ieee.single.binade = 8388608 := by decide
    have e4 : Ieee.single.leastPlace = -149 := by decide
    simp only [FloatKind.format, Ieee.Format.read, e1, e2, e3, e4] at hr
    have hs : s = false ∧ ((m * 2 ^ (e + (unitOf .f32 : Int)).toNat : Nat) : Int) = 2 ^ 149 := by
      cases s
      · refine ⟨rfl, ?_⟩
        push_cast; simpa using hv
      · exfalso
        simp only [if_true] at hv
        have hnn : (0 : Int) ≤ ((m * 2 ^ (e + (unitOf .f32 : Int)).toNat : Nat) : Int) := Int.natCast_nonneg _
        push_cast at hnn
        rw [Int.neg_mul] at hv
        have hp2 : (0 : Int) < 2 ^ 149 := by decide
        omega
    obtain ⟨rfl, hm⟩ := hs
    have hm2 : m * 2 ^ (e + (unitOf .f32 : Int)).toNat = 2 ^ 149 := by exact_mod_cast hm
    clear hv hm h1 hsm hp h hx
    split at hr
    · rename_i h2
      have h2' : x % 2147483648 < 8388608 := by simpa using h2
      simp only [Ieee.Datum.number.injEq] at hr
      obtain ⟨_, rfl, rfl⟩ := hr
      exfalso
      have : x % 2147483648 * 2 ^ ((-149 : Int) + (unitOf .f32 : Int)).toNat = x % 2147483648 := by
        show _ * 2 ^ 0 = _; omega
      rw [this] at hm2
      have : (2 : Nat) ^ 149 > 8388608 := by decide
      omega
    · split at hr
      · simp only [Ieee.Datum.number.injEq] at hr
        obtain ⟨hs, rfl, rfl⟩ := hr
        have hj : ((-149 : Int) + ((x % 2147483648 / 8388608 - 1 : Nat) : Int) + (unitOf .f32 : Int)).toNat = x % 2147483648 / 8388608 - 1 := by
          show ((-149 : Int) + ((x % 2147483648 / 8388608 - 1 : Nat) : Int) + 149).toNat = _; omega
        rw [hj] at hm2
        generalize hJ : x % 2147483648 / 8388608 - 1 = j at hm2
        have hj1 : j = 126 := by
          by_cases a : j ≤ 125
          · exfalso
            have := Nat.pow_le_pow_right (show 0 < 2 by omega) a
            have h5 : (8388608 + x % 2147483648 % 8388608) * 2 ^ j < 16777216 * 2 ^ 125 := by
              calc (8388608 + x % 2147483648 % 8388608) * 2 ^ j ≤ 16777215 * 2 ^ 125 := Nat.mul_le_mul (by omega) this
                _ < 16777216 * 2 ^ 125 := by decide
            rw [hm2] at h5
            exact absurd h5 (by decide)
          · by_cases b : 127 ≤ j
            · exfalso
              have := Nat.pow_le_pow_right (show 0 < 2 by omega) b
              have h5 : 8388608 * 2 ^ 127 ≤ (8388608 + x % 2147483648 % 8388608) * 2 ^ j := Nat.mul_le_mul (by omega) this
              rw [hm2] at h5
              exact absurd h5 (by decide)
            · omega
        subst hj1
        have hmm : 8388608 + x % 2147483648 % 8388608 = 8388608 := Nat.eq_of_mul_eq_mul_right (show 0 < 2 ^ 126 by decide) (hm2.trans (by decide))
        have hs' : x / 2147483648 % 2 = 0 := by
          have : (x / 2147483648 % 2 == 1) = false := hs
          simp at this; omega
        omega
      · split at hr <;> cases hr
/-- What stands behind k of the four steps. -/
def frK (p : Nat) : Nat → Nat
  | 0 => can .f32 p
  | 1 => fr1 p
  | 2 => frSq (fr1 p)
  | 3 => frSq (frSq (fr1 p))
  | _ => fr4 (frSq (frSq (fr1 p)))
end Go.Fk
namespace Go.Proofs.Ythjdklolbkhbfaa
open Go.RowKit Go.Fk
theorem i_raised (p : Nat) (w : World) (hp : fits .f32 p) : Calls Try.prog 55 #[.float .f32 p] w fun e w' => ∃ r, e = .returned (.float .f32 r) ∧ can .f32 r = fr1 p ∧ fits .f32 r ∧ le w w' := by
  go_enter Try.func55, Try.ntmps55
  go_wp2_with (first | (with_reducible refine wpList_farith rfl rfl rfl rfl rfl ?_; intro r1 n1 hr1 hf1) | (with_reducible refine wpList_widen rfl rfl rfl Try.underlying92 Try.underlying45 ?_; intro s1 n1 h1 f1; have hwf := f1.out; have hna := hid (narrow_abs h1.out)) | (go_at_call 78; refine (abs64 _ _ hwf).mono ?_; rintro e w' ⟨rfl, rfl⟩) | (with_reducible refine wpList_narrowX rfl rfl rfl Try.underlying45 Try.underlying92 (by exact hna.out.1) ?_; intro q nq hq hqf))
  go_ret
  refine ⟨_, rfl, ?_, hf1.out, le_drewN _ _⟩
  rw [hr1.out]
  exact fop_congr (hq.out.trans hna.out.2) rfl
theorem i_squared (p : Nat) (w : World) : Calls Try.prog 56 #[.float .f32 p] w fun e w' => ∃ r, e = .returned (.float .f32 r) ∧ can .f32 r = frSq p ∧ fits .f32 r ∧ le w w' := by
  go_enter Try.func56, Try.ntmps56
  go_wp2_with (first | (with_reducible refine wpList_farith rfl rfl rfl rfl rfl ?_; intro r1 n1 hr1 hf1))
  go_ret
  exact ⟨_, rfl, hr1.out, hf1.out, le_drewN _ _⟩
theorem i_slipShare (p : Nat) (w : World) : Calls Try.prog 57 #[.float .f32 p] w fun e w' => ∃ r, e = .returned (.float .f32 r) ∧ can .f32 r = fr4 p ∧ fits .f32 r ∧ le w w' := by
  go_enter Try.func57, Try.ntmps57
  go_wp2_with (first | (with_reducible refine wpList_farith rfl rfl rfl rfl rfl ?_; intro r1 n1 hr1 hf1) | (with_reducible refine wpList_min rfl rfl rfl rfl hf1.out fits_one ?_; intro r2 n2 hr2 hf2))
  go_ret
  refine ⟨_, rfl, ?_, hf2.out, le_drewN _ _⟩
  rw [hr2.out]
  exact fmin_congr (hr1.out.trans (can_fop _ _ _ _).symm)
theorem slipOne : (Try.prog.info? 93).map (·.size) = some 1 := by kernel_rfl
theorem slipKind : ∀ w : World, (isAgg 93).run Try.prog w = .ok false w := fun w => by kernel_rfl
set_option maxRecDepth 100000 in
set_option maxHeartbeats 2000000 in
theorem i_FrictionAt (s d : Nat) (w : World) : Calls Try.prog 32 #[.float .f32 s, .float .f32 d] w (Out_f (friV s d) w) := by
  go_enter Try.func32, Try.ntmps32
  go_wp2_with (first | (with_reducible refine wpList_farith rfl rfl rfl rfl rfl ?_; intro r1 n1 hr1 hf1))
  have HL := hid (le_drewN w n1)
  have HF := hid hf1.out; have HR := hid hr1.out
  go_loopw [5, 12] (fun sv i wr => ∃ (k : Nat) (r : Nat), k ≤ 4 ∧ i = .int .i64 k ∧ sv = .float .f32 r ∧ Hid (can .f32 r = frK r1 k) ∧ Hid (fits .f32 r) ∧ Hid (le w wr)) (fun _ i _ => 4 - (intOf i).toNat)
  case atStart => exact ⟨0, _, by omega, rfl, rfl, rfl, HF.out, HL.out⟩
  case round =>
    obtain ⟨k, r, hk, rfl, rfl, HRk, HFk, HLk⟩ := hrel
    match k, hk with
    | 0, _ =>
      go_wp2_with (first | (refine wpList_indexArr rfl rfl (k := 0) rfl rfl Try.underlying95 slipOne slipKind (by decide) rfl ?_) | go_at_call 55; ((with_reducible refine (i_raised _ _ HFk.out).mono ?_); rintro e w2 ⟨q, rfl, hq, fq, hl⟩; have HQ := hid hq; have FQ := hid fq; have HL2 := hid (le_trans HLk.out hl); clear hq fq hl))
      go_roundw
      case rel => exact ⟨1, q, by omega, by go_num, rfl, HQ.out.trans (fr1_congr (show can .f32 r = can .f32 r1 from HRk.out)), FQ.out, HL2.out⟩
      case measure => simp [intOf]
    | 1, _ =>
      go_wp2_with (first | (refine wpList_indexArr rfl rfl (k := 1) rfl rfl Try.underlying95 slipOne slipKind (by decide) rfl ?_) | go_at_call 56; ((with_reducible refine (i_squared _ _).mono ?_); rintro e w2 ⟨q, rfl, hq, fq, hl⟩; have HQ := hid hq; have FQ := hid fq; have HL2 := hid (le_trans HLk.out hl); clear hq fq hl))
      go_roundw
      case rel => exact ⟨2, q, by omega, by go_num, rfl, HQ.out.trans (frSq_congr (HRk.out.trans (can_fop _ _ _ _).symm)), FQ.out, HL2.out⟩
      case measure => simp [intOf]
    | 2, _ =>
      go_wp2_with (first | (refine wpList_indexArr rfl rfl (k := 2) rfl rfl Try.underlying95 slipOne slipKind (by decide) rfl ?_) | go_at_call 56; ((with_reducible refine (i_squared _ _).mono ?_); rintro e w2 ⟨q, rfl, hq, fq, hl⟩; have HQ := hid hq; have FQ := hid fq; have HL2 := hid (le_trans HLk.out hl); clear hq fq hl))
      go_roundw
      case rel => exact ⟨3, q, by omega, by go_num, rfl, HQ.out.trans (frSq_congr (HRk.out.trans (can_fop _ _ _ _).symm)), FQ.out, HL2.out⟩
      case measure => simp [intOf]
    | 3, _ =>
      go_wp2_with (first | (refine wpList_indexArr rfl rfl (k := 3) rfl rfl Try.underlying95 slipOne slipKind (by decide) rfl ?_) | go_at_call 57; ((with_reducible refine (i_slipShare _ _).mono ?_); rintro e w2 ⟨q, rfl, hq, fq, hl⟩; have HQ := hid hq; have FQ := hid fq; have HL2 := hid (le_trans HLk.out hl); clear hq fq hl))
      go_roundw
      case rel => exact ⟨4, q, by omega, by go_num, rfl, HQ.out.trans (fr4_congr (HRk.out.trans (can_fop _ _ _ _).symm)), FQ.out, HL2.out⟩
      case measure => simp [intOf]
    | 4, _ =>
      go_wp2
      go_ret
      exact ⟨r, rfl, HRk.out.trans (by
        unfold friV
        show fr4 _ = _
        rw [fr1_congr (show can .f32 r1 = can .f32 (fop .mul .f32 s d) by rw [can_fop]; exact HR.out)]), HLk.out⟩
theorem s_l05Friction (s d : Nat) (w : World) : Calls Try.prog 26 #[.float .f32 s, .float .f32 d] w (Out_f (friV s d) w) := by
  go_enter Try.func26, Try.ntmps26
  go_wp2_with (first | (with_reducible refine wpList_farith (op := .mul) (p := s) (q := d) rfl rfl rfl rfl rfl ?_; intro r1 n1 hr1 hf1; have gf1 := hf1.out) | (go_at_call 47; refine (s_l01Abs _ _ gf1).mono ?_; rintro e w' ⟨rfl, rfl⟩) | (with_reducible refine wpList_farith (op := .add) rfl rfl rfl rfl rfl ?_; intro r2 n2 hr2 hf2) | (with_reducible refine wpList_farith (op := .mul) (p := r2) rfl rfl rfl rfl rfl ?_; intro r3 n3 hr3 hf3) | (with_reducible refine wpList_farith (op := .mul) (p := r3) rfl rfl rfl rfl rfl ?_; intro r4 n4 hr4 hf4) | (with_reducible refine wpList_farith (op := .quo) rfl rfl rfl rfl rfl ?_; intro r5 n5 hr5 hf5))
  all_goals
    have k1 : can .f32 r2 = can .f32 (fr1 (fop .mul .f32 s d)) := by
      rw [hr2.out]
      unfold fr1
      rw [can_fop]
      exact fop_congr (mod_congr (by rw [can_fop]; exact hr1.out)) rfl
    have k2 : can .f32 r3 = can .f32 (frSq (fr1 (fop .mul .f32 s d))) := by
      rw [hr3.out, frSq, can_fop]; exact fop_congr k1 k1
    have k3 : can .f32 r4 = can .f32 (frSq (frSq (fr1 (fop .mul .f32 s d)))) := by
      rw [hr4.out]
      unfold frSq
      rw [can_fop]
      exact fop_congr k2 k2
    have k4 : friV s d = can .f32 (fmin .f32 r5 1065353216) := by
      unfold friV
      rw [fr4_congr k3.symm]
      unfold fr4
      exact fmin_congr (by rw [can_fop]; exact hr5.out.symm)
    clear k1 k2 k3
    replace k4 := hid k4
    go_ret
  · refine ⟨_, rfl, ?_, le_drewN _ _⟩
    rw [k4.out]
    have hg : FloatKind.f32.format.order r5 1065353216 = some .gt := by simpa using ‹(FloatKind.f32.format.order r5 1065353216 == some .gt) = true›
    simp only [fmin, hg]
  · refine ⟨_, rfl, ?_, le_drewN _ _⟩
    rw [k4.out]
    have hg : ¬ FloatKind.f32.format.order r5 1065353216 = some .gt := by
      have := ‹(FloatKind.f32.format.order r5 1065353216 == some .gt) = false›
      simpa using this
    cases ho : FloatKind.f32.format.order r5 1065353216 with
    | none =>
      have hn : isNan .f32 r5 = true := by
        cases hn : isNan .f32 r5
        · rw [order_val hn (by decide)] at ho; cases ho
        · rfl
      simp only [fmin, ho]
      rw [can_of_nan hn, can_qnan]
    | some o =>
      cases o with
      | lt => simp only [fmin, ho]
      | gt => exact absurd ho hg
      | eq =>
        obtain rfl := one_of_eq hf5.out ho
        simp only [fmin, ho]
        split <;> rfl
end Go.Proofs.Ythjdklolbkhbfaa
