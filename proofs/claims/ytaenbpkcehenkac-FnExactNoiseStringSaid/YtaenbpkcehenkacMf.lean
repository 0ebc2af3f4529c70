/- Texts of the walk, laid in one file. -/
import Derived.Below
import Derived.Test.YtaenbpkcehenkacMe
set_option linter.unusedVariables false
set_option linter.unusedSimpArgs false
/- Regions with a call that writes one box. -/
namespace Go.Fk
open Go Go.RowKit
section
variable {E0 E1 : Ext} {c : Nat} {Vc : World → Value → Prop} {P : Program} {ops : Array Oper} {W : World} {K : FuncId → Array Value → World → Value → Prop} {Q : Act → World → Prop} {F : Facts} {k : Nat} {o : Oper} {rest : List Oper} {a : Act}
theorem wpFreeP_weaken : ∀ (l : List Oper) (k : Nat) (a : Act) (F F' : Facts), (∀ e w, F' e w → F e w) → wpFreeP E0 E1 c Vc P ops .any W K Q l k a F → wpFreeP E0 E1 c Vc P ops .any W K Q l k a F' := by
  intro l
  induction l with
  | nil => intro k a F F' h hh w hw hF; exact hh w hw (fun e => h e w (hF e))
  | cons o l ih =>
    intro k a F F' h hh
    obtain ⟨V, hg, hn⟩ := hh
    exact ⟨V, hg.stronger h, fun v hv => ih _ _ _ _ (fun e w hw => ⟨h e w hw.1, hw.2⟩) (hn v (hv.weaken (fun w hw e => h e w (hw e))))⟩
theorem wpFreeP_nil (h : ∀ w, E1.R W w → (∀ e, F e w) → Q a w) : wpFreeP E0 E1 c Vc P ops .any W K Q [] k a F := h
theorem wpFreeP_some (hk : k ≠ c) (hg : o.guard = none) (V : Value → Prop) (hr : ∀ w, E1.R W w → ∃ v n, (execOp a.eval o).run P w = .ok (.value v) (w.drewN n) ∧ V v)
    (h : ∀ v, V v → wpFreeP E0 E1 c Vc P ops .any W K Q rest (k + 1) (a.put o.dst v) (F.with k (fun _ => True))) : wpFreeP E0 E1 c Vc P ops .any W K Q (o :: rest) k a F := by
  refine ⟨fun _ u => V u, ⟨fun _ _ _ _ h => h, fun e => absurd e hk, .inl ⟨by simp [Region.wanted, hg], fun w hw _ => ?_⟩⟩, fun u hu => ?_⟩
  · obtain ⟨v, n, hrun, hv⟩ := hr w (by unfold preE at hw; rw [if_neg hk] at hw; exact hw)
    rw [hrun]; exact ⟨(stepE E0 E1 c k).of_le (le_drewN w n), hv⟩
  · obtain ⟨w, _, _, hv⟩ := hu
    exact wpFreeP_weaken _ _ _ _ _ (fun e w h => ⟨h.1, fun _ => trivial⟩) (h u hv)
theorem wpFreeP_one (hk : k ≠ c) (hg : o.guard = none) (v : Value) (hr : ∀ w, E1.R W w → (execOp a.eval o).run P w = .ok (.value v) w)
    (h : wpFreeP E0 E1 c Vc P ops .any W K Q rest (k + 1) (a.put o.dst v) (F.with k (fun _ => True))) : wpFreeP E0 E1 c Vc P ops .any W K Q (o :: rest) k a F :=
  wpFreeP_some hk hg (· = v) (fun w hw => ⟨v, 0, by rw [hr w hw]; rfl, rfl⟩) (by rintro u rfl; exact h)
theorem wpFreeP_quiet (hk : k ≠ c) (hnc : simple o.op = true) (h : wpQuiet P ops (fun _ => True) (fun a' => wpFreeP E0 E1 c Vc P ops .any W K Q rest (k + 1) a' (F.with k (fun _ => True))) [o] a) : wpFreeP E0 E1 c Vc P ops .any W K Q (o :: rest) k a F := by
  simp only [wpQuiet] at h
  by_cases hw : Region.wanted o (yielded ops a.tmps) = true
  · rw [if_pos hw] at h
    obtain ⟨v, h1, h2⟩ := h
    refine ⟨fun _ u => u = v, ⟨fun _ _ _ _ h => h, fun e => absurd e hk, .inl ⟨hw, fun w hw' _ => ?_⟩⟩, fun u hu => ?_⟩
    · have h3 := h1 w trivial
      unfold Oper.quietAt at h3
      generalize hrun : (execOp a.eval o).run P w = r at h3
      cases r with
      | ok n w' =>
        cases n <;> simp only [Oper.quietUpon] at h3 <;> simp only [insideT]
        case value u => exact ⟨by rw [h3.1]; exact (stepE E0 E1 c k).refl w, h3.2⟩
        case skip => exact ⟨by rw [h3.1]; exact (stepE E0 E1 c k).refl w, h3.2.symm⟩
        case enter f args => exact (noEnter hnc hrun).elim
      | halt x w' => simp only [Oper.quietUpon] at h3
    · obtain ⟨w, _, _, rfl⟩ := hu
      exact wpFreeP_weaken _ _ _ _ _ (fun e w h => ⟨h.1, fun _ => trivial⟩) h2
  · rw [if_neg hw] at h
    refine ⟨fun _ u => u = undef, ⟨fun _ _ _ _ h => h, fun e => absurd e hk, .inr ⟨hk, by simpa using hw, fun _ _ _ => rfl⟩⟩, fun u hu => ?_⟩
    obtain ⟨w, _, _, rfl⟩ := hu
    exact wpFreeP_weaken _ _ _ _ _ (fun e w h => ⟨h.1, fun _ => trivial⟩) h
theorem wpFreeP_farith (hk : k ≠ c) (hg : o.guard = none) {op : BinOp} {t t' : TypeId} {x y : Operand} (hop : o.op = Op.binOp op t x y t') (ho : arith op = true)
    {fk : FloatKind} {p q : Nat} (hx : a.eval x = .float fk p) (hy : a.eval y = .float fk q)
    (h : ∀ r, Hid (can fk r = fop op fk p q) → Hid (fits fk r) → wpFreeP E0 E1 c Vc P ops .any W K Q rest (k + 1) (a.put o.dst (.float fk r)) (F.with k (fun _ => True))) : wpFreeP E0 E1 c Vc P ops .any W K Q (o :: rest) k a F := by
  refine wpFreeP_some hk hg (fun v => ∃ r, v = .float fk r ∧ can fk r = fop op fk p q ∧ fits fk r) (fun w _ => ?_) ?_
  · obtain ⟨r, n, hrun, hr, hf⟩ := run_farith (P := P) w op ho t fk p q
    have he := eqGuard_float (P := P) w op t x y fk fk p q
    refine ⟨.float fk r, n, ?_, r, rfl, hr, hf⟩
    simp [execOp, hop, hx, hy, he, hrun, Result.andThen]
  · rintro v ⟨r, rfl, h1, h2⟩
    exact h r h1 h2
theorem wpFreeP_call (hk : k = c) (hg : o.guard = none) (hm : MonoT E1 Vc) (h1 : ∀ w, E0.R W w → insideT E1 P K w Vc ((execOp a.eval o).run P w))
    (h2 : ∀ v, (∃ w, E1.R W w ∧ Vc w v) → wpFreeP E0 E1 c Vc P ops .any W K Q rest (k + 1) (a.put o.dst v) (F.with k (fun w => Vc w v))) : wpFreeP E0 E1 c Vc P ops .any W K Q (o :: rest) k a F := by
  refine ⟨Vc, ⟨hm, fun _ => rfl, .inl ⟨by simp [Region.wanted, hg], fun w hw _ => ?_⟩⟩, fun v hv => h2 v (by obtain ⟨w, hw, _, h⟩ := hv; exact ⟨w, hw, h⟩)⟩
  unfold preE at hw
  rw [if_pos hk] at hw
  unfold stepE
  rw [if_pos hk]
  exact h1 w hw
/-- A REGION WITH FORCED LAST OPERATIONS (from number n on), one of whose first ones writes. -/
theorem region_tailP (hs : ∀ w w', E0.R w w' → E1.R w w') (K : FuncId → Array Value → World → Value → Prop) {id : Nat} {Q : Exit → Act → World → Prop} {a : Act} {w : World} {l : List Oper} (n : Nat) (hVc : ∀ w', E1.R (w.drewN 1) w' → ∃ v w'', E1.R w' w'' ∧ Vc w'' v) (hm : P.follows .mixedOrders = true) (hB : Region.lexTailB .any l.toArray n = true)
    (h : wpFreeP E0 E1 c Vc P l.toArray .any (w.drewN 1) K (fun a' w' => wpList P l.toArray Q (l.drop n) a' w') (l.take n) 0 a noFacts) : (Code.region id l.toArray true).wp P Q a w := by
  simp only [Region.lexTailB, Bool.and_eq_true, decide_eq_true_eq] at hB
  obtain ⟨⟨⟨⟨hsel, hn⟩, hs'⟩, hc⟩, hlex⟩ := hB
  have hn' : n < l.length := by simpa using hn
  have htl : (l.take n).length = n := by simp; omega
  have hdl : (l.drop n).length = l.toArray.size - n := by simp
  have hbound : ∀ listed i, HeadInv .any l.toArray n listed → i < n → listed.getD i true = false → ∀ j ∈ Region.ready .any l.toArray listed, j < n := by
    intro listed i inv hi hun j hj
    rcases Nat.lt_or_ge j n with h | h
    · exact h
    · exact absurd hj (tail_waits hs' hc hn inv _ i rfl hi hun j h)
  have H := anyFreeP_lex (md := .any) (g := l.toArray.size - n) hs hVc hsel hbound (l.take n) 0 _ a noFacts (fun j hj => by
    have hj' : j < n := by rw [htl] at hj; exact hj
    simp [hj']) (by simpa using htl) (head_start _ n) (by rw [htl]; exact hlex) (fun _ _ _ h => h) ⟨w.drewN 1, E1.refl _, fun _ => trivial, trivial⟩ h
  refine wp_region_any hm ?_
  have := anyFreeP_sound (Q' := Q) (W := w.drewN 1) (g := l.toArray.size - n) hs (fun listed a' F w' hw' hF hL => by
    have := wpAny_of_seq (md := .any) (Q' := Q) (l.drop n) n listed a' w' (fun j => by simp [List.getElem?_drop]) (by rw [hdl]; exact hL.1) (hL.2 w' hw' hF)
    rwa [hdl] at this) _ _ _ _ _ (fun _ _ _ h => h) (E1.refl _) (fun _ => E0.refl _) (fun _ => trivial) H
  rw [htl, show n + (l.toArray.size - n) = l.toArray.size by omega] at this
  exact this
end
/-- Nothing turns but the box g, which comes to hold nx. -/
def seedX (g : Nat) (t : TypeId) (nx : Value) : Ext where
  R w w' := Chg (· = g) w w' ∧ (Row w g t #[nx] → Row w' g t #[nx]) ∧ ((∃ x, Row w g t #[x]) → ∃ x, Row w' g t #[x])
  refl w := ⟨Chg.refl _ w, id, id⟩
  trans := by
    rintro a b c ⟨h1, h2, h3⟩ ⟨k1, k2, k3⟩
    exact ⟨h1.trans k1, fun h => k2 (h2 h), fun h => k3 (h3 h)⟩
  of_le := by
    intro a b h
    exact ⟨Chg.of_le h, fun hr => hr.le h, fun ⟨x, hr⟩ => ⟨x, hr.le h⟩⟩
theorem seedX_set {g : Nat} {t : TypeId} {nx x : Value} {w : World} (h : Row w g t #[x]) : (seedX g t nx).R w (w.setCell ⟨g, 0, none⟩ nx) ∧ Row (w.setCell ⟨g, 0, none⟩ nx) g t #[nx] := by
  have hr : Row (w.setCell ⟨g, 0, none⟩ nx) g t #[nx] := by have := h.set 0 nx; simpa using this
  exact ⟨⟨Chg.setCell (S := (· = g)) (a := ⟨g, 0, none⟩) (Chg.refl _ w) rfl nx, fun _ => hr, fun _ => ⟨nx, hr⟩⟩, hr⟩
section
variable {E0 : Ext} {c g : Nat} {t : TypeId} {nx : Value} {Vc : World → Value → Prop} {P : Program} {ops : Array Oper} {W : World} {K : FuncId → Array Value → World → Value → Prop} {Q : Act → World → Prop} {F : Facts} {k : Nat} {o : Oper} {rest : List Oper} {a : Act}
theorem wpFreeP_cell (hk : k ≠ c) (hg : o.guard = none) {ty : TypeId} {x : Operand} (hop : o.op = .load ty x) {ad : Addr} (hx : a.eval x = .pointer (some ad)) {v : Value} (hv : W.cell? ad = some v) (hne : ad.block ≠ g) (hu : ∀ w, (isAgg ty).run P w = .ok false w)
    (h : wpFreeP E0 (seedX g t nx) c Vc P ops .any W K Q rest (k + 1) (a.put o.dst v) (F.with k (fun _ => True))) : wpFreeP E0 (seedX g t nx) c Vc P ops .any W K Q (o :: rest) k a F := by
  refine wpFreeP_one hk hg v (fun w hw => ?_) h
  have hlt : ad.block < W.heap.size := World.block_lt_of_cell? W _ hv
  have hc : w.cell? ad = some v := (cell_of_heap (hw.1.block _ hlt hne)).trans hv
  have hl : (Instr.loadAt ty (.pointer (some ad))).run P w = .ok v w := by
    simp [Instr.loadAt, Instr.sureAddr, loadVar, hu, hc]
  simp [execOp, hop, hx, hl, Result.andThen]
end
end Go.Fk

/- The contracts of 'NextNoise'. -/
namespace Go.Fk
open Go Go.RowKit
def nextOf (s : Int) : Int := (1974033781 * s + 907633385) % 4294967296
def noiseOf (s : Int) : Nat := fop .quo .f32 (floatOfInt .f32 (nextOf s / 256 - 8388608)) 1258291200
def OutNz (s : Int) (w : World) (e : Ending) (w' : World) : Prop := ∃ r n, e = .returned (.tuple #[.float .f32 r, .int .u32 (nextOf s)]) ∧ can .f32 r = noiseOf s ∧ fits .f32 r ∧ w' = w.drewN n
theorem nextOf_range (s : Int) : 0 ≤ nextOf s ∧ nextOf s < 4294967296 := by unfold nextOf; omega
end Go.Fk
namespace Go.Proofs.Ytaenbpkcehenkac
open Go.RowKit Go.Fk
theorem s_l01Noise (s : Int) (w : World) (h0 : 0 ≤ s) (h1 : s < 4294967296) : Calls Try.prog 83 #[.int .u32 s] w (OutNz s w) := by
  go_enter Try.func83, Try.ntmps83
  go_wp2_with (with_reducible refine wpList_farith rfl rfl rfl rfl rfl ?_; intro r n hr hf)
  go_ret2
  exact ⟨r, n, rfl, hr.out, hf.out, rfl⟩
theorem i_NextNoise (s : Int) (w : World) (h0 : 0 ≤ s) (h1 : s < 4294967296) : Calls Try.prog 85 #[.int .u32 s] w (OutNz s w) := by
  go_enter Try.func85, Try.ntmps85
  go_wp2_with (with_reducible refine wpList_farith rfl rfl rfl rfl rfl ?_; intro r n hr hf)
  go_ret2
  exact ⟨r, n, rfl, hr.out, hf.out, rfl⟩
end Go.Proofs.Ytaenbpkcehenkac

/- Regions that make a string and store it into the result. -/
namespace Go.Fk
open Go Go.RowKit
section
variable {P : Program} {ops : Array Oper} {W : World} {K : FuncId → Array Value → World → Value → Prop} {Q : Act → World → Prop} {F : Facts} {k : Nat} {o : Oper} {rest : List Oper} {a : Act} {g : Nat} {t : TypeId} {m : Nat} {Fin : World → Array Value → Prop} {hm : ∀ w w' cs, le w w' → Fin w cs → Fin w' cs}
theorem wpFreeD_loadX {g' : Nat} {t' : TypeId} {cs : Array Value} (hR : Row W g' t' cs) (hne : g' ≠ g) (hg : o.guard = none) {ty : TypeId} {x : Operand} (hop : o.op = .load ty x) (hx : a.eval x = .pointer (some ⟨g', 0, none⟩)) {d : TypeDesc}
    (hu : P.underlying ty = some d) (hd : (match d with | .struct _ | .array _ _ => true | _ => false) = true) {n : Nat} (hi : (P.info? ty).map (·.size) = some n) (hs : cs.size = n)
    (h : wpFreeD (outX g t m Fin hm) P ops .any W K Q rest (k + 1) (a.put o.dst (.agg cs)) (F.with k (fun _ => True))) : wpFreeD (outX g t m Fin hm) P ops .any W K Q (o :: rest) k a F := by
  subst hs
  refine wpFreeD_one hg (.agg cs) (fun w hw => ?_) h
  have := run_loadVar_row (P := P) w g' t' ty cs (0, 0) _ (hw.1.row hR hne) hu hd hi
  simp [execOp, hop, hx, Instr.loadAt, Instr.sureAddr, this, Result.andThen]
end
/-- A string that is made: its cells but the slice, and its samples. -/
def FinS (B : Nat) (c : Value → Array Value) (x : Nat → Nat) (n : Nat) (w : World) (cs : Array Value) : Prop := ∃ s, cs = c s ∧ ∃ lo hi, B ≤ lo ∧ hi ≤ w.heap.size ∧ OwnS w lo hi s x n
theorem FinS_le (B : Nat) (c : Value → Array Value) (x : Nat → Nat) (n : Nat) : ∀ w w' cs, le w w' → FinS B c x n w cs → FinS B c x n w' cs := fun _ _ _ hl ⟨s, h, lo, hi, h1, h2, h3⟩ => ⟨s, h, lo, hi, h1, Nat.le_trans h2 hl.size, h3.le hl⟩
theorem FinS_ch {B : Nat} {c : Value → Array Value} {x : Nat → Nat} {n g : Nat} {w w' : World} {cs : Array Value} (h : FinS B c x n w cs) (hc : Chg (· = g) w w') (hg : g < B) : FinS B c x n w' cs := by
  obtain ⟨s, h, lo, hi, h1, h2, h3⟩ := h
  exact ⟨s, h, lo, hi, h1, Nat.le_trans h2 hc.size, h3.chgS hc (fun i a b e => by have e' : i = g := e; omega)⟩
end Go.Fk
namespace Go.Fk
open Go Go.RowKit
theorem of_can {a A : Nat} (h : can .f32 a = A) (hn : isNan .f32 A = false) : a = A := by
  have hc : can .f32 a = can .f32 A := by rw [h, can_of_not hn]
  have : isNan .f32 a = false := by rw [isNan_of_can hc, hn]
  rw [← can_of_not this, h]
section
variable {P : Program} {ops : Array Oper} {W : World} {K : FuncId → Array Value → World → Value → Prop} {Q : Act → World → Prop} {F : Facts} {k : Nat} {o : Oper} {rest : List Oper} {a : Act} {g : Nat} {t : TypeId} {m : Nat} {Fin : World → Array Value → Prop} {hm : ∀ w w' cs, le w w' → Fin w cs → Fin w' cs}
theorem wpFreeD_made (hgW : g < W.heap.size) (hg : o.guard = none) (f : Nat → Value) (tt : TypeId) (cs : Array Value) (hr : ∀ w, (execOp a.eval o).run P w = .ok (.value (f w.heap.size)) (w.alloc (.cells cs tt)))
    (h : ∀ b, wpFreeD (outX g t m Fin hm) P ops .any W K Q rest (k + 1) (a.put o.dst (f b)) (F.with k (fun w => ∃ b', f b = f b' ∧ W.heap.size ≤ b' ∧ Row w b' tt cs))) : wpFreeD (outX g t m Fin hm) P ops .any W K Q (o :: rest) k a F := by
  refine ⟨fun w v => ∃ b', v = f b' ∧ W.heap.size ≤ b' ∧ Row w b' tt cs, ⟨fun v w w' hw hv => ?_, .inl ⟨by simp [Region.wanted, hg], fun w hw _ => ?_⟩⟩, fun v hv => ?_⟩
  · obtain ⟨b', e, hb, hrow⟩ := hv
    exact ⟨b', e, hb, hw.1.row hrow (fun e => by have e' : b' = g := e; omega)⟩
  · rw [hr w]
    exact ⟨(outX g t m Fin hm).of_le (le_alloc w _), w.heap.size, rfl, hw.1.size, Row.new w tt cs⟩
  · obtain ⟨w, _, _, b, rfl, _⟩ := hv
    exact h b
end
end Go.Fk

/- 'withAdded' of the program. -/
namespace Go.Proofs.Ytaenbpkcehenkac
open Go.RowKit Go.Fk
set_option maxRecDepth 100000 in
set_option maxHeartbeats 4000000 in
theorem i_withAdded_tri (B : Nat) (s : Value) (q : StS) (fr cnt : Nat) (c : Int) (v : Nat → Nat) (p0 p1 p2 : Value) (w : World) (hs : RdS w B s q.x q.n) (ok : q.Ok) (hfc : fr ≤ 4096 ∧ (cnt = 0 ∨ fr + cnt ≤ q.n)) (hcc : (c = cnt ∨ (c < 0 ∧ cnt = 0)) ∧ -8192 ≤ c) (HC : ∀ (w' : World) (i : Nat), le w w' → fr ≤ i → i < fr + cnt → Calls Try.prog 111 #[.int .i64 (i : Nat), p0, p1, p2] w' fun e w'' => ∃ r, e = .returned (.float .f32 r) ∧ (can .f32 r = can .f32 (v i) ∧ fits .f32 r) ∧ ∃ m, w'' = w'.drewN m) :
    Calls Try.prog 79 #[.agg #[s, .int .i64 (q.j : Nat), .int .i64 3, .float .f32 (q.ta), .float .f32 (q.tb), .float .f32 (q.tc), .float .f32 (q.tx), .float .f32 (q.ty), .int .i64 2, .float .f32 (q.da), .float .f32 (q.db), .float .f32 (q.dc), .float .f32 (q.dx), .float .f32 (q.dy), .float .f32 (q.l)], .int .i64 (fr : Nat), .int .i64 c, .func (.func 111) #[] #[p0, p1, p2]] w fun e w' => ∃ s', e = .returned (.agg #[s', .int .i64 (q.j : Nat), .int .i64 3, .float .f32 (q.ta), .float .f32 (q.tb), .float .f32 (q.tc), .float .f32 (q.tx), .float .f32 (q.ty), .int .i64 2, .float .f32 (q.da), .float .f32 (q.db), .float .f32 (q.dc), .float .f32 (q.dx), .float .f32 (q.dy), .float .f32 (q.l)]) ∧ OwnS w' w.heap.size w'.heap.size s' (addN q.x q.n q.j v fr cnt) q.n ∧ le w w' := by
  have n1 := ok.n1
  have n2 := ok.n2
  have j1 := ok.j1
  have HCP := hid (fun (w' : World) (hl : le w w') => i_copied B s q.x q.n (q.j : Nat) w' (hs.le hl) n1 n2)
  have HCC := hid HC
  clear hs ok HC
  have F := (((Frg.nil w).box 31 #[s, .int .i64 (q.j : Nat), .int .i64 3, .float .f32 (q.ta), .float .f32 (q.tb), .float .f32 (q.tc), .float .f32 (q.tx), .float .f32 (q.ty), .int .i64 2, .float .f32 (q.da), .float .f32 (q.db), .float .f32 (q.dc), .float .f32 (q.dx), .float .f32 (q.dy), .float .f32 (q.l)]).box 31 #[.slice none 0 0, .int .i64 0, .int .i64 0, .float .f32 0, .float .f32 0, .float .f32 0, .float .f32 0, .float .f32 0, .int .i64 0, .float .f32 0, .float .f32 0, .float .f32 0, .float .f32 0, .float .f32 0, .float .f32 0])
  simp only [World.size_alloc] at F
  go_enter Try.func79, Try.ntmps79
  go_wp2_with (first | ((with_reducible refine at_loadU rfl rfl ?_); (with_reducible refine wpList_loadGP F rfl rfl rfl m1 Try.underlying25 rfl [s, .int .i64 (q.j : Nat)] (qRing s q) infoRing rfl ?_)) | (go_at_call 110; ((with_reducible refine (HCP.out _ F.below).mono ?_); rintro e w2 ⟨s', rfl, ho, hl⟩; have OC := hid (OwnS.one ho); replace F := hid (F.push (e := ownF (w.heap.size + 1 + 1) w2.heap.size s' q.x q.n) hl (show OwnS w2 (w.heap.size + 1 + 1) w2.heap.size s' q.x q.n by simpa using ho) (by simp [ownF]) (Nat.le_refl _)); clear ho hl)) | (refine wpList_storeG F.out rfl rfl rfl rfl rfl infoRing rfl (one_head OC.out rfl) ?_; clear F; intro W3 F zW; clear zW; replace F := hid F; have c0 := (F.out.row m0).cell? 0; obtain ⟨b3, o3, cap3, rfl, hc3, hm3, hb3, hb4⟩ := (F.out.own (lo := w.heap.size + 1 + 1) (hi := w2.heap.size) m1).form n1; unfold maxLen at hm3))
  go_loopw [11] (fun u wr => ∃ i : Nat, fr ≤ i ∧ i ≤ fr + cnt ∧ u = .int .i64 i ∧ Hid (Frg w wr [rowF w2.heap.size 25 #[(.slice (some ⟨b3, o3, none⟩) q.n cap3), .int .i64 (q.j : Nat)], ownF (w.heap.size + 1 + 1) w2.heap.size (.slice (some ⟨b3, o3, none⟩) q.n cap3) (addN q.x q.n q.j v fr (i - fr)) q.n, rowF (w.heap.size + 1) 31 #[.slice none 0 0, .int .i64 0, .int .i64 0, .float .f32 0, .float .f32 0, .float .f32 0, .float .f32 0, .float .f32 0, .int .i64 0, .float .f32 0, .float .f32 0, .float .f32 0, .float .f32 0, .float .f32 0, .float .f32 0], rowF w.heap.size 31 #[s, .int .i64 (q.j : Nat), .int .i64 3, .float .f32 (q.ta), .float .f32 (q.tb), .float .f32 (q.tc), .float .f32 (q.tx), .float .f32 (q.ty), .int .i64 2, .float .f32 (q.da), .float .f32 (q.db), .float .f32 (q.dc), .float .f32 (q.dx), .float .f32 (q.dy), .float .f32 (q.l)]])) (fun u _ => (fr + cnt) - (intOf u).toNat)
  case atStart => exact ⟨fr, Nat.le_refl _, by omega, rfl, by rw [Nat.sub_self]; exact F.out⟩
  case round =>
    obtain ⟨i, hi1, hi2, rfl, FJ⟩ := hrel
    clear F c0
    by_cases hlt : i < fr + cnt
    · have hic : (i : Int) < (fr : Int) + c := by omega
      have c0 := (FJ.out.row m0).cell? 0
      have c1 := (FJ.out.row m0).cell? 1
      have HE1 : Hid (((q.j : Int) + i) % q.n = (((q.j + i) % q.n : Nat) : Int)) := by unfold Hid; rw [Int.natCast_emod]; rfl
      have hJn : (q.j + i) % q.n < q.n := Nat.mod_lt _ (by omega)
      obtain ⟨y, cy, fy, fity, ey⟩ := (FJ.out.own (lo := w.heap.size + 1 + 1) (hi := w2.heap.size) m1).at hJn
      have HY := hid ey
      have HJ := hid (show (q.j + (fr + (i - fr))) % q.n = (q.j + i) % q.n by rw [show fr + (i - fr) = i by omega])
      clear ey fity
      generalize hJ : (q.j + i) % q.n = J at *
      clear hJ
      go_wp2_with fail
      refine wp_region_tail (fun _ _ u => ∃ r, u = .float .f32 r ∧ can .f32 r = can .f32 (v i) ∧ fits .f32 r) 15 (by kernel_rfl) (by kernel_rfl) ?_; simp only [List.take_succ_cons, List.take_zero, List.drop_succ_cons, List.drop_zero]
      iterate 8 (refine wpLoose_quiet rfl ?_; go_big_quiet_step (fail); refine wpQuiet_nil ?_)
      rw [HE1.out]
      repeat (refine wpLoose_quiet rfl ?_; go_big_quiet_step (fail); refine wpQuiet_nil ?_)
      refine wpLoose_any rfl (fun u => ∃ r, u = .float .f32 r ∧ can .f32 r = can .f32 (v i) ∧ fits .f32 r) (fun m0 => ?_) ?_
      · go_simp
        refine (HCC.out _ i (le_trans FJ.out.below (le_drewN _ _)) hi1 hlt).mono ?_
        rintro e w4 ⟨r, rfl, hr, m4, rfl⟩
        exact ⟨_, rfl, ⟨r, rfl, hr.1, hr.2⟩, m0 + m4, by rw [World.drewN_drewN]⟩
      rintro u ⟨r, rfl, hr, fr'⟩
      simp only [Act.put, List.setIfInBounds_toArray, List.set_cons_succ, List.set_cons_zero]
      have HR := hid hr
      clear hr
      repeat (first | (with_reducible refine wpLoose_farith rfl rfl rfl rfl rfl ?_; intro r2 hrr hf2; simp only [Act.put, List.setIfInBounds_toArray, List.set_cons_succ, List.set_cons_zero]) | (refine wpLoose_quiet rfl ?_; go_big_quiet_step (fail); refine wpQuiet_nil ?_))
      refine wpLoose_nil (fun m2 => ?_)
      go_wp2
      go_roundw
      case rel =>
        refine ⟨i + 1, by omega, by omega, by go_num, ?_⟩
        have h := ((FJ.out.drewN m2).own (lo := w.heap.size + 1 + 1) (hi := w2.heap.size) m1).set hJn hf2.out
        rw [addX_of HY.out (hrr.out.trans (by rw [← fop_can_r, HR.out, fop_can_r] : _ = fop .add .f32 y (v i)))] at h
        have h2 := (FJ.out.drewN m2).mark1 h.1 h.2
        rw [show i + 1 - fr = (i - fr) + 1 by omega]
        unfold addN
        rw [HJ.out, show fr + (i - fr) = i by omega]
        exact h2
      case measure => simp [intOf]; omega
    · have hic : ¬ (i : Int) < (fr : Int) + c := by omega
      obtain rfl : i = fr + cnt := by omega
      replace FJ := FJ.out
      rw [show fr + cnt - fr = cnt by omega] at FJ
      go_wp2_with (first | ((with_reducible refine at_loadU rfl rfl ?_); (with_reducible refine wpList_loadG FJ rfl rfl rfl m0 Try.underlying25 rfl infoRing rfl ?_)) | ((with_reducible refine stop_store rfl ?_)))
      show wpList _ _ _ _ _ _
      refine wpList_storeP rfl rfl rfl (f := 0) (cells := [(.slice (some ⟨b3, o3, none⟩) q.n cap3), .int .i64 (q.j : Nat)]) rfl (FJ.row (g := w.heap.size) m3) infoRing (by simp) (by simp [Value.oneCell']) (fun w5 K => ?_)
      replace FJ := FJ.wr3 (cs' := #[(.slice (some ⟨b3, o3, none⟩) q.n cap3), .int .i64 (q.j : Nat), .int .i64 3, .float .f32 (q.ta), .float .f32 (q.tb), .float .f32 (q.tc), .float .f32 (q.tx), .float .f32 (q.ty), .int .i64 2, .float .f32 (q.da), .float .f32 (q.db), .float .f32 (q.dc), .float .f32 (q.dx), .float .f32 (q.dy), .float .f32 (q.l)]) K
      clear K
      go_wp2_with (first | ((with_reducible refine at_loadU rfl rfl ?_); (with_reducible refine wpList_loadG FJ rfl rfl rfl m3 Try.underlying31 rfl infoStr rfl ?_)) | ((with_reducible refine stop_store (ty := 31) rfl ?_)))
      show wpList _ _ _ _ _ _
      refine wpList_storeD rfl rfl rfl (cells := #[(.slice (some ⟨b3, o3, none⟩) q.n cap3), .int .i64 (q.j : Nat), .int .i64 3, .float .f32 (q.ta), .float .f32 (q.tb), .float .f32 (q.tc), .float .f32 (q.tx), .float .f32 (q.ty), .int .i64 2, .float .f32 (q.da), .float .f32 (q.db), .float .f32 (q.dc), .float .f32 (q.dx), .float .f32 (q.dy), .float .f32 (q.l)]) rfl (FJ.row (g := w.heap.size + 1) m2) infoStr rfl (by simp [Value.oneCell']) (fun w7 K => ?_)
      replace FJ := FJ.wr2 K
      have RW := hid K.row
      have L := hid FJ.below
      have O := FJ.facts (ownF (w.heap.size + 1 + 1) w2.heap.size (.slice (some ⟨b3, o3, none⟩) q.n cap3) (addN q.x q.n q.j v fr cnt) q.n) m1
      have O7 := hid (OwnS.mono (lo' := w.heap.size) (hi' := w7.heap.size) O.2.2 (by omega) O.2.1)
      clear K FJ O
      go_wp2
      exact bodyPost_ret (results_row1 rfl _ _ _ _ _ rfl RW.out Try.underlying31 rfl infoStr) rfl ⟨_, rfl, O7.out, L.out⟩
set_option maxRecDepth 100000 in
set_option maxHeartbeats 4000000 in
theorem i_withAdded_str (B : Nat) (s : Value) (q : StS) (fr cnt : Nat) (c : Int) (v : Nat → Nat) (p0 p1 : Value) (w : World) (hs : RdS w B s q.x q.n) (ok : q.Ok) (hfc : fr ≤ 4096 ∧ (cnt = 0 ∨ fr + cnt ≤ q.n)) (hcc : (c = cnt ∨ (c < 0 ∧ cnt = 0)) ∧ -8192 ≤ c) (HC : ∀ (w' : World) (i : Nat), le w w' → fr ≤ i → i < fr + cnt → Calls Try.prog 82 #[.int .i64 (i : Nat), p0, p1] w' fun e w'' => ∃ r, e = .returned (.float .f32 r) ∧ (can .f32 r = can .f32 (v i) ∧ fits .f32 r) ∧ ∃ m, w'' = w'.drewN m) :
    Calls Try.prog 79 #[.agg #[s, .int .i64 (q.j : Nat), .int .i64 3, .float .f32 (q.ta), .float .f32 (q.tb), .float .f32 (q.tc), .float .f32 (q.tx), .float .f32 (q.ty), .int .i64 2, .float .f32 (q.da), .float .f32 (q.db), .float .f32 (q.dc), .float .f32 (q.dx), .float .f32 (q.dy), .float .f32 (q.l)], .int .i64 (fr : Nat), .int .i64 c, .func (.func 82) #[] #[p0, p1]] w fun e w' => ∃ s', e = .returned (.agg #[s', .int .i64 (q.j : Nat), .int .i64 3, .float .f32 (q.ta), .float .f32 (q.tb), .float .f32 (q.tc), .float .f32 (q.tx), .float .f32 (q.ty), .int .i64 2, .float .f32 (q.da), .float .f32 (q.db), .float .f32 (q.dc), .float .f32 (q.dx), .float .f32 (q.dy), .float .f32 (q.l)]) ∧ OwnS w' w.heap.size w'.heap.size s' (addN q.x q.n q.j v fr cnt) q.n ∧ le w w' := by
  have n1 := ok.n1
  have n2 := ok.n2
  have j1 := ok.j1
  have HCP := hid (fun (w' : World) (hl : le w w') => i_copied B s q.x q.n (q.j : Nat) w' (hs.le hl) n1 n2)
  have HCC := hid HC
  clear hs ok HC
  have F := (((Frg.nil w).box 31 #[s, .int .i64 (q.j : Nat), .int .i64 3, .float .f32 (q.ta), .float .f32 (q.tb), .float .f32 (q.tc), .float .f32 (q.tx), .float .f32 (q.ty), .int .i64 2, .float .f32 (q.da), .float .f32 (q.db), .float .f32 (q.dc), .float .f32 (q.dx), .float .f32 (q.dy), .float .f32 (q.l)]).box 31 #[.slice none 0 0, .int .i64 0, .int .i64 0, .float .f32 0, .float .f32 0, .float .f32 0, .float .f32 0, .float .f32 0, .int .i64 0, .float .f32 0, .float .f32 0, .float .f32 0, .float .f32 0, .float .f32 0, .float .f32 0])
  simp only [World.size_alloc] at F
  go_enter Try.func79, Try.ntmps79
  go_wp2_with (first | ((with_reducible refine at_loadU rfl rfl ?_); (with_reducible refine wpList_loadGP F rfl rfl rfl m1 Try.underlying25 rfl [s, .int .i64 (q.j : Nat)] (qRing s q) infoRing rfl ?_)) | (go_at_call 110; ((with_reducible refine (HCP.out _ F.below).mono ?_); rintro e w2 ⟨s', rfl, ho, hl⟩; have OC := hid (OwnS.one ho); replace F := hid (F.push (e := ownF (w.heap.size + 1 + 1) w2.heap.size s' q.x q.n) hl (show OwnS w2 (w.heap.size + 1 + 1) w2.heap.size s' q.x q.n by simpa using ho) (by simp [ownF]) (Nat.le_refl _)); clear ho hl)) | (refine wpList_storeG F.out rfl rfl rfl rfl rfl infoRing rfl (one_head OC.out rfl) ?_; clear F; intro W3 F zW; clear zW; replace F := hid F; have c0 := (F.out.row m0).cell? 0; obtain ⟨b3, o3, cap3, rfl, hc3, hm3, hb3, hb4⟩ := (F.out.own (lo := w.heap.size + 1 + 1) (hi := w2.heap.size) m1).form n1; unfold maxLen at hm3))
  go_loopw [11] (fun u wr => ∃ i : Nat, fr ≤ i ∧ i ≤ fr + cnt ∧ u = .int .i64 i ∧ Hid (Frg w wr [rowF w2.heap.size 25 #[(.slice (some ⟨b3, o3, none⟩) q.n cap3), .int .i64 (q.j : Nat)], ownF (w.heap.size + 1 + 1) w2.heap.size (.slice (some ⟨b3, o3, none⟩) q.n cap3) (addN q.x q.n q.j v fr (i - fr)) q.n, rowF (w.heap.size + 1) 31 #[.slice none 0 0, .int .i64 0, .int .i64 0, .float .f32 0, .float .f32 0, .float .f32 0, .float .f32 0, .float .f32 0, .int .i64 0, .float .f32 0, .float .f32 0, .float .f32 0, .float .f32 0, .float .f32 0, .float .f32 0], rowF w.heap.size 31 #[s, .int .i64 (q.j : Nat), .int .i64 3, .float .f32 (q.ta), .float .f32 (q.tb), .float .f32 (q.tc), .float .f32 (q.tx), .float .f32 (q.ty), .int .i64 2, .float .f32 (q.da), .float .f32 (q.db), .float .f32 (q.dc), .float .f32 (q.dx), .float .f32 (q.dy), .float .f32 (q.l)]])) (fun u _ => (fr + cnt) - (intOf u).toNat)
  case atStart => exact ⟨fr, Nat.le_refl _, by omega, rfl, by rw [Nat.sub_self]; exact F.out⟩
  case round =>
    obtain ⟨i, hi1, hi2, rfl, FJ⟩ := hrel
    clear F c0
    by_cases hlt : i < fr + cnt
    · have hic : (i : Int) < (fr : Int) + c := by omega
      have c0 := (FJ.out.row m0).cell? 0
      have c1 := (FJ.out.row m0).cell? 1
      have HE1 : Hid (((q.j : Int) + i) % q.n = (((q.j + i) % q.n : Nat) : Int)) := by unfold Hid; rw [Int.natCast_emod]; rfl
      have hJn : (q.j + i) % q.n < q.n := Nat.mod_lt _ (by omega)
      obtain ⟨y, cy, fy, fity, ey⟩ := (FJ.out.own (lo := w.heap.size + 1 + 1) (hi := w2.heap.size) m1).at hJn
      have HY := hid ey
      have HJ := hid (show (q.j + (fr + (i - fr))) % q.n = (q.j + i) % q.n by rw [show fr + (i - fr) = i by omega])
      clear ey fity
      generalize hJ : (q.j + i) % q.n = J at *
      clear hJ
      go_wp2_with fail
      refine wp_region_tail (fun _ _ u => ∃ r, u = .float .f32 r ∧ can .f32 r = can .f32 (v i) ∧ fits .f32 r) 15 (by kernel_rfl) (by kernel_rfl) ?_; simp only [List.take_succ_cons, List.take_zero, List.drop_succ_cons, List.drop_zero]
      iterate 8 (refine wpLoose_quiet rfl ?_; go_big_quiet_step (fail); refine wpQuiet_nil ?_)
      rw [HE1.out]
      repeat (refine wpLoose_quiet rfl ?_; go_big_quiet_step (fail); refine wpQuiet_nil ?_)
      refine wpLoose_any rfl (fun u => ∃ r, u = .float .f32 r ∧ can .f32 r = can .f32 (v i) ∧ fits .f32 r) (fun m0 => ?_) ?_
      · go_simp
        refine (HCC.out _ i (le_trans FJ.out.below (le_drewN _ _)) hi1 hlt).mono ?_
        rintro e w4 ⟨r, rfl, hr, m4, rfl⟩
        exact ⟨_, rfl, ⟨r, rfl, hr.1, hr.2⟩, m0 + m4, by rw [World.drewN_drewN]⟩
      rintro u ⟨r, rfl, hr, fr'⟩
      simp only [Act.put, List.setIfInBounds_toArray, List.set_cons_succ, List.set_cons_zero]
      have HR := hid hr
      clear hr
      repeat (first | (with_reducible refine wpLoose_farith rfl rfl rfl rfl rfl ?_; intro r2 hrr hf2; simp only [Act.put, List.setIfInBounds_toArray, List.set_cons_succ, List.set_cons_zero]) | (refine wpLoose_quiet rfl ?_; go_big_quiet_step (fail); refine wpQuiet_nil ?_))
      refine wpLoose_nil (fun m2 => ?_)
      go_wp2
      go_roundw
      case rel =>
        refine ⟨i + 1, by omega, by omega, by go_num, ?_⟩
        have h := ((FJ.out.drewN m2).own (lo := w.heap.size + 1 + 1) (hi := w2.heap.size) m1).set hJn hf2.out
        rw [addX_of HY.out (hrr.out.trans (by rw [← fop_can_r, HR.out, fop_can_r] : _ = fop .add .f32 y (v i)))] at h
        have h2 := (FJ.out.drewN m2).mark1 h.1 h.2
        rw [show i + 1 - fr = (i - fr) + 1 by omega]
        unfold addN
        rw [HJ.out, show fr + (i - fr) = i by omega]
        exact h2
      case measure => simp [intOf]; omega
    · have hic : ¬ (i : Int) < (fr : Int) + c := by omega
      obtain rfl : i = fr + cnt := by omega
      replace FJ := FJ.out
      rw [show fr + cnt - fr = cnt by omega] at FJ
      go_wp2_with (first | ((with_reducible refine at_loadU rfl rfl ?_); (with_reducible refine wpList_loadG FJ rfl rfl rfl m0 Try.underlying25 rfl infoRing rfl ?_)) | ((with_reducible refine stop_store rfl ?_)))
      show wpList _ _ _ _ _ _
      refine wpList_storeP rfl rfl rfl (f := 0) (cells := [(.slice (some ⟨b3, o3, none⟩) q.n cap3), .int .i64 (q.j : Nat)]) rfl (FJ.row (g := w.heap.size) m3) infoRing (by simp) (by simp [Value.oneCell']) (fun w5 K => ?_)
      replace FJ := FJ.wr3 (cs' := #[(.slice (some ⟨b3, o3, none⟩) q.n cap3), .int .i64 (q.j : Nat), .int .i64 3, .float .f32 (q.ta), .float .f32 (q.tb), .float .f32 (q.tc), .float .f32 (q.tx), .float .f32 (q.ty), .int .i64 2, .float .f32 (q.da), .float .f32 (q.db), .float .f32 (q.dc), .float .f32 (q.dx), .float .f32 (q.dy), .float .f32 (q.l)]) K
      clear K
      go_wp2_with (first | ((with_reducible refine at_loadU rfl rfl ?_); (with_reducible refine wpList_loadG FJ rfl rfl rfl m3 Try.underlying31 rfl infoStr rfl ?_)) | ((with_reducible refine stop_store (ty := 31) rfl ?_)))
      show wpList _ _ _ _ _ _
      refine wpList_storeD rfl rfl rfl (cells := #[(.slice (some ⟨b3, o3, none⟩) q.n cap3), .int .i64 (q.j : Nat), .int .i64 3, .float .f32 (q.ta), .float .f32 (q.tb), .float .f32 (q.tc), .float .f32 (q.tx), .float .f32 (q.ty), .int .i64 2, .float .f32 (q.da), .float .f32 (q.db), .float .f32 (q.dc), .float .f32 (q.dx), .float .f32 (q.dy), .float .f32 (q.l)]) rfl (FJ.row (g := w.heap.size + 1) m2) infoStr rfl (by simp [Value.oneCell']) (fun w7 K => ?_)
      replace FJ := FJ.wr2 K
      have RW := hid K.row
      have L := hid FJ.below
      have O := FJ.facts (ownF (w.heap.size + 1 + 1) w2.heap.size (.slice (some ⟨b3, o3, none⟩) q.n cap3) (addN q.x q.n q.j v fr cnt) q.n) m1
      have O7 := hid (OwnS.mono (lo' := w.heap.size) (hi' := w7.heap.size) O.2.2 (by omega) O.2.1)
      clear K FJ O
      go_wp2
      exact bodyPost_ret (results_row1 rfl _ _ _ _ _ rfl RW.out Try.underlying31 rfl infoStr) rfl ⟨_, rfl, O7.out, L.out⟩
end Go.Proofs.Ytaenbpkcehenkac

/- 'PluckString' of both. -/
namespace Go.Fk
open Go Go.RowKit
/-- Is a number a place? -/
def placeB (a : Nat) : Bool := (FloatKind.f32.format.order a 0 == some .gt || FloatKind.f32.format.order a 0 == some .eq) && (FloatKind.f32.format.order a 1065353216 == some .lt)
/-- The height of a triangle. -/
def triP (n pl : Nat) : Nat := fop .mul .f32 pl (floatOfInt .f32 (n : Int))
def triV (n pl fo i : Nat) : Nat :=
  if (FloatKind.f32.format.order (floatOfInt .f32 (i : Int)) (triP n pl) == some .lt) = true then fop .mul .f32 fo (fop .quo .f32 (floatOfInt .f32 (i : Int)) (triP n pl))
  else fop .mul .f32 fo (fop .quo .f32 (fop .sub .f32 (floatOfInt .f32 (n : Int)) (floatOfInt .f32 (i : Int))) (fop .sub .f32 (floatOfInt .f32 (n : Int)) (triP n pl)))
theorem triV_lt {n pl fo i p r1 r2 : Nat} (hp : can .f32 p = triP n pl) (hc : (FloatKind.f32.format.order (floatOfInt .f32 (i : Int)) p == some .lt) = true) (h1 : can .f32 r1 = fop .quo .f32 (floatOfInt .f32 (i : Int)) p) (h2 : can .f32 r2 = fop .mul .f32 fo r1) : can .f32 r2 = can .f32 (triV n pl fo i) := by
  unfold triV
  rw [if_pos (by rw [← hp, order_can_r]; exact hc), ← hp, fop_can_r, can_fop, h2, ← fop_can_r, h1]
theorem triV_ge {n pl fo i p r1 r2 r3 r4 : Nat} (hp : can .f32 p = triP n pl) (hc : (FloatKind.f32.format.order (floatOfInt .f32 (i : Int)) p == some .lt) = false) (h1 : can .f32 r1 = fop .sub .f32 (floatOfInt .f32 (n : Int)) (floatOfInt .f32 (i : Int))) (h2 : can .f32 r2 = fop .sub .f32 (floatOfInt .f32 (n : Int)) p) (h3 : can .f32 r3 = fop .quo .f32 r1 r2) (h4 : can .f32 r4 = fop .mul .f32 fo r3) : can .f32 r4 = can .f32 (triV n pl fo i) := by
  unfold triV
  rw [if_neg (by rw [← hp, order_can_r, hc]; decide), ← hp, fop_can_r, can_fop, h4]
  exact fop_congr rfl (h3.trans ((fop_congr (h1.trans (can_fop _ _ _ _).symm) (h2.trans (can_fop _ _ _ _).symm)).trans (can_fop _ _ _ _).symm))
end Go.Fk
namespace Go.Proofs.Ytaenbpkcehenkac
open Go.RowKit Go.Fk
set_option maxRecDepth 100000 in
set_option maxHeartbeats 4000000 in
theorem i_tri1 (n pl fo i p : Nat) (bp bf bn : Nat) (w : World) (hi : i ≤ 1024) (hp : can .f32 p = triP n pl) (Rp : Row w bp 22 #[.float .f32 p]) (Rf : Row w bf 22 #[.float .f32 fo]) (Rn : Row w bn 22 #[.float .f32 (floatOfInt .f32 (n : Int))]) :
    Calls Try.prog 111 #[.int .i64 (i : Nat), .pointer (some ⟨bp, 0, none⟩), .pointer (some ⟨bf, 0, none⟩), .pointer (some ⟨bn, 0, none⟩)] w fun e w' => ∃ r, e = .returned (.float .f32 r) ∧ (can .f32 r = can .f32 (triV n pl fo i) ∧ fits .f32 r) ∧ ∃ m, w' = w.drewN m := by
  have cp := Rp.cell? 0
  have cf := Rf.cell? 0
  have cn := Rn.cell? 0
  have HP := hid hp
  have HT1 := hid (fun r1 r2 => @triV_lt n pl fo i p r1 r2 hp)
  have HT2 := hid (fun r1 r2 r3 r4 => @triV_ge n pl fo i p r1 r2 r3 r4 hp)
  clear Rp Rf Rn hp
  cases hc : (FloatKind.f32.format.order (floatOfInt .f32 (i : Int)) p == some .lt)
  · have HC := hid hc
    go_enter Try.func111, Try.ntmps111
    go_wp2_with (first | (with_reducible refine wpList_farith (op := .sub) rfl rfl rfl rfl rfl ?_; intro r1 n1 hr1 fr1) | (with_reducible refine wpList_farith (op := .quo) rfl rfl rfl rfl rfl ?_; intro r3 n3 hr3 fr3) | (with_reducible refine wpList_farith (op := .mul) rfl rfl rfl rfl rfl ?_; intro r4 n4 hr4 fr4))
    go_ret
    exact ⟨_, rfl, ⟨HT2.out _ _ _ _ HC.out (Hid.out ‹Hid (can .f32 _ = fop .sub .f32 (floatOfInt .f32 (n : Int)) (floatOfInt .f32 (i : Int)))›) (Hid.out ‹Hid (can .f32 _ = fop .sub .f32 (floatOfInt .f32 (n : Int)) p)›) hr3.out hr4.out, fr4.out⟩, _, rfl⟩
  · have HC := hid hc
    go_enter Try.func111, Try.ntmps111
    go_wp2_with (first | (with_reducible refine wpList_farith (op := .quo) rfl rfl rfl rfl rfl ?_; intro r1 n1 hr1 fr1) | (with_reducible refine wpList_farith (op := .mul) rfl rfl rfl rfl rfl ?_; intro r2 n2 hr2 fr2))
    go_ret
    exact ⟨_, rfl, ⟨HT1.out _ _ HC.out hr1.out hr2.out, fr2.out⟩, _, rfl⟩
/-- What is known of a triangle. -/
def TriK (n pl fo B : Nat) (w : World) (v : Value) : Prop := ∃ bp bf bn p, v = .func (.func 111) #[] #[.pointer (some ⟨bp, 0, none⟩), .pointer (some ⟨bf, 0, none⟩), .pointer (some ⟨bn, 0, none⟩)] ∧ can .f32 p = triP n pl ∧ Row w bp 22 #[.float .f32 p] ∧ Row w bf 22 #[.float .f32 fo] ∧ Row w bn 22 #[.float .f32 (floatOfInt .f32 (n : Int))] ∧ B ≤ bp ∧ B ≤ bf ∧ B ≤ bn
theorem TriK.out {n pl fo B g : Nat} {w w' : World} {v : Value} (h : TriK n pl fo B w v) (hc : Chg (· = g) w w') (hg : g < B) : TriK n pl fo B w' v := by
  obtain ⟨bp, bf, bn, p, e, hp, r1, r2, r3, h1, h2, h3⟩ := h
  exact ⟨bp, bf, bn, p, e, hp, hc.row r1 (fun x => by have x' : bp = g := x; omega), hc.row r2 (fun x => by have x' : bf = g := x; omega), hc.row r3 (fun x => by have x' : bn = g := x; omega), h1, h2, h3⟩
theorem TriK.weak {n pl fo B B' : Nat} {w : World} {v : Value} (h : TriK n pl fo B w v) (hb : B' ≤ B) : TriK n pl fo B' w v := by
  obtain ⟨bp, bf, bn, p, e, hp, r1, r2, r3, h1, h2, h3⟩ := h
  exact ⟨bp, bf, bn, p, e, hp, r1, r2, r3, by omega, by omega, by omega⟩
set_option maxRecDepth 100000 in
set_option maxHeartbeats 4000000 in
theorem i_triangle (n pl fo : Nat) (w : World) (hn : n ≤ 1024) :
    Calls Try.prog 80 #[.int .i64 (n : Nat), .float .f32 pl, .float .f32 fo] w fun e w' => ∃ v, e = .returned v ∧ le w w' ∧ TriK n pl fo w.heap.size w' v := by
  have F := ((Frg.nil w).box 22 #[.float .f32 fo]).box 22 #[.float .f32 (floatOfInt .f32 (n : Int))]
  simp only [World.size_alloc] at F
  go_enter Try.func80, Try.ntmps80
  go_wp2_with (first | (with_reducible refine wpList_farith (op := .mul) rfl rfl rfl rfl rfl ?_; intro p n1 hp fp; replace F := F.drewN n1))
  have F3 := F.box 22 #[.float .f32 p]
  simp only [World.heap_drewN, World.size_alloc] at F3
  go_ret
  exact ⟨_, rfl, F3.below, w.heap.size + 1 + 1, w.heap.size, w.heap.size + 1, p, rfl, hp.out, F3.row m0, F3.row m2, F3.row m1, by omega, by omega, by omega⟩
set_option maxRecDepth 100000 in
set_option maxHeartbeats 4000000 in
theorem i_isPlace (a : Nat) (w : World) : Calls Try.prog 78 #[.float .f32 a] w fun e w' => e = .returned (.bool (placeB a)) ∧ w = w' := by
  rcases h0 : FloatKind.f32.format.order a 0 with _ | (_ | _ | _) <;> rcases h1 : FloatKind.f32.format.order a 1065353216 with _ | (_ | _ | _)
  all_goals
    go_enter Try.func78, Try.ntmps78
    go_wp2
    go_ret
    exact ⟨ret_b (by unfold placeB; rw [h0, h1]; rfl), rfl⟩
set_option maxRecDepth 100000 in
set_option maxHeartbeats 4000000 in
theorem i_PluckString_no (B : Nat) (s : Value) (x : Nat → Nat) (n : Nat) (k tk : Int) (ta tb tc tx ty : Nat) (dk : Int) (da db dc dx dy l : Nat) (pl fo : Nat) (w : World) (hs : RdS w B s x n) (hf : fits .f32 ta ∧ fits .f32 tb ∧ fits .f32 tc ∧ fits .f32 tx ∧ fits .f32 ty) (hg : fits .f32 da ∧ fits .f32 db ∧ fits .f32 dc ∧ fits .f32 dx ∧ fits .f32 dy) (hl2 : fits .f32 l) (hv : okStr n k tk ta tb tc tx ty dk da db dc dx dy l = false) :
    Calls Try.prog 27 #[.agg #[s, .int .i64 k, .int .i64 tk, .float .f32 ta, .float .f32 tb, .float .f32 tc, .float .f32 tx, .float .f32 ty, .int .i64 dk, .float .f32 da, .float .f32 db, .float .f32 dc, .float .f32 dx, .float .f32 dy, .float .f32 l], .float .f32 pl, .float .f32 fo] w (Out_si (fun _ => 0) 0 0 0 0 0 0 0 0 0 0 0 0 0 0 0 1 w) := by
  have HV := hid (fun (w' : World) (hl : le w w') => hv ▸ i_ValidStringR B s x n k tk ta tb tc tx ty dk da db dc dx dy l w' (hs.le hl) hf hg hl2)
  clear hs hv hf hg hl2
  have F := (((Frg.nil w).box 31 #[s, .int .i64 k, .int .i64 tk, .float .f32 ta, .float .f32 tb, .float .f32 tc, .float .f32 tx, .float .f32 ty, .int .i64 dk, .float .f32 da, .float .f32 db, .float .f32 dc, .float .f32 dx, .float .f32 dy, .float .f32 l]).box 31 #[.slice none 0 0, .int .i64 0, .int .i64 0, .float .f32 0, .float .f32 0, .float .f32 0, .float .f32 0, .float .f32 0, .int .i64 0, .float .f32 0, .float .f32 0, .float .f32 0, .float .f32 0, .float .f32 0, .float .f32 0])
  simp only [World.size_alloc] at F
  go_enter Try.func27, Try.ntmps27
  go_wp2_with (first | ((with_reducible refine at_loadU rfl rfl ?_); (with_reducible refine wpList_loadG F rfl rfl rfl (by first | exact m0 | exact m1 | exact m2 | exact m3 | exact m4 | exact m5) Try.underlying31 rfl infoStr rfl ?_)) | (go_at_call 23; ((with_reducible refine (HV.out _ F.below).mono ?_); rintro e w1 ⟨rfl, hl⟩; replace F := F.le hl; clear hl)) | ((with_reducible refine stop_store rfl ?_)))
  show wpList _ _ _ _ _ _
  refine wpList_storeD rfl rfl rfl (cells := #[.slice none 0 0, .int .i64 0, .int .i64 0, .float .f32 0, .float .f32 0, .float .f32 0, .float .f32 0, .float .f32 0, .int .i64 0, .float .f32 0, .float .f32 0, .float .f32 0, .float .f32 0, .float .f32 0, .float .f32 0]) rfl (F.row m0) infoStr rfl (by simp [Value.oneCell']) (fun w4 K => ?_)
  have R := hid K.row
  have L := hid (F.wr0 K).below
  clear K F
  go_wp2
  exact bodyPost_ret (results_row2 rfl _ _ _ _ _ rfl R.out Try.underlying31 rfl infoStr) rfl ⟨_, rfl, .inl ⟨rfl, rfl⟩, L.out⟩
set_option maxRecDepth 100000 in
set_option maxHeartbeats 4000000 in
theorem i_PluckString_out (B : Nat) (s : Value) (q : StS) (pl fo : Nat) (w : World) (hs : RdS w B s q.x q.n) (ok : q.Ok) (hv : okStr q.n (q.j : Nat) 3 q.ta q.tb q.tc q.tx q.ty 2 q.da q.db q.dc q.dx q.dy q.l = true) (hfo : fits .f32 fo) (hp : (placeB pl && fin fo) = false) :
    Calls Try.prog 27 #[.agg #[s, .int .i64 (q.j : Nat), .int .i64 3, .float .f32 (q.ta), .float .f32 (q.tb), .float .f32 (q.tc), .float .f32 (q.tx), .float .f32 (q.ty), .int .i64 2, .float .f32 (q.da), .float .f32 (q.db), .float .f32 (q.dc), .float .f32 (q.dx), .float .f32 (q.dy), .float .f32 (q.l)], .float .f32 pl, .float .f32 fo] w (Out_si (fun _ => 0) 0 0 0 0 0 0 0 0 0 0 0 0 0 0 0 2 w) := by
  have HV := hid (fun (w' : World) (hl : le w w') => hv ▸ i_ValidStringR B s q.x q.n (q.j : Nat) 3 q.ta q.tb q.tc q.tx q.ty 2 q.da q.db q.dc q.dx q.dy q.l w' (hs.le hl) ⟨ok.fta, ok.ftb, ok.ftc, ok.ftx, ok.fty⟩ ⟨ok.fda, ok.fdb, ok.fdc, ok.fdx, ok.fdy⟩ ok.fl)
  have HPL := hid (fun (w : World) => i_isPlace pl w)
  have HFI := hid (fun (w : World) => i_isFinite fo w hfo)
  clear hs hv ok hfo
  cases h1 : placeB pl
  · rw [h1] at HPL
    clear hp h1 HFI
    have F := (((Frg.nil w).box 31 #[s, .int .i64 (q.j : Nat), .int .i64 3, .float .f32 (q.ta), .float .f32 (q.tb), .float .f32 (q.tc), .float .f32 (q.tx), .float .f32 (q.ty), .int .i64 2, .float .f32 (q.da), .float .f32 (q.db), .float .f32 (q.dc), .float .f32 (q.dx), .float .f32 (q.dy), .float .f32 (q.l)]).box 31 #[.slice none 0 0, .int .i64 0, .int .i64 0, .float .f32 0, .float .f32 0, .float .f32 0, .float .f32 0, .float .f32 0, .int .i64 0, .float .f32 0, .float .f32 0, .float .f32 0, .float .f32 0, .float .f32 0, .float .f32 0])
    simp only [World.size_alloc] at F
    go_enter Try.func27, Try.ntmps27
    go_wp2_with (first | ((with_reducible refine at_loadU rfl rfl ?_); (with_reducible refine wpList_loadG F rfl rfl rfl (by first | exact m0 | exact m1 | exact m2 | exact m3 | exact m4 | exact m5) Try.underlying31 rfl infoStr rfl ?_)) | (go_at_call 23; ((with_reducible refine (HV.out _ F.below).mono ?_); rintro e w1 ⟨rfl, hl⟩; replace F := F.le hl; clear hl)) | (go_at_call 78; ((with_reducible refine (HPL.out _).mono ?_); rintro e w8 ⟨rfl, rfl⟩)) | (go_at_call 68; ((with_reducible refine (HFI.out _).mono ?_); rintro e w8 ⟨rfl, rfl⟩)) | ((with_reducible refine stop_store rfl ?_)))
    show wpList _ _ _ _ _ _
    refine wpList_storeD rfl rfl rfl (cells := #[.slice none 0 0, .int .i64 0, .int .i64 0, .float .f32 0, .float .f32 0, .float .f32 0, .float .f32 0, .float .f32 0, .int .i64 0, .float .f32 0, .float .f32 0, .float .f32 0, .float .f32 0, .float .f32 0, .float .f32 0]) rfl (F.row m0) infoStr rfl (by simp [Value.oneCell']) (fun w4 K => ?_)
    have R := hid K.row
    have L := hid (F.wr0 K).below
    clear K F
    go_wp2
    exact bodyPost_ret (results_row2 rfl _ _ _ _ _ rfl R.out Try.underlying31 rfl infoStr) rfl ⟨_, rfl, .inl ⟨rfl, rfl⟩, L.out⟩
  · have h2 : fin fo = false := by rw [h1] at hp; simpa using hp
    rw [h1] at HPL
    rw [h2] at HFI
    clear hp h1 h2
    have F := (((Frg.nil w).box 31 #[s, .int .i64 (q.j : Nat), .int .i64 3, .float .f32 (q.ta), .float .f32 (q.tb), .float .f32 (q.tc), .float .f32 (q.tx), .float .f32 (q.ty), .int .i64 2, .float .f32 (q.da), .float .f32 (q.db), .float .f32 (q.dc), .float .f32 (q.dx), .float .f32 (q.dy), .float .f32 (q.l)]).box 31 #[.slice none 0 0, .int .i64 0, .int .i64 0, .float .f32 0, .float .f32 0, .float .f32 0, .float .f32 0, .float .f32 0, .int .i64 0, .float .f32 0, .float .f32 0, .float .f32 0, .float .f32 0, .float .f32 0, .float .f32 0])
    simp only [World.size_alloc] at F
    go_enter Try.func27, Try.ntmps27
    go_wp2_with (first | ((with_reducible refine at_loadU rfl rfl ?_); (with_reducible refine wpList_loadG F rfl rfl rfl (by first | exact m0 | exact m1 | exact m2 | exact m3 | exact m4 | exact m5) Try.underlying31 rfl infoStr rfl ?_)) | (go_at_call 23; ((with_reducible refine (HV.out _ F.below).mono ?_); rintro e w1 ⟨rfl, hl⟩; replace F := F.le hl; clear hl)) | (go_at_call 78; ((with_reducible refine (HPL.out _).mono ?_); rintro e w8 ⟨rfl, rfl⟩)) | (go_at_call 68; ((with_reducible refine (HFI.out _).mono ?_); rintro e w8 ⟨rfl, rfl⟩)) | ((with_reducible refine stop_store rfl ?_)))
    show wpList _ _ _ _ _ _
    refine wpList_storeD rfl rfl rfl (cells := #[.slice none 0 0, .int .i64 0, .int .i64 0, .float .f32 0, .float .f32 0, .float .f32 0, .float .f32 0, .float .f32 0, .int .i64 0, .float .f32 0, .float .f32 0, .float .f32 0, .float .f32 0, .float .f32 0, .float .f32 0]) rfl (F.row m0) infoStr rfl (by simp [Value.oneCell']) (fun w4 K => ?_)
    have R := hid K.row
    have L := hid (F.wr0 K).below
    clear K F
    go_wp2
    exact bodyPost_ret (results_row2 rfl _ _ _ _ _ rfl R.out Try.underlying31 rfl infoStr) rfl ⟨_, rfl, .inl ⟨rfl, rfl⟩, L.out⟩
set_option maxRecDepth 100000 in
set_option maxHeartbeats 4000000 in
theorem i_PluckString_yes (B : Nat) (s : Value) (q : StS) (pl fo : Nat) (w : World) (hs : RdS w B s q.x q.n) (ok : q.Ok) (hv : okStr q.n (q.j : Nat) 3 q.ta q.tb q.tc q.tx q.ty 2 q.da q.db q.dc q.dx q.dy q.l = true) (hfo : fits .f32 fo) (hp : (placeB pl && fin fo) = true) :
    Calls Try.prog 27 #[.agg #[s, .int .i64 (q.j : Nat), .int .i64 3, .float .f32 (q.ta), .float .f32 (q.tb), .float .f32 (q.tc), .float .f32 (q.tx), .float .f32 (q.ty), .int .i64 2, .float .f32 (q.da), .float .f32 (q.db), .float .f32 (q.dc), .float .f32 (q.dx), .float .f32 (q.dy), .float .f32 (q.l)], .float .f32 pl, .float .f32 fo] w (Out_si (addN q.x q.n q.j (triV q.n pl fo) 0 q.n) q.n (q.j : Nat) 3 q.ta q.tb q.tc q.tx q.ty 2 q.da q.db q.dc q.dx q.dy q.l 0 w) := by
  have HV := hid (fun (w' : World) (hl : le w w') => hv ▸ i_ValidStringR B s q.x q.n (q.j : Nat) 3 q.ta q.tb q.tc q.tx q.ty 2 q.da q.db q.dc q.dx q.dy q.l w' (hs.le hl) ⟨ok.fta, ok.ftb, ok.ftc, ok.ftx, ok.fty⟩ ⟨ok.fda, ok.fdb, ok.fdc, ok.fdx, ok.fdy⟩ ok.fl)
  have HPL := hid (fun (w : World) => i_isPlace pl w)
  have HFI := hid (fun (w : World) => i_isFinite fo w hfo)
  have n1 := ok.n1
  have n2 := ok.n2
  have hp2 := Bool.and_eq_true_iff.1 hp
  rw [hp2.1] at HPL
  rw [hp2.2] at HFI
  have HT := hid (fun (w' : World) => i_triangle q.n pl fo w' n2)
  have HW := hid (fun (w' : World) (hl : le w w') (bp bf bn p : Nat) (hp : can .f32 p = triP q.n pl) (Rp : Row w' bp 22 #[.float .f32 p]) (Rf : Row w' bf 22 #[.float .f32 fo]) (Rn : Row w' bn 22 #[.float .f32 (floatOfInt .f32 (q.n : Int))]) => show Calls Try.prog 79 #[.agg #[s, .int .i64 (q.j : Nat), .int .i64 3, .float .f32 (q.ta), .float .f32 (q.tb), .float .f32 (q.tc), .float .f32 (q.tx), .float .f32 (q.ty), .int .i64 2, .float .f32 (q.da), .float .f32 (q.db), .float .f32 (q.dc), .float .f32 (q.dx), .float .f32 (q.dy), .float .f32 (q.l)], .int .i64 0, .int .i64 (q.n : Nat), .func (.func 111) #[] #[.pointer (some ⟨bp, 0, none⟩), .pointer (some ⟨bf, 0, none⟩), .pointer (some ⟨bn, 0, none⟩)]] w' fun e w'' => ∃ s', e = .returned (.agg #[s', .int .i64 (q.j : Nat), .int .i64 3, .float .f32 (q.ta), .float .f32 (q.tb), .float .f32 (q.tc), .float .f32 (q.tx), .float .f32 (q.ty), .int .i64 2, .float .f32 (q.da), .float .f32 (q.db), .float .f32 (q.dc), .float .f32 (q.dx), .float .f32 (q.dy), .float .f32 (q.l)]) ∧ OwnS w'' w'.heap.size w''.heap.size s' (addN q.x q.n q.j (triV q.n pl fo) 0 q.n) q.n ∧ le w' w'' from i_withAdded_tri B s q 0 q.n (q.n : Int) (triV q.n pl fo) (.pointer (some ⟨bp, 0, none⟩)) (.pointer (some ⟨bf, 0, none⟩)) (.pointer (some ⟨bn, 0, none⟩)) w' (hs.le hl) ok ⟨by omega, .inr (by omega)⟩ ⟨.inl rfl, by omega⟩ (fun w'' i hl2 _ hi => i_tri1 q.n pl fo i p bp bf bn w'' (by omega) hp (Rp.le hl2) (Rf.le hl2) (Rn.le hl2)))
  obtain ⟨a0, cap, y0, rfl, hc, hm, _⟩ := hs.raw n1
  unfold maxLen at hm
  clear hs hv ok hfo hp hp2
  have F := (((Frg.nil w).box 31 #[(.slice (some a0) q.n cap), .int .i64 (q.j : Nat), .int .i64 3, .float .f32 (q.ta), .float .f32 (q.tb), .float .f32 (q.tc), .float .f32 (q.tx), .float .f32 (q.ty), .int .i64 2, .float .f32 (q.da), .float .f32 (q.db), .float .f32 (q.dc), .float .f32 (q.dx), .float .f32 (q.dy), .float .f32 (q.l)]).box 31 #[.slice none 0 0, .int .i64 0, .int .i64 0, .float .f32 0, .float .f32 0, .float .f32 0, .float .f32 0, .float .f32 0, .int .i64 0, .float .f32 0, .float .f32 0, .float .f32 0, .float .f32 0, .float .f32 0, .float .f32 0])
  simp only [World.size_alloc] at F
  go_enter Try.func27, Try.ntmps27
  go_wp2_with (first | ((with_reducible refine at_loadU rfl rfl ?_); (with_reducible refine wpList_loadG F rfl rfl rfl (by first | exact m0 | exact m1 | exact m2 | exact m3 | exact m4 | exact m5) Try.underlying31 rfl infoStr rfl ?_)) | (go_at_call 23; ((with_reducible refine (HV.out _ F.below).mono ?_); rintro e w1 ⟨rfl, hl⟩; replace F := F.le hl; clear hl; have c0 := (F.row m1).cell? 0)) | (go_at_call 78; ((with_reducible refine (HPL.out _).mono ?_); rintro e w8 ⟨rfl, rfl⟩)) | (go_at_call 68; ((with_reducible refine (HFI.out _).mono ?_); rintro e w8 ⟨rfl, rfl⟩)))
  have G := F.drewN 1
  have hz := hid ((F.drewN 1).facts (rowF (w.heap.size + 1) 31 #[.slice none 0 0, .int .i64 0, .int .i64 0, .float .f32 0, .float .f32 0, .float .f32 0, .float .f32 0, .float .f32 0, .int .i64 0, .float .f32 0, .float .f32 0, .float .f32 0, .float .f32 0, .float .f32 0, .float .f32 0]) m0).2.1
  clear c0
  refine region_freeD (E := outX (w.heap.size + 1) 31 15 (FinS (w.heap.size + 2) (fun u => #[u, .int .i64 (q.j : Nat), .int .i64 3, .float .f32 (q.ta), .float .f32 (q.tb), .float .f32 (q.tc), .float .f32 (q.tx), .float .f32 (q.ty), .int .i64 2, .float .f32 (q.da), .float .f32 (q.db), .float .f32 (q.dc), .float .f32 (q.dx), .float .f32 (q.dy), .float .f32 (q.l)]) (addN q.x q.n q.j (triV q.n pl fo) 0 q.n) q.n) (FinS_le _ _ _ _)) (fun f _ w' v => if f = 80 then TriK q.n pl fo (w.heap.size + 2) w' v else ∃ cs, v = .agg cs ∧ FinS (w.heap.size + 2) (fun u => #[u, .int .i64 (q.j : Nat), .int .i64 3, .float .f32 (q.ta), .float .f32 (q.tb), .float .f32 (q.tc), .float .f32 (q.tx), .float .f32 (q.ty), .int .i64 2, .float .f32 (q.da), .float .f32 (q.db), .float .f32 (q.dc), .float .f32 (q.dx), .float .f32 (q.dy), .float .f32 (q.l)]) (addN q.x q.n q.j (triV q.n pl fo) 0 q.n) q.n w' cs) (by kernel_rfl) (by kernel_rfl) ?_
  refine wpFreeD_loadX (G.row m1) (by omega) rfl rfl rfl Try.underlying31 rfl infoStr rfl ?_
  simp only [Act.put, List.setIfInBounds_toArray, List.set_cons_succ, List.set_cons_zero]
  refine wpFreeD_one rfl (.int .i64 (q.n : Nat)) (fun w1 _ => by kernel_rfl) ?_
  simp only [Act.put, List.setIfInBounds_toArray, List.set_cons_succ, List.set_cons_zero]
  refine wpFreeD_one rfl (.int .i64 (q.n : Nat)) (fun w1 _ => by kernel_rfl) ?_
  simp only [Act.put, List.setIfInBounds_toArray, List.set_cons_succ, List.set_cons_zero]
  refine wpFreeD_one rfl (.float .f32 pl) (fun w1 _ => by kernel_rfl) ?_
  simp only [Act.put, List.setIfInBounds_toArray, List.set_cons_succ, List.set_cons_zero]
  refine wpFreeD_one rfl (.float .f32 fo) (fun w1 _ => by kernel_rfl) ?_
  simp only [Act.put, List.setIfInBounds_toArray, List.set_cons_succ, List.set_cons_zero]
  refine wpFreeD_callB rfl rfl Try.func80 (by kernel_rfl) (by kernel_rfl) (args := #[.int .i64 (q.n : Nat), .float .f32 pl, .float .f32 fo]) (by simp [Act.eval]) (fun v w1 w2 hw hv => by simp only [if_true] at hv ⊢; exact hv.out hw.1 (by omega)) (fun w1 hw1 _ => (HT.out w1).mono ?_) ?_
  · rintro e w2 ⟨v, rfl, hl, hk⟩
    exact ⟨_, rfl, hl, by simp only [if_true]; exact hk.weak (Nat.le_trans hz.out hw1.1.size)⟩
  rintro v ⟨_, _, _, hv⟩
  simp only [if_true] at hv
  obtain ⟨bp, bf, bn, _, rfl, _⟩ := hv
  simp only [Act.put, List.setIfInBounds_toArray, List.set_cons_succ, List.set_cons_zero]
  refine wpFreeD_callB rfl rfl Try.func79 (by kernel_rfl) (by kernel_rfl) (args := #[.agg #[(.slice (some a0) q.n cap), .int .i64 (q.j : Nat), .int .i64 3, .float .f32 (q.ta), .float .f32 (q.tb), .float .f32 (q.tc), .float .f32 (q.tx), .float .f32 (q.ty), .int .i64 2, .float .f32 (q.da), .float .f32 (q.db), .float .f32 (q.dc), .float .f32 (q.dx), .float .f32 (q.dy), .float .f32 (q.l)], .int .i64 0, .int .i64 (q.n : Nat), .func (.func 111) #[] #[.pointer (some ⟨bp, 0, none⟩), .pointer (some ⟨bf, 0, none⟩), .pointer (some ⟨bn, 0, none⟩)]]) (by simp [Act.eval]) (fun v w1 w2 hw hv => by simp only [show ¬ (79 = 80) by decide, if_false] at hv ⊢; obtain ⟨cs, h1, h2⟩ := hv; exact ⟨cs, h1, FinS_ch h2 hw.1 (by omega)⟩) (fun w1 hw1 hbe => ?_) ?_
  · have hk := (hbe ⟨5, Ground.data⟩ (by simp) (by kernel_rfl)).2 rfl
    simp only [if_true] at hk
    obtain ⟨bp', bf', bn', p, he, hp, r1, r2, r3, _, _, _⟩ := hk
    simp only [Value.func.injEq, Array.mk.injEq, List.cons.injEq, Value.pointer.injEq, Option.some.injEq, Addr.mk.injEq, and_true, true_and] at he
    obtain ⟨rfl, rfl, rfl⟩ := he
    refine (HW.out w1 (G.below.trans (hw1.1.below (B := w.heap.size) (fun k e => by have e' : k = w.heap.size + 1 := e; omega) G.size)) bp bf bn p hp r1 r2 r3).mono ?_
    rintro e w2 ⟨s', rfl, ho, hl⟩
    exact ⟨_, rfl, hl, by simp only [show ¬ (79 = 80) by decide, if_false]; exact ⟨_, rfl, s', rfl, _, _, Nat.le_trans hz.out hw1.1.size, Nat.le_refl _, ho⟩⟩
  rintro v ⟨_, _, _, hv⟩
  simp only [show ¬ (79 = 80) by decide, if_false] at hv
  obtain ⟨cs, rfl, s2, rfl, _, _, _, _, ho2⟩ := hv
  have OC2 := hid (OwnS.one ho2)
  clear ho2
  simp only [Act.put, List.setIfInBounds_toArray, List.set_cons_succ, List.set_cons_zero]
  refine wpFreeD_out rfl rfl rfl (cells := #[s2, .int .i64 (q.j : Nat), .int .i64 3, .float .f32 (q.ta), .float .f32 (q.tb), .float .f32 (q.tc), .float .f32 (q.tx), .float .f32 (q.ty), .int .i64 2, .float .f32 (q.da), .float .f32 (q.db), .float .f32 (q.dc), .float .f32 (q.dx), .float .f32 (q.dy), .float .f32 (q.l)]) rfl rfl (G.row m0) rfl (fun w1 w2 hw hb hch => ?_) infoStr rfl (one_head OC2.out rfl) ?_
  · obtain ⟨cs, h1, h2⟩ := (hb ⟨6, Ground.data⟩ (by simp) (by kernel_rfl)).2 rfl
    simp only [Value.agg.injEq] at h1
    subst h1
    exact FinS_ch h2 hch (by omega)
  simp only [Act.put, List.setIfInBounds_toArray, List.set_cons_succ, List.set_cons_zero]
  refine wpFreeD_one rfl (.int .i64 0) (fun w1 _ => by kernel_rfl) ?_
  simp only [Act.put, List.setIfInBounds_toArray, List.set_cons_succ, List.set_cons_zero]
  refine wpFreeD_nil (fun w3 hw3 hF => ?_)
  obtain ⟨cs, hr, s', rfl, lo, hi, b1, b2, ho⟩ := (hF 7).1.2 rfl
  have hle : le w w3 := G.below.trans (hw3.1.below (B := w.heap.size) (fun k e => by have e' : k = w.heap.size + 1 := e; omega) G.size)
  go_wp2
  exact bodyPost_ret (results_row2 rfl _ _ _ _ _ rfl hr Try.underlying31 rfl infoStr) rfl ⟨s', rfl, ho.mono (by omega) b2, hle⟩
set_option maxRecDepth 100000 in
set_option maxHeartbeats 4000000 in
theorem s_PluckString_no (B : Nat) (s : Value) (x : Nat → Nat) (n : Nat) (k tk : Int) (ta tb tc tx ty : Nat) (dk : Int) (da db dc dx dy l : Nat) (pl fo : Nat) (w : World) (hs : RdS w B s x n) (hk : (Lit.int .i64 k).wf = true) (hv : okStr n k tk ta tb tc tx ty dk da db dc dx dy l = false) :
    Calls Try.prog 26 #[.agg #[s, .int .i64 k, .int .i64 tk, .float .f32 ta, .float .f32 tb, .float .f32 tc, .float .f32 tx, .float .f32 ty, .int .i64 dk, .float .f32 da, .float .f32 db, .float .f32 dc, .float .f32 dx, .float .f32 dy, .float .f32 l], .float .f32 pl, .float .f32 fo] w (Out_si (fun _ => 0) 0 0 0 0 0 0 0 0 0 0 0 0 0 0 0 1 w) := by
  have HV := hid (fun (w' : World) (g : Nat) (hl : le w w') (R : Row w' g 31 #[s, .int .i64 k, .int .i64 tk, .float .f32 ta, .float .f32 tb, .float .f32 tc, .float .f32 tx, .float .f32 ty, .int .i64 dk, .float .f32 da, .float .f32 db, .float .f32 dc, .float .f32 dx, .float .f32 dy, .float .f32 l]) => hv ▸ s_l03Ok B s x n k tk ta tb tc tx ty dk da db dc dx dy l g w' (hs.le hl) R hk)
  clear hs hk hv
  have F := (((Frg.nil w).box 31 #[s, .int .i64 k, .int .i64 tk, .float .f32 ta, .float .f32 tb, .float .f32 tc, .float .f32 tx, .float .f32 ty, .int .i64 dk, .float .f32 da, .float .f32 db, .float .f32 dc, .float .f32 dx, .float .f32 dy, .float .f32 l]).box 31 #[.slice none 0 0, .int .i64 0, .int .i64 0, .float .f32 0, .float .f32 0, .float .f32 0, .float .f32 0, .float .f32 0, .int .i64 0, .float .f32 0, .float .f32 0, .float .f32 0, .float .f32 0, .float .f32 0, .float .f32 0])
  simp only [World.size_alloc] at F
  go_enter Try.func26, Try.ntmps26
  go_wp2_with (first | (go_at_call 63; ((with_reducible refine (HV.out _ _ F.below (F.row (by first | exact m0 | exact m1 | exact m2 | exact m3 | exact m4 | exact m5))).mono ?_); rintro e w1 ⟨rfl, m, rfl⟩; replace F := F.drewN m)) | ((with_reducible refine stop_store rfl ?_)))
  show wpList _ _ _ _ _ _
  refine wpList_storeD rfl rfl rfl (cells := #[.slice none 0 0, .int .i64 0, .int .i64 0, .float .f32 0, .float .f32 0, .float .f32 0, .float .f32 0, .float .f32 0, .int .i64 0, .float .f32 0, .float .f32 0, .float .f32 0, .float .f32 0, .float .f32 0, .float .f32 0]) rfl (F.row m0) infoStr rfl (by simp [Value.oneCell']) (fun w4 K => ?_)
  have R := hid K.row
  have L := hid (F.wr0 K).below
  clear K F
  go_wp2
  exact bodyPost_ret (results_row2 rfl _ _ _ _ _ rfl R.out Try.underlying31 rfl infoStr) rfl ⟨_, rfl, .inl ⟨rfl, rfl⟩, L.out⟩
set_option maxRecDepth 100000 in
set_option maxHeartbeats 4000000 in
theorem s_PluckString_out (B : Nat) (s : Value) (q : StS) (pl fo : Nat) (w : World) (hs : RdS w B s q.x q.n) (ok : q.Ok) (hk : (Lit.int .i64 (q.j : Nat)).wf = true) (hv : okStr q.n (q.j : Nat) 3 q.ta q.tb q.tc q.tx q.ty 2 q.da q.db q.dc q.dx q.dy q.l = true) (hp : (placeB pl && fin fo) = false) :
    Calls Try.prog 26 #[.agg #[s, .int .i64 (q.j : Nat), .int .i64 3, .float .f32 (q.ta), .float .f32 (q.tb), .float .f32 (q.tc), .float .f32 (q.tx), .float .f32 (q.ty), .int .i64 2, .float .f32 (q.da), .float .f32 (q.db), .float .f32 (q.dc), .float .f32 (q.dx), .float .f32 (q.dy), .float .f32 (q.l)], .float .f32 pl, .float .f32 fo] w (Out_si (fun _ => 0) 0 0 0 0 0 0 0 0 0 0 0 0 0 0 0 2 w) := by
  have HV := hid (fun (w' : World) (g : Nat) (hl : le w w') (R : Row w' g 31 #[s, .int .i64 (q.j : Nat), .int .i64 3, .float .f32 (q.ta), .float .f32 (q.tb), .float .f32 (q.tc), .float .f32 (q.tx), .float .f32 (q.ty), .int .i64 2, .float .f32 (q.da), .float .f32 (q.db), .float .f32 (q.dc), .float .f32 (q.dx), .float .f32 (q.dy), .float .f32 (q.l)]) => hv ▸ s_l03Ok B s q.x q.n (q.j : Nat) 3 q.ta q.tb q.tc q.tx q.ty 2 q.da q.db q.dc q.dx q.dy q.l g w' (hs.le hl) R hk)
  have HFI := hid (fun (w : World) => s_l01Finite fo w)
  clear hs hk hv ok
  unfold placeB at hp
  cases h1 : (FloatKind.f32.format.order pl 0 == some .gt || FloatKind.f32.format.order pl 0 == some .eq)
  · clear hp HFI
    have F := (((Frg.nil w).box 31 #[s, .int .i64 (q.j : Nat), .int .i64 3, .float .f32 (q.ta), .float .f32 (q.tb), .float .f32 (q.tc), .float .f32 (q.tx), .float .f32 (q.ty), .int .i64 2, .float .f32 (q.da), .float .f32 (q.db), .float .f32 (q.dc), .float .f32 (q.dx), .float .f32 (q.dy), .float .f32 (q.l)]).box 31 #[.slice none 0 0, .int .i64 0, .int .i64 0, .float .f32 0, .float .f32 0, .float .f32 0, .float .f32 0, .float .f32 0, .int .i64 0, .float .f32 0, .float .f32 0, .float .f32 0, .float .f32 0, .float .f32 0, .float .f32 0])
    simp only [World.size_alloc] at F
    go_enter Try.func26, Try.ntmps26
    go_wp2_with (first | (go_at_call 63; ((with_reducible refine (HV.out _ _ F.below (F.row (by first | exact m0 | exact m1 | exact m2 | exact m3 | exact m4 | exact m5))).mono ?_); rintro e w1 ⟨rfl, m, rfl⟩; replace F := F.drewN m)) | ((with_reducible refine stop_store rfl ?_)))
    show wpList _ _ _ _ _ _
    refine wpList_storeD rfl rfl rfl (cells := #[.slice none 0 0, .int .i64 0, .int .i64 0, .float .f32 0, .float .f32 0, .float .f32 0, .float .f32 0, .float .f32 0, .int .i64 0, .float .f32 0, .float .f32 0, .float .f32 0, .float .f32 0, .float .f32 0, .float .f32 0]) rfl (F.row m0) infoStr rfl (by simp [Value.oneCell']) (fun w4 K => ?_)
    have R := hid K.row
    have L := hid (F.wr0 K).below
    clear K F
    go_wp2
    exact bodyPost_ret (results_row2 rfl _ _ _ _ _ rfl R.out Try.underlying31 rfl infoStr) rfl ⟨_, rfl, .inl ⟨rfl, rfl⟩, L.out⟩
  · cases h2 : (FloatKind.f32.format.order pl 1065353216 == some .lt)
    · clear hp HFI
      have F := (((Frg.nil w).box 31 #[s, .int .i64 (q.j : Nat), .int .i64 3, .float .f32 (q.ta), .float .f32 (q.tb), .float .f32 (q.tc), .float .f32 (q.tx), .float .f32 (q.ty), .int .i64 2, .float .f32 (q.da), .float .f32 (q.db), .float .f32 (q.dc), .float .f32 (q.dx), .float .f32 (q.dy), .float .f32 (q.l)]).box 31 #[.slice none 0 0, .int .i64 0, .int .i64 0, .float .f32 0, .float .f32 0, .float .f32 0, .float .f32 0, .float .f32 0, .int .i64 0, .float .f32 0, .float .f32 0, .float .f32 0, .float .f32 0, .float .f32 0, .float .f32 0])
      simp only [World.size_alloc] at F
      go_enter Try.func26, Try.ntmps26
      go_wp2_with (first | (go_at_call 63; ((with_reducible refine (HV.out _ _ F.below (F.row (by first | exact m0 | exact m1 | exact m2 | exact m3 | exact m4 | exact m5))).mono ?_); rintro e w1 ⟨rfl, m, rfl⟩; replace F := F.drewN m)) | ((with_reducible refine stop_store rfl ?_)))
      show wpList _ _ _ _ _ _
      refine wpList_storeD rfl rfl rfl (cells := #[.slice none 0 0, .int .i64 0, .int .i64 0, .float .f32 0, .float .f32 0, .float .f32 0, .float .f32 0, .float .f32 0, .int .i64 0, .float .f32 0, .float .f32 0, .float .f32 0, .float .f32 0, .float .f32 0, .float .f32 0]) rfl (F.row m0) infoStr rfl (by simp [Value.oneCell']) (fun w4 K => ?_)
      have R := hid K.row
      have L := hid (F.wr0 K).below
      clear K F
      go_wp2
      exact bodyPost_ret (results_row2 rfl _ _ _ _ _ rfl R.out Try.underlying31 rfl infoStr) rfl ⟨_, rfl, .inl ⟨rfl, rfl⟩, L.out⟩
    · have h3 : fin fo = false := by rw [h1, h2] at hp; simpa using hp
      rw [h3] at HFI
      clear hp h3
      have F := (((Frg.nil w).box 31 #[s, .int .i64 (q.j : Nat), .int .i64 3, .float .f32 (q.ta), .float .f32 (q.tb), .float .f32 (q.tc), .float .f32 (q.tx), .float .f32 (q.ty), .int .i64 2, .float .f32 (q.da), .float .f32 (q.db), .float .f32 (q.dc), .float .f32 (q.dx), .float .f32 (q.dy), .float .f32 (q.l)]).box 31 #[.slice none 0 0, .int .i64 0, .int .i64 0, .float .f32 0, .float .f32 0, .float .f32 0, .float .f32 0, .float .f32 0, .int .i64 0, .float .f32 0, .float .f32 0, .float .f32 0, .float .f32 0, .float .f32 0, .float .f32 0])
      simp only [World.size_alloc] at F
      go_enter Try.func26, Try.ntmps26
      go_wp2_with (first | (go_at_call 63; ((with_reducible refine (HV.out _ _ F.below (F.row (by first | exact m0 | exact m1 | exact m2 | exact m3 | exact m4 | exact m5))).mono ?_); rintro e w1 ⟨rfl, m, rfl⟩; replace F := F.drewN m)) | (go_at_call 75; ((with_reducible refine (HFI.out _).mono ?_); rintro e w8 ⟨rfl, mf, rfl⟩; replace F := F.drewN mf; (try simp only [World.drewN_drewN] at F))) | ((with_reducible refine stop_store rfl ?_)))
      show wpList _ _ _ _ _ _
      refine wpList_storeD rfl rfl rfl (cells := #[.slice none 0 0, .int .i64 0, .int .i64 0, .float .f32 0, .float .f32 0, .float .f32 0, .float .f32 0, .float .f32 0, .int .i64 0, .float .f32 0, .float .f32 0, .float .f32 0, .float .f32 0, .float .f32 0, .float .f32 0]) rfl (F.row m0) infoStr rfl (by simp [Value.oneCell']) (fun w4 K => ?_)
      have R := hid K.row
      have L := hid (F.wr0 K).below
      clear K F
      go_wp2
      exact bodyPost_ret (results_row2 rfl _ _ _ _ _ rfl R.out Try.underlying31 rfl infoStr) rfl ⟨_, rfl, .inl ⟨rfl, rfl⟩, L.out⟩
set_option maxRecDepth 100000 in
set_option maxHeartbeats 4000000 in
theorem s_PluckString_yes (B : Nat) (s : Value) (q : StS) (pl fo : Nat) (w : World) (hs : RdS w B s q.x q.n) (ok : q.Ok) (hk : (Lit.int .i64 (q.j : Nat)).wf = true) (hv : okStr q.n (q.j : Nat) 3 q.ta q.tb q.tc q.tx q.ty 2 q.da q.db q.dc q.dx q.dy q.l = true) (hp : (placeB pl && fin fo) = true) :
    Calls Try.prog 26 #[.agg #[s, .int .i64 (q.j : Nat), .int .i64 3, .float .f32 (q.ta), .float .f32 (q.tb), .float .f32 (q.tc), .float .f32 (q.tx), .float .f32 (q.ty), .int .i64 2, .float .f32 (q.da), .float .f32 (q.db), .float .f32 (q.dc), .float .f32 (q.dx), .float .f32 (q.dy), .float .f32 (q.l)], .float .f32 pl, .float .f32 fo] w (Out_si (addN q.x q.n q.j (triV q.n pl fo) 0 q.n) q.n (q.j : Nat) 3 q.ta q.tb q.tc q.tx q.ty 2 q.da q.db q.dc q.dx q.dy q.l 0 w) := by
  have HV := hid (fun (w' : World) (g : Nat) (hl : le w w') (R : Row w' g 31 #[s, .int .i64 (q.j : Nat), .int .i64 3, .float .f32 (q.ta), .float .f32 (q.tb), .float .f32 (q.tc), .float .f32 (q.tx), .float .f32 (q.ty), .int .i64 2, .float .f32 (q.da), .float .f32 (q.db), .float .f32 (q.dc), .float .f32 (q.dx), .float .f32 (q.dy), .float .f32 (q.l)]) => hv ▸ s_l03Ok B s q.x q.n (q.j : Nat) 3 q.ta q.tb q.tc q.tx q.ty 2 q.da q.db q.dc q.dx q.dy q.l g w' (hs.le hl) R hk)
  have HFI := hid (fun (w : World) => s_l01Finite fo w)
  have HCP := hid (fun (w' : World) (g : Nat) (hl : le w w') (R : Row w' g 31 #[s, .int .i64 (q.j : Nat), .int .i64 3, .float .f32 (q.ta), .float .f32 (q.tb), .float .f32 (q.tc), .float .f32 (q.tx), .float .f32 (q.ty), .int .i64 2, .float .f32 (q.da), .float .f32 (q.db), .float .f32 (q.dc), .float .f32 (q.dx), .float .f32 (q.dy), .float .f32 (q.l)]) => s_l03Copy B s q.x q.n (q.j : Nat) 3 q.ta q.tb q.tc q.tx q.ty 2 q.da q.db q.dc q.dx q.dy q.l g w' (hs.le hl) R ok.n1 ok.n2)
  have n1 := ok.n1
  have n2 := ok.n2
  have j1 := ok.j1
  have hp2 := Bool.and_eq_true_iff.1 hp
  have hp3 : (FloatKind.f32.format.order pl 0 == some .gt || FloatKind.f32.format.order pl 0 == some .eq) = true ∧ (FloatKind.f32.format.order pl 1065353216 == some .lt) = true := Bool.and_eq_true_iff.1 hp2.1
  have h1 := hp3.1
  have h2 := hp3.2
  rw [hp2.2] at HFI
  obtain ⟨a0, cap, y0, rfl, hc, hm, _⟩ := hs.raw n1
  unfold maxLen at hm
  clear hs hk hv ok hp hp2 hp3
  have F := (((Frg.nil w).box 31 #[(.slice (some a0) q.n cap), .int .i64 (q.j : Nat), .int .i64 3, .float .f32 (q.ta), .float .f32 (q.tb), .float .f32 (q.tc), .float .f32 (q.tx), .float .f32 (q.ty), .int .i64 2, .float .f32 (q.da), .float .f32 (q.db), .float .f32 (q.dc), .float .f32 (q.dx), .float .f32 (q.dy), .float .f32 (q.l)]).box 31 #[.slice none 0 0, .int .i64 0, .int .i64 0, .float .f32 0, .float .f32 0, .float .f32 0, .float .f32 0, .float .f32 0, .int .i64 0, .float .f32 0, .float .f32 0, .float .f32 0, .float .f32 0, .float .f32 0, .float .f32 0])
  simp only [World.size_alloc] at F
  go_enter Try.func26, Try.ntmps26
  go_wp2_with (first | (go_at_call 63; ((with_reducible refine (HV.out _ _ F.below (F.row (by first | exact m0 | exact m1 | exact m2 | exact m3 | exact m4 | exact m5))).mono ?_); rintro e w1 ⟨rfl, m, rfl⟩; replace F := F.drewN m)) | (go_at_call 75; ((with_reducible refine (HFI.out _).mono ?_); rintro e w8 ⟨rfl, mf, rfl⟩; replace F := F.drewN mf; (try simp only [World.drewN_drewN] at F))) | (go_at_call 76; ((with_reducible refine (HCP.out _ _ F.below (F.row (by first | exact m0 | exact m1 | exact m2 | exact m3 | exact m4 | exact m5))).mono ?_); rintro e w2 ⟨s', rfl, ho, hl⟩; have OC := hid (OwnS.one ho); replace F := hid (F.push (e := ownF (w.heap.size + 1 + 1) w2.heap.size s' q.x q.n) hl (show OwnS w2 (w.heap.size + 1 + 1) w2.heap.size s' q.x q.n by simpa using ho) (by simp [ownF]) (Nat.le_refl _)); clear ho hl)) | (refine wpList_storeG F.out rfl rfl rfl rfl rfl infoStr rfl (one_head OC.out rfl) ?_; clear F; intro W3 F zW; clear zW; replace F := hid F; have c0 := (F.out.row (g := w.heap.size) m3).cell? 0) | (with_reducible refine wpList_farith (op := .mul) rfl rfl rfl rfl rfl ?_; intro p n1' hp fp; replace F := hid (F.out.drewN n1'); clear c0))
  obtain ⟨b3, o3, cap3, rfl, hc3, hm3, hb3, hb4⟩ := (F.out.own (lo := w.heap.size + 1 + 1) (hi := w2.heap.size) m1).form n1
  unfold maxLen at hm3
  have HP : Hid (can .f32 p = triP q.n pl) := hp.out
  have HT1 := hid (fun k r1 r2 => @triV_lt q.n pl fo k p r1 r2 HP.out)
  have HT2 := hid (fun k r1 r2 r3 r4 => @triV_ge q.n pl fo k p r1 r2 r3 r4 HP.out)
  clear hp HP
  go_loopw [11] (fun i wr => ∃ k : Nat, k ≤ q.n ∧ i = .int .i64 k ∧ Hid (Frg w wr [rowF w2.heap.size 31 #[(.slice (some ⟨b3, o3, none⟩) q.n cap3), .int .i64 (q.j : Nat), .int .i64 3, .float .f32 (q.ta), .float .f32 (q.tb), .float .f32 (q.tc), .float .f32 (q.tx), .float .f32 (q.ty), .int .i64 2, .float .f32 (q.da), .float .f32 (q.db), .float .f32 (q.dc), .float .f32 (q.dx), .float .f32 (q.dy), .float .f32 (q.l)], ownF (w.heap.size + 1 + 1) w2.heap.size (.slice (some ⟨b3, o3, none⟩) q.n cap3) (addN q.x q.n q.j (triV q.n pl fo) 0 k) q.n, rowF (w.heap.size + 1) 31 #[.slice none 0 0, .int .i64 0, .int .i64 0, .float .f32 0, .float .f32 0, .float .f32 0, .float .f32 0, .float .f32 0, .int .i64 0, .float .f32 0, .float .f32 0, .float .f32 0, .float .f32 0, .float .f32 0, .float .f32 0], rowF w.heap.size 31 #[(.slice (some a0) q.n cap), .int .i64 (q.j : Nat), .int .i64 3, .float .f32 (q.ta), .float .f32 (q.tb), .float .f32 (q.tc), .float .f32 (q.tx), .float .f32 (q.ty), .int .i64 2, .float .f32 (q.da), .float .f32 (q.db), .float .f32 (q.dc), .float .f32 (q.dx), .float .f32 (q.dy), .float .f32 (q.l)]])) (fun i _ => q.n - (intOf i).toNat)
  case atStart => exact ⟨0, by omega, rfl, F.out⟩
  case round =>
    obtain ⟨k, hk, rfl, FJ⟩ := hrel
    clear F
    have c0 := (FJ.out.row (g := w.heap.size) m3).cell? 0
    by_cases hlt : k < q.n
    · cases hcc : (FloatKind.f32.format.order (floatOfInt .f32 (k : Int)) p == some .lt)
      · have HC := hid hcc
        go_wp2_with (first | (with_reducible refine wpList_farith (op := .sub) rfl rfl rfl rfl rfl ?_; intro r1 m1' hr1 fr1; replace FJ := FJ.out.drewN m1'; (try simp only [World.drewN_drewN] at FJ); replace FJ := hid FJ; (try clear c0)) | (with_reducible refine wpList_farith (op := .quo) rfl rfl rfl rfl rfl ?_; intro r3 m3' hr3 fr3; replace FJ := FJ.out.drewN m3'; (try simp only [World.drewN_drewN] at FJ); replace FJ := hid FJ) | (with_reducible refine wpList_farith (op := .mul) rfl rfl rfl rfl rfl ?_; intro r4 m4' hr4 fr4; replace FJ := FJ.out.drewN m4'; (try simp only [World.drewN_drewN] at FJ); replace FJ := hid FJ) | (go_at_call 77; ((with_reducible refine (s_l03Add (w.heap.size + 1 + 1) w2.heap.size (.slice (some ⟨b3, o3, none⟩) q.n cap3) (addN q.x q.n q.j (triV q.n pl fo) 0 k) q.n q.j k _ w2.heap.size 0 _ _ _ (FJ.out.own m1) (FJ.out.row m0) rfl rfl (by omega) j1 hlt n2 (Hid.out (by assumption))).mono ?_); rintro e w6 ⟨rfl, _, hown, hch⟩; have FK := hid (FJ.out.mark1 hown hch); clear FJ hown hch)))
        go_roundw
        case rel =>
          refine ⟨k + 1, by omega, by go_num, ?_⟩
          unfold addN
          rw [Nat.zero_add, ← addX_can (HT2.out _ _ _ _ _ HC.out (Hid.out ‹Hid (can .f32 _ = fop .sub .f32 (floatOfInt .f32 (q.n : Int)) (floatOfInt .f32 (k : Int)))›) (Hid.out ‹Hid (can .f32 _ = fop .sub .f32 (floatOfInt .f32 (q.n : Int)) p)›) hr3.out hr4.out)]
          exact FK
        case measure => simp [intOf]; omega
      · have HC := hid hcc
        go_wp2_with (first | (with_reducible refine wpList_farith (op := .quo) rfl rfl rfl rfl rfl ?_; intro r3 m3' hr3 fr3; replace FJ := FJ.out.drewN m3'; (try simp only [World.drewN_drewN] at FJ); replace FJ := hid FJ; (try clear c0)) | (with_reducible refine wpList_farith (op := .mul) rfl rfl rfl rfl rfl ?_; intro r4 m4' hr4 fr4; replace FJ := FJ.out.drewN m4'; (try simp only [World.drewN_drewN] at FJ); replace FJ := hid FJ) | (go_at_call 77; ((with_reducible refine (s_l03Add (w.heap.size + 1 + 1) w2.heap.size (.slice (some ⟨b3, o3, none⟩) q.n cap3) (addN q.x q.n q.j (triV q.n pl fo) 0 k) q.n q.j k _ w2.heap.size 0 _ _ _ (FJ.out.own m1) (FJ.out.row m0) rfl rfl (by omega) j1 hlt n2 (Hid.out (by assumption))).mono ?_); rintro e w6 ⟨rfl, _, hown, hch⟩; have FK := hid (FJ.out.mark1 hown hch); clear FJ hown hch)))
        go_roundw
        case rel =>
          refine ⟨k + 1, by omega, by go_num, ?_⟩
          unfold addN
          rw [Nat.zero_add, ← addX_can (HT1.out _ _ _ HC.out hr3.out hr4.out)]
          exact FK
        case measure => simp [intOf]; omega
    · obtain rfl : k = q.n := by omega
      replace FJ := FJ.out
      go_wp2_with (first | ((with_reducible refine at_loadU rfl rfl ?_); (with_reducible refine wpList_loadG FJ rfl rfl rfl (by first | exact m0 | exact m1 | exact m2 | exact m3 | exact m4 | exact m5) Try.underlying31 rfl infoStr rfl ?_)) | ((with_reducible refine stop_store (ty := 31) rfl ?_)))
      show wpList _ _ _ _ _ _
      refine wpList_storeD rfl rfl rfl (cells := #[(.slice (some ⟨b3, o3, none⟩) q.n cap3), .int .i64 (q.j : Nat), .int .i64 3, .float .f32 (q.ta), .float .f32 (q.tb), .float .f32 (q.tc), .float .f32 (q.tx), .float .f32 (q.ty), .int .i64 2, .float .f32 (q.da), .float .f32 (q.db), .float .f32 (q.dc), .float .f32 (q.dx), .float .f32 (q.dy), .float .f32 (q.l)]) rfl (FJ.row (g := w.heap.size + 1) m2) infoStr rfl (by simp [Value.oneCell']) (fun w7 K => ?_)
      replace FJ := FJ.wr2 K
      have RW := hid K.row
      have L := hid FJ.below
      have O := FJ.facts (ownF (w.heap.size + 1 + 1) w2.heap.size (.slice (some ⟨b3, o3, none⟩) q.n cap3) (addN q.x q.n q.j (triV q.n pl fo) 0 q.n) q.n) m1
      have O7 := hid (OwnS.mono (lo' := w.heap.size) (hi' := w7.heap.size) O.2.2 (by omega) O.2.1)
      clear K FJ O
      go_wp2
      exact bodyPost_ret (results_row2 rfl _ _ _ _ _ rfl RW.out Try.underlying31 rfl infoStr) rfl ⟨_, rfl, O7.out, L.out⟩
theorem both_PluckString (x : Nat → Nat) (n : Nat) (k tk : Int) (ta tb tc tx ty : Nat) (dk : Int) (da db dc dx dy l : Nat) (pl fo : Nat) (hw : (Lit.int .i64 k).wf = true ∧ (Lit.int .i64 tk).wf = true ∧ fits .f32 ta ∧ fits .f32 tb ∧ fits .f32 tc ∧ fits .f32 tx ∧ fits .f32 ty ∧ (Lit.int .i64 dk).wf = true ∧ fits .f32 da ∧ fits .f32 db ∧ fits .f32 dc ∧ fits .f32 dx ∧ fits .f32 dy ∧ fits .f32 l) (hfo : fits .f32 fo) : ∃ (xr0 : Nat → Nat) (nr0 : Nat) (kr0 tkr0 : Int) (tar0 tbr0 tcr0 txr0 tyr0 : Nat) (dkr0 : Int) (dar0 dbr0 dcr0 dxr0 dyr0 lr0 : Nat) (ar1 : Int), nr0 ≤ 1048576 ∧ (∀ (w : World) (B : Nat) (u : Value), RdS w B u x n → Calls Try.prog 26 #[.agg #[u, .int .i64 k, .int .i64 tk, .float .f32 ta, .float .f32 tb, .float .f32 tc, .float .f32 tx, .float .f32 ty, .int .i64 dk, .float .f32 da, .float .f32 db, .float .f32 dc, .float .f32 dx, .float .f32 dy, .float .f32 l], .float .f32 pl, .float .f32 fo] w (Out_si xr0 nr0 kr0 tkr0 tar0 tbr0 tcr0 txr0 tyr0 dkr0 dar0 dbr0 dcr0 dxr0 dyr0 lr0 ar1 w)) ∧ (∀ (w : World) (B : Nat) (u : Value), RdS w B u x n → Calls Try.prog 27 #[.agg #[u, .int .i64 k, .int .i64 tk, .float .f32 ta, .float .f32 tb, .float .f32 tc, .float .f32 tx, .float .f32 ty, .int .i64 dk, .float .f32 da, .float .f32 db, .float .f32 dc, .float .f32 dx, .float .f32 dy, .float .f32 l], .float .f32 pl, .float .f32 fo] w (Out_si xr0 nr0 kr0 tkr0 tar0 tbr0 tcr0 txr0 tyr0 dkr0 dar0 dbr0 dcr0 dxr0 dyr0 lr0 ar1 w)) := by
  obtain ⟨hk, _, h1, h2, h3, h4, h5, _, g1, g2, g3, g4, g5, hl⟩ := hw
  cases hv : okStr n k tk ta tb tc tx ty dk da db dc dx dy l
  · exact ⟨(fun _ => 0), 0, 0, 0, 0, 0, 0, 0, 0, 0, 0, 0, 0, 0, 0, 0, 1, by omega, fun w B u h => s_PluckString_no B u x n k tk ta tb tc tx ty dk da db dc dx dy l pl fo w h hk hv, fun w B u h => i_PluckString_no B u x n k tk ta tb tc tx ty dk da db dc dx dy l pl fo w h ⟨h1, h2, h3, h4, h5⟩ ⟨g1, g2, g3, g4, g5⟩ hl hv⟩
  · obtain ⟨j, rfl, rfl, rfl, ok⟩ := okStr_q (x := x) hv ⟨h1, h2, h3, h4, h5⟩ ⟨g1, g2, g3, g4, g5⟩ hl
    cases hp : (placeB pl && fin fo)
    · exact ⟨(fun _ => 0), 0, 0, 0, 0, 0, 0, 0, 0, 0, 0, 0, 0, 0, 0, 0, 2, by omega, fun w B u h => s_PluckString_out B u (⟨x, n, j, ta, tb, tc, tx, ty, da, db, dc, dx, dy, l⟩ : StS) pl fo w h ok hk hv hp, fun w B u h => i_PluckString_out B u (⟨x, n, j, ta, tb, tc, tx, ty, da, db, dc, dx, dy, l⟩ : StS) pl fo w h ok hv hfo hp⟩
    · exact ⟨_, _, _, _, _, _, _, _, _, _, _, _, _, _, _, _, _, Nat.le_trans ok.n2 (by decide), fun w B u h => s_PluckString_yes B u (⟨x, n, j, ta, tb, tc, tx, ty, da, db, dc, dx, dy, l⟩ : StS) pl fo w h ok hk hv hp, fun w B u h => i_PluckString_yes B u (⟨x, n, j, ta, tb, tc, tx, ty, da, db, dc, dx, dy, l⟩ : StS) pl fo w h ok hv hfo hp⟩
end Go.Proofs.Ytaenbpkcehenkac

/- 'NoiseString' of both. -/
namespace Go.Fk
open Go Go.RowKit
/-- The seed behind so many numbers. -/
def sdOf (sd : Int) : Nat → Int
  | 0 => sd
  | k + 1 => nextOf (sdOf sd k)
theorem sdOf_range {sd : Int} (h0 : 0 ≤ sd) (h1 : sd < 4294967296) (k : Nat) : 0 ≤ sdOf sd k ∧ sdOf sd k < 4294967296 := by
  cases k with
  | zero => exact ⟨h0, h1⟩
  | succ k => exact nextOf_range _
/-- What noise adds. -/
def noV (fo : Nat) (sd : Int) (k : Nat) : Nat := fop .mul .f32 fo (noiseOf (sdOf sd k))
theorem Frg.seed {w0 w w' : World} {L : List Fact} (h : Frg w0 w L) {g : Nat} {t : TypeId} {x nx : Value} (hr0 : Row w0 g t #[x]) (k : Chg (· = g) w w') (hr : Row w' g t #[nx]) :
    ∃ wb, Row wb g t #[nx] ∧ Chg (· = g) w0 wb ∧ wb.heap.size = w0.heap.size ∧ Frg wb w' L := by
  have hs := seedX_set (nx := nx) hr0
  refine ⟨w0.setCell ⟨g, 0, none⟩ nx, hs.2, hs.1.1, by simp, ⟨⟨k.os.trans h.below.os, k.tape.trans h.below.tape, k.output.trans h.below.output, by simpa using Nat.le_trans h.below.size k.size, fun i hi => ?_⟩, fun e he => ?_, h.apart⟩⟩
  · have hi' : i < w0.heap.size := by simpa using hi
    by_cases e : i = g
    · subst e
      have a := hs.2
      unfold Row at a hr
      rw [a, hr]
    · rw [k.block i (Nat.lt_of_lt_of_le hi' h.below.size) e, h.below.block i hi', hs.1.1.block i hi' e]
  · obtain ⟨h1, h2, h3⟩ := h.facts e he
    refine ⟨by simpa using h1, Nat.le_trans h2 k.size, e.ok w w' h3 (fun i hi1 hi2 => k.block i (by omega) (fun hb => by have hb' : i = g := hb; have := hr0.lt; omega))⟩
end Go.Fk
namespace Go.Proofs.Ytaenbpkcehenkac
open Go.RowKit Go.Fk
theorem kindF32 : ∀ w : World, (isAgg 22).run Try.prog w = .ok false w := fun w => by kernel_rfl
set_option maxRecDepth 100000 in
set_option maxHeartbeats 4000000 in
theorem i_noi1 (i gs gf : Nat) (sd : Int) (fo : Nat) (w : World) (h0 : 0 ≤ sd) (h1 : sd < 4294967296) (Rs : Row w gs 53 #[.int .u32 sd]) (Rf : Row w gf 22 #[.float .f32 fo]) (hne : gf ≠ gs) :
    Calls Try.prog 84 #[.int .i64 (i : Nat), .pointer (some ⟨gs, 0, none⟩), .pointer (some ⟨gf, 0, none⟩)] w fun e w' => ∃ r, e = .returned (.float .f32 r) ∧ can .f32 r = fop .mul .f32 fo (noiseOf sd) ∧ fits .f32 r ∧ Row w' gs 53 #[.int .u32 (nextOf sd)] ∧ Chg (· = gs) w w' := by
  have c0 := Rs.cell? 0
  have HN := hid (fun w => i_NextNoise sd w h0 h1)
  have RS := hid Rs; have RF := hid Rf
  clear Rs Rf
  go_enter Try.func84, Try.ntmps84
  go_wp2_with (first | (go_at_call 85; ((with_reducible refine (HN.out _).mono ?_); rintro e w1 ⟨r1, n1, rfl, hr1, hf1, rfl⟩; have HR1 := hid hr1; have f0 := (RS.out.drewN n1).frozen 0; have c1 := ((RF.out.drewN n1).other ⟨gs, 0, none⟩ (.int .u32 (nextOf sd)) hne).cell? 0; clear hr1 hf1)) | (with_reducible refine wpList_farith rfl rfl rfl rfl rfl ?_; intro r2 n2 hr2 hf2))
  go_ret
  refine ⟨r2, rfl, ?_, hf2.out, ?_, ?_⟩
  · rw [hr2.out, ← fop_can_r, HR1.out]
  · have := ((RS.out.drewN n1).set 0 (.int .u32 (nextOf sd))).drewN n2
    simpa using this
  · exact (Chg.setCell (S := (· = gs)) (a := ⟨gs, 0, none⟩) (Chg.of_le (le_drewN _ _)) rfl _).trans (Chg.of_le (le_drewN _ _))
set_option maxRecDepth 100000 in
set_option maxHeartbeats 4000000 in
theorem i_withAdded_noi (B : Nat) (s : Value) (q : StS) (gs gf : Nat) (sd : Int) (fo : Nat) (w : World) (hs : RdS w B s q.x q.n) (ok : q.Ok) (h0 : 0 ≤ sd) (h1 : sd < 4294967296) (Rs : Row w gs 53 #[.int .u32 sd]) (Rf : Row w gf 22 #[.float .f32 fo]) (hne : gf ≠ gs) :
    Calls Try.prog 79 #[.agg #[s, .int .i64 (q.j : Nat), .int .i64 3, .float .f32 (q.ta), .float .f32 (q.tb), .float .f32 (q.tc), .float .f32 (q.tx), .float .f32 (q.ty), .int .i64 2, .float .f32 (q.da), .float .f32 (q.db), .float .f32 (q.dc), .float .f32 (q.dx), .float .f32 (q.dy), .float .f32 (q.l)], .int .i64 (0 : Nat), .int .i64 (q.n : Nat), .func (.func 84) #[] #[.pointer (some ⟨gs, 0, none⟩), .pointer (some ⟨gf, 0, none⟩)]] w fun e w' => ∃ s', e = .returned (.agg #[s', .int .i64 (q.j : Nat), .int .i64 3, .float .f32 (q.ta), .float .f32 (q.tb), .float .f32 (q.tc), .float .f32 (q.tx), .float .f32 (q.ty), .int .i64 2, .float .f32 (q.da), .float .f32 (q.db), .float .f32 (q.dc), .float .f32 (q.dx), .float .f32 (q.dy), .float .f32 (q.l)]) ∧ OwnS w' w.heap.size w'.heap.size s' (addN q.x q.n q.j (noV fo sd) 0 q.n) q.n ∧ Row w' gs 53 #[.int .u32 (sdOf sd q.n)] ∧ Chg (· = gs) w w' := by
  have n1 := ok.n1
  have n2 := ok.n2
  have j1 := ok.j1
  have HCP := hid (fun (w' : World) (hl : le w w') => i_copied B s q.x q.n (q.j : Nat) w' (hs.le hl) n1 n2)
  have HG := hid (And.intro Rs.lt Rf.lt)
  have RS := hid Rs; have RF := hid Rf
  clear hs ok Rs Rf
  have F := (((Frg.nil w).box 31 #[s, .int .i64 (q.j : Nat), .int .i64 3, .float .f32 (q.ta), .float .f32 (q.tb), .float .f32 (q.tc), .float .f32 (q.tx), .float .f32 (q.ty), .int .i64 2, .float .f32 (q.da), .float .f32 (q.db), .float .f32 (q.dc), .float .f32 (q.dx), .float .f32 (q.dy), .float .f32 (q.l)]).box 31 #[.slice none 0 0, .int .i64 0, .int .i64 0, .float .f32 0, .float .f32 0, .float .f32 0, .float .f32 0, .float .f32 0, .int .i64 0, .float .f32 0, .float .f32 0, .float .f32 0, .float .f32 0, .float .f32 0, .float .f32 0])
  simp only [World.size_alloc] at F
  go_enter Try.func79, Try.ntmps79
  go_wp2_with (first | ((with_reducible refine at_loadU rfl rfl ?_); (with_reducible refine wpList_loadGP F rfl rfl rfl m1 Try.underlying25 rfl [s, .int .i64 (q.j : Nat)] (qRing s q) infoRing rfl ?_)) | (go_at_call 110; ((with_reducible refine (HCP.out _ F.below).mono ?_); rintro e w2 ⟨s', rfl, ho, hl⟩; have OC := hid (OwnS.one ho); replace F := hid (F.push (e := ownF (w.heap.size + 1 + 1) w2.heap.size s' q.x q.n) hl (show OwnS w2 (w.heap.size + 1 + 1) w2.heap.size s' q.x q.n by simpa using ho) (by simp [ownF]) (Nat.le_refl _)); clear ho hl)) | (refine wpList_storeG F.out rfl rfl rfl rfl rfl infoRing rfl (one_head OC.out rfl) ?_; clear F; intro W3 F zW; clear zW; replace F := hid F; have c0 := (F.out.row m0).cell? 0; obtain ⟨b3, o3, cap3, rfl, hc3, hm3, hb3, hb4⟩ := (F.out.own (lo := w.heap.size + 1 + 1) (hi := w2.heap.size) m1).form n1; unfold maxLen at hm3))
  go_loopw [11] (fun u wr => ∃ i : Nat, i ≤ q.n ∧ u = .int .i64 i ∧ ∃ wb, Hid (Row wb gs 53 #[.int .u32 (sdOf sd i)]) ∧ Hid (Chg (· = gs) w wb) ∧ wb.heap.size = w.heap.size ∧ Hid (Frg wb wr [rowF w2.heap.size 25 #[(.slice (some ⟨b3, o3, none⟩) q.n cap3), .int .i64 (q.j : Nat)], ownF (w.heap.size + 1 + 1) w2.heap.size (.slice (some ⟨b3, o3, none⟩) q.n cap3) (addN q.x q.n q.j (noV fo sd) 0 i) q.n, rowF (w.heap.size + 1) 31 #[.slice none 0 0, .int .i64 0, .int .i64 0, .float .f32 0, .float .f32 0, .float .f32 0, .float .f32 0, .float .f32 0, .int .i64 0, .float .f32 0, .float .f32 0, .float .f32 0, .float .f32 0, .float .f32 0, .float .f32 0], rowF w.heap.size 31 #[s, .int .i64 (q.j : Nat), .int .i64 3, .float .f32 (q.ta), .float .f32 (q.tb), .float .f32 (q.tc), .float .f32 (q.tx), .float .f32 (q.ty), .int .i64 2, .float .f32 (q.da), .float .f32 (q.db), .float .f32 (q.dc), .float .f32 (q.dx), .float .f32 (q.dy), .float .f32 (q.l)]])) (fun u _ => q.n - (intOf u).toNat)
  case atStart => exact ⟨0, by omega, rfl, w, RS, Chg.refl _ w, rfl, F.out⟩
  case round =>
    obtain ⟨i, hi2, rfl, wb, RB, HC, hwb, FJ⟩ := hrel
    clear F c0
    have HWB := hid hwb
    clear hwb
    by_cases hlt : i < q.n
    · have hic : (i : Int) < ((0 : Nat) : Int) + (q.n : Nat) := by omega
      have c0 := (FJ.out.row m0).cell? 0
      have c1 := (FJ.out.row m0).cell? 1
      have HE1 : Hid (((q.j : Int) + i) % q.n = (((q.j + i) % q.n : Nat) : Int)) := by unfold Hid; rw [Int.natCast_emod]; rfl
      have hJn : (q.j + i) % q.n < q.n := Nat.mod_lt _ (by omega)
      obtain ⟨y, cy, fy, fity, ey⟩ := (FJ.out.own (lo := w.heap.size + 1 + 1) (hi := w2.heap.size) m1).at hJn
      have HY := hid ey
      have HJ := hid (show (q.j + (0 + i)) % q.n = (q.j + i) % q.n by rw [Nat.zero_add])
      clear ey fity
      generalize hJ : (q.j + i) % q.n = J at *
      clear hJ
      go_wp2_with fail
      first | (refine wpAt0 FJ.out ?_; clear FJ c0 c1 cy fy; intro wN FJ) | (refine wpAtN FJ.out ?_; clear FJ c0 c1 cy fy; intro wN FJ)
      have HSD := hid (sdOf_range h0 h1 i)
      have hgl : gs < w.heap.size ∧ gf < w.heap.size := HG.out
      have hwb := HWB.out
      have FW := FJ.drewN 1
      obtain ⟨y', cy, fy, fity, ey⟩ := (FW.own (lo := w.heap.size + 1 + 1) (hi := w2.heap.size) m1).at hJn
      have hyy : can .f32 y' = can .f32 y := by rw [ey, HY.out]
      have RfW : Row (wN.drewN 1) gf 22 #[.float .f32 fo] := (HC.out.row RF.out hne).le FW.below
      have RsW : Row (wN.drewN 1) gs 53 #[.int .u32 (sdOf sd i)] := RB.out.le FW.below
      refine region_tailP (E0 := leX) (E1 := seedX gs 53 (.int .u32 (sdOf sd (i + 1)))) (c := 12) (Vc := fun wa v => ∃ r, v = .float .f32 r ∧ can .f32 r = noV fo sd i ∧ fits .f32 r ∧ Row wa gs 53 #[.int .u32 (sdOf sd (i + 1))]) (fun _ _ h => (seedX _ _ _).of_le h) (fun _ _ wa v => ∃ r, v = .float .f32 r ∧ can .f32 r = noV fo sd i ∧ fits .f32 r ∧ Row wa gs 53 #[.int .u32 (sdOf sd (i + 1))]) 15 (fun wa ha => ?_) (by kernel_rfl) (by kernel_rfl) ?_
      · obtain ⟨x, hx⟩ := ha.2.2 ⟨_, RsW⟩
        have hst := seedX_set (nx := .int .u32 (sdOf sd (i + 1))) hx
        exact ⟨_, _, hst.1, noV fo sd i, rfl, can_fop _ _ _ _, fits_fop _ _ _ _, hst.2⟩
      simp only [List.take_succ_cons, List.take_zero, List.drop_succ_cons, List.drop_zero]
      have nr : w2.heap.size ≠ gs := by have := (FW.facts _ m0).1; simp only [rowF] at this; omega
      have nb : b3 ≠ gs := by omega
      refine wpFreeP_quiet (by decide) rfl ?_; go_big_quiet_step (fail); refine wpQuiet_nil ?_
      refine wpFreeP_cell (by decide) rfl rfl rfl ((FW.row m0).cell? 0) nr kindF ?_
      simp only [Act.put, List.setIfInBounds_toArray, List.set_cons_succ, List.set_cons_zero]
      refine wpFreeP_quiet (by decide) rfl ?_; go_big_quiet_step (fail); refine wpQuiet_nil ?_
      refine wpFreeP_cell (by decide) rfl rfl rfl ((FW.row m0).cell? 1) nr kindI ?_
      simp only [Act.put, List.setIfInBounds_toArray, List.set_cons_succ, List.set_cons_zero]
      iterate 4 (refine wpFreeP_quiet (by decide) rfl ?_; go_big_quiet_step (fail); refine wpQuiet_nil ?_)
      rw [HE1.out]
      refine wpFreeP_quiet (by decide) rfl ?_; go_big_quiet_step (fail); refine wpQuiet_nil ?_
      refine wpFreeP_cell (by decide) rfl rfl rfl cy nb kindF32 ?_
      simp only [Act.put, List.setIfInBounds_toArray, List.set_cons_succ, List.set_cons_zero]
      iterate 2 (refine wpFreeP_quiet (by decide) rfl ?_; go_big_quiet_step (fail); refine wpQuiet_nil ?_)
      refine wpFreeP_call rfl rfl (fun v wa wb' hw hv => by obtain ⟨r, e, e1, e2, e3⟩ := hv; exact ⟨r, e, e1, e2, hw.2.1 e3⟩) (fun wa ha => ?_) ?_
      · go_simp
        refine ⟨(seedX _ _ _).refl _, (i_noi1 i gs gf (sdOf sd i) fo wa HSD.out.1 HSD.out.2 (RsW.le ha) (RfW.le ha) hne).mono ?_, fun _ _ h => h⟩
        rintro e w4 ⟨r, rfl, hr, fr, hR, hC⟩
        exact ⟨_, rfl, ⟨hC, fun _ => hR, fun _ => ⟨_, hR⟩⟩, r, rfl, hr, fr, hR⟩
      rintro v ⟨_, _, r, rfl, hr, fr, _⟩
      have HR := hid hr
      clear hr
      simp only [Act.put, List.setIfInBounds_toArray, List.set_cons_succ, List.set_cons_zero]
      refine wpFreeP_farith (by decide) rfl rfl rfl rfl rfl ?_
      intro r2 hrr hf2
      simp only [Act.put, List.setIfInBounds_toArray, List.set_cons_succ, List.set_cons_zero]
      refine wpFreeP_quiet (by decide) rfl ?_; go_big_quiet_step (fail); refine wpQuiet_nil ?_
      refine wpFreeP_nil (fun wR hwR hF => ?_)
      obtain ⟨_, _, _, _, hRs⟩ := (hF 12).1.1.2 rfl
      obtain ⟨wb2, RB2, HC2, hz2, F2⟩ := FW.seed RB.out hwR.1 hRs
      obtain ⟨y2, cy2, fy2, fity2, ey2⟩ := (F2.own (lo := w.heap.size + 1 + 1) (hi := w2.heap.size) m1).at hJn
      have FJ2 := hid F2
      have HYY := hid hyy
      have RB3 := hid RB2
      have HC3 := hid (HC.out.trans HC2)
      have hz3 : wb2.heap.size = w.heap.size := hz2.trans hwb
      clear hF hwR hRs FW FJ RsW RfW F2 RB2 HC2 hz2 cy fy fity ey hyy fity2 ey2
      go_wp2
      go_roundw
      case rel =>
        refine ⟨i + 1, by omega, by go_num, wb2, RB3, HC3, hz3, ?_⟩
        have h := (FJ2.out.own (lo := w.heap.size + 1 + 1) (hi := w2.heap.size) m1).set hJn hf2.out
        rw [addX_of HY.out (hrr.out.trans (by rw [← fop_can_r, HR.out, ← fop_can_l, HYY.out, fop_can_l] : _ = fop .add .f32 y (noV fo sd i)))] at h
        have h2 := FJ2.out.mark1 h.1 h.2
        unfold addN
        rw [HJ.out, Nat.zero_add]
        exact h2
      case measure => simp [intOf]; omega
    · have hic : ¬ (i : Int) < ((0 : Nat) : Int) + (q.n : Nat) := by omega
      obtain rfl : i = q.n := by omega
      replace FJ := FJ.out
      go_wp2_with (first | ((with_reducible refine at_loadU rfl rfl ?_); (with_reducible refine wpList_loadG FJ rfl rfl rfl m0 Try.underlying25 rfl infoRing rfl ?_)) | ((with_reducible refine stop_store rfl ?_)))
      show wpList _ _ _ _ _ _
      refine wpList_storeP rfl rfl rfl (f := 0) (cells := [(.slice (some ⟨b3, o3, none⟩) q.n cap3), .int .i64 (q.j : Nat)]) rfl (FJ.row (g := w.heap.size) m3) infoRing (by simp) (by simp [Value.oneCell']) (fun w5 K => ?_)
      replace FJ := FJ.wr3 (cs' := #[(.slice (some ⟨b3, o3, none⟩) q.n cap3), .int .i64 (q.j : Nat), .int .i64 3, .float .f32 (q.ta), .float .f32 (q.tb), .float .f32 (q.tc), .float .f32 (q.tx), .float .f32 (q.ty), .int .i64 2, .float .f32 (q.da), .float .f32 (q.db), .float .f32 (q.dc), .float .f32 (q.dx), .float .f32 (q.dy), .float .f32 (q.l)]) K
      clear K
      go_wp2_with (first | ((with_reducible refine at_loadU rfl rfl ?_); (with_reducible refine wpList_loadG FJ rfl rfl rfl m3 Try.underlying31 rfl infoStr rfl ?_)) | ((with_reducible refine stop_store (ty := 31) rfl ?_)))
      show wpList _ _ _ _ _ _
      refine wpList_storeD rfl rfl rfl (cells := #[(.slice (some ⟨b3, o3, none⟩) q.n cap3), .int .i64 (q.j : Nat), .int .i64 3, .float .f32 (q.ta), .float .f32 (q.tb), .float .f32 (q.tc), .float .f32 (q.tx), .float .f32 (q.ty), .int .i64 2, .float .f32 (q.da), .float .f32 (q.db), .float .f32 (q.dc), .float .f32 (q.dx), .float .f32 (q.dy), .float .f32 (q.l)]) rfl (FJ.row (g := w.heap.size + 1) m2) infoStr rfl (by simp [Value.oneCell']) (fun w7 K => ?_)
      replace FJ := FJ.wr2 K
      have RW := hid K.row
      have L := hid (HC.out.le FJ.below)
      have RS7 := hid (RB.out.le FJ.below)
      have O := FJ.facts (ownF (w.heap.size + 1 + 1) w2.heap.size (.slice (some ⟨b3, o3, none⟩) q.n cap3) (addN q.x q.n q.j (noV fo sd) 0 q.n) q.n) m1
      have O7 := hid (OwnS.mono (lo' := w.heap.size) (hi' := w7.heap.size) O.2.2 (by omega) O.2.1)
      clear K FJ O
      go_wp2
      exact bodyPost_ret (results_row1 rfl _ _ _ _ _ rfl RW.out Try.underlying31 rfl infoStr) rfl ⟨_, rfl, O7.out, RS7.out, L.out⟩
end Go.Proofs.Ytaenbpkcehenkac
namespace Go.Fk
open Go Go.RowKit
/-- One fact's blocks are written, and memory is made. -/
theorem Frg.chgOwn {w0 w w' : World} (pre : List Fact) {post : List Fact} {e e' f : Fact} (h : Frg w0 w (pre ++ e :: post)) (k : Chg (rng e.lo e.hi) w w') (hp : e'.p w') (h1 : e'.lo = e.lo) (h2 : e'.hi = e.hi) (hf : f.p w') (hl : w.heap.size ≤ f.lo) (hh : f.hi ≤ w'.heap.size) : Frg w0 w' (f :: (pre ++ e' :: post)) := by
  have hc := Frg.chg pre h k hp h1 h2
  refine ⟨hc.below, fun x hx => ?_, .cons (fun x hx => ?_) hc.apart⟩
  · rcases List.mem_cons.1 hx with rfl | hx
    · exact ⟨Nat.le_trans h.size hl, hh, hf⟩
    · exact hc.facts x hx
  · have hx' : x.hi ≤ w.heap.size := by
      rcases List.mem_append.1 hx with hx | hx
      · exact (h.facts x (by simp [hx])).2.1
      · rcases List.mem_cons.1 hx with rfl | hx
        · rw [h2]; exact (h.facts e (by simp)).2.1
        · exact (h.facts x (by simp [hx])).2.1
    omega
theorem wpFreeT_cell {P : Program} {ops : Array Oper} {W : World} {K : FuncId → Array Value → World → Value → Prop} {Q : Act → World → Prop} {F : World → Prop} {o : Oper} {rest : List Oper} {a : Act} {T : List (Nat × TypeId × Array Value)} (hg : o.guard = none) {ty : TypeId} {x : Operand} (hop : o.op = .load ty x) {g f : Nat} (hx : a.eval x = .pointer (some ⟨g, f, none⟩)) {t : TypeId} {cs : Array Value} {v : Value} (hr : Row W g t cs) (hn : ∀ x ∈ T, x.1 ≠ g) (hv : cs[f]? = some v) (hu : ∀ w, (isAgg ty).run P w = .ok false w)
    (h : wpFreeT (finX T) P ops W K Q rest (a.put o.dst v) F) : wpFreeT (finX T) P ops W K Q (o :: rest) a F := by
  refine wpFree_oneT hg v (fun w hw => ?_) h
  have hc : w.cell? ⟨g, f, none⟩ = some v := ((finX_row hw hr hn).cell? f).trans hv
  have hl : (Instr.loadAt ty (.pointer (some ⟨g, f, none⟩))).run P w = .ok v w := by
    simp [Instr.loadAt, Instr.sureAddr, loadVar, hu, hc]
  simp [execOp, hop, hx, hl, Result.andThen]
theorem own_finX {T : List (Nat × TypeId × Array Value)} {w w' : World} (h : (finX T).R w w') {lo hi : Nat} {s : Value} {x : Nat → Nat} {n : Nat} (ho : OwnS w lo hi s x n) (hT : ∀ x ∈ T, ¬ (lo ≤ x.1 ∧ x.1 < hi)) : OwnS w' lo hi s x n := by
  rcases ho with ho | ⟨b, o, cap, cs, h1, h2, h3, h4, h5, h6, h7⟩
  · exact .inl ho
  · exact .inr ⟨b, o, cap, cs, h1, h2, h3, h4, h5, finX_row h h6 (fun x hx e => hT x hx (by rw [e]; exact ⟨h4, h5⟩)), h7⟩
end Go.Fk
namespace Go.Proofs.Ytaenbpkcehenkac
open Go.RowKit Go.Fk
theorem kindU : ∀ w : World, (isAgg 53).run Try.prog w = .ok false w := fun w => by kernel_rfl
set_option maxRecDepth 100000 in
set_option maxHeartbeats 4000000 in
theorem i_NoiseString_no (B : Nat) (s : Value) (x : Nat → Nat) (n : Nat) (k tk : Int) (ta tb tc tx ty : Nat) (dk : Int) (da db dc dx dy l : Nat) (fo : Nat) (sd : Int) (w : World) (hs : RdS w B s x n) (hf : fits .f32 ta ∧ fits .f32 tb ∧ fits .f32 tc ∧ fits .f32 tx ∧ fits .f32 ty) (hg : fits .f32 da ∧ fits .f32 db ∧ fits .f32 dc ∧ fits .f32 dx ∧ fits .f32 dy) (hl2 : fits .f32 l) (hv : okStr n k tk ta tb tc tx ty dk da db dc dx dy l = false) :
    Calls Try.prog 34 #[.agg #[s, .int .i64 k, .int .i64 tk, .float .f32 ta, .float .f32 tb, .float .f32 tc, .float .f32 tx, .float .f32 ty, .int .i64 dk, .float .f32 da, .float .f32 db, .float .f32 dc, .float .f32 dx, .float .f32 dy, .float .f32 l], .float .f32 fo, .int .u32 sd] w (Out_sui (fun _ => 0) 0 0 0 0 0 0 0 0 0 0 0 0 0 0 0 0 1 w) := by
  have HV := hid (fun (w' : World) (hl : le w w') => hv ▸ i_ValidStringR B s x n k tk ta tb tc tx ty dk da db dc dx dy l w' (hs.le hl) hf hg hl2)
  clear hs hv hf hg hl2
  have F := ((((Frg.nil w).box 31 #[s, .int .i64 k, .int .i64 tk, .float .f32 ta, .float .f32 tb, .float .f32 tc, .float .f32 tx, .float .f32 ty, .int .i64 dk, .float .f32 da, .float .f32 db, .float .f32 dc, .float .f32 dx, .float .f32 dy, .float .f32 l]).box 22 #[.float .f32 fo]).box 53 #[.int .u32 sd]).box 31 #[.slice none 0 0, .int .i64 0, .int .i64 0, .float .f32 0, .float .f32 0, .float .f32 0, .float .f32 0, .float .f32 0, .int .i64 0, .float .f32 0, .float .f32 0, .float .f32 0, .float .f32 0, .float .f32 0, .float .f32 0]
  simp only [World.size_alloc] at F
  go_enter Try.func34, Try.ntmps34
  go_wp2_with (first | ((with_reducible refine at_loadU rfl rfl ?_); (with_reducible refine wpList_loadG F rfl rfl rfl (by first | exact m0 | exact m1 | exact m2 | exact m3 | exact m4 | exact m5) Try.underlying31 rfl infoStr rfl ?_)) | (go_at_call 23; ((with_reducible refine (HV.out _ F.below).mono ?_); rintro e w1 ⟨rfl, hl⟩; replace F := F.le hl; clear hl)) | ((with_reducible refine stop_store rfl ?_)))
  show wpList _ _ _ _ _ _
  refine wpList_storeD rfl rfl rfl (cells := #[.slice none 0 0, .int .i64 0, .int .i64 0, .float .f32 0, .float .f32 0, .float .f32 0, .float .f32 0, .float .f32 0, .int .i64 0, .float .f32 0, .float .f32 0, .float .f32 0, .float .f32 0, .float .f32 0, .float .f32 0]) rfl (F.row m0) infoStr rfl (by simp [Value.oneCell']) (fun w4 K => ?_)
  have R := hid K.row
  have L := hid (F.wr0 K).below
  clear K F
  go_wp2
  exact bodyPost_ret (results_row3 rfl _ _ _ _ _ rfl R.out Try.underlying31 rfl infoStr) rfl ⟨_, rfl, .inl ⟨rfl, rfl⟩, L.out⟩
set_option maxRecDepth 100000 in
set_option maxHeartbeats 4000000 in
theorem i_NoiseString_out (B : Nat) (s : Value) (q : StS) (fo : Nat) (sd : Int) (w : World) (hs : RdS w B s q.x q.n) (ok : q.Ok) (hv : okStr q.n (q.j : Nat) 3 q.ta q.tb q.tc q.tx q.ty 2 q.da q.db q.dc q.dx q.dy q.l = true) (hfo : fits .f32 fo) (hp : fin fo = false) :
    Calls Try.prog 34 #[.agg #[s, .int .i64 (q.j : Nat), .int .i64 3, .float .f32 (q.ta), .float .f32 (q.tb), .float .f32 (q.tc), .float .f32 (q.tx), .float .f32 (q.ty), .int .i64 2, .float .f32 (q.da), .float .f32 (q.db), .float .f32 (q.dc), .float .f32 (q.dx), .float .f32 (q.dy), .float .f32 (q.l)], .float .f32 fo, .int .u32 sd] w (Out_sui (fun _ => 0) 0 0 0 0 0 0 0 0 0 0 0 0 0 0 0 0 2 w) := by
  have HV := hid (fun (w' : World) (hl : le w w') => hv ▸ i_ValidStringR B s q.x q.n (q.j : Nat) 3 q.ta q.tb q.tc q.tx q.ty 2 q.da q.db q.dc q.dx q.dy q.l w' (hs.le hl) ⟨ok.fta, ok.ftb, ok.ftc, ok.ftx, ok.fty⟩ ⟨ok.fda, ok.fdb, ok.fdc, ok.fdx, ok.fdy⟩ ok.fl)
  have HFI := hid (fun (w : World) => i_isFinite fo w hfo)
  rw [hp] at HFI
  clear hs hv ok hfo hp
  have F := ((((Frg.nil w).box 31 #[s, .int .i64 (q.j : Nat), .int .i64 3, .float .f32 (q.ta), .float .f32 (q.tb), .float .f32 (q.tc), .float .f32 (q.tx), .float .f32 (q.ty), .int .i64 2, .float .f32 (q.da), .float .f32 (q.db), .float .f32 (q.dc), .float .f32 (q.dx), .float .f32 (q.dy), .float .f32 (q.l)]).box 22 #[.float .f32 fo]).box 53 #[.int .u32 sd]).box 31 #[.slice none 0 0, .int .i64 0, .int .i64 0, .float .f32 0, .float .f32 0, .float .f32 0, .float .f32 0, .float .f32 0, .int .i64 0, .float .f32 0, .float .f32 0, .float .f32 0, .float .f32 0, .float .f32 0, .float .f32 0]
  simp only [World.size_alloc] at F
  go_enter Try.func34, Try.ntmps34
  go_wp2_with (first | ((with_reducible refine at_loadU rfl rfl ?_); (with_reducible refine wpList_loadG F rfl rfl rfl (by first | exact m0 | exact m1 | exact m2 | exact m3 | exact m4 | exact m5) Try.underlying31 rfl infoStr rfl ?_)) | (go_at_call 23; ((with_reducible refine (HV.out _ F.below).mono ?_); rintro e w1 ⟨rfl, hl⟩; replace F := F.le hl; clear hl; have cf := (F.row (g := w.heap.size + 1) m2).cell? 0; have c0 := (F.row (g := w.heap.size) m3).cell? 0)) | (go_at_call 68; ((with_reducible refine (HFI.out _).mono ?_); rintro e w8 ⟨rfl, rfl⟩)) | ((with_reducible refine stop_store rfl ?_)))
  show wpList _ _ _ _ _ _
  refine wpList_storeD rfl rfl rfl (cells := #[.slice none 0 0, .int .i64 0, .int .i64 0, .float .f32 0, .float .f32 0, .float .f32 0, .float .f32 0, .float .f32 0, .int .i64 0, .float .f32 0, .float .f32 0, .float .f32 0, .float .f32 0, .float .f32 0, .float .f32 0]) rfl (F.row m0) infoStr rfl (by simp [Value.oneCell']) (fun w4 K => ?_)
  have R := hid K.row
  have L := hid (F.wr0 K).below
  clear K F
  go_wp2
  exact bodyPost_ret (results_row3 rfl _ _ _ _ _ rfl R.out Try.underlying31 rfl infoStr) rfl ⟨_, rfl, .inl ⟨rfl, rfl⟩, L.out⟩
set_option maxRecDepth 100000 in
set_option maxHeartbeats 4000000 in
theorem i_NoiseString_yes (B : Nat) (s : Value) (q : StS) (fo : Nat) (sd : Int) (w : World) (hs : RdS w B s q.x q.n) (ok : q.Ok) (hv : okStr q.n (q.j : Nat) 3 q.ta q.tb q.tc q.tx q.ty 2 q.da q.db q.dc q.dx q.dy q.l = true) (hfo : fits .f32 fo) (hp : fin fo = true) (h0 : 0 ≤ sd) (h1 : sd < 4294967296) :
    Calls Try.prog 34 #[.agg #[s, .int .i64 (q.j : Nat), .int .i64 3, .float .f32 (q.ta), .float .f32 (q.tb), .float .f32 (q.tc), .float .f32 (q.tx), .float .f32 (q.ty), .int .i64 2, .float .f32 (q.da), .float .f32 (q.db), .float .f32 (q.dc), .float .f32 (q.dx), .float .f32 (q.dy), .float .f32 (q.l)], .float .f32 fo, .int .u32 sd] w (Out_sui (addN q.x q.n q.j (noV fo sd) 0 q.n) q.n (q.j : Nat) 3 q.ta q.tb q.tc q.tx q.ty 2 q.da q.db q.dc q.dx q.dy q.l (sdOf sd q.n) 0 w) := by
  have HV := hid (fun (w' : World) (hl : le w w') => hv ▸ i_ValidStringR B s q.x q.n (q.j : Nat) 3 q.ta q.tb q.tc q.tx q.ty 2 q.da q.db q.dc q.dx q.dy q.l w' (hs.le hl) ⟨ok.fta, ok.ftb, ok.ftc, ok.ftx, ok.fty⟩ ⟨ok.fda, ok.fdb, ok.fdc, ok.fdx, ok.fdy⟩ ok.fl)
  have HFI := hid (fun (w : World) => i_isFinite fo w hfo)
  rw [hp] at HFI
  have n1 := ok.n1
  have n2 := ok.n2
  have HW := hid (fun (w' : World) (gs gf : Nat) (hl : le w w') (Rs : Row w' gs 53 #[.int .u32 sd]) (Rf : Row w' gf 22 #[.float .f32 fo]) (hne : gf ≠ gs) => i_withAdded_noi B s q gs gf sd fo w' (hs.le hl) ok h0 h1 Rs Rf hne)
  obtain ⟨a0, cap, y0, rfl, hc, hm, _⟩ := hs.raw n1
  unfold maxLen at hm
  clear hs hv ok hfo hp
  have F := ((((Frg.nil w).box 31 #[(.slice (some a0) q.n cap), .int .i64 (q.j : Nat), .int .i64 3, .float .f32 (q.ta), .float .f32 (q.tb), .float .f32 (q.tc), .float .f32 (q.tx), .float .f32 (q.ty), .int .i64 2, .float .f32 (q.da), .float .f32 (q.db), .float .f32 (q.dc), .float .f32 (q.dx), .float .f32 (q.dy), .float .f32 (q.l)]).box 22 #[.float .f32 fo]).box 53 #[.int .u32 sd]).box 31 #[.slice none 0 0, .int .i64 0, .int .i64 0, .float .f32 0, .float .f32 0, .float .f32 0, .float .f32 0, .float .f32 0, .int .i64 0, .float .f32 0, .float .f32 0, .float .f32 0, .float .f32 0, .float .f32 0, .float .f32 0]
  simp only [World.size_alloc] at F
  go_enter Try.func34, Try.ntmps34
  go_wp2_with (first | ((with_reducible refine at_loadU rfl rfl ?_); (with_reducible refine wpList_loadG F rfl rfl rfl (by first | exact m0 | exact m1 | exact m2 | exact m3 | exact m4 | exact m5) Try.underlying31 rfl infoStr rfl ?_)) | (go_at_call 23; ((with_reducible refine (HV.out _ F.below).mono ?_); rintro e w1 ⟨rfl, hl⟩; replace F := F.le hl; clear hl; have cf := (F.row (g := w.heap.size + 1) m2).cell? 0; have c0 := (F.row (g := w.heap.size) m3).cell? 0)) | (go_at_call 68; ((with_reducible refine (HFI.out _).mono ?_); rintro e w8 ⟨rfl, rfl⟩)) | (go_at_call 79; refine (HW.out _ _ _ F.below (F.row (g := w.heap.size + 1 + 1) m1) (F.row (g := w.heap.size + 1) m2) (by omega)).mono ?_; rintro e w5 ⟨s', rfl, ho, hR, hC⟩; have OC := hid (OwnS.one ho); replace F := Frg.chgOwn [_] F (hC.mono (fun k hk => ⟨Nat.le_of_eq (Eq.symm hk), Nat.lt_succ_of_le (Nat.le_of_eq hk)⟩)) (e' := rowF (w.heap.size + 1 + 1) 53 #[.int .u32 (sdOf sd q.n)]) hR rfl rfl (f := ownF _ w5.heap.size s' (addN q.x q.n q.j (noV fo sd) 0 q.n) q.n) ho (Nat.le_refl _) (Nat.le_refl _); simp only [List.cons_append, List.nil_append] at F; clear ho hR hC c0 cf) | (refine wpList_storeG F rfl rfl rfl rfl rfl infoStr rfl (one_head OC.out rfl) ?_; clear F; intro W F zW; clear zW))
  have F1 := F.drewN 1
  obtain ⟨T, hT⟩ : ∃ T : List (Nat × TypeId × Array Value), T = [(w.heap.size + 1 + 1 + 1, 31, #[s', .int .i64 (q.j : Nat), .int .i64 3, .float .f32 (q.ta), .float .f32 (q.tb), .float .f32 (q.tc), .float .f32 (q.tx), .float .f32 (q.ty), .int .i64 2, .float .f32 (q.da), .float .f32 (q.db), .float .f32 (q.dc), .float .f32 (q.dx), .float .f32 (q.dy), .float .f32 (q.l)])] := ⟨_, rfl⟩
  have t1 : (w.heap.size + 1 + 1 + 1, 31, #[s', .int .i64 (q.j : Nat), .int .i64 3, .float .f32 (q.ta), .float .f32 (q.tb), .float .f32 (q.tc), .float .f32 (q.tx), .float .f32 (q.ty), .int .i64 2, .float .f32 (q.da), .float .f32 (q.db), .float .f32 (q.dc), .float .f32 (q.dx), .float .f32 (q.dy), .float .f32 (q.l)]) ∈ T := by rw [hT]; exact List.mem_cons_self
  have hT3 : ∀ x ∈ T, x.1 = w.heap.size + 1 + 1 + 1 := by rw [hT]; intro x hx; rw [List.mem_singleton.1 hx]
  have hd : ∀ x ∈ T, ∀ y ∈ T, x.1 = y.1 → x = y := by rw [hT]; intro x hx y hy _; rw [List.mem_singleton.1 hx, List.mem_singleton.1 hy]
  clear hT
  have fo1 := F1.facts _ m1
  have fr0 := F1.facts _ m0
  have fz := F1.facts _ m2
  have ap := (List.pairwise_cons.1 (List.pairwise_cons.1 F1.apart).2).1 _ m0
  have ap0 := (List.pairwise_cons.1 F1.apart).1 _ m1
  simp only [rowF, ownF] at fo1 fr0 fz ap ap0
  refine region_freeT (E := finX T) (fun _ _ _ _ => True) (by kernel_rfl) (by kernel_rfl) ?_
  refine wpFreeT_load rfl rfl rfl (F1.row m0) (fun x hx => by have := hT3 x hx; omega) Try.underlying31 rfl infoStr rfl ?_
  simp only [Act.put, List.setIfInBounds_toArray, List.set_cons_succ, List.set_cons_zero]
  refine wpFreeT_cell rfl rfl rfl (F1.row m3) (fun x hx => by have := hT3 x hx; omega) rfl kindU ?_
  simp only [Act.put, List.setIfInBounds_toArray, List.set_cons_succ, List.set_cons_zero]
  refine wpFreeT_store rfl rfl rfl rfl t1 hd (F1.row m2) rfl infoStr rfl (one_head OC.out rfl) ?_
  simp only [Act.put, List.setIfInBounds_toArray, List.set_cons_succ, List.set_cons_zero]
  refine wpFree_oneT rfl (.int .u32 (sdOf sd q.n)) (fun w1 _ => by kernel_rfl) ?_
  simp only [Act.put, List.setIfInBounds_toArray, List.set_cons_succ, List.set_cons_zero]
  refine wpFree_oneT rfl (.int .i64 0) (fun w1 _ => by kernel_rfl) ?_
  simp only [Act.put, List.setIfInBounds_toArray, List.set_cons_succ, List.set_cons_zero]
  refine wpFree_nilT (fun wR hwR hF => ?_)
  obtain ⟨_, r1⟩ := hF
  have L := hid (F1.below.trans (finX_below hwR (B := w.heap.size) (fun x hx => by have := hT3 x hx; omega) F1.size))
  have O7 := hid ((own_finX hwR (F1.own m1) (fun x hx => by have := hT3 x hx; omega)).mono (lo' := w.heap.size) (hi' := wR.heap.size) (by omega) (Nat.le_trans (by omega) hwR.2.2.2.1))
  have R1 := hid r1
  clear hwR F1 F hd t1 hT3 r1 fo1 fr0 fz ap ap0
  go_wp2
  exact bodyPost_ret (results_row3 rfl _ _ _ _ _ rfl R1.out Try.underlying31 rfl infoStr) rfl ⟨_, rfl, O7.out, L.out⟩
set_option maxRecDepth 100000 in
set_option maxHeartbeats 4000000 in
theorem s_NoiseString_no (B : Nat) (s : Value) (x : Nat → Nat) (n : Nat) (k tk : Int) (ta tb tc tx ty : Nat) (dk : Int) (da db dc dx dy l : Nat) (fo : Nat) (sd : Int) (w : World) (hs : RdS w B s x n) (hk : (Lit.int .i64 k).wf = true) (hv : okStr n k tk ta tb tc tx ty dk da db dc dx dy l = false) :
    Calls Try.prog 33 #[.agg #[s, .int .i64 k, .int .i64 tk, .float .f32 ta, .float .f32 tb, .float .f32 tc, .float .f32 tx, .float .f32 ty, .int .i64 dk, .float .f32 da, .float .f32 db, .float .f32 dc, .float .f32 dx, .float .f32 dy, .float .f32 l], .float .f32 fo, .int .u32 sd] w (Out_sui (fun _ => 0) 0 0 0 0 0 0 0 0 0 0 0 0 0 0 0 0 1 w) := by
  have HV := hid (fun (w' : World) (g : Nat) (hl : le w w') (R : Row w' g 31 #[s, .int .i64 k, .int .i64 tk, .float .f32 ta, .float .f32 tb, .float .f32 tc, .float .f32 tx, .float .f32 ty, .int .i64 dk, .float .f32 da, .float .f32 db, .float .f32 dc, .float .f32 dx, .float .f32 dy, .float .f32 l]) => hv ▸ s_l03Ok B s x n k tk ta tb tc tx ty dk da db dc dx dy l g w' (hs.le hl) R hk)
  clear hs hk hv
  have F := ((Frg.nil w).box 31 #[s, .int .i64 k, .int .i64 tk, .float .f32 ta, .float .f32 tb, .float .f32 tc, .float .f32 tx, .float .f32 ty, .int .i64 dk, .float .f32 da, .float .f32 db, .float .f32 dc, .float .f32 dx, .float .f32 dy, .float .f32 l]).box 31 #[.slice none 0 0, .int .i64 0, .int .i64 0, .float .f32 0, .float .f32 0, .float .f32 0, .float .f32 0, .float .f32 0, .int .i64 0, .float .f32 0, .float .f32 0, .float .f32 0, .float .f32 0, .float .f32 0, .float .f32 0]
  simp only [World.size_alloc] at F
  go_enter Try.func33, Try.ntmps33
  go_wp2_with (first | (go_at_call 63; ((with_reducible refine (HV.out _ _ F.below (F.row (by first | exact m0 | exact m1 | exact m2 | exact m3 | exact m4 | exact m5))).mono ?_); rintro e w1 ⟨rfl, m, rfl⟩; replace F := F.drewN m)) | ((with_reducible refine stop_store rfl ?_)))
  show wpList _ _ _ _ _ _
  refine wpList_storeD rfl rfl rfl (cells := #[.slice none 0 0, .int .i64 0, .int .i64 0, .float .f32 0, .float .f32 0, .float .f32 0, .float .f32 0, .float .f32 0, .int .i64 0, .float .f32 0, .float .f32 0, .float .f32 0, .float .f32 0, .float .f32 0, .float .f32 0]) rfl (F.row m0) infoStr rfl (by simp [Value.oneCell']) (fun w4 K => ?_)
  have R := hid K.row
  have L := hid (F.wr0 K).below
  clear K F
  go_wp2
  exact bodyPost_ret (results_row3 rfl _ _ _ _ _ rfl R.out Try.underlying31 rfl infoStr) rfl ⟨_, rfl, .inl ⟨rfl, rfl⟩, L.out⟩
set_option maxRecDepth 100000 in
set_option maxHeartbeats 4000000 in
theorem s_NoiseString_out (B : Nat) (s : Value) (q : StS) (fo : Nat) (sd : Int) (w : World) (hs : RdS w B s q.x q.n) (ok : q.Ok) (hk : (Lit.int .i64 (q.j : Nat)).wf = true) (hv : okStr q.n (q.j : Nat) 3 q.ta q.tb q.tc q.tx q.ty 2 q.da q.db q.dc q.dx q.dy q.l = true) (hp : fin fo = false) :
    Calls Try.prog 33 #[.agg #[s, .int .i64 (q.j : Nat), .int .i64 3, .float .f32 (q.ta), .float .f32 (q.tb), .float .f32 (q.tc), .float .f32 (q.tx), .float .f32 (q.ty), .int .i64 2, .float .f32 (q.da), .float .f32 (q.db), .float .f32 (q.dc), .float .f32 (q.dx), .float .f32 (q.dy), .float .f32 (q.l)], .float .f32 fo, .int .u32 sd] w (Out_sui (fun _ => 0) 0 0 0 0 0 0 0 0 0 0 0 0 0 0 0 0 2 w) := by
  have HV := hid (fun (w' : World) (g : Nat) (hl : le w w') (R : Row w' g 31 #[s, .int .i64 (q.j : Nat), .int .i64 3, .float .f32 (q.ta), .float .f32 (q.tb), .float .f32 (q.tc), .float .f32 (q.tx), .float .f32 (q.ty), .int .i64 2, .float .f32 (q.da), .float .f32 (q.db), .float .f32 (q.dc), .float .f32 (q.dx), .float .f32 (q.dy), .float .f32 (q.l)]) => hv ▸ s_l03Ok B s q.x q.n (q.j : Nat) 3 q.ta q.tb q.tc q.tx q.ty 2 q.da q.db q.dc q.dx q.dy q.l g w' (hs.le hl) R hk)
  have hFF := hid (fun w' => hp ▸ s_l01Finite fo w')
  clear hs hk hv ok hp
  have F := ((Frg.nil w).box 31 #[s, .int .i64 (q.j : Nat), .int .i64 3, .float .f32 (q.ta), .float .f32 (q.tb), .float .f32 (q.tc), .float .f32 (q.tx), .float .f32 (q.ty), .int .i64 2, .float .f32 (q.da), .float .f32 (q.db), .float .f32 (q.dc), .float .f32 (q.dx), .float .f32 (q.dy), .float .f32 (q.l)]).box 31 #[.slice none 0 0, .int .i64 0, .int .i64 0, .float .f32 0, .float .f32 0, .float .f32 0, .float .f32 0, .float .f32 0, .int .i64 0, .float .f32 0, .float .f32 0, .float .f32 0, .float .f32 0, .float .f32 0, .float .f32 0]
  simp only [World.size_alloc] at F
  go_enter Try.func33, Try.ntmps33
  go_wp2_with (first | (go_at_call 63; ((with_reducible refine (HV.out _ _ F.below (F.row (by first | exact m0 | exact m1 | exact m2 | exact m3 | exact m4 | exact m5))).mono ?_); rintro e w1 ⟨rfl, m, rfl⟩; replace F := F.drewN m)) | (go_at_call 75; ((with_reducible refine (hFF.out _).mono ?_); rintro e w8 ⟨rfl, mf, rfl⟩; replace F := F.drewN mf; (try simp only [World.drewN_drewN] at F))) | ((with_reducible refine stop_store rfl ?_)))
  show wpList _ _ _ _ _ _
  refine wpList_storeD rfl rfl rfl (cells := #[.slice none 0 0, .int .i64 0, .int .i64 0, .float .f32 0, .float .f32 0, .float .f32 0, .float .f32 0, .float .f32 0, .int .i64 0, .float .f32 0, .float .f32 0, .float .f32 0, .float .f32 0, .float .f32 0, .float .f32 0]) rfl (F.row m0) infoStr rfl (by simp [Value.oneCell']) (fun w4 K => ?_)
  have R := hid K.row
  have L := hid (F.wr0 K).below
  clear K F
  go_wp2
  exact bodyPost_ret (results_row3 rfl _ _ _ _ _ rfl R.out Try.underlying31 rfl infoStr) rfl ⟨_, rfl, .inl ⟨rfl, rfl⟩, L.out⟩
set_option maxRecDepth 100000 in
set_option maxHeartbeats 4000000 in
theorem s_NoiseString_yes (B : Nat) (s : Value) (q : StS) (fo : Nat) (sd : Int) (w : World) (hs : RdS w B s q.x q.n) (ok : q.Ok) (hk : (Lit.int .i64 (q.j : Nat)).wf = true) (hv : okStr q.n (q.j : Nat) 3 q.ta q.tb q.tc q.tx q.ty 2 q.da q.db q.dc q.dx q.dy q.l = true) (hp : fin fo = true) (h0 : 0 ≤ sd) (h1 : sd < 4294967296) :
    Calls Try.prog 33 #[.agg #[s, .int .i64 (q.j : Nat), .int .i64 3, .float .f32 (q.ta), .float .f32 (q.tb), .float .f32 (q.tc), .float .f32 (q.tx), .float .f32 (q.ty), .int .i64 2, .float .f32 (q.da), .float .f32 (q.db), .float .f32 (q.dc), .float .f32 (q.dx), .float .f32 (q.dy), .float .f32 (q.l)], .float .f32 fo, .int .u32 sd] w (Out_sui (addN q.x q.n q.j (noV fo sd) 0 q.n) q.n (q.j : Nat) 3 q.ta q.tb q.tc q.tx q.ty 2 q.da q.db q.dc q.dx q.dy q.l (sdOf sd q.n) 0 w) := by
  have HV := hid (fun (w' : World) (g : Nat) (hl : le w w') (R : Row w' g 31 #[s, .int .i64 (q.j : Nat), .int .i64 3, .float .f32 (q.ta), .float .f32 (q.tb), .float .f32 (q.tc), .float .f32 (q.tx), .float .f32 (q.ty), .int .i64 2, .float .f32 (q.da), .float .f32 (q.db), .float .f32 (q.dc), .float .f32 (q.dx), .float .f32 (q.dy), .float .f32 (q.l)]) => hv ▸ s_l03Ok B s q.x q.n (q.j : Nat) 3 q.ta q.tb q.tc q.tx q.ty 2 q.da q.db q.dc q.dx q.dy q.l g w' (hs.le hl) R hk)
  have HCP := hid (fun (w' : World) (g : Nat) (hl : le w w') (R : Row w' g 31 #[s, .int .i64 (q.j : Nat), .int .i64 3, .float .f32 (q.ta), .float .f32 (q.tb), .float .f32 (q.tc), .float .f32 (q.tx), .float .f32 (q.ty), .int .i64 2, .float .f32 (q.da), .float .f32 (q.db), .float .f32 (q.dc), .float .f32 (q.dx), .float .f32 (q.dy), .float .f32 (q.l)]) => s_l03Copy B s q.x q.n (q.j : Nat) 3 q.ta q.tb q.tc q.tx q.ty 2 q.da q.db q.dc q.dx q.dy q.l g w' (hs.le hl) R ok.n1 ok.n2)
  have hFF := hid (fun w' => hp ▸ s_l01Finite fo w')
  have n1 := ok.n1
  have n2 := ok.n2
  have j1 := ok.j1
  obtain ⟨a0, cap, y0, rfl, hc, hm, _⟩ := hs.raw n1
  unfold maxLen at hm
  clear hs hk hv ok hp
  have F := ((Frg.nil w).box 31 #[(.slice (some a0) q.n cap), .int .i64 (q.j : Nat), .int .i64 3, .float .f32 (q.ta), .float .f32 (q.tb), .float .f32 (q.tc), .float .f32 (q.tx), .float .f32 (q.ty), .int .i64 2, .float .f32 (q.da), .float .f32 (q.db), .float .f32 (q.dc), .float .f32 (q.dx), .float .f32 (q.dy), .float .f32 (q.l)]).box 31 #[.slice none 0 0, .int .i64 0, .int .i64 0, .float .f32 0, .float .f32 0, .float .f32 0, .float .f32 0, .float .f32 0, .int .i64 0, .float .f32 0, .float .f32 0, .float .f32 0, .float .f32 0, .float .f32 0, .float .f32 0]
  simp only [World.size_alloc] at F
  go_enter Try.func33, Try.ntmps33
  go_wp2_with (first | (go_at_call 63; ((with_reducible refine (HV.out _ _ F.below (F.row (by first | exact m0 | exact m1 | exact m2 | exact m3 | exact m4 | exact m5))).mono ?_); rintro e w1 ⟨rfl, m, rfl⟩; replace F := F.drewN m)) | (go_at_call 75; ((with_reducible refine (hFF.out _).mono ?_); rintro e w8 ⟨rfl, mf, rfl⟩; replace F := F.drewN mf; (try simp only [World.drewN_drewN] at F))) | (go_at_call 76; ((with_reducible refine (HCP.out _ _ F.below (F.row (by first | exact m0 | exact m1 | exact m2 | exact m3 | exact m4 | exact m5))).mono ?_); rintro e w2 ⟨s', rfl, ho, hl⟩; have OC := hid (OwnS.one ho); replace F := hid (F.push (e := ownF (w.heap.size + 1 + 1) w2.heap.size s' q.x q.n) hl (show OwnS w2 (w.heap.size + 1 + 1) w2.heap.size s' q.x q.n by simpa using ho) (by simp [ownF]) (Nat.le_refl _)); clear ho hl)) | (refine wpList_storeG F.out rfl rfl rfl rfl rfl infoStr rfl (one_head OC.out rfl) ?_; clear F; intro W3 F zW; clear zW; replace F := hid F))
  obtain ⟨b3, o3, cap3, rfl, hc3, hm3, hb3, hb4⟩ := (F.out.own (lo := w.heap.size + 1 + 1) (hi := w2.heap.size) m1).form n1
  unfold maxLen at hm3
  have HAD := hid (fun (wq : World) (xx : Nat → Nat) (k r : Nat) (hk : k < q.n) (hs : OwnS wq (w.heap.size + 1 + 1) w2.heap.size (.slice (some ⟨b3, o3, none⟩) q.n cap3) xx q.n) (hr : Row wq w2.heap.size 31 #[(.slice (some ⟨b3, o3, none⟩) q.n cap3), .int .i64 (q.j : Nat), .int .i64 3, .float .f32 (q.ta), .float .f32 (q.tb), .float .f32 (q.tc), .float .f32 (q.tx), .float .f32 (q.ty), .int .i64 2, .float .f32 (q.da), .float .f32 (q.db), .float .f32 (q.dc), .float .f32 (q.dx), .float .f32 (q.dy), .float .f32 (q.l)]) (fr : fits .f32 r) => s_l03Add (w.heap.size + 1 + 1) w2.heap.size (.slice (some ⟨b3, o3, none⟩) q.n cap3) xx q.n q.j k r w2.heap.size 0 31 #[(.slice (some ⟨b3, o3, none⟩) q.n cap3), .int .i64 (q.j : Nat), .int .i64 3, .float .f32 (q.ta), .float .f32 (q.tb), .float .f32 (q.tc), .float .f32 (q.tx), .float .f32 (q.ty), .int .i64 2, .float .f32 (q.da), .float .f32 (q.db), .float .f32 (q.dc), .float .f32 (q.dx), .float .f32 (q.dy), .float .f32 (q.l)] wq hs hr rfl rfl (by omega) j1 hk n2 fr)
  go_loopw [2, 10] (fun v u wr => ∃ i : Nat, i ≤ q.n ∧ v = .int .u32 (sdOf sd i) ∧ u = .int .i64 i ∧ Hid (Frg w wr [rowF w2.heap.size 31 #[(.slice (some ⟨b3, o3, none⟩) q.n cap3), .int .i64 (q.j : Nat), .int .i64 3, .float .f32 (q.ta), .float .f32 (q.tb), .float .f32 (q.tc), .float .f32 (q.tx), .float .f32 (q.ty), .int .i64 2, .float .f32 (q.da), .float .f32 (q.db), .float .f32 (q.dc), .float .f32 (q.dx), .float .f32 (q.dy), .float .f32 (q.l)], ownF (w.heap.size + 1 + 1) w2.heap.size (.slice (some ⟨b3, o3, none⟩) q.n cap3) (addN q.x q.n q.j (noV fo sd) 0 i) q.n, rowF (w.heap.size + 1) 31 #[.slice none 0 0, .int .i64 0, .int .i64 0, .float .f32 0, .float .f32 0, .float .f32 0, .float .f32 0, .float .f32 0, .int .i64 0, .float .f32 0, .float .f32 0, .float .f32 0, .float .f32 0, .float .f32 0, .float .f32 0], rowF w.heap.size 31 #[(.slice (some a0) q.n cap), .int .i64 (q.j : Nat), .int .i64 3, .float .f32 (q.ta), .float .f32 (q.tb), .float .f32 (q.tc), .float .f32 (q.tx), .float .f32 (q.ty), .int .i64 2, .float .f32 (q.da), .float .f32 (q.db), .float .f32 (q.dc), .float .f32 (q.dx), .float .f32 (q.dy), .float .f32 (q.l)]])) (fun _ u _ => q.n - (intOf u).toNat)
  case atStart => exact ⟨0, by omega, rfl, rfl, F.out⟩
  case round =>
    obtain ⟨i, hi2, rfl, rfl, FJ⟩ := hrel
    clear F
    have c0 := (FJ.out.row (g := w.heap.size) m3).cell? 0
    by_cases hlt : i < q.n
    · have HSD := hid (sdOf_range h0 h1 i)
      go_wp2_with (first | (go_at_call 83; ((with_reducible refine (s_l01Noise _ _ HSD.out.1 HSD.out.2).mono ?_); rintro e w5 ⟨r1, m1', rfl, hr1, hf1, rfl⟩; have HR1 := hid hr1; replace FJ := hid (FJ.out.drewN m1'); clear hr1 hf1 c0)) | (with_reducible refine wpList_farith (op := .mul) rfl rfl rfl rfl rfl ?_; intro r2 m2' hr2 hf2; replace FJ := FJ.out.drewN m2'; simp only [World.drewN_drewN] at FJ; replace FJ := hid FJ) | (go_at_call 77; ((with_reducible refine (HAD.out _ _ i r2 hlt (FJ.out.own m1) (FJ.out.row m0) hf2.out).mono ?_); rintro e w6 ⟨rfl, _, hown, hch⟩; have FK2 := hid (FJ.out.mark1 hown hch); clear FJ hown hch)))
      go_roundw
      case rel =>
        refine ⟨i + 1, by omega, rfl, by go_num, ?_⟩
        unfold addN
        have e2 : can .f32 (noV fo sd (0 + i)) = can .f32 r2 := by rw [Nat.zero_add, hr2.out, ← fop_can_r, HR1.out]; exact can_fop _ _ _ _
        rw [addX_can e2, Nat.zero_add]
        exact FK2
      case measure => simp [intOf]; omega
    · obtain rfl : i = q.n := by omega
      replace FJ := FJ.out
      go_wp2_with (first | ((with_reducible refine at_loadU rfl rfl ?_); (with_reducible refine wpList_loadG FJ rfl rfl rfl m0 Try.underlying31 rfl infoStr rfl ?_)) | ((with_reducible refine stop_store rfl ?_)))
      show wpList _ _ _ _ _ _
      refine wpList_storeD rfl rfl rfl (cells := #[(.slice (some ⟨b3, o3, none⟩) q.n cap3), .int .i64 (q.j : Nat), .int .i64 3, .float .f32 (q.ta), .float .f32 (q.tb), .float .f32 (q.tc), .float .f32 (q.tx), .float .f32 (q.ty), .int .i64 2, .float .f32 (q.da), .float .f32 (q.db), .float .f32 (q.dc), .float .f32 (q.dx), .float .f32 (q.dy), .float .f32 (q.l)]) rfl (FJ.row (g := w.heap.size + 1) m2) infoStr rfl (by simp [Value.oneCell']) (fun w7 K => ?_)
      replace FJ := FJ.wr2 K
      have RW := hid K.row
      have L := hid FJ.below
      have O := FJ.facts (ownF (w.heap.size + 1 + 1) w2.heap.size (.slice (some ⟨b3, o3, none⟩) q.n cap3) (addN q.x q.n q.j (noV fo sd) 0 q.n) q.n) m1
      have O7 := hid (OwnS.mono (lo' := w.heap.size) (hi' := w7.heap.size) O.2.2 (by omega) O.2.1)
      clear K FJ O
      go_wp2
      exact bodyPost_ret (results_row3 rfl _ _ _ _ _ rfl RW.out Try.underlying31 rfl infoStr) rfl ⟨_, rfl, O7.out, L.out⟩
theorem u32_range {a : Int} (h : (Lit.int .u32 a).wf = true) : 0 ≤ a ∧ a < 4294967296 := by
  simp [Lit.wf, IntKind.min, IntKind.max, IntKind.signed, IntKind.bits] at h; omega
theorem both_NoiseString (x : Nat → Nat) (n : Nat) (k tk : Int) (ta tb tc tx ty : Nat) (dk : Int) (da db dc dx dy l : Nat) (fo : Nat) (sd : Int) (hw : (Lit.int .i64 k).wf = true ∧ (Lit.int .i64 tk).wf = true ∧ fits .f32 ta ∧ fits .f32 tb ∧ fits .f32 tc ∧ fits .f32 tx ∧ fits .f32 ty ∧ (Lit.int .i64 dk).wf = true ∧ fits .f32 da ∧ fits .f32 db ∧ fits .f32 dc ∧ fits .f32 dx ∧ fits .f32 dy ∧ fits .f32 l) (hfo : fits .f32 fo) (hsd : (Lit.int .u32 sd).wf = true) : ∃ (xr0 : Nat → Nat) (nr0 : Nat) (kr0 tkr0 : Int) (tar0 tbr0 tcr0 txr0 tyr0 : Nat) (dkr0 : Int) (dar0 dbr0 dcr0 dxr0 dyr0 lr0 : Nat) (ar1 ar2 : Int), nr0 ≤ 1048576 ∧ (∀ (w : World) (B : Nat) (u : Value), RdS w B u x n → Calls Try.prog 33 #[.agg #[u, .int .i64 k, .int .i64 tk, .float .f32 ta, .float .f32 tb, .float .f32 tc, .float .f32 tx, .float .f32 ty, .int .i64 dk, .float .f32 da, .float .f32 db, .float .f32 dc, .float .f32 dx, .float .f32 dy, .float .f32 l], .float .f32 fo, .int .u32 sd] w (Out_sui xr0 nr0 kr0 tkr0 tar0 tbr0 tcr0 txr0 tyr0 dkr0 dar0 dbr0 dcr0 dxr0 dyr0 lr0 ar1 ar2 w)) ∧ (∀ (w : World) (B : Nat) (u : Value), RdS w B u x n → Calls Try.prog 34 #[.agg #[u, .int .i64 k, .int .i64 tk, .float .f32 ta, .float .f32 tb, .float .f32 tc, .float .f32 tx, .float .f32 ty, .int .i64 dk, .float .f32 da, .float .f32 db, .float .f32 dc, .float .f32 dx, .float .f32 dy, .float .f32 l], .float .f32 fo, .int .u32 sd] w (Out_sui xr0 nr0 kr0 tkr0 tar0 tbr0 tcr0 txr0 tyr0 dkr0 dar0 dbr0 dcr0 dxr0 dyr0 lr0 ar1 ar2 w)) := by
  obtain ⟨hk, _, h1, h2, h3, h4, h5, _, g1, g2, g3, g4, g5, hl⟩ := hw
  have hr := u32_range hsd
  cases hv : okStr n k tk ta tb tc tx ty dk da db dc dx dy l
  · exact ⟨(fun _ => 0), 0, 0, 0, 0, 0, 0, 0, 0, 0, 0, 0, 0, 0, 0, 0, 0, 1, by omega, fun w B u h => s_NoiseString_no B u x n k tk ta tb tc tx ty dk da db dc dx dy l fo sd w h hk hv, fun w B u h => i_NoiseString_no B u x n k tk ta tb tc tx ty dk da db dc dx dy l fo sd w h ⟨h1, h2, h3, h4, h5⟩ ⟨g1, g2, g3, g4, g5⟩ hl hv⟩
  · obtain ⟨j, rfl, rfl, rfl, ok⟩ := okStr_q (x := x) hv ⟨h1, h2, h3, h4, h5⟩ ⟨g1, g2, g3, g4, g5⟩ hl
    cases hp : fin fo
    · exact ⟨(fun _ => 0), 0, 0, 0, 0, 0, 0, 0, 0, 0, 0, 0, 0, 0, 0, 0, 0, 2, by omega, fun w B u h => s_NoiseString_out B u (⟨x, n, j, ta, tb, tc, tx, ty, da, db, dc, dx, dy, l⟩ : StS) fo sd w h ok hk hv hp, fun w B u h => i_NoiseString_out B u (⟨x, n, j, ta, tb, tc, tx, ty, da, db, dc, dx, dy, l⟩ : StS) fo sd w h ok hv hfo hp⟩
    · exact ⟨_, _, _, _, _, _, _, _, _, _, _, _, _, _, _, _, _, _, Nat.le_trans ok.n2 (by decide), fun w B u h => s_NoiseString_yes B u (⟨x, n, j, ta, tb, tc, tx, ty, da, db, dc, dx, dy, l⟩ : StS) fo sd w h ok hk hv hp hr.1 hr.2, fun w B u h => i_NoiseString_yes B u (⟨x, n, j, ta, tb, tc, tx, ty, da, db, dc, dx, dy, l⟩ : StS) fo sd w h ok hv hfo hp hr.1 hr.2⟩
end Go.Proofs.Ytaenbpkcehenkac

/- The walk of 'FnExactNoiseString'. -/
namespace Go.Proofs.Ytaenbpkcehenkac.fnExactNoiseString
open Go.RowKit Go.Fk
set_option maxRecDepth 100000 in
set_option maxHeartbeats 4000000 in
theorem core (s0 : Value) (x0 : Nat → Nat) (n0 : Nat) (k0 : Int) (tk0 : Int) (ta0 : Nat) (tb0 : Nat) (tc0 : Nat) (tx0 : Nat) (ty0 : Nat) (dk0 : Int) (da0 : Nat) (db0 : Nat) (dc0 : Nat) (dx0 : Nat) (dy0 : Nat) (l0 : Nat) (a1 : Nat) (a2 : Int) (xr0 : Nat → Nat) (nr0 : Nat) (kr0 : Int) (tkr0 : Int) (tar0 : Nat) (tbr0 : Nat) (tcr0 : Nat) (txr0 : Nat) (tyr0 : Nat) (dkr0 : Int) (dar0 : Nat) (dbr0 : Nat) (dcr0 : Nat) (dxr0 : Nat) (dyr0 : Nat) (lr0 : Nat) (ar1 : Int) (ar2 : Int) (w : World) (z0 : RdS w w.heap.size s0 x0 n0) (hn0 : n0 ≤ 1048576) (hr0 : nr0 ≤ 1048576)
    (hS : ∀ (w : World) (B0 : Nat) (u0 : Value), RdS w B0 u0 x0 n0 → Calls Try.prog 33 #[.agg #[u0, .int .i64 k0, .int .i64 tk0, .float .f32 ta0, .float .f32 tb0, .float .f32 tc0, .float .f32 tx0, .float .f32 ty0, .int .i64 dk0, .float .f32 da0, .float .f32 db0, .float .f32 dc0, .float .f32 dx0, .float .f32 dy0, .float .f32 l0], .float .f32 a1, .int .u32 a2] w (Out_sui xr0 nr0 kr0 tkr0 tar0 tbr0 tcr0 txr0 tyr0 dkr0 dar0 dbr0 dcr0 dxr0 dyr0 lr0 ar1 ar2 w))
    (hI : ∀ (w : World) (B0 : Nat) (u0 : Value), RdS w B0 u0 x0 n0 → Calls Try.prog 34 #[.agg #[u0, .int .i64 k0, .int .i64 tk0, .float .f32 ta0, .float .f32 tb0, .float .f32 tc0, .float .f32 tx0, .float .f32 ty0, .int .i64 dk0, .float .f32 da0, .float .f32 db0, .float .f32 dc0, .float .f32 dx0, .float .f32 dy0, .float .f32 l0], .float .f32 a1, .int .u32 a2] w (Out_sui xr0 nr0 kr0 tkr0 tar0 tbr0 tcr0 txr0 tyr0 dkr0 dar0 dbr0 dcr0 dxr0 dyr0 lr0 ar1 ar2 w)) :
    Calls Try.prog 8 #[.agg #[s0, .int .i64 k0, .int .i64 tk0, .float .f32 ta0, .float .f32 tb0, .float .f32 tc0, .float .f32 tx0, .float .f32 ty0, .int .i64 dk0, .float .f32 da0, .float .f32 db0, .float .f32 dc0, .float .f32 dx0, .float .f32 dy0, .float .f32 l0], .float .f32 a1, .int .u32 a2] w fun e w' => e = .returned (.bool true) ∧ Below w.heap.size w w' := by
  have Z0 := hid z0; clear z0
  have hm0 : ¬ (1048576 : Int) - n0 < 0 := by omega
  have hq : decide ((1 : Int) + n0 < 0) = false := by simp; omega
  have HS := hid hS; have HI := hid hI; clear hS hI
  have F := Frg.nil w
  replace F := F.box 40 (#[s0, .int .i64 k0, .int .i64 tk0, .float .f32 ta0, .float .f32 tb0, .float .f32 tc0, .float .f32 tx0, .float .f32 ty0, .int .i64 dk0, .float .f32 da0, .float .f32 db0, .float .f32 dc0, .float .f32 dx0, .float .f32 dy0, .float .f32 l0])
  go_enter Try.func8, Try.ntmps8
  go_wp2_with (first | (((with_reducible refine listN F ?_); clear F; intro wN F)) | ((with_reducible refine at_loadU rfl rfl ?_); first | (with_reducible refine wpList_loadG F rfl rfl rfl (by first | exact m0 | exact m1 | exact m2 | exact m3 | exact m4 | exact m5 | exact m6 | exact m7 | exact m8) Try.underlying31 rfl infoStr (by first | rfl | simp [size_ftab]) ?_) | (with_reducible refine wpList_loadG F rfl rfl rfl (by first | exact m0 | exact m1 | exact m2 | exact m3 | exact m4 | exact m5 | exact m6 | exact m7 | exact m8) Try.underlying40 rfl infoStrL (by first | rfl | simp [size_ftab]) ?_)) | ((with_reducible refine at_loadV rfl rfl ?_); first | (with_reducible refine wpList_loadGG F rfl rfl (by first | exact m0 | exact m1 | exact m2 | exact m3 | exact m4 | exact m5 | exact m6 | exact m7 | exact m8) Try.underlying31 rfl infoStr (by first | rfl | simp [size_ftab]) (by kernel_rfl) ?_) | (with_reducible refine wpList_loadGG F rfl rfl (by first | exact m0 | exact m1 | exact m2 | exact m3 | exact m4 | exact m5 | exact m6 | exact m7 | exact m8) Try.underlying40 rfl infoStrL (by first | rfl | simp [size_ftab]) (by kernel_rfl) ?_)) | (go_at_call 20; ((with_reducible refine (szStringR_yes _ s0 x0 n0 k0 tk0 ta0 tb0 tc0 tx0 ty0 dk0 da0 db0 dc0 dx0 dy0 l0 _ (Z0.out.le (by first | exact F.below)) hn0).mono ?_); rintro e w1 ⟨rfl, hb1⟩; (replace F := F.le hb1))) | (go_at_call 22; ((with_reducible refine (toStringR _ s0 x0 n0 k0 tk0 ta0 tb0 tc0 tx0 ty0 dk0 da0 db0 dc0 dx0 dy0 l0 _ (Z0.out.le (by first | exact F.below)) hn0).mono ?_); rintro e w1 ⟨tA0, rfl, ho1, hl1⟩; have oc := hid (OwnS.one ho1); (first | replace F := F.own1 hl1 ho1); clear hl1 ho1)))
  first | ((with_reducible refine callAt0 F ?_); clear F; intro wN F) | ((with_reducible refine callAtN F ?_); clear F; intro wN F)
  refine (HS.out _ _ _ (by first | exact (F.own (by first | exact m0 | exact m1 | exact m2 | exact m3 | exact m4 | exact m5 | exact m6 | exact m7 | exact m8)).rd)).mono ?_
  rintro e wS ⟨vS0, rfl, oS0, hlS⟩
  have oc := hid (OwnS.one oS0); (first | replace F := F.own1 hlS oS0); clear hlS oS0
  go_wp2_with (first | (((with_reducible refine listN F ?_); clear F; intro wN F)) | ((with_reducible refine at_store rfl ?_); first | (refine wpList_storeG F rfl rfl rfl rfl rfl infoStr rfl (by first | exact one_head (Hid.out (by assumption)) rfl | (simp [Value.oneCell']; done)) ?_; clear F; intro W F zW; clear zW)) | ((with_reducible refine at_loadU rfl rfl ?_); first | (with_reducible refine wpList_loadG F rfl rfl rfl (by first | exact m0 | exact m1 | exact m2 | exact m3 | exact m4 | exact m5 | exact m6 | exact m7 | exact m8) Try.underlying31 rfl infoStr (by first | rfl | simp [size_ftab]) ?_) | (with_reducible refine wpList_loadG F rfl rfl rfl (by first | exact m0 | exact m1 | exact m2 | exact m3 | exact m4 | exact m5 | exact m6 | exact m7 | exact m8) Try.underlying40 rfl infoStrL (by first | rfl | simp [size_ftab]) ?_)) | ((with_reducible refine at_loadV rfl rfl ?_); first | (with_reducible refine wpList_loadGG F rfl rfl (by first | exact m0 | exact m1 | exact m2 | exact m3 | exact m4 | exact m5 | exact m6 | exact m7 | exact m8) Try.underlying31 rfl infoStr (by first | rfl | simp [size_ftab]) (by kernel_rfl) ?_) | (with_reducible refine wpList_loadGG F rfl rfl (by first | exact m0 | exact m1 | exact m2 | exact m3 | exact m4 | exact m5 | exact m6 | exact m7 | exact m8) Try.underlying40 rfl infoStrL (by first | rfl | simp [size_ftab]) (by kernel_rfl) ?_)) | (go_at_call 22; ((with_reducible refine (toStringR _ s0 x0 n0 k0 tk0 ta0 tb0 tc0 tx0 ty0 dk0 da0 db0 dc0 dx0 dy0 l0 _ (Z0.out.le (by first | exact F.below)) hn0).mono ?_); rintro e w1 ⟨tB0, rfl, ho1, hl1⟩; have oc := hid (OwnS.one ho1); (first | replace F := F.own1 hl1 ho1); clear hl1 ho1)))
  first | ((with_reducible refine callAt0 F ?_); clear F; intro wN F) | ((with_reducible refine callAtN F ?_); clear F; intro wN F)
  refine (HI.out _ _ _ (by first | exact (F.own (by first | exact m0 | exact m1 | exact m2 | exact m3 | exact m4 | exact m5 | exact m6 | exact m7 | exact m8)).rd)).mono ?_
  rintro e wI ⟨vI0, rfl, oI0, hlI⟩
  have oc := hid (OwnS.one oI0); (first | replace F := F.own1 hlI oI0); clear hlI oI0
  go_wp2_with (first | (((with_reducible refine listN F ?_); clear F; intro wN F)) | ((with_reducible refine at_store rfl ?_); first | (refine wpList_storeG F rfl rfl rfl rfl rfl infoStr rfl (by first | exact one_head (Hid.out (by assumption)) rfl | (simp [Value.oneCell']; done)) ?_; clear F; intro W F zW; clear zW)) | ((with_reducible refine at_loadU rfl rfl ?_); first | (with_reducible refine wpList_loadG F rfl rfl rfl (by first | exact m0 | exact m1 | exact m2 | exact m3 | exact m4 | exact m5 | exact m6 | exact m7 | exact m8) Try.underlying31 rfl infoStr (by first | rfl | simp [size_ftab]) ?_) | (with_reducible refine wpList_loadG F rfl rfl rfl (by first | exact m0 | exact m1 | exact m2 | exact m3 | exact m4 | exact m5 | exact m6 | exact m7 | exact m8) Try.underlying40 rfl infoStrL (by first | rfl | simp [size_ftab]) ?_)) | ((with_reducible refine at_loadV rfl rfl ?_); first | (with_reducible refine wpList_loadGG F rfl rfl (by first | exact m0 | exact m1 | exact m2 | exact m3 | exact m4 | exact m5 | exact m6 | exact m7 | exact m8) Try.underlying31 rfl infoStr (by first | rfl | simp [size_ftab]) (by kernel_rfl) ?_) | (with_reducible refine wpList_loadGG F rfl rfl (by first | exact m0 | exact m1 | exact m2 | exact m3 | exact m4 | exact m5 | exact m6 | exact m7 | exact m8) Try.underlying40 rfl infoStrL (by first | rfl | simp [size_ftab]) (by kernel_rfl) ?_)) | (go_at_call 17; ((with_reducible refine (eqStringR _ _ _ _ xr0 nr0 kr0 tkr0 tar0 tbr0 tcr0 txr0 tyr0 dkr0 dar0 dbr0 dcr0 dxr0 dyr0 lr0 _ hr0 (by first | exact (F.own (by first | exact m0 | exact m1 | exact m2 | exact m3 | exact m4 | exact m5 | exact m6 | exact m7 | exact m8)).rd) (by first | exact (F.own (by first | exact m0 | exact m1 | exact m2 | exact m3 | exact m4 | exact m5 | exact m6 | exact m7 | exact m8)).rd)).mono ?_); rintro e w7 ⟨rfl, hb7⟩; (replace F := F.le hb7))))
  first | (refine wpAt0 F ?_; clear F; intro wN F) | (refine wpAtN F ?_; clear F; intro wN F)
  refine region_freeD (E := leX) (fun f _ w v => if f = 22 then ∃ (s' : Value) (B : Nat), v = .agg #[s', .int .i64 k0, .int .i64 tk0, .float .f32 ta0, .float .f32 tb0, .float .f32 tc0, .float .f32 tx0, .float .f32 ty0, .int .i64 dk0, .float .f32 da0, .float .f32 db0, .float .f32 dc0, .float .f32 dx0, .float .f32 dy0, .float .f32 l0] ∧ RdS w B s' x0 n0 else v = .bool true) (by kernel_rfl) (by kernel_rfl) ?_
  refine wpFreeD_loadG F rfl rfl rfl rfl (by first | exact m0 | exact m1 | exact m2 | exact m3 | exact m4 | exact m5 | exact m6 | exact m7 | exact m8) Try.underlying31 rfl infoStr rfl ?_
  simp only [Act.put, List.setIfInBounds_toArray, List.set_cons_succ, List.set_cons_zero]
  refine wpFreeD_loadG F rfl rfl rfl rfl (by first | exact m0 | exact m1 | exact m2 | exact m3 | exact m4 | exact m5 | exact m6 | exact m7 | exact m8) Try.underlying40 rfl infoStrL rfl ?_
  simp only [Act.put, List.setIfInBounds_toArray, List.set_cons_succ, List.set_cons_zero]
  refine wpFreeD_callB rfl rfl Try.func22 (by kernel_rfl) (by kernel_rfl) (args := #[.agg #[s0, .int .i64 k0, .int .i64 tk0, .float .f32 ta0, .float .f32 tb0, .float .f32 tc0, .float .f32 tx0, .float .f32 ty0, .int .i64 dk0, .float .f32 da0, .float .f32 db0, .float .f32 dc0, .float .f32 dx0, .float .f32 dy0, .float .f32 l0]]) (by simp [Act.eval]) (fun v w1 w2 hw hv => by simp only [if_true] at hv ⊢; obtain ⟨u, B, h1, h2⟩ := hv; exact ⟨u, B, h1, h2.le hw⟩) (fun w1 hw1 _ => (toStringR _ s0 x0 n0 k0 tk0 ta0 tb0 tc0 tx0 ty0 dk0 da0 db0 dc0 dx0 dy0 l0 w1 (Z0.out.le (le_trans (F.drewN _).below hw1)) hn0).mono ?_) ?_
  · rintro e w2 ⟨u, rfl, ho, hl⟩
    exact ⟨_, rfl, hl, by simp only [if_true]; exact ⟨u, _, rfl, ho.rd⟩⟩
  rintro v ⟨_, _, _, hv⟩
  simp only [if_true] at hv
  obtain ⟨u0, Bu0, rfl, _⟩ := hv
  simp only [Act.put, List.setIfInBounds_toArray, List.set_cons_succ, List.set_cons_zero]
  refine wpFreeD_callB rfl rfl Try.func17 (by kernel_rfl) (by kernel_rfl) (args := #[.agg #[tB0, .int .i64 k0, .int .i64 tk0, .float .f32 ta0, .float .f32 tb0, .float .f32 tc0, .float .f32 tx0, .float .f32 ty0, .int .i64 dk0, .float .f32 da0, .float .f32 db0, .float .f32 dc0, .float .f32 dx0, .float .f32 dy0, .float .f32 l0], .agg #[u0, .int .i64 k0, .int .i64 tk0, .float .f32 ta0, .float .f32 tb0, .float .f32 tc0, .float .f32 tx0, .float .f32 ty0, .int .i64 dk0, .float .f32 da0, .float .f32 db0, .float .f32 dc0, .float .f32 dx0, .float .f32 dy0, .float .f32 l0]]) (by simp [Act.eval]) (fun v w1 w2 hw hv => by simp only [show ¬ (17 = 22) by decide, if_false] at hv ⊢; exact hv) (fun w1 hw1 hbe => ?_) ?_
  · have hk := (hbe ⟨2, Ground.data⟩ (by simp) (by kernel_rfl)).2 rfl
    simp only [if_true] at hk
    obtain ⟨u', B', he, hr⟩ := hk
    obtain rfl : u0 = u' := by simpa using he
    refine (eqStringR _ _ _ _ x0 n0 k0 tk0 ta0 tb0 tc0 tx0 ty0 dk0 da0 db0 dc0 dx0 dy0 l0 _ hn0 (((F.drewN 1).le hw1).own (by first | exact m0 | exact m1 | exact m2 | exact m3 | exact m4 | exact m5 | exact m6 | exact m7 | exact m8)).rd hr).mono ?_
    rintro e w2 ⟨rfl, hl⟩
    exact ⟨_, rfl, hl, by simp only [show ¬ (17 = 22) by decide, if_false]⟩
  rintro v ⟨_, _, _, hv⟩
  simp only [show ¬ (17 = 22) by decide, if_false] at hv
  subst hv
  simp only [Act.put, List.setIfInBounds_toArray, List.set_cons_succ, List.set_cons_zero]
  refine wpFreeD_one rfl (.bool false) (fun w1 _ => by kernel_rfl) ?_
  simp only [Act.put, List.setIfInBounds_toArray, List.set_cons_succ, List.set_cons_zero]
  refine wpFreeD_nil (fun wR hwR _ => ?_)
  replace F := (F.drewN 1).le hwR
  clear hwR
  go_wp2_with (first | (((with_reducible refine listN F ?_); clear F; intro wN F)) | ((with_reducible refine at_loadU rfl rfl ?_); first | (with_reducible refine wpList_loadG F rfl rfl rfl (by first | exact m0 | exact m1 | exact m2 | exact m3 | exact m4 | exact m5 | exact m6 | exact m7 | exact m8) Try.underlying31 rfl infoStr (by first | rfl | simp [size_ftab]) ?_) | (with_reducible refine wpList_loadG F rfl rfl rfl (by first | exact m0 | exact m1 | exact m2 | exact m3 | exact m4 | exact m5 | exact m6 | exact m7 | exact m8) Try.underlying40 rfl infoStrL (by first | rfl | simp [size_ftab]) ?_)) | ((with_reducible refine at_loadV rfl rfl ?_); first | (with_reducible refine wpList_loadGG F rfl rfl (by first | exact m0 | exact m1 | exact m2 | exact m3 | exact m4 | exact m5 | exact m6 | exact m7 | exact m8) Try.underlying31 rfl infoStr (by first | rfl | simp [size_ftab]) (by kernel_rfl) ?_) | (with_reducible refine wpList_loadGG F rfl rfl (by first | exact m0 | exact m1 | exact m2 | exact m3 | exact m4 | exact m5 | exact m6 | exact m7 | exact m8) Try.underlying40 rfl infoStrL (by first | rfl | simp [size_ftab]) (by kernel_rfl) ?_)))
  first | ((with_reducible refine callAt0 F ?_); clear F; intro wN F) | ((with_reducible refine callAtN F ?_); clear F; intro wN F)
  refine (markStringR _ _ _ x0 n0 k0 tk0 ta0 tb0 tc0 tx0 ty0 dk0 da0 db0 dc0 dx0 dy0 l0 1 _ hn0 (by omega) (by omega) (F.own (by first | exact m0 | exact m1 | exact m2 | exact m3 | exact m4 | exact m5 | exact m6 | exact m7 | exact m8))).mono ?_
  rintro e w4 ⟨rfl, hR, hU⟩
  (first | replace F := F.mark0 hR hU | replace F := F.mark1 hR hU | replace F := F.mark2 hR hU | replace F := F.mark3 hR hU | replace F := F.mark4 hR hU | replace F := F.mark5 hR hU | replace F := F.mark6 hR hU | replace F := F.mark7 hR hU | replace F := F.mark8 hR hU | replace F := F.mark9 hR hU); clear hR hU
  go_wp2_with (first | (((with_reducible refine listN F ?_); clear F; intro wN F)) | ((with_reducible refine at_store rfl ?_); first | (refine wpList_storeG F rfl rfl rfl rfl rfl infoStr rfl (by first | exact one_head (Hid.out (by assumption)) rfl | (simp [Value.oneCell']; done)) ?_; clear F; intro W F zW; clear zW)) | ((with_reducible refine at_loadU rfl rfl ?_); first | (with_reducible refine wpList_loadG F rfl rfl rfl (by first | exact m0 | exact m1 | exact m2 | exact m3 | exact m4 | exact m5 | exact m6 | exact m7 | exact m8) Try.underlying31 rfl infoStr (by first | rfl | simp [size_ftab]) ?_) | (with_reducible refine wpList_loadG F rfl rfl rfl (by first | exact m0 | exact m1 | exact m2 | exact m3 | exact m4 | exact m5 | exact m6 | exact m7 | exact m8) Try.underlying40 rfl infoStrL (by first | rfl | simp [size_ftab]) ?_)) | ((with_reducible refine at_loadV rfl rfl ?_); first | (with_reducible refine wpList_loadGG F rfl rfl (by first | exact m0 | exact m1 | exact m2 | exact m3 | exact m4 | exact m5 | exact m6 | exact m7 | exact m8) Try.underlying31 rfl infoStr (by first | rfl | simp [size_ftab]) (by kernel_rfl) ?_) | (with_reducible refine wpList_loadGG F rfl rfl (by first | exact m0 | exact m1 | exact m2 | exact m3 | exact m4 | exact m5 | exact m6 | exact m7 | exact m8) Try.underlying40 rfl infoStrL (by first | rfl | simp [size_ftab]) (by kernel_rfl) ?_)) | (go_at_call 17; ((with_reducible refine (eqStringR _ _ _ _ xr0 nr0 kr0 tkr0 tar0 tbr0 tcr0 txr0 tyr0 dkr0 dar0 dbr0 dcr0 dxr0 dyr0 lr0 _ hr0 (by first | exact (F.own (by first | exact m0 | exact m1 | exact m2 | exact m3 | exact m4 | exact m5 | exact m6 | exact m7 | exact m8)).rd) (by first | exact (F.own (by first | exact m0 | exact m1 | exact m2 | exact m3 | exact m4 | exact m5 | exact m6 | exact m7 | exact m8)).rd)).mono ?_); rintro e w7 ⟨rfl, hb7⟩; (replace F := F.le hb7))))
  first | ((with_reducible refine callAt0 F ?_); clear F; intro wN F) | ((with_reducible refine callAtN F ?_); clear F; intro wN F)
  refine (markStringR _ _ _ xr0 nr0 kr0 tkr0 tar0 tbr0 tcr0 txr0 tyr0 dkr0 dar0 dbr0 dcr0 dxr0 dyr0 lr0 1 _ hr0 (by omega) (by omega) (F.own (by first | exact m0 | exact m1 | exact m2 | exact m3 | exact m4 | exact m5 | exact m6 | exact m7 | exact m8))).mono ?_
  rintro e w5 ⟨rfl, hR, hU⟩
  (first | replace F := F.mark0 hR hU | replace F := F.mark1 hR hU | replace F := F.mark2 hR hU | replace F := F.mark3 hR hU | replace F := F.mark4 hR hU | replace F := F.mark5 hR hU | replace F := F.mark6 hR hU | replace F := F.mark7 hR hU | replace F := F.mark8 hR hU | replace F := F.mark9 hR hU); clear hR hU
  go_wp2_with (first | (((with_reducible refine listN F ?_); clear F; intro wN F)) | ((with_reducible refine at_loadU rfl rfl ?_); first | (with_reducible refine wpList_loadG F rfl rfl rfl (by first | exact m0 | exact m1 | exact m2 | exact m3 | exact m4 | exact m5 | exact m6 | exact m7 | exact m8) Try.underlying31 rfl infoStr (by first | rfl | simp [size_ftab]) ?_) | (with_reducible refine wpList_loadG F rfl rfl rfl (by first | exact m0 | exact m1 | exact m2 | exact m3 | exact m4 | exact m5 | exact m6 | exact m7 | exact m8) Try.underlying40 rfl infoStrL (by first | rfl | simp [size_ftab]) ?_)) | ((with_reducible refine at_loadV rfl rfl ?_); first | (with_reducible refine wpList_loadGG F rfl rfl (by first | exact m0 | exact m1 | exact m2 | exact m3 | exact m4 | exact m5 | exact m6 | exact m7 | exact m8) Try.underlying31 rfl infoStr (by first | rfl | simp [size_ftab]) (by kernel_rfl) ?_) | (with_reducible refine wpList_loadGG F rfl rfl (by first | exact m0 | exact m1 | exact m2 | exact m3 | exact m4 | exact m5 | exact m6 | exact m7 | exact m8) Try.underlying40 rfl infoStrL (by first | rfl | simp [size_ftab]) (by kernel_rfl) ?_)) | (go_at_call 19; ((with_reducible refine (heldStringR _ _ nr0 kr0 tkr0 tar0 tbr0 tcr0 txr0 tyr0 dkr0 dar0 dbr0 dcr0 dxr0 dyr0 lr0 1 _ hr0 (by omega) (by omega) (F.own (by first | exact m0 | exact m1 | exact m2 | exact m3 | exact m4 | exact m5 | exact m6 | exact m7 | exact m8)).rd).mono ?_); rintro e w6 ⟨rfl, hb6⟩; (replace F := F.le hb6))) | (go_at_call 22; ((with_reducible refine (toStringR _ s0 x0 n0 k0 tk0 ta0 tb0 tc0 tx0 ty0 dk0 da0 db0 dc0 dx0 dy0 l0 _ (Z0.out.le (by first | exact F.below)) hn0).mono ?_); rintro e w1 ⟨tC0, rfl, ho1, hl1⟩; have oc := hid (OwnS.one ho1); (first | replace F := F.own1 hl1 ho1); clear hl1 ho1)))
  first | ((with_reducible refine callAt0 F ?_); clear F; intro wN F) | ((with_reducible refine callAtN F ?_); clear F; intro wN F)
  refine (HI.out _ _ _ (by first | exact (F.own (by first | exact m0 | exact m1 | exact m2 | exact m3 | exact m4 | exact m5 | exact m6 | exact m7 | exact m8)).rd)).mono ?_
  rintro e wH ⟨vH0, rfl, oH0, hlH⟩
  have oc := hid (OwnS.one oH0); (first | replace F := F.own1 hlH oH0); clear hlH oH0
  go_wp2_with (first | (((with_reducible refine listN F ?_); clear F; intro wN F)) | ((with_reducible refine at_store rfl ?_); first | (refine wpList_storeG F rfl rfl rfl rfl rfl infoStr rfl (by first | exact one_head (Hid.out (by assumption)) rfl | (simp [Value.oneCell']; done)) ?_; clear F; intro W F zW; clear zW)) | ((with_reducible refine at_loadU rfl rfl ?_); first | (with_reducible refine wpList_loadG F rfl rfl rfl (by first | exact m0 | exact m1 | exact m2 | exact m3 | exact m4 | exact m5 | exact m6 | exact m7 | exact m8) Try.underlying31 rfl infoStr (by first | rfl | simp [size_ftab]) ?_) | (with_reducible refine wpList_loadG F rfl rfl rfl (by first | exact m0 | exact m1 | exact m2 | exact m3 | exact m4 | exact m5 | exact m6 | exact m7 | exact m8) Try.underlying40 rfl infoStrL (by first | rfl | simp [size_ftab]) ?_)) | ((with_reducible refine at_loadV rfl rfl ?_); first | (with_reducible refine wpList_loadGG F rfl rfl (by first | exact m0 | exact m1 | exact m2 | exact m3 | exact m4 | exact m5 | exact m6 | exact m7 | exact m8) Try.underlying31 rfl infoStr (by first | rfl | simp [size_ftab]) (by kernel_rfl) ?_) | (with_reducible refine wpList_loadGG F rfl rfl (by first | exact m0 | exact m1 | exact m2 | exact m3 | exact m4 | exact m5 | exact m6 | exact m7 | exact m8) Try.underlying40 rfl infoStrL (by first | rfl | simp [size_ftab]) (by kernel_rfl) ?_)) | (go_at_call 17; ((with_reducible refine (eqStringR _ _ _ _ xr0 nr0 kr0 tkr0 tar0 tbr0 tcr0 txr0 tyr0 dkr0 dar0 dbr0 dcr0 dxr0 dyr0 lr0 _ hr0 (by first | exact (F.own (by first | exact m0 | exact m1 | exact m2 | exact m3 | exact m4 | exact m5 | exact m6 | exact m7 | exact m8)).rd) (by first | exact (F.own (by first | exact m0 | exact m1 | exact m2 | exact m3 | exact m4 | exact m5 | exact m6 | exact m7 | exact m8)).rd)).mono ?_); rintro e w7 ⟨rfl, hb7⟩; (replace F := F.le hb7))) | (go_at_call 19; ((with_reducible refine (heldStringR _ _ nr0 kr0 tkr0 tar0 tbr0 tcr0 txr0 tyr0 dkr0 dar0 dbr0 dcr0 dxr0 dyr0 lr0 1 _ hr0 (by omega) (by omega) (F.own (by first | exact m0 | exact m1 | exact m2 | exact m3 | exact m4 | exact m5 | exact m6 | exact m7 | exact m8)).rd).mono ?_); rintro e w6 ⟨rfl, hb6⟩; (replace F := F.le hb6))))
  go_ret
  first | exact ⟨rfl, F.below⟩ | exact ⟨rfl, below_drewN F.below _⟩
set_option maxRecDepth 100000 in
set_option maxHeartbeats 2000000 in
theorem large0 (s0 : Value) (x0 : Nat → Nat) (n0 : Nat) (k0 : Int) (tk0 : Int) (ta0 : Nat) (tb0 : Nat) (tc0 : Nat) (tx0 : Nat) (ty0 : Nat) (dk0 : Int) (da0 : Nat) (db0 : Nat) (dc0 : Nat) (dx0 : Nat) (dy0 : Nat) (l0 : Nat) (a1 : Nat) (a2 : Int) (w : World) (z0 : RdS w w.heap.size s0 x0 n0)  (hl : ¬ n0 ≤ 1048576) :
    Calls Try.prog 8 #[.agg #[s0, .int .i64 k0, .int .i64 tk0, .float .f32 ta0, .float .f32 tb0, .float .f32 tc0, .float .f32 tx0, .float .f32 ty0, .int .i64 dk0, .float .f32 da0, .float .f32 db0, .float .f32 dc0, .float .f32 dx0, .float .f32 dy0, .float .f32 l0], .float .f32 a1, .int .u32 a2] w fun e w' => e = .returned (.bool true) ∧ Below w.heap.size w w' := by
  have Z0 := hid z0; have hs0 := z0.small; clear z0
  have F := Frg.nil w
  replace F := F.box 40 (#[s0, .int .i64 k0, .int .i64 tk0, .float .f32 ta0, .float .f32 tb0, .float .f32 tc0, .float .f32 tx0, .float .f32 ty0, .int .i64 dk0, .float .f32 da0, .float .f32 db0, .float .f32 dc0, .float .f32 dx0, .float .f32 dy0, .float .f32 l0])
  go_enter Try.func8, Try.ntmps8
  go_wp2_with (first | (((with_reducible refine listN F ?_); clear F; intro wN F)) | ((with_reducible refine at_loadU rfl rfl ?_); first | (with_reducible refine wpList_loadG F rfl rfl rfl (by first | exact m0 | exact m1 | exact m2 | exact m3 | exact m4 | exact m5 | exact m6 | exact m7 | exact m8) Try.underlying31 rfl infoStr (by first | rfl | simp [size_ftab]) ?_) | (with_reducible refine wpList_loadG F rfl rfl rfl (by first | exact m0 | exact m1 | exact m2 | exact m3 | exact m4 | exact m5 | exact m6 | exact m7 | exact m8) Try.underlying40 rfl infoStrL (by first | rfl | simp [size_ftab]) ?_)) | ((with_reducible refine at_loadV rfl rfl ?_); first | (with_reducible refine wpList_loadGG F rfl rfl (by first | exact m0 | exact m1 | exact m2 | exact m3 | exact m4 | exact m5 | exact m6 | exact m7 | exact m8) Try.underlying31 rfl infoStr (by first | rfl | simp [size_ftab]) (by kernel_rfl) ?_) | (with_reducible refine wpList_loadGG F rfl rfl (by first | exact m0 | exact m1 | exact m2 | exact m3 | exact m4 | exact m5 | exact m6 | exact m7 | exact m8) Try.underlying40 rfl infoStrL (by first | rfl | simp [size_ftab]) (by kernel_rfl) ?_)) | (go_at_call 20; ((with_reducible refine (szStringRM_no _ s0 x0 n0 k0 tk0 ta0 tb0 tc0 tx0 ty0 dk0 da0 db0 dc0 dx0 dy0 l0 (1048576 : Int) _ (Z0.out.le (by first | exact F.below)) (by omega) (by omega) (by omega)).mono ?_); rintro e w1 ⟨rfl, hb1⟩; (replace F := F.le hb1))))
  go_ret
  first | exact ⟨rfl, F.below⟩ | exact ⟨rfl, below_drewN F.below _⟩
theorem walk (s0 : Value) (y0 : Nat → Nat) (n0 : Nat) (k0 : Int) (tk0 : Int) (ta0 : Nat) (tb0 : Nat) (tc0 : Nat) (tx0 : Nat) (ty0 : Nat) (dk0 : Int) (da0 : Nat) (db0 : Nat) (dc0 : Nat) (dx0 : Nat) (dy0 : Nat) (l0 : Nat) (a1 : Nat) (a2 : Int) (w : World) (w0 : (Lit.int .i64 k0).wf = true ∧ (Lit.int .i64 tk0).wf = true ∧ fits .f32 ta0 ∧ fits .f32 tb0 ∧ fits .f32 tc0 ∧ fits .f32 tx0 ∧ fits .f32 ty0 ∧ (Lit.int .i64 dk0).wf = true ∧ fits .f32 da0 ∧ fits .f32 db0 ∧ fits .f32 dc0 ∧ fits .f32 dx0 ∧ fits .f32 dy0 ∧ fits .f32 l0) (z0 : SlIn w s0 y0 n0) (w1 : fits .f32 a1) (w2 : (Lit.int .u32 a2).wf = true) :
    Calls Try.prog 8 #[.agg #[s0, .int .i64 k0, .int .i64 tk0, .float .f32 ta0, .float .f32 tb0, .float .f32 tc0, .float .f32 tx0, .float .f32 ty0, .int .i64 dk0, .float .f32 da0, .float .f32 db0, .float .f32 dc0, .float .f32 dx0, .float .f32 dy0, .float .f32 l0], .float .f32 a1, .int .u32 a2] w fun e w' => e = .returned (.bool true) ∧ Below w.heap.size w w' := by
  by_cases h0 : n0 ≤ 1048576
  · skip
    obtain ⟨xr0, nr0, kr0, tkr0, tar0, tbr0, tcr0, txr0, tyr0, dkr0, dar0, dbr0, dcr0, dxr0, dyr0, lr0, ar1, ar2, hr0, hS, hI⟩ := both_NoiseString (fun i => can .f32 (y0 i)) n0 k0 tk0 ta0 tb0 tc0 tx0 ty0 dk0 da0 db0 dc0 dx0 dy0 l0 a1 a2 w0 w1 w2
    exact core s0 (fun i => can .f32 (y0 i)) n0 k0 tk0 ta0 tb0 tc0 tx0 ty0 dk0 da0 db0 dc0 dx0 dy0 l0 a1 a2 xr0 nr0 kr0 tkr0 tar0 tbr0 tcr0 txr0 tyr0 dkr0 dar0 dbr0 dcr0 dxr0 dyr0 lr0 ar1 ar2 w z0.rd (by omega) hr0 hS hI
  · exact large0 s0 (fun i => can .f32 (y0 i)) n0 k0 tk0 ta0 tb0 tc0 tx0 ty0 dk0 da0 db0 dc0 dx0 dy0 l0 a1 a2 w z0.rd  h0
end Go.Proofs.Ytaenbpkcehenkac.fnExactNoiseString
