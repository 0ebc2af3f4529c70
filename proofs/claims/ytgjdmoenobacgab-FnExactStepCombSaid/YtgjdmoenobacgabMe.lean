/- Texts of the walk, laid in one file. -/
import Derived.Laws.StructEq
import Derived.IntWalk
import Derived.Test.YtgjdmoenobacgabMd
set_option linter.unusedVariables false
set_option linter.unusedSimpArgs false
/- Steps of filters: the plain functions; 'next' of each kind; 'step' of a runner; 'l02Step' of the model. -/
namespace Go.Fk
open Go Go.RowKit
/-- What a filter makes of a sample. -/
def outF (k : Int) (a b c x y s : Nat) : Nat :=
  if k = 1 ∨ k = 2 then fop .add .f32 (fop .mul .f32 a s) (fop .mul .f32 b x)
  else if k = 3 then fop .add .f32 (fop .mul .f32 a (fop .sub .f32 s y)) x
  else if k = 4 then fop .sub .f32 (fop .sub .f32 (fop .mul .f32 a s) (fop .mul .f32 b x)) (fop .mul .f32 c y)
  else fop .add .f32 (fop .sub .f32 s x) (fop .mul .f32 a y)
/-- The state behind it. -/
def st0 (k : Int) (a b c x y s : Nat) : Nat := if k = 1 ∨ k = 4 then kept (outF k a b c x y s) else kept s
def st1 (k : Int) (a b c x y s : Nat) : Nat := if k = 1 ∨ k = 2 then 0 else if k = 4 then kept x else kept (outF k a b c x y s)
theorem kept_zero : kept 0 = 0 := by decide
theorem can_outF (k : Int) (a b c x y s : Nat) : can .f32 (outF k a b c x y s) = outF k a b c x y s := by
  unfold outF; split; exact can_fop _ _ _ _; split; exact can_fop _ _ _ _; split <;> exact can_fop _ _ _ _
/-- What 'next' gives. -/
def OutN (k : Int) (a b c x y s : Nat) (w : World) (e : Ending) (w' : World) : Prop := ∃ r p q, e = .returned (.tuple #[.float .f32 r, .agg #[.float .f32 p, .float .f32 q]]) ∧ can .f32 r = outF k a b c x y s ∧ kept p = st0 k a b c x y s ∧ kept q = st1 k a b c x y s ∧ fits .f32 p ∧ fits .f32 q ∧ fits .f32 r ∧ le w w'
theorem fits_zero : fits .f32 0 := by simp [fits, Lit.wf]
theorem Row.store2 {W : World} {g : Nat} {t : TypeId} {o0 o1 v0 v1 : Value} (h : Row W g t #[o0, o1]) : Row ((W.setCell ⟨g, 0, none⟩ v0).setCell ⟨g, 1, none⟩ v1) g t #[v0, v1] := by
  have := (h.set 0 v0).set 1 v1
  simpa using this
/-- What a step gives: block g holds the new state. -/
def OutS (k : Int) (a b c x y s : Nat) (g : Nat) (t : TypeId) (cs : Nat → Nat → Array Value) (w : World) (e : Ending) (w' : World) : Prop := ∃ r, e = .returned (.float .f32 r) ∧ can .f32 r = outF k a b c x y s ∧ fits .f32 r ∧ Row w' g t (cs (st0 k a b c x y s) (st1 k a b c x y s)) ∧ Upd g w w'
end Go.Fk
namespace Go.Proofs.Ytgjdmoenobacgab
open Go.RowKit Go.Fk
end Go.Proofs.Ytgjdmoenobacgab

/- The model's step of a filter, kind by kind. -/
namespace Go.Proofs.Ytgjdmoenobacgab
open Go.RowKit Go.Fk
end Go.Proofs.Ytgjdmoenobacgab

/- 'StepFilter' of both. -/
namespace Go.Fk
open Go Go.RowKit
theorem zero_of_same {y : Nat} (h : sameB y 0 = true) : y = 0 := by
  have e : can .f32 y = can .f32 0 := by
    simp only [sameB, beq_iff_eq] at h
    exact_mod_cast h
  exact (eq_of_can e.symm (by decide)).symm
theorem okF_y {k : Int} {a b c x y : Nat} (h : okF k a b c x y = true) (hk : k = 1 ∨ k = 2) : y = 0 := by
  simp only [okF, Bool.and_eq_true] at h
  have h2 := h.2.2
  rw [show sU k = 1 by simp [sU, hk]] at h2
  simp only [usedB, List.all_eq_true, List.mem_range] at h2
  exact zero_of_same (h2 1 (by omega))
theorem part12 {v0 v1 v2 : Value} : ∀ j, j < [v1, v2].length → (#[v0, v1, v2] : Array Value)[1 + j]? = [v1, v2][j]? := by
  intro j hj
  match j, hj with
  | 0, _ => rfl
  | 1, _ => rfl
/-- What 'StepFilter' gives of a valid filter. -/
def OutSF (k : Int) (a b c x y s : Nat) (w : World) (e : Ending) (w' : World) : Prop := ∃ r, e = .returned (.tuple #[(.agg #[.int .i64 k, .float .f32 a, .float .f32 b, .float .f32 c, .float .f32 (st0 k a b c x y s), .float .f32 (st1 k a b c x y s)]), .float .f32 r, .int .i64 0]) ∧ can .f32 r = outF k a b c x y s ∧ le w w'
theorem fits_st0 {k : Int} {a b c x y s : Nat} (hs : fits .f32 s) (ho : fits .f32 (outF k a b c x y s)) : fits .f32 (st0 k a b c x y s) := by
  unfold st0; split; exact fits_kept ho; exact fits_kept hs
end Go.Fk
namespace Go.Proofs.Ytgjdmoenobacgab
open Go.RowKit Go.Fk
end Go.Proofs.Ytgjdmoenobacgab

/- Equality of arrays of floats. Nothing here names a program. -/
namespace Go.Fk
open Go Go.RowKit
theorem run_all_loop {P : Program} (w : World) (c : Nat → Bool) (g : Nat → Option Bool × Unit → Sem (ForInStep (Option Bool × Unit))) : ∀ (l : List Nat),
    (∀ i, i ∈ l → ∀ s, (g i s).run P w = .ok (if c i then ForInStep.yield (none, ()) else ForInStep.done (some false, ())) w) →
    (forIn l ((none, ()) : Option Bool × Unit) g).run P w = .ok (if l.all c then (none, ()) else (some false, ())) w := by
  intro l
  induction l with
  | nil => intro _; rfl
  | cons i l ih =>
    intro h
    rw [List.forIn_cons, Sem.run_bind, h i (by simp) (none, ()), Result.andThen_ok]
    cases hc : c i
    · simp [hc]
    · simp only [if_true, hc, List.all_cons, Bool.true_and]
      exact ih (fun j hj => h j (by simp [hj]))

theorem run_equalIn_farr {P : Program} (w : World) (d n : Nat) {t e : TypeId} {k : FloatKind} (x y : Nat → Nat) (h : P.underlying t = some (.array n e)) (he : P.underlying e = some (.float k)) (hs : (P.info? e).map (·.size) = some 1) :
    (Op.equalIn (d + 2) t (.agg (ftab k x n)) (.agg (ftab k y n))).run P w = .ok ((List.range n).all (fun j => k.format.order (x j) (y j) == some .eq)) w := by
  cases hq : P.info? e with
  | none => simp [hq] at hs
  | some i =>
    have hsz : i.size = 1 := by simpa [hq] using hs
    unfold Op.equalIn
    simp only [Sem.run_bind, run_underlying h, Result.andThen_ok, sizeOf, typeInfo, hq, hsz, Nat.mul_one, run_program, Sem.run_pure, Std.Legacy.Range.forIn_eq_forIn_range']
    have key := run_all_loop (P := P) w (fun j => k.format.order (x j) (y j) == some .eq) (fun i _ => (do
            let a ← part e (ftab k x n) i
            let b ← part e (ftab k y n) i
            let r ← Op.equalIn (d + 1) e a b
            if (!r) = true then pure (ForInStep.done (some false, ())) else pure (ForInStep.yield (none, ())) : Sem (ForInStep (Option Bool × Unit)))) (List.range' 0 n) (by
      intro j hj s
      have hjn : j < n := by simpa using hj
      have p1 : ∀ z : Nat → Nat, (part e (ftab k z n) j).run P w = .ok (.float k (z j)) w := by
        intro z
        simp [part, isAgg, run_underlying he, get_ftab k z n j hjn]
      have p2 : (Op.equalIn (d + 1) e (.float k (x j)) (.float k (y j))).run P w = .ok (k.format.order (x j) (y j) == some .eq) w := by
        simp [Op.equalIn, run_underlying he, Op.floatEq]
      simp only [Sem.run_bind, p1, p2, Result.andThen_ok]
      cases (k.format.order (x j) (y j) == some .eq) <;> simp)
    have hr : [:n].size = n := by simp [Std.Legacy.Range.size]
    rw [hr, key, Result.andThen_ok, List.range_eq_range']
    cases (List.range' 0 n).all (fun j => k.format.order (x j) (y j) == some .eq) <;> simp
/-- '==' on arrays of floats. -/
theorem run_eql_farr {P : Program} (w : World) (n : Nat) {t e : TypeId} {k : FloatKind} (x y : Nat → Nat) (h : P.underlying t = some (.array n e)) (he : P.underlying e = some (.float k)) (hs : (P.info? e).map (·.size) = some 1) :
    (binOp .eql t (.agg (ftab k x n)) (.agg (ftab k y n))).run P w = .ok (.bool ((List.range n).all (fun j => k.format.order (x j) (y j) == some .eq))) w := by
  rw [run_eql_struct, run_equalIn_farr w 9998 n x y h he hs]; rfl
end Go.Fk

/- Stillness: 'IsStill', 'StepsToStill' of both. -/
namespace Go.Fk
open Go Go.RowKit
def zeroF (x : Nat) : Bool := FloatKind.f32.format.order x 0 == some .eq
def stillB (x y : Nat) : Bool := zeroF x && zeroF y
theorem stillB_arr (x y : Nat) : (List.range 2).all (fun j => FloatKind.f32.format.order (duo x y j) 0 == some .eq) = stillB x y := by
  simp [stillB, zeroF, duo, List.range_succ]
end Go.Fk
namespace Go.Proofs.Ytgjdmoenobacgab
open Go.RowKit Go.Fk
end Go.Proofs.Ytgjdmoenobacgab

/- How states go on, plainly. Nothing here names a program. -/
namespace Go.Fk
open Go Go.RowKit
theorem fits_fop (op : BinOp) (k : FloatKind) (x y : Nat) : fits k (fop op k x y) := by
  unfold fop
  split
  · rename_i r h
    unfold can; split
    · cases k <;> simp [fits, Lit.wf, qnan]
    · exact floatBits_wf h
  · cases k <;> simp [fits, Lit.wf, qnan]
theorem fits_outF (k : Int) (a b c x y s : Nat) : fits .f32 (outF k a b c x y s) := by
  unfold outF; split; exact fits_fop _ _ _ _; split; exact fits_fop _ _ _ _; split <;> exact fits_fop _ _ _ _
theorem fits_st1 {k : Int} {a b c x y s : Nat} (hx : fits .f32 x) : fits .f32 (st1 k a b c x y s) := by
  unfold st1; split; exact fits_zero; split; exact fits_kept hx; exact fits_kept (fits_outF _ _ _ _ _ _ _)
theorem fin_kept (v : Nat) : fin (kept v) = true := by
  unfold kept; split
  · rename_i h
    unfold flush; split
    · decide
    · exact h
  · decide
theorem usedB_three {a b c u : Nat} : usedB (tri a b c) 3 u = ((if 0 < u then fin a else sameB a 0) && (if 1 < u then fin b else sameB b 0) && (if 2 < u then fin c else sameB c 0)) := by
  simp [usedB, tri, List.range_succ, Bool.and_assoc]
theorem usedB_two {x y u : Nat} : usedB (duo x y) 2 u = ((if 0 < u then fin x else sameB x 0) && (if 1 < u then fin y else sameB y 0)) := by
  simp [usedB, duo, List.range_succ]
theorem same00 : sameB 0 0 = true := by decide
theorem okF_step {k : Int} {a b c x y s : Nat} (h : okF k a b c x y = true) : okF k a b c (st0 k a b c x y s) (st1 k a b c x y s) = true := by
  simp only [okF, Bool.and_eq_true] at h ⊢
  refine ⟨h.1, h.2.1, ?_⟩
  rw [usedB_two]
  have h0 : fin (st0 k a b c x y s) = true := by unfold st0; split <;> exact fin_kept _
  by_cases hk : k = 1 ∨ k = 2
  · have : sU k = 1 := by simp [sU, hk]
    have h1 : st1 k a b c x y s = 0 := by simp [st1, hk]
    rw [this, h1, h0]; simp [same00]
  · have : sU k = 2 := by simp [sU, hk]
    have h1 : fin (st1 k a b c x y s) = true := by unfold st1; rw [if_neg hk]; split <;> exact fin_kept _
    rw [this, h0, h1]; simp
/-- The states of a filter that gets zeros. -/
def stN (k : Int) (a b c x y : Nat) : Nat → Nat × Nat
  | 0 => (x, y)
  | n + 1 => (st0 k a b c (stN k a b c x y n).1 (stN k a b c x y n).2 0, st1 k a b c (stN k a b c x y n).1 (stN k a b c x y n).2 0)
theorem okF_stN {k : Int} {a b c x y : Nat} (h : okF k a b c x y = true) (n : Nat) : okF k a b c (stN k a b c x y n).1 (stN k a b c x y n).2 = true := by
  induction n with
  | zero => exact h
  | succ n ih => exact okF_step ih
theorem fits_stN {k : Int} {a b c x y : Nat} (hx : fits .f32 x) (hy : fits .f32 y) (n : Nat) : fits .f32 (stN k a b c x y n).1 ∧ fits .f32 (stN k a b c x y n).2 := by
  induction n with
  | zero => exact ⟨hx, hy⟩
  | succ n ih => exact ⟨fits_st0 fits_zero (fits_outF _ _ _ _ _ _ _), fits_st1 ih.1⟩
def stillN (k : Int) (a b c x y n : Nat) : Bool := stillB (stN k a b c x y n).1 (stN k a b c x y n).2
/-- What 'StepsToStill' gives. -/
def ResST (k : Int) (a b c x y K : Nat) (n code : Int) : Prop :=
  (code = 0 ∧ ∃ m : Nat, n = m ∧ m ≤ K ∧ stillN k a b c x y m = true ∧ ∀ i, i < m → stillN k a b c x y i = false) ∨ (code = 7 ∧ n = 0 ∧ ∀ i, i ≤ K → stillN k a b c x y i = false)
theorem ResST.one {k : Int} {a b c x y K : Nat} {n d n' d' : Int} (h : ResST k a b c x y K n d) (h' : ResST k a b c x y K n' d') : n = n' ∧ d = d' := by
  rcases h with ⟨rfl, m, rfl, h1, h2, h3⟩ | ⟨rfl, rfl, h1⟩ <;> rcases h' with ⟨rfl, m', rfl, h1', h2', h3'⟩ | ⟨rfl, rfl, h1'⟩
  · rcases Nat.lt_trichotomy m m' with h | h | h
    · rw [h3' m h] at h2; cases h2
    · subst h; exact ⟨rfl, rfl⟩
    · rw [h3 m' h] at h2'; cases h2'
  · rw [h1' m h1] at h2; cases h2
  · rw [h1 m' h1'] at h2'; cases h2'
  · exact ⟨rfl, rfl⟩
def OutST (k : Int) (a b c x y K : Nat) (w : World) (e : Ending) (w' : World) : Prop := ∃ n d, e = .returned (.tuple #[.int .i64 n, .int .i64 d]) ∧ ResST k a b c x y K n d ∧ le w w'
end Go.Fk

/- Strings, plainly: what they are, and their steps. Nothing here names a program. -/
namespace Go.Fk
open Go Go.RowKit
/-- A string: its samples, how many, the place of the oldest one, and the numbers of its filters. -/
structure StS where
  x : Nat → Nat
  n : Nat
  j : Nat
  ta : Nat
  tb : Nat
  tc : Nat
  tx : Nat
  ty : Nat
  da : Nat
  db : Nat
  dc : Nat
  dx : Nat
  dy : Nat
  l : Nat
/-- It is valid. -/
structure StS.Ok (q : StS) : Prop where
  n1 : 1 ≤ q.n
  n2 : q.n ≤ 1024
  j1 : q.j < q.n
  t : okF 3 q.ta q.tb q.tc q.tx q.ty = true
  d : okF 2 q.da q.db q.dc q.dx q.dy = true
  lf : fin q.l = true
  fta : fits .f32 q.ta
  ftb : fits .f32 q.tb
  ftc : fits .f32 q.tc
  ftx : fits .f32 q.tx
  fty : fits .f32 q.ty
  fda : fits .f32 q.da
  fdb : fits .f32 q.db
  fdc : fits .f32 q.dc
  fdx : fits .f32 q.dx
  fdy : fits .f32 q.dy
  fl : fits .f32 q.l
theorem outF_can (k : Int) (a b c x y s : Nat) : outF k a b c x y (can .f32 s) = outF k a b c x y s := by
  unfold outF
  split
  · rw [fop_can_r]
  · split
    · rw [fop_can_l]
    · split
      · rw [fop_can_r]
      · rw [fop_can_l]
theorem kept_of_can (a : Nat) : kept (can .f32 a) = kept a := kept_can (can_can _ _)
theorem st0_can (k : Int) (a b c x y s : Nat) : st0 k a b c x y (can .f32 s) = st0 k a b c x y s := by unfold st0; rw [outF_can, kept_of_can]
theorem st1_can (k : Int) (a b c x y s : Nat) : st1 k a b c x y (can .f32 s) = st1 k a b c x y s := by unfold st1; rw [outF_can]
theorem outF_congr {k : Int} {a b c x y s s' : Nat} (h : can .f32 s = can .f32 s') : outF k a b c x y s = outF k a b c x y s' := by rw [← outF_can, h, outF_can]
theorem st0_congr {k : Int} {a b c x y s s' : Nat} (h : can .f32 s = can .f32 s') : st0 k a b c x y s = st0 k a b c x y s' := by rw [← st0_can, h, st0_can]
theorem st1_congr {k : Int} {a b c x y s s' : Nat} (h : can .f32 s = can .f32 s') : st1 k a b c x y s = st1 k a b c x y s' := by rw [← st1_can, h, st1_can]
/-- What the filters of a string make of its oldest sample. -/
def y1S (q : StS) : Nat := outF 3 q.ta q.tb q.tc q.tx q.ty (q.x q.j)
def y2S (q : StS) : Nat := outF 2 q.da q.db q.dc q.dx q.dy (y1S q)
/-- The sample that comes in. -/
def nextS (q : StS) (a : Nat) : Nat := kept (fop .add .f32 (fop .mul .f32 (y2S q) q.l) a)
/-- The string behind a step. -/
def stepS (q : StS) (a : Nat) : StS :=
  { q with x := pushX q.x q.j (nextS q a), j := (q.j + 1) % q.n, tx := st0 3 q.ta q.tb q.tc q.tx q.ty (q.x q.j), ty := st1 3 q.ta q.tb q.tc q.tx q.ty (q.x q.j), dx := st0 2 q.da q.db q.dc q.dx q.dy (y1S q), dy := st1 2 q.da q.db q.dc q.dx q.dy (y1S q) }
theorem kept_fop_can (op : BinOp) (x y : Nat) : kept (fop op .f32 x (can .f32 y)) = kept (fop op .f32 x y) := by rw [fop_can_r]
theorem nextS_can (q : StS) (a : Nat) : nextS q (can .f32 a) = nextS q a := by unfold nextS; rw [fop_can_r]
theorem fits_can {a : Nat} (h : fits .f32 a) : fits .f32 (can .f32 a) := by
  unfold can; split
  · simp [fits, Lit.wf, qnan]
  · exact h
theorem fits_nextS (q : StS) (a : Nat) : fits .f32 (nextS q a) := fits_kept (fits_fop _ _ _ _)
theorem StS.Ok.step {q : StS} (h : q.Ok) (a : Nat) (hf : fits .f32 (q.x q.j)) : (stepS q a).Ok where
  n1 := h.n1
  n2 := h.n2
  j1 := Nat.mod_lt _ h.n1
  t := okF_step h.t
  d := okF_step h.d
  lf := h.lf
  fta := h.fta
  ftb := h.ftb
  ftc := h.ftc
  ftx := show fits .f32 (st0 3 q.ta q.tb q.tc q.tx q.ty (q.x q.j)) from fits_st0 hf (fits_outF _ _ _ _ _ _ _)
  fty := show fits .f32 (st1 3 q.ta q.tb q.tc q.tx q.ty (q.x q.j)) from fits_st1 h.ftx
  fda := h.fda
  fdb := h.fdb
  fdc := h.fdc
  fdx := show fits .f32 (st0 2 q.da q.db q.dc q.dx q.dy (y1S q)) from fits_st0 (fits_outF _ _ _ _ _ _ _) (fits_outF _ _ _ _ _ _ _)
  fdy := show fits .f32 (st1 2 q.da q.db q.dc q.dx q.dy (y1S q)) from fits_st1 h.fdx
  fl := h.fl
/-- Is a sample heard? -/
def loudB (a : Nat) : Nat := if zeroF a = true then 0 else 1
theorem zeroF_can (a : Nat) : zeroF (can .f32 a) = zeroF a := by unfold zeroF; rw [order_can_l]
theorem loudB_can (a : Nat) : loudB (can .f32 a) = loudB a := by unfold loudB; rw [zeroF_can]
/-- How many of the first samples are heard. -/
def loudN (x : Nat → Nat) : Nat → Nat
  | 0 => 0
  | n + 1 => loudN x n + loudB (x n)
theorem loudN_congr {x y : Nat → Nat} {n : Nat} (h : ∀ i, i < n → x i = y i) : loudN x n = loudN y n := by
  induction n with
  | zero => rfl
  | succ n ih => simp only [loudN]; rw [ih (fun i hi => h i (by omega)), h n (by omega)]
theorem loudN_push {x : Nat → Nat} {n j a : Nat} (hj : j < n) : loudN (pushX x j a) n + loudB (x j) = loudN x n + loudB a := by
  induction n with
  | zero => omega
  | succ n ih =>
    simp only [loudN]
    by_cases e : j = n
    · subst e
      rw [loudN_congr (y := x) (fun i hi => by simp [pushX, show i ≠ j by omega])]
      simp [pushX, loudB_can]; omega
    · have := ih (by omega)
      have e2 : pushX x j a n = x n := by simp [pushX, show n ≠ j by omega]
      rw [e2]; omega
theorem loudN_le (x : Nat → Nat) (n : Nat) : loudN x n ≤ n := by
  induction n with
  | zero => exact Nat.le_refl _
  | succ n ih => simp only [loudN]; have : loudB (x n) ≤ 1 := by unfold loudB; split <;> omega
                 omega
theorem loudN_zero {x : Nat → Nat} {n : Nat} : loudN x n = 0 ↔ ∀ i, i < n → zeroF (x i) = true := by
  induction n with
  | zero => simp [loudN]
  | succ n ih =>
    simp only [loudN]
    constructor
    · intro h i hi
      rcases Nat.lt_or_ge i n with h1 | h1
      · exact ih.1 (by omega) i h1
      · obtain rfl : i = n := by omega
        have : loudB (x i) = 0 := by omega
        unfold loudB at this
        split at this
        · assumption
        · omega
    · intro h
      have h1 := ih.2 (fun i hi => h i (by omega))
      have h2 : loudB (x n) = 0 := by unfold loudB; rw [if_pos (h n (by omega))]
      omega
/-- Is a string silent? -/
def silS (q : StS) : Bool := decide (loudN q.x q.n = 0) && (stillB q.tx q.ty && stillB q.dx q.dy)
end Go.Fk

/- Delays: '(*delay).come', 'newDelay'. -/
namespace Go.Fk
open Go Go.RowKit
/-- A ring's samples behind a further one that is kept. -/
def comeX (x : Nat → Nat) (j a : Nat) : Nat → Nat := pushX x j (kept a)
theorem loud_int {x : Nat → Nat} {n j a : Nat} (hj : j < n) : ((loudN x n : Nat) : Int) + (((loudB (kept a) : Nat) : Int) - ((loudB (x j) : Nat) : Int)) = ((loudN (comeX x j a) n : Nat) : Int) := by
  have := loudN_push (x := x) (a := kept a) hj
  unfold comeX; omega
theorem own_form {w : World} {lo hi : Nat} {s : Value} {x : Nat → Nat} {n : Nat} (h : OwnS w lo hi s x n) (hn : 1 ≤ n) : ∃ b o cap, s = .slice (some ⟨b, o, none⟩) n cap ∧ n ≤ cap ∧ cap ≤ maxLen := by
  rcases h with ⟨_, h⟩ | ⟨b, o, cap, cs, h1, h2, h3, _⟩
  · omega
  · exact ⟨b, o, cap, h1, h2, h3⟩
theorem loudB_le (a : Nat) : loudB a ≤ 1 := by unfold loudB; split <;> omega
theorem loudB_congr {a b : Nat} (h : can .f32 a = can .f32 b) : loudB a = loudB b := by rw [← loudB_can a, h, loudB_can]
end Go.Fk
namespace Go.Proofs.Ytgjdmoenobacgab
open Go.RowKit Go.Fk
theorem i_loudness (x : Nat) (w : World) : Calls Try.prog 152 #[.float .f32 x] w fun e w' => e = .returned (.int .i64 (loudB x : Nat)) ∧ w = w' := by
  cases h : zeroF x
  · have HZ : Hid (loudB x = 1) := by unfold Hid loudB; rw [if_neg (by rw [h]; decide)]
    unfold zeroF at h
    have h2 : (FloatKind.f32.format.order x 0 != some .eq) = !(FloatKind.f32.format.order x 0 == some .eq) := rfl
    rw [h] at h2
    replace h2 := h2.trans (show _ = true from rfl)
    go_enter Try.func152, Try.ntmps152
    go_wp2
    go_ret
    exact ⟨by rw [HZ.out]; rfl, rfl⟩
  · have HZ : Hid (loudB x = 0) := by unfold Hid loudB; rw [if_pos h]
    unfold zeroF at h
    have h2 : (FloatKind.f32.format.order x 0 != some .eq) = !(FloatKind.f32.format.order x 0 == some .eq) := rfl
    rw [h] at h2
    replace h2 := h2.trans (show _ = false from rfl)
    go_enter Try.func152, Try.ntmps152
    go_wp2
    go_ret
    exact ⟨by rw [HZ.out]; rfl, rfl⟩
def loudK (_ : FuncId) (args : Array Value) (v : Value) : Prop := ∃ p, args = #[.float .f32 p] ∧ v = .int .i64 (loudB p : Nat)
theorem loudK_v {f : FuncId} {p : Nat} {v : Value} (h : loudK f #[.float .f32 p] v) : v = .int .i64 (loudB p : Nat) := by
  obtain ⟨p', h, rfl⟩ := h
  simp at h
  subst h
  rfl
theorem loud_call {p N : Nat} {w : World} : Calls Try.prog 152 #[.float .f32 p] (w.drewN N) fun e w'' => ∃ u, e = .returned u ∧ loudK 152 #[.float .f32 p] u ∧ ∃ m, w'' = w.drewN m :=
  (i_loudness p (w.drewN N)).mono fun _ _ ⟨he, hw⟩ => ⟨_, he, ⟨p, rfl, rfl⟩, N, hw.symm⟩
theorem kindN : ∀ w : World, (isAgg 3).run Try.prog w = .ok false w := fun w => by kernel_rfl
set_option maxRecDepth 100000 in
set_option maxHeartbeats 4000000 in
theorem i_come (lo hi : Nat) (s : Value) (x : Nat → Nat) (n j a g f : Nat) (t : TypeId) (cs : Array Value) (w : World) (hs : OwnS w lo hi s x n) (hr : Row w g t cs) (e0 : cs[f]? = some s) (e1 : cs[f + 1]? = some (.int .i64 j)) (e2 : cs[f + 2]? = some (.int .i64 (loudN x n : Nat))) (hg : ¬ (lo ≤ g ∧ g < hi)) (hj : j < n) (hn : n ≤ 1024) (ha : fits .f32 a) :
    Calls Try.prog 136 #[.pointer (some ⟨g, f, none⟩), .float .f32 a] w fun e w' => (∃ v, e = .returned v) ∧ Row w' g t ((cs.setIfInBounds (f + 1) (.int .i64 (((j + 1) % n : Nat) : Int))).setIfInBounds (f + 2) (.int .i64 (loudN (comeX x j a) n : Nat))) ∧ OwnS w' lo hi s (comeX x j a) n ∧ Chg (fun i => i = g ∨ lo ≤ i ∧ i < hi) w w' := by
  have hlow : ∀ w w' : World, le w w' → (Row w g t cs ∧ OwnS w lo hi s x n) → (Row w' g t cs ∧ OwnS w' lo hi s x n) := fun w w' h e => ⟨e.1.le h, e.2.le h⟩
  have hlow2 : ∀ w w' : World, le w w' → (Row w g t (cs.setIfInBounds (f + 1) (.int .i64 (((j + 1) % n : Nat) : Int))) ∧ OwnS w lo hi s (comeX x j a) n) → (Row w' g t (cs.setIfInBounds (f + 1) (.int .i64 (((j + 1) % n : Nat) : Int))) ∧ OwnS w' lo hi s (comeX x j a) n) := fun w w' h e => ⟨e.1.le h, e.2.le h⟩
  have HK := hid (fun w' => i_kept a w' ha)
  have HP := hid (fun (w' : World) (hl : le w w') => i_push lo hi s x n j (kept a) g f t cs w' (hs.le hl) (hr.le hl) e0 e1 hg hj hn (fits_kept ha))
  have HPRE := hid (And.intro hr hs)
  have h2 : ∀ w' : World, (Row w' g t cs ∧ OwnS w' lo hi s x n) ∨ (Row w' g t (cs.setIfInBounds (f + 1) (.int .i64 (((j + 1) % n : Nat) : Int))) ∧ OwnS w' lo hi s (comeX x j a) n) → w'.cell? ⟨g, f + 2, none⟩ = some (.int .i64 (loudN x n : Nat)) := fun w' h => by
    rcases h with h | h
    · exact (h.1.cell? (f + 2)).trans e2
    · exact (h.1.cell? (f + 2)).trans (by rw [Array.getElem?_setIfInBounds_ne (by omega)]; exact e2)
  have H2 := hid h2
  obtain ⟨y0, hy0⟩ : ∃ y, fits .f32 y ∧ can .f32 y = x j := by
    rcases hs with ⟨_, h⟩ | ⟨b, o, cap, ds, _, _, _, _, _, _, hx⟩
    · omega
    · obtain ⟨y, _, f1, c1⟩ := hx j hj; exact ⟨y, f1, c1⟩
  have HY0 := hid hy0
  have l1 : loudN x n ≤ 1024 := Nat.le_trans (loudN_le _ _) hn
  have l2 := loudB_le (kept a)
  have l3 := loudB_le (x j)
  have LI := hid (loud_int (x := x) (a := a) hj)
  clear hr hs e0 e1 e2 h2 hy0
  go_enter Try.func136, Try.ntmps136
  go_wp2_with (go_at_call 153; ((with_reducible refine (HK.out _).mono ?_); rintro e w1 ⟨rfl, rfl⟩))
  refine region_tailP (E0 := leX) (E1 := altE (fun i => i = g ∨ lo ≤ i ∧ i < hi) _ _ hlow hlow2) (c := 10) (Vc := fun wa v => ∃ o, v = .float .f32 o ∧ can .f32 o = x j ∧ fits .f32 o ∧ Row wa g t (cs.setIfInBounds (f + 1) (.int .i64 (((j + 1) % n : Nat) : Int))) ∧ OwnS wa lo hi s (comeX x j a) n) (fun _ _ h => (altE _ _ _ hlow hlow2).of_le h) (fun _ args wa v => (∀ o, args = #[.float .f32 o] → v = .int .i64 (loudB o : Nat)) ∧ (args.size = 2 → ∃ o, v = .float .f32 o ∧ can .f32 o = x j ∧ fits .f32 o ∧ Row wa g t (cs.setIfInBounds (f + 1) (.int .i64 (((j + 1) % n : Nat) : Int))) ∧ OwnS wa lo hi s (comeX x j a) n)) 16 (fun wa hwa => ?_) (by kernel_rfl) (by kernel_rfl) ?_
  · rcases hwa.2.2 (.inl (hlow _ _ (le_drewN w 1) HPRE.out)) with h | h
    · obtain ⟨h3, h4⟩ := h
      have hp := i_push lo hi s x n j (kept a) g f t cs wa h4 h3
      rcases h4 with ⟨_, h0⟩ | ⟨b, o, cap, ds, rfl, hc, hm, hb, hb', hrow, hx⟩
      · omega
      have hjs : o + j < ds.size := by obtain ⟨y, e, _⟩ := hx j hj; exact (Array.getElem?_eq_some_iff.1 e).1
      have hne : b ≠ g := fun e => hg (e ▸ ⟨hb, hb'⟩)
      refine ⟨.float .f32 y0, (wa.setCell ⟨b, o + j, none⟩ (.float .f32 (kept a))).setCell ⟨g, f + 1, none⟩ (.int .i64 (((j + 1) % n : Nat) : Int)), ?_, y0, rfl, HY0.out.2, HY0.out.1, (h3.other _ _ (by simp; omega)).set _ _, own_set j (kept a) ((hrow.set _ _).other _ _ (by simp; exact hne)) hc hm hb hb' hjs (fits_kept ha) hx⟩
      have hpost : Row ((wa.setCell ⟨b, o + j, none⟩ (.float .f32 (kept a))).setCell ⟨g, f + 1, none⟩ (.int .i64 (((j + 1) % n : Nat) : Int))) g t (cs.setIfInBounds (f + 1) (.int .i64 (((j + 1) % n : Nat) : Int))) ∧ OwnS ((wa.setCell ⟨b, o + j, none⟩ (.float .f32 (kept a))).setCell ⟨g, f + 1, none⟩ (.int .i64 (((j + 1) % n : Nat) : Int))) lo hi (.slice (some ⟨b, o, none⟩) n cap) (comeX x j a) n := ⟨(h3.other _ _ (by simp; omega)).set _ _, own_set j (kept a) ((hrow.set _ _).other _ _ (by simp; exact hne)) hc hm hb hb' hjs (fits_kept ha) hx⟩
      exact ⟨(Chg.setCell (S := fun i => i = g ∨ lo ≤ i ∧ i < hi) (Chg.refl _ wa) (.inr ⟨hb, hb'⟩) _).setCell (.inl rfl) _, fun _ => hpost, fun _ => .inr hpost⟩
    · exact ⟨.float .f32 y0, wa, (altE _ _ _ hlow hlow2).refl wa, y0, rfl, HY0.out.2, HY0.out.1, h.1, h.2⟩
  simp only [List.take_succ_cons, List.take_zero, List.drop_succ_cons, List.drop_zero]
  refine wpFreeP_one (by decide) rfl (.pointer (some ⟨g, f, none⟩)) (fun w1 _ => by kernel_rfl) ?_
  simp only [Act.put, List.setIfInBounds_toArray, List.set_cons_succ, List.set_cons_zero]
  refine wpFreeP_one (by decide) rfl (.pointer (some ⟨g, f, none⟩)) (fun w1 _ => by kernel_rfl) ?_
  simp only [Act.put, List.setIfInBounds_toArray, List.set_cons_succ, List.set_cons_zero]
  refine wpFreeP_one (by decide) rfl (.pointer (some ⟨g, f + 2, none⟩)) (fun w1 _ => by kernel_rfl) ?_
  simp only [Act.put, List.setIfInBounds_toArray, List.set_cons_succ, List.set_cons_zero]
  refine wpFreeP_cellA (by decide) rfl rfl rfl (fun w1 h1 => H2.out w1 (h1.2.2 (.inl (hlow _ _ (le_drewN w 1) HPRE.out)))) kindN ?_
  simp only [Act.put, List.setIfInBounds_toArray, List.set_cons_succ, List.set_cons_zero]
  refine wpFreeP_one (by decide) rfl (.float .f32 (kept a)) (fun w1 _ => by kernel_rfl) ?_
  simp only [Act.put, List.setIfInBounds_toArray, List.set_cons_succ, List.set_cons_zero]
  refine wpFreeP_callQ (by decide) rfl rfl Try.func152 (by kernel_rfl) (by kernel_rfl) (args := #[.float .f32 (kept a)]) (by simp [Act.eval]) (· = .int .i64 (loudB (kept a) : Nat)) (fun w1 h1 => (i_loudness (kept a) w1).mono ?_) (fun w1 v h => h.1 _ rfl) ?_
  · rintro e w2 ⟨rfl, rfl⟩
    exact ⟨_, rfl, le_refl _, ⟨fun o ho => by simp at ho; rw [ho], fun h => by simp at h⟩, rfl⟩
  rintro v rfl
  simp only [Act.put, List.setIfInBounds_toArray, List.set_cons_succ, List.set_cons_zero]
  refine wpFreeP_one (by decide) rfl (.pointer (some ⟨g, f, none⟩)) (fun w1 _ => by kernel_rfl) ?_
  simp only [Act.put, List.setIfInBounds_toArray, List.set_cons_succ, List.set_cons_zero]
  refine wpFreeP_one (by decide) rfl (.pointer (some ⟨g, f, none⟩)) (fun w1 _ => by kernel_rfl) ?_
  simp only [Act.put, List.setIfInBounds_toArray, List.set_cons_succ, List.set_cons_zero]
  refine wpFreeP_one (by decide) rfl (.pointer (some ⟨g, f, none⟩)) (fun w1 _ => by kernel_rfl) ?_
  simp only [Act.put, List.setIfInBounds_toArray, List.set_cons_succ, List.set_cons_zero]
  refine wpFreeP_one (by decide) rfl (.float .f32 (kept a)) (fun w1 _ => by kernel_rfl) ?_
  simp only [Act.put, List.setIfInBounds_toArray, List.set_cons_succ, List.set_cons_zero]
  refine wpFreeP_callC rfl rfl rfl Try.func154 (by kernel_rfl) (by kernel_rfl) (args := #[.pointer (some ⟨g, f, none⟩), .float .f32 (kept a)]) (by simp [Act.eval]) (fun v wa wb hw hv => by obtain ⟨o, h1, h2, h3, h4, h5⟩ := hv; exact ⟨o, h1, h2, h3, hw.2.1 ⟨h4, h5⟩⟩) (fun w1 h1 => (HP.out w1 (le_trans (le_drewN w 1) h1)).mono ?_) (fun w1 v h => h.2 rfl) ?_
  · rintro e w2 ⟨o, rfl, ho, fo, hR, hO, hC⟩
    exact ⟨_, rfl, ⟨hC, fun _ => ⟨hR, hO⟩, fun _ => .inr ⟨hR, hO⟩⟩, fun o2 h => by simp at h, fun _ => ⟨o, rfl, ho, fo, hR, hO⟩⟩
  rintro v ⟨_, _, o, rfl, ho, fo, _⟩
  have HO := hid ho; clear ho
  simp only [Act.put, List.setIfInBounds_toArray, List.set_cons_succ, List.set_cons_zero]
  refine wpFreeP_callQ (by decide) rfl rfl Try.func152 (by kernel_rfl) (by kernel_rfl) (args := #[.float .f32 o]) (by simp [Act.eval]) (· = .int .i64 (loudB o : Nat)) (fun w1 h1 => (i_loudness o w1).mono ?_) (fun w1 v h => h.1 _ rfl) ?_
  · rintro e w2 ⟨rfl, rfl⟩
    exact ⟨_, rfl, le_refl _, ⟨fun o ho => by simp at ho; rw [ho], fun h => by simp at h⟩, rfl⟩
  rintro v rfl
  simp only [Act.put, List.setIfInBounds_toArray, List.set_cons_succ, List.set_cons_zero]
  have hlo : loudB o = loudB (x j) := by rw [← loudB_can o, HO.out]
  rw [hlo]
  refine wpFreeP_one (by decide) rfl (.int .i64 (((loudB (kept a) : Nat) : Int) - ((loudB (x j) : Nat) : Int))) (fun w1 _ => ?_) ?_
  · go_simp
    exact IntWalk.i64_in _ (by omega)
  simp only [Act.put, List.setIfInBounds_toArray, List.set_cons_succ, List.set_cons_zero]
  refine wpFreeP_one (by decide) rfl (.int .i64 (((loudN x n : Nat) : Int) + (((loudB (kept a) : Nat) : Int) - ((loudB (x j) : Nat) : Int)))) (fun w1 _ => ?_) ?_
  · go_simp
    exact IntWalk.i64_in _ (by omega)
  simp only [Act.put, List.setIfInBounds_toArray, List.set_cons_succ, List.set_cons_zero]
  refine wpFreeP_one (by decide) rfl (.pointer (some ⟨g, f, none⟩)) (fun w1 _ => by kernel_rfl) ?_
  simp only [Act.put, List.setIfInBounds_toArray, List.set_cons_succ, List.set_cons_zero]
  refine wpFreeP_one (by decide) rfl (.pointer (some ⟨g, f + 2, none⟩)) (fun w1 _ => by kernel_rfl) ?_
  simp only [Act.put, List.setIfInBounds_toArray, List.set_cons_succ, List.set_cons_zero]
  rw [LI.out]
  refine wpFreeP_nil (fun wR hwR hF => ?_)
  obtain ⟨o', _, _, _, hRR, hRO⟩ := (hF 10).1.1.1.1.1.2 rfl
  have C0 := hid ((Chg.of_le (le_drewN w 1)).trans hwR.1)
  have RR := hid hRR; have RO := hid hRO
  have fz := hRR.frozen (f + 2)
  have cz : wR.cell? ⟨g, f + 2, none⟩ = some (.int .i64 (loudN x n : Nat)) := H2.out wR (.inr ⟨hRR, hRO⟩)
  clear hF hwR hRR hRO
  go_wp2
  go_end0
  refine ⟨⟨_, rfl⟩, RR.out.set _ _, RO.out.chgS (S := fun i => i = g) (Chg.setCell (S := fun i => i = g) (a := ⟨g, f + 2, none⟩) (Chg.refl _ wR) rfl _) (fun i h1 h2 e => by have e' : i = g := e; subst e'; exact hg ⟨h1, h2⟩), C0.out.setCell (.inl rfl) _⟩
theorem infoDelay : (Try.prog.info? 106).map (·.size) = some 3 := by kernel_rfl
set_option maxRecDepth 100000 in
set_option maxHeartbeats 4000000 in
theorem i_newDelay (B : Nat) (s : Value) (x : Nat → Nat) (n : Nat) (k : Int) (w : World) (hs : RdS w B s x n) (h1 : 1 ≤ n) (h2 : n ≤ 1024) :
    Calls Try.prog 134 #[.agg #[s, .int .i64 k]] w fun e w' => ∃ s', e = .returned (.agg #[s', .int .i64 k, .int .i64 (loudN x n : Nat)]) ∧ OwnS w' w.heap.size w'.heap.size s' x n ∧ le w w' := by
  have HC := hid (fun (w' : World) (hl : le w w') => i_copied B s x n k w' (hs.le hl) h1 h2)
  clear hs
  have F := ((Frg.nil w).box 25 #[s, .int .i64 k]).box 106 #[.slice none 0 0, .int .i64 0, .int .i64 0]
  simp only [World.size_alloc] at F
  go_enter Try.func134, Try.ntmps134
  go_wp2_with (first | ((with_reducible refine at_loadU rfl rfl ?_); (with_reducible refine wpList_loadG F rfl rfl rfl (by first | exact m0 | exact m1) Try.underlying25 rfl infoRing rfl ?_)) | (go_at_call 102; ((with_reducible refine (HC.out _ F.below).mono ?_); rintro e w1 ⟨s1, rfl, ho, hl⟩; obtain ⟨b, o, cap, rfl, hc, hm⟩ := own_form ho h1; have mm := hm; unfold maxLen at mm; replace F := F.own1 hl ho; clear ho hl)) | (refine wpList_storeG F rfl rfl rfl rfl rfl infoDelay rfl rfl ?_; clear F; intro W3 F zW; clear zW; have c0 := (F.row m0).cell? 0))
  have F0 := hid F
  clear F
  go_loopw [13] (fun i wr => ∃ m : Nat, m ≤ n ∧ i = .int .i64 m ∧ Hid (Frg w wr [rowF w1.heap.size 106 #[.slice (some ⟨b, o, none⟩) n cap, .int .i64 k, .int .i64 (loudN x m : Nat)], ownF (w.heap.size + 1 + 1) w1.heap.size (.slice (some ⟨b, o, none⟩) n cap) x n, rowF (w.heap.size + 1) 106 #[.slice none 0 0, .int .i64 0, .int .i64 0], rowF w.heap.size 25 #[s, .int .i64 k]])) (fun i _ => n - (intOf i).toNat)
  case atStart => exact ⟨0, by omega, rfl, by have h := F0.out.box 106 #[.slice (some ⟨b, o, none⟩) n cap, .int .i64 k, .int .i64 0]; simp only [World.size_alloc] at h; exact h⟩
  case round =>
    obtain ⟨m, hk, rfl, HF⟩ := hrel
    rename_i wr _
    by_cases hlt : m < n
    · obtain ⟨y, cy, fy, ey⟩ : ∃ y, wr.cell? ⟨b, o + m, none⟩ = some (.float .f32 y) ∧ fits .f32 y ∧ can .f32 y = x m := by
        rcases HF.out.own m1 with ⟨e, h0⟩ | ⟨b2, o2, cap2, ds2, e, _, _, _, _, hrow, hx⟩
        · omega
        · simp only [Value.slice.injEq, Option.some.injEq, Addr.mk.injEq] at e
          obtain ⟨⟨rfl, rfl, _⟩, _, rfl⟩ := e
          obtain ⟨y, e1, e2, e3⟩ := hx m hlt
          exact ⟨y, (hrow.cell? (o + m)).trans e1, e2, e3⟩
      have EY := hid ey
      have c2 := (HF.out.row m0).cell? 2
      have f2 := (HF.out.row m0).frozen 2
      have l1 : loudN x m ≤ 1024 := Nat.le_trans (loudN_le _ _) (by omega)
      have l2 := loudB_le y
      have hw : IntKind.i64.wrap (((loudN x m : Nat) : Int) + ((loudB y : Nat) : Int)) = ((loudN x m : Nat) : Int) + ((loudB y : Nat) : Int) := IntWalk.i64_in _ (by omega)
      clear ey
      go_wp2_with fail
      refine wp_region_tail (fun _ _ v => v = .int .i64 (loudB y : Nat)) 6 (by kernel_rfl) (by kernel_rfl) ?_; simp only [List.take_succ_cons, List.take_zero, List.drop_succ_cons, List.drop_zero]
      repeat (refine wpLoose_quiet rfl ?_; go_big_quiet_step (fail); refine wpQuiet_nil ?_)
      refine wpLoose_any rfl (· = .int .i64 (loudB y : Nat)) (fun m0 => ?_) ?_
      · go_simp
        refine (i_loudness _ _).mono ?_
        rintro e w9 ⟨rfl, rfl⟩
        exact ⟨_, rfl, rfl, m0, by first | rfl | (go_simp; done)⟩
      rintro v0 rfl
      simp only [Act.put, List.setIfInBounds_toArray, List.set_cons_succ, List.set_cons_zero]
      repeat (refine wpLoose_quiet rfl ?_; go_big_quiet_step (fail); refine wpQuiet_nil ?_)
      refine wpLoose_nil (fun m3 => ?_)
      have HW := hid hw
      clear hw
      go_wp2
      go_roundw
      case rel =>
        refine ⟨m + 1, by omega, by go_num, ?_⟩
        have h := (HF.out.drewN m3).set0 2 (.int .i64 (loudN x (m + 1) : Nat))
        have e1 : ((loudN x (m + 1) : Nat) : Int) = ((loudN x m : Nat) : Int) + ((loudB y : Nat) : Int) := by
          have : loudB y = loudB (x m) := by rw [← loudB_can y, EY.out]
          simp only [loudN]; omega
        rw [e1] at h
        first
        | simpa [e1] using h
        | (rw [e1]; exact h)
      case measure => simp [intOf]; omega
    · obtain rfl : m = n := by omega
      have F := HF.out
      go_wp2_with (first | ((with_reducible refine at_loadU rfl rfl ?_); (with_reducible refine wpList_loadG F rfl rfl rfl (by first | exact m0 | exact m1) Try.underlying106 rfl infoDelay rfl ?_)) | (with_reducible refine stop_store rfl ?_))
      show wpList _ _ _ _ _ _
      have O1 := F.own m1
      refine wpList_storeD rfl rfl rfl (cells := #[.slice (some ⟨b, o, none⟩) m cap, .int .i64 k, .int .i64 (loudN x m : Nat)]) rfl (F.row m2) infoDelay rfl (by simp [Value.oneCell']) (fun w9 K => ?_)
      have C := (Chg.refl (· = w.heap.size + 1) _).wrote K rfl
      have zc := C.size
      have a2 := (F.facts _ m1).2.1
      simp only [ownF] at a2
      have Q1 := hid (O1.chgS C (fun i a b e => by have e' : i = w.heap.size + 1 := e; omega))
      have R := hid K.row
      have L := hid (F.wr2 K).below
      clear K F C O1
      go_wp2
      exact bodyPost_ret (results_row1 rfl _ _ _ _ _ rfl R.out Try.underlying106 rfl infoDelay) rfl ⟨_, rfl, Q1.out.mono (by omega) (by omega), L.out⟩
end Go.Proofs.Ytgjdmoenobacgab

/- Combs' steps, both sides, at any place within a struct. -/
namespace Go.Fk
open Go Go.RowKit
/-- What comes into a comb's ring, and what a comb makes. -/
def combW (gn a o : Nat) : Nat := fop .add .f32 a (fop .mul .f32 gn o)
def combO (gn a o : Nat) : Nat := fop .sub .f32 o (fop .mul .f32 gn (combW gn a o))
theorem combW_of {gn a o y p r : Nat} (hy : can .f32 y = can .f32 o) (hp : can .f32 p = fop .mul .f32 gn y) (hr : can .f32 r = fop .add .f32 a p) : can .f32 r = combW gn a o := by
  rw [hr, combW]
  exact fop_congr rfl (hp.trans ((fop_congr rfl hy).trans (can_fop _ _ _ _).symm))
theorem combO_of {gn a o y r p z : Nat} (hy : can .f32 y = can .f32 o) (hr : can .f32 r = combW gn a o) (hp : can .f32 p = fop .mul .f32 gn r) (hz : can .f32 z = fop .sub .f32 y p) : can .f32 z = combO gn a o := by
  rw [hz, combO]
  exact fop_congr hy (hp.trans ((fop_congr rfl (hr.trans (can_fop _ _ _ _).symm)).trans (can_fop _ _ _ _).symm))
theorem comeX_of {x : Nat → Nat} {j gn a r : Nat} (hr : can .f32 r = combW gn a (x j)) : comeX x j r = pushX x j (kept (combW gn a (x j))) := by
  unfold comeX
  rw [kept_can (hr.trans (can_fop _ _ _ _).symm)]
  rfl
end Go.Fk
namespace Go.Proofs.Ytgjdmoenobacgab
open Go.RowKit Go.Fk
set_option maxRecDepth 100000 in
set_option maxHeartbeats 4000000 in
theorem s_l06CopyComb (B : Nat) (s : Value) (x : Nat → Nat) (n : Nat) (k : Int) (gn g f : Nat) (t : TypeId) (cs : Array Value) (w : World) (hs : RdS w B s x n) (R : Row w g t cs) (e0 : cs[f]? = some s) (e1 : cs[f + 1]? = some (.int .i64 k)) (e2 : cs[f + 2]? = some (.float .f32 gn)) (h1 : 1 ≤ n) (h2 : n ≤ 1024) :
    Calls Try.prog 69 #[.pointer (some ⟨g, f, none⟩)] w fun e w' => ∃ s', e = .returned (.agg #[s', .int .i64 k, .float .f32 gn]) ∧ OwnS w' w.heap.size w'.heap.size s' x n ∧ le w w' := by
  have HS := hid hs; have HR := hid R; have E0 := hid e0; have E1 := hid e1; have E2 := hid e2
  clear hs R e0 e1 e2
  have G := (Frg.nil w).box 27 #[.slice none 0 0, .int .i64 0, .float .f32 0]
  go_enter Try.func69, Try.ntmps69
  go_wp2_with fail
  obtain ⟨W, hW⟩ : ∃ W, W = w.alloc (.cells #[.slice none 0 0, .int .i64 0, .float .f32 0] 27) := ⟨_, rfl⟩
  rw [← hW] at G ⊢
  clear hW
  have FM := (Frm.one (HR.out.le G.below)).drewN 1
  have G1 := G.drewN 1
  refine region_tail (fun _ _ w' v => ∃ s', v = .agg #[s', .int .i64 k] ∧ OwnS w' (W.drewN 1).heap.size w'.heap.size s' x n) 9 (by kernel_rfl) (by kernel_rfl) ?_
  simp only [List.take_succ_cons, List.take_zero, List.drop_succ_cons, List.drop_zero]
  refine wpFree_one rfl (.pointer (some ⟨g, f, none⟩)) (fun w1 _ => by kernel_rfl) ?_
  simp only [Act.put, List.setIfInBounds_toArray, List.set_cons_succ, List.set_cons_zero]
  refine wpFree_one rfl (.pointer (some ⟨g, f, none⟩)) (fun w1 _ => by kernel_rfl) ?_
  simp only [Act.put, List.setIfInBounds_toArray, List.set_cons_succ, List.set_cons_zero]
  refine wpFree_one rfl (.pointer (some ⟨g, f, none⟩)) (fun w1 _ => by kernel_rfl) ?_
  simp only [Act.put, List.setIfInBounds_toArray, List.set_cons_succ, List.set_cons_zero]
  refine wpFree_call rfl rfl Try.func131 (by kernel_rfl) (by kernel_rfl) (args := #[.pointer (some ⟨g, f, none⟩)]) (by simp [Act.eval]) (fun v w1 w2 hw hv => by obtain ⟨s', e1, e2⟩ := hv; exact ⟨s', e1, (e2.le hw).mono (Nat.le_refl _) hw.size⟩) (fun w1 hw1 => (s_l02Copy B s x n k g f w1 (HS.out.le (le_trans G1.below hw1)) (((HR.out.le (le_trans G1.below hw1)).cell? f).trans E0.out) (((HR.out.le (le_trans G1.below hw1)).cell? (f + 1)).trans E1.out) h1 h2).mono ?_) ?_
  · rintro e w2 ⟨s', rfl, ho, hl⟩
    exact ⟨_, rfl, hl, s', rfl, ho.mono hw1.size (Nat.le_refl _)⟩
  rintro v ⟨_, _, s', rfl, _⟩
  simp only [Act.put, List.setIfInBounds_toArray, List.set_cons_succ, List.set_cons_zero]
  refine wpFree_one rfl (.pointer (some ⟨g, f, none⟩)) (fun w1 _ => by kernel_rfl) ?_
  simp only [Act.put, List.setIfInBounds_toArray, List.set_cons_succ, List.set_cons_zero]
  refine wpFree_one rfl (.pointer (some ⟨g, f, none⟩)) (fun w1 _ => by kernel_rfl) ?_
  simp only [Act.put, List.setIfInBounds_toArray, List.set_cons_succ, List.set_cons_zero]
  refine wpFree_one rfl (.pointer (some ⟨g, f + 2, none⟩)) (fun w1 _ => by kernel_rfl) ?_
  simp only [Act.put, List.setIfInBounds_toArray, List.set_cons_succ, List.set_cons_zero]
  refine wpFree_loadV FM (n := 0) rfl rfl rfl rfl List.mem_cons_self E2.out ukindFloat32 ?_
  simp only [Act.put, List.setIfInBounds_toArray, List.set_cons_succ, List.set_cons_zero]
  refine wpFree_one rfl (.agg #[s', .int .i64 k, .float .f32 gn]) (fun w1 _ => by kernel_rfl) ?_
  simp only [Act.put, List.setIfInBounds_toArray, List.set_cons_succ, List.set_cons_zero]
  refine wpFree_nil (fun w3 hw3 hF => ?_)
  obtain ⟨_, s2, hs2, ho⟩ := hF
  obtain rfl : s' = s2 := by simpa using hs2
  have G3 := G1.own1 hw3 ho
  have OC := hid (OwnS.one ho)
  refine wpList_storeD rfl rfl rfl (cells := #[s', .int .i64 k, .float .f32 gn]) rfl (G3.row m1) uinfoCombI rfl (one_head OC.out rfl) (fun w4 KW => ?_)
  have RW := hid KW.row
  have L := hid (G3.fin0 KW)
  clear KW G3 G1 G FM
  go_wp2
  exact bodyPost_ret (results_row1 rfl _ _ _ _ _ rfl RW.out Try.underlying27 rfl uinfoCombI) rfl ⟨_, rfl, L.out.1, L.out.2⟩
set_option maxRecDepth 100000 in
set_option maxHeartbeats 4000000 in
theorem s_l06StepComb (lo hi : Nat) (s : Value) (x : Nat → Nat) (n j gn a g f : Nat) (t : TypeId) (cs : Array Value) (w : World) (hs : OwnS w lo hi s x n) (R : Row w g t cs) (e0 : cs[f]? = some s) (e1 : cs[f + 1]? = some (.int .i64 (j : Nat))) (e2 : cs[f + 2]? = some (.float .f32 gn)) (hg : ¬ (lo ≤ g ∧ g < hi)) (hj : j < n) (hn : n ≤ 1024) (hgn : fits .f32 gn) :
    Calls Try.prog 70 #[.pointer (some ⟨g, f, none⟩), .float .f32 a] w fun e w' => ∃ o, e = .returned (.float .f32 o) ∧ can .f32 o = combO gn a (x j) ∧ fits .f32 o ∧ Row w' g t (cs.setIfInBounds (f + 1) (.int .i64 (((j + 1) % n : Nat) : Int))) ∧ OwnS w' lo hi s (pushX x j (kept (combW gn a (x j)))) n ∧ Chg (fun i => i = g ∨ lo ≤ i ∧ i < hi) w w' := by
  have HO := hid hs; have HR := hid R; have E0 := hid e0; have E1 := hid e1; have E2 := hid e2
  rcases hs with ⟨rfl, h0⟩ | ⟨b, o, cap, ds, rfl, hc, hm, hb, hb', hrow, hx⟩
  · omega
  obtain ⟨y, ey, fy, cy⟩ := hx j hj
  have c0 := (R.cell? f).trans e0
  have c1 := (R.cell? (f + 1)).trans e1
  have c2 := (R.cell? (f + 2)).trans e2
  have cb : w.cell? ⟨b, o + j, none⟩ = some (.float .f32 y) := (hrow.cell? (o + j)).trans ey
  have CY : Hid (can .f32 y = can .f32 (x j)) := by unfold Hid; rw [← cy, can_can]
  clear R e0 e1 e2 hrow hx ey cy
  unfold maxLen at hm
  go_enter Try.func70, Try.ntmps70
  go_wp2_with fail
  refine wp_region_loose (fun _ _ _ => True) (by kernel_rfl) (by kernel_rfl) ?_
  repeat (first | (refine wpLoose_quiet rfl ?_; go_big_quiet_step (fail); refine wpQuiet_nil ?_) | (refine wpLoose_nilP rfl rfl rfl ?_; simp only [Act.put, List.setIfInBounds_toArray, List.set_cons_succ, List.set_cons_zero]))
  refine wpLoose_nil (fun m1 => ?_)
  clear c0 c1 cb
  go_wp2_with (first | (with_reducible refine wpList_farith (op := .mul) (q := y) rfl rfl rfl rfl rfl ?_; intro p1 np1 hp1 fp1) | (with_reducible refine wpList_farith (op := .add) rfl rfl rfl rfl rfl ?_; intro r1 nr1 hr1 fr1))
  have HW := hid (combW_of CY.out hp1.out hr1.out)
  clear c2
  go_wp2_with fail
  refine wp_region_tail (fun _ _ v => v = .float .f32 (kept (combW gn a (x j)))) 5 (by kernel_rfl) (by kernel_rfl) ?_; simp only [List.take_succ_cons, List.take_zero, List.drop_succ_cons, List.drop_zero]
  repeat (first | (refine wpLoose_quiet rfl ?_; go_big_quiet_step (fail); refine wpQuiet_nil ?_) | (refine wpLoose_nilP rfl rfl rfl ?_; simp only [Act.put, List.setIfInBounds_toArray, List.set_cons_succ, List.set_cons_zero]))
  refine wpLoose_any rfl (· = .float .f32 (kept (combW gn a (x j)))) (fun m0 => ?_) ?_
  · go_simp
    refine (s_Kept _ _ fr1.out).mono ?_
    rintro e w9 ⟨rfl, m2, rfl⟩
    exact ⟨_, rfl, by rw [kept_can (HW.out.trans (can_fop _ _ _ _).symm)]; rfl, m0 + m2, by first | (go_simp; done) | (go_simp; rw [Nat.add_assoc])⟩
  rintro v0 rfl
  simp only [Act.put, List.setIfInBounds_toArray, List.set_cons_succ, List.set_cons_zero]
  repeat (refine wpLoose_quiet rfl ?_; go_big_quiet_step (fail); refine wpQuiet_nil ?_)
  refine wpLoose_nil (fun m3 => ?_)
  go_wp2_with (first | (go_at_call 132; ((with_reducible refine (s_l02Push lo hi _ x n j (kept (combW gn a (x j))) g f t cs _ (HO.out.le (le_drewN _ _)) (HR.out.drewN _) E0.out E1.out hg hj hn (fits_kept (fits_fop _ _ _ _))).mono ?_); rintro e w5 ⟨o5, rfl, _, _, hR5, hO5, hC5⟩; have R5 := hid hR5; have O5 := hid hO5; have C5 := hid hC5; have c2 := (hR5.cell? (f + 2)).trans ((by rw [Array.getElem?_setIfInBounds_ne (by omega)] : _ = cs[f + 2]?).trans E2.out); clear hR5 hO5 hC5)) | (with_reducible refine wpList_farith (op := .mul) (q := r1) rfl rfl rfl rfl rfl ?_; intro p2 np2 hp2 fp2) | (with_reducible refine wpList_farith (op := .sub) rfl rfl rfl rfl rfl ?_; intro r2 nr2 hr2 fr2))
  go_ret
  exact ⟨_, rfl, combO_of CY.out HW.out hp2.out hr2.out, fr2.out, R5.out.drewN _, O5.out.le (le_drewN _ _), ((Chg.of_le (le_drewN _ _)).trans C5.out).le (le_drewN _ _)⟩
set_option maxRecDepth 100000 in
set_option maxHeartbeats 4000000 in
theorem i_combStep (lo hi : Nat) (s : Value) (x : Nat → Nat) (n j gn a g f : Nat) (t : TypeId) (cs : Array Value) (w : World) (hs : OwnS w lo hi s x n) (R : Row w g t cs) (e0 : cs[f]? = some s) (e1 : cs[f + 1]? = some (.int .i64 (j : Nat))) (e2 : cs[f + 2]? = some (.int .i64 (loudN x n : Nat))) (e3 : cs[f + 3]? = some (.float .f32 gn)) (hg : ¬ (lo ≤ g ∧ g < hi)) (hj : j < n) (hn : n ≤ 1024) (hgn : fits .f32 gn) :
    Calls Try.prog 72 #[.pointer (some ⟨g, f, none⟩), .float .f32 a] w fun e w' => ∃ o, e = .returned (.float .f32 o) ∧ can .f32 o = combO gn a (x j) ∧ fits .f32 o ∧ Row w' g t ((cs.setIfInBounds (f + 1) (.int .i64 (((j + 1) % n : Nat) : Int))).setIfInBounds (f + 2) (.int .i64 (loudN (pushX x j (kept (combW gn a (x j)))) n : Nat))) ∧ OwnS w' lo hi s (pushX x j (kept (combW gn a (x j)))) n ∧ Chg (fun i => i = g ∨ lo ≤ i ∧ i < hi) w w' := by
  have HOL := hid (i_oldest hi s x n j w hs.rd hj hn)
  have hc : ∀ i, i < [s, Value.int .i64 (j : Nat)].length → cs[f + i]? = [s, Value.int .i64 (j : Nat)][i]? := fun i hi => by match i, hi with | 0, _ => exact e0 | 1, _ => exact e1
  have HC := hid hc
  have HO := hid hs; have HR := hid R; have E0 := hid e0; have E1 := hid e1; have E2 := hid e2; have E3 := hid e3
  have HG := hid (fun (w' : World) (hl : le w w') => ((R.le hl).cell? (f + 3)).trans e3)
  clear R e0 e1 e2 e3 hs hc
  go_enter Try.func72, Try.ntmps72
  go_wp2_with (first | ((with_reducible refine at_loadU rfl rfl ?_); (with_reducible refine wpList_loadPR HR.out rfl rfl rfl Try.underlying25 rfl [s, .int .i64 (j : Nat)] HC.out infoRing rfl ?_)) | (go_at_call 135; ((with_reducible refine HOL.out.mono ?_); rintro e w1 ⟨y, rfl, hy, fy, hl⟩; have CY : Hid (can .f32 y = can .f32 (x j)) := (by unfold Hid; rw [← hy, can_can]); have L1 := hid hl; have c3 := HG.out _ hl; clear hy hl)) | (with_reducible refine wpList_farith (op := .mul) (q := y) rfl rfl rfl rfl rfl ?_; intro p1 np1 hp1 fp1) | (with_reducible refine wpList_farith (op := .add) rfl rfl rfl rfl rfl ?_; intro r1 nr1 hr1 fr1) | (go_at_call 136; ((with_reducible refine (i_come lo hi s x n j _ g f t cs _ ((HO.out.le L1.out).le (le_drewN _ _)) ((HR.out.le L1.out).drewN _) E0.out E1.out E2.out hg hj hn fr1.out).mono ?_); rintro e w5 ⟨⟨v5, rfl⟩, hR5, hO5, hC5⟩; have HW := hid (combW_of CY.out hp1.out hr1.out); rw [comeX_of HW.out] at hR5 hO5; have R5 := hid hR5; have O5 := hid hO5; have C5 := hid hC5; have c3w := (hR5.cell? (f + 3)).trans ((by rw [Array.getElem?_setIfInBounds_ne (by omega), Array.getElem?_setIfInBounds_ne (by omega)] : _ = cs[f + 3]?).trans E3.out); clear hR5 hO5 hC5)) | (with_reducible refine wpList_farith (op := .mul) (q := r1) rfl rfl rfl rfl rfl ?_; intro p2 np2 hp2 fp2) | (with_reducible refine wpList_farith (op := .sub) rfl rfl rfl rfl rfl ?_; intro r2 nr2 hr2 fr2))
  go_ret
  exact ⟨_, rfl, combO_of CY.out HW.out hp2.out hr2.out, fr2.out, R5.out.drewN _, O5.out.le (le_drewN _ _), (((Chg.of_le L1.out).trans ((Chg.of_le (le_drewN _ _)).trans C5.out))).le (le_drewN _ _)⟩
theorem infoCombed : (Try.prog.info? 108).map (·.size) = some 4 := by kernel_rfl
set_option maxRecDepth 100000 in
set_option maxHeartbeats 4000000 in
theorem i_newCombed (B : Nat) (s : Value) (x : Nat → Nat) (n : Nat) (k : Int) (gn : Nat) (w : World) (hs : RdS w B s x n) (h1 : 1 ≤ n) (h2 : n ≤ 1024) :
    Calls Try.prog 71 #[.agg #[s, .int .i64 k, .float .f32 gn]] w fun e w' => ∃ s', e = .returned (.agg #[s', .int .i64 k, .int .i64 (loudN x n : Nat), .float .f32 gn]) ∧ OwnS w' w.heap.size w'.heap.size s' x n ∧ le w w' := by
  have HS := hid (fun (w' : World) (hl : le w w') => i_newDelay B s x n k w' (hs.le hl) h1 h2)
  clear hs
  have G := ((Frg.nil w).box 27 #[s, .int .i64 k, .float .f32 gn]).box 108 #[.slice none 0 0, .int .i64 0, .int .i64 0, .float .f32 0]
  simp only [World.size_alloc] at G
  go_enter Try.func71, Try.ntmps71
  go_wp2_with fail
  obtain ⟨W, hW⟩ : ∃ W, W = (w.alloc (.cells #[s, .int .i64 k, .float .f32 gn] 27)).alloc (.cells #[.slice none 0 0, .int .i64 0, .int .i64 0, .float .f32 0] 108) := ⟨_, rfl⟩
  rw [← hW] at G ⊢
  clear hW
  have FM := (Frm.one (G.row m1)).drewN 1
  have G1 := G.drewN 1
  refine region_tail (fun _ _ w' v => ∃ s', v = .agg #[s', .int .i64 k, .int .i64 (loudN x n : Nat)] ∧ OwnS w' (W.drewN 1).heap.size w'.heap.size s' x n) 6 (by kernel_rfl) (by kernel_rfl) ?_
  simp only [List.take_succ_cons, List.take_zero, List.drop_succ_cons, List.drop_zero]
  refine wpFree_one rfl (.pointer (some ⟨w.heap.size, 0, none⟩)) (fun w1 _ => by kernel_rfl) ?_
  simp only [Act.put, List.setIfInBounds_toArray, List.set_cons_succ, List.set_cons_zero]
  refine wpFree_loadPart FM (n := 0) rfl rfl rfl rfl List.mem_cons_self Try.underlying25 rfl [s, .int .i64 k] (midOf [] [s, .int .i64 k] [.float .f32 gn] 0 rfl) infoRing ?_
  simp only [Act.put, List.setIfInBounds_toArray, List.set_cons_succ, List.set_cons_zero]
  refine wpFree_call rfl rfl Try.func134 (by kernel_rfl) (by kernel_rfl) (args := #[.agg #[s, .int .i64 k]]) (by simp [Act.eval]) (fun v w1 w2 hw hv => by obtain ⟨s', e1, e2⟩ := hv; exact ⟨s', e1, (e2.le hw).mono (Nat.le_refl _) hw.size⟩) (fun w1 hw1 => (HS.out w1 (le_trans G1.below hw1)).mono ?_) ?_
  · rintro e w2 ⟨s', rfl, ho, hl⟩
    exact ⟨_, rfl, hl, s', rfl, ho.mono hw1.size (Nat.le_refl _)⟩
  rintro v ⟨_, _, s', rfl, _⟩
  simp only [Act.put, List.setIfInBounds_toArray, List.set_cons_succ, List.set_cons_zero]
  refine wpFree_one rfl (.pointer (some ⟨w.heap.size, 2, none⟩)) (fun w1 _ => by kernel_rfl) ?_
  simp only [Act.put, List.setIfInBounds_toArray, List.set_cons_succ, List.set_cons_zero]
  refine wpFree_loadV FM (n := 0) rfl rfl rfl rfl List.mem_cons_self rfl ukindFloat32 ?_
  simp only [Act.put, List.setIfInBounds_toArray, List.set_cons_succ, List.set_cons_zero]
  refine wpFree_one rfl (.agg #[s', .int .i64 k, .int .i64 (loudN x n : Nat), .float .f32 gn]) (fun w1 _ => by kernel_rfl) ?_
  simp only [Act.put, List.setIfInBounds_toArray, List.set_cons_succ, List.set_cons_zero]
  refine wpFree_nil (fun w3 hw3 hF => ?_)
  obtain ⟨_, s2, hs2, ho⟩ := hF
  obtain rfl : s' = s2 := by simpa using hs2
  have G3 := G1.own1 hw3 ho
  have OC := hid (OwnS.one ho)
  refine wpList_storeD rfl rfl rfl (cells := #[s', .int .i64 k, .int .i64 (loudN x n : Nat), .float .f32 gn]) rfl (G3.row m1) infoCombed rfl (one_head OC.out rfl) (fun w4 KW => ?_)
  have RW := hid KW.row
  have L := hid (G3.fin0 KW)
  clear KW G3 G1 G FM
  go_wp2
  exact bodyPost_ret (results_row1 rfl _ _ _ _ _ rfl RW.out Try.underlying108 rfl infoCombed) rfl ⟨_, rfl, L.out.1, L.out.2⟩
set_option maxRecDepth 100000 in
set_option maxHeartbeats 4000000 in
theorem i_combBehind (s : Value) (j : Int) (gn g f : Nat) (t : TypeId) (cs : Array Value) (w : World) (R : Row w g t cs) (e0 : cs[f]? = some s) (e1 : cs[f + 1]? = some (.int .i64 j)) (e3 : cs[f + 3]? = some (.float .f32 gn)) (hs : s.oneCell' = true) :
    Calls Try.prog 73 #[.pointer (some ⟨g, f, none⟩)] w fun e w' => e = .returned (.agg #[s, .int .i64 j, .float .f32 gn]) ∧ le w w' := by
  have hc : ∀ i, i < [s, Value.int .i64 j].length → cs[f + i]? = [s, Value.int .i64 j][i]? := fun i hi => by match i, hi with | 0, _ => exact e0 | 1, _ => exact e1
  have HC := hid hc
  have HR := hid R; have E3 := hid e3; have OC := hid hs
  clear R e0 e1 e3 hs hc
  have G := (Frg.nil w).box 27 #[.slice none 0 0, .int .i64 0, .float .f32 0]
  go_enter Try.func73, Try.ntmps73
  go_wp2_with fail
  have FM := (Frm.one (HR.out.le G.below)).drewN 1
  have G1 := G.drewN 1
  refine region_tail (fun _ _ _ _ => True) 10 (by kernel_rfl) (by kernel_rfl) ?_
  simp only [List.take_succ_cons, List.take_zero, List.drop_succ_cons, List.drop_zero]
  refine wpFree_one rfl (.pointer (some ⟨g, f, none⟩)) (fun w1 _ => by kernel_rfl) ?_
  simp only [Act.put, List.setIfInBounds_toArray, List.set_cons_succ, List.set_cons_zero]
  refine wpFree_one rfl (.pointer (some ⟨g, f, none⟩)) (fun w1 _ => by kernel_rfl) ?_
  simp only [Act.put, List.setIfInBounds_toArray, List.set_cons_succ, List.set_cons_zero]
  refine wpFree_one rfl (.pointer (some ⟨g, f, none⟩)) (fun w1 _ => by kernel_rfl) ?_
  simp only [Act.put, List.setIfInBounds_toArray, List.set_cons_succ, List.set_cons_zero]
  refine wpFree_one rfl (.pointer (some ⟨g, f, none⟩)) (fun w1 _ => by kernel_rfl) ?_
  simp only [Act.put, List.setIfInBounds_toArray, List.set_cons_succ, List.set_cons_zero]
  refine wpFree_loadPart FM (n := 0) rfl rfl rfl rfl List.mem_cons_self Try.underlying25 rfl [s, .int .i64 j] HC.out infoRing ?_
  simp only [Act.put, List.setIfInBounds_toArray, List.set_cons_succ, List.set_cons_zero]
  refine wpFree_one rfl (.pointer (some ⟨g, f, none⟩)) (fun w1 _ => by kernel_rfl) ?_
  simp only [Act.put, List.setIfInBounds_toArray, List.set_cons_succ, List.set_cons_zero]
  refine wpFree_one rfl (.pointer (some ⟨g, f, none⟩)) (fun w1 _ => by kernel_rfl) ?_
  simp only [Act.put, List.setIfInBounds_toArray, List.set_cons_succ, List.set_cons_zero]
  refine wpFree_one rfl (.pointer (some ⟨g, f + 3, none⟩)) (fun w1 _ => by kernel_rfl) ?_
  simp only [Act.put, List.setIfInBounds_toArray, List.set_cons_succ, List.set_cons_zero]
  refine wpFree_loadV FM (n := 0) rfl rfl rfl rfl List.mem_cons_self E3.out ukindFloat32 ?_
  simp only [Act.put, List.setIfInBounds_toArray, List.set_cons_succ, List.set_cons_zero]
  refine wpFree_one rfl (.agg #[s, .int .i64 j, .float .f32 gn]) (fun w1 _ => by kernel_rfl) ?_
  simp only [Act.put, List.setIfInBounds_toArray, List.set_cons_succ, List.set_cons_zero]
  refine wpFree_nil (fun w3 hw3 _ => ?_)
  have G3 := G1.le hw3
  refine wpList_storeD rfl rfl rfl (cells := #[s, .int .i64 j, .float .f32 gn]) rfl (G3.row m0) uinfoCombI rfl (one_head OC.out rfl) (fun w4 KW => ?_)
  have RW := hid KW.row
  have L := hid (G3.wr0 KW).below
  clear KW G3 G1 G FM
  go_wp2
  exact bodyPost_ret (results_row1 rfl _ _ _ _ _ rfl RW.out Try.underlying27 rfl uinfoCombI) rfl ⟨rfl, L.out⟩
end Go.Proofs.Ytgjdmoenobacgab

/- 'StepComb' of both. -/
namespace Go.Fk
open Go Go.RowKit
theorem wf_natC {n : Nat} (h : n ≤ 1024) : (Lit.int .i64 (n : Int)).wf = true := by
  simp only [Lit.wf, IntKind.min, IntKind.max, IntKind.signed, IntKind.bits, Bool.and_eq_true, decide_eq_true_eq, if_true]
  constructor <;> omega
/-- What lies behind two facts stands when blocks from the second one on have turned. -/
theorem Frg.cut2C {w0 w w' : World} {L : List Fact} {a b : Fact} (h : Frg w0 w (a :: b :: L)) {S : Nat → Prop} (k : Chg S w w') (hS : ∀ i, S i → b.lo ≤ i) : Frg w0 w' L := by
  have hb := h.facts b (by simp)
  have p := List.pairwise_cons.1 (List.pairwise_cons.1 h.apart).2
  refine ⟨h.below.trans (k.below (fun i hi => Nat.le_trans hb.1 (hS i hi)) h.size), fun e he => ?_, p.2⟩
  have hx := h.facts e (by simp [he])
  have ha := p.1 e he
  exact ⟨hx.1, Nat.le_trans hx.2.1 k.size, e.ok w w' hx.2.2 (fun i h1 h2 => k.block i (by omega) (fun c => by have := hS i c; omega))⟩
end Go.Fk
namespace Go.Proofs.Ytgjdmoenobacgab
open Go.RowKit Go.Fk
set_option maxRecDepth 100000 in
set_option maxHeartbeats 4000000 in
theorem i_StepComb_no (x : Nat → Nat) (n : Nat) (j : Int) (gn a : Nat) (B : Nat) (s : Value) (w : World) (hs : (slT x n).RdN w B s) (wj : (Lit.int .i64 j).wf = true) (hg : fits .f32 gn) (hv : okComb x n j gn = false) :
    Calls Try.prog 25 #[.agg #[s, .int .i64 j, .float .f32 gn], .float .f32 a] w (OutV_Tfi (cdComb (fun _ => 0) 0 0 0) 0 1 w) := by
  have HV := hid (fun (w' : World) (hl : le w w') => hv ▸ i_ValidComb x n j gn B s w' (hs.le hl) wj hg)
  clear hs wj hg hv
  have F := ((Frg.nil w).box 27 #[s, .int .i64 j, .float .f32 gn]).box 27 #[.slice none 0 0, .int .i64 0, .float .f32 0]
  simp only [World.size_alloc] at F
  go_enter Try.func25, Try.ntmps25
  go_wp2_with (first | ((with_reducible refine at_loadU rfl rfl ?_); (with_reducible refine wpList_loadG F rfl rfl rfl (by first | exact m0 | exact m1 | exact m2 | exact m3 | exact m4 | exact m5 | exact m6 | exact m7) Try.underlying27 rfl uinfoCombI rfl ?_)) | (go_at_call 23; ((with_reducible refine (HV.out _ F.below).mono ?_); rintro e w1 ⟨rfl, hl⟩; replace F := F.le hl; clear hl)) | ((with_reducible refine stop_store rfl ?_)))
  show wpList _ _ _ _ _ _
  refine wpList_storeD rfl rfl rfl (cells := #[.slice none 0 0, .int .i64 0, .float .f32 0]) rfl (F.row m0) uinfoCombI rfl (by simp [Value.oneCell']) (fun w4 K => ?_)
  have R := hid K.row
  have L := hid (F.wr0 K).below
  clear K F
  go_wp2
  exact bodyPost_ret (results_row3 rfl _ _ _ _ _ rfl R.out Try.underlying27 rfl uinfoCombI) rfl ⟨[.slice none 0 0, .int .i64 0, .float .f32 0], _, rfl, layComb0 _ _, L.out, by decide⟩
set_option maxRecDepth 100000 in
set_option maxHeartbeats 4000000 in
theorem i_StepComb_yes (x : Nat → Nat) (n j gn a : Nat) (B : Nat) (s : Value) (w : World) (hs : (slT x n).RdN w B s) (n1 : 1 ≤ n) (n2 : n ≤ 1024) (hj : j < n) (hg : fits .f32 gn) (hv : okComb x n (j : Nat) gn = true) :
    Calls Try.prog 25 #[.agg #[s, .int .i64 (j : Nat), .float .f32 gn], .float .f32 a] w (OutV_Tfi (cdComb (pushX x j (kept (combW gn a (x j)))) n ((j + 1) % n : Nat) gn) (combO gn a (x j)) 0 w) := by
  have HV := hid (fun (w' : World) (hl : le w w') => hv ▸ i_ValidComb x n (j : Nat) gn B s w' (hs.le hl) (wf_natC (by omega)) hg)
  have HN := hid (fun (w' : World) (hl : le w w') => i_newCombed B s x n (j : Nat) gn w' ((slT_rds hs).le hl) n1 n2)
  have HG := hid hg
  clear hs hg hv
  have F := ((Frg.nil w).box 27 #[s, .int .i64 (j : Nat), .float .f32 gn]).box 27 #[.slice none 0 0, .int .i64 0, .float .f32 0]
  simp only [World.size_alloc] at F
  go_enter Try.func25, Try.ntmps25
  go_wp2_with (first | ((with_reducible refine at_loadU rfl rfl ?_); (with_reducible refine wpList_loadG F rfl rfl rfl (by first | exact m0 | exact m1 | exact m2 | exact m3 | exact m4 | exact m5 | exact m6 | exact m7) Try.underlying27 rfl uinfoCombI rfl ?_)) | (go_at_call 23; ((with_reducible refine (HV.out _ F.below).mono ?_); rintro e w1 ⟨rfl, hl⟩; replace F := F.le hl; clear hl)) | (go_at_call 71; ((with_reducible refine (HN.out _ F.below).mono ?_); rintro e w2 ⟨s1, rfl, ho, hl⟩; have os := hid (OwnS.one ho); have z1w := hl.size; replace F := F.own1 hl ho; clear ho hl)) | (refine wpList_storeG F rfl rfl rfl rfl rfl infoCombed rfl (one_head os.out rfl) ?_; clear F; intro W3 F zW))
  have hg1 := (List.pairwise_cons.1 (List.pairwise_cons.1 F.apart).2).1 _ m0
  have hz2 : w2.heap.size < W3.heap.size := (F.row m0).lt
  simp only [ownF, rowF] at hg1
  have z12 := (F.facts _ m1).1
  simp only [ownF] at z12
  go_wp2_with (first | (go_at_call 72; ((with_reducible refine (i_combStep w1.heap.size w2.heap.size s1 x n j gn a w2.heap.size 0 _ _ _ (F.own m1) (F.row m0) rfl rfl rfl rfl (by omega) hj n2 HG.out).mono ?_); rintro e w4 ⟨o4, rfl, ho4, fo4, hR4, hO4, hC4⟩; have R4 := hid hR4; have O4 := hid hO4; have HO4 := hid ho4; have zC := hC4.size; replace F := F.cut2C hC4 (fun i e => by simp only [ownF]; omega); clear hR4 hO4 hC4 ho4)) | (go_at_call 73; ((with_reducible refine (i_combBehind s1 ((j + 1) % n : Nat) gn w2.heap.size 0 _ _ _ R4.out rfl rfl rfl (own_one O4.out)).mono ?_); rintro e w5 ⟨rfl, hl5⟩; replace F := F.le hl5; replace O4 := hid (O4.out.le hl5); have zL := hl5.size; clear hl5)) | ((with_reducible refine stop_store (ty := 27) rfl ?_)))
  show wpList _ _ _ _ _ _
  have os4 := O4.out.one
  refine wpList_storeD rfl rfl rfl (cells := #[s1, .int .i64 ((j + 1) % n : Nat), .float .f32 gn]) rfl (F.row m0) uinfoCombI rfl (one_head os4 rfl) (fun w9 K => ?_)
  have C := (Chg.refl (· = w.heap.size + 1) w5).wrote K rfl
  have zc := C.size
  have Q1 := O4.out.chgS C (fun i a b e => by have e' : i = w.heap.size + 1 := e; omega)
  have R := hid K.row
  have L := hid (F.wr0 K).below
  have LY := hid (layComb (pushX x j (kept (combW gn a (x j)))) n ((j + 1) % n : Nat) gn (Q1.mono (lo' := w.heap.size) (hi' := w9.heap.size) (by omega) (by omega)) (wf_natC (by have := Nat.mod_lt (j + 1) n1; omega)) HG.out)
  clear K F C Q1 os4
  go_wp2
  exact bodyPost_ret (results_row3 rfl _ _ _ _ _ rfl R.out Try.underlying27 rfl uinfoCombI) rfl ⟨[s1, .int .i64 ((j + 1) % n : Nat), .float .f32 gn], o4, rfl, LY.out, L.out, HO4.out⟩
set_option maxRecDepth 100000 in
set_option maxHeartbeats 4000000 in
theorem s_StepComb_no (x : Nat → Nat) (n : Nat) (j : Int) (gn a : Nat) (B : Nat) (s : Value) (w : World) (hs : (slT x n).RdN w B s) (wj : (Lit.int .i64 j).wf = true) (hg : fits .f32 gn) (hv : okComb x n j gn = false) :
    Calls Try.prog 24 #[.agg #[s, .int .i64 j, .float .f32 gn], .float .f32 a] w (OutV_Tfi (cdComb (fun _ => 0) 0 0 0) 0 1 w) := by
  have HV := hid (fun (w' : World) (g0 : Nat) (hl : le w w') (R : Row w' g0 27 #[s, .int .i64 j, .float .f32 gn]) => hv ▸ s_l06Comb x n j gn B s w' g0 0 _ _ R rfl rfl rfl (hs.le hl) wj)
  clear hs wj hg hv
  have F := ((Frg.nil w).box 27 #[s, .int .i64 j, .float .f32 gn]).box 27 #[.slice none 0 0, .int .i64 0, .float .f32 0]
  simp only [World.size_alloc] at F
  go_enter Try.func24, Try.ntmps24
  go_wp2_with (first | ((with_reducible refine at_loadU rfl rfl ?_); (with_reducible refine wpList_loadG F rfl rfl rfl (by first | exact m0 | exact m1 | exact m2 | exact m3 | exact m4 | exact m5 | exact m6 | exact m7) Try.underlying27 rfl uinfoCombI rfl ?_)) | (go_at_call 65; ((with_reducible refine (HV.out _ _ F.below (F.row m1)).mono ?_); rintro e w1 ⟨rfl, hl⟩; replace F := F.le hl; clear hl)) | ((with_reducible refine stop_store rfl ?_)))
  show wpList _ _ _ _ _ _
  refine wpList_storeD rfl rfl rfl (cells := #[.slice none 0 0, .int .i64 0, .float .f32 0]) rfl (F.row m0) uinfoCombI rfl (by simp [Value.oneCell']) (fun w4 K => ?_)
  have R := hid K.row
  have L := hid (F.wr0 K).below
  clear K F
  go_wp2
  exact bodyPost_ret (results_row3 rfl _ _ _ _ _ rfl R.out Try.underlying27 rfl uinfoCombI) rfl ⟨[.slice none 0 0, .int .i64 0, .float .f32 0], _, rfl, layComb0 _ _, L.out, by decide⟩
set_option maxRecDepth 100000 in
set_option maxHeartbeats 4000000 in
theorem s_StepComb_yes (x : Nat → Nat) (n j gn a : Nat) (B : Nat) (s : Value) (w : World) (hs : (slT x n).RdN w B s) (n1 : 1 ≤ n) (n2 : n ≤ 1024) (hj : j < n) (hg : fits .f32 gn) (hv : okComb x n (j : Nat) gn = true) :
    Calls Try.prog 24 #[.agg #[s, .int .i64 (j : Nat), .float .f32 gn], .float .f32 a] w (OutV_Tfi (cdComb (pushX x j (kept (combW gn a (x j)))) n ((j + 1) % n : Nat) gn) (combO gn a (x j)) 0 w) := by
  have HV := hid (fun (w' : World) (g0 : Nat) (hl : le w w') (R : Row w' g0 27 #[s, .int .i64 (j : Nat), .float .f32 gn]) => hv ▸ s_l06Comb x n (j : Nat) gn B s w' g0 0 _ _ R rfl rfl rfl (hs.le hl) (wf_natC (by omega)))
  have HC := hid (fun (w' : World) (g0 : Nat) (hl : le w w') (R : Row w' g0 27 #[s, .int .i64 (j : Nat), .float .f32 gn]) => s_l06CopyComb B s x n (j : Nat) gn g0 0 _ _ w' ((slT_rds hs).le hl) R rfl rfl rfl n1 n2)
  have HG := hid hg
  clear hs hg hv
  have F := ((Frg.nil w).box 27 #[s, .int .i64 (j : Nat), .float .f32 gn]).box 27 #[.slice none 0 0, .int .i64 0, .float .f32 0]
  simp only [World.size_alloc] at F
  go_enter Try.func24, Try.ntmps24
  go_wp2_with (first | (go_at_call 65; ((with_reducible refine (HV.out _ _ F.below (F.row m1)).mono ?_); rintro e w1 ⟨rfl, hl⟩; replace F := F.le hl; clear hl)) | (go_at_call 69; ((with_reducible refine (HC.out _ _ F.below (F.row m1)).mono ?_); rintro e w2 ⟨s1, rfl, ho, hl⟩; have os := hid (OwnS.one ho); have z1w := hl.size; replace F := F.own1 hl ho; clear ho hl)) | (refine wpList_storeG F rfl rfl rfl rfl rfl uinfoCombI rfl (one_head os.out rfl) ?_; clear F; intro W3 F zW))
  have hg1 := (List.pairwise_cons.1 (List.pairwise_cons.1 F.apart).2).1 _ m0
  have hz2 : w2.heap.size < W3.heap.size := (F.row m0).lt
  simp only [ownF, rowF] at hg1
  have z12 := (F.facts _ m1).1
  simp only [ownF] at z12
  go_wp2_with (first | (go_at_call 70; ((with_reducible refine (s_l06StepComb w1.heap.size w2.heap.size s1 x n j gn a w2.heap.size 0 _ _ _ (F.own m1) (F.row m0) rfl rfl rfl (by omega) hj n2 HG.out).mono ?_); rintro e w4 ⟨o4, rfl, ho4, fo4, hR4, hO4, hC4⟩; have R4 := hid hR4; have O4 := hid hO4; have HO4 := hid ho4; have zC := hC4.size; replace F := F.cut2C hC4 (fun i e => by simp only [ownF]; omega); clear hR4 hO4 hC4 ho4)) | ((with_reducible refine at_loadU rfl rfl ?_); (with_reducible refine wpList_loadDR R4.out rfl rfl rfl Try.underlying27 rfl uinfoCombI rfl ?_)) | ((with_reducible refine stop_store (ty := 27) rfl ?_)))
  show wpList _ _ _ _ _ _
  have os4 := O4.out.one
  refine wpList_storeD rfl rfl rfl (cells := #[s1, .int .i64 ((j + 1) % n : Nat), .float .f32 gn]) rfl (F.row m0) uinfoCombI rfl (one_head os4 rfl) (fun w9 K => ?_)
  have C := (Chg.refl (· = w.heap.size + 1) w4).wrote K rfl
  have zc := C.size
  have Q1 := O4.out.chgS C (fun i a b e => by have e' : i = w.heap.size + 1 := e; omega)
  have R := hid K.row
  have L := hid (F.wr0 K).below
  have LY := hid (layComb (pushX x j (kept (combW gn a (x j)))) n ((j + 1) % n : Nat) gn (Q1.mono (lo' := w.heap.size) (hi' := w9.heap.size) (by omega) (by omega)) (wf_natC (by have := Nat.mod_lt (j + 1) n1; omega)) HG.out)
  clear K F C Q1 os4
  go_wp2
  exact bodyPost_ret (results_row3 rfl _ _ _ _ _ rfl R.out Try.underlying27 rfl uinfoCombI) rfl ⟨[s1, .int .i64 ((j + 1) % n : Nat), .float .f32 gn], o4, rfl, LY.out, L.out, HO4.out⟩
theorem both_StepComb (cs : List CD) (a : Nat) (h : HasShL shComb cs) : ∃ (ar0 : List CD) (ar1 : Nat) (ar2 : Int), ShOkL shComb ar0 ∧ szL ar0 ≤ 1048576 ∧ (∀ (w : World) (B : Nat) (u : List Value), RdLN w B (cs.map CD.cp) u → Calls Try.prog 24 #[.agg u.toArray, .float .f32 a] w (OutV_Tfi ar0 ar1 ar2 w)) ∧ (∀ (w : World) (B : Nat) (u : List Value), RdLN w B (cs.map CD.cp) u → Calls Try.prog 25 #[.agg u.toArray, .float .f32 a] w (OutV_Tfi ar0 ar1 ar2 w)) := by
  obtain ⟨xs, n, j, gn, rfl, hx⟩ := comb_data h
  cases hv : okComb (fun i => (xs i).fx) n j gn
  · refine ⟨cdComb (fun _ => 0) 0 0 0, 0, 1, cdComb_sh _ _ _ _, by rw [cdComb_sz]; omega, fun w B u hu => ?_, fun w B u hu => ?_⟩
    · obtain ⟨s, rfl, hs, wj, hg⟩ := comb_open hu hx
      exact s_StepComb_no _ n j gn a B s w hs wj hg hv
    · obtain ⟨s, rfl, hs, wj, hg⟩ := comb_open hu hx
      exact i_StepComb_no _ n j gn a B s w hs wj hg hv
  · obtain ⟨n1, n2, j', rfl, hj⟩ := rngB_j (show rngB (fun i => (xs i).fx) n j = true by unfold okComb at hv; simp only [Bool.and_eq_true] at hv; exact hv.1)
    refine ⟨cdComb (pushX (fun i => (xs i).fx) j' (kept (combW gn a ((xs j').fx)))) n ((j' + 1) % n : Nat) gn, combO gn a ((xs j').fx), 0, cdComb_sh _ _ _ _, by rw [cdComb_sz]; omega, fun w B u hu => ?_, fun w B u hu => ?_⟩
    · obtain ⟨s, rfl, hs, wj, hg⟩ := comb_open hu hx
      exact s_StepComb_yes _ n j' gn a B s w hs n1 n2 hj hg hv
    · obtain ⟨s, rfl, hs, wj, hg⟩ := comb_open hu hx
      exact i_StepComb_yes _ n j' gn a B s w hs n1 n2 hj hg hv
end Go.Proofs.Ytgjdmoenobacgab

/- The walk of 'FnExactStepComb'. -/
namespace Go.Proofs.Ytgjdmoenobacgab.fnExactStepComb
open Go.RowKit Go.Fk
set_option maxRecDepth 100000 in
set_option maxHeartbeats 4000000 in
theorem core (cs0 : List CD) (vs0 : List Value) (a1 : Nat) (ar0 : List CD) (ar1 : Nat) (ar2 : Int) (w : World) (z0 : RdL w w.heap.size cs0 vs0) (k0 : ShOkL shComb cs0) (hz0 : szL cs0 ≤ 1048576) (kr : ShOkL shComb ar0) (hzr : szL ar0 ≤ 1048576)
    (hS : ∀ (w : World) (B0 : Nat) (u0 : List Value), RdLN w B0 (cs0.map CD.cp) u0 → Calls Try.prog 24 #[.agg u0.toArray, .float .f32 a1] w (OutV_Tfi ar0 ar1 ar2 w))
    (hI : ∀ (w : World) (B0 : Nat) (u0 : List Value), RdLN w B0 (cs0.map CD.cp) u0 → Calls Try.prog 25 #[.agg u0.toArray, .float .f32 a1] w (OutV_Tfi ar0 ar1 ar2 w)) :
    Calls Try.prog 5 #[.agg vs0.toArray, .float .f32 a1] w fun e w' => e = .returned (.bool true) ∧ Below w.heap.size w w' := by
  have Z0 := hid z0; have K0 := hid k0; have hl0 : Hid (vs0.length = 3) := z0.1.trans k0.1; have hma0 : mtL (cs0.map CD.cp) ≤ 1048576 := (mtL_cp _).trans (mtU_Comb k0) ▸ hz0; clear z0 k0
  have hm0 : ¬ (1048576 : Int) - (szL cs0 : Nat) < 0 := by omega
  have hmr : mtL ar0 ≤ 1048576 := mtU_Comb kr ▸ hzr
  have KR := hid kr; clear kr
  obtain ⟨na0, hna0⟩ : ∃ a : Nat, a = mtL (cs0.map CD.cp) := ⟨_, rfl⟩
  obtain ⟨nb0, hnb0⟩ : ∃ a : Nat, a = mtL ar0 := ⟨_, rfl⟩
  rw [← hna0] at hma0
  rw [← hnb0] at hmr
  have hq : decide ((1 : Int) + (na0 : Int) < 0) = false := by simp; omega
  have hq2 : ¬ ((1 : Int) + (nb0 : Int) < 0) := by omega
  have HN0 := hid hna0; clear hna0
  have HB0 := hid hnb0; clear hnb0
  have HS := hid hS; have HI := hid hI; clear hS hI
  have F := Frg.nil w
  replace F := F.box 35 vs0.toArray
  go_enter Try.func5, Try.ntmps5
  go_wp2_with (first | (((with_reducible refine listN F ?_); clear F; intro wN F)) | ((with_reducible refine at_loadU rfl rfl ?_); first | (with_reducible refine wpList_loadG F rfl rfl rfl (by first | exact m0 | exact m1 | exact m2 | exact m3 | exact m4 | exact m5 | exact m6 | exact m7 | exact m8 | exact m9 | exact m10 | exact m11 | exact m12 | exact m13 | exact m14 | exact m15 | exact m16 | exact m17) Try.underlying27 rfl uinfoCombI (by simp only [List.size_toArray]; first | exact hl0.out | exact huA0.out | exact huB0.out | exact huC0.out | exact huS.out | exact huI.out | exact huH.out) ?_) | (with_reducible refine wpList_loadG F rfl rfl rfl (by first | exact m0 | exact m1 | exact m2 | exact m3 | exact m4 | exact m5 | exact m6 | exact m7 | exact m8 | exact m9 | exact m10 | exact m11 | exact m12 | exact m13 | exact m14 | exact m15 | exact m16 | exact m17) Try.underlying35 rfl uinfoCombL (by simp only [List.size_toArray]; first | exact hl0.out | exact huA0.out | exact huB0.out | exact huC0.out | exact huS.out | exact huI.out | exact huH.out) ?_)) | ((with_reducible refine at_loadV rfl rfl ?_); first | (with_reducible refine wpList_loadGG F rfl rfl (by first | exact m0 | exact m1 | exact m2 | exact m3 | exact m4 | exact m5 | exact m6 | exact m7 | exact m8 | exact m9 | exact m10 | exact m11 | exact m12 | exact m13 | exact m14 | exact m15 | exact m16 | exact m17) Try.underlying27 rfl uinfoCombI (by simp only [List.size_toArray]; first | exact hl0.out | exact huA0.out | exact huB0.out | exact huC0.out | exact huS.out | exact huI.out | exact huH.out) (by kernel_rfl) ?_)) | (go_at_call 20; ((with_reducible refine (szU_Comb _ cs0 vs0 (1048576 : Int) ((1048576 : Int) - (szL cs0 : Nat)) _ (Z0.out.le F.below) K0.out (by omega) (by omega) (lessBy_pos hm0)).mono ?_); rintro e w1 ⟨rfl, hb1⟩; replace F := F.le hb1)) | (go_at_call 22; ((with_reducible refine (toU_Comb _ cs0 vs0 _ (Z0.out.le F.below) K0.out hz0).mono ?_); rintro e w1 ⟨usA0, rfl, ho, hl⟩; have huA0 : Hid (usA0.length = 3) := ho.1.trans ((List.length_map ..).trans K0.out.1); have hoA0 := hid ho.all_one; replace F := F.lay1 hl ho; clear ho hl)))
  first | ((with_reducible refine callAt0 F ?_); clear F; intro wN F) | ((with_reducible refine callAtN F ?_); clear F; intro wN F)
  refine (HS.out _ _ _ (F.layN (by first | exact m0 | exact m1 | exact m2 | exact m3 | exact m4 | exact m5 | exact m6 | exact m7 | exact m8 | exact m9 | exact m10 | exact m11 | exact m12 | exact m13 | exact m14 | exact m15 | exact m16 | exact m17))).mono ?_
  rintro e wS ⟨usS, vS1, rfl, oTS, hlS, cS1⟩
  replace cS1 := hid cS1
  have huS : Hid (usS.length = 3) := oTS.1.trans KR.out.1
  have hoS := hid oTS.all_one
  replace F := F.lay1 hlS oTS
  clear hlS oTS
  go_wp2_with (first | (((with_reducible refine listN F ?_); clear F; intro wN F)) | ((with_reducible refine at_store rfl ?_); first | (refine wpList_storeG F rfl rfl rfl rfl rfl (by simp only [List.size_toArray]; rw [huB0.out]; exact uinfoCombI) (by simp only [List.size_toArray]; rw [huB0.out]; rfl) (by exact hoB0.out) ?_; clear F; intro W F zW; clear zW) | (refine wpList_storeG F rfl rfl rfl rfl rfl (by simp only [List.size_toArray]; rw [huS.out]; exact uinfoCombI) (by simp only [List.size_toArray]; rw [huS.out]; rfl) (by exact hoS.out) ?_; clear F; intro W F zW; clear zW) | (refine wpList_storeG F rfl rfl rfl rfl rfl (by simp only [List.size_toArray]; rw [huI.out]; exact uinfoCombI) (by simp only [List.size_toArray]; rw [huI.out]; rfl) (by exact hoI.out) ?_; clear F; intro W F zW; clear zW) | (refine wpList_storeG F rfl rfl rfl rfl rfl (by simp only [List.size_toArray]; rw [huH.out]; exact uinfoCombI) (by simp only [List.size_toArray]; rw [huH.out]; rfl) (by exact hoH.out) ?_; clear F; intro W F zW; clear zW) | (refine wpList_storeG F rfl rfl rfl rfl rfl (by simp only [List.size_toArray]; rw [huA0.out]; exact uinfoCombI) (by simp only [List.size_toArray]; rw [huA0.out]; rfl) (by exact hoA0.out) ?_; clear F; intro W F zW; clear zW)) | ((with_reducible refine at_loadU rfl rfl ?_); first | (with_reducible refine wpList_loadG F rfl rfl rfl (by first | exact m0 | exact m1 | exact m2 | exact m3 | exact m4 | exact m5 | exact m6 | exact m7 | exact m8 | exact m9 | exact m10 | exact m11 | exact m12 | exact m13 | exact m14 | exact m15 | exact m16 | exact m17) Try.underlying27 rfl uinfoCombI (by simp only [List.size_toArray]; first | exact hl0.out | exact huA0.out | exact huB0.out | exact huC0.out | exact huS.out | exact huI.out | exact huH.out) ?_) | (with_reducible refine wpList_loadG F rfl rfl rfl (by first | exact m0 | exact m1 | exact m2 | exact m3 | exact m4 | exact m5 | exact m6 | exact m7 | exact m8 | exact m9 | exact m10 | exact m11 | exact m12 | exact m13 | exact m14 | exact m15 | exact m16 | exact m17) Try.underlying35 rfl uinfoCombL (by simp only [List.size_toArray]; first | exact hl0.out | exact huA0.out | exact huB0.out | exact huC0.out | exact huS.out | exact huI.out | exact huH.out) ?_)) | ((with_reducible refine at_loadV rfl rfl ?_); first | (with_reducible refine wpList_loadGG F rfl rfl (by first | exact m0 | exact m1 | exact m2 | exact m3 | exact m4 | exact m5 | exact m6 | exact m7 | exact m8 | exact m9 | exact m10 | exact m11 | exact m12 | exact m13 | exact m14 | exact m15 | exact m16 | exact m17) Try.underlying27 rfl uinfoCombI (by simp only [List.size_toArray]; first | exact hl0.out | exact huA0.out | exact huB0.out | exact huC0.out | exact huS.out | exact huI.out | exact huH.out) (by kernel_rfl) ?_)) | (go_at_call 22; ((with_reducible refine (toU_Comb _ cs0 vs0 _ (Z0.out.le F.below) K0.out hz0).mono ?_); rintro e w1 ⟨usB0, rfl, ho, hl⟩; have huB0 : Hid (usB0.length = 3) := ho.1.trans ((List.length_map ..).trans K0.out.1); have hoB0 := hid ho.all_one; replace F := F.lay1 hl ho; clear ho hl)))
  first | ((with_reducible refine callAt0 F ?_); clear F; intro wN F) | ((with_reducible refine callAtN F ?_); clear F; intro wN F)
  refine (HI.out _ _ _ (F.layN (by first | exact m0 | exact m1 | exact m2 | exact m3 | exact m4 | exact m5 | exact m6 | exact m7 | exact m8 | exact m9 | exact m10 | exact m11 | exact m12 | exact m13 | exact m14 | exact m15 | exact m16 | exact m17))).mono ?_
  rintro e wI ⟨usI, vI1, rfl, oTI, hlI, cI1⟩
  replace cI1 := hid cI1
  have huI : Hid (usI.length = 3) := oTI.1.trans KR.out.1
  have hoI := hid oTI.all_one
  replace F := F.lay1 hlI oTI
  clear hlI oTI
  go_wp2_with (first | (((with_reducible refine listN F ?_); clear F; intro wN F)) | ((with_reducible refine at_store rfl ?_); first | (refine wpList_storeG F rfl rfl rfl rfl rfl (by simp only [List.size_toArray]; rw [huB0.out]; exact uinfoCombI) (by simp only [List.size_toArray]; rw [huB0.out]; rfl) (by exact hoB0.out) ?_; clear F; intro W F zW; clear zW) | (refine wpList_storeG F rfl rfl rfl rfl rfl (by simp only [List.size_toArray]; rw [huS.out]; exact uinfoCombI) (by simp only [List.size_toArray]; rw [huS.out]; rfl) (by exact hoS.out) ?_; clear F; intro W F zW; clear zW) | (refine wpList_storeG F rfl rfl rfl rfl rfl (by simp only [List.size_toArray]; rw [huI.out]; exact uinfoCombI) (by simp only [List.size_toArray]; rw [huI.out]; rfl) (by exact hoI.out) ?_; clear F; intro W F zW; clear zW) | (refine wpList_storeG F rfl rfl rfl rfl rfl (by simp only [List.size_toArray]; rw [huH.out]; exact uinfoCombI) (by simp only [List.size_toArray]; rw [huH.out]; rfl) (by exact hoH.out) ?_; clear F; intro W F zW; clear zW) | (refine wpList_storeG F rfl rfl rfl rfl rfl (by simp only [List.size_toArray]; rw [huA0.out]; exact uinfoCombI) (by simp only [List.size_toArray]; rw [huA0.out]; rfl) (by exact hoA0.out) ?_; clear F; intro W F zW; clear zW)) | ((with_reducible refine at_loadU rfl rfl ?_); first | (with_reducible refine wpList_loadG F rfl rfl rfl (by first | exact m0 | exact m1 | exact m2 | exact m3 | exact m4 | exact m5 | exact m6 | exact m7 | exact m8 | exact m9 | exact m10 | exact m11 | exact m12 | exact m13 | exact m14 | exact m15 | exact m16 | exact m17) Try.underlying27 rfl uinfoCombI (by simp only [List.size_toArray]; first | exact hl0.out | exact huA0.out | exact huB0.out | exact huC0.out | exact huS.out | exact huI.out | exact huH.out) ?_) | (with_reducible refine wpList_loadG F rfl rfl rfl (by first | exact m0 | exact m1 | exact m2 | exact m3 | exact m4 | exact m5 | exact m6 | exact m7 | exact m8 | exact m9 | exact m10 | exact m11 | exact m12 | exact m13 | exact m14 | exact m15 | exact m16 | exact m17) Try.underlying35 rfl uinfoCombL (by simp only [List.size_toArray]; first | exact hl0.out | exact huA0.out | exact huB0.out | exact huC0.out | exact huS.out | exact huI.out | exact huH.out) ?_)) | ((with_reducible refine at_loadV rfl rfl ?_); first | (with_reducible refine wpList_loadGG F rfl rfl (by first | exact m0 | exact m1 | exact m2 | exact m3 | exact m4 | exact m5 | exact m6 | exact m7 | exact m8 | exact m9 | exact m10 | exact m11 | exact m12 | exact m13 | exact m14 | exact m15 | exact m16 | exact m17) Try.underlying27 rfl uinfoCombI (by simp only [List.size_toArray]; first | exact hl0.out | exact huA0.out | exact huB0.out | exact huC0.out | exact huS.out | exact huI.out | exact huH.out) (by kernel_rfl) ?_)) | (go_at_call 17; ((with_reducible refine (eqU_Comb _ _ ar0 _ _ _ (F.layR (by first | exact m0 | exact m1 | exact m2 | exact m3 | exact m4 | exact m5 | exact m6 | exact m7 | exact m8 | exact m9 | exact m10 | exact m11 | exact m12 | exact m13 | exact m14 | exact m15 | exact m16 | exact m17)) (F.layR (by first | exact m0 | exact m1 | exact m2 | exact m3 | exact m4 | exact m5 | exact m6 | exact m7 | exact m8 | exact m9 | exact m10 | exact m11 | exact m12 | exact m13 | exact m14 | exact m15 | exact m16 | exact m17)) KR.out hzr).mono ?_); rintro e w7 ⟨rfl, hb7⟩; replace F := F.le hb7)) | ((with_reducible refine at_convert rfl ?_); first | (with_reducible refine wpList_widen rfl rfl rfl Try.underlying22 Try.underlying43 ?_; intro s1 n1 h1 f1) | (with_reducible refine wpList_widenG rfl rfl Try.underlying22 Try.underlying43 (by kernel_rfl) ?_; intro s1 n1 h1 f1)) | (go_at_call 26; ((with_reducible refine (sameFloat_yes _ _ _ (by exact ((Hid.out ‹Hid (can .f64 _ = can .f64 (widen vI1))›).trans ((congrArg (can .f64) (widen_congr (cI1.out.trans cS1.out.symm))).trans (Hid.out ‹Hid (can .f64 _ = can .f64 (widen vS1))›).symm)))).mono ?_); rintro e w7 ⟨rfl, dq7, rfl⟩; skip)))
  first | (refine wpAt0 F ?_; clear F; intro wN F) | (refine wpAtN F ?_; clear F; intro wN F)
  refine region_freeD (E := leX) (fun f _ w v => if f = 22 then ∃ (us : List Value) (B : Nat), v = .agg us.toArray ∧ RdL w B (cs0.map CD.cp) us else v = .bool true) (by kernel_rfl) (by kernel_rfl) ?_
  refine wpFreeD_loadG F rfl rfl rfl rfl (by first | exact m0 | exact m1 | exact m2 | exact m3 | exact m4 | exact m5 | exact m6 | exact m7 | exact m8 | exact m9 | exact m10 | exact m11 | exact m12 | exact m13 | exact m14 | exact m15 | exact m16 | exact m17) Try.underlying27 rfl uinfoCombI (by simp only [List.size_toArray]; exact huB0.out) ?_
  simp only [Act.put, List.setIfInBounds_toArray, List.set_cons_succ, List.set_cons_zero]
  refine wpFreeD_loadG F rfl rfl rfl rfl (by first | exact m0 | exact m1 | exact m2 | exact m3 | exact m4 | exact m5 | exact m6 | exact m7 | exact m8 | exact m9 | exact m10 | exact m11 | exact m12 | exact m13 | exact m14 | exact m15 | exact m16 | exact m17) Try.underlying35 rfl uinfoCombL (by simp only [List.size_toArray]; exact hl0.out) ?_
  simp only [Act.put, List.setIfInBounds_toArray, List.set_cons_succ, List.set_cons_zero]
  refine wpFreeD_callB rfl rfl Try.func22 (by kernel_rfl) (by kernel_rfl) (args := #[.agg vs0.toArray]) (by simp [Act.eval]) (fun v w1 w2 hw hv => by simp only [if_true] at hv ⊢; obtain ⟨u, B, h1, h2⟩ := hv; exact ⟨u, B, h1, h2.le hw⟩) (fun w1 hw1 _ => (toU_Comb _ cs0 vs0 w1 (Z0.out.le (le_trans (F.drewN _).below hw1)) K0.out hz0).mono ?_) ?_
  · rintro e w2 ⟨u, rfl, ho, hl⟩
    exact ⟨_, rfl, hl, by simp only [if_true]; exact ⟨u, _, rfl, ho.rd (fun _ hj => hj.2)⟩⟩
  rintro v ⟨_, _, _, hv⟩
  simp only [if_true] at hv
  obtain ⟨u0, Bu0, rfl, _⟩ := hv
  simp only [Act.put, List.setIfInBounds_toArray, List.set_cons_succ, List.set_cons_zero]
  refine wpFreeD_callB rfl rfl Try.func17 (by kernel_rfl) (by kernel_rfl) (args := #[.agg usB0.toArray, .agg u0.toArray]) (by simp [Act.eval]) (fun v w1 w2 hw hv => by simp only [show ¬ (17 = 22) by decide, if_false] at hv ⊢; exact hv) (fun w1 hw1 hbe => ?_) ?_
  · have hk := (hbe ⟨2, Ground.data⟩ (by simp) (by kernel_rfl)).2 rfl
    simp only [if_true] at hk
    obtain ⟨u', B', he, hr⟩ := hk
    obtain rfl : u0 = u' := by simpa using he
    refine (eqU_Comb _ _ (cs0.map CD.cp) _ _ _ (((F.drewN 1).le hw1).layR (by first | exact m0 | exact m1 | exact m2 | exact m3 | exact m4 | exact m5 | exact m6 | exact m7 | exact m8 | exact m9 | exact m10 | exact m11 | exact m12 | exact m13 | exact m14 | exact m15 | exact m16 | exact m17)) hr K0.out.cp (by rw [szL_cp]; exact hz0)).mono ?_
    rintro e w2 ⟨rfl, hl⟩
    exact ⟨_, rfl, hl, by simp only [show ¬ (17 = 22) by decide, if_false]⟩
  rintro v ⟨_, _, _, hv⟩
  simp only [show ¬ (17 = 22) by decide, if_false] at hv
  subst hv
  simp only [Act.put, List.setIfInBounds_toArray, List.set_cons_succ, List.set_cons_zero]
  refine wpFreeD_one rfl (.bool false) (fun w1 _ => by kernel_rfl) ?_
  simp only [Act.put, List.setIfInBounds_toArray, List.set_cons_succ, List.set_cons_zero]
  refine wpFreeD_nil (fun wR hwR _ => ?_)
  replace F := (F.drewN 1).le hwR
  clear hwR
  go_wp2_with (first | (((with_reducible refine listN F ?_); clear F; intro wN F)) | ((with_reducible refine at_loadU rfl rfl ?_); first | (with_reducible refine wpList_loadG F rfl rfl rfl (by first | exact m0 | exact m1 | exact m2 | exact m3 | exact m4 | exact m5 | exact m6 | exact m7 | exact m8 | exact m9 | exact m10 | exact m11 | exact m12 | exact m13 | exact m14 | exact m15 | exact m16 | exact m17) Try.underlying27 rfl uinfoCombI (by simp only [List.size_toArray]; first | exact hl0.out | exact huA0.out | exact huB0.out | exact huC0.out | exact huS.out | exact huI.out | exact huH.out) ?_) | (with_reducible refine wpList_loadG F rfl rfl rfl (by first | exact m0 | exact m1 | exact m2 | exact m3 | exact m4 | exact m5 | exact m6 | exact m7 | exact m8 | exact m9 | exact m10 | exact m11 | exact m12 | exact m13 | exact m14 | exact m15 | exact m16 | exact m17) Try.underlying35 rfl uinfoCombL (by simp only [List.size_toArray]; first | exact hl0.out | exact huA0.out | exact huB0.out | exact huC0.out | exact huS.out | exact huI.out | exact huH.out) ?_)) | ((with_reducible refine at_loadV rfl rfl ?_); first | (with_reducible refine wpList_loadGG F rfl rfl (by first | exact m0 | exact m1 | exact m2 | exact m3 | exact m4 | exact m5 | exact m6 | exact m7 | exact m8 | exact m9 | exact m10 | exact m11 | exact m12 | exact m13 | exact m14 | exact m15 | exact m16 | exact m17) Try.underlying27 rfl uinfoCombI (by simp only [List.size_toArray]; first | exact hl0.out | exact huA0.out | exact huB0.out | exact huC0.out | exact huS.out | exact huI.out | exact huH.out) (by kernel_rfl) ?_)))
  first | ((with_reducible refine callAt0 F ?_); clear F; intro wN F) | ((with_reducible refine callAtN F ?_); clear F; intro wN F)
  refine (markU_Comb _ _ _ (1 : Int) _ K0.out.cp (by rw [← HN0.out]; exact hma0) (by omega) (by rw [← HN0.out]; omega) (F.lay (by first | exact m0 | exact m1 | exact m2 | exact m3 | exact m4 | exact m5 | exact m6 | exact m7 | exact m8 | exact m9 | exact m10 | exact m11 | exact m12 | exact m13 | exact m14 | exact m15 | exact m16 | exact m17))).mono ?_
  rintro e w4 ⟨rfl, hR, hU⟩
  rw [← HN0.out]
  (first | replace F := F.markAt 0 hR hU rfl | replace F := F.markAt 1 hR hU rfl | replace F := F.markAt 2 hR hU rfl | replace F := F.markAt 3 hR hU rfl | replace F := F.markAt 4 hR hU rfl | replace F := F.markAt 5 hR hU rfl | replace F := F.markAt 6 hR hU rfl | replace F := F.markAt 7 hR hU rfl | replace F := F.markAt 8 hR hU rfl | replace F := F.markAt 9 hR hU rfl | replace F := F.markAt 10 hR hU rfl | replace F := F.markAt 11 hR hU rfl | replace F := F.markAt 12 hR hU rfl | replace F := F.markAt 13 hR hU rfl | replace F := F.markAt 14 hR hU rfl | replace F := F.markAt 15 hR hU rfl | replace F := F.markAt 16 hR hU rfl | replace F := F.markAt 17 hR hU rfl)
  simp only [List.set_cons_succ, List.set_cons_zero] at F
  clear hR hU
  go_wp2_with (first | (((with_reducible refine listN F ?_); clear F; intro wN F)) | ((with_reducible refine at_store rfl ?_); first | (refine wpList_storeG F rfl rfl rfl rfl rfl (by simp only [List.size_toArray]; rw [huB0.out]; exact uinfoCombI) (by simp only [List.size_toArray]; rw [huB0.out]; rfl) (by exact hoB0.out) ?_; clear F; intro W F zW; clear zW) | (refine wpList_storeG F rfl rfl rfl rfl rfl (by simp only [List.size_toArray]; rw [huS.out]; exact uinfoCombI) (by simp only [List.size_toArray]; rw [huS.out]; rfl) (by exact hoS.out) ?_; clear F; intro W F zW; clear zW) | (refine wpList_storeG F rfl rfl rfl rfl rfl (by simp only [List.size_toArray]; rw [huI.out]; exact uinfoCombI) (by simp only [List.size_toArray]; rw [huI.out]; rfl) (by exact hoI.out) ?_; clear F; intro W F zW; clear zW) | (refine wpList_storeG F rfl rfl rfl rfl rfl (by simp only [List.size_toArray]; rw [huH.out]; exact uinfoCombI) (by simp only [List.size_toArray]; rw [huH.out]; rfl) (by exact hoH.out) ?_; clear F; intro W F zW; clear zW) | (refine wpList_storeG F rfl rfl rfl rfl rfl (by simp only [List.size_toArray]; rw [huA0.out]; exact uinfoCombI) (by simp only [List.size_toArray]; rw [huA0.out]; rfl) (by exact hoA0.out) ?_; clear F; intro W F zW; clear zW)) | ((with_reducible refine at_loadU rfl rfl ?_); first | (with_reducible refine wpList_loadG F rfl rfl rfl (by first | exact m0 | exact m1 | exact m2 | exact m3 | exact m4 | exact m5 | exact m6 | exact m7 | exact m8 | exact m9 | exact m10 | exact m11 | exact m12 | exact m13 | exact m14 | exact m15 | exact m16 | exact m17) Try.underlying27 rfl uinfoCombI (by simp only [List.size_toArray]; first | exact hl0.out | exact huA0.out | exact huB0.out | exact huC0.out | exact huS.out | exact huI.out | exact huH.out) ?_) | (with_reducible refine wpList_loadG F rfl rfl rfl (by first | exact m0 | exact m1 | exact m2 | exact m3 | exact m4 | exact m5 | exact m6 | exact m7 | exact m8 | exact m9 | exact m10 | exact m11 | exact m12 | exact m13 | exact m14 | exact m15 | exact m16 | exact m17) Try.underlying35 rfl uinfoCombL (by simp only [List.size_toArray]; first | exact hl0.out | exact huA0.out | exact huB0.out | exact huC0.out | exact huS.out | exact huI.out | exact huH.out) ?_)) | ((with_reducible refine at_loadV rfl rfl ?_); first | (with_reducible refine wpList_loadGG F rfl rfl (by first | exact m0 | exact m1 | exact m2 | exact m3 | exact m4 | exact m5 | exact m6 | exact m7 | exact m8 | exact m9 | exact m10 | exact m11 | exact m12 | exact m13 | exact m14 | exact m15 | exact m16 | exact m17) Try.underlying27 rfl uinfoCombI (by simp only [List.size_toArray]; first | exact hl0.out | exact huA0.out | exact huB0.out | exact huC0.out | exact huS.out | exact huI.out | exact huH.out) (by kernel_rfl) ?_)) | (go_at_call 17; ((with_reducible refine (eqU_Comb _ _ ar0 _ _ _ (F.layR (by first | exact m0 | exact m1 | exact m2 | exact m3 | exact m4 | exact m5 | exact m6 | exact m7 | exact m8 | exact m9 | exact m10 | exact m11 | exact m12 | exact m13 | exact m14 | exact m15 | exact m16 | exact m17)) (F.layR (by first | exact m0 | exact m1 | exact m2 | exact m3 | exact m4 | exact m5 | exact m6 | exact m7 | exact m8 | exact m9 | exact m10 | exact m11 | exact m12 | exact m13 | exact m14 | exact m15 | exact m16 | exact m17)) KR.out hzr).mono ?_); rintro e w7 ⟨rfl, hb7⟩; replace F := F.le hb7)) | ((with_reducible refine at_convert rfl ?_); first | (with_reducible refine wpList_widen rfl rfl rfl Try.underlying22 Try.underlying43 ?_; intro s1 n1 h1 f1) | (with_reducible refine wpList_widenG rfl rfl Try.underlying22 Try.underlying43 (by kernel_rfl) ?_; intro s1 n1 h1 f1)) | (go_at_call 26; ((with_reducible refine (sameFloat_yes _ _ _ (by exact ((Hid.out ‹Hid (can .f64 _ = can .f64 (widen vI1))›).trans ((congrArg (can .f64) (widen_congr (cI1.out.trans cS1.out.symm))).trans (Hid.out ‹Hid (can .f64 _ = can .f64 (widen vS1))›).symm)))).mono ?_); rintro e w7 ⟨rfl, dq7, rfl⟩; skip)))
  first | ((with_reducible refine callAt0 F ?_); clear F; intro wN F) | ((with_reducible refine callAtN F ?_); clear F; intro wN F)
  refine (markU_Comb _ _ _ (1 : Int) _ KR.out (by rw [← HB0.out]; exact hmr) (by omega) (by rw [← HB0.out]; omega) (F.lay (by first | exact m0 | exact m1 | exact m2 | exact m3 | exact m4 | exact m5 | exact m6 | exact m7 | exact m8 | exact m9 | exact m10 | exact m11 | exact m12 | exact m13 | exact m14 | exact m15 | exact m16 | exact m17))).mono ?_
  rintro e w5 ⟨rfl, hR, hU⟩
  rw [← HB0.out]
  (first | replace F := F.markAt 0 hR hU rfl | replace F := F.markAt 1 hR hU rfl | replace F := F.markAt 2 hR hU rfl | replace F := F.markAt 3 hR hU rfl | replace F := F.markAt 4 hR hU rfl | replace F := F.markAt 5 hR hU rfl | replace F := F.markAt 6 hR hU rfl | replace F := F.markAt 7 hR hU rfl | replace F := F.markAt 8 hR hU rfl | replace F := F.markAt 9 hR hU rfl | replace F := F.markAt 10 hR hU rfl | replace F := F.markAt 11 hR hU rfl | replace F := F.markAt 12 hR hU rfl | replace F := F.markAt 13 hR hU rfl | replace F := F.markAt 14 hR hU rfl | replace F := F.markAt 15 hR hU rfl | replace F := F.markAt 16 hR hU rfl | replace F := F.markAt 17 hR hU rfl)
  simp only [List.set_cons_succ, List.set_cons_zero] at F
  clear hR hU
  go_wp2_with (first | (((with_reducible refine listN F ?_); clear F; intro wN F)) | ((with_reducible refine at_loadU rfl rfl ?_); first | (with_reducible refine wpList_loadG F rfl rfl rfl (by first | exact m0 | exact m1 | exact m2 | exact m3 | exact m4 | exact m5 | exact m6 | exact m7 | exact m8 | exact m9 | exact m10 | exact m11 | exact m12 | exact m13 | exact m14 | exact m15 | exact m16 | exact m17) Try.underlying27 rfl uinfoCombI (by simp only [List.size_toArray]; first | exact hl0.out | exact huA0.out | exact huB0.out | exact huC0.out | exact huS.out | exact huI.out | exact huH.out) ?_) | (with_reducible refine wpList_loadG F rfl rfl rfl (by first | exact m0 | exact m1 | exact m2 | exact m3 | exact m4 | exact m5 | exact m6 | exact m7 | exact m8 | exact m9 | exact m10 | exact m11 | exact m12 | exact m13 | exact m14 | exact m15 | exact m16 | exact m17) Try.underlying35 rfl uinfoCombL (by simp only [List.size_toArray]; first | exact hl0.out | exact huA0.out | exact huB0.out | exact huC0.out | exact huS.out | exact huI.out | exact huH.out) ?_)) | ((with_reducible refine at_loadV rfl rfl ?_); first | (with_reducible refine wpList_loadGG F rfl rfl (by first | exact m0 | exact m1 | exact m2 | exact m3 | exact m4 | exact m5 | exact m6 | exact m7 | exact m8 | exact m9 | exact m10 | exact m11 | exact m12 | exact m13 | exact m14 | exact m15 | exact m16 | exact m17) Try.underlying27 rfl uinfoCombI (by simp only [List.size_toArray]; first | exact hl0.out | exact huA0.out | exact huB0.out | exact huC0.out | exact huS.out | exact huI.out | exact huH.out) (by kernel_rfl) ?_)) | (go_at_call 19; ((with_reducible refine (heldU_Comb _ ar0 _ (1 : Int) _ KR.out (by rw [← HB0.out]; exact hmr) (by omega) (by rw [← HB0.out]; omega) (F.layR (by first | exact m0 | exact m1 | exact m2 | exact m3 | exact m4 | exact m5 | exact m6 | exact m7 | exact m8 | exact m9 | exact m10 | exact m11 | exact m12 | exact m13 | exact m14 | exact m15 | exact m16 | exact m17))).mono ?_); rintro e w6 ⟨rfl, hb6⟩; rw [← HB0.out]; replace F := F.le hb6)) | (go_at_call 22; ((with_reducible refine (toU_Comb _ cs0 vs0 _ (Z0.out.le F.below) K0.out hz0).mono ?_); rintro e w1 ⟨usC0, rfl, ho, hl⟩; have huC0 : Hid (usC0.length = 3) := ho.1.trans ((List.length_map ..).trans K0.out.1); have hoC0 := hid ho.all_one; replace F := F.lay1 hl ho; clear ho hl)))
  first | ((with_reducible refine callAt0 F ?_); clear F; intro wN F) | ((with_reducible refine callAtN F ?_); clear F; intro wN F)
  refine (HI.out _ _ _ (F.layN (by first | exact m0 | exact m1 | exact m2 | exact m3 | exact m4 | exact m5 | exact m6 | exact m7 | exact m8 | exact m9 | exact m10 | exact m11 | exact m12 | exact m13 | exact m14 | exact m15 | exact m16 | exact m17))).mono ?_
  rintro e wH ⟨usH, vH1, rfl, oTH, hlH, cH1⟩
  replace cH1 := hid cH1
  have huH : Hid (usH.length = 3) := oTH.1.trans KR.out.1
  have hoH := hid oTH.all_one
  replace F := F.lay1 hlH oTH
  clear hlH oTH
  go_wp2_with (first | (((with_reducible refine listN F ?_); clear F; intro wN F)) | ((with_reducible refine at_store rfl ?_); first | (refine wpList_storeG F rfl rfl rfl rfl rfl (by simp only [List.size_toArray]; rw [huB0.out]; exact uinfoCombI) (by simp only [List.size_toArray]; rw [huB0.out]; rfl) (by exact hoB0.out) ?_; clear F; intro W F zW; clear zW) | (refine wpList_storeG F rfl rfl rfl rfl rfl (by simp only [List.size_toArray]; rw [huS.out]; exact uinfoCombI) (by simp only [List.size_toArray]; rw [huS.out]; rfl) (by exact hoS.out) ?_; clear F; intro W F zW; clear zW) | (refine wpList_storeG F rfl rfl rfl rfl rfl (by simp only [List.size_toArray]; rw [huI.out]; exact uinfoCombI) (by simp only [List.size_toArray]; rw [huI.out]; rfl) (by exact hoI.out) ?_; clear F; intro W F zW; clear zW) | (refine wpList_storeG F rfl rfl rfl rfl rfl (by simp only [List.size_toArray]; rw [huH.out]; exact uinfoCombI) (by simp only [List.size_toArray]; rw [huH.out]; rfl) (by exact hoH.out) ?_; clear F; intro W F zW; clear zW) | (refine wpList_storeG F rfl rfl rfl rfl rfl (by simp only [List.size_toArray]; rw [huA0.out]; exact uinfoCombI) (by simp only [List.size_toArray]; rw [huA0.out]; rfl) (by exact hoA0.out) ?_; clear F; intro W F zW; clear zW)) | ((with_reducible refine at_loadU rfl rfl ?_); first | (with_reducible refine wpList_loadG F rfl rfl rfl (by first | exact m0 | exact m1 | exact m2 | exact m3 | exact m4 | exact m5 | exact m6 | exact m7 | exact m8 | exact m9 | exact m10 | exact m11 | exact m12 | exact m13 | exact m14 | exact m15 | exact m16 | exact m17) Try.underlying27 rfl uinfoCombI (by simp only [List.size_toArray]; first | exact hl0.out | exact huA0.out | exact huB0.out | exact huC0.out | exact huS.out | exact huI.out | exact huH.out) ?_) | (with_reducible refine wpList_loadG F rfl rfl rfl (by first | exact m0 | exact m1 | exact m2 | exact m3 | exact m4 | exact m5 | exact m6 | exact m7 | exact m8 | exact m9 | exact m10 | exact m11 | exact m12 | exact m13 | exact m14 | exact m15 | exact m16 | exact m17) Try.underlying35 rfl uinfoCombL (by simp only [List.size_toArray]; first | exact hl0.out | exact huA0.out | exact huB0.out | exact huC0.out | exact huS.out | exact huI.out | exact huH.out) ?_)) | ((with_reducible refine at_loadV rfl rfl ?_); first | (with_reducible refine wpList_loadGG F rfl rfl (by first | exact m0 | exact m1 | exact m2 | exact m3 | exact m4 | exact m5 | exact m6 | exact m7 | exact m8 | exact m9 | exact m10 | exact m11 | exact m12 | exact m13 | exact m14 | exact m15 | exact m16 | exact m17) Try.underlying27 rfl uinfoCombI (by simp only [List.size_toArray]; first | exact hl0.out | exact huA0.out | exact huB0.out | exact huC0.out | exact huS.out | exact huI.out | exact huH.out) (by kernel_rfl) ?_)) | (go_at_call 17; ((with_reducible refine (eqU_Comb _ _ ar0 _ _ _ (F.layR (by first | exact m0 | exact m1 | exact m2 | exact m3 | exact m4 | exact m5 | exact m6 | exact m7 | exact m8 | exact m9 | exact m10 | exact m11 | exact m12 | exact m13 | exact m14 | exact m15 | exact m16 | exact m17)) (F.layR (by first | exact m0 | exact m1 | exact m2 | exact m3 | exact m4 | exact m5 | exact m6 | exact m7 | exact m8 | exact m9 | exact m10 | exact m11 | exact m12 | exact m13 | exact m14 | exact m15 | exact m16 | exact m17)) KR.out hzr).mono ?_); rintro e w7 ⟨rfl, hb7⟩; replace F := F.le hb7)) | ((with_reducible refine at_convert rfl ?_); first | (with_reducible refine wpList_widen rfl rfl rfl Try.underlying22 Try.underlying43 ?_; intro s1 n1 h1 f1) | (with_reducible refine wpList_widenG rfl rfl Try.underlying22 Try.underlying43 (by kernel_rfl) ?_; intro s1 n1 h1 f1)) | (go_at_call 26; ((with_reducible refine (sameFloat_yes _ _ _ (by exact ((Hid.out ‹Hid (can .f64 _ = can .f64 (widen vH1))›).trans ((congrArg (can .f64) (widen_congr (cH1.out.trans cS1.out.symm))).trans (Hid.out ‹Hid (can .f64 _ = can .f64 (widen vS1))›).symm)))).mono ?_); rintro e w7 ⟨rfl, dq7, rfl⟩; skip)) | (go_at_call 19; ((with_reducible refine (heldU_Comb _ ar0 _ (1 : Int) _ KR.out (by rw [← HB0.out]; exact hmr) (by omega) (by rw [← HB0.out]; omega) (F.layR (by first | exact m0 | exact m1 | exact m2 | exact m3 | exact m4 | exact m5 | exact m6 | exact m7 | exact m8 | exact m9 | exact m10 | exact m11 | exact m12 | exact m13 | exact m14 | exact m15 | exact m16 | exact m17))).mono ?_); rintro e w6 ⟨rfl, hb6⟩; rw [← HB0.out]; replace F := F.le hb6)))
  go_ret
  first | exact ⟨rfl, F.below⟩ | exact ⟨rfl, below_drewN F.below _⟩
set_option maxRecDepth 100000 in
set_option maxHeartbeats 4000000 in
theorem large0 (cs0 : List CD) (vs0 : List Value) (a1 : Nat) (w : World) (z0 : RdL w w.heap.size cs0 vs0) (k0 : ShOkL shComb cs0)  (hg : ¬ szL cs0 ≤ 1048576) :
    Calls Try.prog 5 #[.agg vs0.toArray, .float .f32 a1] w fun e w' => e = .returned (.bool true) ∧ Below w.heap.size w w' := by
  have Z0 := hid z0; have K0 := hid k0; have hl0 : Hid (vs0.length = 3) := z0.1.trans k0.1; clear z0 k0
  have hn0 : (1048576 : Int) - (szL cs0 : Nat) < 0 := by omega
  have F := Frg.nil w
  replace F := F.box 35 vs0.toArray
  go_enter Try.func5, Try.ntmps5
  go_wp2_with (first | (((with_reducible refine listN F ?_); clear F; intro wN F)) | ((with_reducible refine at_loadU rfl rfl ?_); first | (with_reducible refine wpList_loadG F rfl rfl rfl (by first | exact m0 | exact m1 | exact m2 | exact m3 | exact m4 | exact m5 | exact m6 | exact m7 | exact m8 | exact m9 | exact m10 | exact m11 | exact m12 | exact m13 | exact m14 | exact m15 | exact m16 | exact m17) Try.underlying27 rfl uinfoCombI (by simp only [List.size_toArray]; first | exact hl0.out | exact huA0.out | exact huB0.out | exact huC0.out | exact huS.out | exact huI.out | exact huH.out) ?_) | (with_reducible refine wpList_loadG F rfl rfl rfl (by first | exact m0 | exact m1 | exact m2 | exact m3 | exact m4 | exact m5 | exact m6 | exact m7 | exact m8 | exact m9 | exact m10 | exact m11 | exact m12 | exact m13 | exact m14 | exact m15 | exact m16 | exact m17) Try.underlying35 rfl uinfoCombL (by simp only [List.size_toArray]; first | exact hl0.out | exact huA0.out | exact huB0.out | exact huC0.out | exact huS.out | exact huI.out | exact huH.out) ?_)) | ((with_reducible refine at_loadV rfl rfl ?_); first | (with_reducible refine wpList_loadGG F rfl rfl (by first | exact m0 | exact m1 | exact m2 | exact m3 | exact m4 | exact m5 | exact m6 | exact m7 | exact m8 | exact m9 | exact m10 | exact m11 | exact m12 | exact m13 | exact m14 | exact m15 | exact m16 | exact m17) Try.underlying27 rfl uinfoCombI (by simp only [List.size_toArray]; first | exact hl0.out | exact huA0.out | exact huB0.out | exact huC0.out | exact huS.out | exact huI.out | exact huH.out) (by kernel_rfl) ?_)) | (go_at_call 20; ((with_reducible refine (szU_Comb _ cs0 vs0 (1048576 : Int) (-1 : Int) _ (Z0.out.le F.below) K0.out (by omega) (by omega) (lessBy_neg hn0)).mono ?_); rintro e w1 ⟨rfl, hb1⟩; replace F := F.le hb1)))
  go_ret
  first | exact ⟨rfl, F.below⟩ | exact ⟨rfl, below_drewN F.below _⟩
theorem walk (cs0 : List CD) (vs0 : List Value) (a1 : Nat) (w : World) (k0 : HasShL shComb cs0) (z0 : RdL w w.heap.size cs0 vs0) (w1 : fits .f32 a1) :
    Calls Try.prog 5 #[.agg vs0.toArray, .float .f32 a1] w fun e w' => e = .returned (.bool true) ∧ Below w.heap.size w w' := by
  by_cases g0 : szL cs0 ≤ 1048576
  · skip
    obtain ⟨ar0, ar1, ar2, kr, hzr, hS, hI⟩ := both_StepComb cs0 a1 k0
    exact core cs0 vs0 a1 ar0 ar1 ar2 w z0 k0.ok g0 kr hzr  hS hI
  · exact large0 cs0 vs0 a1 w z0 k0.ok  g0
end Go.Proofs.Ytgjdmoenobacgab.fnExactStepComb
