/- Texts of the walk, laid in one file. -/
import Derived.Test.YtgjdmoenobacgabMc
set_option linter.unusedVariables false
set_option linter.unusedSimpArgs false
/- Steps of a region that draws its order: guarded operations, loads of one cell, addresses of elements, new rows, lengths. Nothing here names a program. -/
namespace Go.Fk
open Go Go.RowKit
section
variable {E : Ext} {P : Program} {ops : Array Oper} {W : World} {K : FuncId → Array Value → World → Value → Prop} {Q : Act → World → Prop} {F : Facts} {k : Nat} {o : Oper} {rest : List Oper} {a : Act}
theorem wpFreeD_oneW (hw : Region.wanted o (yielded ops a.tmps) = true) (v : Value) (hr : ∀ w, E.R W w → (execOp a.eval o).run P w = .ok (.value v) w)
    (h : wpFreeD E P ops .any W K Q rest (k + 1) (a.put o.dst v) (F.with k (fun _ => True))) : wpFreeD E P ops .any W K Q (o :: rest) k a F := by
  refine ⟨fun _ u => u = v, ⟨fun _ _ _ _ h => h, .inl ⟨hw, fun w hw _ => ?_⟩⟩, fun u hu => ?_⟩
  · rw [hr w hw]; exact ⟨E.refl w, rfl⟩
  · obtain ⟨w, _, _, rfl⟩ := hu
    exact wpFreeD_weaken _ _ _ _ _ (fun e w h => ⟨h.1, fun _ => trivial⟩) h
theorem wpFreeD_skip (hw : Region.wanted o (yielded ops a.tmps) = false)
    (h : wpFreeD E P ops .any W K Q rest (k + 1) (a.put o.dst undef) (F.with k (fun _ => True))) : wpFreeD E P ops .any W K Q (o :: rest) k a F := by
  refine ⟨fun _ u => u = undef, ⟨fun _ _ _ _ h => h, .inr ⟨hw, fun w _ _ => rfl⟩⟩, fun u hu => ?_⟩
  obtain ⟨w, _, _, rfl⟩ := hu
  exact wpFreeD_weaken _ _ _ _ _ (fun e w h => ⟨h.1, fun _ => trivial⟩) h
theorem wpFreeD_callW (hw : Region.wanted o (yielded ops a.tmps) = true) {f : FuncId} {xs : Array Operand} {ts : Array TypeId} (hop : o.op = Op.call { callee := Callee.value (Operand.func f), args := xs, argTypes := ts }) {fn : Func} (hf : P.funcs[f]? = some fn)
    (hb : fn.body.isNone = false) (hn : (fn.name == "runtime.NumGoroutine") = false) {args : Array Value} (ha : xs.map a.eval = args) (hm : MonoT E (K f args))
    (h1 : ∀ w, E.R W w → behind .any o F w → Calls P f args w (fun e w' => ∃ v, e = .returned v ∧ le w w' ∧ K f args w' v)) (h2 : ∀ v, (∃ w, E.R W w ∧ (∀ e, F e w) ∧ K f args w v) → wpFreeD E P ops .any W K Q rest (k + 1) (a.put o.dst v) (F.with k (fun w => K f args w v))) : wpFreeD E P ops .any W K Q (o :: rest) k a F := by
  refine ⟨K f args, ⟨hm, .inl ⟨hw, fun w hw hbe => ?_⟩⟩, fun v hv => h2 v hv⟩
  rw [run_enter hop hf hb hn ha]
  refine ⟨E.refl w, (h1 w hw hbe).mono ?_, fun _ _ h => h⟩
  rintro e w' ⟨v, rfl, hl, hk⟩
  exact ⟨v, rfl, E.of_le hl, hk⟩
theorem wpFreeD_madeW (hwt : Region.wanted o (yielded ops a.tmps) = true) (f : Nat → Value) (t : TypeId) (cs : Array Value) (hr : ∀ w, (execOp a.eval o).run P w = .ok (.value (f w.heap.size)) (w.alloc (.cells cs t)))
    (h : ∀ b, wpFreeD leX P ops .any W K Q rest (k + 1) (a.put o.dst (f b)) (F.with k (fun w => ∃ b', f b = f b' ∧ Row w b' t cs))) : wpFreeD leX P ops .any W K Q (o :: rest) k a F := by
  refine ⟨fun w v => ∃ b', v = f b' ∧ Row w b' t cs, ⟨fun v w w' hw hv => ?_, .inl ⟨hwt, fun w hw _ => ?_⟩⟩, fun v hv => ?_⟩
  · obtain ⟨b', e, hrow⟩ := hv
    exact ⟨b', e, hrow.le hw⟩
  · rw [hr w]
    exact ⟨le_alloc w _, w.heap.size, rfl, Row.new w t cs⟩
  · obtain ⟨w, _, _, b, rfl, _⟩ := hv
    exact h b
theorem wpFreeD_load1 (hg : o.guard = none) {ty : TypeId} {x : Operand} (hop : o.op = .load ty x) {p : Addr} (hx : a.eval x = .pointer (some p)) {v : Value} (hv : ∀ w, E.R W w → w.cell? p = some v) (hu : ∀ w, (isAgg ty).run P w = .ok false w)
    (h : wpFreeD E P ops .any W K Q rest (k + 1) (a.put o.dst v) (F.with k (fun _ => True))) : wpFreeD E P ops .any W K Q (o :: rest) k a F := by
  refine wpFreeD_one hg v (fun w hw => ?_) h
  have hl : (Instr.loadAt ty (.pointer (some p))).run P w = .ok v w := by
    simp [Instr.loadAt, Instr.sureAddr, loadVar, hu, hv w hw]
  simp [execOp, hop, hx, hl, Result.andThen]
theorem wpFreeD_load1W (hw : Region.wanted o (yielded ops a.tmps) = true) {ty : TypeId} {x : Operand} (hop : o.op = .load ty x) {p : Addr} (hx : a.eval x = .pointer (some p)) {v : Value} (hv : ∀ w, E.R W w → w.cell? p = some v) (hu : ∀ w, (isAgg ty).run P w = .ok false w)
    (h : wpFreeD E P ops .any W K Q rest (k + 1) (a.put o.dst v) (F.with k (fun _ => True))) : wpFreeD E P ops .any W K Q (o :: rest) k a F := by
  refine wpFreeD_oneW hw v (fun w hw => ?_) h
  have hl : (Instr.loadAt ty (.pointer (some p))).run P w = .ok v w := by
    simp [Instr.loadAt, Instr.sureAddr, loadVar, hu, hv w hw]
  simp [execOp, hop, hx, hl, Result.andThen]
theorem wpFreeD_indexW0 (hg : o.guard = none) {t : TypeId} {x y : Operand} (hop : o.op = .indexAddr t x y) {b off n cap sz i : Nat} {kk : IntKind} {e : TypeId} (hx : a.eval x = .slice (some ⟨b, off, none⟩) n cap) (hy : a.eval y = .int kk (i : Int)) (hu : P.underlying t = some (.slice e)) (hs : (P.info? e).map (·.size) = some sz) (hi : i < n)
    (h : wpFreeD E P ops .any W K Q rest (k + 1) (a.put o.dst (.pointer (some ⟨b, off + i * sz, none⟩))) (F.with k (fun _ => True))) : wpFreeD E P ops .any W K Q (o :: rest) k a F :=
  wpFreeD_indexW hg hop hx hy hu hs hi (by rw [add_none]; exact h)
theorem wpFreeD_lenR (hg : o.guard = none) {x : Operand} {t : TypeId} (hop : o.op = Op.call { callee := Callee.builtin Builtin.len, args := #[x], argTypes := #[t] }) {v : Value} (hx : a.eval x = v) {e : TypeId} (hu : P.underlying t = some (.slice e)) {w1 : World} {B : Nat} {y : Nat → Nat} {n : Nat} (hv : RdS w1 B v y n)
    (h : wpFreeD E P ops .any W K Q rest (k + 1) (a.put o.dst (.int .i64 n)) (F.with k (fun _ => True))) : wpFreeD E P ops .any W K Q (o :: rest) k a F := by
  refine wpFreeD_one hg (.int .i64 n) (fun w _ => ?_) h
  rcases hv.form with ⟨rfl, rfl⟩ | ⟨ad, cap, rfl, _, _⟩
  all_goals
    simp [execOp, hop, hx, Result.andThen, resolve, invoke, builtin, Builtin.len_, run_underlying hu]
    try rfl
end
end Go.Fk

/- Pieces for bows and jets: guarded loads of structs in drawn regions; pairs of rings and of numbers. Nothing here names a program. -/
namespace Go.Fk
open Go Go.RowKit
section
variable {P : Program} {ops : Array Oper} {W : World} {K : FuncId → Array Value → World → Value → Prop} {Q : Act → World → Prop} {F : Facts} {k : Nat} {o : Oper} {rest : List Oper} {a : Act}
theorem wpFreeD_loadGW {w0 w1 : World} {L : List Fact} {n : Nat} (hF : Frg w0 w1 L) (hW : W = w1.drewN n) (hw : Region.wanted o (yielded ops a.tmps) = true) {ty : TypeId} {x : Operand} (hop : o.op = .load ty x) {g : Nat} (hx : a.eval x = .pointer (some ⟨g, 0, none⟩)) {t : TypeId} {cs : Array Value} {d : TypeDesc}
    (hm : rowF g t cs ∈ L) (hu : P.underlying ty = some d) (hd : (match d with | .struct _ | .array _ _ => true | _ => false) = true) {m : Nat} (hi : (P.info? ty).map (·.size) = some m) (hs : cs.size = m)
    (h : wpFreeD leX P ops .any W K Q rest (k + 1) (a.put o.dst (.agg cs)) (F.with k (fun _ => True))) : wpFreeD leX P ops .any W K Q (o :: rest) k a F := by
  subst hW hs
  refine wpFreeD_oneW hw (.agg cs) (fun w hw => ?_) h
  have := run_loadVar_row (P := P) w g t ty cs (0, 0) _ (((hF.row hm).drewN n).le hw) hu hd hi
  simp [execOp, hop, hx, Instr.loadAt, Instr.sureAddr, this, Result.andThen]
theorem wpFreeD_indexWG {E : Ext} (hw : Region.wanted o (yielded ops a.tmps) = true) {t : TypeId} {x y : Operand} (hop : o.op = .indexAddr t x y) {b off n cap sz i : Nat} {kk : IntKind} {e : TypeId} (hx : a.eval x = .slice (some ⟨b, off, none⟩) n cap) (hy : a.eval y = .int kk (i : Int)) (hu : P.underlying t = some (.slice e)) (hs : (P.info? e).map (·.size) = some sz) (hi : i < n)
    (h : wpFreeD E P ops .any W K Q rest (k + 1) (a.put o.dst (.pointer (some ⟨b, off + i * sz, none⟩))) (F.with k (fun _ => True))) : wpFreeD E P ops .any W K Q (o :: rest) k a F := by
  refine wpFreeD_oneW hw (.pointer (some ⟨b, off + i * sz, none⟩)) (fun w _ => ?_) h
  cases hq : P.info? e with
  | none => simp [hq] at hs
  | some inf =>
    have hz : inf.size = sz := by simpa [hq] using hs
    have h2 : (i : Int) < (n : Int) := by omega
    simp [execOp, hop, hx, hy, Instr.indexAt, asIntOf, run_underlying hu, sizeOf, typeInfo, hq, hz, h2, hi, Result.andThen, add_none]
end
theorem Row.at_part {w : World} {g : Nat} {t : TypeId} {cs : Array Value} (R : Row w g t cs) {f : Nat} {ds : List Value} (hp : ∀ j, j < ds.length → cs[f + j]? = ds[j]?) : ∀ (j : Nat) (v : Value), ds[j]? = some v → w.cell? ((⟨g, f, none⟩ : Addr).add j) = some v := fun j v hv => by
  rw [add_none, R.cell?, hp j (List.getElem?_eq_some_iff.1 hv).1, hv]
theorem CD.RdN.mono {w : World} {B B' : Nat} (hB : B ≤ B') : ∀ {c : CD} {v : Value}, c.RdN w B v → c.RdN w B' v := by
  intro c
  induction c with
  | sl wd n x ih =>
    intro v h
    rcases h with h | ⟨b, o, cap, h1, h2, h3, h4⟩
    · exact .inl h
    · exact .inr ⟨b, o, cap, h1, h2, h3, fun i hi => by obtain ⟨h5, u, h6, h7⟩ := h4 i hi; exact ⟨by omega, u, h6, ih i h7⟩⟩
  | _ => intro v h; exact h
theorem bool_ft (b : Bool) : b = false ∨ b = true := by cases b <;> simp
/-- A slice of floats, as a tree. -/
def slT (x : Nat → Nat) (n : Nat) : CD := .sl 1 n (fun i => .fcn .f32 (x i))
theorem slT_rds {x : Nat → Nat} {n B : Nat} {w : World} {s : Value} (h : (slT x n).RdN w B s) : RdS w B s x n := h.rd.rds
theorem CD.RdN.congr {w : World} {B : Nat} : ∀ {c d : CD} {v : Value}, c.RdN w B v → c.Eqv d → d.RdN w B v := by
  intro c
  induction c with
  | sl wd n x ih =>
    intro d v h he
    obtain ⟨y, rfl, hy⟩ := he
    rcases h with h | ⟨b, o, cap, h1, h2, h3, h4⟩
    · exact .inl h
    · exact .inr ⟨b, o, cap, h1, h2, h3, fun i hi => by obtain ⟨h5, u, h6, h7⟩ := h4 i hi; exact ⟨h5, u, h6, ih i h7 (hy i hi)⟩⟩
  | _ => intro d v h he; cases he; exact h
/-- A copy of a slice of floats. -/
theorem slT_cp {n : Nat} {x : Nat → CD} (h : ∀ i, i < n → (x i).flk = some .f32) : (CD.sl 1 n x).cp.Eqv (slT (fun i => (x i).fx) n) :=
  ⟨_, rfl, fun i hi => by show (x i).cn.Eqv (.fcn .f32 (x i).fx); rw [CD.cn_fl (h i (by simpa using hi))]; exact CD.Eqv.refl _⟩
/-- Two rings. -/
def rg2 (x y : Nat → Nat) (nx ny : Nat) (j k : Int) : Nat → CD
  | 0 => slT x nx
  | 1 => .int .i64 j
  | 2 => slT y ny
  | _ => .int .i64 k
theorem rg2_ok (x y : Nat → Nat) (nx ny : Nat) (j k : Int) : RgsOk (rg2 x y nx ny j k) 2 := fun i hi => by
  match i, hi with
  | 0, _ => exact ⟨⟨_, rfl, fun _ _ => rfl, rfl⟩, rfl⟩
  | 1, _ => exact ⟨⟨_, rfl, fun _ _ => rfl, rfl⟩, rfl⟩
def rngB (x : Nat → Nat) (n : Nat) (j : Int) : Bool := okRing n j && finB x n
theorem rg2_all (x y : Nat → Nat) (nx ny : Nat) (j k : Int) : allB (rgOk (rg2 x y nx ny j k)) 2 = (rngB x nx j && rngB y ny k) := by
  simp [allB, List.range_succ]; rfl
theorem rg2_rd {x y : Nat → Nat} {nx ny B b : Nat} {j k : Int} {w : World} {s t : Value} {ty : TypeId} (hs : (slT x nx).RdN w B s) (ht : (slT y ny).RdN w B t) (wj : (Lit.int .i64 j).wf = true) (wk : (Lit.int .i64 k).wf = true) (R : Row w b ty #[s, .int .i64 j, t, .int .i64 k]) :
    (CD.sl 2 2 (rg2 x y nx ny j k)).RdN w (max B (b + 1)) (.slice (some ⟨b, 0, none⟩) 2 2) := by
  refine .inr ⟨b, 0, 2, rfl, Nat.le_refl _, by decide, fun i hi => ⟨by omega, ?_⟩⟩
  match i, hi with
  | 0, _ => exact ⟨s, R.cell? 0, hs.mono (by omega)⟩
  | 1, _ => exact ⟨_, R.cell? 1, rfl, wj⟩
  | 2, _ => exact ⟨t, R.cell? 2, ht.mono (by omega)⟩
  | 3, _ => exact ⟨_, R.cell? 3, rfl, wk⟩
/-- Two numbers. -/
def two (m o : Nat) : Nat → Nat := fun i => match i with | 0 => can .f32 m | _ => can .f32 o
theorem fin_two (m o : Nat) : finB (two m o) 2 = (fin m && fin o) := by
  have e : ∀ z, fin (can .f32 z) = fin z := fun z => fin_can (can_can _ _)
  simp [finB, two, List.range_succ, e]
theorem two_rd {m o b : Nat} {w : World} {ty : TypeId} (hm : fits .f32 m) (ho : fits .f32 o) (R : Row w b ty #[.float .f32 m, .float .f32 o]) : RdS w (b + 1) (.slice (some ⟨b, 0, none⟩) 2 2) (two m o) 2 :=
  .inr ⟨⟨b, 0, none⟩, 2, rfl, Nat.le_refl _, by decide, fun i hi => ⟨Nat.lt_succ_self _, by rw [add_none, Nat.zero_add]; match i, hi with
    | 0, _ => exact ⟨m, R.cell? 0, hm, rfl⟩
    | 1, _ => exact ⟨o, R.cell? 1, ho, rfl⟩⟩⟩
/-- A new row that is known. -/
def OutSl (t : TypeId) (n : Nat) (cs : Array Value) (w : World) (e : Ending) (w' : World) : Prop := ∃ g, e = .returned (.slice (some ⟨g, 0, none⟩) n n) ∧ w.heap.size ≤ g ∧ Row w' g t cs ∧ le w w'
theorem Frg.rowS {w0 w w' : World} {L : List Fact} (h : Frg w0 w L) (k : Below w.heap.size w w') {g : Nat} {t : TypeId} {cs : Array Value} (hg : w.heap.size ≤ g) (hr : Row w' g t cs) : Frg w0 w' (rowF g t cs :: L) :=
  h.push k hr hg hr.lt
end Go.Fk

/- Combs: data, 'ValidComb' of both. -/
namespace Go.Fk
open Go Go.RowKit
def okComb (x : Nat → Nat) (n : Nat) (j : Int) (g : Nat) : Bool := rngB x n j && fin g
/-- A ring as a list. -/
def rg1 (x : Nat → Nat) (n : Nat) (j : Int) : Nat → CD
  | 0 => slT x n
  | _ => .int .i64 j
theorem rg1_ok (x : Nat → Nat) (n : Nat) (j : Int) : RgsOk (rg1 x n j) 1 := fun i hi => by
  match i, hi with
  | 0, _ => exact ⟨⟨_, rfl, fun _ _ => rfl, rfl⟩, rfl⟩
theorem rg1_all (x : Nat → Nat) (n : Nat) (j : Int) : allB (rgOk (rg1 x n j)) 1 = rngB x n j := by
  simp [allB, List.range_succ]; rfl
theorem rg1_rd {x : Nat → Nat} {n B b : Nat} {j : Int} {w : World} {s : Value} {ty : TypeId} (hs : (slT x n).RdN w B s) (wj : (Lit.int .i64 j).wf = true) (R : Row w b ty #[s, .int .i64 j]) :
    (CD.sl 2 1 (rg1 x n j)).RdN w (max B (b + 1)) (.slice (some ⟨b, 0, none⟩) 1 1) := by
  refine .inr ⟨b, 0, 1, rfl, Nat.le_refl _, by decide, fun i hi => ⟨by omega, ?_⟩⟩
  match i, hi with
  | 0, _ => exact ⟨s, R.cell? 0, hs.mono (by omega)⟩
  | 1, _ => exact ⟨_, R.cell? 1, rfl, wj⟩
end Go.Fk
namespace Go.Proofs.Ytgjdmoenobacgab
open Go.RowKit Go.Fk
set_option maxRecDepth 100000 in
set_option maxHeartbeats 4000000 in
theorem i_ValidComb (x : Nat → Nat) (n : Nat) (j : Int) (g : Nat) (B : Nat) (s : Value) (w : World) (hs : (slT x n).RdN w B s) (wj : (Lit.int .i64 j).wf = true) (hg : fits .f32 g) :
    Calls Try.prog 23 #[.agg #[s, .int .i64 j, .float .f32 g]] w (Out_b (okComb x n j g) w) := by
  have HR := hid (fun (w' : World) (hl : le w w') => i_isFiniteRing B s x n j w' ((slT_rds hs).le hl))
  have HF := hid (fun (w' : World) => i_isFinite g w' hg)
  clear hs wj hg
  change Calls _ _ _ _ (Out_b ((okRing n j && finB x n) && fin g) w)
  cases hr : (okRing n j && finB x n)
  all_goals
    rw [hr] at HR
    cases hf : fin g
    all_goals
      rw [hf] at HF
      clear hr hf
      have F := (Frg.nil w).box 27 #[s, .int .i64 j, .float .f32 g]
      have c2 := (F.row m0).cell? 2
      go_enter Try.func23, Try.ntmps23
      go_wp2_with (first | ((with_reducible refine at_load rfl ?_); first | (with_reducible refine wpList_loadGP F rfl rfl rfl (by first | exact m0 | exact m1 | exact m2) Try.underlying25 rfl [s, .int .i64 j] (partComb_Ring (s) (.int .i64 j) (.float .f32 g)) uinfoRingI rfl ?_) | (with_reducible refine wpList_load1 F rfl rfl rfl (by first | exact m0 | exact m1 | exact m2) (f := 2) (v := .float .f32 g) rfl ukindFloat32 ?_)) | (go_at_call 67; ((with_reducible refine (HR.out _ F.below).mono ?_); rintro e w1 ⟨rfl, hl⟩; replace F := F.le hl; have c2w := (F.row m0).cell? 2; clear hl)) | (go_at_call 68; ((with_reducible refine (HF.out _).mono ?_); rintro e w2 ⟨rfl, rfl⟩)))
      go_ret
      exact ⟨rfl, F.below⟩
set_option maxRecDepth 100000 in
set_option maxHeartbeats 4000000 in
theorem s_l06Comb (x : Nat → Nat) (n : Nat) (j : Int) (g : Nat) (B : Nat) (s : Value) (w : World) (g0 f : Nat) (t : TypeId) (cs : Array Value) (R : Row w g0 t cs) (e0 : cs[f]? = some s) (e1 : cs[f + 1]? = some (.int .i64 j)) (e2 : cs[f + 2]? = some (.float .f32 g)) (hs : (slT x n).RdN w B s) (wj : (Lit.int .i64 j).wf = true) :
    Calls Try.prog 65 #[.pointer (some ⟨g0, f, none⟩)] w (Out_b (okComb x n j g) w) := by
  have HR := hid (fun (b : Nat) (w1 : World) (h1 : le w w1) (R : Row w1 b 25 #[s, .int .i64 j]) => s_l04Rings _ _ _ 1 w1 (rg1_rd (hs.le h1) wj R) (rg1_ok x n j))
  rw [rg1_all] at HR
  have HF := hid (fun (w' : World) => s_l01Finite g w')
  have HRW := hid R
  have hc : ∀ i, i < [s, Value.int .i64 j].length → cs[f + i]? = [s, Value.int .i64 j][i]? := fun i hi => by match i, hi with | 0, _ => exact e0 | 1, _ => exact e1
  have HC := hid hc
  have HC2 := hid (fun (w' : World) (hl : le w w') => ((R.le hl).cell? (f + 2)).trans e2)
  clear hs wj R hc e0 e1 e2
  change Calls _ _ _ _ (Out_b (rngB x n j && fin g) w)
  cases hr : rngB x n j
  all_goals
    rw [hr] at HR
    cases hf : fin g
    all_goals
      rw [hf] at HF
      clear hr hf
      go_enter Try.func65, Try.ntmps65
      go_wp2_with (first | ((with_reducible refine at_loadU rfl rfl ?_); (with_reducible refine wpList_loadPR HRW.out rfl rfl rfl Try.underlying25 rfl [s, .int .i64 j] HC.out uinfoRingI rfl ?_)) | (go_at_call 127; ((with_reducible refine (HR.out _ _ (le_alloc _ _) (Row.new _ _ _)).mono ?_); rintro e w1 ⟨rfl, m, rfl⟩; have c2w := HC2.out _ (le_trans (le_alloc w (.cells #[s, .int .i64 j] 25)) (le_drewN _ m)))) | (go_at_call 77; ((with_reducible refine (HF.out _).mono ?_); rintro e w2 ⟨rfl, m2, rfl⟩)))
      go_ret
      first
      | exact ⟨rfl, le_trans (le_alloc _ _) (le_drewN _ _)⟩
      | exact ⟨rfl, le_trans (le_alloc _ _) (le_trans (le_drewN _ _) (le_drewN _ _))⟩
set_option maxRecDepth 100000 in
set_option maxHeartbeats 4000000 in
theorem s_ValidComb (x : Nat → Nat) (n : Nat) (j : Int) (g : Nat) (B : Nat) (s : Value) (w : World) (hs : (slT x n).RdN w B s) (wj : (Lit.int .i64 j).wf = true) (hg : fits .f32 g) :
    Calls Try.prog 21 #[.agg #[s, .int .i64 j, .float .f32 g]] w (Out_b (okComb x n j g) w) := by
  have HV := hid (fun (w' : World) (g0 : Nat) (hl : le w w') (R : Row w' g0 27 #[s, .int .i64 j, .float .f32 g]) => s_l06Comb x n j g B s w' g0 0 _ _ R rfl rfl rfl (hs.le hl) wj)
  clear hs wj hg
  have F := (Frg.nil w).box 27 #[s, .int .i64 j, .float .f32 g]
  go_enter Try.func21, Try.ntmps21
  go_wp2_with (go_at_call 65; ((with_reducible refine (HV.out _ _ F.below (F.row m0)).mono ?_); rintro e w1 ⟨rfl, hl⟩; replace F := F.le hl; clear hl))
  go_ret
  exact ⟨rfl, F.below⟩
theorem comb_data {cs : List CD} (h : HasShL shComb cs) : ∃ (xs : Nat → CD) (n : Nat) (j : Int) (g : Nat), cs = [.sl 1 n xs, .int .i64 j, .flt .f32 g] ∧ (∀ i, i < n → (xs i).flk = some .f32) := by
  obtain ⟨c0, cs, rfl, q0, h⟩ := h.inv
  obtain ⟨c1, cs, rfl, q1, h⟩ := h.inv
  obtain ⟨c2, cs, rfl, q2, h⟩ := h.inv
  obtain rfl := h.inv0
  obtain ⟨n, xs, rfl, r0⟩ := q0
  obtain ⟨j, rfl⟩ := q1
  obtain ⟨g, rfl⟩ := q2
  exact ⟨xs, n, j, g, rfl, fun i hi => ShOk.flts (fun i hi j hj => (r0 i hi j hj).ok) rfl i hi⟩
theorem comb_open {xs : Nat → CD} {n : Nat} {j : Int} {g : Nat} {w : World} {B : Nat} {u : List Value} (h : RdLN w B (([.sl 1 n xs, .int .i64 j, .flt .f32 g] : List CD).map CD.cp) u) (hx : ∀ i, i < n → (xs i).flk = some .f32) : ∃ s : Value, u = [s, .int .i64 j, .float .f32 g] ∧ (slT (fun i => (xs i).fx) n).RdN w B s ∧ (Lit.int .i64 j).wf = true ∧ fits .f32 g := by
  simp only [List.map_cons, List.map_nil] at h
  obtain ⟨v0, u0, rfl, q0, hh0⟩ := h.inv
  obtain ⟨v1, u1, rfl, q1, hh1⟩ := hh0.inv
  obtain ⟨v2, u2, rfl, q2, hh2⟩ := hh1.inv
  obtain rfl := hh2.inv0
  obtain ⟨rfl, f1⟩ := q1
  obtain ⟨rfl, f2⟩ := q2
  exact ⟨v0, rfl, q0.congr (slT_cp hx), f1, f2⟩
theorem both_ValidComb (cs : List CD) (h : HasShL shComb cs) : ∃ ar0 : Bool, (∀ (w : World) (B : Nat) (u : List Value), RdLN w B (cs.map CD.cp) u → Calls Try.prog 21 #[.agg u.toArray] w (Out_b ar0 w)) ∧ (∀ (w : World) (B : Nat) (u : List Value), RdLN w B (cs.map CD.cp) u → Calls Try.prog 23 #[.agg u.toArray] w (Out_b ar0 w)) := by
  obtain ⟨xs, n, j, g, rfl, hx⟩ := comb_data h
  refine ⟨okComb (fun i => (xs i).fx) n j g, fun w B u hu => ?_, fun w B u hu => ?_⟩
  · obtain ⟨s, rfl, hs, wj, hg⟩ := comb_open hu hx
    exact s_ValidComb (fun i => (xs i).fx) n j g B s w hs wj hg
  · obtain ⟨s, rfl, hs, wj, hg⟩ := comb_open hu hx
    exact i_ValidComb (fun i => (xs i).fx) n j g B s w hs wj hg
end Go.Proofs.Ytgjdmoenobacgab

/- The walk of 'FnExactValidComb'. -/
namespace Go.Proofs.Ytgjdmoenobacgab.fnExactValidComb
open Go.RowKit Go.Fk
set_option maxRecDepth 100000 in
set_option maxHeartbeats 4000000 in
theorem core (cs0 : List CD) (vs0 : List Value) (ar0 : Bool) (w : World) (z0 : RdL w w.heap.size cs0 vs0) (k0 : ShOkL shComb cs0) (hz : szL cs0 ≤ 1048576)
    (hS : ∀ (w : World) (B0 : Nat) (u0 : List Value), RdLN w B0 (cs0.map CD.cp) u0 → Calls Try.prog 21 #[.agg u0.toArray] w (Out_b ar0 w))
    (hI : ∀ (w : World) (B0 : Nat) (u0 : List Value), RdLN w B0 (cs0.map CD.cp) u0 → Calls Try.prog 23 #[.agg u0.toArray] w (Out_b ar0 w)) :
    Calls Try.prog 4 #[.agg vs0.toArray] w fun e w' => e = .returned (.bool true) ∧ Below w.heap.size w w' := by
  have Z0 := hid z0; have K0 := hid k0; have hl0 : Hid (vs0.length = 3) := z0.1.trans k0.1; clear z0 k0
  have hz0 : szL cs0 ≤ 1048576 := by omega
  have hm0 : ¬ (1048576 : Int) - (szL cs0 : Nat) < 0 := by omega
  have HS := hid hS; have HI := hid hI; clear hS hI
  have F := Frg.nil w
  replace F := F.box 35 vs0.toArray
  go_enter Try.func4, Try.ntmps4
  go_wp2_with (first | (((with_reducible refine listN F ?_); clear F; intro wN F)) | ((with_reducible refine at_loadU rfl rfl ?_); first | (with_reducible refine wpList_loadG F rfl rfl rfl (by first | exact m0 | exact m1 | exact m2 | exact m3 | exact m4 | exact m5 | exact m6 | exact m7 | exact m8) Try.underlying27 rfl uinfoCombI (by simp only [List.size_toArray]; first | exact hl0.out | exact hl1.out | exact hu0.out | exact hu1.out) ?_) | (with_reducible refine wpList_loadG F rfl rfl rfl (by first | exact m0 | exact m1 | exact m2 | exact m3 | exact m4 | exact m5 | exact m6 | exact m7 | exact m8) Try.underlying35 rfl uinfoCombL (by simp only [List.size_toArray]; first | exact hl0.out | exact hl1.out | exact hu0.out | exact hu1.out) ?_)) | (go_at_call 20; ((with_reducible refine (szU_Comb _ cs0 vs0 (1048576 : Int) ((1048576 : Int) - (szL cs0 : Nat)) _ (Z0.out.le F.below) K0.out (by omega) (by omega) (lessBy_pos hm0)).mono ?_); rintro e w1 ⟨rfl, hb1⟩; replace F := F.le hb1)) | (go_at_call 22; ((with_reducible refine (toU_Comb _ cs0 vs0 _ (Z0.out.le F.below) K0.out hz0).mono ?_); rintro e w1 ⟨usA0, rfl, ho, hl⟩; have hu0 : Hid (usA0.length = 3) := ho.1.trans ((List.length_map ..).trans K0.out.1); have ho0 := hid ho.all_one; replace F := F.lay1 hl ho; clear ho hl)))
  first | ((with_reducible refine callAt0 F ?_); clear F; intro wN F) | ((with_reducible refine callAtN F ?_); clear F; intro wN F)
  refine (HS.out _ _ _ (F.layN (by first | exact m0 | exact m1 | exact m2 | exact m3 | exact m4 | exact m5 | exact m6 | exact m7 | exact m8))).mono ?_
  rintro e wS ⟨rfl, hlS⟩
  replace F := F.le hlS
  go_wp2_with (first | (((with_reducible refine listN F ?_); clear F; intro wN F)) | ((with_reducible refine at_store rfl ?_); first | (refine wpList_storeG F rfl rfl rfl rfl rfl (by simp only [List.size_toArray]; first | (rw [hu0.out]; exact uinfoCombI) | (rw [hu1.out]; exact uinfoCombI)) (by simp only [List.size_toArray]; first | (rw [hu0.out]; rfl) | (rw [hu1.out]; rfl)) (by first | exact ho0.out | exact ho1.out) ?_; clear F; intro W F zW; clear zW)) | ((with_reducible refine at_loadU rfl rfl ?_); first | (with_reducible refine wpList_loadG F rfl rfl rfl (by first | exact m0 | exact m1 | exact m2 | exact m3 | exact m4 | exact m5 | exact m6 | exact m7 | exact m8) Try.underlying27 rfl uinfoCombI (by simp only [List.size_toArray]; first | exact hl0.out | exact hl1.out | exact hu0.out | exact hu1.out) ?_) | (with_reducible refine wpList_loadG F rfl rfl rfl (by first | exact m0 | exact m1 | exact m2 | exact m3 | exact m4 | exact m5 | exact m6 | exact m7 | exact m8) Try.underlying35 rfl uinfoCombL (by simp only [List.size_toArray]; first | exact hl0.out | exact hl1.out | exact hu0.out | exact hu1.out) ?_)) | (go_at_call 22; ((with_reducible refine (toU_Comb _ cs0 vs0 _ (Z0.out.le F.below) K0.out hz0).mono ?_); rintro e w1 ⟨usB0, rfl, ho, hl⟩; have hu0 : Hid (usB0.length = 3) := ho.1.trans ((List.length_map ..).trans K0.out.1); have ho0 := hid ho.all_one; replace F := F.lay1 hl ho; clear ho hl)))
  first | ((with_reducible refine callAt0 F ?_); clear F; intro wN F) | ((with_reducible refine callAtN F ?_); clear F; intro wN F)
  refine (HI.out _ _ _ (F.layN (by first | exact m0 | exact m1 | exact m2 | exact m3 | exact m4 | exact m5 | exact m6 | exact m7 | exact m8))).mono ?_
  rintro e wI ⟨rfl, hlI⟩
  replace F := F.le hlI
  go_wp2_with (first | (((with_reducible refine listN F ?_); clear F; intro wN F)) | ((with_reducible refine at_store rfl ?_); first | (refine wpList_storeG F rfl rfl rfl rfl rfl (by simp only [List.size_toArray]; first | (rw [hu0.out]; exact uinfoCombI) | (rw [hu1.out]; exact uinfoCombI)) (by simp only [List.size_toArray]; first | (rw [hu0.out]; rfl) | (rw [hu1.out]; rfl)) (by first | exact ho0.out | exact ho1.out) ?_; clear F; intro W F zW; clear zW)) | ((with_reducible refine at_loadU rfl rfl ?_); first | (with_reducible refine wpList_loadG F rfl rfl rfl (by first | exact m0 | exact m1 | exact m2 | exact m3 | exact m4 | exact m5 | exact m6 | exact m7 | exact m8) Try.underlying27 rfl uinfoCombI (by simp only [List.size_toArray]; first | exact hl0.out | exact hl1.out | exact hu0.out | exact hu1.out) ?_) | (with_reducible refine wpList_loadG F rfl rfl rfl (by first | exact m0 | exact m1 | exact m2 | exact m3 | exact m4 | exact m5 | exact m6 | exact m7 | exact m8) Try.underlying35 rfl uinfoCombL (by simp only [List.size_toArray]; first | exact hl0.out | exact hl1.out | exact hu0.out | exact hu1.out) ?_)))
  first | (refine wpAt0 F ?_; clear F; intro wN F) | (refine wpAtN F ?_; clear F; intro wN F)
  refine region_freeD (E := leX) (fun f _ w v => if f = 22 then ∃ (us : List Value) (B : Nat), v = .agg us.toArray ∧ RdL w B (cs0.map CD.cp) us else v = .bool true) (by kernel_rfl) (by kernel_rfl) ?_
  refine wpFreeD_loadG F rfl rfl rfl rfl (by first | exact m0 | exact m1 | exact m2 | exact m3 | exact m4 | exact m5 | exact m6 | exact m7 | exact m8) Try.underlying27 rfl uinfoCombI (by simp only [List.size_toArray]; exact hu0.out) ?_
  simp only [Act.put, List.setIfInBounds_toArray, List.set_cons_succ, List.set_cons_zero]
  refine wpFreeD_loadG F rfl rfl rfl rfl (by first | exact m0 | exact m1 | exact m2 | exact m3 | exact m4 | exact m5 | exact m6 | exact m7 | exact m8) Try.underlying35 rfl uinfoCombL (by simp only [List.size_toArray]; exact hl0.out) ?_
  simp only [Act.put, List.setIfInBounds_toArray, List.set_cons_succ, List.set_cons_zero]
  refine wpFreeD_callB rfl rfl Try.func22 (by kernel_rfl) (by kernel_rfl) (args := #[.agg vs0.toArray]) (by simp [Act.eval]) (fun v w1 w2 hw hv => by simp only [if_true] at hv ⊢; obtain ⟨u, B, h1, h2⟩ := hv; exact ⟨u, B, h1, h2.le hw⟩) (fun w1 hw1 _ => (toU_Comb _ cs0 vs0 w1 (Z0.out.le (le_trans (F.drewN _).below hw1)) K0.out hz0).mono ?_) ?_
  · rintro e w2 ⟨u, rfl, ho, hl⟩
    exact ⟨_, rfl, hl, by simp only [if_true]; exact ⟨u, _, rfl, ho.rd (fun _ hj => hj.2)⟩⟩
  rintro v ⟨_, _, _, hv⟩
  simp only [if_true] at hv
  obtain ⟨u0, Bu0, rfl, _⟩ := hv
  simp only [Act.put, List.setIfInBounds_toArray, List.set_cons_succ, List.set_cons_zero]
  refine wpFreeD_callB rfl rfl Try.func17 (by kernel_rfl) (by kernel_rfl) (args := #[.agg usB0.toArray, .agg u0.toArray]) (by simp [Act.eval]) (fun v w1 w2 hw hv => by simp only [show ¬ (17 = 22) by decide, if_false] at hv ⊢; exact hv) (fun w1 hw1 hbe => ?_) ?_
  · have hk := (hbe ⟨2, Ground.data⟩ (by simp) (by kernel_rfl)).2 rfl
    simp only [if_true] at hk
    obtain ⟨u', B', he, hr⟩ := hk
    obtain rfl : u0 = u' := by simpa using he
    refine (eqU_Comb _ _ (cs0.map CD.cp) _ _ _ (((F.drewN 1).le hw1).layR (by first | exact m0 | exact m1 | exact m2 | exact m3 | exact m4 | exact m5 | exact m6 | exact m7 | exact m8)) hr K0.out.cp (by rw [szL_cp]; exact hz0)).mono ?_
    rintro e w2 ⟨rfl, hl⟩
    exact ⟨_, rfl, hl, by simp only [show ¬ (17 = 22) by decide, if_false]⟩
  rintro v ⟨_, _, _, hv⟩
  simp only [show ¬ (17 = 22) by decide, if_false] at hv
  subst hv
  simp only [Act.put, List.setIfInBounds_toArray, List.set_cons_succ, List.set_cons_zero]
  refine wpFreeD_one rfl (.bool false) (fun w1 _ => by kernel_rfl) ?_
  simp only [Act.put, List.setIfInBounds_toArray, List.set_cons_succ, List.set_cons_zero]
  refine wpFreeD_nil (fun wR hwR _ => ?_)
  replace F := (F.drewN 1).le hwR
  clear hwR
  go_wp2_with (first | (((with_reducible refine listN F ?_); clear F; intro wN F)) | ((with_reducible refine at_loadU rfl rfl ?_); first | (with_reducible refine wpList_loadG F rfl rfl rfl (by first | exact m0 | exact m1 | exact m2 | exact m3 | exact m4 | exact m5 | exact m6 | exact m7 | exact m8) Try.underlying27 rfl uinfoCombI (by simp only [List.size_toArray]; first | exact hl0.out | exact hl1.out | exact hu0.out | exact hu1.out) ?_) | (with_reducible refine wpList_loadG F rfl rfl rfl (by first | exact m0 | exact m1 | exact m2 | exact m3 | exact m4 | exact m5 | exact m6 | exact m7 | exact m8) Try.underlying35 rfl uinfoCombL (by simp only [List.size_toArray]; first | exact hl0.out | exact hl1.out | exact hu0.out | exact hu1.out) ?_)))
  go_ret
  first | exact ⟨rfl, F.below⟩ | exact ⟨rfl, below_drewN F.below _⟩
set_option maxRecDepth 100000 in
set_option maxHeartbeats 4000000 in
theorem large0 (cs0 : List CD) (vs0 : List Value) (w : World) (z0 : RdL w w.heap.size cs0 vs0) (k0 : ShOkL shComb cs0)  (hg : ¬ szL cs0 ≤ 1048576) :
    Calls Try.prog 4 #[.agg vs0.toArray] w fun e w' => e = .returned (.bool true) ∧ Below w.heap.size w w' := by
  have Z0 := hid z0; have K0 := hid k0; have hl0 : Hid (vs0.length = 3) := z0.1.trans k0.1; clear z0 k0
  have hn0 : (1048576 : Int) - (szL cs0 : Nat) < 0 := by omega
  have F := Frg.nil w
  replace F := F.box 35 vs0.toArray
  go_enter Try.func4, Try.ntmps4
  go_wp2_with (first | (((with_reducible refine listN F ?_); clear F; intro wN F)) | ((with_reducible refine at_loadU rfl rfl ?_); first | (with_reducible refine wpList_loadG F rfl rfl rfl (by first | exact m0 | exact m1 | exact m2 | exact m3 | exact m4 | exact m5 | exact m6 | exact m7 | exact m8) Try.underlying27 rfl uinfoCombI (by simp only [List.size_toArray]; first | exact hl0.out | exact hl1.out | exact hu0.out | exact hu1.out) ?_) | (with_reducible refine wpList_loadG F rfl rfl rfl (by first | exact m0 | exact m1 | exact m2 | exact m3 | exact m4 | exact m5 | exact m6 | exact m7 | exact m8) Try.underlying35 rfl uinfoCombL (by simp only [List.size_toArray]; first | exact hl0.out | exact hl1.out | exact hu0.out | exact hu1.out) ?_)) | (go_at_call 20; ((with_reducible refine (szU_Comb _ cs0 vs0 (1048576 : Int) (-1 : Int) _ (Z0.out.le F.below) K0.out (by omega) (by omega) (lessBy_neg hn0)).mono ?_); rintro e w1 ⟨rfl, hb1⟩; replace F := F.le hb1)))
  go_ret
  first | exact ⟨rfl, F.below⟩ | exact ⟨rfl, below_drewN F.below _⟩
theorem walk (cs0 : List CD) (vs0 : List Value) (w : World) (k0 : HasShL shComb cs0) (z0 : RdL w w.heap.size cs0 vs0) :
    Calls Try.prog 4 #[.agg vs0.toArray] w fun e w' => e = .returned (.bool true) ∧ Below w.heap.size w w' := by
  by_cases g0 : szL cs0 ≤ 1048576
  · skip
    obtain ⟨ar0, hS, hI⟩ := both_ValidComb cs0 k0
    exact core cs0 vs0 ar0 w z0 k0.ok g0 hS hI
  · exact large0 cs0 vs0 w z0 k0.ok  g0
end Go.Proofs.Ytgjdmoenobacgab.fnExactValidComb
