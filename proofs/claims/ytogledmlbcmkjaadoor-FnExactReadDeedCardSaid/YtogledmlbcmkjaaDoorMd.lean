/- Texts of the walk, laid in one file. -/
import Derived.Lib.SlBytesRow
import Derived.Lib.Join
import Derived.Shelf.Strconv.Itoa4
import Derived.Lib.AppendIntMem
import Derived.Test.YtogledmlbcmkjaaDoorRows
import Derived.Shelf.Strings.OnBuilder
import Derived.Great.BuildSlice
import Derived.Laws.Concat
import Derived.Deep.AppendLies
import Derived.Test.YtogledmlbcmkjaaDoorMc
set_option linter.unusedVariables false
set_option linter.unusedSimpArgs false
/- Steps of a region that draws its order: guarded operations, loads of one cell, addresses of elements, new rows, lengths. Nothing here names a program. -/
namespace Go.Fk
open Go Go.RowKit
section
variable {E : Ext} {P : Program} {ops : Array Oper} {W : World} {K : FuncId → Array Value → World → Value → Prop} {Q : Act → World → Prop} {F : Facts} {k : Nat} {o : Oper} {rest : List Oper} {a : Act}
theorem wpFreeD_oneW (hw : Region.wanted o (yielded ops a.tmps) = true) (v : Value) (hr : ∀ w, E.R W w → (execOp a.eval o).run P w = .ok (.value v) w)
    (h : wpFreeD E P ops .any W K Q rest (k + 1) (a.put o.dst v) (F.with k (fun _ => True))) : wpFreeD E P ops .any W K Q (o :: rest) k a F := by
  refine ⟨fun _ u => u = v, ⟨fun _ _ _ _ h => h, .inl ⟨hw, fun w hw _ => ?_⟩⟩, fun u hu => ?_⟩
  · rw [hr w hw]; exact ⟨E.refl w, rfl⟩
  · obtain ⟨w, _, _, rfl⟩ := hu
    exact wpFreeD_weaken _ _ _ _ _ (fun e w h => ⟨h.1, fun _ => trivial⟩) h
theorem wpFreeD_skip (hw : Region.wanted o (yielded ops a.tmps) = false)
    (h : wpFreeD E P ops .any W K Q rest (k + 1) (a.put o.dst undef) (F.with k (fun _ => True))) : wpFreeD E P ops .any W K Q (o :: rest) k a F := by
  refine ⟨fun _ u => u = undef, ⟨fun _ _ _ _ h => h, .inr ⟨hw, fun w _ _ => rfl⟩⟩, fun u hu => ?_⟩
  obtain ⟨w, _, _, rfl⟩ := hu
  exact wpFreeD_weaken _ _ _ _ _ (fun e w h => ⟨h.1, fun _ => trivial⟩) h
theorem wpFreeD_callW (hw : Region.wanted o (yielded ops a.tmps) = true) {f : FuncId} {xs : Array Operand} {ts : Array TypeId} (hop : o.op = Op.call { callee := Callee.value (Operand.func f), args := xs, argTypes := ts }) {fn : Func} (hf : P.funcs[f]? = some fn)
    (hb : fn.body.isNone = false) (hn : (fn.name == "runtime.NumGoroutine") = false) {args : Array Value} (ha : xs.map a.eval = args) (hm : MonoT E (K f args))
    (h1 : ∀ w, E.R W w → behind .any o F w → Calls P f args w (fun e w' => ∃ v, e = .returned v ∧ le w w' ∧ K f args w' v)) (h2 : ∀ v, (∃ w, E.R W w ∧ (∀ e, F e w) ∧ K f args w v) → wpFreeD E P ops .any W K Q rest (k + 1) (a.put o.dst v) (F.with k (fun w => K f args w v))) : wpFreeD E P ops .any W K Q (o :: rest) k a F := by
  refine ⟨K f args, ⟨hm, .inl ⟨hw, fun w hw hbe => ?_⟩⟩, fun v hv => h2 v hv⟩
  rw [run_enter hop hf hb hn ha]
  refine ⟨E.refl w, (h1 w hw hbe).mono ?_, fun _ _ h => h⟩
  rintro e w' ⟨v, rfl, hl, hk⟩
  exact ⟨v, rfl, E.of_le hl, hk⟩
theorem wpFreeD_madeW (hwt : Region.wanted o (yielded ops a.tmps) = true) (f : Nat → Value) (t : TypeId) (cs : Array Value) (hr : ∀ w, (execOp a.eval o).run P w = .ok (.value (f w.heap.size)) (w.alloc (.cells cs t)))
    (h : ∀ b, wpFreeD leX P ops .any W K Q rest (k + 1) (a.put o.dst (f b)) (F.with k (fun w => ∃ b', f b = f b' ∧ Row w b' t cs))) : wpFreeD leX P ops .any W K Q (o :: rest) k a F := by
  refine ⟨fun w v => ∃ b', v = f b' ∧ Row w b' t cs, ⟨fun v w w' hw hv => ?_, .inl ⟨hwt, fun w hw _ => ?_⟩⟩, fun v hv => ?_⟩
  · obtain ⟨b', e, hrow⟩ := hv
    exact ⟨b', e, hrow.le hw⟩
  · rw [hr w]
    exact ⟨le_alloc w _, w.heap.size, rfl, Row.new w t cs⟩
  · obtain ⟨w, _, _, b, rfl, _⟩ := hv
    exact h b
theorem wpFreeD_load1 (hg : o.guard = none) {ty : TypeId} {x : Operand} (hop : o.op = .load ty x) {p : Addr} (hx : a.eval x = .pointer (some p)) {v : Value} (hv : ∀ w, E.R W w → w.cell? p = some v) (hu : ∀ w, (isAgg ty).run P w = .ok false w)
    (h : wpFreeD E P ops .any W K Q rest (k + 1) (a.put o.dst v) (F.with k (fun _ => True))) : wpFreeD E P ops .any W K Q (o :: rest) k a F := by
  refine wpFreeD_one hg v (fun w hw => ?_) h
  have hl : (Instr.loadAt ty (.pointer (some p))).run P w = .ok v w := by
    simp [Instr.loadAt, Instr.sureAddr, loadVar, hu, hv w hw]
  simp [execOp, hop, hx, hl, Result.andThen]
theorem wpFreeD_load1W (hw : Region.wanted o (yielded ops a.tmps) = true) {ty : TypeId} {x : Operand} (hop : o.op = .load ty x) {p : Addr} (hx : a.eval x = .pointer (some p)) {v : Value} (hv : ∀ w, E.R W w → w.cell? p = some v) (hu : ∀ w, (isAgg ty).run P w = .ok false w)
    (h : wpFreeD E P ops .any W K Q rest (k + 1) (a.put o.dst v) (F.with k (fun _ => True))) : wpFreeD E P ops .any W K Q (o :: rest) k a F := by
  refine wpFreeD_oneW hw v (fun w hw => ?_) h
  have hl : (Instr.loadAt ty (.pointer (some p))).run P w = .ok v w := by
    simp [Instr.loadAt, Instr.sureAddr, loadVar, hu, hv w hw]
  simp [execOp, hop, hx, hl, Result.andThen]
theorem wpFreeD_indexW0 (hg : o.guard = none) {t : TypeId} {x y : Operand} (hop : o.op = .indexAddr t x y) {b off n cap sz i : Nat} {kk : IntKind} {e : TypeId} (hx : a.eval x = .slice (some ⟨b, off, none⟩) n cap) (hy : a.eval y = .int kk (i : Int)) (hu : P.underlying t = some (.slice e)) (hs : (P.info? e).map (·.size) = some sz) (hi : i < n)
    (h : wpFreeD E P ops .any W K Q rest (k + 1) (a.put o.dst (.pointer (some ⟨b, off + i * sz, none⟩))) (F.with k (fun _ => True))) : wpFreeD E P ops .any W K Q (o :: rest) k a F :=
  wpFreeD_indexW hg hop hx hy hu hs hi (by rw [add_none]; exact h)
theorem wpFreeD_lenR (hg : o.guard = none) {x : Operand} {t : TypeId} (hop : o.op = Op.call { callee := Callee.builtin Builtin.len, args := #[x], argTypes := #[t] }) {v : Value} (hx : a.eval x = v) {e : TypeId} (hu : P.underlying t = some (.slice e)) {w1 : World} {B : Nat} {y : Nat → Nat} {n : Nat} (hv : RdS w1 B v y n)
    (h : wpFreeD E P ops .any W K Q rest (k + 1) (a.put o.dst (.int .i64 n)) (F.with k (fun _ => True))) : wpFreeD E P ops .any W K Q (o :: rest) k a F := by
  refine wpFreeD_one hg (.int .i64 n) (fun w _ => ?_) h
  rcases hv.form with ⟨rfl, rfl⟩ | ⟨ad, cap, rfl, _, _⟩
  all_goals
    simp [execOp, hop, hx, Result.andThen, resolve, invoke, builtin, Builtin.len_, run_underlying hu]
    try rfl
end
end Go.Fk

/- Pieces for bows and jets: guarded loads of structs in drawn regions; pairs of rings and of numbers. Nothing here names a program. -/
namespace Go.Fk
open Go Go.RowKit
section
variable {P : Program} {ops : Array Oper} {W : World} {K : FuncId → Array Value → World → Value → Prop} {Q : Act → World → Prop} {F : Facts} {k : Nat} {o : Oper} {rest : List Oper} {a : Act}
theorem wpFreeD_loadGW {w0 w1 : World} {L : List Fact} {n : Nat} (hF : Frg w0 w1 L) (hW : W = w1.drewN n) (hw : Region.wanted o (yielded ops a.tmps) = true) {ty : TypeId} {x : Operand} (hop : o.op = .load ty x) {g : Nat} (hx : a.eval x = .pointer (some ⟨g, 0, none⟩)) {t : TypeId} {cs : Array Value} {d : TypeDesc}
    (hm : rowF g t cs ∈ L) (hu : P.underlying ty = some d) (hd : (match d with | .struct _ | .array _ _ => true | _ => false) = true) {m : Nat} (hi : (P.info? ty).map (·.size) = some m) (hs : cs.size = m)
    (h : wpFreeD leX P ops .any W K Q rest (k + 1) (a.put o.dst (.agg cs)) (F.with k (fun _ => True))) : wpFreeD leX P ops .any W K Q (o :: rest) k a F := by
  subst hW hs
  refine wpFreeD_oneW hw (.agg cs) (fun w hw => ?_) h
  have := run_loadVar_row (P := P) w g t ty cs (0, 0) _ (((hF.row hm).drewN n).le hw) hu hd hi
  simp [execOp, hop, hx, Instr.loadAt, Instr.sureAddr, this, Result.andThen]
theorem wpFreeD_indexWG {E : Ext} (hw : Region.wanted o (yielded ops a.tmps) = true) {t : TypeId} {x y : Operand} (hop : o.op = .indexAddr t x y) {b off n cap sz i : Nat} {kk : IntKind} {e : TypeId} (hx : a.eval x = .slice (some ⟨b, off, none⟩) n cap) (hy : a.eval y = .int kk (i : Int)) (hu : P.underlying t = some (.slice e)) (hs : (P.info? e).map (·.size) = some sz) (hi : i < n)
    (h : wpFreeD E P ops .any W K Q rest (k + 1) (a.put o.dst (.pointer (some ⟨b, off + i * sz, none⟩))) (F.with k (fun _ => True))) : wpFreeD E P ops .any W K Q (o :: rest) k a F := by
  refine wpFreeD_oneW hw (.pointer (some ⟨b, off + i * sz, none⟩)) (fun w _ => ?_) h
  cases hq : P.info? e with
  | none => simp [hq] at hs
  | some inf =>
    have hz : inf.size = sz := by simpa [hq] using hs
    have h2 : (i : Int) < (n : Int) := by omega
    simp [execOp, hop, hx, hy, Instr.indexAt, asIntOf, run_underlying hu, sizeOf, typeInfo, hq, hz, h2, hi, Result.andThen, add_none]
end
theorem Row.at_part {w : World} {g : Nat} {t : TypeId} {cs : Array Value} (R : Row w g t cs) {f : Nat} {ds : List Value} (hp : ∀ j, j < ds.length → cs[f + j]? = ds[j]?) : ∀ (j : Nat) (v : Value), ds[j]? = some v → w.cell? ((⟨g, f, none⟩ : Addr).add j) = some v := fun j v hv => by
  rw [add_none, R.cell?, hp j (List.getElem?_eq_some_iff.1 hv).1, hv]
theorem CD.RdN.mono {w : World} {B B' : Nat} (hB : B ≤ B') : ∀ {c : CD} {v : Value}, c.RdN w B v → c.RdN w B' v := by
  intro c
  induction c with
  | sl wd n x ih =>
    intro v h
    rcases h with h | ⟨b, o, cap, h1, h2, h3, h4⟩
    · exact .inl h
    · exact .inr ⟨b, o, cap, h1, h2, h3, fun i hi => by obtain ⟨h5, u, h6, h7⟩ := h4 i hi; exact ⟨by omega, u, h6, ih i h7⟩⟩
  | _ => intro v h; exact h
theorem bool_ft (b : Bool) : b = false ∨ b = true := by cases b <;> simp
/-- A slice of floats, as a tree. -/
def slT (x : Nat → Nat) (n : Nat) : CD := .sl 1 n (fun i => .fcn .f32 (x i))
theorem slT_rds {x : Nat → Nat} {n B : Nat} {w : World} {s : Value} (h : (slT x n).RdN w B s) : RdS w B s x n := h.rd.rds
theorem CD.RdN.congr {w : World} {B : Nat} : ∀ {c d : CD} {v : Value}, c.RdN w B v → c.Eqv d → d.RdN w B v := by
  intro c
  induction c with
  | sl wd n x ih =>
    intro d v h he
    obtain ⟨y, rfl, hy⟩ := he
    rcases h with h | ⟨b, o, cap, h1, h2, h3, h4⟩
    · exact .inl h
    · exact .inr ⟨b, o, cap, h1, h2, h3, fun i hi => by obtain ⟨h5, u, h6, h7⟩ := h4 i hi; exact ⟨h5, u, h6, ih i h7 (hy i hi)⟩⟩
  | _ => intro d v h he; cases he; exact h
/-- A copy of a slice of floats. -/
theorem slT_cp {n : Nat} {x : Nat → CD} (h : ∀ i, i < n → (x i).flk = some .f32) : (CD.sl 1 n x).cp.Eqv (slT (fun i => (x i).fx) n) :=
  ⟨_, rfl, fun i hi => by show (x i).cn.Eqv (.fcn .f32 (x i).fx); rw [CD.cn_fl (h i (by simpa using hi))]; exact CD.Eqv.refl _⟩
/-- Two rings. -/
def rg2 (x y : Nat → Nat) (nx ny : Nat) (j k : Int) : Nat → CD
  | 0 => slT x nx
  | 1 => .int .i64 j
  | 2 => slT y ny
  | _ => .int .i64 k
theorem rg2_ok (x y : Nat → Nat) (nx ny : Nat) (j k : Int) : RgsOk (rg2 x y nx ny j k) 2 := fun i hi => by
  match i, hi with
  | 0, _ => exact ⟨⟨_, rfl, fun _ _ => rfl, rfl⟩, rfl⟩
  | 1, _ => exact ⟨⟨_, rfl, fun _ _ => rfl, rfl⟩, rfl⟩
def rngB (x : Nat → Nat) (n : Nat) (j : Int) : Bool := okRing n j && finB x n
theorem rg2_all (x y : Nat → Nat) (nx ny : Nat) (j k : Int) : allB (rgOk (rg2 x y nx ny j k)) 2 = (rngB x nx j && rngB y ny k) := by
  simp [allB, List.range_succ]; rfl
theorem rg2_rd {x y : Nat → Nat} {nx ny B b : Nat} {j k : Int} {w : World} {s t : Value} {ty : TypeId} (hs : (slT x nx).RdN w B s) (ht : (slT y ny).RdN w B t) (wj : (Lit.int .i64 j).wf = true) (wk : (Lit.int .i64 k).wf = true) (R : Row w b ty #[s, .int .i64 j, t, .int .i64 k]) :
    (CD.sl 2 2 (rg2 x y nx ny j k)).RdN w (max B (b + 1)) (.slice (some ⟨b, 0, none⟩) 2 2) := by
  refine .inr ⟨b, 0, 2, rfl, Nat.le_refl _, by decide, fun i hi => ⟨by omega, ?_⟩⟩
  match i, hi with
  | 0, _ => exact ⟨s, R.cell? 0, hs.mono (by omega)⟩
  | 1, _ => exact ⟨_, R.cell? 1, rfl, wj⟩
  | 2, _ => exact ⟨t, R.cell? 2, ht.mono (by omega)⟩
  | 3, _ => exact ⟨_, R.cell? 3, rfl, wk⟩
/-- Two numbers. -/
def two (m o : Nat) : Nat → Nat := fun i => match i with | 0 => can .f32 m | _ => can .f32 o
theorem fin_two (m o : Nat) : finB (two m o) 2 = (fin m && fin o) := by
  have e : ∀ z, fin (can .f32 z) = fin z := fun z => fin_can (can_can _ _)
  simp [finB, two, List.range_succ, e]
theorem two_rd {m o b : Nat} {w : World} {ty : TypeId} (hm : fits .f32 m) (ho : fits .f32 o) (R : Row w b ty #[.float .f32 m, .float .f32 o]) : RdS w (b + 1) (.slice (some ⟨b, 0, none⟩) 2 2) (two m o) 2 :=
  .inr ⟨⟨b, 0, none⟩, 2, rfl, Nat.le_refl _, by decide, fun i hi => ⟨Nat.lt_succ_self _, by rw [add_none, Nat.zero_add]; match i, hi with
    | 0, _ => exact ⟨m, R.cell? 0, hm, rfl⟩
    | 1, _ => exact ⟨o, R.cell? 1, ho, rfl⟩⟩⟩
/-- A new row that is known. -/
def OutSl (t : TypeId) (n : Nat) (cs : Array Value) (w : World) (e : Ending) (w' : World) : Prop := ∃ g, e = .returned (.slice (some ⟨g, 0, none⟩) n n) ∧ w.heap.size ≤ g ∧ Row w' g t cs ∧ le w w'
theorem Frg.rowS {w0 w w' : World} {L : List Fact} (h : Frg w0 w L) (k : Below w.heap.size w w') {g : Nat} {t : TypeId} {cs : Array Value} (hg : w.heap.size ≤ g) (hr : Row w' g t cs) : Frg w0 w' (rowF g t cs :: L) :=
  h.push k hr hg hr.lt
end Go.Fk

/- Deeds: their forms, and whether they are valid, of both. -/
namespace Go.Fk
open Go Go.RowKit
/-- How many numbers the text of a kind has. -/
def numD (k : Int) : Int := if k = 7 then 0 else if k = 8 then 0 else if k = 6 then 2 else 1
def isD (n : Int) (m : Bool) : Bool := decide (n = 0) || (m && decide (0 < n) && decide (n ≤ 999))
def okD (k a b : Int) : Bool := (decide (1 ≤ k) && decide (k ≤ 9)) && isD a (decide (1 ≤ numD k)) && isD b (decide (2 ≤ numD k))
theorem numD_is (k : Int) : numD k = 0 ∨ numD k = 1 ∨ numD k = 2 := by
  unfold numD
  split
  · exact .inl rfl
  split
  · exact .inl rfl
  split
  · exact .inr (.inr rfl)
  exact .inr (.inl rfl)
def formsD : Array Value := #[.string ⟨#[]⟩, .int .i64 0, .string ⟨#[103, 105, 118, 101]⟩, .int .i64 1, .string ⟨#[119, 111, 114, 107]⟩, .int .i64 1, .string ⟨#[100, 101, 108, 105, 118, 101, 114]⟩, .int .i64 1, .string ⟨#[99, 111, 112, 121]⟩, .int .i64 1, .string ⟨#[100, 114, 111, 112]⟩, .int .i64 1, .string ⟨#[115, 112, 111, 105, 108]⟩, .int .i64 2, .string ⟨#[115, 121, 110, 99]⟩, .int .i64 0, .string ⟨#[99, 114, 97, 115, 104]⟩, .int .i64 0, .string ⟨#[113, 117, 105, 116]⟩, .int .i64 1]
end Go.Fk
namespace Go.Proofs.YtogledmlbcmkjaaDoor
open Go.RowKit Go.Fk
set_option maxRecDepth 100000 in
set_option maxHeartbeats 4000000 in
theorem infoForms : (Tryd.prog.info? 58).map (·.size) = some 20 := by kernel_rfl
set_option maxRecDepth 100000 in
set_option maxHeartbeats 4000000 in
theorem i_deedForms (w : World) : Calls Tryd.prog 22 #[] w fun e w' => e = .returned (.agg formsD) ∧ le w w' := by
  have E := hid (show (formsD : Array Value) = #[.string ⟨#[]⟩, .int .i64 0, .string ⟨#[103, 105, 118, 101]⟩, .int .i64 1, .string ⟨#[119, 111, 114, 107]⟩, .int .i64 1, .string ⟨#[100, 101, 108, 105, 118, 101, 114]⟩, .int .i64 1, .string ⟨#[99, 111, 112, 121]⟩, .int .i64 1, .string ⟨#[100, 114, 111, 112]⟩, .int .i64 1, .string ⟨#[115, 112, 111, 105, 108]⟩, .int .i64 2, .string ⟨#[115, 121, 110, 99]⟩, .int .i64 0, .string ⟨#[99, 114, 97, 115, 104]⟩, .int .i64 0, .string ⟨#[113, 117, 105, 116]⟩, .int .i64 1] from rfl)
  have F := (Frg.nil w).box 58 #[.string ⟨#[]⟩, .int .i64 0, .string ⟨#[]⟩, .int .i64 0, .string ⟨#[]⟩, .int .i64 0, .string ⟨#[]⟩, .int .i64 0, .string ⟨#[]⟩, .int .i64 0, .string ⟨#[]⟩, .int .i64 0, .string ⟨#[]⟩, .int .i64 0, .string ⟨#[]⟩, .int .i64 0, .string ⟨#[]⟩, .int .i64 0, .string ⟨#[]⟩, .int .i64 0]
  go_enter Tryd.func22, Tryd.ntmps22
  go_wp2_with (first | ((with_reducible refine listN F ?_); clear F; intro wN F) | (with_reducible refine stop_store rfl ?_))
  show wpList _ _ _ _ _ _
  refine wpList_storeD rfl rfl rfl (cells := #[.string ⟨#[]⟩, .int .i64 0, .string ⟨#[103, 105, 118, 101]⟩, .int .i64 1, .string ⟨#[119, 111, 114, 107]⟩, .int .i64 1, .string ⟨#[100, 101, 108, 105, 118, 101, 114]⟩, .int .i64 1, .string ⟨#[99, 111, 112, 121]⟩, .int .i64 1, .string ⟨#[100, 114, 111, 112]⟩, .int .i64 1, .string ⟨#[115, 112, 111, 105, 108]⟩, .int .i64 2, .string ⟨#[115, 121, 110, 99]⟩, .int .i64 0, .string ⟨#[99, 114, 97, 115, 104]⟩, .int .i64 0, .string ⟨#[113, 117, 105, 116]⟩, .int .i64 1]) rfl (F.row m0) infoForms rfl (by (simp only [List.all_toArray', List.all_cons, List.all_nil, Bool.and_true, Bool.true_and]) <;> rfl) (fun w6 K => ?_)
  have R := hid K.row
  replace F := F.wrI0 K
  go_wp2
  exact bodyPost_ret (results_row1 rfl _ _ _ _ _ rfl R.out Tryd.underlying58 rfl infoForms) rfl ⟨by rw [E.out], F.below⟩
set_option maxRecDepth 100000 in
set_option maxHeartbeats 4000000 in
theorem i_isDeedNumber (n : Int) (m : Bool) (w : World) : Calls Tryd.prog 45 #[.int .i64 n, .bool m] w fun e w' => e = .returned (.bool (isD n m)) ∧ w = w' := by
  cases m <;> by_cases h0 : n = 0 <;> by_cases h1 : 0 < n <;> by_cases h2 : n ≤ 999
  all_goals
    first
    | (exfalso; omega)
    | (go_enter Tryd.func45, Tryd.ntmps45
       go_wp2
       go_ret
       exact ⟨ret_b (by unfold isD; first | (simp [h0, h1, h2]; done) | (have b0 : (n == 0) = false := (by simpa using h0); simp [b0, h0, h1, h2] <;> omega)), rfl⟩)
set_option maxRecDepth 100000 in
set_option maxHeartbeats 4000000 in
theorem s_l10Numbers (k : Int) (w : World) : Calls Tryd.prog 19 #[.int .i64 k] w fun e w' => e = .returned (.int .i64 (numD k)) ∧ w = w' := by
  by_cases h7 : k = 7
  · subst h7
    go_enter Tryd.func19, Tryd.ntmps19
    go_wp2
    go_ret
    exact ⟨rfl, rfl⟩
  by_cases h8 : k = 8
  · subst h8
    go_enter Tryd.func19, Tryd.ntmps19
    go_wp2
    go_ret
    exact ⟨rfl, rfl⟩
  by_cases h6 : k = 6
  · subst h6
    go_enter Tryd.func19, Tryd.ntmps19
    go_wp2
    go_ret
    exact ⟨rfl, rfl⟩
  go_enter Tryd.func19, Tryd.ntmps19
  go_wp2
  go_ret
  exact ⟨ret_i (by unfold numD; simp [h7, h8, h6]), rfl⟩
set_option maxRecDepth 100000 in
set_option maxHeartbeats 4000000 in
theorem i_ValidDeed (k a b : Int) (w : World) : Calls Tryd.prog 21 #[.agg #[.int .i64 k, .int .i64 a, .int .i64 b]] w (Out_b (okD k a b) w) := by
  by_cases h1 : ¬ 1 ≤ k
  · have E := hid (show okD k a b = false by unfold okD; simp [h1])
    have F := (Frg.nil w).box 25 #[.int .i64 k, .int .i64 a, .int .i64 b]
    have e1 : k < 1 := by omega
    go_enter Tryd.func21, Tryd.ntmps21
    go_wp2_with (first | ((with_reducible refine listN F ?_); clear F; intro wN F))
    go_ret
    exact ⟨ret_b E.out.symm, F.below⟩
  by_cases h2 : ¬ k ≤ 9
  · have E := hid (show okD k a b = false by unfold okD; simp [h2])
    have F := (Frg.nil w).box 25 #[.int .i64 k, .int .i64 a, .int .i64 b]
    have e1 : ¬ k < 1 := by omega
    have e2 : 9 < k := by omega
    go_enter Tryd.func21, Tryd.ntmps21
    go_wp2_with (first | ((with_reducible refine listN F ?_); clear F; intro wN F))
    go_ret
    exact ⟨ret_b E.out.symm, F.below⟩
  have hk : k = 1 ∨ k = 2 ∨ k = 3 ∨ k = 4 ∨ k = 5 ∨ k = 6 ∨ k = 7 ∨ k = 8 ∨ k = 9 := by omega
  clear h1 h2
  have HD := hid (i_isDeedNumber)
  have HF := hid (i_deedForms)
  rcases hk with rfl | hk
  · have F := (Frg.nil w).box 25 #[.int .i64 1, .int .i64 a, .int .i64 b]
    have E := hid (show okD 1 a b = (isD a true && isD b false) from rfl)
    go_enter Tryd.func21, Tryd.ntmps21
    go_wp2_with (first | ((with_reducible refine listN F ?_); clear F; intro wN F))
    first | (refine wpAt0 F ?_; clear F; intro wN F) | (refine wpAtN F ?_; clear F; intro wN F)
    have FD := F.drewN 1
    refine region_freeD (E := leX) (fun f args _ v => v = .agg formsD) (by kernel_rfl) (by kernel_rfl) ?_
    refine wpFreeD_callB rfl rfl Tryd.func22 (by kernel_rfl) (by kernel_rfl) (args := #[]) (by simp [Act.eval]) (fun v w1 w2 hw hv => hv) (fun w1 hw1 _ => (HF.out w1).mono ?_) ?_
    · rintro e w2 ⟨rfl, hl⟩
      exact ⟨_, rfl, hl, rfl⟩
    rintro v ⟨_, _, _, hv⟩
    replace hv : v = .agg formsD := hv
    subst hv
    simp only [Act.put, List.setIfInBounds_toArray, List.set_cons_succ, List.set_cons_zero]
    refine wpFreeD_one rfl (.pointer (some ⟨w.heap.size, 0, none⟩)) (fun w1 _ => by kernel_rfl) ?_
    simp only [Act.put, List.setIfInBounds_toArray, List.set_cons_succ, List.set_cons_zero]
    refine wpFreeD_load1 rfl rfl rfl (p := ⟨w.heap.size, 0, none⟩) (v := .int .i64 1) (fun w1 h1 => by rw [((FD.le h1).row m0).cell?]; rfl) ukindInt64 ?_
    simp only [Act.put, List.setIfInBounds_toArray, List.set_cons_succ, List.set_cons_zero]
    refine wpFreeD_one rfl (.agg #[.string ⟨#[103, 105, 118, 101]⟩, .int .i64 1]) (fun w1 _ => by kernel_rfl) ?_
    simp only [Act.put, List.setIfInBounds_toArray, List.set_cons_succ, List.set_cons_zero]
    refine wpFreeD_one rfl (.int .i64 1) (fun w1 _ => by kernel_rfl) ?_
    simp only [Act.put, List.setIfInBounds_toArray, List.set_cons_succ, List.set_cons_zero]
    refine wpFreeD_one rfl (.int .i64 1) (fun w1 _ => by kernel_rfl) ?_
    simp only [Act.put, List.setIfInBounds_toArray, List.set_cons_succ, List.set_cons_zero]
    refine wpFreeD_nil (fun wR hwR hF => ?_)
    clear hF
    replace F := FD.le hwR
    clear hwR FD
    have c1 := hid (show wR.cell? ⟨w.heap.size, 1, none⟩ = some (.int .i64 a) by rw [(F.row m0).cell?]; rfl)
    have c2 := hid (show wR.cell? ⟨w.heap.size, 2, none⟩ = some (.int .i64 b) by rw [(F.row m0).cell?]; rfl)
    have HA := hid (fun (w : World) => i_isDeedNumber a true w)
    have HB := hid (fun (w : World) => i_isDeedNumber b false w)
    clear HD HF
    rcases bool_ft (isD a true) with da | da
    · rw [da] at HA E
      clear da
      go_wp2_with (first | ((with_reducible refine listN F ?_); clear F; intro wN F) | ((with_reducible refine at_load rfl ?_); first | (with_reducible refine wpList_load1G rfl (p := ⟨w.heap.size, 1, none⟩) rfl (v := .int .i64 a) (by kernel_rfl) c1.out ukindInt64 ?_) | (with_reducible refine wpList_load1G rfl (p := ⟨w.heap.size, 2, none⟩) rfl (v := .int .i64 b) (by kernel_rfl) c2.out ukindInt64 ?_)) | (go_at_call 45; first | ((with_reducible refine (HA.out _).mono ?_); rintro e w1 ⟨rfl, rfl⟩; skip) | ((with_reducible refine (HB.out _).mono ?_); rintro e w1 ⟨rfl, rfl⟩; skip)))
      go_ret
      exact ⟨ret_b (by rw [E.out]; rfl), F.below⟩
    · rw [da] at HA E
      clear da
      go_wp2_with (first | ((with_reducible refine listN F ?_); clear F; intro wN F) | ((with_reducible refine at_load rfl ?_); first | (with_reducible refine wpList_load1G rfl (p := ⟨w.heap.size, 1, none⟩) rfl (v := .int .i64 a) (by kernel_rfl) c1.out ukindInt64 ?_) | (with_reducible refine wpList_load1G rfl (p := ⟨w.heap.size, 2, none⟩) rfl (v := .int .i64 b) (by kernel_rfl) c2.out ukindInt64 ?_)) | (go_at_call 45; first | ((with_reducible refine (HA.out _).mono ?_); rintro e w1 ⟨rfl, rfl⟩; skip) | ((with_reducible refine (HB.out _).mono ?_); rintro e w1 ⟨rfl, rfl⟩; skip)))
      go_ret
      exact ⟨ret_b (by rw [E.out]; rfl), F.below⟩
  rcases hk with rfl | hk
  · have F := (Frg.nil w).box 25 #[.int .i64 2, .int .i64 a, .int .i64 b]
    have E := hid (show okD 2 a b = (isD a true && isD b false) from rfl)
    go_enter Tryd.func21, Tryd.ntmps21
    go_wp2_with (first | ((with_reducible refine listN F ?_); clear F; intro wN F))
    first | (refine wpAt0 F ?_; clear F; intro wN F) | (refine wpAtN F ?_; clear F; intro wN F)
    have FD := F.drewN 1
    refine region_freeD (E := leX) (fun f args _ v => v = .agg formsD) (by kernel_rfl) (by kernel_rfl) ?_
    refine wpFreeD_callB rfl rfl Tryd.func22 (by kernel_rfl) (by kernel_rfl) (args := #[]) (by simp [Act.eval]) (fun v w1 w2 hw hv => hv) (fun w1 hw1 _ => (HF.out w1).mono ?_) ?_
    · rintro e w2 ⟨rfl, hl⟩
      exact ⟨_, rfl, hl, rfl⟩
    rintro v ⟨_, _, _, hv⟩
    replace hv : v = .agg formsD := hv
    subst hv
    simp only [Act.put, List.setIfInBounds_toArray, List.set_cons_succ, List.set_cons_zero]
    refine wpFreeD_one rfl (.pointer (some ⟨w.heap.size, 0, none⟩)) (fun w1 _ => by kernel_rfl) ?_
    simp only [Act.put, List.setIfInBounds_toArray, List.set_cons_succ, List.set_cons_zero]
    refine wpFreeD_load1 rfl rfl rfl (p := ⟨w.heap.size, 0, none⟩) (v := .int .i64 2) (fun w1 h1 => by rw [((FD.le h1).row m0).cell?]; rfl) ukindInt64 ?_
    simp only [Act.put, List.setIfInBounds_toArray, List.set_cons_succ, List.set_cons_zero]
    refine wpFreeD_one rfl (.agg #[.string ⟨#[119, 111, 114, 107]⟩, .int .i64 1]) (fun w1 _ => by kernel_rfl) ?_
    simp only [Act.put, List.setIfInBounds_toArray, List.set_cons_succ, List.set_cons_zero]
    refine wpFreeD_one rfl (.int .i64 1) (fun w1 _ => by kernel_rfl) ?_
    simp only [Act.put, List.setIfInBounds_toArray, List.set_cons_succ, List.set_cons_zero]
    refine wpFreeD_one rfl (.int .i64 1) (fun w1 _ => by kernel_rfl) ?_
    simp only [Act.put, List.setIfInBounds_toArray, List.set_cons_succ, List.set_cons_zero]
    refine wpFreeD_nil (fun wR hwR hF => ?_)
    clear hF
    replace F := FD.le hwR
    clear hwR FD
    have c1 := hid (show wR.cell? ⟨w.heap.size, 1, none⟩ = some (.int .i64 a) by rw [(F.row m0).cell?]; rfl)
    have c2 := hid (show wR.cell? ⟨w.heap.size, 2, none⟩ = some (.int .i64 b) by rw [(F.row m0).cell?]; rfl)
    have HA := hid (fun (w : World) => i_isDeedNumber a true w)
    have HB := hid (fun (w : World) => i_isDeedNumber b false w)
    clear HD HF
    rcases bool_ft (isD a true) with da | da
    · rw [da] at HA E
      clear da
      go_wp2_with (first | ((with_reducible refine listN F ?_); clear F; intro wN F) | ((with_reducible refine at_load rfl ?_); first | (with_reducible refine wpList_load1G rfl (p := ⟨w.heap.size, 1, none⟩) rfl (v := .int .i64 a) (by kernel_rfl) c1.out ukindInt64 ?_) | (with_reducible refine wpList_load1G rfl (p := ⟨w.heap.size, 2, none⟩) rfl (v := .int .i64 b) (by kernel_rfl) c2.out ukindInt64 ?_)) | (go_at_call 45; first | ((with_reducible refine (HA.out _).mono ?_); rintro e w1 ⟨rfl, rfl⟩; skip) | ((with_reducible refine (HB.out _).mono ?_); rintro e w1 ⟨rfl, rfl⟩; skip)))
      go_ret
      exact ⟨ret_b (by rw [E.out]; rfl), F.below⟩
    · rw [da] at HA E
      clear da
      go_wp2_with (first | ((with_reducible refine listN F ?_); clear F; intro wN F) | ((with_reducible refine at_load rfl ?_); first | (with_reducible refine wpList_load1G rfl (p := ⟨w.heap.size, 1, none⟩) rfl (v := .int .i64 a) (by kernel_rfl) c1.out ukindInt64 ?_) | (with_reducible refine wpList_load1G rfl (p := ⟨w.heap.size, 2, none⟩) rfl (v := .int .i64 b) (by kernel_rfl) c2.out ukindInt64 ?_)) | (go_at_call 45; first | ((with_reducible refine (HA.out _).mono ?_); rintro e w1 ⟨rfl, rfl⟩; skip) | ((with_reducible refine (HB.out _).mono ?_); rintro e w1 ⟨rfl, rfl⟩; skip)))
      go_ret
      exact ⟨ret_b (by rw [E.out]; rfl), F.below⟩
  rcases hk with rfl | hk
  · have F := (Frg.nil w).box 25 #[.int .i64 3, .int .i64 a, .int .i64 b]
    have E := hid (show okD 3 a b = (isD a true && isD b false) from rfl)
    go_enter Tryd.func21, Tryd.ntmps21
    go_wp2_with (first | ((with_reducible refine listN F ?_); clear F; intro wN F))
    first | (refine wpAt0 F ?_; clear F; intro wN F) | (refine wpAtN F ?_; clear F; intro wN F)
    have FD := F.drewN 1
    refine region_freeD (E := leX) (fun f args _ v => v = .agg formsD) (by kernel_rfl) (by kernel_rfl) ?_
    refine wpFreeD_callB rfl rfl Tryd.func22 (by kernel_rfl) (by kernel_rfl) (args := #[]) (by simp [Act.eval]) (fun v w1 w2 hw hv => hv) (fun w1 hw1 _ => (HF.out w1).mono ?_) ?_
    · rintro e w2 ⟨rfl, hl⟩
      exact ⟨_, rfl, hl, rfl⟩
    rintro v ⟨_, _, _, hv⟩
    replace hv : v = .agg formsD := hv
    subst hv
    simp only [Act.put, List.setIfInBounds_toArray, List.set_cons_succ, List.set_cons_zero]
    refine wpFreeD_one rfl (.pointer (some ⟨w.heap.size, 0, none⟩)) (fun w1 _ => by kernel_rfl) ?_
    simp only [Act.put, List.setIfInBounds_toArray, List.set_cons_succ, List.set_cons_zero]
    refine wpFreeD_load1 rfl rfl rfl (p := ⟨w.heap.size, 0, none⟩) (v := .int .i64 3) (fun w1 h1 => by rw [((FD.le h1).row m0).cell?]; rfl) ukindInt64 ?_
    simp only [Act.put, List.setIfInBounds_toArray, List.set_cons_succ, List.set_cons_zero]
    refine wpFreeD_one rfl (.agg #[.string ⟨#[100, 101, 108, 105, 118, 101, 114]⟩, .int .i64 1]) (fun w1 _ => by kernel_rfl) ?_
    simp only [Act.put, List.setIfInBounds_toArray, List.set_cons_succ, List.set_cons_zero]
    refine wpFreeD_one rfl (.int .i64 1) (fun w1 _ => by kernel_rfl) ?_
    simp only [Act.put, List.setIfInBounds_toArray, List.set_cons_succ, List.set_cons_zero]
    refine wpFreeD_one rfl (.int .i64 1) (fun w1 _ => by kernel_rfl) ?_
    simp only [Act.put, List.setIfInBounds_toArray, List.set_cons_succ, List.set_cons_zero]
    refine wpFreeD_nil (fun wR hwR hF => ?_)
    clear hF
    replace F := FD.le hwR
    clear hwR FD
    have c1 := hid (show wR.cell? ⟨w.heap.size, 1, none⟩ = some (.int .i64 a) by rw [(F.row m0).cell?]; rfl)
    have c2 := hid (show wR.cell? ⟨w.heap.size, 2, none⟩ = some (.int .i64 b) by rw [(F.row m0).cell?]; rfl)
    have HA := hid (fun (w : World) => i_isDeedNumber a true w)
    have HB := hid (fun (w : World) => i_isDeedNumber b false w)
    clear HD HF
    rcases bool_ft (isD a true) with da | da
    · rw [da] at HA E
      clear da
      go_wp2_with (first | ((with_reducible refine listN F ?_); clear F; intro wN F) | ((with_reducible refine at_load rfl ?_); first | (with_reducible refine wpList_load1G rfl (p := ⟨w.heap.size, 1, none⟩) rfl (v := .int .i64 a) (by kernel_rfl) c1.out ukindInt64 ?_) | (with_reducible refine wpList_load1G rfl (p := ⟨w.heap.size, 2, none⟩) rfl (v := .int .i64 b) (by kernel_rfl) c2.out ukindInt64 ?_)) | (go_at_call 45; first | ((with_reducible refine (HA.out _).mono ?_); rintro e w1 ⟨rfl, rfl⟩; skip) | ((with_reducible refine (HB.out _).mono ?_); rintro e w1 ⟨rfl, rfl⟩; skip)))
      go_ret
      exact ⟨ret_b (by rw [E.out]; rfl), F.below⟩
    · rw [da] at HA E
      clear da
      go_wp2_with (first | ((with_reducible refine listN F ?_); clear F; intro wN F) | ((with_reducible refine at_load rfl ?_); first | (with_reducible refine wpList_load1G rfl (p := ⟨w.heap.size, 1, none⟩) rfl (v := .int .i64 a) (by kernel_rfl) c1.out ukindInt64 ?_) | (with_reducible refine wpList_load1G rfl (p := ⟨w.heap.size, 2, none⟩) rfl (v := .int .i64 b) (by kernel_rfl) c2.out ukindInt64 ?_)) | (go_at_call 45; first | ((with_reducible refine (HA.out _).mono ?_); rintro e w1 ⟨rfl, rfl⟩; skip) | ((with_reducible refine (HB.out _).mono ?_); rintro e w1 ⟨rfl, rfl⟩; skip)))
      go_ret
      exact ⟨ret_b (by rw [E.out]; rfl), F.below⟩
  rcases hk with rfl | hk
  · have F := (Frg.nil w).box 25 #[.int .i64 4, .int .i64 a, .int .i64 b]
    have E := hid (show okD 4 a b = (isD a true && isD b false) from rfl)
    go_enter Tryd.func21, Tryd.ntmps21
    go_wp2_with (first | ((with_reducible refine listN F ?_); clear F; intro wN F))
    first | (refine wpAt0 F ?_; clear F; intro wN F) | (refine wpAtN F ?_; clear F; intro wN F)
    have FD := F.drewN 1
    refine region_freeD (E := leX) (fun f args _ v => v = .agg formsD) (by kernel_rfl) (by kernel_rfl) ?_
    refine wpFreeD_callB rfl rfl Tryd.func22 (by kernel_rfl) (by kernel_rfl) (args := #[]) (by simp [Act.eval]) (fun v w1 w2 hw hv => hv) (fun w1 hw1 _ => (HF.out w1).mono ?_) ?_
    · rintro e w2 ⟨rfl, hl⟩
      exact ⟨_, rfl, hl, rfl⟩
    rintro v ⟨_, _, _, hv⟩
    replace hv : v = .agg formsD := hv
    subst hv
    simp only [Act.put, List.setIfInBounds_toArray, List.set_cons_succ, List.set_cons_zero]
    refine wpFreeD_one rfl (.pointer (some ⟨w.heap.size, 0, none⟩)) (fun w1 _ => by kernel_rfl) ?_
    simp only [Act.put, List.setIfInBounds_toArray, List.set_cons_succ, List.set_cons_zero]
    refine wpFreeD_load1 rfl rfl rfl (p := ⟨w.heap.size, 0, none⟩) (v := .int .i64 4) (fun w1 h1 => by rw [((FD.le h1).row m0).cell?]; rfl) ukindInt64 ?_
    simp only [Act.put, List.setIfInBounds_toArray, List.set_cons_succ, List.set_cons_zero]
    refine wpFreeD_one rfl (.agg #[.string ⟨#[99, 111, 112, 121]⟩, .int .i64 1]) (fun w1 _ => by kernel_rfl) ?_
    simp only [Act.put, List.setIfInBounds_toArray, List.set_cons_succ, List.set_cons_zero]
    refine wpFreeD_one rfl (.int .i64 1) (fun w1 _ => by kernel_rfl) ?_
    simp only [Act.put, List.setIfInBounds_toArray, List.set_cons_succ, List.set_cons_zero]
    refine wpFreeD_one rfl (.int .i64 1) (fun w1 _ => by kernel_rfl) ?_
    simp only [Act.put, List.setIfInBounds_toArray, List.set_cons_succ, List.set_cons_zero]
    refine wpFreeD_nil (fun wR hwR hF => ?_)
    clear hF
    replace F := FD.le hwR
    clear hwR FD
    have c1 := hid (show wR.cell? ⟨w.heap.size, 1, none⟩ = some (.int .i64 a) by rw [(F.row m0).cell?]; rfl)
    have c2 := hid (show wR.cell? ⟨w.heap.size, 2, none⟩ = some (.int .i64 b) by rw [(F.row m0).cell?]; rfl)
    have HA := hid (fun (w : World) => i_isDeedNumber a true w)
    have HB := hid (fun (w : World) => i_isDeedNumber b false w)
    clear HD HF
    rcases bool_ft (isD a true) with da | da
    · rw [da] at HA E
      clear da
      go_wp2_with (first | ((with_reducible refine listN F ?_); clear F; intro wN F) | ((with_reducible refine at_load rfl ?_); first | (with_reducible refine wpList_load1G rfl (p := ⟨w.heap.size, 1, none⟩) rfl (v := .int .i64 a) (by kernel_rfl) c1.out ukindInt64 ?_) | (with_reducible refine wpList_load1G rfl (p := ⟨w.heap.size, 2, none⟩) rfl (v := .int .i64 b) (by kernel_rfl) c2.out ukindInt64 ?_)) | (go_at_call 45; first | ((with_reducible refine (HA.out _).mono ?_); rintro e w1 ⟨rfl, rfl⟩; skip) | ((with_reducible refine (HB.out _).mono ?_); rintro e w1 ⟨rfl, rfl⟩; skip)))
      go_ret
      exact ⟨ret_b (by rw [E.out]; rfl), F.below⟩
    · rw [da] at HA E
      clear da
      go_wp2_with (first | ((with_reducible refine listN F ?_); clear F; intro wN F) | ((with_reducible refine at_load rfl ?_); first | (with_reducible refine wpList_load1G rfl (p := ⟨w.heap.size, 1, none⟩) rfl (v := .int .i64 a) (by kernel_rfl) c1.out ukindInt64 ?_) | (with_reducible refine wpList_load1G rfl (p := ⟨w.heap.size, 2, none⟩) rfl (v := .int .i64 b) (by kernel_rfl) c2.out ukindInt64 ?_)) | (go_at_call 45; first | ((with_reducible refine (HA.out _).mono ?_); rintro e w1 ⟨rfl, rfl⟩; skip) | ((with_reducible refine (HB.out _).mono ?_); rintro e w1 ⟨rfl, rfl⟩; skip)))
      go_ret
      exact ⟨ret_b (by rw [E.out]; rfl), F.below⟩
  rcases hk with rfl | hk
  · have F := (Frg.nil w).box 25 #[.int .i64 5, .int .i64 a, .int .i64 b]
    have E := hid (show okD 5 a b = (isD a true && isD b false) from rfl)
    go_enter Tryd.func21, Tryd.ntmps21
    go_wp2_with (first | ((with_reducible refine listN F ?_); clear F; intro wN F))
    first | (refine wpAt0 F ?_; clear F; intro wN F) | (refine wpAtN F ?_; clear F; intro wN F)
    have FD := F.drewN 1
    refine region_freeD (E := leX) (fun f args _ v => v = .agg formsD) (by kernel_rfl) (by kernel_rfl) ?_
    refine wpFreeD_callB rfl rfl Tryd.func22 (by kernel_rfl) (by kernel_rfl) (args := #[]) (by simp [Act.eval]) (fun v w1 w2 hw hv => hv) (fun w1 hw1 _ => (HF.out w1).mono ?_) ?_
    · rintro e w2 ⟨rfl, hl⟩
      exact ⟨_, rfl, hl, rfl⟩
    rintro v ⟨_, _, _, hv⟩
    replace hv : v = .agg formsD := hv
    subst hv
    simp only [Act.put, List.setIfInBounds_toArray, List.set_cons_succ, List.set_cons_zero]
    refine wpFreeD_one rfl (.pointer (some ⟨w.heap.size, 0, none⟩)) (fun w1 _ => by kernel_rfl) ?_
    simp only [Act.put, List.setIfInBounds_toArray, List.set_cons_succ, List.set_cons_zero]
    refine wpFreeD_load1 rfl rfl rfl (p := ⟨w.heap.size, 0, none⟩) (v := .int .i64 5) (fun w1 h1 => by rw [((FD.le h1).row m0).cell?]; rfl) ukindInt64 ?_
    simp only [Act.put, List.setIfInBounds_toArray, List.set_cons_succ, List.set_cons_zero]
    refine wpFreeD_one rfl (.agg #[.string ⟨#[100, 114, 111, 112]⟩, .int .i64 1]) (fun w1 _ => by kernel_rfl) ?_
    simp only [Act.put, List.setIfInBounds_toArray, List.set_cons_succ, List.set_cons_zero]
    refine wpFreeD_one rfl (.int .i64 1) (fun w1 _ => by kernel_rfl) ?_
    simp only [Act.put, List.setIfInBounds_toArray, List.set_cons_succ, List.set_cons_zero]
    refine wpFreeD_one rfl (.int .i64 1) (fun w1 _ => by kernel_rfl) ?_
    simp only [Act.put, List.setIfInBounds_toArray, List.set_cons_succ, List.set_cons_zero]
    refine wpFreeD_nil (fun wR hwR hF => ?_)
    clear hF
    replace F := FD.le hwR
    clear hwR FD
    have c1 := hid (show wR.cell? ⟨w.heap.size, 1, none⟩ = some (.int .i64 a) by rw [(F.row m0).cell?]; rfl)
    have c2 := hid (show wR.cell? ⟨w.heap.size, 2, none⟩ = some (.int .i64 b) by rw [(F.row m0).cell?]; rfl)
    have HA := hid (fun (w : World) => i_isDeedNumber a true w)
    have HB := hid (fun (w : World) => i_isDeedNumber b false w)
    clear HD HF
    rcases bool_ft (isD a true) with da | da
    · rw [da] at HA E
      clear da
      go_wp2_with (first | ((with_reducible refine listN F ?_); clear F; intro wN F) | ((with_reducible refine at_load rfl ?_); first | (with_reducible refine wpList_load1G rfl (p := ⟨w.heap.size, 1, none⟩) rfl (v := .int .i64 a) (by kernel_rfl) c1.out ukindInt64 ?_) | (with_reducible refine wpList_load1G rfl (p := ⟨w.heap.size, 2, none⟩) rfl (v := .int .i64 b) (by kernel_rfl) c2.out ukindInt64 ?_)) | (go_at_call 45; first | ((with_reducible refine (HA.out _).mono ?_); rintro e w1 ⟨rfl, rfl⟩; skip) | ((with_reducible refine (HB.out _).mono ?_); rintro e w1 ⟨rfl, rfl⟩; skip)))
      go_ret
      exact ⟨ret_b (by rw [E.out]; rfl), F.below⟩
    · rw [da] at HA E
      clear da
      go_wp2_with (first | ((with_reducible refine listN F ?_); clear F; intro wN F) | ((with_reducible refine at_load rfl ?_); first | (with_reducible refine wpList_load1G rfl (p := ⟨w.heap.size, 1, none⟩) rfl (v := .int .i64 a) (by kernel_rfl) c1.out ukindInt64 ?_) | (with_reducible refine wpList_load1G rfl (p := ⟨w.heap.size, 2, none⟩) rfl (v := .int .i64 b) (by kernel_rfl) c2.out ukindInt64 ?_)) | (go_at_call 45; first | ((with_reducible refine (HA.out _).mono ?_); rintro e w1 ⟨rfl, rfl⟩; skip) | ((with_reducible refine (HB.out _).mono ?_); rintro e w1 ⟨rfl, rfl⟩; skip)))
      go_ret
      exact ⟨ret_b (by rw [E.out]; rfl), F.below⟩
  rcases hk with rfl | hk
  · have F := (Frg.nil w).box 25 #[.int .i64 6, .int .i64 a, .int .i64 b]
    have E := hid (show okD 6 a b = (isD a true && isD b true) from rfl)
    go_enter Tryd.func21, Tryd.ntmps21
    go_wp2_with (first | ((with_reducible refine listN F ?_); clear F; intro wN F))
    first | (refine wpAt0 F ?_; clear F; intro wN F) | (refine wpAtN F ?_; clear F; intro wN F)
    have FD := F.drewN 1
    refine region_freeD (E := leX) (fun f args _ v => v = .agg formsD) (by kernel_rfl) (by kernel_rfl) ?_
    refine wpFreeD_callB rfl rfl Tryd.func22 (by kernel_rfl) (by kernel_rfl) (args := #[]) (by simp [Act.eval]) (fun v w1 w2 hw hv => hv) (fun w1 hw1 _ => (HF.out w1).mono ?_) ?_
    · rintro e w2 ⟨rfl, hl⟩
      exact ⟨_, rfl, hl, rfl⟩
    rintro v ⟨_, _, _, hv⟩
    replace hv : v = .agg formsD := hv
    subst hv
    simp only [Act.put, List.setIfInBounds_toArray, List.set_cons_succ, List.set_cons_zero]
    refine wpFreeD_one rfl (.pointer (some ⟨w.heap.size, 0, none⟩)) (fun w1 _ => by kernel_rfl) ?_
    simp only [Act.put, List.setIfInBounds_toArray, List.set_cons_succ, List.set_cons_zero]
    refine wpFreeD_load1 rfl rfl rfl (p := ⟨w.heap.size, 0, none⟩) (v := .int .i64 6) (fun w1 h1 => by rw [((FD.le h1).row m0).cell?]; rfl) ukindInt64 ?_
    simp only [Act.put, List.setIfInBounds_toArray, List.set_cons_succ, List.set_cons_zero]
    refine wpFreeD_one rfl (.agg #[.string ⟨#[115, 112, 111, 105, 108]⟩, .int .i64 2]) (fun w1 _ => by kernel_rfl) ?_
    simp only [Act.put, List.setIfInBounds_toArray, List.set_cons_succ, List.set_cons_zero]
    refine wpFreeD_one rfl (.int .i64 2) (fun w1 _ => by kernel_rfl) ?_
    simp only [Act.put, List.setIfInBounds_toArray, List.set_cons_succ, List.set_cons_zero]
    refine wpFreeD_one rfl (.int .i64 2) (fun w1 _ => by kernel_rfl) ?_
    simp only [Act.put, List.setIfInBounds_toArray, List.set_cons_succ, List.set_cons_zero]
    refine wpFreeD_nil (fun wR hwR hF => ?_)
    clear hF
    replace F := FD.le hwR
    clear hwR FD
    have c1 := hid (show wR.cell? ⟨w.heap.size, 1, none⟩ = some (.int .i64 a) by rw [(F.row m0).cell?]; rfl)
    have c2 := hid (show wR.cell? ⟨w.heap.size, 2, none⟩ = some (.int .i64 b) by rw [(F.row m0).cell?]; rfl)
    have HA := hid (fun (w : World) => i_isDeedNumber a true w)
    have HB := hid (fun (w : World) => i_isDeedNumber b true w)
    clear HD HF
    rcases bool_ft (isD a true) with da | da
    · rw [da] at HA E
      clear da
      go_wp2_with (first | ((with_reducible refine listN F ?_); clear F; intro wN F) | ((with_reducible refine at_load rfl ?_); first | (with_reducible refine wpList_load1G rfl (p := ⟨w.heap.size, 1, none⟩) rfl (v := .int .i64 a) (by kernel_rfl) c1.out ukindInt64 ?_) | (with_reducible refine wpList_load1G rfl (p := ⟨w.heap.size, 2, none⟩) rfl (v := .int .i64 b) (by kernel_rfl) c2.out ukindInt64 ?_)) | (go_at_call 45; first | ((with_reducible refine (HA.out _).mono ?_); rintro e w1 ⟨rfl, rfl⟩; skip) | ((with_reducible refine (HB.out _).mono ?_); rintro e w1 ⟨rfl, rfl⟩; skip)))
      go_ret
      exact ⟨ret_b (by rw [E.out]; rfl), F.below⟩
    · rw [da] at HA E
      clear da
      go_wp2_with (first | ((with_reducible refine listN F ?_); clear F; intro wN F) | ((with_reducible refine at_load rfl ?_); first | (with_reducible refine wpList_load1G rfl (p := ⟨w.heap.size, 1, none⟩) rfl (v := .int .i64 a) (by kernel_rfl) c1.out ukindInt64 ?_) | (with_reducible refine wpList_load1G rfl (p := ⟨w.heap.size, 2, none⟩) rfl (v := .int .i64 b) (by kernel_rfl) c2.out ukindInt64 ?_)) | (go_at_call 45; first | ((with_reducible refine (HA.out _).mono ?_); rintro e w1 ⟨rfl, rfl⟩; skip) | ((with_reducible refine (HB.out _).mono ?_); rintro e w1 ⟨rfl, rfl⟩; skip)))
      go_ret
      exact ⟨ret_b (by rw [E.out]; rfl), F.below⟩
  rcases hk with rfl | hk
  · have F := (Frg.nil w).box 25 #[.int .i64 7, .int .i64 a, .int .i64 b]
    have E := hid (show okD 7 a b = (isD a false && isD b false) from rfl)
    go_enter Tryd.func21, Tryd.ntmps21
    go_wp2_with (first | ((with_reducible refine listN F ?_); clear F; intro wN F))
    first | (refine wpAt0 F ?_; clear F; intro wN F) | (refine wpAtN F ?_; clear F; intro wN F)
    have FD := F.drewN 1
    refine region_freeD (E := leX) (fun f args _ v => v = .agg formsD) (by kernel_rfl) (by kernel_rfl) ?_
    refine wpFreeD_callB rfl rfl Tryd.func22 (by kernel_rfl) (by kernel_rfl) (args := #[]) (by simp [Act.eval]) (fun v w1 w2 hw hv => hv) (fun w1 hw1 _ => (HF.out w1).mono ?_) ?_
    · rintro e w2 ⟨rfl, hl⟩
      exact ⟨_, rfl, hl, rfl⟩
    rintro v ⟨_, _, _, hv⟩
    replace hv : v = .agg formsD := hv
    subst hv
    simp only [Act.put, List.setIfInBounds_toArray, List.set_cons_succ, List.set_cons_zero]
    refine wpFreeD_one rfl (.pointer (some ⟨w.heap.size, 0, none⟩)) (fun w1 _ => by kernel_rfl) ?_
    simp only [Act.put, List.setIfInBounds_toArray, List.set_cons_succ, List.set_cons_zero]
    refine wpFreeD_load1 rfl rfl rfl (p := ⟨w.heap.size, 0, none⟩) (v := .int .i64 7) (fun w1 h1 => by rw [((FD.le h1).row m0).cell?]; rfl) ukindInt64 ?_
    simp only [Act.put, List.setIfInBounds_toArray, List.set_cons_succ, List.set_cons_zero]
    refine wpFreeD_one rfl (.agg #[.string ⟨#[115, 121, 110, 99]⟩, .int .i64 0]) (fun w1 _ => by kernel_rfl) ?_
    simp only [Act.put, List.setIfInBounds_toArray, List.set_cons_succ, List.set_cons_zero]
    refine wpFreeD_one rfl (.int .i64 0) (fun w1 _ => by kernel_rfl) ?_
    simp only [Act.put, List.setIfInBounds_toArray, List.set_cons_succ, List.set_cons_zero]
    refine wpFreeD_one rfl (.int .i64 0) (fun w1 _ => by kernel_rfl) ?_
    simp only [Act.put, List.setIfInBounds_toArray, List.set_cons_succ, List.set_cons_zero]
    refine wpFreeD_nil (fun wR hwR hF => ?_)
    clear hF
    replace F := FD.le hwR
    clear hwR FD
    have c1 := hid (show wR.cell? ⟨w.heap.size, 1, none⟩ = some (.int .i64 a) by rw [(F.row m0).cell?]; rfl)
    have c2 := hid (show wR.cell? ⟨w.heap.size, 2, none⟩ = some (.int .i64 b) by rw [(F.row m0).cell?]; rfl)
    have HA := hid (fun (w : World) => i_isDeedNumber a false w)
    have HB := hid (fun (w : World) => i_isDeedNumber b false w)
    clear HD HF
    rcases bool_ft (isD a false) with da | da
    · rw [da] at HA E
      clear da
      go_wp2_with (first | ((with_reducible refine listN F ?_); clear F; intro wN F) | ((with_reducible refine at_load rfl ?_); first | (with_reducible refine wpList_load1G rfl (p := ⟨w.heap.size, 1, none⟩) rfl (v := .int .i64 a) (by kernel_rfl) c1.out ukindInt64 ?_) | (with_reducible refine wpList_load1G rfl (p := ⟨w.heap.size, 2, none⟩) rfl (v := .int .i64 b) (by kernel_rfl) c2.out ukindInt64 ?_)) | (go_at_call 45; first | ((with_reducible refine (HA.out _).mono ?_); rintro e w1 ⟨rfl, rfl⟩; skip) | ((with_reducible refine (HB.out _).mono ?_); rintro e w1 ⟨rfl, rfl⟩; skip)))
      go_ret
      exact ⟨ret_b (by rw [E.out]; rfl), F.below⟩
    · rw [da] at HA E
      clear da
      go_wp2_with (first | ((with_reducible refine listN F ?_); clear F; intro wN F) | ((with_reducible refine at_load rfl ?_); first | (with_reducible refine wpList_load1G rfl (p := ⟨w.heap.size, 1, none⟩) rfl (v := .int .i64 a) (by kernel_rfl) c1.out ukindInt64 ?_) | (with_reducible refine wpList_load1G rfl (p := ⟨w.heap.size, 2, none⟩) rfl (v := .int .i64 b) (by kernel_rfl) c2.out ukindInt64 ?_)) | (go_at_call 45; first | ((with_reducible refine (HA.out _).mono ?_); rintro e w1 ⟨rfl, rfl⟩; skip) | ((with_reducible refine (HB.out _).mono ?_); rintro e w1 ⟨rfl, rfl⟩; skip)))
      go_ret
      exact ⟨ret_b (by rw [E.out]; rfl), F.below⟩
  rcases hk with rfl | hk
  · have F := (Frg.nil w).box 25 #[.int .i64 8, .int .i64 a, .int .i64 b]
    have E := hid (show okD 8 a b = (isD a false && isD b false) from rfl)
    go_enter Tryd.func21, Tryd.ntmps21
    go_wp2_with (first | ((with_reducible refine listN F ?_); clear F; intro wN F))
    first | (refine wpAt0 F ?_; clear F; intro wN F) | (refine wpAtN F ?_; clear F; intro wN F)
    have FD := F.drewN 1
    refine region_freeD (E := leX) (fun f args _ v => v = .agg formsD) (by kernel_rfl) (by kernel_rfl) ?_
    refine wpFreeD_callB rfl rfl Tryd.func22 (by kernel_rfl) (by kernel_rfl) (args := #[]) (by simp [Act.eval]) (fun v w1 w2 hw hv => hv) (fun w1 hw1 _ => (HF.out w1).mono ?_) ?_
    · rintro e w2 ⟨rfl, hl⟩
      exact ⟨_, rfl, hl, rfl⟩
    rintro v ⟨_, _, _, hv⟩
    replace hv : v = .agg formsD := hv
    subst hv
    simp only [Act.put, List.setIfInBounds_toArray, List.set_cons_succ, List.set_cons_zero]
    refine wpFreeD_one rfl (.pointer (some ⟨w.heap.size, 0, none⟩)) (fun w1 _ => by kernel_rfl) ?_
    simp only [Act.put, List.setIfInBounds_toArray, List.set_cons_succ, List.set_cons_zero]
    refine wpFreeD_load1 rfl rfl rfl (p := ⟨w.heap.size, 0, none⟩) (v := .int .i64 8) (fun w1 h1 => by rw [((FD.le h1).row m0).cell?]; rfl) ukindInt64 ?_
    simp only [Act.put, List.setIfInBounds_toArray, List.set_cons_succ, List.set_cons_zero]
    refine wpFreeD_one rfl (.agg #[.string ⟨#[99, 114, 97, 115, 104]⟩, .int .i64 0]) (fun w1 _ => by kernel_rfl) ?_
    simp only [Act.put, List.setIfInBounds_toArray, List.set_cons_succ, List.set_cons_zero]
    refine wpFreeD_one rfl (.int .i64 0) (fun w1 _ => by kernel_rfl) ?_
    simp only [Act.put, List.setIfInBounds_toArray, List.set_cons_succ, List.set_cons_zero]
    refine wpFreeD_one rfl (.int .i64 0) (fun w1 _ => by kernel_rfl) ?_
    simp only [Act.put, List.setIfInBounds_toArray, List.set_cons_succ, List.set_cons_zero]
    refine wpFreeD_nil (fun wR hwR hF => ?_)
    clear hF
    replace F := FD.le hwR
    clear hwR FD
    have c1 := hid (show wR.cell? ⟨w.heap.size, 1, none⟩ = some (.int .i64 a) by rw [(F.row m0).cell?]; rfl)
    have c2 := hid (show wR.cell? ⟨w.heap.size, 2, none⟩ = some (.int .i64 b) by rw [(F.row m0).cell?]; rfl)
    have HA := hid (fun (w : World) => i_isDeedNumber a false w)
    have HB := hid (fun (w : World) => i_isDeedNumber b false w)
    clear HD HF
    rcases bool_ft (isD a false) with da | da
    · rw [da] at HA E
      clear da
      go_wp2_with (first | ((with_reducible refine listN F ?_); clear F; intro wN F) | ((with_reducible refine at_load rfl ?_); first | (with_reducible refine wpList_load1G rfl (p := ⟨w.heap.size, 1, none⟩) rfl (v := .int .i64 a) (by kernel_rfl) c1.out ukindInt64 ?_) | (with_reducible refine wpList_load1G rfl (p := ⟨w.heap.size, 2, none⟩) rfl (v := .int .i64 b) (by kernel_rfl) c2.out ukindInt64 ?_)) | (go_at_call 45; first | ((with_reducible refine (HA.out _).mono ?_); rintro e w1 ⟨rfl, rfl⟩; skip) | ((with_reducible refine (HB.out _).mono ?_); rintro e w1 ⟨rfl, rfl⟩; skip)))
      go_ret
      exact ⟨ret_b (by rw [E.out]; rfl), F.below⟩
    · rw [da] at HA E
      clear da
      go_wp2_with (first | ((with_reducible refine listN F ?_); clear F; intro wN F) | ((with_reducible refine at_load rfl ?_); first | (with_reducible refine wpList_load1G rfl (p := ⟨w.heap.size, 1, none⟩) rfl (v := .int .i64 a) (by kernel_rfl) c1.out ukindInt64 ?_) | (with_reducible refine wpList_load1G rfl (p := ⟨w.heap.size, 2, none⟩) rfl (v := .int .i64 b) (by kernel_rfl) c2.out ukindInt64 ?_)) | (go_at_call 45; first | ((with_reducible refine (HA.out _).mono ?_); rintro e w1 ⟨rfl, rfl⟩; skip) | ((with_reducible refine (HB.out _).mono ?_); rintro e w1 ⟨rfl, rfl⟩; skip)))
      go_ret
      exact ⟨ret_b (by rw [E.out]; rfl), F.below⟩
  subst hk
  have F := (Frg.nil w).box 25 #[.int .i64 9, .int .i64 a, .int .i64 b]
  have E := hid (show okD 9 a b = (isD a true && isD b false) from rfl)
  go_enter Tryd.func21, Tryd.ntmps21
  go_wp2_with (first | ((with_reducible refine listN F ?_); clear F; intro wN F))
  first | (refine wpAt0 F ?_; clear F; intro wN F) | (refine wpAtN F ?_; clear F; intro wN F)
  have FD := F.drewN 1
  refine region_freeD (E := leX) (fun f args _ v => v = .agg formsD) (by kernel_rfl) (by kernel_rfl) ?_
  refine wpFreeD_callB rfl rfl Tryd.func22 (by kernel_rfl) (by kernel_rfl) (args := #[]) (by simp [Act.eval]) (fun v w1 w2 hw hv => hv) (fun w1 hw1 _ => (HF.out w1).mono ?_) ?_
  · rintro e w2 ⟨rfl, hl⟩
    exact ⟨_, rfl, hl, rfl⟩
  rintro v ⟨_, _, _, hv⟩
  replace hv : v = .agg formsD := hv
  subst hv
  simp only [Act.put, List.setIfInBounds_toArray, List.set_cons_succ, List.set_cons_zero]
  refine wpFreeD_one rfl (.pointer (some ⟨w.heap.size, 0, none⟩)) (fun w1 _ => by kernel_rfl) ?_
  simp only [Act.put, List.setIfInBounds_toArray, List.set_cons_succ, List.set_cons_zero]
  refine wpFreeD_load1 rfl rfl rfl (p := ⟨w.heap.size, 0, none⟩) (v := .int .i64 9) (fun w1 h1 => by rw [((FD.le h1).row m0).cell?]; rfl) ukindInt64 ?_
  simp only [Act.put, List.setIfInBounds_toArray, List.set_cons_succ, List.set_cons_zero]
  refine wpFreeD_one rfl (.agg #[.string ⟨#[113, 117, 105, 116]⟩, .int .i64 1]) (fun w1 _ => by kernel_rfl) ?_
  simp only [Act.put, List.setIfInBounds_toArray, List.set_cons_succ, List.set_cons_zero]
  refine wpFreeD_one rfl (.int .i64 1) (fun w1 _ => by kernel_rfl) ?_
  simp only [Act.put, List.setIfInBounds_toArray, List.set_cons_succ, List.set_cons_zero]
  refine wpFreeD_one rfl (.int .i64 1) (fun w1 _ => by kernel_rfl) ?_
  simp only [Act.put, List.setIfInBounds_toArray, List.set_cons_succ, List.set_cons_zero]
  refine wpFreeD_nil (fun wR hwR hF => ?_)
  clear hF
  replace F := FD.le hwR
  clear hwR FD
  have c1 := hid (show wR.cell? ⟨w.heap.size, 1, none⟩ = some (.int .i64 a) by rw [(F.row m0).cell?]; rfl)
  have c2 := hid (show wR.cell? ⟨w.heap.size, 2, none⟩ = some (.int .i64 b) by rw [(F.row m0).cell?]; rfl)
  have HA := hid (fun (w : World) => i_isDeedNumber a true w)
  have HB := hid (fun (w : World) => i_isDeedNumber b false w)
  clear HD HF
  rcases bool_ft (isD a true) with da | da
  · rw [da] at HA E
    clear da
    go_wp2_with (first | ((with_reducible refine listN F ?_); clear F; intro wN F) | ((with_reducible refine at_load rfl ?_); first | (with_reducible refine wpList_load1G rfl (p := ⟨w.heap.size, 1, none⟩) rfl (v := .int .i64 a) (by kernel_rfl) c1.out ukindInt64 ?_) | (with_reducible refine wpList_load1G rfl (p := ⟨w.heap.size, 2, none⟩) rfl (v := .int .i64 b) (by kernel_rfl) c2.out ukindInt64 ?_)) | (go_at_call 45; first | ((with_reducible refine (HA.out _).mono ?_); rintro e w1 ⟨rfl, rfl⟩; skip) | ((with_reducible refine (HB.out _).mono ?_); rintro e w1 ⟨rfl, rfl⟩; skip)))
    go_ret
    exact ⟨ret_b (by rw [E.out]; rfl), F.below⟩
  · rw [da] at HA E
    clear da
    go_wp2_with (first | ((with_reducible refine listN F ?_); clear F; intro wN F) | ((with_reducible refine at_load rfl ?_); first | (with_reducible refine wpList_load1G rfl (p := ⟨w.heap.size, 1, none⟩) rfl (v := .int .i64 a) (by kernel_rfl) c1.out ukindInt64 ?_) | (with_reducible refine wpList_load1G rfl (p := ⟨w.heap.size, 2, none⟩) rfl (v := .int .i64 b) (by kernel_rfl) c2.out ukindInt64 ?_)) | (go_at_call 45; first | ((with_reducible refine (HA.out _).mono ?_); rintro e w1 ⟨rfl, rfl⟩; skip) | ((with_reducible refine (HB.out _).mono ?_); rintro e w1 ⟨rfl, rfl⟩; skip)))
    go_ret
    exact ⟨ret_b (by rw [E.out]; rfl), F.below⟩
set_option maxRecDepth 100000 in
set_option maxHeartbeats 4000000 in
theorem s_ValidDeed (k a b : Int) (w : World) : Calls Tryd.prog 17 #[.agg #[.int .i64 k, .int .i64 a, .int .i64 b]] w (Out_b (okD k a b) w) := by
  have F := (Frg.nil w).box 25 #[.int .i64 k, .int .i64 a, .int .i64 b]
  have HK := hid (fun (w : World) => s_In k 1 9 w)
  have HA := hid (fun (w : World) => s_In a 0 999 w)
  have HB := hid (fun (w : World) => s_In b 0 999 w)
  have HN := hid (fun (w : World) => s_l10Numbers k w)
  rcases bool_ft (decide (1 ≤ k) && decide (k ≤ 9)) with dk | dk
  · have E := hid (show okD k a b = false by unfold okD; rw [dk]; rfl)
    rw [dk] at HK
    clear dk
    go_enter Tryd.func17, Tryd.ntmps17
    go_wp2_with (first | ((with_reducible refine listN F ?_); clear F; intro wN F) | ((with_reducible refine at_load rfl ?_); first | (with_reducible refine wpList_load1G rfl (p := ⟨w.heap.size, 0, none⟩) rfl (v := .int .i64 k) (by kernel_rfl) (by rw [(F.row m0).cell?]; rfl) ukindInt64 ?_) | (with_reducible refine wpList_load1G rfl (p := ⟨w.heap.size, 1, none⟩) rfl (v := .int .i64 a) (by kernel_rfl) (by rw [(F.row m0).cell?]; rfl) ukindInt64 ?_) | (with_reducible refine wpList_load1G rfl (p := ⟨w.heap.size, 2, none⟩) rfl (v := .int .i64 b) (by kernel_rfl) (by rw [(F.row m0).cell?]; rfl) ukindInt64 ?_)) | (go_at_call 44; first | ((with_reducible refine (HK.out _).mono ?_); rintro e w1 ⟨rfl, rfl⟩; skip) | ((with_reducible refine (HA.out _).mono ?_); rintro e w1 ⟨rfl, rfl⟩; skip) | ((with_reducible refine (HB.out _).mono ?_); rintro e w1 ⟨rfl, rfl⟩; skip)) | (go_at_call 19; ((with_reducible refine (HN.out _).mono ?_); rintro e w1 ⟨rfl, rfl⟩; skip)))
    go_ret
    exact ⟨ret_b E.out.symm, F.below⟩
  have tk := dk
  rw [dk] at HK
  clear dk
  rcases bool_ft (decide (0 ≤ a) && decide (a ≤ 999)) with da | da
  · have E := hid (show okD k a b = false by
      have hx : isD a (decide (1 ≤ numD k)) = false := by
        simp only [Bool.and_eq_false_iff, decide_eq_false_iff_not] at da
        unfold isD
        have b0 : ¬ a = 0 := by omega
        rcases da with da | da <;> simp [b0] <;> omega
      unfold okD; rw [hx]; simp)
    rw [da] at HA
    clear da
    go_enter Tryd.func17, Tryd.ntmps17
    go_wp2_with (first | ((with_reducible refine listN F ?_); clear F; intro wN F) | ((with_reducible refine at_load rfl ?_); first | (with_reducible refine wpList_load1G rfl (p := ⟨w.heap.size, 0, none⟩) rfl (v := .int .i64 k) (by kernel_rfl) (by rw [(F.row m0).cell?]; rfl) ukindInt64 ?_) | (with_reducible refine wpList_load1G rfl (p := ⟨w.heap.size, 1, none⟩) rfl (v := .int .i64 a) (by kernel_rfl) (by rw [(F.row m0).cell?]; rfl) ukindInt64 ?_) | (with_reducible refine wpList_load1G rfl (p := ⟨w.heap.size, 2, none⟩) rfl (v := .int .i64 b) (by kernel_rfl) (by rw [(F.row m0).cell?]; rfl) ukindInt64 ?_)) | (go_at_call 44; first | ((with_reducible refine (HK.out _).mono ?_); rintro e w1 ⟨rfl, rfl⟩; skip) | ((with_reducible refine (HA.out _).mono ?_); rintro e w1 ⟨rfl, rfl⟩; skip) | ((with_reducible refine (HB.out _).mono ?_); rintro e w1 ⟨rfl, rfl⟩; skip)) | (go_at_call 19; ((with_reducible refine (HN.out _).mono ?_); rintro e w1 ⟨rfl, rfl⟩; skip)))
    go_ret
    exact ⟨ret_b E.out.symm, F.below⟩
  have ta := da
  rw [da] at HA
  clear da
  rcases bool_ft (decide (0 ≤ b) && decide (b ≤ 999)) with db | db
  · have E := hid (show okD k a b = false by
      have hx : isD b (decide (2 ≤ numD k)) = false := by
        simp only [Bool.and_eq_false_iff, decide_eq_false_iff_not] at db
        unfold isD
        have b0 : ¬ b = 0 := by omega
        rcases db with db | db <;> simp [b0] <;> omega
      unfold okD; rw [hx]; simp)
    rw [db] at HB
    clear db
    go_enter Tryd.func17, Tryd.ntmps17
    go_wp2_with (first | ((with_reducible refine listN F ?_); clear F; intro wN F) | ((with_reducible refine at_load rfl ?_); first | (with_reducible refine wpList_load1G rfl (p := ⟨w.heap.size, 0, none⟩) rfl (v := .int .i64 k) (by kernel_rfl) (by rw [(F.row m0).cell?]; rfl) ukindInt64 ?_) | (with_reducible refine wpList_load1G rfl (p := ⟨w.heap.size, 1, none⟩) rfl (v := .int .i64 a) (by kernel_rfl) (by rw [(F.row m0).cell?]; rfl) ukindInt64 ?_) | (with_reducible refine wpList_load1G rfl (p := ⟨w.heap.size, 2, none⟩) rfl (v := .int .i64 b) (by kernel_rfl) (by rw [(F.row m0).cell?]; rfl) ukindInt64 ?_)) | (go_at_call 44; first | ((with_reducible refine (HK.out _).mono ?_); rintro e w1 ⟨rfl, rfl⟩; skip) | ((with_reducible refine (HA.out _).mono ?_); rintro e w1 ⟨rfl, rfl⟩; skip) | ((with_reducible refine (HB.out _).mono ?_); rintro e w1 ⟨rfl, rfl⟩; skip)) | (go_at_call 19; ((with_reducible refine (HN.out _).mono ?_); rintro e w1 ⟨rfl, rfl⟩; skip)))
    go_ret
    exact ⟨ret_b E.out.symm, F.below⟩
  have tb := db
  rw [db] at HB
  clear db
  have hn := numD_is k
  simp only [Bool.and_eq_true, decide_eq_true_eq] at ta tb
  have hta := hid ta; have htb := hid tb
  clear ta tb
  rcases hn with hn | hn
  · have E := hid (show okD k a b = (isD a false && isD b false) by unfold okD; rw [tk, hn]; rfl)
    rw [hn] at HN
    clear hn tk
    by_cases a0 : a = 0 <;> by_cases b0 : b = 0 <;> (try subst a0) <;> (try subst b0)
    all_goals
      go_enter Tryd.func17, Tryd.ntmps17
      go_wp2_with (first | ((with_reducible refine listN F ?_); clear F; intro wN F) | ((with_reducible refine at_load rfl ?_); first | (with_reducible refine wpList_load1G rfl (p := ⟨w.heap.size, 0, none⟩) rfl (v := .int .i64 k) (by kernel_rfl) (by rw [(F.row m0).cell?]; rfl) ukindInt64 ?_) | (with_reducible refine wpList_load1G rfl (p := ⟨w.heap.size, 1, none⟩) rfl (v := .int .i64 a) (by kernel_rfl) (by rw [(F.row m0).cell?]; rfl) ukindInt64 ?_) | (with_reducible refine wpList_load1G rfl (p := ⟨w.heap.size, 2, none⟩) rfl (v := .int .i64 b) (by kernel_rfl) (by rw [(F.row m0).cell?]; rfl) ukindInt64 ?_)) | (go_at_call 44; first | ((with_reducible refine (HK.out _).mono ?_); rintro e w1 ⟨rfl, rfl⟩; skip) | ((with_reducible refine (HA.out _).mono ?_); rintro e w1 ⟨rfl, rfl⟩; skip) | ((with_reducible refine (HB.out _).mono ?_); rintro e w1 ⟨rfl, rfl⟩; skip)) | (go_at_call 19; ((with_reducible refine (HN.out _).mono ?_); rintro e w1 ⟨rfl, rfl⟩; skip)))
      go_ret
      exact ⟨ret_b (by rw [E.out]; have := hta.out; have := htb.out; unfold isD; first | (simp [a0, b0] <;> omega) | (simp [a0] <;> omega) | (simp [b0] <;> omega) | (simp <;> omega)), F.below⟩
  rcases hn with hn | hn
  · have E := hid (show okD k a b = (isD a true && isD b false) by unfold okD; rw [tk, hn]; rfl)
    rw [hn] at HN
    clear hn tk
    by_cases a0 : a = 0 <;> by_cases b0 : b = 0 <;> (try subst a0) <;> (try subst b0)
    all_goals
      go_enter Tryd.func17, Tryd.ntmps17
      go_wp2_with (first | ((with_reducible refine listN F ?_); clear F; intro wN F) | ((with_reducible refine at_load rfl ?_); first | (with_reducible refine wpList_load1G rfl (p := ⟨w.heap.size, 0, none⟩) rfl (v := .int .i64 k) (by kernel_rfl) (by rw [(F.row m0).cell?]; rfl) ukindInt64 ?_) | (with_reducible refine wpList_load1G rfl (p := ⟨w.heap.size, 1, none⟩) rfl (v := .int .i64 a) (by kernel_rfl) (by rw [(F.row m0).cell?]; rfl) ukindInt64 ?_) | (with_reducible refine wpList_load1G rfl (p := ⟨w.heap.size, 2, none⟩) rfl (v := .int .i64 b) (by kernel_rfl) (by rw [(F.row m0).cell?]; rfl) ukindInt64 ?_)) | (go_at_call 44; first | ((with_reducible refine (HK.out _).mono ?_); rintro e w1 ⟨rfl, rfl⟩; skip) | ((with_reducible refine (HA.out _).mono ?_); rintro e w1 ⟨rfl, rfl⟩; skip) | ((with_reducible refine (HB.out _).mono ?_); rintro e w1 ⟨rfl, rfl⟩; skip)) | (go_at_call 19; ((with_reducible refine (HN.out _).mono ?_); rintro e w1 ⟨rfl, rfl⟩; skip)))
      go_ret
      exact ⟨ret_b (by rw [E.out]; have := hta.out; have := htb.out; unfold isD; first | (simp [a0, b0] <;> omega) | (simp [a0] <;> omega) | (simp [b0] <;> omega) | (simp <;> omega)), F.below⟩
  have E := hid (show okD k a b = (isD a true && isD b true) by unfold okD; rw [tk, hn]; rfl)
  rw [hn] at HN
  clear hn tk
  by_cases a0 : a = 0 <;> by_cases b0 : b = 0 <;> (try subst a0) <;> (try subst b0)
  all_goals
    go_enter Tryd.func17, Tryd.ntmps17
    go_wp2_with (first | ((with_reducible refine listN F ?_); clear F; intro wN F) | ((with_reducible refine at_load rfl ?_); first | (with_reducible refine wpList_load1G rfl (p := ⟨w.heap.size, 0, none⟩) rfl (v := .int .i64 k) (by kernel_rfl) (by rw [(F.row m0).cell?]; rfl) ukindInt64 ?_) | (with_reducible refine wpList_load1G rfl (p := ⟨w.heap.size, 1, none⟩) rfl (v := .int .i64 a) (by kernel_rfl) (by rw [(F.row m0).cell?]; rfl) ukindInt64 ?_) | (with_reducible refine wpList_load1G rfl (p := ⟨w.heap.size, 2, none⟩) rfl (v := .int .i64 b) (by kernel_rfl) (by rw [(F.row m0).cell?]; rfl) ukindInt64 ?_)) | (go_at_call 44; first | ((with_reducible refine (HK.out _).mono ?_); rintro e w1 ⟨rfl, rfl⟩; skip) | ((with_reducible refine (HA.out _).mono ?_); rintro e w1 ⟨rfl, rfl⟩; skip) | ((with_reducible refine (HB.out _).mono ?_); rintro e w1 ⟨rfl, rfl⟩; skip)) | (go_at_call 19; ((with_reducible refine (HN.out _).mono ?_); rintro e w1 ⟨rfl, rfl⟩; skip)))
    go_ret
    exact ⟨ret_b (by rw [E.out]; have := hta.out; have := htb.out; unfold isD; first | (simp [a0, b0] <;> omega) | (simp [a0] <;> omega) | (simp [b0] <;> omega) | (simp <;> omega)), F.below⟩
end Go.Proofs.YtogledmlbcmkjaaDoor

/- Hexadecimal digits: the text of bits. Nothing here names a program. -/
namespace Go.Fk
open Go Go.RowKit
/-- The byte of a digit. -/
def hexB (n : Nat) : Nat := if n < 10 then 48 + n else 87 + n
/-- The last j digits of b, highest first. -/
def hexC (b : Nat) : Nat → List Nat
  | 0 => []
  | j + 1 => hexB (b / 16 ^ j % 16) :: hexC b j
theorem hexC_len (b j : Nat) : (hexC b j).length = j := by
  induction j with
  | zero => rfl
  | succ j ih => simp [hexC, ih]
theorem hexB_lt (n : Nat) (h : n < 16) : hexB n < 256 := by unfold hexB; split <;> omega
theorem hexC_lt (b : Nat) : ∀ j, ∀ x ∈ hexC b j, x < 256 := by
  intro j
  induction j with
  | zero => intro x hx; cases hx
  | succ j ih =>
    intro x hx
    simp only [hexC, List.mem_cons] at hx
    rcases hx with rfl | hx
    · exact hexB_lt _ (Nat.mod_lt _ (by decide))
    · exact ih x hx
def digs : ByteArray := ⟨#[48, 49, 50, 51, 52, 53, 54, 55, 56, 57, 97, 98, 99, 100, 101, 102]⟩
/-- The cells of the array of digits when j of them are there. -/
def hexV (b j : Nat) : List Value := List.replicate (8 - j) (Value.int .u8 0) ++ (hexC b j).map (fun x : Nat => Value.int .u8 (x : Int))
theorem hexV_len (b j : Nat) (h : j ≤ 8) : (hexV b j).length = 8 := by simp [hexV, hexC_len]; omega
theorem hexV_set (b j : Nat) (h : j < 8) : (hexV b j).set (7 - j) (Value.int .u8 ((hexB (b / 16 ^ j % 16) : Nat) : Int)) = hexV b (j + 1) := by
  unfold hexV
  rw [show 8 - j = (7 - j) + 1 by omega, List.replicate_succ', List.append_assoc, List.set_append_right _ _ (by simp), show 8 - (j + 1) = 7 - j by omega]
  simp [hexC]
/-- The text of bits. -/
def hexT (b : Nat) : ByteArray := ⟨((hexC b 8).map UInt8.ofNat).toArray⟩
theorem hexT_size (b : Nat) : (hexT b).size = 8 := by
  show ((hexC b 8).map UInt8.ofNat).toArray.size = 8
  simp [hexC_len]
/-- Texts joined by a separator. -/
def jnB (sep : ByteArray) (l : List ByteArray) : ByteArray := ⟨(Lib.join (l.map (·.data.toList)) sep.data.toList).toArray⟩
theorem ba_ext {a b : ByteArray} (h : a.data.toList = b.data.toList) : a = b := ByteArray.ext (Array.toList_inj.1 h)
theorem jnB_data (sep : ByteArray) (l : List ByteArray) : (jnB sep l).data.toList = Lib.join (l.map (·.data.toList)) sep.data.toList := by simp [jnB]
theorem jnB_one (sep x : ByteArray) : jnB sep [x] = x := ba_ext (by rw [jnB_data]; simp [Lib.join_one])
theorem jnB_snoc (sep : ByteArray) (l : List ByteArray) (x : ByteArray) (h : l ≠ []) : jnB sep (l ++ [x]) = jnB sep l ++ (sep ++ x) := by
  apply ba_ext
  rw [jnB_data]
  cases l with
  | nil => exact absurd rfl h
  | cons y l =>
    simp only [List.cons_append, List.map_cons, List.map_append, List.map_nil, Lib.join_cons]
    simp [Lib.joinTail, jnB_data, Lib.join_cons, List.append_assoc]
theorem ba_size (a : ByteArray) : a.size = a.data.toList.length := by simp
theorem jnB_cons (sep y x : ByteArray) (l : List ByteArray) : jnB sep (y :: x :: l) = y ++ (sep ++ jnB sep (x :: l)) := by
  apply ba_ext
  simp [jnB_data, Lib.join_cons, Lib.joinTail, List.append_assoc]
theorem jnB_size (sep : ByteArray) (m : Nat) : ∀ l : List ByteArray, (∀ x ∈ l, x.size ≤ m) → (jnB sep l).size ≤ l.length * (m + sep.size) := by
  intro l
  induction l with
  | nil => intro _; exact Nat.zero_le _
  | cons y l ih =>
    intro h
    have hy := h y List.mem_cons_self
    cases l with
    | nil => rw [jnB_one]; simp; omega
    | cons x l =>
      have := ih (fun z hz => h z (List.mem_cons_of_mem _ hz))
      rw [jnB_cons, ByteArray.size_append, ByteArray.size_append]
      simp only [List.length_cons, Nat.succ_mul] at this ⊢
      omega
theorem digs_get (n : Nat) (h : n < digs.size) : (digs[n]'h).toNat = hexB n := by
  have h' : n < 16 := h
  match n, h, h' with
  | 0, _, _ => rfl
  | 1, _, _ => rfl
  | 2, _, _ => rfl
  | 3, _, _ => rfl
  | 4, _, _ => rfl
  | 5, _, _ => rfl
  | 6, _, _ => rfl
  | 7, _, _ => rfl
  | 8, _, _ => rfl
  | 9, _, _ => rfl
  | 10, _, _ => rfl
  | 11, _, _ => rfl
  | 12, _, _ => rfl
  | 13, _, _ => rfl
  | 14, _, _ => rfl
  | 15, _, _ => rfl
  | n + 16, _, h' => exact absurd h' (by omega)
theorem hexV_put {b j d : Nat} (hj : j < 8) (hd : d = b / 16 ^ j) (h : d % 16 < digs.size) : (hexV b j).toArray.setIfInBounds (7 - j) (Value.int .u8 (((digs[d % 16]'h).toNat : Nat) : Int)) = (hexV b (j + 1)).toArray := by
  rw [digs_get, hd, ← hexV_set b j hj]
  simp
theorem hexT_at (b i : Nat) (h : i < (hexT b).size) : (hexV b 8).toArray[i]? = some (Value.int .u8 ((((hexT b)[i]'h).toNat : Nat) : Int)) := by
  have h8 : i < (hexC b 8).length := by rw [hexC_len]; rw [hexT_size] at h; exact h
  have e : ((hexT b)[i]'h).toNat = (hexC b 8)[i] := by
    have : (hexT b)[i]'h = UInt8.ofNat ((hexC b 8)[i]) := by
      have e2 : (hexT b)[i]'h = ((hexC b 8).map UInt8.ofNat)[i]'(by simp; exact h8) := rfl
      rw [e2]
      simp
    rw [this]
    have := hexC_lt b 8 _ (List.getElem_mem h8)
    simp
    omega
  rw [e]
  simp [hexV, h8]
theorem hex_next {b d j : Nat} (h : d = b / 16 ^ j) : d / 16 = b / 16 ^ (j + 1) := by rw [h, Nat.div_div_eq_div_mul, Nat.pow_succ]
def spB : ByteArray := ⟨#[32]⟩
/-- The texts of n samples. -/
def hexs (f : Nat → Nat) (n : Nat) : List ByteArray := (List.range n).map (fun i => hexT (can .f32 (f i)))
theorem hexs_len (f : Nat → Nat) (n : Nat) : (hexs f n).length = n := by simp [hexs]
theorem hexs_succ (f : Nat → Nat) (n : Nat) : hexs f (n + 1) = hexs f n ++ [hexT (can .f32 (f n))] := by simp [hexs, List.range_succ]
theorem hexs_at (f : Nat → Nat) {n i : Nat} (h : i < n) : (hexs f n)[i]? = some (hexT (can .f32 (f i))) := by simp [hexs, h]
theorem hexs_ne (f : Nat → Nat) {n : Nat} (h : 0 < n) : hexs f n ≠ [] := by
  intro e
  have := congrArg List.length e
  rw [hexs_len] at this
  simp at this
  omega
theorem hexs_mem {f : Nat → Nat} {n : Nat} {x : ByteArray} (h : x ∈ hexs f n) : x.size = 8 := by
  simp only [hexs, List.mem_map] at h
  obtain ⟨i, _, rfl⟩ := h
  exact hexT_size _
theorem hexs_congr {f g : Nat → Nat} {n : Nat} (h : ∀ i, i < n → can .f32 (f i) = can .f32 (g i)) : hexs f n = hexs g n := by
  unfold hexs
  apply List.map_congr_left
  intro i hi
  rw [h i (by simpa using hi)]
def txtS (f : Nat → Nat) (n : Nat) : ByteArray := jnB spB (hexs f n)
theorem txtS_size (f : Nat → Nat) (n : Nat) : (txtS f n).size ≤ n * 9 := by
  have := jnB_size spB 8 (hexs f n) (fun x hx => by rw [hexs_mem hx]; exact Nat.le_refl _)
  rw [hexs_len] at this
  exact this
theorem txtS_one (f : Nat → Nat) : txtS f 1 = hexT (can .f32 (f 0)) := by
  unfold txtS
  rw [show hexs f 1 = [hexT (can .f32 (f 0))] from rfl, jnB_one]
theorem txtS_succ (f : Nat → Nat) {n : Nat} (h : 0 < n) : txtS f (n + 1) = txtS f n ++ (spB ++ hexT (can .f32 (f n))) := by
  unfold txtS
  rw [hexs_succ, jnB_snoc _ _ _ (hexs_ne f h)]
end Go.Fk

/- strconv.FormatInt at base 10 by its contracts. -/
namespace Go.Fk
open Go Go.RowKit
/-- A natural number in decimal. -/
def decT (n : Nat) : ByteArray := ⟨(Lib.decDigits n).toArray⟩
end Go.Fk
namespace Go.Proofs.YtogledmlbcmkjaaDoor
open Go.Shelf Go.RowKit Go.Fk
def renI : Go.Shelf.Ren := ⟨fun | 173 => 46 | 246 => 66 | 283 => 78 | 284 => 79 | 285 => 80 | 286 => 81 | 129 => 91 | 317 => 90 | 318 => 92 | 319 => 93 | 320 => 94 | 337 => 97 | 338 => 98 | n => n, fun | 2 => 2 | 3 => 3 | 9 => 9 | 4 => 4 | 171 => 123 | 0 => 0 | 53 => 124 | 37 => 83 | 5 => 5 | 173 => 127 | 212 => 142 | 51 => 101 | 20 => 20 | 213 => 143 | 46 => 134 | 232 => 149 | 233 => 150 | n => n, fun | 17 => 2 | 18 => 3 | 19 => 4 | n => n⟩
theorem laysMI : Go.Proofs.LaysM.n173 Tryd.prog renI := {
  mixed := by kernel_rfl
  f129 := Tryd.func91.trans (congrArg some (by kernel_rfl))
  f173 := Tryd.func46.trans (congrArg some (by kernel_rfl))
  f246 := Tryd.func66.trans (congrArg some (by kernel_rfl))
  f283 := Tryd.func78.trans (congrArg some (by kernel_rfl))
  f284 := Tryd.func79.trans (congrArg some (by kernel_rfl))
  f285 := Tryd.func80.trans (congrArg some (by kernel_rfl))
  f286 := Tryd.func81.trans (congrArg some (by kernel_rfl))
  f317 := Tryd.func90.trans (congrArg some (by kernel_rfl))
  f318 := Tryd.func92.trans (congrArg some (by kernel_rfl))
  f319 := Tryd.func93.trans (congrArg some (by kernel_rfl))
  f320 := Tryd.func94.trans (congrArg some (by kernel_rfl))
  f337 := Tryd.func97.trans (congrArg some (by kernel_rfl))
  f338 := Tryd.func98.trans (congrArg some (by kernel_rfl))
  t0 := Tryd.underlying0
  a0 := Tryd.isAgg0
  z0 := Tryd.sizeOf0
  v0 := Tryd.zeroValue0
  t2 := Tryd.underlying2
  a2 := Tryd.isAgg2
  z2 := Tryd.sizeOf2
  v2 := Tryd.zeroValue2
  t3 := Tryd.underlying3
  a3 := Tryd.isAgg3
  z3 := Tryd.sizeOf3
  v3 := Tryd.zeroValue3
  t4 := Tryd.underlying4
  a4 := Tryd.isAgg4
  z4 := Tryd.sizeOf4
  v4 := Tryd.zeroValue4
  t5 := Tryd.underlying5
  a5 := Tryd.isAgg5
  z5 := Tryd.sizeOf5
  v5 := Tryd.zeroValue5
  t9 := Tryd.underlying9
  a9 := Tryd.isAgg9
  z9 := Tryd.sizeOf9
  v9 := Tryd.zeroValue9
  t20 := Tryd.underlying20
  a20 := Tryd.isAgg20
  z20 := Tryd.sizeOf20
  v20 := Tryd.zeroValue20
  t37 := Tryd.underlying83
  a37 := Tryd.isAgg83
  z37 := Tryd.sizeOf83
  v37 := Tryd.zeroValue83
  t46 := Tryd.underlying134
  a46 := Tryd.isAgg134
  z46 := Tryd.sizeOf134
  v46 := Tryd.zeroValue134
  t51 := Tryd.underlying101
  a51 := Tryd.isAgg101
  z51 := Tryd.sizeOf101
  v51 := Tryd.zeroValue101
  t53 := Tryd.underlying124
  a53 := Tryd.isAgg124
  z53 := Tryd.sizeOf124
  v53 := Tryd.zeroValue124
  t171 := Tryd.underlying123
  a171 := Tryd.isAgg123
  z171 := Tryd.sizeOf123
  v171 := Tryd.zeroValue123
  t173 := Tryd.underlying127
  a173 := Tryd.isAgg127
  z173 := Tryd.sizeOf127
  v173 := Tryd.zeroValue127
  t212 := Tryd.underlying142
  a212 := Tryd.isAgg142
  z212 := Tryd.sizeOf142
  v212 := Tryd.zeroValue142
  t213 := Tryd.underlying143
  a213 := Tryd.isAgg143
  z213 := Tryd.sizeOf143
  t232 := Tryd.underlying149
  a232 := Tryd.isAgg149
  z232 := Tryd.sizeOf149
  v232 := Tryd.zeroValue149
  t233 := Tryd.underlying150
  a233 := Tryd.isAgg150
  z233 := Tryd.sizeOf150
  v233 := Tryd.zeroValue150
  g17 := by kernel_rfl
  g18 := by kernel_rfl
  g19 := by kernel_rfl
  i0 := by kernel_rfl
  i2 := by kernel_rfl
  i3 := by kernel_rfl
  i4 := by kernel_rfl
  i5 := by kernel_rfl
  i9 := by kernel_rfl
  i20 := by kernel_rfl
  i37 := by kernel_rfl
  i46 := by kernel_rfl
  i51 := by kernel_rfl
  i53 := by kernel_rfl
  i171 := by kernel_rfl
  i173 := by kernel_rfl
  i212 := by kernel_rfl
  i232 := by kernel_rfl
  i233 := by kernel_rfl
  m17 := by kernel_rfl
  m18 := by kernel_rfl
  m19 := by kernel_rfl }
theorem laysI : Go.Proofs.Lays.n173 Tryd.prog renI := {
  mixed := by kernel_rfl
  f129 := Tryd.func91.trans (congrArg some (by kernel_rfl))
  f173 := Tryd.func46.trans (congrArg some (by kernel_rfl))
  f246 := Tryd.func66.trans (congrArg some (by kernel_rfl))
  f283 := Tryd.func78.trans (congrArg some (by kernel_rfl))
  f284 := Tryd.func79.trans (congrArg some (by kernel_rfl))
  f285 := Tryd.func80.trans (congrArg some (by kernel_rfl))
  f286 := Tryd.func81.trans (congrArg some (by kernel_rfl))
  f317 := Tryd.func90.trans (congrArg some (by kernel_rfl))
  f318 := Tryd.func92.trans (congrArg some (by kernel_rfl))
  f319 := Tryd.func93.trans (congrArg some (by kernel_rfl))
  f320 := Tryd.func94.trans (congrArg some (by kernel_rfl))
  f337 := Tryd.func97.trans (congrArg some (by kernel_rfl))
  f338 := Tryd.func98.trans (congrArg some (by kernel_rfl))
  t0 := Tryd.underlying0
  a0 := Tryd.isAgg0
  z0 := Tryd.sizeOf0
  v0 := Tryd.zeroValue0
  t2 := Tryd.underlying2
  a2 := Tryd.isAgg2
  z2 := Tryd.sizeOf2
  v2 := Tryd.zeroValue2
  t3 := Tryd.underlying3
  a3 := Tryd.isAgg3
  z3 := Tryd.sizeOf3
  v3 := Tryd.zeroValue3
  t4 := Tryd.underlying4
  a4 := Tryd.isAgg4
  z4 := Tryd.sizeOf4
  v4 := Tryd.zeroValue4
  t5 := Tryd.underlying5
  a5 := Tryd.isAgg5
  z5 := Tryd.sizeOf5
  v5 := Tryd.zeroValue5
  t9 := Tryd.underlying9
  a9 := Tryd.isAgg9
  z9 := Tryd.sizeOf9
  v9 := Tryd.zeroValue9
  t20 := Tryd.underlying20
  a20 := Tryd.isAgg20
  z20 := Tryd.sizeOf20
  v20 := Tryd.zeroValue20
  t37 := Tryd.underlying83
  a37 := Tryd.isAgg83
  z37 := Tryd.sizeOf83
  v37 := Tryd.zeroValue83
  t46 := Tryd.underlying134
  a46 := Tryd.isAgg134
  z46 := Tryd.sizeOf134
  v46 := Tryd.zeroValue134
  t51 := Tryd.underlying101
  a51 := Tryd.isAgg101
  z51 := Tryd.sizeOf101
  v51 := Tryd.zeroValue101
  t53 := Tryd.underlying124
  a53 := Tryd.isAgg124
  z53 := Tryd.sizeOf124
  v53 := Tryd.zeroValue124
  t171 := Tryd.underlying123
  a171 := Tryd.isAgg123
  z171 := Tryd.sizeOf123
  v171 := Tryd.zeroValue123
  t173 := Tryd.underlying127
  a173 := Tryd.isAgg127
  z173 := Tryd.sizeOf127
  v173 := Tryd.zeroValue127
  t212 := Tryd.underlying142
  a212 := Tryd.isAgg142
  z212 := Tryd.sizeOf142
  v212 := Tryd.zeroValue142
  t213 := Tryd.underlying143
  a213 := Tryd.isAgg143
  z213 := Tryd.sizeOf143
  t232 := Tryd.underlying149
  a232 := Tryd.isAgg149
  z232 := Tryd.sizeOf149
  v232 := Tryd.zeroValue149
  t233 := Tryd.underlying150
  a233 := Tryd.isAgg150
  z233 := Tryd.sizeOf150
  v233 := Tryd.zeroValue150
  g17 := by kernel_rfl
  g18 := by kernel_rfl
  g19 := by kernel_rfl }
theorem run_FormatS (i : Nat) (hi : i < 100) (w : World) : Calls Tryd.prog 46 #[.int .i64 i, .int .i64 10] w fun e w' => e = .returned (.string (decT i)) ∧ le w w' :=
  (Any.strconv_FormatInt_10_small laysI i hi w).mono fun e w' ⟨h1, h2⟩ => ⟨h1, h2 ▸ le_refl _⟩
/-- The library's table of powers of ten is where it should be. -/
def Tab10 (w : World) : Prop := Lib.TabIs Tryd.prog w "internal/strconv.uint64pow10" .u64 Lib.pow10Tab
theorem run_Format (n : Nat) (hn : n ≤ 9223372036854775807) (w : World) (htab : Tab10 w) : Calls Tryd.prog 46 #[.int .i64 n, .int .i64 10] w fun e w' => e = .returned (.string (decT n)) ∧ le w w' :=
  (Any.strconv_FormatInt_10 laysMI n (by omega) (by omega) w htab).mono fun e w' ⟨h1, k, os, h2⟩ => ⟨by rw [h1]; unfold decT Lib.itoa; rw [if_neg (by omega)]; simp, h2 ▸ Lib.below_grow _ w (Nat.le_refl _) k os⟩
set_option maxRecDepth 100000 in
theorem i_decimalS (n : Nat) (hn : n < 100) (w : World) : Calls Tryd.prog 23 #[.int .i64 n] w fun e w' => e = .returned (.string (decT n)) ∧ le w w' := by
  have H := hid (run_FormatS n hn)
  go_enter Tryd.func23, Tryd.ntmps23
  go_wp2_with (go_at_call 46; ((with_reducible refine (H.out _).mono ?_); rintro e w1 ⟨rfl, hl1⟩; skip))
  go_ret
  exact ⟨rfl, hl1⟩
set_option maxRecDepth 100000 in
theorem i_decimal (n : Nat) (hn : n ≤ 9223372036854775807) (w : World) (htab : Tab10 w) : Calls Tryd.prog 23 #[.int .i64 n] w fun e w' => e = .returned (.string (decT n)) ∧ le w w' := by
  have H := hid (run_Format n hn w htab)
  go_enter Tryd.func23, Tryd.ntmps23
  go_wp2_with (go_at_call 46; ((with_reducible refine H.out.mono ?_); rintro e w1 ⟨rfl, hl1⟩; skip))
  go_ret
  exact ⟨rfl, hl1⟩
end Go.Proofs.YtogledmlbcmkjaaDoor

/- strings.Join by its contract. -/
namespace Go.Proofs.YtogledmlbcmkjaaDoor
open Go.Shelf Go.RowKit Go.Fk
def renJ : Go.Shelf.Ren := ⟨fun | 156 => 24 | 165 => 47 | 166 => 48 | 169 => 49 | 240 => 67 | 241 => 68 | 276 => 82 | 277 => 83 | n => n, fun | 31 => 52 | 9 => 9 | 3 => 3 | 4 => 4 | 0 => 0 | 20 => 20 | 72 => 88 | 76 => 92 | 70 => 86 | 37 => 83 | 75 => 91 | 127 => 112 | 164 => 129 | 5 => 5 | 80 => 94 | n => n, fun | n => n⟩
theorem laysJ : Go.Proofs.Lays.n156 Tryd.prog renJ := {
  mixed := by kernel_rfl
  f156 := Tryd.func24.trans (congrArg some (by kernel_rfl))
  f165 := Tryd.func47.trans (congrArg some (by kernel_rfl))
  f166 := Tryd.func48.trans (congrArg some (by kernel_rfl))
  f169 := Tryd.func49.trans (congrArg some (by kernel_rfl))
  f240 := Tryd.func67.trans (congrArg some (by kernel_rfl))
  f241 := Tryd.func68.trans (congrArg some (by kernel_rfl))
  f276 := Tryd.func82.trans (congrArg some (by kernel_rfl))
  f277 := Tryd.func83.trans (congrArg some (by kernel_rfl))
  t0 := Tryd.underlying0
  a0 := Tryd.isAgg0
  z0 := Tryd.sizeOf0
  v0 := Tryd.zeroValue0
  t3 := Tryd.underlying3
  a3 := Tryd.isAgg3
  z3 := Tryd.sizeOf3
  v3 := Tryd.zeroValue3
  t4 := Tryd.underlying4
  a4 := Tryd.isAgg4
  z4 := Tryd.sizeOf4
  v4 := Tryd.zeroValue4
  t9 := Tryd.underlying9
  a9 := Tryd.isAgg9
  z9 := Tryd.sizeOf9
  v9 := Tryd.zeroValue9
  t20 := Tryd.underlying20
  a20 := Tryd.isAgg20
  z20 := Tryd.sizeOf20
  v20 := Tryd.zeroValue20
  t31 := Tryd.underlying52
  a31 := Tryd.isAgg52
  z31 := Tryd.sizeOf52
  v31 := Tryd.zeroValue52
  t37 := Tryd.underlying83
  a37 := Tryd.isAgg83
  z37 := Tryd.sizeOf83
  v37 := Tryd.zeroValue83
  t70 := Tryd.underlying86
  a70 := Tryd.isAgg86
  z70 := Tryd.sizeOf86
  v70 := Tryd.zeroValue86
  t72 := Tryd.underlying88
  a72 := Tryd.isAgg88
  z72 := Tryd.sizeOf88
  v72 := Tryd.zeroValue88
  t75 := Tryd.underlying91
  a75 := Tryd.isAgg91
  z75 := Tryd.sizeOf91
  v75 := Tryd.zeroValue91
  t76 := Tryd.underlying92
  a76 := Tryd.isAgg92
  z76 := Tryd.sizeOf92
  v76 := Tryd.zeroValue92
  t127 := Tryd.underlying112
  a127 := Tryd.isAgg112
  z127 := Tryd.sizeOf112
  v127 := Tryd.zeroValue112
  t164 := Tryd.underlying129
  a164 := Tryd.isAgg129
  z164 := Tryd.sizeOf129
  v164 := Tryd.zeroValue129 }
theorem extraJ : Builder.Extra Tryd.prog renJ := {
  sizeBuilder := by kernel_rfl
  liesBuilder := by kernel_rfl
  t5 := Tryd.underlying5
  a5 := Tryd.isAgg5
  z5 := Tryd.sizeOf5
  v5 := Tryd.zeroValue5
  infoByte := by kernel_rfl
  cellsByte := by kernel_rfl
  sizeByte := by kernel_rfl
  neB5 := by decide }
theorem run_Join_nil (a : Option Addr) (c : Nat) (sep : ByteArray) (w : World) :
    Calls Tryd.prog 24 #[.slice a 0 c, .string sep] w fun e w' => e = .returned (.string (jnB sep [])) ∧ le w w' :=
  (Any.strings_Join_none laysJ extraJ a c sep w).mono fun e w' ⟨h1, h2⟩ => ⟨h1, h2 ▸ le_refl _⟩
theorem run_Join (b o c : Nat) (xs : List ByteArray) (sep : ByteArray) (n : Nat) (hn : n = xs.length) (w : World) (hc : ∀ (j : Nat) x, xs[j]? = some x → w.cell? ⟨b, o + j, none⟩ = some (.string x)) (hb : b < w.heap.size) (hN : xs.length ≤ c) (hc2 : c ≤ 140737488355328) (hl : (jnB sep xs).size ≤ 140737488355328) :
    Calls Tryd.prog 24 #[.slice (some ⟨b, o, none⟩) n c, .string sep] w fun e w' => e = .returned (.string (jnB sep xs)) ∧ le w w' := by
  subst hn
  exact (Any.strings_Join laysJ extraJ b o c xs sep w hc hb (by omega) hN (by rw [← jnB_data, ← ba_size]; exact hl)).mono fun e w' ⟨h1, h2⟩ => ⟨h1, h2⟩
end Go.Proofs.YtogledmlbcmkjaaDoor

/- The text of a sample, and of samples. -/
namespace Go.Proofs.YtogledmlbcmkjaaDoor
open Go.RowKit Go.Fk
theorem can_lt {x : Nat} (h : fits .f32 x) : can .f32 x < 4294967296 := by
  have h1 : x < 4294967296 := by simpa [fits, Lit.wf] using h
  unfold can
  split
  · decide
  · exact h1
theorem infoU8 : (Tryd.prog.info? 5).map (·.size) = some 1 := by kernel_rfl
set_option maxRecDepth 100000 in
set_option maxHeartbeats 4000000 in
theorem i_sampleText (x : Nat) (hf : fits .f32 x) (w : World) : Calls Tryd.prog 38 #[.float .f32 x] w fun e w' => e = .returned (.string (hexT (can .f32 x))) ∧ le w w' := by
  have HB := hid (i_bitsOf x)
  obtain ⟨b, hb⟩ : ∃ b, b = can .f32 x := ⟨_, rfl⟩
  have h32 : b < 4294967296 := hb ▸ can_lt hf
  rw [← hb] at HB ⊢
  have HZ := hid (Row.new w 108 (hexV b 0).toArray)
  clear hb
  go_enter Tryd.func38, Tryd.ntmps38
  go_wp2_with (go_at_call 62; refine (HB.out _).mono ?_; rintro e w1 ⟨rfl, rfl⟩; skip)
  go_loopw [4, 5] (fun q i wr => ∃ j : Nat, j ≤ 8 ∧ i = .int .i64 (7 - (j : Int)) ∧ q = .int .u32 ((b / 16 ^ j : Nat) : Int) ∧ Hid (Row wr w.heap.size 108 (hexV b j).toArray) ∧ Hid (le w wr)) (fun _ i _ => (intOf i + 1).toNat)
  case atStart => exact ⟨0, by omega, by simp, by simp, HZ.out, le_alloc _ _⟩
  case round =>
    obtain ⟨j, hj, rfl, rfl, HR, HL⟩ := hrel
    rename_i wr _
    clear HZ
    by_cases hlt : j < 8
    · have h0 : ¬ (7 - (j : Int)) < 0 := by omega
      obtain ⟨d, hd⟩ : ∃ d, d = b / 16 ^ j := ⟨_, rfl⟩
      rw [← hd]
      have HP := hid (fun h => hexV_put (h := h) hlt hd)
      have HN := hid (hex_next hd)
      have hd32 : d < 4294967296 := by rw [hd]; exact Nat.lt_of_le_of_lt (Nat.div_le_self _ _) h32
      clear hd
      have hr : ((d : Int) % 16) < 16 := by omega
      have hr0 : 0 ≤ ((d : Int) % 16) := by omega
      go_wp2_with (with_reducible refine stop_store rfl ?_)
      show wpList _ _ _ _ _ _
      refine wpList_store1 rfl rfl (f := 7 - j) rfl rfl HR.out infoU8 (by simp [hexV_len b j hj]; omega) rfl (hexV b (j + 1)).toArray (HP.out _) (fun w2 K => ?_)
      have HR2 := hid K.row
      have HL2 := hid (K.below _ _ HL.out (Nat.le_refl _))
      clear K HR HL HP
      go_wp2
      go_roundw
      case rel => exact ⟨j + 1, by omega, by go_num, by rw [← HN.out]; go_num, HR2.out, HL2.out⟩
      case measure => simp [intOf]; omega
    · obtain rfl : j = 8 := by omega
      have hcv := Lib.run_convert_whole (P := Tryd.prog) wr 83 5 9 Tryd.underlying83 Tryd.underlying5 Tryd.underlying9 w.heap.size 0 (hexT b) (fun i hi => by rw [Nat.zero_add, HR.out.cell?]; exact hexT_at b i hi) 8
      rw [hexT_size] at hcv
      go_wp2
      go_ret
      exact ⟨rfl, HL.out⟩
theorem mk8 (b : Nat) (w : World) : (Instr.makeSlice 83 (.int .i64 8) (.int .i64 8)).run Tryd.prog w = .ok (.slice (some ⟨w.heap.size, 0, none⟩) 8 8) (w.alloc (.cells (hexV b 0).toArray 5)) := by kernel_rfl
set_option maxRecDepth 100000 in
set_option maxHeartbeats 4000000 in
theorem s_l01Hex (x : Nat) (hf : fits .f32 x) (w : World) : Calls Tryd.prog 33 #[.float .f32 x] w fun e w' => e = .returned (.string (hexT (can .f32 x))) ∧ le w w' := by
  have HB := hid (s_l01Bits x)
  obtain ⟨b, hb⟩ : ∃ b, b = can .f32 x := ⟨_, rfl⟩
  have h32 : b < 4294967296 := hb ▸ can_lt hf
  rw [← hb] at HB ⊢
  have HZ := hid (Row.new w 5 (hexV b 0).toArray)
  clear hb
  have hmk := mk8 b w
  go_enter Tryd.func33, Tryd.ntmps33
  go_wp2_with (go_at_call 55; refine (HB.out _).mono ?_; rintro e w1 ⟨rfl, rfl⟩; skip)
  go_loopw [3, 5] (fun q i wr => ∃ j : Nat, j ≤ 8 ∧ i = .int .i64 (7 - (j : Int)) ∧ q = .int .u32 ((b / 16 ^ j : Nat) : Int) ∧ Hid (Row wr w.heap.size 5 (hexV b j).toArray) ∧ Hid (le w wr)) (fun _ i _ => (intOf i + 1).toNat)
  case atStart => exact ⟨0, by omega, by simp, by simp, HZ.out, le_alloc _ _⟩
  case round =>
    obtain ⟨j, hj, rfl, rfl, HR, HL⟩ := hrel
    rename_i wr _
    clear HZ
    by_cases hlt : j < 8
    · have h0 : ¬ (7 - (j : Int)) < 0 := by omega
      obtain ⟨d, hd⟩ : ∃ d, d = b / 16 ^ j := ⟨_, rfl⟩
      rw [← hd]
      have HP := hid (fun h => hexV_put (h := h) hlt hd)
      have HN := hid (hex_next hd)
      have hd32 : d < 4294967296 := by rw [hd]; exact Nat.lt_of_le_of_lt (Nat.div_le_self _ _) h32
      clear hd
      have hr : ((d : Int) % 16) < 16 := by omega
      have hr0 : 0 ≤ ((d : Int) % 16) := by omega
      go_wp2_with (with_reducible refine stop_store rfl ?_)
      show wpList _ _ _ _ _ _
      refine wpList_store1 rfl rfl (f := 7 - j) rfl rfl HR.out infoU8 (by simp [hexV_len b j hj]; omega) rfl (hexV b (j + 1)).toArray (HP.out _) (fun w2 K => ?_)
      have HR2 := hid K.row
      have HL2 := hid (K.below _ _ HL.out (Nat.le_refl _))
      clear K HR HL HP
      go_wp2
      go_roundw
      case rel => exact ⟨j + 1, by omega, by go_num, by rw [← HN.out]; go_num, HR2.out, HL2.out⟩
      case measure => simp [intOf]; omega
    · obtain rfl : j = 8 := by omega
      have hcv := Lib.run_convert_whole (P := Tryd.prog) wr 83 5 9 Tryd.underlying83 Tryd.underlying5 Tryd.underlying9 w.heap.size 0 (hexT b) (fun i hi => by rw [Nat.zero_add, HR.out.cell?]; exact hexT_at b i hi) 8
      rw [hexT_size] at hcv
      go_wp2
      go_ret
      exact ⟨rfl, HL.out⟩
end Go.Proofs.YtogledmlbcmkjaaDoor

/- The text of samples. -/
namespace Go.Proofs.YtogledmlbcmkjaaDoor
open Go.RowKit Go.Fk
theorem infoStrO : (Tryd.prog.info? 9).map (·.size) = some 1 := by kernel_rfl
theorem makeStr (n : Nat) (hn : n ≤ 1048576) : ∃ cs : Array Value, cs.size = n ∧ ∀ w, (Instr.makeSlice 52 (.int .i64 (n : Int)) (.int .i64 (n : Int))).run Tryd.prog w = .ok (.slice (some ⟨w.heap.size, 0, none⟩) n n) (w.alloc (.cells cs 9)) := by
  obtain ⟨cs, h1, h2⟩ := run_make_wide (P := Tryd.prog) 52 9 1 Tryd.underlying52 (by kernel_rfl) n hn
  exact ⟨cs, by omega, h2⟩
set_option maxRecDepth 100000 in
set_option maxHeartbeats 4000000 in
theorem i_samplesText (f : Nat → Nat) (a : Addr) (u cap : Nat) (w : World) (hu : u ≤ 1048576) (hf : ∀ i, i < u → fits .f32 (f i)) (hc : ∀ i, i < u → w.cell? (a.add i) = some (.float .f32 (f i))) :
    Calls Tryd.prog 40 #[.slice (some a) u cap] w fun e w' => e = .returned (.string (txtS f u)) ∧ le w w' := by
  obtain ⟨cs0, hcs, HM⟩ := makeStr u hu
  have HZ := hid (Row.new w 9 cs0)
  have hz : cs0.size = u := hcs
  have HCS := hid hz
  have Hf := hid hf; have Hc := hid hc; clear hf hc hcs hz
  have hl := hid (le_alloc w (.cells cs0 9))
  go_enter Tryd.func40, Tryd.ntmps40
  go_wp2
  go_loopw [11] (fun i wr => ∃ j : Nat, j ≤ u ∧ i = .int .i64 j ∧ ∃ cs : Array Value, Hid (cs.size = u) ∧ Hid (∀ i, i < j → cs[i]? = some (.string (hexT (can .f32 (f i))))) ∧ Hid (Row wr w.heap.size 9 cs) ∧ Hid (le w wr)) (fun i _ => u - (intOf i).toNat)
  case atStart => exact ⟨0, by omega, rfl, cs0, HCS.out, fun i hi => absurd hi (by omega), HZ.out, hl.out⟩
  case round =>
    obtain ⟨j, hj, rfl, cs, HS, HJ, HR, HL⟩ := hrel
    rename_i wr _
    clear HZ HCS hl
    by_cases hlt : j < u
    · have cj := hid ((Below.cell HL.out (cell_lt' (Hc.out j hlt))).trans (Hc.out j hlt))
      have cj' := cj.out
      have HT := hid (i_sampleText (f j) (Hf.out j hlt))
      go_wp2_with (first | (go_at_call 38; ((with_reducible refine (HT.out _).mono ?_); rintro e w1 ⟨rfl, hl1⟩; have HL1 := hid hl1; clear hl1)) | (with_reducible refine stop_store rfl ?_))
      show wpList _ _ _ _ _ _
      refine wpList_store1 rfl rfl (f := j) rfl rfl (HR.out.le HL1.out) infoStrO (by rw [HS.out]; exact hlt) rfl (cs.setIfInBounds j (.string (hexT (can .f32 (f j))))) rfl (fun w2 K => ?_)
      have HR2 := hid K.row
      have HL2 := hid (K.below _ _ (le_trans HL.out HL1.out) (Nat.le_refl _))
      clear K HR HL HL1 cj cj'
      go_wp2
      go_roundw
      case rel =>
        refine ⟨j + 1, by omega, by go_num, _, by rw [Array.size_setIfInBounds]; exact HS.out, fun i hi => ?_, HR2.out, HL2.out⟩
        rw [Array.getElem?_setIfInBounds]
        by_cases e : j = i
        · subst e; simp [HS.out, hlt]
        · rw [if_neg e]; exact HJ.out i (by omega)
      case measure => simp [intOf]; omega
    · obtain rfl : j = u := by omega
      have HJN := hid (run_Join w.heap.size 0 j (hexs f j) spB j (hexs_len f j).symm wr (fun q x hq => by
        have hq' : q < j := by have := (List.getElem?_eq_some_iff.1 hq).1; rwa [hexs_len] at this
        rw [Nat.zero_add, HR.out.cell?, HJ.out q hq']
        rw [hexs_at f hq'] at hq
        simp at hq
        rw [hq]) HR.out.lt (by rw [hexs_len]; exact Nat.le_refl _) (by omega) (by have := txtS_size f j; unfold txtS at this; omega))
      go_wp2_with (go_at_call 24; (refine HJN.out.mono ?_; rintro e w1 ⟨rfl, hl1⟩; skip))
      go_ret
      exact ⟨rfl, le_trans HL.out hl1⟩
end Go.Proofs.YtogledmlbcmkjaaDoor

/- Drawn regions in which a block is made with what it holds, and in which texts are put together. -/
namespace Go.Fk
open Go Go.RowKit
section
variable {P : Program} {ops : Array Oper} {W : World} {K : FuncId → Array Value → World → Value → Prop} {Q : Act → World → Prop} {F : Facts} {k : Nat} {o : Oper} {rest : List Oper} {a : Act}
/-- A block is made, and filled. -/
theorem wpFreeD_newN (hg : o.guard = none) (f : Nat → Value) (hi : ∀ b b', f b = f b' → b = b') (t : TypeId) (cs : Array Value) (hr : ∀ w, (execOp a.eval o).run P w = .ok (.value (f w.heap.size)) (w.alloc (.cells cs t)))
    (h : ∀ b, wpFreeD leX P ops .any W K Q rest (k + 1) (a.put o.dst (f b)) (F.with k (fun w => W.heap.size ≤ b ∧ Row w b t cs))) : wpFreeD leX P ops .any W K Q (o :: rest) k a F := by
  refine ⟨fun w v => ∃ b, v = f b ∧ W.heap.size ≤ b ∧ Row w b t cs, ⟨fun v w w' hw hv => ?_, .inl ⟨by simp [Region.wanted, hg], fun w hw _ => ?_⟩⟩, fun v hv => ?_⟩
  · obtain ⟨b, h1, h2, h3⟩ := hv
    exact ⟨b, h1, h2, h3.le hw⟩
  · rw [hr w]
    exact ⟨le_alloc w _, _, rfl, hw.size, Row.new w t cs⟩
  · obtain ⟨_, _, _, b, rfl, _, _⟩ := hv
    exact wpFreeD_weaken _ _ _ _ _ (fun e w h => ⟨h.1, fun he => by obtain ⟨b', h1, h2, h3⟩ := h.2 he; have e := hi _ _ h1; subst e; exact ⟨h2, h3⟩⟩) (h b)
/-- Two texts, one behind the other. -/
theorem wpFreeD_cat (hg : o.guard = none) {t t' : TypeId} {x y : Operand} (hop : o.op = .binOp .add t x y t') {s r : ByteArray} (hx : a.eval x = .string s) (hy : a.eval y = .string r) (hz : s.size + r.size ≤ 9223372036854775807) {q : ByteArray} (hq : s ++ r = q)
    (h : wpFreeD leX P ops .any W K Q rest (k + 1) (a.put o.dst (.string q)) (F.with k (fun _ => True))) : wpFreeD leX P ops .any W K Q (o :: rest) k a F := by
  subst hq
  refine wpFreeD_one hg (.string (s ++ r)) (fun w1 _ => ?_) ?_
  · simp [execOp, hop, hx, hy, eqGuard, Sem.run_pure, binOp_string_add, run_string_add_sum _ s r hz, Result.andThen]
  · exact h
theorem wpList_cat (hg : o.guard = none) {Q : Exit → Act → World → Prop} {w : World} {t t' : TypeId} {x y : Operand} (hop : o.op = .binOp .add t x y t') {s r : ByteArray} (hx : a.eval x = .string s) (hy : a.eval y = .string r) (hz : s.size + r.size ≤ 9223372036854775807) {q : ByteArray} (hq : s ++ r = q)
    (h : wpList P ops Q rest (a.put o.dst (.string q)) w) : wpList P ops Q (o :: rest) a w := by
  subst hq
  refine wpList_plain hg fun K hK' => ?_
  unfold Oper.wp
  simp [execOp, hop, hx, hy, eqGuard, Sem.run_pure, binOp_string_add, run_string_add_sum _ s r hz, Result.andThen]
  exact hK' _ _ h
end
end Go.Fk

/- As FreeD, where one operation (with the index c) may write what all others leave as it is: it comes up but once. Nothing here names a program. -/
namespace Go.Fk
open Go Go.RowKit
section
variable (E0 E1 : Ext) (c : Nat) (Vc : World → Value → Prop) (P : Program) (ops : Array Oper) (md : Region.Mode) (W : World) (K : FuncId → Array Value → World → Value → Prop)
def preE (i : Nat) : Ext := if i = c then E0 else E1
def stepE (i : Nat) : Ext := if i = c then E1 else E0
def YieldsP (i : Nat) (o : Oper) (a : Act) (F : Facts) (V : World → Value → Prop) : Prop :=
  MonoT E1 V ∧ (i = c → V = Vc) ∧ ((Region.wanted o (yielded ops a.tmps) = true ∧ ∀ w, (preE E0 E1 c i).R W w → behind md o F w → insideT (stepE E0 E1 c i) P K w V ((execOp a.eval o).run P w)) ∨ (i ≠ c ∧ Region.wanted o (yielded ops a.tmps) = false ∧ ∀ w, E1.R W w → behind md o F w → V w undef))
def wpFreeP (Q : Act → World → Prop) : List Oper → Nat → Act → Facts → Prop
  | [], _, a, F => ∀ w, E1.R W w → (∀ e, F e w) → Q a w
  | o :: rest, k, a, F => ∃ V, YieldsP E0 E1 c Vc P ops md W K k o a F V ∧ ∀ v, met E1 W F (fun w => V w v) → wpFreeP Q rest (k + 1) (a.put o.dst v) (F.with k (fun w => V w v))
def anyFreeP (n : Nat) (L : Array Bool → Act → Facts → Prop) : Nat → Array Bool → Act → Facts → Prop
  | 0, listed, a, F => L listed a F
  | f + 1, listed, a, F => Region.ready md ops listed ≠ [] ∧
      ∀ i ∈ Region.ready md ops listed, i < n ∧ ∀ o, ops[i]? = some o → ∃ V, YieldsP E0 E1 c Vc P ops md W K i o a F V ∧ ∀ v, met E1 W F (fun w => V w v) → anyFreeP n L f (listed.setIfInBounds i true) (a.put o.dst v) (F.with i (fun w => V w v))
end
section
variable {E0 E1 : Ext} {c : Nat} {Vc : World → Value → Prop} {P : Program} {ops : Array Oper} {md : Region.Mode} {W : World} {K : FuncId → Array Value → World → Value → Prop}
theorem stepE_sub (hs : ∀ w w', E0.R w w' → E1.R w w') {i : Nat} {w w' : World} (h : (stepE E0 E1 c i).R w w') : E1.R w w' := by
  unfold stepE at h
  split at h
  · exact h
  · exact hs _ _ h
theorem YieldsP.some (hs : ∀ w w', E0.R w w' → E1.R w w') (hVc : ∀ w, E1.R W w → ∃ v w', E1.R w w' ∧ Vc w' v) {i : Nat} {o : Oper} {a : Act} {F : Facts} {V : World → Value → Prop} (hm : FMono E1 F) (hx : met E1 W F (fun _ => True)) (h : YieldsP E0 E1 c Vc P ops md W K i o a F V) : ∃ v, met E1 W F (fun w => V w v) := by
  obtain ⟨w, hw, hF, _⟩ := hx
  by_cases e : i = c
  · obtain ⟨v, w', hl, hv⟩ := hVc w hw
    exact ⟨v, w', E1.trans hw hl, hm w w' hl hF, by rw [h.2.1 e]; exact hv⟩
  · rcases h.2.2 with ⟨_, h⟩ | ⟨_, _, h⟩
    · obtain ⟨v, w', hl, hv⟩ := insideT_some (h w (by unfold preE; rw [if_neg e]; exact hw) (fun e _ _ => hF e.on))
      have hl' := stepE_sub hs hl
      exact ⟨v, w', E1.trans hw hl', hm w w' hl' hF, hv⟩
    · exact ⟨undef, w, hw, hF, h w hw (fun e _ _ => hF e.on)⟩
theorem YieldsP.same {i : Nat} {o : Oper} {a a' : Act} {F : Facts} {V : World → Value → Prop} (he : execOp a'.eval o = execOp a.eval o) (hw : Region.wanted o (yielded ops a'.tmps) = Region.wanted o (yielded ops a.tmps))
    (h : YieldsP E0 E1 c Vc P ops md W K i o a F V) : YieldsP E0 E1 c Vc P ops md W K i o a' F V := by
  unfold YieldsP at *; rw [he, hw]; exact h
theorem YieldsP.less {j : Nat} {o : Oper} {a : Act} {F : Facts} {i : Nat} {X : World → Prop} {V : World → Value → Prop} (hn : ∀ e ∈ o.after, Region.binds md e = true → e.on ≠ i) (h : YieldsP E0 E1 c Vc P ops md W K j o a (F.with i X) V) : YieldsP E0 E1 c Vc P ops md W K j o a F V := by
  have key : ∀ w, behind md o F w → behind md o (F.with i X) w := fun w hw e he hb => ⟨hw e he hb, fun h => absurd h (hn e he hb)⟩
  refine ⟨h.1, h.2.1, ?_⟩
  rcases h.2.2 with ⟨h1, h2⟩ | ⟨h0, h1, h2⟩
  · exact .inl ⟨h1, fun w hw hb => h2 w hw (key w hb)⟩
  · exact .inr ⟨h0, h1, fun w hw hb => h2 w hw (key w hb)⟩
theorem YieldsP.stronger {j : Nat} {o : Oper} {a : Act} {F F' : Facts} {V : World → Value → Prop} (hF : ∀ e w, F' e w → F e w) (h : YieldsP E0 E1 c Vc P ops md W K j o a F V) : YieldsP E0 E1 c Vc P ops md W K j o a F' V := by
  have key : ∀ w, behind md o F' w → behind md o F w := fun w hw e he hb => hF _ _ (hw e he hb)
  refine ⟨h.1, h.2.1, ?_⟩
  rcases h.2.2 with ⟨h1, h2⟩ | ⟨h0, h1, h2⟩
  · exact .inl ⟨h1, fun w hw hb => h2 w hw (key w hb)⟩
  · exact .inr ⟨h0, h1, fun w hw hb => h2 w hw (key w hb)⟩
theorem YieldsP.more {j : Nat} {o : Oper} {a : Act} {F : Facts} {i : Nat} {X : World → Prop} {V : World → Value → Prop} (h : YieldsP E0 E1 c Vc P ops md W K j o a F V) : YieldsP E0 E1 c Vc P ops md W K j o a (F.with i X) V := h.stronger (fun _ _ h => h.1)
theorem insideT_mono {E E' : Ext} (hE : ∀ w w', E.R w w' → E'.R w w') {V : World → Value → Prop} {w : World} {r : Result Next} (h : insideT E P K w V r) : insideT E' P K w V r := by
  cases r with
  | ok n w' =>
    cases n <;> simp only [insideT] at h ⊢
    case value u => exact ⟨hE _ _ h.1, h.2⟩
    case skip => exact ⟨hE _ _ h.1, h.2⟩
    case enter f args => exact ⟨hE _ _ h.1, h.2.1.mono (fun e w'' ⟨v, e1, e2, e3⟩ => ⟨v, e1, hE _ _ e2, e3⟩), h.2.2⟩
  | halt x w' => simp only [insideT] at h
theorem wpOp_yieldsP {i : Nat} {o : Oper} {a : Act} {w : World} {F : Facts} {V : World → Value → Prop} {next : Act → World → Prop} {Q' : Exit → Act → World → Prop} (ho : ops[i]? = some o) (hw1 : E1.R W w) (hw : (preE E0 E1 c i).R W w) (hF : ∀ e, F e w) (hg : YieldsP E0 E1 c Vc P ops md W K i o a F V)
    (hn : ∀ v w', (stepE E0 E1 c i).R w w' → V w' v → next (a.put o.dst v) w') : wpOp P ops Q' i next a w := by
  unfold wpOp
  simp only [ho]
  rcases hg.2.2 with ⟨hwant, hv⟩ | ⟨_, hwant, hv⟩
  · rw [if_pos hwant]
    left
    have h3 := hv w hw (fun e _ _ => hF e.on)
    unfold Oper.wp
    generalize (execOp a.eval o).run P w = r at h3
    cases r with
    | ok x w' =>
      cases x <;> simp only [insideT] at h3 <;> simp only [Oper.upon]
      case value u => exact hn u _ h3.1 h3.2
      case skip => exact hn undef _ h3.1 h3.2
      case enter f args =>
        refine h3.2.1.mono fun e w'' he => ?_
        obtain ⟨v, rfl, hl, hk⟩ := he
        exact hn v _ ((stepE E0 E1 c i).trans h3.1 hl) (h3.2.2 w'' v hk)
    | halt x w' => simp only [insideT] at h3
  · rw [if_neg (by simp [hwant])]
    exact hn undef _ ((stepE E0 E1 c i).refl w) (hv w hw1 (fun e _ _ => hF e.on))
theorem anyFreeP_sound (hs : ∀ w w', E0.R w w' → E1.R w w') {n g : Nat} {L : Array Bool → Act → Facts → Prop} {Q' : Exit → Act → World → Prop} (hL : ∀ listed a F w, E1.R W w → (∀ e, F e w) → L listed a F → wpAny P md ops Q' g listed a w) :
    ∀ (f : Nat) (listed : Array Bool) (a : Act) (F : Facts) (w : World), FMono E1 F → E1.R W w → (listed.getD c true = false → E0.R W w) → (∀ e, F e w) → anyFreeP E0 E1 c Vc P ops md W K n L f listed a F → wpAny P md ops Q' (f + g) listed a w := by
  intro f
  induction f with
  | zero => intro listed a F w _ hw _ hF h; rw [Nat.zero_add]; exact hL _ _ _ _ hw hF h
  | succ f ih =>
    intro listed a F w hm hw hph hF h
    rw [show f + 1 + g = (f + g) + 1 by omega]
    refine ⟨fun h0 => absurd h0 h.1, fun i hi => ?_⟩
    obtain ⟨hun, o, ho, _⟩ := mem_ready.1 hi
    obtain ⟨V, hg, hn⟩ := (h.2 i hi).2 o ho
    have hpre : (preE E0 E1 c i).R W w := by
      unfold preE
      split
      · next e => subst e; exact hph hun
      · exact hw
    refine wpOp_yieldsP ho hw hpre hF hg (fun v w' hl hv => ih _ _ _ _ (hm.with hg.1 i v) (E1.trans hw (stepE_sub hs hl)) (fun hc => ?_) (Facts.with_mk (hm w w' (stepE_sub hs hl) hF) hv) (hn v ⟨w', E1.trans hw (stepE_sub hs hl), hm w w' (stepE_sub hs hl) hF, hv⟩))
    by_cases e : i = c
    · subst e
      have hlt : i < listed.size := by
        apply Nat.lt_of_not_le
        intro hle
        simp [Array.getD, Nat.not_lt.2 hle] at hun
      simp [Array.getD, hlt] at hc
    · rw [getD_set_ne true e] at hc
      unfold stepE at hl
      rw [if_neg e] at hl
      exact E0.trans (hph hc) hl
theorem anyFreeP_weaken {n : Nat} {L : Array Bool → Act → Facts → Prop} (hLm : ∀ listed a F F', (∀ e w, F' e w → F e w) → L listed a F → L listed a F') :
    ∀ (f : Nat) (listed : Array Bool) (a : Act) (F F' : Facts), (∀ e w, F' e w → F e w) → anyFreeP E0 E1 c Vc P ops md W K n L f listed a F → anyFreeP E0 E1 c Vc P ops md W K n L f listed a F' := by
  intro f
  induction f with
  | zero => intro listed a F F' h hh; exact hLm _ _ _ _ h hh
  | succ f ih =>
    intro listed a F F' h hh
    refine ⟨hh.1, fun i hi => ⟨(hh.2 i hi).1, fun o ho => ?_⟩⟩
    obtain ⟨V, hg, hn⟩ := (hh.2 i hi).2 o ho
    exact ⟨V, hg.stronger h, fun v hv => ih _ _ _ _ (fun e w hw => ⟨h e w hw.1, hw.2⟩) (hn v (hv.weaken (fun w hw e => h e w (hw e))))⟩
theorem anyFreeP_first (hs : ∀ w w', E0.R w w' → E1.R w w') (hVc : ∀ w, E1.R W w → ∃ v w', E1.R w w' ∧ Vc w' v) {n i : Nat} {oi : Oper} {V : World → Value → Prop} {L : Array Bool → Act → Facts → Prop} (hi : ops[i]? = some oi) (hsel : ∀ (j : Nat) (o : Oper) cs b, ops[j]? = some o → o.op ≠ .select cs b)
    (hbound : ∀ listed i, HeadInv md ops n listed → i < n → listed.getD i true = false → ∀ j ∈ Region.ready md ops listed, j < n) (hin : i < n)
    (hdone : ∀ listed a F, L listed a F → ∀ j ∈ Region.ready md ops listed, n ≤ j) (hLm : ∀ listed a F F', (∀ e w, F' e w → F e w) → L listed a F → L listed a F') :
    ∀ (f : Nat) (listed : Array Bool) (a : Act) (F : Facts), HeadInv md ops n listed →
      (∀ j oj, ops[j]? = some oj → j ≠ i → listed.getD j true = false → (∀ e ∈ oj.after, Region.binds md e = true → e.on ≠ i) → oi.apart ops oj = true) →
      i ∈ Region.ready md ops listed → FMono E1 F → met E1 W F (fun _ => True) → YieldsP E0 E1 c Vc P ops md W K i oi a F V →
      (∀ v, met E1 W F (fun w => V w v) → anyFreeP E0 E1 c Vc P ops md W K n L f (listed.setIfInBounds i true) (a.put oi.dst v) (F.with i (fun w => V w v))) → anyFreeP E0 E1 c Vc P ops md W K n L (f + 1) listed a F := by
  intro f
  induction f with
  | zero =>
    intro listed a F inv _ hr hm hx hg H
    have hun := (mem_ready.1 hr).1
    refine ⟨fun h => (by rw [h] at hr; cases hr), fun j hj => ?_⟩
    have hjn := hbound listed i inv hin hun j hj
    refine ⟨hjn, fun o ho => ?_⟩
    by_cases hji : j = i
    · subst hji
      rw [hi] at ho; cases ho
      exact ⟨V, hg, H⟩
    · obtain ⟨v, hv⟩ := hg.some hs hVc hm hx
      have := hdone _ _ _ (H v hv) j (ready_mono hj hji)
      omega
  | succ f ih =>
    intro listed a F inv hfree hr hm hx hg H
    have hun := (mem_ready.1 hr).1
    refine ⟨fun h => (by rw [h] at hr; cases hr), fun j hj => ?_⟩
    have hjn := hbound listed i inv hin hun j hj
    refine ⟨hjn, fun o ho => ?_⟩
    by_cases hji : j = i
    · subst hji
      rw [hi] at ho; cases ho
      exact ⟨V, hg, H⟩
    · obtain ⟨hjun, oj, hoj, hall⟩ := mem_ready.1 hj
      rw [ho] at hoj; cases hoj
      have hnot : ∀ e ∈ o.after, Region.binds md e = true → e.on ≠ i := fun e he hb heq => by
        have h1 := hall e he hb
        rw [heq, getD_both hun] at h1
        cases h1
      have hap := hfree j o ho hji hjun hnot
      obtain ⟨a1, a2, a3⟩ := Oper.apart_spec hap
      have hsi := fun cs b => hsel i oi cs b hi
      have hsj := fun cs b => hsel j o cs b ho
      have hU : ∀ v : {v // met E1 W F (fun w => V w v)}, ∃ U, YieldsP E0 E1 c Vc P ops md W K j o (a.put oi.dst v.1) (F.with i (fun w => V w v.1)) U ∧ ∀ u, met E1 W (F.with i (fun w => V w v.1)) (fun w => U w u) →
          anyFreeP E0 E1 c Vc P ops md W K n L f ((listed.setIfInBounds i true).setIfInBounds j true) ((a.put oi.dst v.1).put o.dst u) ((F.with i (fun w => V w v.1)).with j (fun w => U w u)) :=
        fun v => ((H v.1 v.2).2 j (ready_mono hj hji)).2 o ho
      obtain ⟨U, hU⟩ := Classical.skolem.1 hU
      obtain ⟨v0, hv0⟩ := hg.some hs hVc hm hx
      have hone : ∀ v, YieldsP E0 E1 c Vc P ops md W K j o a F (U v) := fun v => ((hU v).1.same (execOp_put o hsj a oi.dst v.1 a1).symm (wanted_put o a oi.dst v.1 a1).symm).less hnot
      have hgood : YieldsP E0 E1 c Vc P ops md W K j o a F (fun w u => ∀ v, U v w u) := by
        refine ⟨fun u w w' hl h v => (hone v).1 u w w' hl (h v), fun e => ?_, ?_⟩
        · funext w u
          exact propext ⟨fun h => by have := h ⟨v0, hv0⟩; rw [(hone ⟨v0, hv0⟩).2.1 e] at this; exact this, fun h v => by rw [(hone v).2.1 e]; exact h⟩
        by_cases hw : Region.wanted o (yielded ops a.tmps) = true
        · refine .inl ⟨hw, fun w hw' hb => inside_allT ⟨⟨v0, hv0⟩, trivial⟩ (fun v => ?_)⟩
          rcases (hone v).2.2 with ⟨_, h3⟩ | ⟨_, h3, _⟩
          · exact h3 w hw' hb
          · rw [hw] at h3; cases h3
        · have hne : j ≠ c := by
            rcases (hone ⟨v0, hv0⟩).2.2 with ⟨h3, _⟩ | ⟨h3, _, _⟩
            · exact absurd h3 hw
            · exact h3
          refine .inr ⟨hne, by simpa using hw, fun w hw' hb v => ?_⟩
          rcases (hone v).2.2 with ⟨h3, _⟩ | ⟨_, _, h3⟩
          · exact absurd h3 hw
          · exact h3 w hw' hb
      refine ⟨_, hgood, ?_⟩
      intro u hu
      have hfree' : ∀ k ok, ops[k]? = some ok → k ≠ i → (listed.setIfInBounds j true).getD k true = false →
          (∀ e ∈ ok.after, Region.binds md e = true → e.on ≠ i) → oi.apart ops ok = true := fun k ok hk hki hun hno => by
        refine hfree k ok hk hki ?_ hno
        by_cases hjk : j = k
        · subst hjk; exact hjun
        · rw [getD_set_ne true hjk] at hun; exact hun
      have hx' : met E1 W (F.with j (fun w => ∀ v, U v w u)) (fun _ => True) := by
        obtain ⟨w, hw, hF, hv⟩ := hu
        exact ⟨w, hw, Facts.with_mk hF hv, trivial⟩
      refine ih (listed.setIfInBounds j true) (a.put o.dst u) (F.with j (fun w => ∀ v, U v w u)) (inv.set hj hjn) hfree' (ready_mono hr (Ne.symm hji)) (hm.with hgood.1 j u) hx' ((hg.same (execOp_put oi hsi a o.dst u a3) (wanted_put oi a o.dst u a3)).more) (fun v hv => ?_)
      rw [Array.setIfInBounds_comm _ _ hji, ← Act.put_comm a v u a2]
      obtain ⟨w, hw, hF, hVv⟩ := hv
      have hF' := Facts.with_of hF
      have mv : met E1 W F (fun w => V w v) := ⟨w, hw, hF'.1, hVv⟩
      exact anyFreeP_weaken hLm _ _ _ _ _ (fun e w' h' => ⟨⟨h'.1.1, h'.2⟩, fun he => h'.1.2 he ⟨v, mv⟩⟩) ((hU ⟨v, mv⟩).2 u ⟨w, hw, Facts.with_mk hF'.1 hVv, hF'.2 ⟨v, mv⟩⟩)

theorem anyFreeP_lex (hs : ∀ w w', E0.R w w' → E1.R w w') (hVc : ∀ w, E1.R W w → ∃ v w', E1.R w w' ∧ Vc w' v) {n g : Nat} {R : Act → World → Prop} (hsel : Region.noSelect ops = true)
    (hbound : ∀ listed i, HeadInv md ops n listed → i < n → listed.getD i true = false → ∀ j ∈ Region.ready md ops listed, j < n) :
    ∀ (l : List Oper) (k : Nat) (listed : Array Bool) (a : Act) (F : Facts), (∀ j, j < l.length → l[j]? = ops[k + j]?) → k + l.length = n → HeadInv md ops n listed →
    Region.lexHead md ops g l.length k listed = true → FMono E1 F → met E1 W F (fun _ => True) → wpFreeP E0 E1 c Vc P ops md W K R l k a F →
    anyFreeP E0 E1 c Vc P ops md W K n (fun listed' a' F' => Region.seqB md ops g n listed' = true ∧ ∀ w, E1.R W w → (∀ e, F' e w) → R a' w) l.length listed a F := by
  intro l
  induction l with
  | nil =>
    intro k listed a F _ hk _ hB _ _ h
    have : k = n := by simpa using hk
    subst this
    exact ⟨by simpa [Region.lexHead] using hB, h⟩
  | cons o l ih =>
    intro k listed a F hl hk inv hB hm hx h
    have h0 : ops[k]? = some o := by simpa using (hl 0 (by simp)).symm
    simp only [List.length_cons, Region.lexHead, Bool.and_eq_true] at hB
    obtain ⟨⟨hr, hf⟩, hB'⟩ := hB
    have hkn : k < n := by simp only [List.length_cons] at hk; omega
    have hr' : k ∈ Region.ready md ops listed := by simpa using hr
    obtain ⟨V, hg, hnext⟩ := h
    exact anyFreeP_first hs hVc h0 (Region.noSelect_spec hsel) hbound hkn (fun listed' a' F' hL => seqB_ready hL.1) (fun _ _ _ _ hF hL => ⟨hL.1, fun w hw h' => hL.2 w hw (fun e => hF e w (h' e))⟩) l.length listed a F inv (Region.free_spec h0 hf) hr' hm hx hg
      (fun v hv => ih (k + 1) _ _ _ (fun j hj => by have := hl (j + 1) (by simp; omega); simpa [Nat.add_assoc, Nat.add_comm 1 j] using this) (by simp only [List.length_cons] at hk; omega) (inv.set hr' hkn) hB' (hm.with hg.1 k v)
        (by obtain ⟨w, hw, hF, hv'⟩ := hv; exact ⟨w, hw, Facts.with_mk hF hv', trivial⟩) (hnext v hv))

/-- A REGION THAT DRAWS ITS ORDER, one of whose operations writes. -/
theorem region_freeP (hs : ∀ w w', E0.R w w' → E1.R w w') (K : FuncId → Array Value → World → Value → Prop) {id : Nat} {Q : Exit → Act → World → Prop} {a : Act} {w : World} {l : List Oper} (hVc : ∀ w', E1.R (w.drewN 1) w' → ∃ v w'', E1.R w' w'' ∧ Vc w'' v) (hm : P.follows .mixedOrders = true)
    (hB : (Region.noSelect l.toArray && Region.lexHead .any l.toArray 0 l.length 0 (Array.replicate l.toArray.size false)) = true)
    (h : wpFreeP E0 E1 c Vc P l.toArray .any (w.drewN 1) K (fun a' w' => Q .normal a' w') l 0 a noFacts) : (Code.region id l.toArray true).wp P Q a w := by
  simp only [Bool.and_eq_true] at hB
  obtain ⟨hsel, hlex⟩ := hB
  have hbound : ∀ listed i, HeadInv .any l.toArray l.length listed → i < l.length → listed.getD i true = false → ∀ j ∈ Region.ready .any l.toArray listed, j < l.length := by
    intro listed i _ _ _ j hj
    obtain ⟨_, oj, hoj, _⟩ := mem_ready.1 hj
    simpa using (Array.getElem?_eq_some_iff.1 hoj).1
  have H := anyFreeP_lex (md := .any) (g := 0) hs hVc hsel hbound l 0 _ a noFacts (fun j hj => by simp) (by simp) (head_start _ l.length) hlex (fun _ _ _ h => h) ⟨w.drewN 1, E1.refl _, fun _ => trivial, trivial⟩ h
  refine wp_region_any hm ?_
  have := anyFreeP_sound (Q' := Q) (W := w.drewN 1) (g := 0) hs (fun listed a' F w' hw' hF hL => ⟨by simpa [Region.seqB] using hL.1, hL.2 w' hw' hF⟩) _ _ _ _ _ (fun _ _ _ h => h) (E1.refl _) (fun _ => E0.refl _) (fun _ => trivial) H
  rw [Nat.add_zero] at this
  exact this
end
end Go.Fk

/- Regions with a call that writes: laws of single operations. Nothing here names a program. -/
namespace Go.Fk
open Go Go.RowKit
section
variable {E0 E1 : Ext} {c : Nat} {Vc : World → Value → Prop} {P : Program} {ops : Array Oper} {W : World} {K : FuncId → Array Value → World → Value → Prop} {Q : Act → World → Prop} {F : Facts} {k : Nat} {o : Oper} {rest : List Oper} {a : Act}
theorem wpFreeP_weaken : ∀ (l : List Oper) (k : Nat) (a : Act) (F F' : Facts), (∀ e w, F' e w → F e w) → wpFreeP E0 E1 c Vc P ops .any W K Q l k a F → wpFreeP E0 E1 c Vc P ops .any W K Q l k a F' := by
  intro l
  induction l with
  | nil => intro k a F F' h hh w hw hF; exact hh w hw (fun e => h e w (hF e))
  | cons o l ih =>
    intro k a F F' h hh
    obtain ⟨V, hg, hn⟩ := hh
    exact ⟨V, hg.stronger h, fun v hv => ih _ _ _ _ (fun e w hw => ⟨h e w hw.1, hw.2⟩) (hn v (hv.weaken (fun w hw e => h e w (hw e))))⟩
theorem wpFreeP_nil (h : ∀ w, E1.R W w → (∀ e, F e w) → Q a w) : wpFreeP E0 E1 c Vc P ops .any W K Q [] k a F := h
theorem wpFreeP_some (hk : k ≠ c) (hg : o.guard = none) (V : Value → Prop) (hr : ∀ w, E1.R W w → ∃ v n, (execOp a.eval o).run P w = .ok (.value v) (w.drewN n) ∧ V v)
    (h : ∀ v, V v → wpFreeP E0 E1 c Vc P ops .any W K Q rest (k + 1) (a.put o.dst v) (F.with k (fun _ => True))) : wpFreeP E0 E1 c Vc P ops .any W K Q (o :: rest) k a F := by
  refine ⟨fun _ u => V u, ⟨fun _ _ _ _ h => h, fun e => absurd e hk, .inl ⟨by simp [Region.wanted, hg], fun w hw _ => ?_⟩⟩, fun u hu => ?_⟩
  · obtain ⟨v, n, hrun, hv⟩ := hr w (by unfold preE at hw; rw [if_neg hk] at hw; exact hw)
    rw [hrun]; exact ⟨(stepE E0 E1 c k).of_le (le_drewN w n), hv⟩
  · obtain ⟨w, _, _, hv⟩ := hu
    exact wpFreeP_weaken _ _ _ _ _ (fun e w h => ⟨h.1, fun _ => trivial⟩) (h u hv)
theorem wpFreeP_one (hk : k ≠ c) (hg : o.guard = none) (v : Value) (hr : ∀ w, E1.R W w → (execOp a.eval o).run P w = .ok (.value v) w)
    (h : wpFreeP E0 E1 c Vc P ops .any W K Q rest (k + 1) (a.put o.dst v) (F.with k (fun _ => True))) : wpFreeP E0 E1 c Vc P ops .any W K Q (o :: rest) k a F :=
  wpFreeP_some hk hg (· = v) (fun w hw => ⟨v, 0, by rw [hr w hw]; rfl, rfl⟩) (by rintro u rfl; exact h)
theorem wpFreeP_quiet (hk : k ≠ c) (hnc : simple o.op = true) (h : wpQuiet P ops (fun _ => True) (fun a' => wpFreeP E0 E1 c Vc P ops .any W K Q rest (k + 1) a' (F.with k (fun _ => True))) [o] a) : wpFreeP E0 E1 c Vc P ops .any W K Q (o :: rest) k a F := by
  simp only [wpQuiet] at h
  by_cases hw : Region.wanted o (yielded ops a.tmps) = true
  · rw [if_pos hw] at h
    obtain ⟨v, h1, h2⟩ := h
    refine ⟨fun _ u => u = v, ⟨fun _ _ _ _ h => h, fun e => absurd e hk, .inl ⟨hw, fun w hw' _ => ?_⟩⟩, fun u hu => ?_⟩
    · have h3 := h1 w trivial
      unfold Oper.quietAt at h3
      generalize hrun : (execOp a.eval o).run P w = r at h3
      cases r with
      | ok n w' =>
        cases n <;> simp only [Oper.quietUpon] at h3 <;> simp only [insideT]
        case value u => exact ⟨by rw [h3.1]; exact (stepE E0 E1 c k).refl w, h3.2⟩
        case skip => exact ⟨by rw [h3.1]; exact (stepE E0 E1 c k).refl w, h3.2.symm⟩
        case enter f args => exact (noEnter hnc hrun).elim
      | halt x w' => simp only [Oper.quietUpon] at h3
    · obtain ⟨w, _, _, rfl⟩ := hu
      exact wpFreeP_weaken _ _ _ _ _ (fun e w h => ⟨h.1, fun _ => trivial⟩) h2
  · rw [if_neg hw] at h
    refine ⟨fun _ u => u = undef, ⟨fun _ _ _ _ h => h, fun e => absurd e hk, .inr ⟨hk, by simpa using hw, fun _ _ _ => rfl⟩⟩, fun u hu => ?_⟩
    obtain ⟨w, _, _, rfl⟩ := hu
    exact wpFreeP_weaken _ _ _ _ _ (fun e w h => ⟨h.1, fun _ => trivial⟩) h
theorem wpFreeP_farith (hk : k ≠ c) (hg : o.guard = none) {op : BinOp} {t t' : TypeId} {x y : Operand} (hop : o.op = Op.binOp op t x y t') (ho : arith op = true)
    {fk : FloatKind} {p q : Nat} (hx : a.eval x = .float fk p) (hy : a.eval y = .float fk q)
    (h : ∀ r, Hid (can fk r = fop op fk p q) → Hid (fits fk r) → wpFreeP E0 E1 c Vc P ops .any W K Q rest (k + 1) (a.put o.dst (.float fk r)) (F.with k (fun _ => True))) : wpFreeP E0 E1 c Vc P ops .any W K Q (o :: rest) k a F := by
  refine wpFreeP_some hk hg (fun v => ∃ r, v = .float fk r ∧ can fk r = fop op fk p q ∧ fits fk r) (fun w _ => ?_) ?_
  · obtain ⟨r, n, hrun, hr, hf⟩ := run_farith (P := P) w op ho t fk p q
    have he := eqGuard_float (P := P) w op t x y fk fk p q
    refine ⟨.float fk r, n, ?_, r, rfl, hr, hf⟩
    simp [execOp, hop, hx, hy, he, hrun, Result.andThen]
  · rintro v ⟨r, rfl, h1, h2⟩
    exact h r h1 h2
theorem wpFreeP_call (hk : k = c) (hg : o.guard = none) (hm : MonoT E1 Vc) (h1 : ∀ w, E0.R W w → insideT E1 P K w Vc ((execOp a.eval o).run P w))
    (h2 : ∀ v, (∃ w, E1.R W w ∧ Vc w v) → wpFreeP E0 E1 c Vc P ops .any W K Q rest (k + 1) (a.put o.dst v) (F.with k (fun w => Vc w v))) : wpFreeP E0 E1 c Vc P ops .any W K Q (o :: rest) k a F := by
  refine ⟨Vc, ⟨hm, fun _ => rfl, .inl ⟨by simp [Region.wanted, hg], fun w hw _ => ?_⟩⟩, fun v hv => h2 v (by obtain ⟨w, hw, _, h⟩ := hv; exact ⟨w, hw, h⟩)⟩
  unfold preE at hw
  rw [if_pos hk] at hw
  unfold stepE
  rw [if_pos hk]
  exact h1 w hw
/-- A REGION WITH FORCED LAST OPERATIONS (from number n on), one of whose first ones writes. -/
theorem region_tailP (hs : ∀ w w', E0.R w w' → E1.R w w') (K : FuncId → Array Value → World → Value → Prop) {id : Nat} {Q : Exit → Act → World → Prop} {a : Act} {w : World} {l : List Oper} (n : Nat) (hVc : ∀ w', E1.R (w.drewN 1) w' → ∃ v w'', E1.R w' w'' ∧ Vc w'' v) (hm : P.follows .mixedOrders = true) (hB : Region.lexTailB .any l.toArray n = true)
    (h : wpFreeP E0 E1 c Vc P l.toArray .any (w.drewN 1) K (fun a' w' => wpList P l.toArray Q (l.drop n) a' w') (l.take n) 0 a noFacts) : (Code.region id l.toArray true).wp P Q a w := by
  simp only [Region.lexTailB, Bool.and_eq_true, decide_eq_true_eq] at hB
  obtain ⟨⟨⟨⟨hsel, hn⟩, hs'⟩, hc⟩, hlex⟩ := hB
  have hn' : n < l.length := by simpa using hn
  have htl : (l.take n).length = n := by simp; omega
  have hdl : (l.drop n).length = l.toArray.size - n := by simp
  have hbound : ∀ listed i, HeadInv .any l.toArray n listed → i < n → listed.getD i true = false → ∀ j ∈ Region.ready .any l.toArray listed, j < n := by
    intro listed i inv hi hun j hj
    rcases Nat.lt_or_ge j n with h | h
    · exact h
    · exact absurd hj (tail_waits hs' hc hn inv _ i rfl hi hun j h)
  have H := anyFreeP_lex (md := .any) (g := l.toArray.size - n) hs hVc hsel hbound (l.take n) 0 _ a noFacts (fun j hj => by
    have hj' : j < n := by rw [htl] at hj; exact hj
    simp [hj']) (by simpa using htl) (head_start _ n) (by rw [htl]; exact hlex) (fun _ _ _ h => h) ⟨w.drewN 1, E1.refl _, fun _ => trivial, trivial⟩ h
  refine wp_region_any hm ?_
  have := anyFreeP_sound (Q' := Q) (W := w.drewN 1) (g := l.toArray.size - n) hs (fun listed a' F w' hw' hF hL => by
    have := wpAny_of_seq (md := .any) (Q' := Q) (l.drop n) n listed a' w' (fun j => by simp [List.getElem?_drop]) (by rw [hdl]; exact hL.1) (hL.2 w' hw' hF)
    rwa [hdl] at this) _ _ _ _ _ (fun _ _ _ h => h) (E1.refl _) (fun _ => E0.refl _) (fun _ => trivial) H
  rw [htl, show n + (l.toArray.size - n) = l.toArray.size by omega] at this
  exact this
end
/-- What may turn: before a call has run, all is as Pre says; behind it, as Post says. -/
def altE (S : Nat → Prop) (Pre Post : World → Prop) (h1 : ∀ w w', le w w' → Pre w → Pre w') (h2 : ∀ w w', le w w' → Post w → Post w') : Ext where
  R w w' := Chg S w w' ∧ (Post w → Post w') ∧ (Pre w ∨ Post w → Pre w' ∨ Post w')
  refl w := ⟨Chg.refl _ w, id, id⟩
  trans := by
    rintro a b c ⟨p1, p2, p3⟩ ⟨q1, q2, q3⟩
    exact ⟨p1.trans q1, fun h => q2 (p2 h), fun h => q3 (p3 h)⟩
  of_le := by
    intro a b h
    exact ⟨Chg.of_le h, h2 a b h, fun e => e.elim (fun x => .inl (h1 a b h x)) (fun x => .inr (h2 a b h x))⟩
section
variable {E0 E1 : Ext} {c : Nat} {Vc : World → Value → Prop} {P : Program} {ops : Array Oper} {W : World} {K : FuncId → Array Value → World → Value → Prop} {Q : Act → World → Prop} {F : Facts} {k : Nat} {o : Oper} {rest : List Oper} {a : Act}
/-- A cell that holds the same before and behind. -/
theorem wpFreeP_cellA (hk : k ≠ c) (hg : o.guard = none) {ty : TypeId} {x : Operand} (hop : o.op = .load ty x) {ad : Addr} (hx : a.eval x = .pointer (some ad)) {v : Value} (hv : ∀ w, E1.R W w → w.cell? ad = some v) (hu : ∀ w, (isAgg ty).run P w = .ok false w)
    (h : wpFreeP E0 E1 c Vc P ops .any W K Q rest (k + 1) (a.put o.dst v) (F.with k (fun _ => True))) : wpFreeP E0 E1 c Vc P ops .any W K Q (o :: rest) k a F := by
  refine wpFreeP_one hk hg v (fun w hw => ?_) h
  have hl : (Instr.loadAt ty (.pointer (some ad))).run P w = .ok v w := by
    simp [Instr.loadAt, Instr.sureAddr, loadVar, hu, hv w hw]
  simp [execOp, hop, hx, hl, Result.andThen]
/-- A call that only reads. -/
theorem wpFreeP_callQ (hk : k ≠ c) (hg : o.guard = none) {f : FuncId} {xs : Array Operand} {ts : Array TypeId} (hop : o.op = Op.call { callee := Callee.value (Operand.func f), args := xs, argTypes := ts }) {fn : Func} (hf : P.funcs[f]? = some fn)
    (hb : fn.body.isNone = false) (hn : (fn.name == "runtime.NumGoroutine") = false) {args : Array Value} (ha : xs.map a.eval = args) (V : Value → Prop)
    (h1 : ∀ w, E1.R W w → Calls P f args w (fun e w' => ∃ v, e = .returned v ∧ le w w' ∧ K f args w' v ∧ V v)) (hK : ∀ w v, K f args w v → V v)
    (h : ∀ v, V v → wpFreeP E0 E1 c Vc P ops .any W K Q rest (k + 1) (a.put o.dst v) (F.with k (fun _ => True))) : wpFreeP E0 E1 c Vc P ops .any W K Q (o :: rest) k a F := by
  refine ⟨fun _ u => V u, ⟨fun _ _ _ _ h => h, fun e => absurd e hk, .inl ⟨by simp [Region.wanted, hg], fun w hw _ => ?_⟩⟩, fun u hu => ?_⟩
  · rw [run_enter hop hf hb hn ha]
    unfold preE at hw
    rw [if_neg hk] at hw
    refine ⟨(stepE E0 E1 c k).refl w, (h1 w hw).mono ?_, fun w'' v hk => hK w'' v hk⟩
    rintro e w' ⟨v, rfl, hl, hk', _⟩
    exact ⟨v, rfl, (stepE E0 E1 c k).of_le hl, hk'⟩
  · obtain ⟨w, _, _, hv⟩ := hu
    exact wpFreeP_weaken _ _ _ _ _ (fun e w h => ⟨h.1, fun _ => trivial⟩) (h u hv)
/-- The call that writes. -/
theorem wpFreeP_callC (hk : k = c) (hg : o.guard = none) {f : FuncId} {xs : Array Operand} {ts : Array TypeId} (hop : o.op = Op.call { callee := Callee.value (Operand.func f), args := xs, argTypes := ts }) {fn : Func} (hf : P.funcs[f]? = some fn)
    (hb : fn.body.isNone = false) (hn : (fn.name == "runtime.NumGoroutine") = false) {args : Array Value} (ha : xs.map a.eval = args) (hm : MonoT E1 Vc)
    (h1 : ∀ w, E0.R W w → Calls P f args w (fun e w' => ∃ v, e = .returned v ∧ E1.R w w' ∧ K f args w' v)) (hK : ∀ w v, K f args w v → Vc w v)
    (h2 : ∀ v, (∃ w, E1.R W w ∧ Vc w v) → wpFreeP E0 E1 c Vc P ops .any W K Q rest (k + 1) (a.put o.dst v) (F.with k (fun w => Vc w v))) : wpFreeP E0 E1 c Vc P ops .any W K Q (o :: rest) k a F := by
  refine wpFreeP_call hk hg hm (fun w hw => ?_) h2
  rw [run_enter hop hf hb hn ha]
  exact ⟨E1.refl w, h1 w hw, fun w'' v hk => hK w'' v hk⟩
end
end Go.Fk

/- An append to a row of one's own in a region that draws its order: elements of any width. Nothing here names a program. -/
namespace Go.Fk
open Go Go.RowKit
theorem ownsRow_keep {w w' : World} {B : Nat} {e : TypeId} {z : Nat} {v : Value} {n : Nat} {xs : List Value} {S : Nat → Prop} (h : w.ownsRow B e z v n xs) (hw : Chg S w w') (hS : ∀ k, v.ownBlock = some k → ¬ S k) : w'.ownsRow B e z v n xs := by
  obtain ⟨h1, h2⟩ := h
  refine ⟨h1, ?_⟩
  rcases h2 with h2 | ⟨q, cap, cur, e1, e2, e3, e4⟩
  · exact .inl h2
  · exact .inr ⟨q, cap, cur, e1, e2, by have := hw.row (g := q) (t := e) (cs := cur) e3 (hS q (by rw [e1]; rfl)); exact this, e4⟩
theorem ownsRow_mono {w : World} {B B' : Nat} {e : TypeId} {z : Nat} {v : Value} {n : Nat} {xs : List Value} (h : w.ownsRow B e z v n xs) (hb : B' ≤ B) : w.ownsRow B' e z v n xs := by
  obtain ⟨h1, h2⟩ := h
  refine ⟨h1, ?_⟩
  rcases h2 with h2 | ⟨q, cap, cur, e1, e2, e3⟩
  · exact .inl h2
  · exact .inr ⟨q, cap, cur, e1, Nat.le_trans hb e2, e3⟩
theorem ownsRow_lt {w : World} {B : Nat} {e : TypeId} {z : Nat} {v : Value} {n : Nat} {xs : List Value} (h : w.ownsRow B e z v n xs) : ∀ k, v.ownBlock = some k → B ≤ k ∧ k < w.heap.size := by
  intro k hk
  rcases h.2 with ⟨rfl, _⟩ | ⟨q, cap, cur, rfl, e2, e3, _⟩
  · cases hk
  · obtain rfl : q = k := by simpa [Value.ownBlock] using hk
    refine ⟨e2, ?_⟩
    rcases Nat.lt_or_ge q w.heap.size with hlt | hge
    · exact hlt
    · rw [Array.getElem?_eq_none hge] at e3; cases e3
theorem run_append_keep {P : Program} (w : World) (t ty : TypeId) (base : Nat) (e : TypeId) (i : TypeInfo) (z : Value) (size bytes : Nat) (ht : P.underlying t = some (.slice e)) (hi : P.info? e = some i) (hz : i.zero = some z)
    (hsize : i.size = size) (hby : i.bytes = bytes) (hzs : z.cells.size = size) (hsz : 0 < size)
    (v : Value) (n : Nat) (xs : List Value) (hown : w.ownsRow base e size v n xs)
    (ad : Addr) (m c : Nat) (news : List Value) (hl : news.length = m * size) (hnews : ∀ j u, news[j]? = some u → w.cell? (ad.add j) = some u) (h1 : ∀ u ∈ news, u.oneCell' = true)
    (hm : 0 < m) (h63 : n + m ≤ maxLen) (hbytes : (n + m) * bytes ≤ 140737488355328) (hbase : base ≤ w.heap.size) :
    ∃ v' w', (Builtin.append_ #[t, t] ty #[v, .slice (some ad) m c]).run P w = .ok v' w' ∧ w'.ownsRow base e size v' (n + m) (xs ++ news) ∧ Chg (fun k => v.ownBlock = some k) w w' ∧
      (v'.ownBlock = v.ownBlock ∨ ∃ q, v'.ownBlock = some q ∧ w.heap.size ≤ q) ∧ w'.ownsRow base e size v n xs ∧ (∀ u, u.ownBlock = v.ownBlock → w.ownsRow base e size u (n + m) (xs ++ news) → w'.ownsRow base e size u (n + m) (xs ++ news)) := by
  have hlen : (xs ++ news).length = (n + m) * size := by rw [List.length_append, hown.1, hl, Nat.add_mul]
  rcases hown.2 with ⟨rfl, rfl⟩ | ⟨g, cap, cur, rfl, hbg, hg, hnc, hcm, hcs, htake⟩
  · obtain ⟨v', w', hr, h2, h3, _, h5⟩ := run_append_own_at (P := P) w base t ty e i z size bytes ht hi hz hsize hby hzs hsz (.slice none 0 0) 0 xs hown ad m c news hl hnews h1 h63 hbytes hbase
    have hle : le w w' := le_of_grown h3
    refine ⟨v', w', hr, h2, Chg.of_le hle, ?_, ownsRow_le hown hle, fun u _ hu => ownsRow_le hu hle⟩
    rcases h5 with h5 | h5
    · exact .inl h5
    · exact .inr ⟨_, h5, Nat.le_refl _⟩
  · by_cases hroom : n + m ≤ cap
    · subst hsize
      have hfit : n * i.size + news.length ≤ cur.size := by rw [hl, hcs, ← Nat.add_mul]; exact Nat.mul_le_mul_right _ hroom
      have hr := run_append_room (P := P) w t ty e i ht hi g n cap cur hg ad m c news hl hnews h1 hroom hfit
      have hnew : (w.setRow g (cur.toList.take (n * i.size) ++ news ++ cur.toList.drop (n * i.size + news.length)).toArray).ownsRow base e i.size (.slice (some ⟨g, 0, none⟩) (n + m) cap) (n + m) (xs ++ news) := by
        refine ⟨hlen, .inr ⟨g, cap, _, rfl, hbg, setRow_heap w g cur _ e _ hg, hroom, hcm, ?_, ?_⟩⟩
        · simp only [List.size_toArray, List.length_append, List.length_take, List.length_drop, Array.length_toList]
          omega
        · rw [htake, ← hlen]
          exact List.take_left
      refine ⟨_, _, hr, hnew, ⟨rfl, rfl, rfl, by simp, fun k _ hk => setRow_other w g k _ (fun e => hk (by simp [Value.ownBlock, e]))⟩, .inl rfl, ?_, fun u hu ho => ?_⟩
      · refine ⟨hown.1, .inr ⟨g, cap, _, rfl, hbg, setRow_heap w g cur _ e _ hg, hnc, hcm, ?_, ?_⟩⟩
        · simp only [List.size_toArray, List.length_append, List.length_take, List.length_drop, Array.length_toList]
          omega
        · rw [htake, List.append_assoc, ← hown.1]
          exact List.take_left
      · rcases ho.2 with ⟨rfl, h0⟩ | ⟨g0, cap0, cur0, rfl, _, hg0, _, _, hs0, _⟩
        · omega
        · obtain rfl : g0 = g := by simpa [Value.ownBlock] using hu
          rw [hg] at hg0
          simp only [Option.some.injEq, Obj.cells.injEq] at hg0
          obtain ⟨rfl, _⟩ := hg0
          obtain rfl : cap = cap0 := Nat.eq_of_mul_eq_mul_right hsz (hcs.symm.trans hs0)
          exact hnew
    · obtain ⟨v', w', hr, h2, h3⟩ := run_append_arg_grows (P := P) w t ty e i z size bytes ht hi hz hsize hby hzs hsz ⟨g, 0, none⟩ n cap xs hown.1 (hown.cells (g := g) rfl) ad m c news hl hnews (by omega) h63 hbytes
      have hle : le w w' := le_of_grown h3
      obtain ⟨q, c', rfl, hq, _⟩ := h2.form (by omega)
      exact ⟨_, w', hr, ownsRow_mono h2 hbase, Chg.of_le hle, .inr ⟨q, rfl, hq⟩, ownsRow_le hown hle, fun u _ hu => ownsRow_le hu hle⟩
/-- Only the row that one owns is written, by one append. -/
def appX (base : Nat) (e : TypeId) (z : Nat) (v : Value) (n : Nat) (xs : List Value) (m : Nat) (news : List Value) : Ext where
  R w w' := Chg (fun k => v.ownBlock = some k) w w' ∧ (w.ownsRow base e z v n xs → w'.ownsRow base e z v n xs) ∧ (∀ u, u.ownBlock = v.ownBlock → w.ownsRow base e z u (n + m) (xs ++ news) → w'.ownsRow base e z u (n + m) (xs ++ news))
  refl w := ⟨Chg.refl _ w, fun h => h, fun _ _ h => h⟩
  trans h k := ⟨h.1.trans k.1, fun x => k.2.1 (h.2.1 x), fun u hu x => k.2.2 u hu (h.2.2 u hu x)⟩
  of_le h := ⟨Chg.of_le h, fun x => ownsRow_le x h, fun _ _ x => ownsRow_le x h⟩
section
variable {P : Program} {ops : Array Oper} {W : World} {K : FuncId → Array Value → World → Value → Prop} {Q : Act → World → Prop} {F : Facts} {k : Nat} {o : Oper} {rest : List Oper} {a : Act}
variable {base : Nat} {e : TypeId} {z : Nat} {v : Value} {n : Nat} {xs : List Value} {m : Nat} {news : List Value}
theorem appX_row {w : World} (hown : W.ownsRow base e z v n xs) (hw : (appX base e z v n xs m news).R W w) {q : Nat} {t : TypeId} {cs : Array Value} (hr : Row W q t cs) (hq : v.ownBlock ≠ some q) : Row w q t cs := hw.1.row hr hq
theorem wpFreeD_madeX (hown : W.ownsRow base e z v n xs) (hg : o.guard = none) (f : Nat → Value) (t : TypeId) (cs : Array Value) (hr : ∀ w, (execOp a.eval o).run P w = .ok (.value (f w.heap.size)) (w.alloc (.cells cs t)))
    (h : ∀ b, wpFreeD (appX base e z v n xs m news) P ops .any W K Q rest (k + 1) (a.put o.dst (f b)) (F.with k (fun w => ∃ b', f b = f b' ∧ Row w b' t cs))) : wpFreeD (appX base e z v n xs m news) P ops .any W K Q (o :: rest) k a F := by
  refine ⟨fun w u => ∃ b', u = f b' ∧ W.heap.size ≤ b' ∧ Row w b' t cs, ⟨fun u w w' hw hu => ?_, .inl ⟨by simp [Region.wanted, hg], fun w hw _ => ?_⟩⟩, fun u hu => ?_⟩
  · obtain ⟨b', e1, h2, hrow⟩ := hu
    exact ⟨b', e1, h2, hw.1.row hrow (fun e2 => by have := (ownsRow_lt hown _ e2).2; omega)⟩
  · rw [hr w]
    exact ⟨(appX base e z v n xs m news).of_le (le_alloc w _), w.heap.size, rfl, hw.1.size, Row.new w t cs⟩
  · obtain ⟨w, _, _, b, rfl, _⟩ := hu
    exact wpFreeD_weaken _ _ _ _ _ (fun e w h => ⟨h.1, fun he => by obtain ⟨b', e1, _, h2⟩ := h.2 he; exact ⟨b', e1, h2⟩⟩) (h b)
/-- What an append gives. -/
def Gave (W : World) (base : Nat) (e : TypeId) (z : Nat) (v : Value) (n : Nat) (xs : List Value) (w : World) (u : Value) : Prop := w.ownsRow base e z u n xs ∧ (u.ownBlock = v.ownBlock ∨ ∃ q, u.ownBlock = some q ∧ W.heap.size ≤ q)
theorem wpFreeD_appK (hown : W.ownsRow base e z v n xs) (hg : o.guard = none) {s x : Operand} {t : TypeId} (hop : o.op = .call { callee := .builtin .append, args := #[s, x], argTypes := #[t, t] }) {i : TypeInfo} {zv : Value} {bytes : Nat}
    (ht : P.underlying t = some (.slice e)) (hi : P.info? e = some i) (hz : i.zero = some zv) (hsize : i.size = z) (hby : i.bytes = bytes) (hzs : zv.cells.size = z) (hsz : 0 < z)
    (hs : a.eval s = v) {ad : Addr} {c : Nat} (hx : a.eval x = .slice (some ad) m c) (hl : news.length = m * z) (hnews : ∀ w, (appX base e z v n xs m news).R W w → behind .any o F w → ∀ j u, news[j]? = some u → w.cell? (ad.add j) = some u) (h1 : ∀ u ∈ news, u.oneCell' = true)
    (hm : 0 < m) (h63 : n + m ≤ maxLen) (hbytes : (n + m) * bytes ≤ 140737488355328) (hbase : base ≤ W.heap.size)
    (h : ∀ u, (∃ w, (appX base e z v n xs m news).R W w ∧ Gave W base e z v (n + m) (xs ++ news) w u) → wpFreeD (appX base e z v n xs m news) P ops .any W K Q rest (k + 1) (a.put o.dst u) (F.with k (fun w => Gave W base e z v (n + m) (xs ++ news) w u))) : wpFreeD (appX base e z v n xs m news) P ops .any W K Q (o :: rest) k a F := by
  refine ⟨Gave W base e z v (n + m) (xs ++ news), ⟨fun u w w' hw hu => ?_, .inl ⟨by simp [Region.wanted, hg], fun w hw hbe => ?_⟩⟩, fun u hu => h u (by obtain ⟨w, h1, _, h2⟩ := hu; exact ⟨w, h1, h2⟩)⟩
  · obtain ⟨g1, g2⟩ := hu
    refine ⟨?_, g2⟩
    by_cases hq : u.ownBlock = v.ownBlock
    · exact hw.2.2 u hq g1
    · exact ownsRow_keep g1 hw.1 (fun q e1 e2 => hq (e1.trans e2.symm))
  · obtain ⟨v', w', hr, r1, r2, r3, r4, r5⟩ := run_append_keep (P := P) w t o.type base e i zv z bytes ht hi hz hsize hby hzs hsz v n xs (hw.2.1 hown) ad m c news hl (hnews w hw hbe) h1 hm h63 hbytes (Nat.le_trans hbase hw.1.size)
    simp [execOp, hop, resolve, invoke, builtin, hs, hx, hr, Result.andThen, insideT]
    refine ⟨⟨r2, fun _ => r4, r5⟩, r1, ?_⟩
    rcases r3 with r3 | ⟨q, r3, r6⟩
    · exact .inl r3
    · exact .inr ⟨q, r3, Nat.le_trans hw.1.size r6⟩
end
end Go.Fk

/- Drawn regions with facts whose last operations are forced; float arithmetic within them. Nothing here names a program. -/
namespace Go.Fk
open Go Go.RowKit
section
variable {E : Ext} {P : Program} {ops : Array Oper} {W : World} {K : FuncId → Array Value → World → Value → Prop} {Q : Act → World → Prop} {F : Facts} {k : Nat} {o : Oper} {rest : List Oper} {a : Act}
theorem wpFreeD_some (hg : o.guard = none) (V : Value → Prop) (hr : ∀ w, E.R W w → ∃ v n, (execOp a.eval o).run P w = .ok (.value v) (w.drewN n) ∧ V v)
    (h : ∀ v, V v → wpFreeD E P ops .any W K Q rest (k + 1) (a.put o.dst v) (F.with k (fun _ => True))) : wpFreeD E P ops .any W K Q (o :: rest) k a F := by
  refine ⟨fun _ u => V u, ⟨fun _ _ _ _ h => h, .inl ⟨by simp [Region.wanted, hg], fun w hw _ => ?_⟩⟩, fun u hu => ?_⟩
  · obtain ⟨v, n, hrun, hv⟩ := hr w hw
    rw [hrun]; exact ⟨E.of_le (le_drewN w n), hv⟩
  · obtain ⟨w, _, _, hv⟩ := hu
    exact wpFreeD_weaken _ _ _ _ _ (fun e w h => ⟨h.1, fun _ => trivial⟩) (h u hv)
theorem wpFreeD_farith (hg : o.guard = none) {op : BinOp} {t t' : TypeId} {x y : Operand} (hop : o.op = Op.binOp op t x y t') (ho : arith op = true)
    {fk : FloatKind} {p q : Nat} (hx : a.eval x = .float fk p) (hy : a.eval y = .float fk q)
    (h : ∀ r, Hid (can fk r = fop op fk p q) → Hid (fits fk r) → wpFreeD E P ops .any W K Q rest (k + 1) (a.put o.dst (.float fk r)) (F.with k (fun _ => True))) : wpFreeD E P ops .any W K Q (o :: rest) k a F := by
  refine wpFreeD_some hg (fun v => ∃ r, v = .float fk r ∧ can fk r = fop op fk p q ∧ fits fk r) (fun w _ => ?_) ?_
  · obtain ⟨r, n, hrun, hr, hf⟩ := run_farith (P := P) w op ho t fk p q
    have he := eqGuard_float (P := P) w op t x y fk fk p q
    refine ⟨.float fk r, n, ?_, r, rfl, hr, hf⟩
    simp [execOp, hop, hx, hy, he, hrun, Result.andThen]
  · rintro v ⟨r, rfl, h1, h2⟩
    exact h r h1 h2
end
section
variable {E : Ext} {P : Program}
/-- A REGION WITH FORCED LAST OPERATIONS (from number n on). -/
theorem region_tailD (K : FuncId → Array Value → World → Value → Prop) {id : Nat} {Q : Exit → Act → World → Prop} {a : Act} {w : World} {l : List Oper} (n : Nat) (hm : P.follows .mixedOrders = true) (hB : Region.lexTailB .any l.toArray n = true)
    (h : wpFreeD E P l.toArray .any (w.drewN 1) K (fun a' w' => wpList P l.toArray Q (l.drop n) a' w') (l.take n) 0 a noFacts) : (Code.region id l.toArray true).wp P Q a w := by
  simp only [Region.lexTailB, Bool.and_eq_true, decide_eq_true_eq] at hB
  obtain ⟨⟨⟨⟨hsel, hn⟩, hs'⟩, hc⟩, hlex⟩ := hB
  have hn' : n < l.length := by simpa using hn
  have htl : (l.take n).length = n := by simp; omega
  have hdl : (l.drop n).length = l.toArray.size - n := by simp
  have hbound : ∀ listed i, HeadInv .any l.toArray n listed → i < n → listed.getD i true = false → ∀ j ∈ Region.ready .any l.toArray listed, j < n := by
    intro listed i inv hi hun j hj
    rcases Nat.lt_or_ge j n with h | h
    · exact h
    · exact absurd hj (tail_waits hs' hc hn inv _ i rfl hi hun j h)
  have H := anyFreeD_lex (md := .any) (g := l.toArray.size - n) hsel hbound (l.take n) 0 _ a noFacts (fun j hj => by
    have hj' : j < n := by rw [htl] at hj; exact hj
    simp [hj']) (by simpa using htl) (head_start _ n) (by rw [htl]; exact hlex) (fun _ _ _ h => h) ⟨w.drewN 1, E.refl _, fun _ => trivial, trivial⟩ h
  refine wp_region_any hm ?_
  have := anyFreeD_sound (Q' := Q) (W := w.drewN 1) (g := l.toArray.size - n) (fun listed a' F w' hw' hF hL => by
    have := wpAny_of_seq (md := .any) (Q' := Q) (l.drop n) n listed a' w' (fun j => by simp [List.getElem?_drop]) (by rw [hdl]; exact hL.1) (hL.2 w' hw' hF)
    rwa [hdl] at this) _ _ _ _ _ (fun _ _ _ h => h) (E.refl _) (fun _ => trivial) H
  rw [htl, show n + (l.toArray.size - n) = l.toArray.size by omega] at this
  exact this
end
end Go.Fk

/- The texts of samples, each behind a blank. -/
namespace Go.Fk
open Go Go.RowKit
/-- Each behind a blank. -/
def samL (f : Nat → Nat) : Nat → ByteArray
  | 0 => ⟨#[]⟩
  | n + 1 => samL f n ++ (spB ++ hexT (can .f32 (f n)))
theorem ba_assoc (a b c : ByteArray) : a ++ b ++ c = a ++ (b ++ c) := by apply ba_ext; simp
theorem ba_nil (a : ByteArray) : (⟨#[]⟩ : ByteArray) ++ a = a := by apply ba_ext; simp
theorem samL_txt (f : Nat → Nat) {n : Nat} (h : 0 < n) : samL f n = spB ++ txtS f n := by
  induction n with
  | zero => omega
  | succ n ih =>
    by_cases h0 : n = 0
    · subst h0; rw [txtS_one, samL, samL, ba_nil]
    · rw [samL, ih (by omega), txtS_succ f (by omega), ba_assoc]
theorem samL_size (f : Nat → Nat) (n : Nat) : (samL f n).size = n * 9 := by
  induction n with
  | zero => rfl
  | succ n ih => rw [samL, ByteArray.size_append, ByteArray.size_append, ih, hexT_size, show spB.size = 1 from rfl]; omega
theorem samL_congr {f g : Nat → Nat} {n : Nat} (h : ∀ i, i < n → can .f32 (f i) = can .f32 (g i)) : samL f n = samL g n := by
  induction n with
  | zero => rfl
  | succ n ih => rw [samL, samL, ih (fun i hi => h i (by omega)), h n (by omega)]
/-- A text. -/
def Out_t (ar0 : ByteArray) (w : World) (e : Ending) (w' : World) : Prop := e = .returned (.string ar0) ∧ le w w'
end Go.Fk
namespace Go.Proofs.YtogledmlbcmkjaaDoor
open Go.RowKit Go.Fk
end Go.Proofs.YtogledmlbcmkjaaDoor

/- The model's 'Decimal'. -/
namespace Go.Fk
open Go Go.RowKit
def oneB (d : Nat) : ByteArray := ⟨#[UInt8.ofNat d]⟩
theorem oneB_bytes {w : World} {b d : Nat} {t : TypeId} (h : Row w b t #[.int .u8 (d : Int)]) (hd : d < 256) : Lib.Bytes w b 0 (oneB d) := fun i hi => by
  have h1 : i < 1 := hi
  obtain rfl : i = 0 := by omega
  rw [Nat.zero_add, h.cell?]
  show some (Value.int .u8 (d : Int)) = some (Value.int .u8 (((UInt8.ofNat d).toNat : Nat) : Int))
  rw [show (UInt8.ofNat d).toNat = d by simp; omega]
theorem decT_small {n : Nat} (h : n < 10) : decT n = oneB (48 + n) := by unfold decT oneB; rw [Lib.decDigits_one h]
theorem decT_big {n : Nat} (h : ¬ n < 10) : decT (n / 10) ++ oneB (48 + n % 10) = decT n := by
  apply ba_ext
  unfold decT oneB
  conv => rhs; rw [Lib.decDigits, dif_neg h]
  simp
theorem nDigits_le : ∀ (k n : Nat), n < 10 ^ (k + 1) → Lib.nDigits n ≤ k + 1 := by
  intro k
  induction k with
  | zero => intro n h; rw [Lib.nDigits_small (by simpa using h)]; exact Nat.le_refl _
  | succ k ih =>
    intro n h
    by_cases h1 : n < 10
    · rw [Lib.nDigits_small h1]; omega
    · rw [Lib.nDigits, dif_neg h1]
      have := ih (n / 10) (by rw [Nat.pow_succ] at h; omega)
      omega
theorem decT_size (n : Nat) (h : n ≤ 9223372036854775807) : (decT n).size ≤ 19 := by
  have : (decT n).size = Lib.nDigits n := by rw [ba_size]; unfold decT; simp [Lib.decDigits_length]
  rw [this]
  exact nDigits_le 18 n (by omega)
section
variable {P : Program} {ops : Array Oper} {W : World} {K : FuncId → Array Value → World → Value → Prop} {Q : Act → World → Prop} {F : Facts} {k : Nat} {o : Oper} {rest : List Oper} {a : Act}
/-- An operation whose value hangs on what is known of the ones that it comes behind. -/
theorem wpFreeD_oneF (hg : o.guard = none) (v : Value) (hr : ∀ w, le W w → behind .any o F w → (execOp a.eval o).run P w = .ok (.value v) w)
    (h : wpFreeD leX P ops .any W K Q rest (k + 1) (a.put o.dst v) (F.with k (fun _ => True))) : wpFreeD leX P ops .any W K Q (o :: rest) k a F := by
  refine ⟨fun _ u => u = v, ⟨fun _ _ _ _ h => h, .inl ⟨by simp [Region.wanted, hg], fun w hw hbe => ?_⟩⟩, fun u hu => ?_⟩
  · rw [hr w hw hbe]; exact ⟨le_refl w, rfl⟩
  · obtain ⟨w, _, _, rfl⟩ := hu
    exact wpFreeD_weaken _ _ _ _ _ (fun e w h => ⟨h.1, fun _ => trivial⟩) h
end
end Go.Fk
namespace Go.Proofs.YtogledmlbcmkjaaDoor
open Go.RowKit Go.Fk
theorem infoU14 : (Tryd.prog.info? 5).map (fun i => (i.zero, i.size, i.bytes)) = some (some (.int .u8 0), 1, 1) := by kernel_rfl
theorem fillU1 (ti : TypeInfo) (p : Int) (h : ti.size = 1) : Instr.fill (fun i => some (i * ti.size, ti.size)) ((Array.range (1 * ti.size)).map ((.int .u8 0 : Value).cells[· % (.int .u8 0 : Value).cells.size]!)) (#[(0, .int .u8 p)] : Array (Nat × Value)).toList = some #[.int .u8 p] := by
  rw [h]
  have hr : Array.range (1 * 1) = #[0] := by decide
  rw [hr]
  simp [Instr.fill, Value.cells]
theorem mkU1 (p : Int) (w : World) : (Instr.buildSlice 83 1 #[(0, .int .u8 p)]).run Tryd.prog w = .ok (.slice (some ⟨w.heap.size, 0, none⟩) 1 1) (w.alloc (.cells #[.int .u8 p] 5)) := by
  have h := infoU14
  cases hi : Tryd.prog.info? 5 with
  | none => rw [hi] at h; simp at h
  | some i =>
    rw [hi] at h; simp at h
    exact run_buildSlice (P := Tryd.prog) w 83 5 1 _ _ i _ Tryd.underlying83 hi h.1 (by rw [h.2.1]; decide) (by rw [h.2.1]; decide) (fillU1 _ _ h.2.1)
theorem conv1 {w : World} {b d : Nat} {t : TypeId} (h : Row w b t #[.int .u8 (d : Int)]) (hd : d < 256) : (convert 83 9 (.slice (some ⟨b, 0, none⟩) 1 1)).run Tryd.prog w = .ok (.string (oneB d)) w := by
  have := Lib.run_convert_whole (P := Tryd.prog) w 83 5 9 Tryd.underlying83 Tryd.underlying5 Tryd.underlying9 b 0 (oneB d) (oneB_bytes h hd) 1
  exact this
set_option maxRecDepth 100000 in
set_option maxHeartbeats 4000000 in
theorem s_Decimal : ∀ (n : Nat), n ≤ 9223372036854775807 → ∀ w : World, Calls Tryd.prog 20 #[.int .i64 n] w fun e w' => e = .returned (.string (decT n)) ∧ le w w' := by
  intro n
  induction n using Nat.strongRecOn with
  | ind n ih =>
  intro hn w
  by_cases h10 : n < 10
  · have e1 := decT_small h10
    have hb := mkU1 ((48 : Int) + n) w
    have hR := Row.new w 5 #[.int .u8 (((48 + n : Nat) : Int))]
    have hc := conv1 hR (by omega)
    have e2 : (((48 + n : Nat) : Int)) = (48 : Int) + n := by omega
    rw [e2] at hc hR
    rw [e1]
    have HL := hid (le_alloc w (.cells #[.int .u8 ((48 : Int) + n)] 5))
    clear ih hR e1 e2
    go_enter Tryd.func20, Tryd.ntmps20
    go_wp2
    go_ret
    exact ⟨rfl, HL.out⟩
  · have IH := hid (ih (n / 10) (by omega) (by omega))
    have ez := decT_size (n / 10) (by omega)
    have EB := hid (decT_big h10)
    clear ih
    go_enter Tryd.func20, Tryd.ntmps20
    go_wp2_with fail
    have G := hid (le_drewN w 1)
    refine region_freeD (E := leX) (fun _ _ _ v => v = .string (decT (n / 10))) (by kernel_rfl) (by kernel_rfl) ?_
    refine wpFreeD_one rfl (.int .i64 n) (fun w1 _ => by kernel_rfl) ?_
    simp only [Act.put, List.setIfInBounds_toArray, List.set_cons_succ, List.set_cons_zero]
    refine wpFreeD_one rfl (.int .i64 ((n / 10 : Nat) : Int)) (fun w1 _ => ?_) ?_
    · first | (go_simp; done) | (go_simp; go_num; done) | (go_simp; exact Int.tmod_eq_emod_of_nonneg (by omega)) | (go_simp; simp [IntKind.wrap, IntKind.bits]; omega)
    simp only [Act.put, List.setIfInBounds_toArray, List.set_cons_succ, List.set_cons_zero]
    refine wpFreeD_callB rfl rfl Tryd.func20 (by kernel_rfl) (by kernel_rfl) (args := #[.int .i64 ((n / 10 : Nat) : Int)]) (by simp [Act.eval]) (fun v w1 w2 hw hv => hv) (fun w1 hw1 _ => (IH.out w1).mono ?_) ?_
    · rintro e w2 ⟨rfl, hl⟩
      exact ⟨_, rfl, hl, rfl⟩
    rintro v ⟨_, _, _, rfl⟩
    simp only [Act.put, List.setIfInBounds_toArray, List.set_cons_succ, List.set_cons_zero]
    refine wpFreeD_one rfl (.int .i64 n) (fun w1 _ => by kernel_rfl) ?_
    simp only [Act.put, List.setIfInBounds_toArray, List.set_cons_succ, List.set_cons_zero]
    refine wpFreeD_one rfl (.int .i64 ((n % 10 : Nat) : Int)) (fun w1 _ => ?_) ?_
    · first | (go_simp; done) | (go_simp; go_num; done) | (go_simp; exact Int.tmod_eq_emod_of_nonneg (by omega)) | (go_simp; simp [IntKind.wrap, IntKind.bits]; omega)
    simp only [Act.put, List.setIfInBounds_toArray, List.set_cons_succ, List.set_cons_zero]
    refine wpFreeD_one rfl (.int .i64 ((48 + n % 10 : Nat) : Int)) (fun w1 _ => ?_) ?_
    · first | (go_simp; done) | (go_simp; go_num; done) | (go_simp; exact Int.tmod_eq_emod_of_nonneg (by omega)) | (go_simp; simp [IntKind.wrap, IntKind.bits]; omega)
    simp only [Act.put, List.setIfInBounds_toArray, List.set_cons_succ, List.set_cons_zero]
    refine wpFreeD_one rfl (.int .u8 ((48 + n % 10 : Nat) : Int)) (fun w1 _ => ?_) ?_
    · first | (go_simp; done) | (go_simp; go_num; done) | (go_simp; exact Int.tmod_eq_emod_of_nonneg (by omega)) | (go_simp; simp [IntKind.wrap, IntKind.bits]; omega)
    simp only [Act.put, List.setIfInBounds_toArray, List.set_cons_succ, List.set_cons_zero]
    refine wpFreeD_newN rfl (fun q => .slice (some ⟨q, 0, none⟩) 1 1) (fun b b' h => by simpa using h) 5 #[.int .u8 ((48 + n % 10 : Nat) : Int)] (fun w1 => ?_) (fun q => ?_)
    · have hb := mkU1 ((48 + n % 10 : Nat) : Int) w1
      push_cast at hb
      simp [execOp, Act.eval, Result.andThen, hb]
    simp only [Act.put, List.setIfInBounds_toArray, List.set_cons_succ, List.set_cons_zero]
    refine wpFreeD_oneF rfl (.string (oneB (48 + n % 10))) (fun w1 hw1 hbe => ?_) ?_
    · obtain ⟨_, h2⟩ := (hbe ⟨7, Ground.data⟩ (by simp) (by kernel_rfl)).2 rfl
      have hc := conv1 h2 (by omega)
      simp [execOp, Act.eval, Result.andThen, hc]
    simp only [Act.put, List.setIfInBounds_toArray, List.set_cons_succ, List.set_cons_zero]
    refine wpFreeD_cat rfl rfl (s := decT (n / 10)) (r := oneB (48 + n % 10)) rfl rfl (by rw [show (oneB (48 + n % 10)).size = 1 from rfl]; omega) EB.out ?_
    simp only [Act.put, List.setIfInBounds_toArray, List.set_cons_succ, List.set_cons_zero]
    refine wpFreeD_one rfl (.string (decT n)) (fun w1 _ => by kernel_rfl) ?_
    simp only [Act.put, List.setIfInBounds_toArray, List.set_cons_succ, List.set_cons_zero]
    refine wpFreeD_nil (fun wR hwR _ => ?_)
    have HL := hid (le_trans G.out hwR)
    clear hwR
    go_wp2
    go_ret
    exact ⟨rfl, HL.out⟩
end Go.Proofs.YtogledmlbcmkjaaDoor

/- Events: what a valid list of them is, as the program and as the model see it. Nothing here names a program. -/
namespace Go.Fk
open Go Go.RowKit
def intC : CD → Int | .int _ z => z | _ => 0
def evA (x : Nat → CD) (k : Nat) : Int := intC (x (k * 6))
def evK (x : Nat → CD) (k : Nat) : Int := intC (x (k * 6 + 1))
def evN (x : Nat → CD) (k : Nat) : Int := intC (x (k * 6 + 2))
def evI (x : Nat → CD) (k : Nat) : Int := intC (x (k * 6 + 3))
def evY (x : Nat → CD) (k : Nat) : Int := intC (x (k * 6 + 4))
def evF (x : Nat → CD) (k : Nat) : Nat := (x (k * 6 + 5)).fx
/-- May an event stand in a score of m notes and I instruments? -/
def plB (m I a k n i y : Int) (f : Nat) : Bool := decide (0 ≤ a) && decide (a ≤ 100000) && decide (0 ≤ n) && decide (n < m) &&
  (if k = 2 then decide (0 ≤ i) && decide (i < I) && (decide (-100 ≤ y) && decide (y ≤ 100)) && fin f else if k = 1 then decide (i = 0) && decide (y = 0) && sameB f 0 else false)
def plE (m I : Int) (x : Nat → CD) (j : Nat) : Bool := plB m I (evA x j) (evK x j) (evN x j) (evI x j) (evY x j) (evF x j)
/-- What has happened last to a note, ahead of an event. -/
def laE (x : Nat → CD) : Nat → Int → Int
  | 0, _ => 0
  | j + 1, v => if evN x j = v then evK x j else laE x j v
def befK (k : Int) : Int := if k = 1 then 2 else 0
def stE (m I : Int) (x : Nat → CD) (j : Nat) : Bool := plE m I x j && decide (laE x j (evN x j) = befK (evK x j))
/-- When a note has started last, ahead of an event. -/
def saE (x : Nat → CD) : Nat → Int → Int
  | 0, _ => 0
  | j + 1, v => if evK x j = 2 ∧ evN x j = v then evA x j else saE x j v
/-- The four numbers of an event whose note starts at s. -/
def keyE (a k n s : Int) : List Int := if k = 2 then [a, 1, n, 0] else if s < a then [a, 0, n, 1] else [a, 1, n, 1]
def keyJ (x : Nat → CD) (n j : Nat) : List Int := keyE (evA x j) (evK x j) (evN x j) (saE x n (evN x j))
/-- The order of lists of numbers. -/
def ltL : List Int → List Int → Bool
  | a :: s, b :: t => if a = b then ltL s t else decide (a < b)
  | _, _ => false
def okE (m I : Int) (x : Nat → CD) (n : Nat) : Bool := decide (n % 2 = 0) && decide (n / 2 ≤ 64) && allB (stE m I x) n && allB (fun i => ltL (keyJ x n i) (keyJ x n (i + 1))) (n - 1)
theorem stE_kind {m I : Int} {x : Nat → CD} {j : Nat} (h : stE m I x j = true) : evK x j = 1 ∨ evK x j = 2 := by
  unfold stE plE plB at h
  simp only [Bool.and_eq_true] at h
  by_cases h2 : evK x j = 2
  · exact .inr h2
  · by_cases h1 : evK x j = 1
    · exact .inl h1
    · rw [if_neg h2, if_neg h1] at h; simp at h
theorem stE_last {m I : Int} {x : Nat → CD} {j : Nat} (h : stE m I x j = true) : laE x j (evN x j) = befK (evK x j) := by
  unfold stE at h
  simp only [Bool.and_eq_true, decide_eq_true_eq] at h
  exact h.2
theorem stE_note {m I : Int} {x : Nat → CD} {j : Nat} (h : stE m I x j = true) : 0 ≤ evN x j ∧ evN x j < m ∧ 0 ≤ evA x j ∧ evA x j ≤ 100000 := by
  unfold stE plE plB at h
  simp only [Bool.and_eq_true, decide_eq_true_eq] at h
  exact ⟨h.1.1.1.2, h.1.1.2, h.1.1.1.1.1, h.1.1.1.1.2⟩
/-- The last kind of a note is none, or one of both. -/
theorem laE_vals {m I : Int} {x : Nat → CD} {n : Nat} (h : ∀ j, j < n → stE m I x j = true) (v : Int) : ∀ j, j ≤ n → laE x j v = 0 ∨ laE x j v = 1 ∨ laE x j v = 2 := by
  intro j
  induction j with
  | zero => intro _; exact .inl rfl
  | succ j ih =>
    intro hj
    simp only [laE]
    split
    · rcases stE_kind (h j (by omega)) with e | e <;> simp [e]
    · exact ih (by omega)
/-- What has happened does not go away. -/
theorem laE_on {m I : Int} {x : Nat → CD} {n : Nat} (h : ∀ j, j < n → stE m I x j = true) {i : Nat} : ∀ j, i < j → j ≤ n → laE x j (evN x i) ≠ 0 ∧ (evK x i = 1 → laE x j (evN x i) = 1) := by
  intro j
  induction j with
  | zero => intro hi; omega
  | succ j ih =>
    intro hi hj
    have hk := stE_kind (h j (by omega))
    by_cases e : i = j
    · subst e
      simp only [laE, if_true]
      exact ⟨by omega, fun h => h⟩
    · obtain ⟨h1, h2⟩ := ih (by omega) (by omega)
      simp only [laE]
      split
      · rename_i hv
        have hl := stE_last (h j (by omega))
        rw [hv] at hl
        refine ⟨by omega, fun k1 => ?_⟩
        rw [h2 k1] at hl
        unfold befK at hl
        split at hl <;> omega
      · exact ⟨h1, h2⟩
/-- Two events of one note and of one kind are one event. -/
theorem ev_uniq {m I : Int} {x : Nat → CD} {n : Nat} (h : ∀ j, j < n → stE m I x j = true) {i j : Nat} (hij : i < j) (hj : j < n) (hv : evN x i = evN x j) (hk : evK x i = evK x j) : False := by
  obtain ⟨h1, h2⟩ := laE_on h j hij (by omega)
  have hl := stE_last (h j hj)
  rw [← hv] at hl
  rcases stE_kind (h j hj) with e | e
  · rw [h2 (by omega)] at hl
    rw [e] at hl
    simp [befK] at hl
  · rw [e] at hl
    simp [befK] at hl
    exact h1 hl
theorem ev_uniq' {m I : Int} {x : Nat → CD} {n : Nat} (h : ∀ j, j < n → stE m I x j = true) {i j : Nat} (hi : i < n) (hj : j < n) (hv : evN x i = evN x j) (hk : evK x i = evK x j) : i = j := by
  rcases Nat.lt_trichotomy i j with h1 | h1 | h1
  · exact (ev_uniq h h1 hj hv hk).elim
  · exact h1
  · exact (ev_uniq h h1 hi hv.symm hk.symm).elim
theorem saE_of {x : Nat → CD} {n : Nat} {v a : Int} (hu : ∀ i, i < n → evK x i = 2 → evN x i = v → evA x i = a) {i : Nat} (hi : i < n) (hk : evK x i = 2) (hv : evN x i = v) : saE x n v = a := by
  induction n with
  | zero => omega
  | succ n ih =>
    simp only [saE]
    split
    · rename_i hh; exact hu n (by omega) hh.1 hh.2
    · rename_i hh
      by_cases e : i = n
      · subst e; exact absurd ⟨hk, hv⟩ hh
      · exact ih (fun i hi => hu i (by omega)) (by omega)
/-- The note of an event has started with it or ahead of it. -/
theorem ev_start {m I : Int} {x : Nat → CD} {n : Nat} (h : ∀ j, j < n → stE m I x j = true) {j : Nat} (hj : j < n) : ∃ i, i ≤ j ∧ evK x i = 2 ∧ evN x i = evN x j := by
  rcases stE_kind (h j hj) with e | e
  · have hl := stE_last (h j hj)
    rw [e, show befK 1 = 2 from rfl] at hl
    have key : ∀ k v, laE x k v = 2 → ∃ i, i < k ∧ evK x i = 2 ∧ evN x i = v := by
      intro k v
      induction k with
      | zero => intro hh; simp [laE] at hh
      | succ k ih =>
        intro hh
        simp only [laE] at hh
        split at hh
        · rename_i hv; exact ⟨k, by omega, hh, hv⟩
        · obtain ⟨i, a, b⟩ := ih hh; exact ⟨i, by omega, b⟩
    obtain ⟨i, a, b, c⟩ := key j _ hl
    exact ⟨i, by omega, b, c⟩
  · exact ⟨j, Nat.le_refl _, e, rfl⟩
/-- The first start of a note is its only one. -/
theorem sa_first {m I : Int} {x : Nat → CD} {n : Nat} (h : ∀ j, j < n → stE m I x j = true) {i : Nat} (hi : i < n) (hk : evK x i = 2) : saE x n (evN x i) = evA x i :=
  saE_of (fun q hq k2 hv => by rw [ev_uniq' h hq hi hv (k2.trans hk.symm)]) hi hk rfl
theorem ltL_asymm : ∀ {s t : List Int}, ltL s t = true → ltL t s = false := by
  intro s
  induction s with
  | nil => intro t h; cases t <;> simp [ltL] at h
  | cons a s ih =>
    intro t h
    cases t with
    | nil => simp [ltL] at h
    | cons b t =>
      simp only [ltL] at h ⊢
      by_cases e : a = b
      · subst e; simp at h ⊢; exact ih h
      · rw [if_neg e] at h; rw [if_neg (fun e2 => e e2.symm)]
        simp at h ⊢; omega
theorem ltL_total : ∀ {s t : List Int}, s.length = t.length → ltL s t = false → ltL t s = false → s = t := by
  intro s
  induction s with
  | nil => intro t h _ _; cases t with
    | nil => rfl
    | cons => simp at h
  | cons a s ih =>
    intro t h h1 h2
    cases t with
    | nil => simp at h
    | cons b t =>
      simp only [ltL] at h1 h2
      by_cases e : a = b
      · subst e; simp at h1 h2 h; rw [ih h h1 h2]
      · rw [if_neg e] at h1; rw [if_neg (fun e2 => e e2.symm)] at h2
        simp at h1 h2; omega
theorem keyE_len (a k n s : Int) : (keyE a k n s).length = 4 := by unfold keyE; split <;> (try split) <;> rfl
theorem keyE_eq {a k n s a' k' n' s' : Int} (h : keyE a k n s = keyE a' k' n' s') (hk : k = 1 ∨ k = 2) (hk' : k' = 1 ∨ k' = 2) : n = n' ∧ k = k' := by
  unfold keyE at h
  rcases hk with rfl | rfl <;> rcases hk' with rfl | rfl <;> simp at h <;> (try split at h) <;> (try split at h) <;> simp_all
/-- In order, or strictly in order, is one where the events are those of notes. -/
theorem ok_strict {m I : Int} {x : Nat → CD} {n : Nat} (h : allB (stE m I x) n = true) : allB (fun i => ltL (keyJ x n i) (keyJ x n (i + 1))) (n - 1) = allB (fun i => !ltL (keyJ x n (i + 1)) (keyJ x n i)) (n - 1) := by
  have hs := allB_all h
  rw [Bool.eq_iff_iff]
  constructor
  · intro h1; exact allB_yes (fun i hi => by rw [ltL_asymm (allB_all h1 i hi)]; rfl)
  · intro h1
    refine allB_yes (fun i hi => ?_)
    have h2 := allB_all h1 i hi
    simp only [Bool.not_eq_true'] at h2
    cases h3 : ltL (keyJ x n i) (keyJ x n (i + 1))
    · have e := ltL_total ((keyE_len ..).trans (keyE_len ..).symm) h3 h2
      obtain ⟨e1, e2⟩ := keyE_eq e (stE_kind (hs i (by omega))) (stE_kind (hs (i + 1) (by omega)))
      exact (ev_uniq hs (Nat.lt_succ_self i) (by omega) e1 e2).elim
    · rfl
/-- A list of events. -/
def EvsOk (x : Nat → CD) (n : Nat) : Prop := ∀ k, k < n → x (k * 6) = .int .i64 (evA x k) ∧ x (k * 6 + 1) = .int .i64 (evK x k) ∧ x (k * 6 + 2) = .int .i64 (evN x k) ∧ x (k * 6 + 3) = .int .i64 (evI x k) ∧ x (k * 6 + 4) = .int .i64 (evY x k) ∧ (x (k * 6 + 5)).flk = some .f32
/-- The cells of an event in a list. -/
theorem EvsOk.vals {x : Nat → CD} {n k B b o cap : Nat} {w : World} (h : EvsOk x n) (hr : (CD.sl 6 n x).RdN w B (.slice (some ⟨b, o, none⟩) n cap)) (hk : k < n) : ∃ y, fits .f32 y ∧ can .f32 y = evF x k ∧
    ((Lit.int .i64 (evA x k)).wf = true ∧ (Lit.int .i64 (evK x k)).wf = true ∧ (Lit.int .i64 (evN x k)).wf = true ∧ (Lit.int .i64 (evI x k)).wf = true ∧ (Lit.int .i64 (evY x k)).wf = true) ∧
    (∀ j v, [Value.int .i64 (evA x k), .int .i64 (evK x k), .int .i64 (evN x k), .int .i64 (evI x k), .int .i64 (evY x k), .float .f32 y][j]? = some v → w.cell? ((⟨b, o + k * 6, none⟩ : Addr).add j) = some v) := by
  obtain ⟨e0, e1, e2, e3, e4, e5⟩ := h k hk
  obtain ⟨u0, c0, r0⟩ := hr.cell (i := k * 6) (by omega)
  obtain ⟨u1, c1, r1⟩ := hr.cell (i := k * 6 + 1) (by omega)
  obtain ⟨u2, c2, r2⟩ := hr.cell (i := k * 6 + 2) (by omega)
  obtain ⟨u3, c3, r3⟩ := hr.cell (i := k * 6 + 3) (by omega)
  obtain ⟨u4, c4, r4⟩ := hr.cell (i := k * 6 + 4) (by omega)
  obtain ⟨u5, c5, r5⟩ := hr.cell (i := k * 6 + 5) (by omega)
  rw [e0] at r0; rw [e1] at r1; rw [e2] at r2; rw [e3] at r3; rw [e4] at r4
  obtain ⟨rfl, w0⟩ := r0; obtain ⟨rfl, w1⟩ := r1; obtain ⟨rfl, w2⟩ := r2; obtain ⟨rfl, w3⟩ := r3; obtain ⟨rfl, w4⟩ := r4
  obtain ⟨y, rfl, f1, f2⟩ := r5.rd.fl e5
  refine ⟨y, f1, f2, ⟨w0, w1, w2, w3, w4⟩, fun j v hv => ?_⟩
  rw [add_none]
  match j, hv with
  | 0, hv => simp at hv; subst hv; exact c0
  | 1, hv => simp at hv; subst hv; rw [Nat.add_assoc]; exact c1
  | 2, hv => simp at hv; subst hv; rw [Nat.add_assoc]; exact c2
  | 3, hv => simp at hv; subst hv; rw [Nat.add_assoc]; exact c3
  | 4, hv => simp at hv; subst hv; rw [Nat.add_assoc]; exact c4
  | 5, hv => simp at hv; subst hv; rw [Nat.add_assoc]; exact c5
theorem evs_ok {x : Nat → CD} {n : Nat} {e : Nat → Sh} (h : ∀ i, i < n → ∀ j, j < 6 → ShOk (e j) (x (i * 6 + j))) (h0 : e 0 = .int .i64) (h1 : e 1 = .int .i64) (h2 : e 2 = .int .i64) (h3 : e 3 = .int .i64) (h4 : e 4 = .int .i64) (h5 : e 5 = .flt .f32) : EvsOk x n := fun k hk => by
  have a0 := h k hk 0 (by omega); have a1 := h k hk 1 (by omega); have a2 := h k hk 2 (by omega); have a3 := h k hk 3 (by omega); have a4 := h k hk 4 (by omega); have a5 := h k hk 5 (by omega)
  rw [h0] at a0; rw [h1] at a1; rw [h2] at a2; rw [h3] at a3; rw [h4] at a4; rw [h5] at a5
  obtain ⟨z0, e0⟩ := a0; obtain ⟨z1, e1⟩ := a1; obtain ⟨z2, e2⟩ := a2; obtain ⟨z3, e3⟩ := a3; obtain ⟨z4, e4⟩ := a4
  rw [Nat.add_zero] at e0
  refine ⟨?_, ?_, ?_, ?_, ?_, a5⟩
  · unfold evA; rw [e0]; rfl
  · unfold evK; rw [e1]; rfl
  · unfold evN; rw [e2]; rfl
  · unfold evI; rw [e3]; rfl
  · unfold evY; rw [e4]; rfl
end Go.Fk
