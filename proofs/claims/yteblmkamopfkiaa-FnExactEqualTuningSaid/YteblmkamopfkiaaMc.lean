/- Texts of the walk, laid in one file. -/
import Derived.StillTail
import Derived.OwnWalk
import Derived.ArgAppend
import Derived.Great.BuildSlice
import Derived.LoopN
import Derived.Test.YteblmkamopfkiaaRows
import Derived.Handy
import Derived.Test.YteblmkamopfkiaaMb
set_option linter.unusedVariables false
set_option linter.unusedSimpArgs false
/- Marks: what the laws write into memory that one owns, by trees of data. Nothing here names a program. -/
namespace Go.Fk
open Go Go.RowKit
/-- How many marks an element takes. -/
def CD.mkE : CD → Nat
  | .sl wd n x => sumTo (fun i => (x i).mkE) (n * wd)
  | _ => 1
/-- What an element is behind them. -/
def CD.mk : CD → Int → CD
  | .int k _, z => .int k z
  | .flt k _, z => .fcn k (floatOfInt k z)
  | .fcn k _, z => .fcn k (floatOfInt k z)
  | .sl wd n x, z => .sl wd n (fun i => (x i).mk (z + (sumTo (fun j => (x j).mkE) i : Nat)))
  | c, _ => c
/-- The same for a cell that comes as a value: only what it leads to is marked. -/
def CD.mt : CD → Nat
  | .sl wd n x => (CD.sl wd n x).mkE
  | _ => 0
def CD.mkT : CD → Int → CD
  | .sl wd n x, z => (CD.sl wd n x).mk z
  | c, _ => c
def mtL : List CD → Nat
  | [] => 0
  | c :: cs => c.mt + mtL cs
def mkL : List CD → Int → List CD
  | [], _ => []
  | c :: cs, z => c.mkT z :: mkL cs (z + (c.mt : Nat))
theorem mtL_append (a b : List CD) : mtL (a ++ b) = mtL a + mtL b := by
  induction a with
  | nil => simp [mtL]
  | cons c a ih => simp only [List.cons_append, mtL, ih]; omega
theorem mkL_append (a b : List CD) : ∀ z : Int, mkL (a ++ b) z = mkL a z ++ mkL b (z + (mtL a : Nat)) := by
  induction a with
  | nil => intro z; simp [mkL, mtL]
  | cons c a ih => intro z; simp only [List.cons_append, mkL, ih, mtL]; congr 3; push_cast; omega
theorem mkL_length (a : List CD) : ∀ z : Int, (mkL a z).length = a.length := by
  induction a with
  | nil => intro z; rfl
  | cons c a ih => intro z; simp [mkL, ih]
theorem CD.mt_fl {c : CD} {k : FloatKind} (h : c.flk = some k) : c.mt = 0 := by
  cases c <;> simp [CD.flk] at h <;> rfl
theorem CD.mkT_fl {c : CD} {k : FloatKind} (h : c.flk = some k) (z : Int) : c.mkT z = c := by
  cases c <;> simp [CD.flk] at h <;> rfl
theorem mkE_flts {n : Nat} {x : Nat → CD} (h : ∀ i, i < n → (x i).flk = some .f32) {m : Nat} (hm : m ≤ n) : sumTo (fun i => (x i).mkE) m = m := by
  induction m with
  | zero => rfl
  | succ m ih =>
    simp only [sumTo]
    rw [ih (by omega)]
    have := h m (by omega)
    cases hx : x m <;> rw [hx] at this <;> simp [CD.flk] at this <;> rfl
theorem CD.mt_flts {n : Nat} {x : Nat → CD} (h : ∀ i, i < n → (x i).flk = some .f32) : (CD.sl 1 n x).mt = n := by
  simp only [CD.mt, CD.mkE, Nat.mul_one]
  exact mkE_flts h (Nat.le_refl _)
/-- A slice of floats, marked. -/
theorem CD.mk_flts {n : Nat} {x : Nat → CD} (h : ∀ i, i < n → (x i).flk = some .f32) (z : Int) : (CD.sl 1 n (fun i => .fcn .f32 (markW z i))).Eqv ((CD.sl 1 n x).mkT z) := by
  refine ⟨_, rfl, fun i hi => ?_⟩
  have hi' : i < n := by simpa using hi
  have hf := h i hi'
  rw [mkE_flts h (by omega)]
  cases hx : x i <;> rw [hx] at hf <;> simp [CD.flk] at hf <;> subst hf <;> exact CD.Eqv.refl _
theorem CD.Eqv.symm : ∀ {c d : CD}, c.Eqv d → d.Eqv c := by
  intro c
  induction c with
  | sl wd n x ih => intro d h; obtain ⟨y, rfl, hy⟩ := h; exact ⟨x, rfl, fun i hi => ih i (hy i hi)⟩
  | _ => intro d h; cases h; rfl
/-- A cell that does not lead to memory. -/
def CD.noS (c : CD) : Prop := ∀ wd n x, c ≠ .sl wd n x
theorem CD.noS.mt {c : CD} (h : c.noS) : c.mt = 0 := by
  cases c with
  | sl wd n x => exact absurd rfl (h wd n x)
  | _ => rfl
theorem CD.noS.mkT {c : CD} (h : c.noS) (z : Int) : c.mkT z = c := by
  cases c with
  | sl wd n x => exact absurd rfl (h wd n x)
  | _ => rfl
theorem noS_fl {c : CD} {k : FloatKind} (h : c.flk = some k) : c.noS := flk_ne h
theorem noS_int {k : IntKind} {z : Int} : (CD.int k z).noS := by intro a b c e; cases e
theorem noS_bool {b : Bool} : (CD.bool b).noS := by intro a b c e; cases e
theorem noS_str {b : ByteArray} : (CD.str b).noS := by intro a b c e; cases e
theorem noL_nil : ∀ c ∈ ([] : List CD), c.noS := fun c h => by cases h
theorem noL_cons {c : CD} {cs : List CD} (h : c.noS) (hs : ∀ d ∈ cs, d.noS) : ∀ d ∈ c :: cs, d.noS := fun d hd => by
  rcases List.mem_cons.1 hd with rfl | hd
  · exact h
  · exact hs d hd
theorem mkL_leaf {cs : List CD} (h : ∀ c ∈ cs, c.noS) : mtL cs = 0 ∧ ∀ z, mkL cs z = cs := by
  induction cs with
  | nil => exact ⟨rfl, fun _ => rfl⟩
  | cons c cs ih =>
    obtain ⟨h1, h2⟩ := ih (fun d hd => h d (List.mem_cons_of_mem _ hd))
    have h0 := h c List.mem_cons_self
    exact ⟨by simp [mtL, h0.mt, h1], fun z => by simp [mkL, h0.mkT, h2]⟩
theorem mkL_leaf_end {a cs : List CD} (h : ∀ c ∈ cs, c.noS) (z : Int) : mkL (a ++ cs) z = mkL a z ++ cs := by
  rw [mkL_append, (mkL_leaf h).2]
theorem LayL.atz {w : World} {S : Nat → Prop} {cs : List CD} {vs : List Value} {z z' : Int} (h : LayL w S (mkL cs z) vs) (e : z = z') : LayL w S (mkL cs z') vs := e ▸ h
theorem RdL.atz {w : World} {B : Nat} {cs : List CD} {vs : List Value} {z z' : Int} (h : RdL w B (mkL cs z) vs) (e : z = z') : RdL w B (mkL cs z') vs := e ▸ h
/-- What does not lead to memory stands anywhere. -/
theorem LayL.leafs {w w' : World} {S S' : Nat → Prop} {cs : List CD} {vs : List Value} (hc : ∀ c ∈ cs, c.noS) (h : LayL w S cs vs) (z : Int) : LayL w' S' (mkL cs z) vs := by
  rw [(mkL_leaf hc).2]
  obtain ⟨h0, T, t1, t2, t3⟩ := h
  refine ⟨h0, fun _ _ => False, fun _ _ h => h.elim, fun _ _ _ h => h.elim, fun i v c hv hc' => ?_⟩
  have h1 := t3 i v c hv hc'
  have h2 := hc c (List.mem_of_getElem? hc')
  cases c with
  | sl wd n x => exact absurd rfl (h2 wd n x)
  | _ => exact h1
theorem RdL.leafs {w : World} {B : Nat} {cs : List CD} {vs : List Value} {z : Int} (hc : ∀ c ∈ cs, c.noS) (h : RdL w B (mkL cs z) vs) : RdL w B cs vs := by
  rwa [(mkL_leaf hc).2] at h
theorem LayL.lt {w : World} {S : Nat → Prop} {cs : List CD} {vs : List Value} (h : LayL w S cs vs) : LayL w (fun j => S j ∧ j < w.heap.size) cs vs := by
  obtain ⟨h0, T, t1, t2, t3⟩ := h
  exact ⟨h0, fun i j => T i j ∧ j < w.heap.size, fun i j h => ⟨t1 i j h.1, h.2⟩, fun i i' j a b => t2 i i' j a.1 b.1, fun i v c hv hc => (t3 i v c hv hc).lt⟩
theorem LayL.split {w : World} {S : Nat → Prop} {a b : List CD} {vs : List Value} (h : LayL w S (a ++ b) vs) : ∃ va vb S1 S2, vs = va ++ vb ∧ LayL w S1 a va ∧ LayL w S2 b vb ∧ (∀ j, S1 j → S j) ∧ (∀ j, S2 j → S j) ∧ (∀ j, S1 j → S2 j → False) := by
  obtain ⟨h0, T, t1, t2, t3⟩ := h
  have hl : vs.length = a.length + b.length := by simpa using h0
  refine ⟨vs.take a.length, vs.drop a.length, fun j => ∃ i, i < a.length ∧ T i j, fun j => ∃ i, T (a.length + i) j, (List.take_append_drop _ _).symm, ⟨by simp; omega, fun i j => i < a.length ∧ T i j, fun i j h => ⟨i, h⟩, fun i i' j x y => t2 i i' j x.2 y.2, fun i v c hv hc => ?_⟩, ⟨by simp; omega, fun i j => T (a.length + i) j, fun i j h => ⟨i, h⟩, fun i i' j x y => by have := t2 _ _ j x y; omega, fun i v c hv hc => ?_⟩, fun j ⟨i, h⟩ => t1 i j h.2, fun j ⟨i, h⟩ => t1 _ j h, fun j ⟨i, h⟩ ⟨i', h'⟩ => by have := t2 _ _ j h.2 h'; omega⟩
  · have hi : i < a.length := (List.getElem?_eq_some_iff.1 hc).1
    refine (t3 i v c (by rw [List.getElem?_take] at hv; simpa [hi] using hv) (by rw [List.getElem?_append_left hi]; exact hc)).mono (fun j hj => ⟨hi, hj⟩)
  · exact t3 (a.length + i) v c (by rw [List.getElem?_drop] at hv; exact hv) (by rw [List.getElem?_append_right (by omega)]; simpa using hc)
theorem RdL.split {w : World} {B : Nat} {a b : List CD} {vs : List Value} (h : RdL w B (a ++ b) vs) : ∃ va vb, vs = va ++ vb ∧ RdL w B a va ∧ RdL w B b vb := by
  obtain ⟨h0, h1⟩ := h
  have hl : vs.length = a.length + b.length := by simpa using h0
  refine ⟨vs.take a.length, vs.drop a.length, (List.take_append_drop _ _).symm, ⟨by simp; omega, fun i v c hv hc => ?_⟩, ⟨by simp; omega, fun i v c hv hc => ?_⟩⟩
  · have hi : i < a.length := (List.getElem?_eq_some_iff.1 hc).1
    exact h1 i v c (by rw [List.getElem?_take] at hv; simpa [hi] using hv) (by rw [List.getElem?_append_left hi]; exact hc)
  · exact h1 (a.length + i) v c (by rw [List.getElem?_drop] at hv; exact hv) (by rw [List.getElem?_append_right (by omega)]; simpa using hc)
/-- What lies apart from what has turned, stands. -/
theorem LayL.apart {w w' : World} {S T : Nat → Prop} {cs : List CD} {vs : List Value} (h : LayL w S cs vs) (k : Chg T w w') (hd : ∀ j, S j → T j → False) : LayL w' S cs vs :=
  (h.lt.ok (fun j hj => k.block j hj.2 (fun hT => hd j hj.1 hT))).mono (fun _ hj => hj.1)
/-- The frame over a base in which older blocks have turned as well. -/
theorem Frg.rebase {w0 w w' : World} {L : List Fact} (h : Frg w0 w L) {S : Nat → Prop} (k : Chg S w w') (hS : ∀ j, S j → j < w0.heap.size) : ∃ wb, Frg wb w' L ∧ Chg S w0 wb ∧ wb.heap.size = w0.heap.size ∧ ∀ j, j < w0.heap.size → wb.heap[j]? = w'.heap[j]? := by
  have hz : w0.heap.size ≤ w'.heap.size := Nat.le_trans h.below.size k.size
  have hh : ∀ j, j < w0.heap.size → (w'.heap.extract 0 w0.heap.size)[j]? = w'.heap[j]? := fun j hj => by
    rw [Array.getElem?_extract]; simp; intro hq; omega
  have hs : (w'.heap.extract 0 w0.heap.size).size = w0.heap.size := by simp; omega
  refine ⟨{ w' with heap := w'.heap.extract 0 w0.heap.size }, ⟨⟨rfl, rfl, rfl, by show _ ≤ _; rw [hs]; exact hz, fun j hj => ?_⟩, fun e he => ?_, h.apart⟩, ⟨k.os.trans h.below.os, k.tape.trans h.below.tape, k.output.trans h.below.output, by show _ ≤ _; rw [hs]; exact Nat.le_refl _, fun j hj hn => ?_⟩, hs, hh⟩
  · have hj' : j < w0.heap.size := by have : j < (w'.heap.extract 0 w0.heap.size).size := hj; omega
    exact (hh j hj').symm
  · obtain ⟨h1, h2, h3⟩ := h.facts e he
    refine ⟨by show _ ≤ _; rw [hs]; exact h1, Nat.le_trans h2 k.size, e.ok w w' h3 (fun i hi1 hi2 => k.block i (by omega) (fun hq => by have := hS i hq; omega))⟩
  · show (w'.heap.extract 0 w0.heap.size)[j]? = w0.heap[j]?
    rw [hh j hj, k.block j (Nat.lt_of_lt_of_le hj h.below.size) hn, h.below.block j hj]
/-- A fact, by its place in the list, is turned. -/
theorem Frg.markAt {w0 w w' : World} {L : List Fact} (i : Nat) {lo hi : Nat} {cs cs' : List CD} {us : List Value} (h : Frg w0 w L) (hp : LayL w' (rng lo hi) cs' us) (k : Chg (rng lo hi) w w') (hi' : L[i]? = some (layF lo hi cs us)) : Frg w0 w' (L.set i (layF lo hi cs' us)) := by
  obtain ⟨hlt, he⟩ := List.getElem?_eq_some_iff.1 hi'
  have e1 : L = L.take i ++ layF lo hi cs us :: L.drop (i + 1) := by
    rw [← he, List.getElem_cons_drop, List.take_append_drop]
  have e2 : L.set i (layF lo hi cs' us) = L.take i ++ layF lo hi cs' us :: L.drop (i + 1) := List.set_eq_take_append_cons_drop.trans (if_pos hlt)
  rw [e2]
  rw [e1] at h
  exact Frg.chg _ (e' := layF lo hi cs' us) h k hp rfl rfl
theorem mkE_cn : ∀ c : CD, c.cn.mkE = c.mkE := by
  intro c
  induction c with
  | sl wd n x ih => simp only [CD.cn, CD.mkE]; congr 1; funext i; exact ih i
  | _ => rfl
theorem mt_cp (c : CD) : c.cp.mt = c.mt := by
  cases c with
  | sl wd n x => exact mkE_cn (.sl wd n x)
  | _ => rfl
theorem mtL_cp (cs : List CD) : mtL (cs.map CD.cp) = mtL cs := by
  induction cs with
  | nil => rfl
  | cons c cs ih => simp only [List.map_cons, mtL, mt_cp, ih]
end Go.Fk
namespace Go.Proofs.Yteblmkamopfkiaa
open Go.RowKit Go.Fk
set_option maxHeartbeats 1000000 in
theorem markU_Float32S (S : Nat → Prop) (n : Nat) (x : Nat → CD) (s : Value) (z : Int) (w : World) (hn : mtL [CD.sl 1 n x] ≤ 1048576) (hz : 0 ≤ z) (hz2 : z ≤ 1073741824) (hx : ∀ i, i < n → ∀ j, j < 1 → ShOk ([Sh.flt .f32].getD j .bool) (x (i * 1 + j))) (hs : LayL w S [.sl 1 n x] [s]) :
    Calls Try.prog 44 #[s, .int .i64 z] w fun e w' => e = .returned (.int .i64 (z + (mtL [CD.sl 1 n x] : Nat))) ∧ LayL w' S (mkL [.sl 1 n x] z) [s] ∧ Chg S w w' := by
  have hx' := ShOk.flts hx rfl
  have em : mtL [CD.sl 1 n x] = n := by simp only [mtL, CD.mt_flts hx']; omega
  rw [em] at hn ⊢
  obtain ⟨v, vs, S1, S2, e0, hl, _, hS, _, _⟩ := hs.inv
  obtain ⟨rfl, rfl⟩ : s = v ∧ [] = vs := by simpa using e0
  have key : ∀ w', (CD.sl 1 n (fun i => .fcn .f32 (markW z i))).Lay w' S1 s → LayL w' S (mkL [.sl 1 n x] z) [s] := fun w' h => LayL.cons (h.congr (CD.mk_flts hx' z)) (LayL.nil _ (fun _ => False)) hS (fun _ h => h.elim) (fun _ _ h => h)
  have KEY := hid key; clear key e0 hs em
  rcases hl with ⟨rfl, rfl⟩ | ⟨b, o, cap, t, cs, rfl, hc, hg, hb, hr, T, t1, t2, t3⟩
  · go_enter Try.func44, Try.ntmps44
    go_wp2
    go_loop [1, 5] (fun m i => m = .int .i64 z ∧ i = .int .i64 0) (fun _ _ => 0)
    case atStart => exact ⟨rfl, rfl⟩
    case round =>
      obtain ⟨rfl, rfl⟩ := hrel
      go_wp2
      go_ret
      exact ⟨ret_i (by simp), KEY.out _ (.inl ⟨rfl, rfl⟩), Chg.refl _ _⟩
  · have hxx : ∀ j, j < n → ∃ y, cs[o + j]? = some (.float .f32 y) ∧ fits .f32 y := fun j hj => by
      obtain ⟨u, hu, hl⟩ := t3 j (by simpa using hj)
      have hl' : (x j).Rd w (w.heap.size) u := hl.lt.rd (fun j hj => hj.2)
      obtain ⟨y, rfl, e2, e3⟩ := hl'.fl (hx' j hj)
      exact ⟨y, hu, e2⟩
    have HR := hid hr; have HX := hid hxx; have HB := hid (hS b hb); have HS := hid hb; clear hr hx hxx t1 t2 t3 T hb hx'
    go_enter Try.func44, Try.ntmps44
    go_wp2
    go_loopw [1, 5] (fun m i wr => ∃ k : Nat, k ≤ n ∧ i = .int .i64 k ∧ m = .int .i64 (z + k) ∧ Hid (∃ ds, Row wr b t ds ∧ ∀ j, j < n → ∃ y, ds[o + j]? = some (.float .f32 y) ∧ fits .f32 y ∧ (j < k → can .f32 y = markW z j)) ∧ Hid (Chg S w wr)) (fun _ i _ => n - (intOf i).toNat)
    case atStart => exact ⟨0, by omega, rfl, by simp, ⟨cs, HR.out, fun j hj => by obtain ⟨y, e1, e2⟩ := HX.out j hj; exact ⟨y, e1, e2, fun h => absurd h (by omega)⟩⟩, Chg.refl _ _⟩
    case round =>
      obtain ⟨k, hk, rfl, rfl, HO, HU⟩ := hrel
      by_cases hlt : k < n
      · rename_i wr _
        obtain ⟨ds, hd, hy⟩ := HO.out
        obtain ⟨y0, c0, _⟩ := hy k hlt
        have c2 : wr.cell? ⟨b, o + k, none⟩ = some (.float .f32 y0) := (hd.cell? (o + k)).trans c0
        have f2 := hd.frozen (o + k)
        have HD := hid hd; have HY := hid hy; have HC := hid c0
        clear hd hy c0 HO
        go_wp2
        go_roundw
        case rel =>
          refine ⟨k + 1, by omega, by go_num, by go_num, ⟨_, HD.out.set (o + k) (.float .f32 (markW z k)), fun j hj => ?_⟩, Chg.setCell HU.out HB.out _⟩
          by_cases e : j = k
          · subst e
            refine ⟨markW z j, ?_, ?_, fun _ => ?_⟩
            · rw [Array.getElem?_setIfInBounds_self_of_lt (Array.getElem?_eq_some_iff.1 HC.out).1]
            · exact floatOfInt_wf .f32 _
            · exact can_int _
          · obtain ⟨y, e1, e2, e3⟩ := HY.out j hj
            exact ⟨y, by rw [Array.getElem?_setIfInBounds_ne (by omega)]; exact e1, e2, fun h => e3 (by omega)⟩
        case measure => simp [intOf]; omega
      · obtain rfl : k = n := by omega
        go_wp2
        go_ret
        obtain ⟨ds, hd, hy⟩ := HO.out
        exact ⟨rfl, KEY.out _ (.inr ⟨b, o, cap, t, ds, rfl, hc, hg, HS.out, hd, fun _ _ => False, fun _ _ h => h.elim, fun _ _ _ h => h.elim, fun j hj => by obtain ⟨y, e1, e2, e3⟩ := hy j (by simpa using hj); exact ⟨_, e1, y, rfl, e2, e3 (by simpa using hj)⟩⟩), HU.out⟩
theorem heldU_Float32S (B n : Nat) (x : Nat → CD) (s : Value) (z : Int) (w : World) (hn : mtL [CD.sl 1 n x] ≤ 1048576) (hz : 0 ≤ z) (hz2 : z ≤ 1073741824) (hx : ∀ i, i < n → ∀ j, j < 1 → ShOk ([Sh.flt .f32].getD j .bool) (x (i * 1 + j))) (hs : RdL w B (mkL [.sl 1 n x] z) [s]) :
    Calls Try.prog 45 #[s, .int .i64 z] w fun e w' => e = .returned (.int .i64 (z + (mtL [CD.sl 1 n x] : Nat))) ∧ le w w' := by
  have hx' := ShOk.flts hx rfl
  have em : mtL [CD.sl 1 n x] = n := by simp only [mtL, CD.mt_flts hx']; omega
  rw [em] at hn ⊢
  have h0 := hs.2 0 s _ rfl rfl
  exact (heldR B s n z w hn hz hz2 (h0.congr (CD.mk_flts hx' z).symm).rds).mono (fun e w' ⟨h1, h2⟩ => ⟨h1, h2 ▸ le_refl _⟩)
end Go.Proofs.Yteblmkamopfkiaa

/- What functions give that make a struct with memory of its own. Nothing here names a program. -/
namespace Go.Fk
open Go Go.RowKit
def OutV_Ti (ar0 : List CD) (ar1 : Int) (w : World) (e : Ending) (w' : World) : Prop := ∃ (us : List Value), e = .returned (.tuple #[.agg us.toArray, .int .i64 ar1]) ∧ LayL w' (rng w.heap.size w'.heap.size) ar0 us ∧ le w w'
def OutV_Tfi (ar0 : List CD) (ar1 : Nat) (ar2 : Int) (w : World) (e : Ending) (w' : World) : Prop := ∃ (us : List Value) (v1 : Nat), e = .returned (.tuple #[.agg us.toArray, .float .f32 v1, .int .i64 ar2]) ∧ LayL w' (rng w.heap.size w'.heap.size) ar0 us ∧ le w w' ∧ can .f32 v1 = ar1
def OutV_Tli (ar0 : List CD) (xr1 : Nat → Nat) (nr1 : Nat) (ar2 : Int) (w : World) (e : Ending) (w' : World) : Prop := ∃ (us : List Value) (v1 : Value) (q : Nat), e = .returned (.tuple #[.agg us.toArray, v1, .int .i64 ar2]) ∧ LayL w' (rng w.heap.size q) ar0 us ∧ le w w' ∧ OwnS w' q w'.heap.size v1 xr1 nr1 ∧ w.heap.size ≤ q ∧ q ≤ w'.heap.size
def OutV_T (ar0 : List CD) (w : World) (e : Ending) (w' : World) : Prop := ∃ (us : List Value), e = .returned (.agg us.toArray) ∧ LayL w' (rng w.heap.size w'.heap.size) ar0 us ∧ le w w'
/-- Two results with memory: a struct, and a slice of floats behind it. -/
theorem Frg.lay2 {w0 w w' : World} {L : List Fact} (h : Frg w0 w L) (k : Below w.heap.size w w') {q : Nat} {cs : List CD} {us : List Value} {s : Value} {x : Nat → Nat} {n : Nat} (he : LayL w' (rng w.heap.size q) cs us) (ho : OwnS w' q w'.heap.size s x n) (h1 : w.heap.size ≤ q) (h2 : q ≤ w'.heap.size) : Frg w0 w' (ownF q w'.heap.size s x n :: layF w.heap.size q cs us :: L) := by
  have F1 := h.le k
  refine ⟨F1.below, fun e he' => ?_, .cons (fun x hx => ?_) (.cons (fun x hx => Nat.le_trans (h.facts x hx).2.1 (Nat.le_refl _)) F1.apart)⟩
  · rcases List.mem_cons.1 he' with rfl | he'
    · exact ⟨Nat.le_trans h.below.size h1, Nat.le_refl _, ho⟩
    · rcases List.mem_cons.1 he' with rfl | he'
      · exact ⟨h.below.size, h2, he⟩
      · exact F1.facts e he'
  · rcases List.mem_cons.1 hx with rfl | hx
    · exact Nat.le_refl _
    · exact Nat.le_trans (h.facts x hx).2.1 h1
end Go.Fk

/- Laws for operations that are guarded and wanted. Nothing here names a program. -/
namespace Go.Fk
open Go Go.RowKit
section
variable {P : Program} {w : World} {ops : Array Oper} {rest : List Oper} {o : Oper} {a : Act} {Q : Exit → Act → World → Prop}
theorem wpList_wanted (hw : Region.wanted o (yielded ops a.tmps) = true) (h : ∀ K : Act → World → Prop, (∀ a w, wpList P ops Q rest a w → K a w) → o.wp P a w K Q) : wpList P ops Q (o :: rest) a w :=
  wpList_step fun K hK => by simp only [hw, if_true]; exact h K hK
theorem wpList_widenG {src dst : TypeId} {x : Operand} (hop : o.op = Op.convert src dst x) {b : Nat} (hx : a.eval x = .float .f32 b)
    (hs : P.underlying src = some (.float .f32)) (hd : P.underlying dst = some (.float .f64)) (hw : Region.wanted o (yielded ops a.tmps) = true)
    (hK : ∀ r n, Hid (can .f64 r = can .f64 (widen b)) → Hid (fits .f64 r) → wpList P ops Q rest (a.put o.dst (.float .f64 r)) (w.drewN n)) : wpList P ops Q (o :: rest) a w := by
  refine wpList_wanted hw fun K hK' => ?_
  obtain ⟨r, n, hrun, hr, hf⟩ := run_widen (P := P) w src dst b hs hd
  unfold Oper.wp
  simp [execOp, hop, hx, hrun, Result.andThen]
  exact hK' _ _ (hK r n hr hf)
end
end Go.Fk

/- The same for a region whose last operations are forced to come last, and may write. Nothing here names a program. -/
namespace Go.Fk
open Go Go.RowKit

section
variable {P : Program} {ops : Array Oper} {md : Region.Mode} {C : World → Prop} {K : FuncId → Array Value → Value → Prop}

/-- Whatever order is picked of the first n operations; then L. -/
def anyTail (P : Program) (ops : Array Oper) (md : Region.Mode) (C : World → Prop) (K : FuncId → Array Value → Value → Prop) (n : Nat) (L : Array Bool → Act → Prop) : Nat → Array Bool → Act → Prop
  | 0, listed, a => L listed a
  | f + 1, listed, a => Region.ready md ops listed ≠ [] ∧
      ∀ i ∈ Region.ready md ops listed, i < n ∧ ∀ o, ops[i]? = some o → ∃ V, Gives P ops C K o a V ∧ ∀ v, V v → anyTail P ops md C K n L f (listed.setIfInBounds i true) (a.put o.dst v)

theorem wpOp_gives {i : Nat} {o : Oper} {a : Act} {w : World} {V : Value → Prop} {next : Act → World → Prop} {Q' : Exit → Act → World → Prop} (ho : ops[i]? = some o) (hw : C w) (hg : Gives P ops C K o a V)
    (hn : ∀ v w', C w' → V v → next (a.put o.dst v) w') : wpOp P ops Q' i next a w := by
  unfold wpOp
  simp only [ho]
  rcases hg with ⟨hwant, hv⟩ | ⟨hwant, hv⟩
  · rw [if_pos hwant]
    left
    have h3 := hv w hw
    unfold Oper.wp
    generalize (execOp a.eval o).run P w = r at h3
    cases r with
    | ok x w' =>
      cases x <;> simp only [within] at h3 <;> simp only [Oper.upon]
      case value u => exact hn u _ h3.1 h3.2
      case skip => exact hn undef _ h3.1 h3.2
      case enter f args =>
        refine h3.1.mono fun e w'' he => ?_
        obtain ⟨v, rfl, hk, hc⟩ := he
        exact hn v _ hc (h3.2 v hk)
    | halt x w' => simp only [within] at h3
  · rw [if_neg (by simp [hwant])]
    exact hn undef _ hw hv

theorem anyTail_sound {n g : Nat} {L : Array Bool → Act → Prop} {Q' : Exit → Act → World → Prop} (hL : ∀ listed a w, C w → L listed a → wpAny P md ops Q' g listed a w) :
    ∀ (f : Nat) (listed : Array Bool) (a : Act) (w : World), C w → anyTail P ops md C K n L f listed a → wpAny P md ops Q' (f + g) listed a w := by
  intro f
  induction f with
  | zero => intro listed a w hw h; rw [Nat.zero_add]; exact hL _ _ _ hw h
  | succ f ih =>
    intro listed a w hw h
    rw [show f + 1 + g = (f + g) + 1 by omega]
    refine ⟨fun h0 => absurd h0 h.1, fun i hi => ?_⟩
    obtain ⟨_, o, ho, _⟩ := mem_ready.1 hi
    obtain ⟨V, hg, hn⟩ := (h.2 i hi).2 o ho
    exact wpOp_gives ho hw hg (fun v w' hw' hv => ih _ _ _ hw' (hn v hv))

theorem anyTail_first {n i : Nat} {oi : Oper} {V : Value → Prop} {L : Array Bool → Act → Prop} (hi : ops[i]? = some oi) (hsel : ∀ (j : Nat) (o : Oper) cs b, ops[j]? = some o → o.op ≠ .select cs b) (hne : ∃ v, V v)
    (hs : Region.sinkB md ops n = true) (hc : Region.chainB md ops n = true) (hn : n < ops.size) (hin : i < n)
    (hdone : ∀ listed a, L listed a → ∀ j ∈ Region.ready md ops listed, n ≤ j) :
    ∀ (f : Nat) (listed : Array Bool) (a : Act), HeadInv md ops n listed →
      (∀ j oj, ops[j]? = some oj → j ≠ i → listed.getD j true = false → (∀ e ∈ oj.after, Region.binds md e = true → e.on ≠ i) → oi.apart ops oj = true) →
      i ∈ Region.ready md ops listed → Gives P ops C K oi a V →
      (∀ v, V v → anyTail P ops md C K n L f (listed.setIfInBounds i true) (a.put oi.dst v)) → anyTail P ops md C K n L (f + 1) listed a := by
  intro f
  induction f with
  | zero =>
    intro listed a inv _ hr hg H
    have hun := (mem_ready.1 hr).1
    refine ⟨fun h => (by rw [h] at hr; cases hr), fun j hj => ?_⟩
    have hjn : j < n := by
      rcases Nat.lt_or_ge j n with h | h
      · exact h
      · exact absurd hj (tail_waits hs hc hn inv _ i rfl hin hun j h)
    refine ⟨hjn, fun o ho => ?_⟩
    by_cases hji : j = i
    · subst hji
      rw [hi] at ho; cases ho
      exact ⟨V, hg, H⟩
    · obtain ⟨v, hv⟩ := hne
      have := hdone _ _ (H v hv) j (ready_mono hj hji)
      omega
  | succ f ih =>
    intro listed a inv hfree hr hg H
    have hun := (mem_ready.1 hr).1
    refine ⟨fun h => (by rw [h] at hr; cases hr), fun j hj => ?_⟩
    have hjn : j < n := by
      rcases Nat.lt_or_ge j n with h | h
      · exact h
      · exact absurd hj (tail_waits hs hc hn inv _ i rfl hin hun j h)
    refine ⟨hjn, fun o ho => ?_⟩
    by_cases hji : j = i
    · subst hji
      rw [hi] at ho; cases ho
      exact ⟨V, hg, H⟩
    · obtain ⟨hjun, oj, hoj, hall⟩ := mem_ready.1 hj
      rw [ho] at hoj; cases hoj
      have hnot : ∀ e ∈ o.after, Region.binds md e = true → e.on ≠ i := fun e he hb heq => by
        have h1 := hall e he hb
        rw [heq, getD_both hun] at h1
        cases h1
      have hap := hfree j o ho hji hjun hnot
      obtain ⟨a1, a2, a3⟩ := Oper.apart_spec hap
      have hsi := fun cs b => hsel i oi cs b hi
      have hsj := fun cs b => hsel j o cs b ho
      have hU : ∀ v : {v // V v}, ∃ U, Gives P ops C K o (a.put oi.dst v.1) U ∧ ∀ u, U u → anyTail P ops md C K n L f ((listed.setIfInBounds i true).setIfInBounds j true) ((a.put oi.dst v.1).put o.dst u) :=
        fun v => ((H v.1 v.2).2 j (ready_mono hj hji)).2 o ho
      obtain ⟨v0, hv0⟩ := hne
      let good : Value → Prop := fun u => ∀ v : {v // V v}, True → anyTail P ops md C K n L f ((listed.setIfInBounds i true).setIfInBounds j true) ((a.put oi.dst v.1).put o.dst u)
      have hone : ∀ v : {v // V v}, Gives P ops C K o a (fun u => anyTail P ops md C K n L f ((listed.setIfInBounds i true).setIfInBounds j true) ((a.put oi.dst v.1).put o.dst u)) := fun v => by
        obtain ⟨U, h1, h2⟩ := hU v
        have h1' : Gives P ops C K o a U := h1.same (execOp_put o hsj a oi.dst v.1 a1).symm (wanted_put o a oi.dst v.1 a1).symm
        rcases h1' with ⟨hw, h3⟩ | ⟨hw, h3⟩
        · exact .inl ⟨hw, fun w hw' => within_mono h2 (h3 w hw')⟩
        · exact .inr ⟨hw, h2 _ h3⟩
      have hgood : Gives P ops C K o a good := by
        by_cases hw : Region.wanted o (yielded ops a.tmps) = true
        · refine .inl ⟨hw, fun w hw' => ?_⟩
          refine within_all ⟨⟨v0, hv0⟩, trivial⟩ (fun v _ => ?_)
          rcases hone v with ⟨_, h3⟩ | ⟨h3, _⟩
          · exact h3 w hw'
          · rw [hw] at h3; cases h3
        · refine .inr ⟨by simpa using hw, fun v _ => ?_⟩
          rcases hone v with ⟨h3, _⟩ | ⟨_, h3⟩
          · exact absurd h3 hw
          · exact h3
      refine ⟨good, hgood, ?_⟩
      intro u hu
      have hfree' : ∀ k ok, ops[k]? = some ok → k ≠ i → (listed.setIfInBounds j true).getD k true = false →
          (∀ e ∈ ok.after, Region.binds md e = true → e.on ≠ i) → oi.apart ops ok = true := fun k ok hk hki hun hno => by
        refine hfree k ok hk hki ?_ hno
        by_cases hjk : j = k
        · subst hjk; exact hjun
        · rw [getD_set_ne true hjk] at hun; exact hun
      refine ih (listed.setIfInBounds j true) (a.put o.dst u) (inv.set hj hjn) hfree' (ready_mono hr (Ne.symm hji)) (hg.same (execOp_put oi hsi a o.dst u a3) (wanted_put oi a o.dst u a3)) (fun v hv => ?_)
      rw [Array.setIfInBounds_comm _ _ hji, ← Act.put_comm a v u a2]
      exact hu ⟨v, hv⟩ trivial

theorem anyTail_lex {n g : Nat} {Lq : Act → Prop} (hC : ∃ w, C w) (hsel : Region.noSelect ops = true) (hs : Region.sinkB md ops n = true) (hc : Region.chainB md ops n = true) (hn : n < ops.size) :
    ∀ (l : List Oper) (k : Nat) (listed : Array Bool) (a : Act), (∀ j, j < l.length → l[j]? = ops[k + j]?) → k + l.length = n → HeadInv md ops n listed →
    Region.lexHead md ops g l.length k listed = true → wpLoose P ops C K Lq l a →
    anyTail P ops md C K n (fun listed' a' => Region.seqB md ops g n listed' = true ∧ Lq a') l.length listed a := by
  intro l
  induction l with
  | nil =>
    intro k listed a _ hk _ hB h
    have : k = n := by simpa using hk
    subst this
    exact ⟨by simpa [Region.lexHead] using hB, h⟩
  | cons o l ih =>
    intro k listed a hl hk inv hB h
    have h0 : ops[k]? = some o := by simpa using (hl 0 (by simp)).symm
    simp only [List.length_cons, Region.lexHead, Bool.and_eq_true] at hB
    obtain ⟨⟨hr, hf⟩, hB'⟩ := hB
    have hkn : k < n := by simp only [List.length_cons] at hk; omega
    have hr' : k ∈ Region.ready md ops listed := by simpa using hr
    obtain ⟨V, hg, hnext⟩ := h
    exact anyTail_first h0 (Region.noSelect_spec hsel) (hg.some hC) hs hc hn hkn (fun listed' a' hL => seqB_ready hL.1) l.length listed a inv (Region.free_spec h0 hf) hr' hg
      (fun v hv => ih (k + 1) _ _ (fun j hj => by have := hl (j + 1) (by simp; omega); simpa [Nat.add_assoc, Nat.add_comm 1 j] using this) (by simp only [List.length_cons] at hk; omega) (inv.set hr' hkn) hB' (hnext v hv))

/-- ONE WALK SERVES EVERY ORDER; then the last operations, in theirs. -/
theorem wp_region_tail (K : FuncId → Array Value → Value → Prop) {id : Nat} {Q : Exit → Act → World → Prop} {a : Act} {w : World} {l : List Oper} (n : Nat) (hm : P.follows .mixedOrders = true) (hB : Region.lexTailB .any l.toArray n = true)
    (h : wpLoose P l.toArray (fun w' => ∃ m, w' = w.drewN m) K (fun a' => ∀ m, wpList P l.toArray Q (l.drop n) a' (w.drewN m)) (l.take n) a) : (Code.region id l.toArray true).wp P Q a w := by
  simp only [Region.lexTailB, Bool.and_eq_true, decide_eq_true_eq] at hB
  obtain ⟨⟨⟨⟨hsel, hn⟩, hs⟩, hc⟩, hlex⟩ := hB
  have hn' : n < l.length := by simpa using hn
  have htl : (l.take n).length = n := by simp; omega
  have hdl : (l.drop n).length = l.toArray.size - n := by simp
  have hC : ∃ m, ({ w with drawn := w.drawn + 1 } : World) = w.drewN m := ⟨1, rfl⟩
  have inv0 : HeadInv .any l.toArray n (Array.replicate l.toArray.size false) :=
    ⟨by simp, fun j oj _ hl => (by rw [getD_replicate_false] at hl; cases hl), fun t _ ht => getD_in (by simpa using ht) (getD_replicate_false _ _)⟩
  have H := anyTail_lex (md := .any) (C := fun w' => ∃ m, w' = w.drewN m) (g := l.toArray.size - n) ⟨_, hC⟩ hsel hs hc hn (l.take n) 0 _ a (fun j hj => by
    have hj' : j < n := by rw [htl] at hj; exact hj
    simp [hj']) (by simpa using htl) inv0 (by rw [htl]; exact hlex) h
  refine wp_region_any hm ?_
  have := anyTail_sound (Q' := Q) (C := fun w' => ∃ m, w' = w.drewN m) (g := l.toArray.size - n) (fun listed a' w' hw' hL => by
    obtain ⟨m, rfl⟩ := hw'
    have := wpAny_of_seq (md := .any) (Q' := Q) (l.drop n) n listed a' (w.drewN m) (fun j => by simp [List.getElem?_drop]) (by rw [hdl]; exact hL.1) (hL.2 m)
    rwa [hdl] at this) _ _ _ _ hC H
  rw [htl, show n + (l.toArray.size - n) = l.toArray.size by omega] at this
  exact this
end
end Go.Fk

/- Blocks of 16 floats: 'laws.toBlock', 'laws.eqBlock'. -/
namespace Go.Fk
open Go Go.RowKit
/-- A block of 16 floats is given, each up to the bits of NaN; nothing old is written. -/
def OutB (F : Nat → Nat) (w : World) (e : Ending) (w' : World) : Prop := ∃ g, e = .returned (.agg (ftab .f32 g 16)) ∧ (∀ j, j < 16 → can .f32 (g j) = F j ∧ fits .f32 (g j)) ∧ Below w.heap.size w w'
/-- One cell more of a row that is being filled. -/
theorem fill_step {α : Type} {p : Nat → α → Prop} {g : Nat → α} {k : Nat} {r : α} (h : ∀ j, j < k → p j (g j)) (hr : p k r) : ∀ j, j < k + 1 → p j (if j = k then r else g j) := by
  intro j hj
  by_cases e : j = k
  · subst e; simpa using hr
  · simpa [e] using h j (by omega)
theorem rest_step {α : Type} {g x : Nat → α} {k : Nat} {r : α} (h : ∀ j, k ≤ j → g j = x j) : ∀ j, k + 1 ≤ j → (if j = k then r else g j) = x j := by
  intro j hj
  rw [if_neg (by omega)]
  exact h j (by omega)
end Go.Fk
namespace Go.Proofs.Yteblmkamopfkiaa
open Go.RowKit Go.Fk



end Go.Proofs.Yteblmkamopfkiaa

/- Arrays of floats: 'laws.toX', 'laws.eqX' of [3]float32, [2]float32, Table. -/
namespace Go.Proofs.Yteblmkamopfkiaa
open Go.RowKit Go.Fk
end Go.Proofs.Yteblmkamopfkiaa

/- Filters: 'laws.toFilter', 'laws.eqFilter'. -/
namespace Go.Fk
open Go Go.RowKit
/-- A row of three, of two. -/
def tri (a b c : Nat) : Nat → Nat | 0 => a | 1 => b | _ => c
def duo (a b : Nat) : Nat → Nat | 0 => a | _ => b
theorem tri_tab (a b c : Nat) : ftab .f32 (tri a b c) 3 = #[.float .f32 a, .float .f32 b, .float .f32 c] := rfl
theorem duo_tab (a b : Nat) : ftab .f32 (duo a b) 2 = #[.float .f32 a, .float .f32 b] := rfl
theorem fil_tab (k : Int) (a b c x y : Nat) : ((#[.int .i64 k, .float .f32 a, .float .f32 b, .float .f32 c, .float .f32 x, .float .f32 y] : Array Value) : Array Value).size = 6 := rfl
theorem tri_can {a b c a' b' c' : Nat} (h1 : can .f32 a = can .f32 a') (h2 : can .f32 b = can .f32 b') (h3 : can .f32 c = can .f32 c') : ∀ j, j < 3 → can .f32 (tri a b c j) = can .f32 (tri a' b' c' j) := by
  intro j hj
  match j, hj with
  | 0, _ => exact h1
  | 1, _ => exact h2
  | 2, _ => exact h3
theorem duo_can {a b a' b' : Nat} (h1 : can .f32 a = can .f32 a') (h2 : can .f32 b = can .f32 b') : ∀ j, j < 2 → can .f32 (duo a b j) = can .f32 (duo a' b' j) := by
  intro j hj
  match j, hj with
  | 0, _ => exact h1
  | 1, _ => exact h2
end Go.Fk
namespace Go.Proofs.Yteblmkamopfkiaa
open Go.RowKit Go.Fk
end Go.Proofs.Yteblmkamopfkiaa

/- Sizes of types, kinds of their cells; the kinds of data. -/
namespace Go.Fk
open Go Go.RowKit
theorem partFilter_C (v0 v1 v2 v3 v4 v5 : Value) : ∀ j, j < [v1, v2, v3].length → (#[v0, v1, v2, v3, v4, v5] : Array Value)[1 + j]? = [v1, v2, v3][j]? := fun j hj => by match j, hj with | 0, _ => rfl | 1, _ => rfl | 2, _ => rfl
theorem partFilter_S (v0 v1 v2 v3 v4 v5 : Value) : ∀ j, j < [v4, v5].length → (#[v0, v1, v2, v3, v4, v5] : Array Value)[4 + j]? = [v4, v5][j]? := fun j hj => by match j, hj with | 0, _ => rfl | 1, _ => rfl
theorem partString_Loop (v0 v1 v2 v3 v4 v5 v6 v7 v8 v9 v10 v11 v12 v13 v14 : Value) : ∀ j, j < [v0, v1].length → (#[v0, v1, v2, v3, v4, v5, v6, v7, v8, v9, v10, v11, v12, v13, v14] : Array Value)[0 + j]? = [v0, v1][j]? := fun j hj => by match j, hj with | 0, _ => rfl | 1, _ => rfl
theorem partString_Tune (v0 v1 v2 v3 v4 v5 v6 v7 v8 v9 v10 v11 v12 v13 v14 : Value) : ∀ j, j < [v2, v3, v4, v5, v6, v7].length → (#[v0, v1, v2, v3, v4, v5, v6, v7, v8, v9, v10, v11, v12, v13, v14] : Array Value)[2 + j]? = [v2, v3, v4, v5, v6, v7][j]? := fun j hj => by match j, hj with | 0, _ => rfl | 1, _ => rfl | 2, _ => rfl | 3, _ => rfl | 4, _ => rfl | 5, _ => rfl
theorem partString_Damp (v0 v1 v2 v3 v4 v5 v6 v7 v8 v9 v10 v11 v12 v13 v14 : Value) : ∀ j, j < [v8, v9, v10, v11, v12, v13].length → (#[v0, v1, v2, v3, v4, v5, v6, v7, v8, v9, v10, v11, v12, v13, v14] : Array Value)[8 + j]? = [v8, v9, v10, v11, v12, v13][j]? := fun j hj => by match j, hj with | 0, _ => rfl | 1, _ => rfl | 2, _ => rfl | 3, _ => rfl | 4, _ => rfl | 5, _ => rfl
theorem partPipe_End (v0 v1 v2 v3 v4 v5 v6 v7 v8 v9 v10 v11 v12 : Value) : ∀ j, j < [v3, v4, v5, v6, v7, v8].length → (#[v0, v1, v2, v3, v4, v5, v6, v7, v8, v9, v10, v11, v12] : Array Value)[3 + j]? = [v3, v4, v5, v6, v7, v8][j]? := fun j hj => by match j, hj with | 0, _ => rfl | 1, _ => rfl | 2, _ => rfl | 3, _ => rfl | 4, _ => rfl | 5, _ => rfl
theorem partBow_Neck (v0 v1 v2 v3 v4 v5 v6 v7 v8 v9 v10 v11 : Value) : ∀ j, j < [v0, v1].length → (#[v0, v1, v2, v3, v4, v5, v6, v7, v8, v9, v10, v11] : Array Value)[0 + j]? = [v0, v1][j]? := fun j hj => by match j, hj with | 0, _ => rfl | 1, _ => rfl
theorem partBow_Bridge (v0 v1 v2 v3 v4 v5 v6 v7 v8 v9 v10 v11 : Value) : ∀ j, j < [v2, v3].length → (#[v0, v1, v2, v3, v4, v5, v6, v7, v8, v9, v10, v11] : Array Value)[2 + j]? = [v2, v3][j]? := fun j hj => by match j, hj with | 0, _ => rfl | 1, _ => rfl
theorem partBow_Damp (v0 v1 v2 v3 v4 v5 v6 v7 v8 v9 v10 v11 : Value) : ∀ j, j < [v4, v5, v6, v7, v8, v9].length → (#[v0, v1, v2, v3, v4, v5, v6, v7, v8, v9, v10, v11] : Array Value)[4 + j]? = [v4, v5, v6, v7, v8, v9][j]? := fun j hj => by match j, hj with | 0, _ => rfl | 1, _ => rfl | 2, _ => rfl | 3, _ => rfl | 4, _ => rfl | 5, _ => rfl
theorem partJet_Throat (v0 v1 v2 v3 v4 v5 v6 v7 v8 v9 v10 v11 v12 v13 v14 v15 v16 v17 : Value) : ∀ j, j < [v0, v1].length → (#[v0, v1, v2, v3, v4, v5, v6, v7, v8, v9, v10, v11, v12, v13, v14, v15, v16, v17] : Array Value)[0 + j]? = [v0, v1][j]? := fun j hj => by match j, hj with | 0, _ => rfl | 1, _ => rfl
theorem partJet_Bore (v0 v1 v2 v3 v4 v5 v6 v7 v8 v9 v10 v11 v12 v13 v14 v15 v16 v17 : Value) : ∀ j, j < [v2, v3].length → (#[v0, v1, v2, v3, v4, v5, v6, v7, v8, v9, v10, v11, v12, v13, v14, v15, v16, v17] : Array Value)[2 + j]? = [v2, v3][j]? := fun j hj => by match j, hj with | 0, _ => rfl | 1, _ => rfl
theorem partJet_Low (v0 v1 v2 v3 v4 v5 v6 v7 v8 v9 v10 v11 v12 v13 v14 v15 v16 v17 : Value) : ∀ j, j < [v4, v5, v6, v7, v8, v9].length → (#[v0, v1, v2, v3, v4, v5, v6, v7, v8, v9, v10, v11, v12, v13, v14, v15, v16, v17] : Array Value)[4 + j]? = [v4, v5, v6, v7, v8, v9][j]? := fun j hj => by match j, hj with | 0, _ => rfl | 1, _ => rfl | 2, _ => rfl | 3, _ => rfl | 4, _ => rfl | 5, _ => rfl
theorem partJet_Dc (v0 v1 v2 v3 v4 v5 v6 v7 v8 v9 v10 v11 v12 v13 v14 v15 v16 v17 : Value) : ∀ j, j < [v10, v11, v12, v13, v14, v15].length → (#[v0, v1, v2, v3, v4, v5, v6, v7, v8, v9, v10, v11, v12, v13, v14, v15, v16, v17] : Array Value)[10 + j]? = [v10, v11, v12, v13, v14, v15][j]? := fun j hj => by match j, hj with | 0, _ => rfl | 1, _ => rfl | 2, _ => rfl | 3, _ => rfl | 4, _ => rfl | 5, _ => rfl
theorem partComb_Ring (v0 v1 v2 : Value) : ∀ j, j < [v0, v1].length → (#[v0, v1, v2] : Array Value)[0 + j]? = [v0, v1][j]? := fun j hj => by match j, hj with | 0, _ => rfl | 1, _ => rfl
def shRing : List Sh := [.sl 1 (fun j => [.flt .f32].getD j .bool), .int .i64]
def shFilter : List Sh := [.int .i64, .flt .f32, .flt .f32, .flt .f32, .flt .f32, .flt .f32]
def shString : List Sh := [.sl 1 (fun j => [.flt .f32].getD j .bool), .int .i64, .int .i64, .flt .f32, .flt .f32, .flt .f32, .flt .f32, .flt .f32, .int .i64, .flt .f32, .flt .f32, .flt .f32, .flt .f32, .flt .f32, .flt .f32]
def shPipe : List Sh := [.sl 2 (fun j => [.sl 1 (fun j => [.flt .f32].getD j .bool), .int .i64].getD j .bool), .sl 2 (fun j => [.sl 1 (fun j => [.flt .f32].getD j .bool), .int .i64].getD j .bool), .sl 1 (fun j => [.flt .f32].getD j .bool), .int .i64, .flt .f32, .flt .f32, .flt .f32, .flt .f32, .flt .f32, .bool, .flt .f32, .flt .f32, .flt .f32]
def shBow : List Sh := [.sl 1 (fun j => [.flt .f32].getD j .bool), .int .i64, .sl 1 (fun j => [.flt .f32].getD j .bool), .int .i64, .int .i64, .flt .f32, .flt .f32, .flt .f32, .flt .f32, .flt .f32, .flt .f32, .flt .f32]
def shJet : List Sh := [.sl 1 (fun j => [.flt .f32].getD j .bool), .int .i64, .sl 1 (fun j => [.flt .f32].getD j .bool), .int .i64, .int .i64, .flt .f32, .flt .f32, .flt .f32, .flt .f32, .flt .f32, .int .i64, .flt .f32, .flt .f32, .flt .f32, .flt .f32, .flt .f32, .flt .f32, .flt .f32]
def shComb : List Sh := [.sl 1 (fun j => [.flt .f32].getD j .bool), .int .i64, .flt .f32]
def shTap : List Sh := [.int .i64, .flt .f32]
def shTuning : List Sh := [.flt .f32, .flt .f32, .sl 1 (fun j => [.flt .f32].getD j .bool)]
section
variable {P : Program} {w : World} {ops : Array Oper} {rest : List Oper} {o : Oper} {a : Act} {Q : Exit → Act → World → Prop}
/-- A value of one cell is loaded. -/
theorem wpList_load1 {w0 : World} {L : List Fact} (hF : Frg w0 w L) (hg : o.guard = none) {ty : TypeId} {x : Operand} (hop : o.op = .load ty x) {g f : Nat} (hx : a.eval x = .pointer (some ⟨g, f, none⟩)) {t : TypeId} {cs : Array Value} (hm : rowF g t cs ∈ L) {v : Value} (hv : cs[f]? = some v) (hu : ∀ w, (isAgg ty).run P w = .ok false w)
    (h : wpList P ops Q rest (a.put o.dst v) w) : wpList P ops Q (o :: rest) a w := by
  refine wpList_plain hg fun K hK' => ?_
  unfold Oper.wp execOp
  have hc : w.cell? ⟨g, f, none⟩ = some v := by rw [(hF.row hm).cell?, hv]
  have hl : (Instr.loadAt ty (.pointer (some ⟨g, f, none⟩))).run P w = .ok v w := by
    simp [Instr.loadAt, Instr.sureAddr, loadVar, hu, hc]
  simp [hop, hx, hl, Result.andThen]
  exact hK' _ _ h
/-- A value of one cell is stored. -/
theorem wpList_store1 (hg : o.guard = none) {ty : TypeId} {x y : Operand} (hop : o.op = .store ty x y) {g f : Nat} (hx : a.eval x = .pointer (some ⟨g, f, none⟩)) {v : Value} (hy : a.eval y = v) {t : TypeId} {old : Array Value}
    (hr : Row w g t old) (hi : (P.info? ty).map (·.size) = some 1) (ho : f < old.size) (h1 : v.oneCell' = true) (cs' : Array Value) (hcs : old.setIfInBounds f v = cs')
    (h : ∀ w', Wrote w w' g t cs' → wpList P ops Q rest (a.put o.dst undef) w') : wpList P ops Q (o :: rest) a w := by
  refine wpList_plain hg fun K hK' => ?_
  unfold Oper.wp execOp
  have hw := wrote_setCells [v] f old w hr
  simp only [patch, hcs, World.setCells] at hw
  have hc : w.cell? ⟨g, f, none⟩ = some old[f] := by rw [hr.cell?, Array.getElem?_eq_getElem ho]
  have hs : (store ⟨g, f, none⟩ v .plain).run P w = .ok () (w.setCell ⟨g, f, none⟩ v) := by rw [run_store P w _ v _ h1, hc]; simp [hr.frozen f]
  have hvc : v.cells = #[v] := by cases v <;> first | rfl | simp [Value.oneCell'] at h1
  cases hq : P.info? ty with
  | none => simp [hq] at hi
  | some i =>
    have hz : i.size = 1 := by simpa [hq] using hi
    have hl : (Instr.storeAt ty (.pointer (some ⟨g, f, none⟩)) v).run P w = .ok () (w.setCell ⟨g, f, none⟩ v) := by
      simp [Instr.storeAt, Instr.sureAddr, storeVar, sizeOf, typeInfo, hq, hz, hvc, storeCells, Addr.add, hs, Sem.run_bind]
    simp [hop, hx, hy, hl, Result.andThen]
    exact hK' _ _ (h _ hw)
end
end Go.Fk
namespace Go.Proofs.Yteblmkamopfkiaa
open Go.RowKit Go.Fk
theorem uinfoTuningL : (Try.prog.info? 32).map (·.size) = some 3 := by kernel_rfl
theorem uinfoTuningI : (Try.prog.info? 35).map (·.size) = some 3 := by kernel_rfl
theorem ukindFloat32S : ∀ w : World, (isAgg 30).run Try.prog w = .ok false w := fun w => by kernel_rfl
theorem ukindBool : ∀ w : World, (isAgg 4).run Try.prog w = .ok false w := fun w => by kernel_rfl
theorem ukindFloat32 : ∀ w : World, (isAgg 22).run Try.prog w = .ok false w := fun w => by kernel_rfl
theorem ukindInt64 : ∀ w : World, (isAgg 2).run Try.prog w = .ok false w := fun w => by kernel_rfl
theorem uinfo1Float32S : (Try.prog.info? 30).map (·.size) = some 1 := by kernel_rfl
theorem uinfo1Bool : (Try.prog.info? 4).map (·.size) = some 1 := by kernel_rfl
theorem uinfo1Float32 : (Try.prog.info? 22).map (·.size) = some 1 := by kernel_rfl
theorem uinfo1Int64 : (Try.prog.info? 2).map (·.size) = some 1 := by kernel_rfl
theorem szU_Float32S (B n : Nat) (x : Nat → CD) (s : Value) (m r : Int) (w : World) (h : (CD.sl 1 n x).Rd w B s) (hsh : ∀ i, i < n → ∀ j, j < 1 → ShOk ([Sh.flt .f32].getD j .bool) (x (i * 1 + j))) (h0 : 0 ≤ m) (h1 : m ≤ 1048576) (hr : lessBy m (CD.sz (CD.sl 1 n x)) = r) :
    Calls Try.prog 56 #[s, .int .i64 m] w (OutI r w) := by
  have hf := ShOk.flts hsh rfl
  rw [CD.sz_flts hf] at hr
  have hd := h.rdf hf
  obtain ⟨y, hy, _⟩ := hd.slIn
  subst hr
  by_cases g : m - (n : Int) < 0
  · rw [lessBy_neg g]
    exact (szS_no s y n m w hy h0 h1 hd.small g).mono (fun e w' ⟨h1, h2⟩ => ⟨h1, h2 ▸ le_refl _⟩)
  · rw [lessBy_pos g]
    exact (szS_yes s y n m w hy h0 h1 hd.small (by omega)).mono (fun e w' ⟨h1, h2⟩ => ⟨h1, h2 ▸ le_refl _⟩)
theorem eqU_Float32S (B B' n : Nat) (x : Nat → CD) (s s' : Value) (w : World) (h : (CD.sl 1 n x).Rd w B s) (h' : (CD.sl 1 n x).Rd w B' s') (hsh : ∀ i, i < n → ∀ j, j < 1 → ShOk ([Sh.flt .f32].getD j .bool) (x (i * 1 + j))) (hz : CD.sz (CD.sl 1 n x) ≤ 1048576) :
    Calls Try.prog 43 #[s, s'] w (OutT w) := by
  have hf := ShOk.flts hsh rfl
  rw [CD.sz_flts hf] at hz
  exact (eqR B B' s s' _ n w hz (h.rdf hf) (h'.rdf hf)).mono (fun e w' ⟨h1, m, h2⟩ => ⟨h1, h2 ▸ le_drewN _ _⟩)
theorem toU_Float32S (B n : Nat) (x : Nat → CD) (s : Value) (w : World) (h : (CD.sl 1 n x).Rd w B s) (hsh : ∀ i, i < n → ∀ j, j < 1 → ShOk ([Sh.flt .f32].getD j .bool) (x (i * 1 + j))) (hz : CD.sz (CD.sl 1 n x) ≤ 1048576) :
    Calls Try.prog 58 #[s] w (OutC (CD.sl 1 n x).cp w) := by
  have hf := ShOk.flts hsh rfl
  rw [CD.sz_flts hf] at hz
  refine (toR B s _ n w (h.rdf hf) hz).mono ?_
  rintro e w' ⟨u, rfl, ho, hl⟩
  exact ⟨u, rfl, ho.lay.congr ⟨_, rfl, fun i hi => by rw [CD.cn_fl (hf i (by simpa using hi))]; exact CD.Eqv.refl _⟩, hl⟩
end Go.Proofs.Yteblmkamopfkiaa

/- The laws' helpers for Tuning, over trees of data. -/
namespace Go.Proofs.Yteblmkamopfkiaa
open Go.RowKit Go.Fk
set_option maxRecDepth 100000 in
set_option maxHeartbeats 4000000 in
theorem szU_Tuning (B : Nat) (cs : List CD) (vs : List Value) (m r : Int) (w : World) (h : RdL w B cs vs) (hsh : ShOkL shTuning cs) (h0 : 0 ≤ m) (h1 : m ≤ 1048576) (hr : lessBy m (szL cs) = r) :
    Calls Try.prog 22 #[.agg vs.toArray, .int .i64 m] w (OutI r w) := by
  obtain ⟨c0, cs, rfl, q0, hsh⟩ := hsh.inv
  obtain ⟨c1, cs, rfl, q1, hsh⟩ := hsh.inv
  obtain ⟨c2, cs, rfl, q2, hsh⟩ := hsh.inv
  obtain rfl := hsh.inv0
  obtain ⟨v0, vs, rfl, r0, h⟩ := h.inv
  obtain ⟨v1, vs, rfl, r1, h⟩ := h.inv
  obtain ⟨v2, vs, rfl, r2, h⟩ := h.inv
  obtain rfl := h.inv0
  have q0 : c0.flk = some .f32 := q0
  obtain ⟨y0, rfl, f0, e0⟩ := r0.fl q0
  have q1 : c1.flk = some .f32 := q1
  obtain ⟨y1, rfl, f1, e1⟩ := r1.fl q1
  obtain ⟨n2, x2, rfl, q2⟩ := q2
  obtain ⟨a0, ha0⟩ : ∃ a : Nat, a = CD.sz (.sl 1 n2 x2) := ⟨_, rfl⟩
  have H0 := hid (fun (m r : Int) (w' : World) (hl : le w w') (h0 : 0 ≤ m) (h1 : m ≤ 1048576) (hr : lessBy m a0 = r) => szU_Float32S B _ _ v2 m r w' (r2.le hl) q2 h0 h1 (ha0 ▸ hr))
  replace hr : Hid (lessBy m (a0) = r) := by rw [← hr]; congr 1; try (first | (simp only [szL, List.map_cons, List.map_nil, List.sum_cons, List.sum_nil, CD.sz, ha0, CD.sz_fl q0, CD.sz_fl q1]; done) | (simp only [szL, List.map_cons, List.map_nil, List.sum_cons, List.sum_nil, CD.sz, ha0, CD.sz_fl q0, CD.sz_fl q1]; omega))
  clear ha0
  have F := (Frg.nil w).box 32 #[.float .f32 y0, .float .f32 y1, v2]
  by_cases g0 : m - (a0 : Int) < 0
  · have er : r = -1 := by have := hr.out; rw [lessBy_neg (by omega)] at this; omega
    subst er
    clear hr
    go_enter Try.func22, Try.ntmps22
    go_wp2_with (first | ((with_reducible refine at_load rfl ?_); first | (with_reducible refine wpList_load1 F rfl rfl rfl (by first | exact m0) (f := 0) (v := .float .f32 y0) rfl ukindFloat32 ?_) | (with_reducible refine wpList_load1 F rfl rfl rfl (by first | exact m0) (f := 1) (v := .float .f32 y1) rfl ukindFloat32 ?_) | (with_reducible refine wpList_load1 F rfl rfl rfl (by first | exact m0) (f := 2) (v := v2) rfl ukindFloat32S ?_)) | (go_at_call 56; ((with_reducible refine (H0.out m (-1 : Int) _ F.below (by omega) (by omega) (by exact lessBy_neg (by omega))).mono ?_); rintro e w1 ⟨rfl, hl⟩; replace F := F.le hl; clear hl)))
    go_ret
    exact ⟨rfl, F.below⟩
  · skip
    have er : r = (m - (a0 : Int)) := by have := hr.out; rw [lessBy_pos (by omega)] at this; omega
    subst er
    clear hr
    go_enter Try.func22, Try.ntmps22
    go_wp2_with (first | ((with_reducible refine at_load rfl ?_); first | (with_reducible refine wpList_load1 F rfl rfl rfl (by first | exact m0) (f := 0) (v := .float .f32 y0) rfl ukindFloat32 ?_) | (with_reducible refine wpList_load1 F rfl rfl rfl (by first | exact m0) (f := 1) (v := .float .f32 y1) rfl ukindFloat32 ?_) | (with_reducible refine wpList_load1 F rfl rfl rfl (by first | exact m0) (f := 2) (v := v2) rfl ukindFloat32S ?_)) | (go_at_call 56; ((with_reducible refine (H0.out m (m - (a0 : Int)) _ F.below (by omega) (by omega) (by exact lessBy_pos (by omega))).mono ?_); rintro e w1 ⟨rfl, hl⟩; replace F := F.le hl; clear hl)))
    go_ret
    exact ⟨rfl, F.below⟩
set_option maxRecDepth 100000 in
set_option maxHeartbeats 4000000 in
theorem eqU_Tuning (B B' : Nat) (cs : List CD) (vs vs' : List Value) (w : World) (h : RdL w B cs vs) (h' : RdL w B' cs vs') (hsh : ShOkL shTuning cs) (hz : szL cs ≤ 1048576) :
    Calls Try.prog 26 #[.agg vs.toArray, .agg vs'.toArray] w (OutT w) := by
  obtain ⟨c0, cs, rfl, q0, hsh⟩ := hsh.inv
  obtain ⟨c1, cs, rfl, q1, hsh⟩ := hsh.inv
  obtain ⟨c2, cs, rfl, q2, hsh⟩ := hsh.inv
  obtain rfl := hsh.inv0
  obtain ⟨v0, vs, rfl, r0, h⟩ := h.inv
  obtain ⟨v1, vs, rfl, r1, h⟩ := h.inv
  obtain ⟨v2, vs, rfl, r2, h⟩ := h.inv
  obtain rfl := h.inv0
  obtain ⟨v0', vs', rfl, r0', h'⟩ := h'.inv
  obtain ⟨v1', vs', rfl, r1', h'⟩ := h'.inv
  obtain ⟨v2', vs', rfl, r2', h'⟩ := h'.inv
  obtain rfl := h'.inv0
  have q0 : c0.flk = some .f32 := q0
  obtain ⟨y0, rfl, f0, e0⟩ := r0.fl q0
  obtain ⟨y0', rfl, f0', e0'⟩ := r0'.fl q0
  have q1 : c1.flk = some .f32 := q1
  obtain ⟨y1, rfl, f1, e1⟩ := r1.fl q1
  obtain ⟨y1', rfl, f1', e1'⟩ := r1'.fl q1
  simp only [szL, List.map_cons, List.map_nil, List.sum_cons, List.sum_nil] at hz
  have E0 := hid (e0.trans e0'.symm)
  have E1 := hid (e1.trans e1'.symm)
  obtain ⟨n2, x2, rfl, q2⟩ := q2
  have H2 := hid (fun (w' : World) (hl : le w w') => eqU_Float32S B B' _ _ v2 v2' w' (r2.le hl) (r2'.le hl) q2 (by omega))
  have F := ((Frg.nil w).box 35 #[.float .f32 y0, .float .f32 y1, v2]).box 35 #[.float .f32 y0', .float .f32 y1', v2']
  simp only [World.size_alloc] at F
  clear hz
  go_enter Try.func26, Try.ntmps26
  go_wp2_with (first | ((with_reducible refine listN F ?_); clear F; intro wN F) | ((with_reducible refine at_load rfl ?_); first | (with_reducible refine wpList_load1 F rfl rfl rfl (by first | exact m0 | exact m1) (f := 0) (v := .float .f32 y0) rfl ukindFloat32 ?_) | (with_reducible refine wpList_load1 F rfl rfl rfl (by first | exact m0 | exact m1) (f := 1) (v := .float .f32 y1) rfl ukindFloat32 ?_) | (with_reducible refine wpList_load1 F rfl rfl rfl (by first | exact m0 | exact m1) (f := 2) (v := v2) rfl ukindFloat32S ?_) | (with_reducible refine wpList_load1 F rfl rfl rfl (by first | exact m0 | exact m1) (f := 0) (v := .float .f32 y0') rfl ukindFloat32 ?_) | (with_reducible refine wpList_load1 F rfl rfl rfl (by first | exact m0 | exact m1) (f := 1) (v := .float .f32 y1') rfl ukindFloat32 ?_) | (with_reducible refine wpList_load1 F rfl rfl rfl (by first | exact m0 | exact m1) (f := 2) (v := v2') rfl ukindFloat32S ?_)) | (go_at_call 43; ((with_reducible refine (H2.out _ F.below).mono ?_); rintro e w1 ⟨rfl, hl⟩; replace F := F.le hl; clear hl)) | ((with_reducible refine at_convert rfl ?_); (with_reducible refine wpList_widen rfl rfl rfl Try.underlying22 Try.underlying26 ?_; intro s1 n1 h1 f1)) | (go_at_call 17; ((with_reducible refine (sameFloat_yes _ _ _ (by first | exact (Hid.out ‹Hid (can .f64 _ = can .f64 (widen y0))›).trans ((congrArg (can .f64) (widen_congr E0.out)).trans (Hid.out ‹Hid (can .f64 _ = can .f64 (widen y0'))›).symm) | exact (Hid.out ‹Hid (can .f64 _ = can .f64 (widen y1))›).trans ((congrArg (can .f64) (widen_congr E1.out)).trans (Hid.out ‹Hid (can .f64 _ = can .f64 (widen y1'))›).symm))).mono ?_); rintro e w7 ⟨rfl, dq7, rfl⟩; skip)))
  go_ret
  first | exact ⟨rfl, F.below⟩ | exact ⟨rfl, below_drewN F.below _⟩
set_option maxRecDepth 100000 in
set_option maxHeartbeats 4000000 in
theorem toU_Tuning (B : Nat) (cs : List CD) (vs : List Value) (w : World) (h : RdL w B cs vs) (hsh : ShOkL shTuning cs) (hz : szL cs ≤ 1048576) :
    Calls Try.prog 24 #[.agg vs.toArray] w (OutA' (cs.map CD.cp) w) := by
  obtain ⟨c0, cs, rfl, q0, hsh⟩ := hsh.inv
  obtain ⟨c1, cs, rfl, q1, hsh⟩ := hsh.inv
  obtain ⟨c2, cs, rfl, q2, hsh⟩ := hsh.inv
  obtain rfl := hsh.inv0
  obtain ⟨v0, vs, rfl, r0, h⟩ := h.inv
  obtain ⟨v1, vs, rfl, r1, h⟩ := h.inv
  obtain ⟨v2, vs, rfl, r2, h⟩ := h.inv
  obtain rfl := h.inv0
  have q0 : c0.flk = some .f32 := q0
  obtain ⟨y0, rfl, f0, e0⟩ := r0.fl q0
  have q1 : c1.flk = some .f32 := q1
  obtain ⟨y1, rfl, f1, e1⟩ := r1.fl q1
  simp only [szL, List.map_cons, List.map_nil, List.sum_cons, List.sum_nil] at hz
  obtain ⟨n2, x2, rfl, q2⟩ := q2
  have H2 := hid (fun (w' : World) (hl : le w w') => toU_Float32S B _ _ v2 w' (r2.le hl) q2 (by omega))
  have F := (((Frg.nil w).box 32 #[.float .f32 y0, .float .f32 y1, v2]).box 35 #[.float .f32 0, .float .f32 0, .slice none 0 0]).box 35 #[.float .f32 0, .float .f32 0, .slice none 0 0]
  simp only [World.size_alloc] at F
  clear hz
  go_enter Try.func24, Try.ntmps24
  go_wp2_with (first | ((with_reducible refine listN F ?_); clear F; intro wN F) | ((with_reducible refine at_load rfl ?_); first | (with_reducible refine wpList_load1 F rfl rfl rfl (by first | exact m0 | exact m1 | exact m2 | exact m3) (f := 0) (v := .float .f32 y0) rfl ukindFloat32 ?_) | (with_reducible refine wpList_load1 F rfl rfl rfl (by first | exact m0 | exact m1 | exact m2 | exact m3) (f := 1) (v := .float .f32 y1) rfl ukindFloat32 ?_) | (with_reducible refine wpList_load1 F rfl rfl rfl (by first | exact m0 | exact m1 | exact m2 | exact m3) (f := 2) (v := v2) rfl ukindFloat32S ?_)) | (with_reducible refine stop_store rfl ?_))
  show wpList _ _ _ _ _ _
  refine wpList_store1 rfl rfl (f := 0) rfl rfl (F.row m0) uinfo1Float32 (by simp) rfl #[.float .f32 y0, .float .f32 0, .slice none 0 0] rfl (fun w2 K => ?_)
  replace F := F.wrI0 (cs' := #[.float .f32 y0, .float .f32 0, .slice none 0 0]) K
  clear K
  go_wp2_with (first | ((with_reducible refine listN F ?_); clear F; intro wN F) | ((with_reducible refine at_load rfl ?_); first | (with_reducible refine wpList_load1 F rfl rfl rfl (by first | exact m0 | exact m1 | exact m2 | exact m3) (f := 0) (v := .float .f32 y0) rfl ukindFloat32 ?_) | (with_reducible refine wpList_load1 F rfl rfl rfl (by first | exact m0 | exact m1 | exact m2 | exact m3) (f := 1) (v := .float .f32 y1) rfl ukindFloat32 ?_) | (with_reducible refine wpList_load1 F rfl rfl rfl (by first | exact m0 | exact m1 | exact m2 | exact m3) (f := 2) (v := v2) rfl ukindFloat32S ?_)) | (with_reducible refine stop_store rfl ?_))
  show wpList _ _ _ _ _ _
  refine wpList_store1 rfl rfl (f := 1) rfl rfl (F.row m0) uinfo1Float32 (by simp) rfl #[.float .f32 y0, .float .f32 y1, .slice none 0 0] rfl (fun w2 K => ?_)
  replace F := F.wrI0 (cs' := #[.float .f32 y0, .float .f32 y1, .slice none 0 0]) K
  clear K
  go_wp2_with (first | ((with_reducible refine listN F ?_); clear F; intro wN F) | ((with_reducible refine at_load rfl ?_); first | (with_reducible refine wpList_load1 F rfl rfl rfl (by first | exact m0 | exact m1 | exact m2 | exact m3) (f := 0) (v := .float .f32 y0) rfl ukindFloat32 ?_) | (with_reducible refine wpList_load1 F rfl rfl rfl (by first | exact m0 | exact m1 | exact m2 | exact m3) (f := 1) (v := .float .f32 y1) rfl ukindFloat32 ?_) | (with_reducible refine wpList_load1 F rfl rfl rfl (by first | exact m0 | exact m1 | exact m2 | exact m3) (f := 2) (v := v2) rfl ukindFloat32S ?_)) | (go_at_call 58; ((with_reducible refine (H2.out _ F.below).mono ?_); rintro e w1 ⟨u2, rfl, ho, hl⟩; have O2 := hid ho.one; replace F := F.lay1 hl (LayL.cons ho (LayL.nil _ (fun _ => False)) (fun _ h => h) (fun _ h => h.elim) (fun _ _ h => h)); clear ho hl)) | (with_reducible refine stop_store rfl ?_))
  show wpList _ _ _ _ _ _
  refine wpList_store1 rfl rfl (f := 2) rfl rfl (F.row m1) uinfo1Float32S (by simp) O2.out #[.float .f32 y0, .float .f32 y1, u2] rfl (fun w2 K => ?_)
  replace F := F.wrI1 (cs' := #[.float .f32 y0, .float .f32 y1, u2]) K
  clear K
  go_wp2_with (first | ((with_reducible refine listN F ?_); clear F; intro wN F) | ((with_reducible refine at_load rfl ?_); (with_reducible refine wpList_loadG F rfl rfl rfl (by first | exact m0 | exact m1) Try.underlying35 rfl uinfoTuningI rfl ?_)) | (with_reducible refine stop_store rfl ?_))
  show wpList _ _ _ _ _ _
  refine wpList_storeD rfl rfl rfl (cells := #[.float .f32 y0, .float .f32 y1, u2]) rfl (F.row m2) uinfoTuningI rfl (by (simp only [List.all_toArray', List.all_cons, List.all_nil, Bool.and_true, Bool.true_and, O2.out]) <;> rfl) (fun w6 K => ?_)
  have R := hid K.row
  replace F := F.wrI2 K
  have E0 := Eaten.start F
  replace E0 := Eaten.eat F E0
  replace F := F.tl
  replace E0 := Eaten.leaf (c := CD.cp c1) (v := .float .f32 y1) E0 (r1.leafLay (flk_ne q1))
  replace E0 := Eaten.leaf (c := CD.cp c0) (v := .float .f32 y0) E0 (r0.leafLay (flk_ne q0))
  have L := hid (show LayL _ _ _ _ ∧ le w _ from ⟨E0.fin, F.below⟩)
  clear K F E0
  go_wp2
  exact bodyPost_ret (results_row1 rfl _ _ _ _ _ rfl R.out Try.underlying35 rfl uinfoTuningI) rfl ⟨[.float .f32 y0, .float .f32 y1, u2], rfl, L.out.1, L.out.2⟩
end Go.Proofs.Yteblmkamopfkiaa

/- The laws' helpers for Tuning, over trees of data. -/
namespace Go.Proofs.Yteblmkamopfkiaa
open Go.RowKit Go.Fk
theorem mtU_Tuning {cs : List CD} (hsh : ShOkL shTuning cs) : mtL cs = szL cs := by
  obtain ⟨c0, cs, rfl, q0, hsh⟩ := hsh.inv
  obtain ⟨c1, cs, rfl, q1, hsh⟩ := hsh.inv
  obtain ⟨c2, cs, rfl, q2, hsh⟩ := hsh.inv
  obtain rfl := hsh.inv0
  have q0 : c0.flk = some .f32 := q0
  have q1 : c1.flk = some .f32 := q1
  obtain ⟨n2, x2, rfl, q2⟩ := q2
  simp only [mtL, szL, List.map_cons, List.map_nil, List.sum_cons, List.sum_nil, CD.mt_fl q0, CD.sz_fl q0, CD.mt_fl q1, CD.sz_fl q1, CD.mt_flts (ShOk.flts q2 rfl), CD.sz_flts (ShOk.flts q2 rfl)]
set_option maxRecDepth 100000 in
set_option maxHeartbeats 4000000 in
theorem markU_Tuning (S : Nat → Prop) (cs : List CD) (vs : List Value) (z : Int) (w : World) (hsh : ShOkL shTuning cs) (hn : mtL cs ≤ 1048576) (hz : 0 ≤ z) (hz2 : z + (mtL cs : Nat) ≤ 16777216) (h : LayL w S cs vs) :
    Calls Try.prog 31 #[.agg vs.toArray, .int .i64 z] w fun e w' => e = .returned (.int .i64 (z + (mtL cs : Nat))) ∧ LayL w' S (mkL cs z) vs ∧ Chg S w w' := by
  obtain ⟨c0, cs, rfl, q0, hsh⟩ := hsh.inv
  obtain ⟨c1, cs, rfl, q1, hsh⟩ := hsh.inv
  obtain ⟨c2, cs, rfl, q2, hsh⟩ := hsh.inv
  obtain rfl := hsh.inv0
  have q0 : c0.flk = some .f32 := q0
  have q1 : c1.flk = some .f32 := q1
  obtain ⟨n2, x2, rfl, q2⟩ := q2
  obtain ⟨a0, ha0⟩ : ∃ a : Nat, a = mtL ([.sl 1 n2 x2] : List CD) := ⟨_, rfl⟩
  have hs : mtL ([c0, c1, .sl 1 n2 x2] : List CD) = a0 := by
    rw [show ([c0, c1, .sl 1 n2 x2] : List CD) = ([c0, c1] : List CD) ++ ([.sl 1 n2 x2] : List CD) from rfl]
    simp only [mtL_append]
    have l0 := (mkL_leaf (cs := [c0, c1]) (noL_cons (noS_fl q0) (noL_cons (noS_fl q1) noL_nil))).1
    omega
  rw [hs] at hn hz2 ⊢
  obtain ⟨g0, r0, A0, B0, rfl, l0, h0, a0_, b0_, d0⟩ := LayL.split (a := [c0, c1]) (b := [.sl 1 n2 x2]) h
  have l1 := h0
  have L0 := hid l0
  obtain ⟨v0, rr, _, _, rfl, e0, l0, _, _, _⟩ := l0.inv
  obtain ⟨v1, rr, _, _, rfl, e1, l0, _, _, _⟩ := l0.inv
  obtain rfl := l0.inv0
  have L1 := hid l1
  obtain ⟨v2, rr, _, _, rfl, e2, l1, _, _, _⟩ := l1.inv
  obtain rfl := l1.inv0
  have SS0 : ∀ j, B0 j → S j := fun j x => b0_ j (x)
  have K0 := hid (L1.out.lt)
  have F := (Frg.nil w).box 35 #[v0, v1, v2]
  have CH := hid (Chg.refl S w)
  obtain ⟨N0, hN0⟩ : ∃ N0, N0 = w.heap.size := ⟨_, rfl⟩
  have HW := hid hN0; have SZ := hid hN0; clear hN0
  have M0 : ∀ (zz : Int) (w1 : World), 0 ≤ zz → zz + (a0 : Int) ≤ 16777216 → LayL w1 (fun j => B0 j ∧ j < w.heap.size) ([.sl 1 n2 x2] : List CD) [v2] → Calls Try.prog 44 #[v2, .int .i64 zz] w1 fun e w2 => e = .returned (.int .i64 (zz + (a0 : Int))) ∧ LayL w2 (fun j => B0 j ∧ j < w.heap.size) (mkL ([.sl 1 n2 x2] : List CD) zz) [v2] ∧ Chg (fun j => B0 j ∧ j < w.heap.size) w1 w2 := by
    intro zz w1 h0 h1 h
    rw [ha0] at h1 ⊢
    exact markU_Float32S _ n2 x2 v2 zz _ (by omega) h0 (by omega) q2 h
  replace M0 := hid M0
  replace ha0 := hid ha0
  replace hs := hid hs
  go_enter Try.func31, Try.ntmps31
  go_wp2_with (first | ((with_reducible refine listN F ?_); clear F; intro wN F) | ((with_reducible refine at_load rfl ?_); first | (with_reducible refine wpList_load1 F rfl rfl rfl (by first | exact m0 | exact m1 | exact m2) (f := 0) (v := v0) rfl ukindFloat32 ?_) | (with_reducible refine wpList_load1 F rfl rfl rfl (by first | exact m0 | exact m1 | exact m2) (f := 1) (v := v1) rfl ukindFloat32 ?_) | (with_reducible refine wpList_load1 F rfl rfl rfl (by first | exact m0 | exact m1 | exact m2) (f := 2) (v := v2) rfl ukindFloat32S ?_)))
  first | ((with_reducible refine callAt0 F ?_); clear F; intro wN F) | ((with_reducible refine callAtN F ?_); clear F; intro wN F)
  refine (M0.out z _ (by omega) (by omega) (K0.out.le F.below)).mono ?_
  rintro e w4 ⟨rfl, hl, hc⟩
  obtain ⟨wb0, F2, hcb, hsz, heq⟩ := F.rebase hc (fun j hj => by have := hj.2; have := SZ.out; have := HW.out; omega)
  replace K0 := hid (hl.ok (fun j hj => heq j (by have := hj.2; have := SZ.out; have := HW.out; omega)))
  replace CH := hid (CH.out.trans (hcb.mono (fun j x => SS0 j x.1)))
  replace SZ := hid (SZ.out.trans hsz.symm)
  clear hl heq hcb hsz hc F
  have F := F2
  clear F2
  go_wp2_with (first | ((with_reducible refine listN F ?_); clear F; intro wN F) | ((with_reducible refine at_load rfl ?_); first | (with_reducible refine wpList_load1 F rfl rfl rfl (by first | exact m0 | exact m1 | exact m2) (f := 0) (v := v0) rfl ukindFloat32 ?_) | (with_reducible refine wpList_load1 F rfl rfl rfl (by first | exact m0 | exact m1 | exact m2) (f := 1) (v := v1) rfl ukindFloat32 ?_) | (with_reducible refine wpList_load1 F rfl rfl rfl (by first | exact m0 | exact m1 | exact m2) (f := 2) (v := v2) rfl ukindFloat32S ?_)))
  go_ret
  replace ha0 := ha0.out
  replace hs := hs.out
  refine ⟨ret_i (by omega), ?_, CH.out.le F.below⟩
  rw [show ([c0, c1, .sl 1 n2 x2] : List CD) = (([c0, c1] : List CD) ++ ([.sl 1 n2 x2] : List CD)) from rfl]
  simp only [mkL_append]
  have lf0 := (mkL_leaf (cs := [c0, c1]) (noL_cons (noS_fl q0) (noL_cons (noS_fl q1) noL_nil))).1
  exact (LayL.append (L0.out.leafs (noL_cons (noS_fl q0) (noL_cons (noS_fl q1) noL_nil)) _) (((K0.out.le F.below).mono (fun j x => x.1)).atz (by omega)) a0_ b0_ d0)
set_option maxRecDepth 100000 in
set_option maxHeartbeats 4000000 in
theorem heldU_Tuning (B : Nat) (cs : List CD) (vs : List Value) (z : Int) (w : World) (hsh : ShOkL shTuning cs) (hn : mtL cs ≤ 1048576) (hz : 0 ≤ z) (hz2 : z + (mtL cs : Nat) ≤ 16777216) (h : RdL w B (mkL cs z) vs) :
    Calls Try.prog 32 #[.agg vs.toArray, .int .i64 z] w fun e w' => e = .returned (.int .i64 (z + (mtL cs : Nat))) ∧ le w w' := by
  obtain ⟨c0, cs, rfl, q0, hsh⟩ := hsh.inv
  obtain ⟨c1, cs, rfl, q1, hsh⟩ := hsh.inv
  obtain ⟨c2, cs, rfl, q2, hsh⟩ := hsh.inv
  obtain rfl := hsh.inv0
  have q0 : c0.flk = some .f32 := q0
  have q1 : c1.flk = some .f32 := q1
  obtain ⟨n2, x2, rfl, q2⟩ := q2
  obtain ⟨a0, ha0⟩ : ∃ a : Nat, a = mtL ([.sl 1 n2 x2] : List CD) := ⟨_, rfl⟩
  have hs : mtL ([c0, c1, .sl 1 n2 x2] : List CD) = a0 := by
    rw [show ([c0, c1, .sl 1 n2 x2] : List CD) = ([c0, c1] : List CD) ++ ([.sl 1 n2 x2] : List CD) from rfl]
    simp only [mtL_append]
    have l0 := (mkL_leaf (cs := [c0, c1]) (noL_cons (noS_fl q0) (noL_cons (noS_fl q1) noL_nil))).1
    omega
  rw [hs] at hn hz2 ⊢
  have lf0 := (mkL_leaf (cs := [c0, c1]) (noL_cons (noS_fl q0) (noL_cons (noS_fl q1) noL_nil))).1
  rw [show ([c0, c1, .sl 1 n2 x2] : List CD) = (([c0, c1] : List CD) ++ ([.sl 1 n2 x2] : List CD)) from rfl] at h
  simp only [mkL_append] at h
  obtain ⟨g0, r0, rfl, l0, h0⟩ := h.split
  have l1 := h0
  replace l0 := l0.leafs (noL_cons (noS_fl q0) (noL_cons (noS_fl q1) noL_nil))
  have L0 := hid l0
  obtain ⟨v0, rr, rfl, e0, l0⟩ := l0.inv
  obtain ⟨v1, rr, rfl, e1, l0⟩ := l0.inv
  obtain rfl := l0.inv0
  replace l1 := l1.atz (z' := z) (by omega)
  have L1 := hid l1
  simp only [mkL] at l1
  obtain ⟨v2, rr, rfl, e2, l1⟩ := l1.inv
  obtain rfl := l1.inv0
  have F := (Frg.nil w).box 35 #[v0, v1, v2]
  have hz_0 : ¬ ((z + (a0 : Int)) < 0) := by omega
  have M0 : ∀ (w1 : World), le w w1 → Calls Try.prog 45 #[v2, .int .i64 z] w1 fun e w2 => e = .returned (.int .i64 (z + (a0 : Int))) ∧ le w1 w2 := by
    intro w1 h
    rw [show (a0 : Int) = (mtL ([.sl 1 n2 x2] : List CD) : Nat) by rw [ha0]]
    exact heldU_Float32S _ n2 x2 v2 z _ (by omega) (by omega) (by omega) q2 (L1.out.le h)
  replace M0 := hid M0
  replace ha0 := hid ha0
  replace hs := hid hs
  go_enter Try.func32, Try.ntmps32
  go_wp2_with (first | ((with_reducible refine listN F ?_); clear F; intro wN F) | ((with_reducible refine at_load rfl ?_); first | (with_reducible refine wpList_load1 F rfl rfl rfl (by first | exact m0 | exact m1 | exact m2) (f := 0) (v := v0) rfl ukindFloat32 ?_) | (with_reducible refine wpList_load1 F rfl rfl rfl (by first | exact m0 | exact m1 | exact m2) (f := 1) (v := v1) rfl ukindFloat32 ?_) | (with_reducible refine wpList_load1 F rfl rfl rfl (by first | exact m0 | exact m1 | exact m2) (f := 2) (v := v2) rfl ukindFloat32S ?_)) | (go_at_call 45; ((with_reducible refine (M0.out _ F.below).mono ?_); rintro e w1 ⟨rfl, hl⟩; replace F := F.le hl; clear hl)))
  go_ret
  exact ⟨ret_i (by omega), F.below⟩
end Go.Proofs.Yteblmkamopfkiaa

/- As FreeD, where it is known besides that no two operations of a region run at one time: what one has made is there when the other starts, or the other way round. So what they make lies apart. Nothing here names a program. -/
namespace Go.Fk
open Go Go.RowKit

/-- What is known of each operation's value: 'z' is the number of blocks where it started. -/
abbrev FactsZ := Nat → Nat → World → Prop
def FactsZ.with (F : FactsZ) (k : Nat) (V : Nat → World → Prop) : FactsZ := fun e z w => F e z w ∧ (e = k → V z w)

section
variable (E : Ext) (P : Program) (ops : Array Oper) (md : Region.Mode) (W : World) (K : FuncId → Array Value → Nat → World → Value → Prop)
/-- One operation was over where the other started. -/
def beforeZ (zs : Nat → Nat) (F : FactsZ) (w : World) (p q : Nat) : Prop := ∃ w', E.R W w' ∧ E.R w' w ∧ w'.heap.size = zs q ∧ F p (zs p) w'
def crossZ (zs : Nat → Nat) (F : FactsZ) (w : World) : Prop := ∀ p q, p ≠ q → beforeZ E W zs F w p q ∨ beforeZ E W zs F w q p
/-- What is known where an operation starts: of those that it comes behind, and of their order. -/
def behindZ (o : Oper) (F : FactsZ) (w : World) : Prop := ∃ zs : Nat → Nat, (∀ e ∈ o.after, Region.binds md e = true → F e.on (zs e.on) w) ∧
  ∀ p ∈ o.after, Region.binds md p = true → ∀ q ∈ o.after, Region.binds md q = true → p.on ≠ q.on → beforeZ E W zs F w p.on q.on ∨ beforeZ E W zs F w q.on p.on
def MonoZ (V : Nat → World → Value → Prop) : Prop := ∀ z v w w', E.R w w' → V z w v → V z w' v
def YieldsZ (o : Oper) (a : Act) (F : FactsZ) (V : Nat → World → Value → Prop) : Prop :=
  MonoZ E V ∧ ((Region.wanted o (yielded ops a.tmps) = true ∧ ∀ w, E.R W w → behindZ E md W o F w → insideT E P (fun f args => K f args w.heap.size) w (V w.heap.size) ((execOp a.eval o).run P w)) ∨ (Region.wanted o (yielded ops a.tmps) = false ∧ ∀ w, E.R W w → behindZ E md W o F w → V w.heap.size w undef))
def metZ (F : FactsZ) : Prop := ∃ w zs, E.R W w ∧ (∀ e, F e (zs e) w) ∧ crossZ E W zs F w
def wpFreeZ (Q : Act → World → Prop) : List Oper → Nat → Act → FactsZ → Prop
  | [], _, a, F => ∀ w zs, E.R W w → (∀ e, F e (zs e) w) → crossZ E W zs F w → Q a w
  | o :: rest, k, a, F => ∃ V, YieldsZ E P ops md W K o a F V ∧ ∀ v, metZ E W (F.with k (fun z w => V z w v)) → wpFreeZ Q rest (k + 1) (a.put o.dst v) (F.with k (fun z w => V z w v))
def anyFreeZ (n : Nat) (L : Array Bool → Act → FactsZ → Prop) : Nat → Array Bool → Act → FactsZ → Prop
  | 0, listed, a, F => L listed a F
  | f + 1, listed, a, F => Region.ready md ops listed ≠ [] ∧
      ∀ i ∈ Region.ready md ops listed, i < n ∧ ∀ o, ops[i]? = some o → ∃ V, YieldsZ E P ops md W K o a F V ∧ ∀ v, metZ E W (F.with i (fun z w => V z w v)) → anyFreeZ n L f (listed.setIfInBounds i true) (a.put o.dst v) (F.with i (fun z w => V z w v))
def FMonoZ (F : FactsZ) : Prop := ∀ w w', E.R w w' → ∀ e z, F e z w → F e z w'
/-- Of what is not listed, nothing is told. -/
def TrivZ (listed : Array Bool) (F : FactsZ) : Prop := ∀ i, listed.getD i true = false → ∀ z w, F i z w
end

section
variable {E : Ext} {P : Program} {ops : Array Oper} {md : Region.Mode} {W : World} {K : FuncId → Array Value → Nat → World → Value → Prop}
theorem FMonoZ.with {F : FactsZ} (h : FMonoZ E F) {V : Nat → World → Value → Prop} (hV : MonoZ E V) (k : Nat) (v : Value) : FMonoZ E (F.with k (fun z w => V z w v)) := fun w w' hw e z hF =>
  ⟨h w w' hw e z hF.1, fun he => hV z v w w' hw (hF.2 he)⟩
theorem beforeZ.weaken {F F' : FactsZ} (h : ∀ e z w, F' e z w → F e z w) {zs : Nat → Nat} {w : World} {p q : Nat} (hb : beforeZ E W zs F' w p q) : beforeZ E W zs F w p q := by
  obtain ⟨w', b1, b2, b3, b4⟩ := hb; exact ⟨w', b1, b2, b3, h _ _ _ b4⟩
theorem crossZ.weaken {F F' : FactsZ} (h : ∀ e z w, F' e z w → F e z w) {zs : Nat → Nat} {w : World} (hc : crossZ E W zs F' w) : crossZ E W zs F w := fun p q hpq => (hc p q hpq).imp (·.weaken h) (·.weaken h)
theorem metZ.weaken {F F' : FactsZ} (h : ∀ e z w, F' e z w → F e z w) (hx : metZ E W F') : metZ E W F := by
  obtain ⟨w, zs, hw, hF, hc⟩ := hx; exact ⟨w, zs, hw, fun e => h _ _ _ (hF e), hc.weaken h⟩
theorem behindZ.of {F : FactsZ} {w : World} {zs : Nat → Nat} (hF : ∀ e, F e (zs e) w) (hc : crossZ E W zs F w) (o : Oper) : behindZ E md W o F w := ⟨zs, fun e _ _ => hF e.on, fun p _ _ q _ _ hpq => hc _ _ hpq⟩
theorem crossZ.step {F : FactsZ} {zs : Nat → Nat} {w w' : World} {i : Nat} {V : Nat → World → Prop} (hw : E.R W w) (hl : E.R w w') (h1 : ∀ e, F e (zs e) w) (h2 : crossZ E W zs F w) :
    crossZ E W (fun e => if e = i then w.heap.size else zs e) (F.with i V) w' := by
  intro p q hpq
  by_cases hp : p = i
  · subst hp
    right
    refine ⟨w, hw, hl, by simp, ?_⟩
    simp only [if_neg (Ne.symm hpq)]
    exact ⟨h1 q, fun h => absurd h (Ne.symm hpq)⟩
  · by_cases hq : q = i
    · subst hq
      left
      refine ⟨w, hw, hl, by simp, ?_⟩
      simp only [if_neg hpq]
      exact ⟨h1 p, fun h => absurd h hpq⟩
    · simp only [beforeZ, if_neg hp, if_neg hq]
      rcases h2 p q hpq with ⟨w2, a1, a2, a3, a4⟩ | ⟨w2, a1, a2, a3, a4⟩
      · exact .inl ⟨w2, a1, E.trans a2 hl, a3, a4, fun h => absurd h hp⟩
      · exact .inr ⟨w2, a1, E.trans a2 hl, a3, a4, fun h => absurd h hq⟩
theorem metZ.step {F : FactsZ} {w w' : World} {zs : Nat → Nat} {i : Nat} {V : Nat → World → Prop} (hm : FMonoZ E F) (ht : ∀ z w, F i z w) (hw : E.R W w) (hl : E.R w w') (h1 : ∀ e, F e (zs e) w) (h2 : crossZ E W zs F w) (hv : V w.heap.size w') : metZ E W (F.with i V) := by
  refine ⟨w', fun e => if e = i then w.heap.size else zs e, E.trans hw hl, fun e => ?_, h2.step hw hl h1⟩
  by_cases he : e = i
  · subst he
    simp only [if_true]
    exact ⟨ht _ _, fun _ => hv⟩
  · simp only [if_neg he]
    exact ⟨hm w w' hl e _ (h1 e), fun h => absurd h he⟩
theorem YieldsZ.some {o : Oper} {a : Act} {F : FactsZ} {V : Nat → World → Value → Prop} {i : Nat} (hm : FMonoZ E F) (ht : ∀ z w, F i z w) (hx : metZ E W F) (h : YieldsZ E P ops md W K o a F V) : ∃ v, metZ E W (F.with i (fun z w => V z w v)) := by
  obtain ⟨w, zs, hw, hF, hc⟩ := hx
  rcases h.2 with ⟨_, h⟩ | ⟨_, h⟩
  · obtain ⟨v, w', hl, hv⟩ := insideT_some (h w hw (.of hF hc o))
    exact ⟨v, metZ.step hm ht hw hl hF hc hv⟩
  · exact ⟨undef, metZ.step hm ht hw (E.refl w) hF hc (h w hw (.of hF hc o))⟩
theorem YieldsZ.same {o : Oper} {a a' : Act} {F : FactsZ} {V : Nat → World → Value → Prop} (he : execOp a'.eval o = execOp a.eval o) (hw : Region.wanted o (yielded ops a'.tmps) = Region.wanted o (yielded ops a.tmps))
    (h : YieldsZ E P ops md W K o a F V) : YieldsZ E P ops md W K o a' F V := by
  unfold YieldsZ at *; rw [he, hw]; exact h
theorem YieldsZ.stronger {o : Oper} {a : Act} {F F' : FactsZ} {V : Nat → World → Value → Prop} (hF : ∀ e z w, F' e z w → F e z w) (h : YieldsZ E P ops md W K o a F V) : YieldsZ E P ops md W K o a F' V := by
  have key : ∀ w, behindZ E md W o F' w → behindZ E md W o F w := fun w ⟨zs, h1, h2⟩ => ⟨zs, fun e he hb => hF _ _ _ (h1 e he hb), fun p hp hbp q hq hbq hne => (h2 p hp hbp q hq hbq hne).imp (·.weaken hF) (·.weaken hF)⟩
  refine ⟨h.1, ?_⟩
  rcases h.2 with ⟨h1, h2⟩ | ⟨h1, h2⟩
  · exact .inl ⟨h1, fun w hw hb => h2 w hw (key w hb)⟩
  · exact .inr ⟨h1, fun w hw hb => h2 w hw (key w hb)⟩
theorem YieldsZ.less {o : Oper} {a : Act} {F : FactsZ} {i : Nat} {X : Nat → World → Prop} {V : Nat → World → Value → Prop} (hn : ∀ e ∈ o.after, Region.binds md e = true → e.on ≠ i) (h : YieldsZ E P ops md W K o a (F.with i X) V) : YieldsZ E P ops md W K o a F V := by
  have key : ∀ w, behindZ E md W o F w → behindZ E md W o (F.with i X) w := fun w ⟨zs, h1, h2⟩ => ⟨zs, fun e he hb => ⟨h1 e he hb, fun h => absurd h (hn e he hb)⟩, fun p hp hbp q hq hbq hne => by
    have lift : ∀ (p q : Edge), p ∈ o.after → Region.binds md p = true → beforeZ E W zs F w p.on q.on → beforeZ E W zs (F.with i X) w p.on q.on := fun p q hp hbp ⟨w', b1, b2, b3, b4⟩ => ⟨w', b1, b2, b3, b4, fun h => absurd h (hn p hp hbp)⟩
    exact (h2 p hp hbp q hq hbq hne).imp (lift p q hp hbp) (lift q p hq hbq)⟩
  refine ⟨h.1, ?_⟩
  rcases h.2 with ⟨h1, h2⟩ | ⟨h1, h2⟩
  · exact .inl ⟨h1, fun w hw hb => h2 w hw (key w hb)⟩
  · exact .inr ⟨h1, fun w hw hb => h2 w hw (key w hb)⟩
theorem YieldsZ.more {o : Oper} {a : Act} {F : FactsZ} {i : Nat} {X : Nat → World → Prop} {V : Nat → World → Value → Prop} (h : YieldsZ E P ops md W K o a F V) : YieldsZ E P ops md W K o a (F.with i X) V := h.stronger (fun _ _ _ h => h.1)
theorem wpOp_yieldsZ {i : Nat} {o : Oper} {a : Act} {w : World} {F : FactsZ} {V : Nat → World → Value → Prop} {next : Act → World → Prop} {Q' : Exit → Act → World → Prop} (ho : ops[i]? = some o) (hw : E.R W w) (hB : behindZ E md W o F w) (hg : YieldsZ E P ops md W K o a F V)
    (hn : ∀ v w', E.R w w' → V w.heap.size w' v → next (a.put o.dst v) w') : wpOp P ops Q' i next a w := by
  unfold wpOp
  simp only [ho]
  rcases hg.2 with ⟨hwant, hv⟩ | ⟨hwant, hv⟩
  · rw [if_pos hwant]
    left
    have h3 := hv w hw hB
    unfold Oper.wp
    generalize (execOp a.eval o).run P w = r at h3
    cases r with
    | ok x w' =>
      cases x <;> simp only [insideT] at h3 <;> simp only [Oper.upon]
      case value u => exact hn u _ h3.1 h3.2
      case skip => exact hn undef _ h3.1 h3.2
      case enter f args =>
        refine h3.2.1.mono fun e w'' he => ?_
        obtain ⟨v, rfl, hl, hk⟩ := he
        exact hn v _ (E.trans h3.1 hl) (h3.2.2 w'' v hk)
    | halt x w' => simp only [insideT] at h3
  · rw [if_neg (by simp [hwant])]
    exact hn undef _ (E.refl w) (hv w hw hB)
theorem TrivZ.with {listed : Array Bool} {F : FactsZ} (h : TrivZ listed F) (i : Nat) (V : Nat → World → Prop) (hi : i < listed.size) : TrivZ (listed.setIfInBounds i true) (F.with i V) := fun j hj z w => by
  have hne : j ≠ i := fun e => by
    subst e
    rw [Array.getD_eq_getD_getElem?, Array.getElem?_setIfInBounds_self_of_lt hi] at hj
    simp at hj
  refine ⟨h j ?_ z w, fun e => absurd e hne⟩
  rw [Array.getD_eq_getD_getElem?, Array.getElem?_setIfInBounds_ne (Ne.symm hne)] at hj
  rwa [Array.getD_eq_getD_getElem?]
theorem anyFreeZ_sound {n g : Nat} {L : Array Bool → Act → FactsZ → Prop} {Q' : Exit → Act → World → Prop} (hL : ∀ listed a F w zs, E.R W w → (∀ e, F e (zs e) w) → crossZ E W zs F w → L listed a F → wpAny P md ops Q' g listed a w) :
    ∀ (f : Nat) (listed : Array Bool) (a : Act) (F : FactsZ) (w : World) (zs : Nat → Nat), FMonoZ E F → TrivZ listed F → E.R W w → (∀ e, F e (zs e) w) → crossZ E W zs F w → anyFreeZ E P ops md W K n L f listed a F → wpAny P md ops Q' (f + g) listed a w := by
  intro f
  induction f with
  | zero => intro listed a F w zs _ _ hw hF hc h; rw [Nat.zero_add]; exact hL _ _ _ _ zs hw hF hc h
  | succ f ih =>
    intro listed a F w zs hm ht hw hF hc h
    rw [show f + 1 + g = (f + g) + 1 by omega]
    refine ⟨fun h0 => absurd h0 h.1, fun i hi => ?_⟩
    obtain ⟨hun, o, ho, _⟩ := mem_ready.1 hi
    have hlt : i < listed.size := by
      rcases Nat.lt_or_ge i listed.size with h' | h'
      · exact h'
      · simp [Array.getElem?_eq_none h'] at hun
    obtain ⟨V, hg, hn⟩ := (h.2 i hi).2 o ho
    refine wpOp_yieldsZ ho hw (.of hF hc o) hg (fun v w' hl hv => ?_)
    refine ih _ _ _ _ (fun e => if e = i then w.heap.size else zs e) (hm.with hg.1 i v) (ht.with i _ hlt) (E.trans hw hl) (fun e => ?_) (hc.step hw hl hF) (hn v (metZ.step hm (ht i hun) hw hl hF hc hv))
    by_cases he : e = i
    · subst he
      simp only [if_true]
      exact ⟨ht e hun _ _, fun _ => hv⟩
    · simp only [if_neg he]
      exact ⟨hm w w' hl e _ (hF e), fun h => absurd h he⟩
theorem withZ_comm (F : FactsZ) (i j : Nat) (X Y : Nat → World → Prop) : (F.with i X).with j Y = (F.with j Y).with i X := by
  funext e z w
  unfold FactsZ.with
  exact propext ⟨fun h => ⟨⟨h.1.1, h.2⟩, h.1.2⟩, fun h => ⟨⟨h.1.1, h.2⟩, h.1.2⟩⟩
theorem anyFreeZ_weaken {n : Nat} {L : Array Bool → Act → FactsZ → Prop} (hLm : ∀ listed a F F', (∀ e z w, F' e z w → F e z w) → L listed a F → L listed a F') :
    ∀ (f : Nat) (listed : Array Bool) (a : Act) (F F' : FactsZ), (∀ e z w, F' e z w → F e z w) → anyFreeZ E P ops md W K n L f listed a F → anyFreeZ E P ops md W K n L f listed a F' := by
  intro f
  induction f with
  | zero => intro listed a F F' h hh; exact hLm _ _ _ _ h hh
  | succ f ih =>
    intro listed a F F' h hh
    refine ⟨hh.1, fun i hi => ⟨(hh.2 i hi).1, fun o ho => ?_⟩⟩
    obtain ⟨V, hg, hn⟩ := (hh.2 i hi).2 o ho
    exact ⟨V, hg.stronger h, fun v hv => ih _ _ _ _ (fun e z w hw => ⟨h e z w hw.1, hw.2⟩) (hn v (hv.weaken (fun e z w hw => ⟨h e z w hw.1, hw.2⟩)))⟩
theorem anyFreeZ_first {n i : Nat} {oi : Oper} {V : Nat → World → Value → Prop} {L : Array Bool → Act → FactsZ → Prop} (hi : ops[i]? = some oi) (hsel : ∀ (j : Nat) (o : Oper) cs b, ops[j]? = some o → o.op ≠ .select cs b)
    (hbound : ∀ listed i, HeadInv md ops n listed → i < n → listed.getD i true = false → ∀ j ∈ Region.ready md ops listed, j < n) (hin : i < n)
    (hdone : ∀ listed a F, L listed a F → ∀ j ∈ Region.ready md ops listed, n ≤ j) (hLm : ∀ listed a F F', (∀ e z w, F' e z w → F e z w) → L listed a F → L listed a F') :
    ∀ (f : Nat) (listed : Array Bool) (a : Act) (F : FactsZ), HeadInv md ops n listed →
      (∀ j oj, ops[j]? = some oj → j ≠ i → listed.getD j true = false → (∀ e ∈ oj.after, Region.binds md e = true → e.on ≠ i) → oi.apart ops oj = true) →
      i ∈ Region.ready md ops listed → FMonoZ E F → TrivZ listed F → metZ E W F → YieldsZ E P ops md W K oi a F V →
      (∀ v, metZ E W (F.with i (fun z w => V z w v)) → anyFreeZ E P ops md W K n L f (listed.setIfInBounds i true) (a.put oi.dst v) (F.with i (fun z w => V z w v))) → anyFreeZ E P ops md W K n L (f + 1) listed a F := by
  intro f
  induction f with
  | zero =>
    intro listed a F inv _ hr hm ht hx hg H
    have hun := (mem_ready.1 hr).1
    refine ⟨fun h => (by rw [h] at hr; cases hr), fun j hj => ?_⟩
    have hjn := hbound listed i inv hin hun j hj
    refine ⟨hjn, fun o ho => ?_⟩
    by_cases hji : j = i
    · subst hji
      rw [hi] at ho; cases ho
      exact ⟨V, hg, H⟩
    · obtain ⟨v, hv⟩ := hg.some (i := i) hm (ht i hun) hx
      have := hdone _ _ _ (H v hv) j (ready_mono hj hji)
      omega
  | succ f ih =>
    intro listed a F inv hfree hr hm ht hx hg H
    have hun := (mem_ready.1 hr).1
    refine ⟨fun h => (by rw [h] at hr; cases hr), fun j hj => ?_⟩
    have hjn := hbound listed i inv hin hun j hj
    refine ⟨hjn, fun o ho => ?_⟩
    by_cases hji : j = i
    · subst hji
      rw [hi] at ho; cases ho
      exact ⟨V, hg, H⟩
    · obtain ⟨hjun, oj, hoj, hall⟩ := mem_ready.1 hj
      rw [ho] at hoj; cases hoj
      have hnot : ∀ e ∈ o.after, Region.binds md e = true → e.on ≠ i := fun e he hb heq => by
        have h1 := hall e he hb
        rw [heq, getD_both hun] at h1
        cases h1
      have hap := hfree j o ho hji hjun hnot
      obtain ⟨a1, a2, a3⟩ := Oper.apart_spec hap
      have hsi := fun cs b => hsel i oi cs b hi
      have hsj := fun cs b => hsel j o cs b ho
      have hU : ∀ v : {v // metZ E W (F.with i (fun z w => V z w v))}, ∃ U, YieldsZ E P ops md W K o (a.put oi.dst v.1) (F.with i (fun z w => V z w v.1)) U ∧ ∀ u, metZ E W ((F.with i (fun z w => V z w v.1)).with j (fun z w => U z w u)) →
          anyFreeZ E P ops md W K n L f ((listed.setIfInBounds i true).setIfInBounds j true) ((a.put oi.dst v.1).put o.dst u) ((F.with i (fun z w => V z w v.1)).with j (fun z w => U z w u)) :=
        fun v => ((H v.1 v.2).2 j (ready_mono hj hji)).2 o ho
      obtain ⟨U, hU⟩ := Classical.skolem.1 hU
      obtain ⟨v0, hv0⟩ := hg.some (i := i) hm (ht i hun) hx
      have hone : ∀ v, YieldsZ E P ops md W K o a F (U v) := fun v => ((hU v).1.same (execOp_put o hsj a oi.dst v.1 a1).symm (wanted_put o a oi.dst v.1 a1).symm).less hnot
      have hgood : YieldsZ E P ops md W K o a F (fun z w u => ∀ v, U v z w u) := by
        refine ⟨fun z u w w' hl h v => (hone v).1 z u w w' hl (h v), ?_⟩
        by_cases hw : Region.wanted o (yielded ops a.tmps) = true
        · refine .inl ⟨hw, fun w hw' hb => inside_allT ⟨⟨v0, hv0⟩, trivial⟩ (fun v => ?_)⟩
          rcases (hone v).2 with ⟨_, h3⟩ | ⟨h3, _⟩
          · exact h3 w hw' hb
          · rw [hw] at h3; cases h3
        · refine .inr ⟨by simpa using hw, fun w hw' hb v => ?_⟩
          rcases (hone v).2 with ⟨h3, _⟩ | ⟨_, h3⟩
          · exact absurd h3 hw
          · exact h3 w hw' hb
      refine ⟨_, hgood, ?_⟩
      intro u hu
      have hfree' : ∀ k ok, ops[k]? = some ok → k ≠ i → (listed.setIfInBounds j true).getD k true = false →
          (∀ e ∈ ok.after, Region.binds md e = true → e.on ≠ i) → oi.apart ops ok = true := fun k ok hk hki hun hno => by
        refine hfree k ok hk hki ?_ hno
        by_cases hjk : j = k
        · subst hjk; exact hjun
        · rw [getD_set_ne true hjk] at hun; exact hun
      have hjlt : j < listed.size := by
        rcases Nat.lt_or_ge j listed.size with h' | h'
        · exact h'
        · simp [Array.getElem?_eq_none h'] at hjun
      have hx' : metZ E W (F.with j (fun z w => ∀ v, U v z w u)) := hu
      refine ih (listed.setIfInBounds j true) (a.put o.dst u) (F.with j (fun z w => ∀ v, U v z w u)) (inv.set hj hjn) hfree' (ready_mono hr (Ne.symm hji)) (hm.with hgood.1 j u) (ht.with j _ hjlt) hx' ((hg.same (execOp_put oi hsi a o.dst u a3) (wanted_put oi a o.dst u a3)).more) (fun v hv => ?_)
      rw [Array.setIfInBounds_comm _ _ hji, ← Act.put_comm a v u a2]
      have mv : metZ E W (F.with i (fun z w => V z w v)) := hv.weaken (fun e z w' h' => ⟨h'.1.1, h'.2⟩)
      have mu : metZ E W ((F.with i (fun z w => V z w v)).with j (fun z w => U ⟨v, mv⟩ z w u)) := hv.weaken (fun e z w' h' => ⟨⟨h'.1.1, h'.2⟩, fun he => h'.1.2 he ⟨v, mv⟩⟩)
      exact anyFreeZ_weaken hLm _ _ _ _ _ (fun e z w' h' => ⟨⟨h'.1.1, h'.2⟩, fun he => h'.1.2 he ⟨v, mv⟩⟩) ((hU ⟨v, mv⟩).2 u mu)
theorem anyFreeZ_lex {n g : Nat} {R : Act → World → Prop} (hsel : Region.noSelect ops = true)
    (hbound : ∀ listed i, HeadInv md ops n listed → i < n → listed.getD i true = false → ∀ j ∈ Region.ready md ops listed, j < n) :
    ∀ (l : List Oper) (k : Nat) (listed : Array Bool) (a : Act) (F : FactsZ), (∀ j, j < l.length → l[j]? = ops[k + j]?) → k + l.length = n → HeadInv md ops n listed →
    Region.lexHead md ops g l.length k listed = true → FMonoZ E F → TrivZ listed F → metZ E W F → wpFreeZ E P ops md W K R l k a F →
    anyFreeZ E P ops md W K n (fun listed' a' F' => Region.seqB md ops g n listed' = true ∧ ∀ w zs, E.R W w → (∀ e, F' e (zs e) w) → crossZ E W zs F' w → R a' w) l.length listed a F := by
  intro l
  induction l with
  | nil =>
    intro k listed a F _ hk _ hB _ _ _ h
    have : k = n := by simpa using hk
    subst this
    exact ⟨by simpa [Region.lexHead] using hB, h⟩
  | cons o l ih =>
    intro k listed a F hl hk inv hB hm ht hx h
    have h0 : ops[k]? = some o := by simpa using (hl 0 (by simp)).symm
    simp only [List.length_cons, Region.lexHead, Bool.and_eq_true] at hB
    obtain ⟨⟨hr, hf⟩, hB'⟩ := hB
    have hkn : k < n := by simp only [List.length_cons] at hk; omega
    have hr' : k ∈ Region.ready md ops listed := by simpa using hr
    have hun := (mem_ready.1 hr').1
    have hklt : k < listed.size := by
      rcases Nat.lt_or_ge k listed.size with h' | h'
      · exact h'
      · simp [Array.getElem?_eq_none h'] at hun
    obtain ⟨V, hg, hnext⟩ := h
    exact anyFreeZ_first h0 (Region.noSelect_spec hsel) hbound hkn (fun listed' a' F' hL => seqB_ready hL.1)
      (fun _ _ _ _ hF hL => ⟨hL.1, fun w zs hw h' hc => hL.2 w zs hw (fun e => hF e _ w (h' e)) (fun p q hpq => (hc p q hpq).imp (fun ⟨w', b1, b2, b3, b4⟩ => ⟨w', b1, b2, b3, hF _ _ _ b4⟩) (fun ⟨w', b1, b2, b3, b4⟩ => ⟨w', b1, b2, b3, hF _ _ _ b4⟩))⟩) l.length listed a F inv (Region.free_spec h0 hf) hr' hm ht hx hg
      (fun v hv => ih (k + 1) _ _ _ (fun j hj => by have := hl (j + 1) (by simp; omega); simpa [Nat.add_assoc, Nat.add_comm 1 j] using this) (by simp only [List.length_cons] at hk; omega) (inv.set hr' hkn) hB' (hm.with hg.1 k v) (ht.with k _ hklt)
        hv (hnext v hv))
def noFactsZ : FactsZ := fun _ _ _ => True
/-- A REGION THAT DRAWS ITS ORDER. -/
theorem region_freeZ (K : FuncId → Array Value → Nat → World → Value → Prop) {id : Nat} {Q : Exit → Act → World → Prop} {a : Act} {w : World} {l : List Oper} (hm : P.follows .mixedOrders = true)
    (hB : (Region.noSelect l.toArray && Region.lexHead .any l.toArray 0 l.length 0 (Array.replicate l.toArray.size false)) = true)
    (h : wpFreeZ E P l.toArray .any (w.drewN 1) K (fun a' w' => Q .normal a' w') l 0 a noFactsZ) : (Code.region id l.toArray true).wp P Q a w := by
  simp only [Bool.and_eq_true] at hB
  obtain ⟨hsel, hlex⟩ := hB
  have hbound : ∀ listed i, HeadInv .any l.toArray l.length listed → i < l.length → listed.getD i true = false → ∀ j ∈ Region.ready .any l.toArray listed, j < l.length := by
    intro listed i _ _ _ j hj
    obtain ⟨_, oj, hoj, _⟩ := mem_ready.1 hj
    simpa using (Array.getElem?_eq_some_iff.1 hoj).1
  have H := anyFreeZ_lex (md := .any) (g := 0) hsel hbound l 0 _ a noFactsZ (fun j hj => by simp) (by simp) (head_start _ l.length) hlex (fun _ _ _ _ _ h => h) (fun _ _ _ _ => trivial) ⟨w.drewN 1, fun _ => (w.drewN 1).heap.size, E.refl _, fun _ => trivial, fun p q _ => .inl ⟨_, E.refl _, E.refl _, rfl, trivial⟩⟩ h
  refine wp_region_any hm ?_
  have := anyFreeZ_sound (Q' := Q) (W := w.drewN 1) (g := 0) (fun listed a' F w' zs hw' hF hc hL => ⟨by simpa [Region.seqB] using hL.1, hL.2 w' zs hw' hF hc⟩) _ _ _ _ _ (fun _ => (w.drewN 1).heap.size) (fun _ _ _ _ _ h => h) (fun _ _ _ _ => trivial) (E.refl _) (fun _ => trivial) (fun p q _ => .inl ⟨_, E.refl _, E.refl _, rfl, trivial⟩) H
  rw [Nat.add_zero] at this
  exact this
/-- The same for a region whose last operations are forced to come last, and may write. -/
theorem region_tailZ (K : FuncId → Array Value → Nat → World → Value → Prop) {id : Nat} {Q : Exit → Act → World → Prop} {a : Act} {w : World} {l : List Oper} (n : Nat) (hm : P.follows .mixedOrders = true) (hB : Region.lexTailB .any l.toArray n = true)
    (h : wpFreeZ E P l.toArray .any (w.drewN 1) K (fun a' w' => wpList P l.toArray Q (l.drop n) a' w') (l.take n) 0 a noFactsZ) : (Code.region id l.toArray true).wp P Q a w := by
  simp only [Region.lexTailB, Bool.and_eq_true, decide_eq_true_eq] at hB
  obtain ⟨⟨⟨⟨hsel, hn⟩, hs⟩, hc⟩, hlex⟩ := hB
  have hn' : n < l.length := by simpa using hn
  have htl : (l.take n).length = n := by simp; omega
  have hdl : (l.drop n).length = l.toArray.size - n := by simp
  have hbound : ∀ listed i, HeadInv .any l.toArray n listed → i < n → listed.getD i true = false → ∀ j ∈ Region.ready .any l.toArray listed, j < n := by
    intro listed i inv hi hun j hj
    rcases Nat.lt_or_ge j n with h | h
    · exact h
    · exact absurd hj (tail_waits hs hc hn inv _ i rfl hi hun j h)
  have H := anyFreeZ_lex (md := .any) (g := l.toArray.size - n) hsel hbound (l.take n) 0 _ a noFactsZ (fun j hj => by
    have hj' : j < n := by rw [htl] at hj; exact hj
    simp [hj']) (by simpa using htl) (head_start _ n) (by rw [htl]; exact hlex) (fun _ _ _ _ _ h => h) (fun _ _ _ _ => trivial) ⟨w.drewN 1, fun _ => (w.drewN 1).heap.size, E.refl _, fun _ => trivial, fun p q _ => .inl ⟨_, E.refl _, E.refl _, rfl, trivial⟩⟩ h
  refine wp_region_any hm ?_
  have := anyFreeZ_sound (Q' := Q) (W := w.drewN 1) (g := l.toArray.size - n) (fun listed a' F w' zs hw' hF hc hL => by
    have := wpAny_of_seq (md := .any) (Q' := Q) (l.drop n) n listed a' w' (fun j => by simp [List.getElem?_drop]) (by rw [hdl]; exact hL.1) (hL.2 w' zs hw' hF hc)
    rwa [hdl] at this) _ _ _ _ _ (fun _ => (w.drewN 1).heap.size) (fun _ _ _ _ _ h => h) (fun _ _ _ _ => trivial) (E.refl _) (fun _ => trivial) (fun p q _ => .inl ⟨_, E.refl _, E.refl _, rfl, trivial⟩) H
  rw [htl, show n + (l.toArray.size - n) = l.toArray.size by omega] at this
  exact this
end
end Go.Fk

/- What append leaves, as a fact of memory. Nothing here names a program. -/
namespace Go.Fk
open Go Go.RowKit
def flist (y : Nat → Nat) (n : Nat) : List Value := (List.range n).map (fun j => .float .f32 (y j))
theorem flist_length (y : Nat → Nat) (n : Nat) : (flist y n).length = n := by simp [flist]
theorem flist_get {y : Nat → Nat} {n j : Nat} {u : Value} (h : (flist y n)[j]? = some u) : j < n ∧ u = .float .f32 (y j) := by
  obtain ⟨hj, e⟩ := List.getElem?_eq_some_iff.1 h
  rw [flist_length] at hj
  refine ⟨hj, ?_⟩
  rw [← e]; simp [flist]
theorem flist_get' (y : Nat → Nat) {n j : Nat} (h : j < n) : (flist y n)[j]? = some (.float .f32 (y j)) := by simp [flist, h]
theorem flist_one (y : Nat → Nat) (n : Nat) : ∀ u ∈ flist y n, u.oneCell' = true := by
  intro u hu
  simp only [flist, List.mem_map] at hu
  obtain ⟨j, _, rfl⟩ := hu; rfl
theorem flist_app (y z : Nat → Nat) (n m : Nat) : flist y n ++ flist z m = flist (fun j => if j < n then y j else z (j - n)) (n + m) := by
  apply List.ext_getElem?
  intro j
  by_cases h : j < n
  · rw [List.getElem?_append_left (by rw [flist_length]; exact h), flist_get' _ h, flist_get' _ (by omega), if_pos h]
  · rw [List.getElem?_append_right (by rw [flist_length]; omega), flist_length]
    by_cases h2 : j < n + m
    · rw [flist_get' _ (by omega), flist_get' _ h2, if_neg h]
    · rw [List.getElem?_eq_none (by rw [flist_length]; omega), List.getElem?_eq_none (by rw [flist_length]; omega)]
theorem own_of_row {w : World} {base : Nat} {v : Value} {n : Nat} {y x : Nat → Nat} (h : w.ownsRow base 22 1 v n (flist y n)) (hf : ∀ j, j < n → fits .f32 (y j) ∧ can .f32 (y j) = x j) : OwnS w base w.heap.size v x n := by
  obtain ⟨_, h⟩ := h
  rcases h with h | ⟨g, cap, cur, rfl, hb, hg, h1, h2, h3, h4⟩
  · exact .inl h
  · refine .inr ⟨g, 0, cap, cur, rfl, h1, h2, hb, (Array.getElem?_eq_some_iff.1 hg).1, hg, fun i hi => ⟨y i, ?_, hf i hi⟩⟩
    have h5 : (cur.toList.take (n * 1))[i]? = some (.float .f32 (y i)) := by rw [h4]; exact flist_get' y hi
    rw [Nat.mul_one, List.getElem?_take_of_lt hi] at h5
    rw [Nat.zero_add]; simpa using h5
theorem OwnS.get {w : World} {lo hi q0 n cap : Nat} {x : Nat → Nat} (h : OwnS w lo hi (.slice (some ⟨q0, 0, none⟩) n cap) x n) {i : Nat} (hi' : i < n) : ∃ y, w.cell? ⟨q0, i, none⟩ = some (.float .f32 y) ∧ fits .f32 y ∧ can .f32 y = x i := by
  rcases h with ⟨h, _⟩ | ⟨b, o, cap', cs, h1, h2, h3, h4, h5, h6, h7⟩
  · cases h
  · simp only [Value.slice.injEq, Option.some.injEq, Addr.mk.injEq, and_true] at h1
    obtain ⟨⟨rfl, rfl⟩, _⟩ := h1
    obtain ⟨y, e1, e2⟩ := h7 i hi'
    exact ⟨y, by rw [Nat.zero_add] at e1; exact (h6.cell? i).trans e1, e2⟩
/-- What append has left, in one block of its own. -/
theorem own_tight {w : World} {base : Nat} {v : Value} {n : Nat} {y x : Nat → Nat} (h : w.ownsRow base 22 1 v n (flist y n)) (h1n : 1 ≤ n) (hf : ∀ j, j < n → fits .f32 (y j) ∧ can .f32 (y j) = x j) :
    ∃ q cap cs, v = .slice (some ⟨q, 0, none⟩) n cap ∧ base ≤ q ∧ Row w q 22 cs ∧ OwnS w q (q + 1) v x n := by
  obtain ⟨_, h⟩ := h
  rcases h with ⟨_, h0⟩ | ⟨g, cap, cur, rfl, hb, hg, h1, h2, h3, h4⟩
  · omega
  · refine ⟨g, cap, cur, rfl, hb, hg, .inr ⟨g, 0, cap, cur, rfl, h1, h2, Nat.le_refl _, Nat.lt_succ_self _, hg, fun i hi => ⟨y i, ?_, hf i hi⟩⟩⟩
    have h5 : (cur.toList.take (n * 1))[i]? = some (.float .f32 (y i)) := by rw [h4]; exact flist_get' y hi
    rw [Nat.mul_one, List.getElem?_take_of_lt hi] at h5
    rw [Nat.zero_add]; simpa using h5
theorem le_of_grown {w w' : World} (h : w.grownBy w' none) : le w w' := ⟨h.os, h.tape, h.output, h.size, fun k hk => h.block k hk (by simp)⟩
/-- The raw words of a slice that can be read. -/
theorem RdS.raw {w : World} {B : Nat} {v : Value} {x : Nat → Nat} {n : Nat} (h : RdS w B v x n) (hn : 1 ≤ n) : ∃ (a : Addr) (cap : Nat) (y : Nat → Nat), v = .slice (some a) n cap ∧ n ≤ cap ∧ cap ≤ maxLen ∧ ∀ i, i < n → w.cell? (a.add i) = some (.float .f32 (y i)) ∧ fits .f32 (y i) ∧ can .f32 (y i) = x i := by
  rcases h with ⟨_, rfl⟩ | ⟨a, cap, rfl, h2, h3, h4⟩
  · omega
  · have : ∀ i, ∃ y, i < n → w.cell? (a.add i) = some (.float .f32 y) ∧ fits .f32 y ∧ can .f32 y = x i := fun i => by
      by_cases hi : i < n
      · obtain ⟨_, y, e⟩ := h4 i hi; exact ⟨y, fun _ => e⟩
      · exact ⟨0, fun h => absurd h hi⟩
    obtain ⟨y, hy⟩ := Classical.skolem.1 this
    exact ⟨a, cap, y, rfl, h2, h3, hy⟩
/-- The result's block g, of n cells, is written once; new blocks are made. -/
def outX (g : Nat) (t : TypeId) (n : Nat) (Fin : World → Array Value → Prop) (hm : ∀ w w' cs, le w w' → Fin w cs → Fin w' cs) : Ext where
  R w w' := Chg (· = g) w w' ∧ ((∃ cs, Row w g t cs ∧ cs.size = n) → ∃ cs, Row w' g t cs ∧ cs.size = n) ∧ ((∃ cs, Row w g t cs ∧ Fin w cs) → ∃ cs, Row w' g t cs ∧ Fin w' cs)
  refl w := ⟨Chg.refl _ _, id, id⟩
  trans := fun ⟨h1, h2, h3⟩ ⟨k1, k2, k3⟩ => ⟨h1.trans k1, fun h => k2 (h2 h), fun h => k3 (h3 h)⟩
  of_le := fun h => ⟨Chg.of_le h, fun ⟨cs, hr, hs⟩ => ⟨cs, hr.le h, hs⟩, fun ⟨cs, hr, hf⟩ => ⟨cs, hr.le h, hm _ _ _ h hf⟩⟩
theorem OwnS.chgS {w w' : World} {lo hi : Nat} {s : Value} {x : Nat → Nat} {n : Nat} {S : Nat → Prop} (h : OwnS w lo hi s x n) (k : Chg S w w') (hS : ∀ i, lo ≤ i → i < hi → ¬ S i) : OwnS w' lo hi s x n := by
  rcases h with h | ⟨b, o, cap, cs, h1, h2, h3, h4, h5, h6, h7⟩
  · exact .inl h
  · exact .inr ⟨b, o, cap, cs, h1, h2, h3, h4, h5, k.row h6 (hS b h4 h5), h7⟩
section
variable {P : Program} {ops : Array Oper} {W : World} {K : FuncId → Array Value → World → Value → Prop} {Q : Act → World → Prop} {F : Facts} {k : Nat} {o : Oper} {rest : List Oper} {a : Act}
variable {g : Nat} {t : TypeId} {m : Nat} {Fin : World → Array Value → Prop} {hm : ∀ w w' cs, le w w' → Fin w cs → Fin w' cs}
/-- A value of one cell is loaded, of a block that is not the result's. -/
theorem wpFreeD_cell (hg : o.guard = none) {ty : TypeId} {x : Operand} (hop : o.op = .load ty x) {ad : Addr} (hx : a.eval x = .pointer (some ad)) {v : Value} (hv : W.cell? ad = some v) (hne : ad.block ≠ g) (hu : ∀ w, (isAgg ty).run P w = .ok false w)
    (h : wpFreeD (outX g t m Fin hm) P ops .any W K Q rest (k + 1) (a.put o.dst v) (F.with k (fun _ => True))) : wpFreeD (outX g t m Fin hm) P ops .any W K Q (o :: rest) k a F := by
  refine wpFreeD_one hg v (fun w hw => ?_) h
  have hlt : ad.block < W.heap.size := World.block_lt_of_cell? W _ hv
  have hc : w.cell? ad = some v := (cell_of_heap (hw.1.block _ hlt hne)).trans hv
  have hl : (Instr.loadAt ty (.pointer (some ad))).run P w = .ok v w := by
    simp [Instr.loadAt, Instr.sureAddr, loadVar, hu, hc]
  simp [execOp, hop, hx, hl, Result.andThen]
/-- Append to a slice of no capacity: new memory is taken. -/
theorem wpFreeD_append {s x : Operand} (hg : o.guard = none) {t' : TypeId} (hop : o.op = Op.call { callee := Callee.builtin Builtin.append, args := #[s, x], argTypes := #[t', t'] }) {e : TypeId} (h1 : P.underlying t' = some (.slice e)) {i : TypeInfo} (h2 : P.info? e = some i) (h3 : i.zero = some (.float .f32 0)) (h4 : i.size = 1) (h5 : i.bytes = 4)
    {ao : Option Addr} (hs : a.eval s = .slice ao 0 0) {ad : Addr} {n c : Nat} {y : Nat → Nat} (hx : a.eval x = .slice (some ad) n c) (hn : 1 ≤ n) (hn2 : n ≤ 1048576) (hc : ∀ j, j < n → W.cell? (ad.add j) = some (.float .f32 (y j))) (hne : ad.block ≠ g)
    (h : ∀ q c', wpFreeD (outX g t m Fin hm) P ops .any W K Q rest (k + 1) (a.put o.dst (.slice (some ⟨q, 0, none⟩) n c')) (F.with k (fun w => ∃ B, W.heap.size ≤ B ∧ w.ownsRow B e 1 (.slice (some ⟨q, 0, none⟩) n c') n (flist y n) ∧ g < B))) (hgW : g < W.heap.size) : wpFreeD (outX g t m Fin hm) P ops .any W K Q (o :: rest) k a F := by
  refine ⟨fun w v => ∃ B, W.heap.size ≤ B ∧ w.ownsRow B e 1 v n (flist y n) ∧ g < B, ⟨fun v w w' hw hv => ?_, .inl ⟨by simp [Region.wanted, hg], fun w hw _ => ?_⟩⟩, fun v hv => ?_⟩
  rotate_left 2
  · obtain ⟨w, _, _, B, _, ho, _⟩ := hv
    rcases ho.2 with ⟨_, h0⟩ | ⟨q, c', cur, rfl, _⟩
    · omega
    · exact h q c'
  · obtain ⟨B, hB, ⟨ho1, ho⟩, hgB⟩ := hv
    refine ⟨B, hB, ⟨ho1, ?_⟩, hgB⟩
    rcases ho with ho | ⟨q, cap, cur, e1, e2, e3, e4⟩
    · exact .inl ho
    · exact .inr ⟨q, cap, cur, e1, e2, by have := hw.1.row (g := q) (t := e) (cs := cur) e3 (by omega); exact this, e4⟩
  · have hcw : ∀ j u, (flist y n)[j]? = some u → w.cell? (ad.add j) = some u := by
      intro j u hu
      obtain ⟨hj, rfl⟩ := flist_get hu
      have := hc j hj
      have hlt : (ad.add j).block < W.heap.size := World.block_lt_of_cell? W _ this
      exact (cell_of_heap (hw.1.block _ hlt (by rw [add_block]; exact hne))).trans this
    have hsz := hw.1.size
    cases ao with
    | none =>
      obtain ⟨v', w', hrun, hown, hgr, _⟩ := run_append_own (P := P) (w := w) w.heap.size t' o.type e i (.float .f32 0) 1 4 h1 h2 h3 h4 h5 rfl (by omega) (.slice none 0 0) 0 [] (World.ownsRow_nil w _ e 1) ad n c (flist y n) (by rw [flist_length]; omega) hcw (flist_one y n) (by unfold maxLen; omega) (by omega) (Nat.le_refl _)
      simp only [Nat.zero_add, List.nil_append] at hown
      simp [execOp, hop, resolve, invoke, builtin, hs, hx, hrun, Result.andThen, insideT]
      exact ⟨(outX g t m Fin hm).of_le (le_of_grown hgr), w.heap.size, hsz, hown, by omega⟩
    | some b =>
      obtain ⟨v', w', hrun, hown, hgr⟩ := run_append_arg_grows (P := P) w t' o.type e i (.float .f32 0) 1 4 h1 h2 h3 h4 h5 rfl (by omega) b 0 0 [] rfl (fun j u hu => by simp at hu) ad n c (flist y n) (by rw [flist_length]; omega) hcw (by omega) (by unfold maxLen; omega) (by omega)
      simp only [Nat.zero_add, List.nil_append] at hown
      simp [execOp, hop, resolve, invoke, builtin, hs, hx, hrun, Result.andThen, insideT]
      exact ⟨(outX g t m Fin hm).of_le (le_of_grown hgr), w.heap.size, hsz, hown, by omega⟩
/-- The result is stored. -/
theorem wpFreeD_out (hg : o.guard = none) {ty : TypeId} {x y : Operand} (hop : o.op = .store ty x y) (hx : a.eval x = .pointer (some ⟨g, 0, none⟩)) {cells : Array Value} (hy : a.eval y = .agg cells) (hty : ty = t) {old : Array Value} (hW : Row W g t old) (ho : old.size = m)
    (hF : ∀ w w', (outX g t m Fin hm).R W w → behind .any o F w → Chg (· = g) w w' → Fin w' cells) (hi : (P.info? ty).map (·.size) = some m) (hs : cells.size = m) (h1 : cells.all (·.oneCell') = true)
    (h : wpFreeD (outX g t m Fin hm) P ops .any W K Q rest (k + 1) (a.put o.dst undef) (F.with k (fun w => ∃ cs, Row w g t cs ∧ Fin w cs))) : wpFreeD (outX g t m Fin hm) P ops .any W K Q (o :: rest) k a F := by
  subst hty
  refine ⟨fun w v => v = undef ∧ ∃ cs, Row w g ty cs ∧ Fin w cs, ⟨fun v w w' hw hv => ⟨hv.1, hw.2.2 hv.2⟩, .inl ⟨by simp [Region.wanted, hg], fun w hw hbe => ?_⟩⟩, fun v hv => ?_⟩
  · obtain ⟨cs, hc, hcs⟩ := hw.2.1 ⟨old, hW, ho⟩
    have hrun := run_storeVar_row (P := P) w g ty ty cs cells hc (hs ▸ hi) (hcs.trans hs.symm) h1
    have : (execOp a.eval o).run P w = .ok .skip (w.setRow g cells) := by
      unfold execOp
      simp only [hop, hx, hy, Instr.storeAt, Instr.sureAddr, Sem.run_bind, Sem.run_pure, Result.andThen_ok, hrun]
    rw [this]
    have hrow : Row (w.setRow g cells) g ty cells := hc.setRow _
    have hch : Chg (· = g) w (w.setRow g cells) := (Chg.refl _ w).wrote (wrote_setRow hc) rfl
    have hfin := hF w _ hw hbe hch
    exact ⟨⟨hch, fun _ => ⟨cells, hrow, hs⟩, fun _ => ⟨cells, hrow, hfin⟩⟩, rfl, cells, hrow, hfin⟩
  · obtain ⟨w, _, _, rfl, _⟩ := hv
    exact wpFreeD_weaken _ _ _ _ _ (fun e w h => ⟨h.1, fun he => (h.2 he).2⟩) h
end
section
variable {E : Ext} {P : Program} {ops : Array Oper} {W : World} {K : FuncId → Array Value → World → Value → Prop} {Q : Act → World → Prop} {F : Facts} {k : Nat} {o : Oper} {rest : List Oper} {a : Act}
/-- A quiet operation: one value, in the very world. -/
theorem wpFreeD_quiet (hnc : simple o.op = true) (h : wpQuiet P ops (fun _ => True) (fun a' => wpFreeD E P ops .any W K Q rest (k + 1) a' (F.with k (fun _ => True))) [o] a) : wpFreeD E P ops .any W K Q (o :: rest) k a F := by
  simp only [wpQuiet] at h
  by_cases hw : Region.wanted o (yielded ops a.tmps) = true
  · rw [if_pos hw] at h
    obtain ⟨v, h1, h2⟩ := h
    refine ⟨fun _ u => u = v, ⟨fun _ _ _ _ h => h, .inl ⟨hw, fun w hw' _ => ?_⟩⟩, fun u hu => ?_⟩
    · have h3 := h1 w trivial
      unfold Oper.quietAt at h3
      generalize hrun : (execOp a.eval o).run P w = r at h3
      cases r with
      | ok n w' =>
        cases n <;> simp only [Oper.quietUpon] at h3 <;> simp only [insideT]
        case value u => exact ⟨by rw [h3.1]; exact E.refl w, h3.2⟩
        case skip => exact ⟨by rw [h3.1]; exact E.refl w, h3.2.symm⟩
        case enter f args => exact (noEnter hnc hrun).elim
      | halt x w' => simp only [Oper.quietUpon] at h3
    · obtain ⟨w, _, _, rfl⟩ := hu
      exact wpFreeD_weaken _ _ _ _ _ (fun e w h => ⟨h.1, fun _ => trivial⟩) h2
  · rw [if_neg hw] at h
    refine ⟨fun _ u => u = undef, ⟨fun _ _ _ _ h => h, .inr ⟨by simpa using hw, fun _ _ _ => rfl⟩⟩, fun u hu => ?_⟩
    obtain ⟨w, _, _, rfl⟩ := hu
    exact wpFreeD_weaken _ _ _ _ _ (fun e w h => ⟨h.1, fun _ => trivial⟩) h
/-- An operation of one value; what is known of those that it comes behind is carried on. -/
theorem wpFreeD_carry (hg : o.guard = none) (v : Value) (hr : ∀ w, E.R W w → (execOp a.eval o).run P w = .ok (.value v) w) (V : World → Prop) (hm : ∀ w w', E.R w w' → V w → V w') (hb : ∀ w, E.R W w → behind .any o F w → V w)
    (h : wpFreeD E P ops .any W K Q rest (k + 1) (a.put o.dst v) (F.with k V)) : wpFreeD E P ops .any W K Q (o :: rest) k a F := by
  refine ⟨fun w u => u = v ∧ V w, ⟨fun _ w w' hw h => ⟨h.1, hm w w' hw h.2⟩, .inl ⟨by simp [Region.wanted, hg], fun w hw hbe => ?_⟩⟩, fun u hu => ?_⟩
  · rw [hr w hw]; exact ⟨E.refl w, rfl, hb w hw hbe⟩
  · obtain ⟨w, _, _, rfl, _⟩ := hu
    exact wpFreeD_weaken _ _ _ _ _ (fun e w h => ⟨h.1, fun he => (h.2 he).2⟩) h
/-- An operation that makes one new block. -/
theorem wpFreeD_new (hg : o.guard = none) (f : Nat → Value) (ob : Obj) (hr : ∀ w, (execOp a.eval o).run P w = .ok (.value (f w.heap.size)) (w.alloc ob))
    (h : ∀ b, wpFreeD E P ops .any W K Q rest (k + 1) (a.put o.dst (f b)) (F.with k (fun _ => True))) : wpFreeD E P ops .any W K Q (o :: rest) k a F := by
  refine ⟨fun _ u => ∃ b, u = f b, ⟨fun _ _ _ _ h => h, .inl ⟨by simp [Region.wanted, hg], fun w hw _ => ?_⟩⟩, fun u hu => ?_⟩
  · rw [hr w]; exact ⟨E.of_le (le_alloc w ob), _, rfl⟩
  · obtain ⟨w, _, _, b, rfl⟩ := hu
    exact wpFreeD_weaken _ _ _ _ _ (fun e w h => ⟨h.1, fun _ => trivial⟩) (h b)
end
theorem run_empty {P : Program} (w : World) (t e : TypeId) (ie : TypeInfo) (hu : P.underlying t = some (.slice e)) (hie : P.info? e = some ie) : (Instr.buildSlice t 0 #[]).run P w = .ok (.slice (some ⟨w.heap.size, 0, none⟩) 0 0) (w.alloc (.cells #[] e)) := by
  have h : Instr.fill (fun i => some (i * ie.size, ie.size)) (Array.map (fun _ => (default : Value)) (Array.range 0)) [] = some #[] := by simp [Instr.fill]
  simp [Instr.buildSlice, run_underlying hu, sizeOf, typeInfo, hie, newRow, h]
theorem ownsRow_le {w w' : World} {B : Nat} {e : TypeId} {z : Nat} {v : Value} {n : Nat} {xs : List Value} (h : w.ownsRow B e z v n xs) (hl : le w w') : w'.ownsRow B e z v n xs := by
  obtain ⟨h1, h2⟩ := h
  refine ⟨h1, ?_⟩
  rcases h2 with h2 | ⟨q, cap, cur, e1, e2, e3, e4⟩
  · exact .inl h2
  · exact .inr ⟨q, cap, cur, e1, e2, by have := Row.le (g := q) (t := e) (cs := cur) e3 hl; exact this, e4⟩
/-- What a copy's result is. -/
def FinR (B : Nat) (e : TypeId) (n : Nat) (y : Nat → Nat) (k : Int) (w : World) (cs : Array Value) : Prop := ∃ s, cs = #[s, .int .i64 k] ∧ ∃ B', B ≤ B' ∧ w.ownsRow B' e 1 s n (flist y n)
theorem FinR_le (B : Nat) (e : TypeId) (n : Nat) (y : Nat → Nat) (k : Int) : ∀ w w' cs, le w w' → FinR B e n y k w cs → FinR B e n y k w' cs := fun _ _ _ hl ⟨s, h, B', hB, h2⟩ => ⟨s, h, B', hB, ownsRow_le h2 hl⟩
theorem ownsRow_out {g : Nat} {t : TypeId} {m : Nat} {Fin : World → Array Value → Prop} {hm : ∀ w w' cs, le w w' → Fin w cs → Fin w' cs} {w w' : World} {e : TypeId} {n B : Nat} {xs : List Value} {v : Value} (hw : (outX g t m Fin hm).R w w') (h : w.ownsRow B e 1 v n xs) (hg : g < B) : w'.ownsRow B e 1 v n xs := by
  obtain ⟨h1, h2⟩ := h
  refine ⟨h1, ?_⟩
  rcases h2 with h2 | ⟨q, cap, cur, e1, e2, e3, e4⟩
  · exact .inl h2
  · exact .inr ⟨q, cap, cur, e1, e2, by have := hw.1.row (g := q) (t := e) (cs := cur) e3 (by omega); exact this, e4⟩
theorem ownsRow_ch {g : Nat} {w w' : World} {e : TypeId} {n B : Nat} {xs : List Value} {v : Value} (hw : Chg (· = g) w w') (h : w.ownsRow B e 1 v n xs) (hg : g < B) : w'.ownsRow B e 1 v n xs := by
  obtain ⟨h1, h2⟩ := h
  refine ⟨h1, ?_⟩
  rcases h2 with h2 | ⟨q, cap, cur, e1, e2, e3, e4⟩
  · exact .inl h2
  · exact .inr ⟨q, cap, cur, e1, e2, by have := hw.row (g := q) (t := e) (cs := cur) e3 (by omega); exact this, e4⟩
theorem ownsRow_one {w : World} {B : Nat} {e : TypeId} {z : Nat} {v : Value} {n : Nat} {xs : List Value} (h : w.ownsRow B e z v n xs) : v.oneCell' = true := by
  rcases h.2 with ⟨rfl, _⟩ | ⟨q, cap, cur, rfl, _⟩ <;> rfl
namespace Frg
variable {w0 w w' : World}
/-- The two newest facts' blocks are written. -/
theorem chg2 {e1 e2 e1' e2' : Fact} {l : List Fact} (h : Frg w0 w (e1 :: e2 :: l)) (k : Chg (fun i => rng e1.lo e1.hi i ∨ rng e2.lo e2.hi i) w w') (p1 : e1'.p w') (p2 : e2'.p w') (l1 : e1'.lo = e1.lo) (h1 : e1'.hi = e1.hi) (l2 : e2'.lo = e2.lo) (h2 : e2'.hi = e2.hi) : Frg w0 w' (e1' :: e2' :: l) := by
  have f1 := h.facts e1 (by simp)
  have f2 := h.facts e2 (by simp)
  have a1 := List.pairwise_cons.1 h.apart
  have a2 := List.pairwise_cons.1 a1.2
  have b12 := a1.1 e2 (by simp)
  refine ⟨h.below.trans (k.below (fun i hi => by rcases hi with hi | hi; exact Nat.le_trans f1.1 hi.1; exact Nat.le_trans f2.1 hi.1) h.size), fun x hx => ?_, ?_⟩
  · rcases List.mem_cons.1 hx with rfl | hx
    · exact ⟨by omega, by have := k.size; omega, p1⟩
    rcases List.mem_cons.1 hx with rfl | hx
    · exact ⟨by omega, by have := k.size; omega, p2⟩
    · have hx' := h.facts x (by simp [hx])
      have ha := a2.1 x hx
      have ha1 := a1.1 x (by simp [hx])
      exact ⟨hx'.1, Nat.le_trans hx'.2.1 k.size, x.ok w w' hx'.2.2 (fun i a b => k.block i (by omega) (fun c => by rcases c with c | c <;> (have := c.1; omega)))⟩
  · refine List.pairwise_cons.2 ⟨fun x hx => ?_, List.pairwise_cons.2 ⟨fun x hx => by have := a2.1 x hx; omega, a2.2⟩⟩
    rcases List.mem_cons.1 hx with rfl | hx
    · omega
    · have := a1.1 x (by simp [hx]); omega
/-- A ring's struct and its samples, behind a push. -/
theorem pushed {g lo hi n : Nat} {t : TypeId} {cs cs' : Array Value} {s : Value} {x x' : Nat → Nat} {l : List Fact} (h : Frg w0 w (rowF g t cs :: ownF lo hi s x n :: l)) (hr : Row w' g t cs') (ho : OwnS w' lo hi s x' n) (k : Chg (fun i => i = g ∨ lo ≤ i ∧ i < hi) w w') : Frg w0 w' (rowF g t cs' :: ownF lo hi s x' n :: l) := by
  refine h.chg2 (k.mono (fun i hi' => ?_)) hr ho rfl rfl rfl rfl
  rcases hi' with rfl | hi'
  · exact .inl ⟨Nat.le_refl _, Nat.lt_succ_self _⟩
  · exact .inr hi'
theorem not_in {g lo hi n : Nat} {t : TypeId} {cs : Array Value} {s : Value} {x : Nat → Nat} {l : List Fact} (h : Frg w0 w (rowF g t cs :: ownF lo hi s x n :: l)) : ¬ (lo ≤ g ∧ g < hi) := by
  have a1 : hi ≤ g := (List.pairwise_cons.1 h.apart).1 (ownF lo hi s x n) (by simp)
  omega
/-- The result is stored: what it has is the call's own. -/
theorem fin1 {g lo hi n : Nat} {t : TypeId} {cs cs' : Array Value} {s : Value} {x : Nat → Nat} {e : Fact} {l : List Fact} (h : Frg w0 w (e :: ownF lo hi s x n :: rowF g t cs :: l)) (k : Wrote w w' g t cs') : OwnS w' w0.heap.size w'.heap.size s x n ∧ Fk.le w0 w' := by
  have a1 := (List.pairwise_cons.1 h.apart).2
  have a2 : g + 1 ≤ lo := (List.pairwise_cons.1 a1).1 (rowF g t cs) (by simp)
  have f1 := h.facts (ownF lo hi s x n) (by simp)
  have f2 := h.facts (rowF g t cs) (by simp)
  have hc : Chg (· = g) w w' := (Chg.refl _ w).wrote k rfl
  refine ⟨((OwnS.chgS f1.2.2 hc (fun i h1 h2 h3 => by have h1' : lo ≤ i := h1; have h3' : i = g := h3; omega)).mono f1.1 (Nat.le_trans f1.2.1 hc.size)), h.below.trans (hc.below (fun i hi => by have hi' : i = g := hi; subst hi'; exact f2.1) h.size)⟩
theorem fin0 {g lo hi n : Nat} {t : TypeId} {cs cs' : Array Value} {s : Value} {x : Nat → Nat} {l : List Fact} (h : Frg w0 w (ownF lo hi s x n :: rowF g t cs :: l)) (k : Wrote w w' g t cs') : OwnS w' w0.heap.size w'.heap.size s x n ∧ Fk.le w0 w' := by
  have a2 : g + 1 ≤ lo := (List.pairwise_cons.1 h.apart).1 (rowF g t cs) (by simp)
  have f1 := h.facts (ownF lo hi s x n) (by simp)
  have f2 := h.facts (rowF g t cs) (by simp)
  have hc : Chg (· = g) w w' := (Chg.refl _ w).wrote k rfl
  refine ⟨((OwnS.chgS f1.2.2 hc (fun i h1 h2 h3 => by have h1' : lo ≤ i := h1; have h3' : i = g := h3; omega)).mono f1.1 (Nat.le_trans f1.2.1 hc.size)), h.below.trans (hc.below (fun i hi => by have hi' : i = g := hi; subst hi'; exact f2.1) h.size)⟩
theorem fin2 {g lo hi n : Nat} {t : TypeId} {cs cs' : Array Value} {s : Value} {x : Nat → Nat} {e : Fact} {l : List Fact} (h : Frg w0 w (ownF lo hi s x n :: e :: rowF g t cs :: l)) (k : Wrote w w' g t cs') : OwnS w' w0.heap.size w'.heap.size s x n ∧ Fk.le w0 w' := by
  have a2 : g + 1 ≤ lo := (List.pairwise_cons.1 h.apart).1 (rowF g t cs) (by simp)
  have f1 := h.facts (ownF lo hi s x n) (by simp)
  have f2 := h.facts (rowF g t cs) (by simp)
  have hc : Chg (· = g) w w' := (Chg.refl _ w).wrote k rfl
  refine ⟨((OwnS.chgS f1.2.2 hc (fun i h1 h2 h3 => by have h1' : lo ≤ i := h1; have h3' : i = g := h3; omega)).mono f1.1 (Nat.le_trans f1.2.1 hc.size)), h.below.trans (hc.below (fun i hi => by have hi' : i = g := hi; subst hi'; exact f2.1) h.size)⟩
end Frg
end Go.Fk

/- The laws of drawn regions in which several operations make memory: one operation at a time. Nothing here names a program. -/
namespace Go.Fk
open Go Go.RowKit
theorem wpFreeZ_weaken {E : Ext} {P : Program} {ops : Array Oper} {md : Region.Mode} {W : World} {K : FuncId → Array Value → Nat → World → Value → Prop} {Q : Act → World → Prop} : ∀ (l : List Oper) (k : Nat) (a : Act) (F F' : FactsZ), (∀ e z w, F' e z w → F e z w) → wpFreeZ E P ops md W K Q l k a F → wpFreeZ E P ops md W K Q l k a F' := by
  intro l
  induction l with
  | nil => intro k a F F' h hh w zs hw hF hc; exact hh w zs hw (fun e => h e _ w (hF e)) (hc.weaken h)
  | cons o l ih =>
    intro k a F F' h hh
    obtain ⟨V, hg, hn⟩ := hh
    exact ⟨V, hg.stronger h, fun v hv => ih _ _ _ _ (fun e z w hw => ⟨h e z w hw.1, hw.2⟩) (hn v (hv.weaken (fun e z w hw => ⟨h e z w hw.1, hw.2⟩)))⟩
section
variable {E : Ext} {P : Program} {ops : Array Oper} {W : World} {K : FuncId → Array Value → Nat → World → Value → Prop} {Q : Act → World → Prop} {F : FactsZ} {k : Nat} {o : Oper} {rest : List Oper} {a : Act}
theorem wpFreeZ_nil (h : ∀ w zs, E.R W w → (∀ e, F e (zs e) w) → crossZ E W zs F w → Q a w) : wpFreeZ E P ops .any W K Q [] k a F := h
/-- What has been met has been met with some operation's fact: what that fact says of the value alone may be used. -/
theorem metZ.has {V : Nat → World → Prop} (h : metZ E W (F.with k V)) : ∃ z w, E.R W w ∧ V z w := by
  obtain ⟨w, zs, hw, hF, _⟩ := h
  exact ⟨zs k, w, hw, (hF k).2 rfl⟩
theorem wpFreeZ_oneW (hw : Region.wanted o (yielded ops a.tmps) = true) (v : Value) (hr : ∀ w, E.R W w → (execOp a.eval o).run P w = .ok (.value v) w)
    (h : wpFreeZ E P ops .any W K Q rest (k + 1) (a.put o.dst v) (F.with k (fun _ _ => True))) : wpFreeZ E P ops .any W K Q (o :: rest) k a F := by
  refine ⟨fun _ _ u => u = v, ⟨fun _ _ _ _ _ h => h, .inl ⟨hw, fun w hw _ => ?_⟩⟩, fun u hu => ?_⟩
  · rw [hr w hw]; exact ⟨E.refl w, rfl⟩
  · obtain ⟨_, _, _, rfl⟩ := hu.has
    exact wpFreeZ_weaken _ _ _ _ _ (fun e _ w h => ⟨h.1, fun _ => trivial⟩) h
theorem wpFreeZ_one (hg : o.guard = none) (v : Value) (hr : ∀ w, E.R W w → (execOp a.eval o).run P w = .ok (.value v) w)
    (h : wpFreeZ E P ops .any W K Q rest (k + 1) (a.put o.dst v) (F.with k (fun _ _ => True))) : wpFreeZ E P ops .any W K Q (o :: rest) k a F := wpFreeZ_oneW (by simp [Region.wanted, hg]) v hr h
theorem wpFreeZ_skip (hw : Region.wanted o (yielded ops a.tmps) = false)
    (h : wpFreeZ E P ops .any W K Q rest (k + 1) (a.put o.dst undef) (F.with k (fun _ _ => True))) : wpFreeZ E P ops .any W K Q (o :: rest) k a F := by
  refine ⟨fun _ _ u => u = undef, ⟨fun _ _ _ _ _ h => h, .inr ⟨hw, fun w _ _ => rfl⟩⟩, fun u hu => ?_⟩
  obtain ⟨_, _, _, rfl⟩ := hu.has
  exact wpFreeZ_weaken _ _ _ _ _ (fun e _ w h => ⟨h.1, fun _ => trivial⟩) h
theorem wpFreeZ_load1 (hg : o.guard = none) {ty : TypeId} {x : Operand} (hop : o.op = .load ty x) {p : Addr} (hx : a.eval x = .pointer (some p)) {v : Value} (hv : ∀ w, E.R W w → w.cell? p = some v) (hu : ∀ w, (isAgg ty).run P w = .ok false w)
    (h : wpFreeZ E P ops .any W K Q rest (k + 1) (a.put o.dst v) (F.with k (fun _ _ => True))) : wpFreeZ E P ops .any W K Q (o :: rest) k a F := by
  refine wpFreeZ_one hg v (fun w hw => ?_) h
  have hl : (Instr.loadAt ty (.pointer (some p))).run P w = .ok v w := by
    simp [Instr.loadAt, Instr.sureAddr, loadVar, hu, hv w hw]
  simp [execOp, hop, hx, hl, Result.andThen]
theorem wpFreeZ_loadW (hg : o.guard = none) {ty : TypeId} {x : Operand} (hop : o.op = .load ty x) {p : Addr} (hx : a.eval x = .pointer (some p)) (vs : List Value) (hc : ∀ w, E.R W w → ∀ j v, vs[j]? = some v → w.cell? (p.add j) = some v) {d : TypeDesc} (hu : P.underlying ty = some d) (hd : d.isRow = true) {sz : Nat} (hs : (P.info? ty).map (·.size) = some sz) (hl : vs.length = sz)
    (h : wpFreeZ E P ops .any W K Q rest (k + 1) (a.put o.dst (.agg vs.toArray)) (F.with k (fun _ _ => True))) : wpFreeZ E P ops .any W K Q (o :: rest) k a F := by
  refine wpFreeZ_one hg (.agg vs.toArray) (fun w hw => ?_) h
  have hl' : (loadCells p vs.length).run P w = .ok vs.toArray w := run_loadCells_list (P := P) w p vs (hc w hw)
  cases hq : P.info? ty with
  | none => simp [hq] at hs
  | some inf =>
    have hz : inf.size = vs.length := by simp [hq] at hs; omega
    have hagg : (isAgg ty).run P w = .ok true w := by
      unfold isAgg
      rw [Sem.run_bind, run_underlying hu w]
      cases d <;> simp_all
    simp [execOp, hop, hx, Instr.loadAt, Instr.sureAddr, loadVar, Sem.run_bind, hagg, sizeOf, typeInfo, hq, hz, hl', Result.andThen]
/-- A call: what it gives may speak of the number of blocks where it started. -/
theorem wpFreeZ_callW (hw : Region.wanted o (yielded ops a.tmps) = true) {f : FuncId} {xs : Array Operand} {ts : Array TypeId} (hop : o.op = Op.call { callee := Callee.value (Operand.func f), args := xs, argTypes := ts }) {fn : Func} (hf : P.funcs[f]? = some fn)
    (hb : fn.body.isNone = false) (hn : (fn.name == "runtime.NumGoroutine") = false) {args : Array Value} (ha : xs.map a.eval = args) (hm : MonoZ E (K f args))
    (h1 : ∀ w, E.R W w → behindZ E .any W o F w → Calls P f args w (fun e w' => ∃ v, e = .returned v ∧ le w w' ∧ K f args w.heap.size w' v)) (h2 : ∀ v, (∃ z w, E.R W w ∧ K f args z w v) → wpFreeZ E P ops .any W K Q rest (k + 1) (a.put o.dst v) (F.with k (fun z w => K f args z w v))) : wpFreeZ E P ops .any W K Q (o :: rest) k a F := by
  refine ⟨K f args, ⟨hm, .inl ⟨hw, fun w hw hbe => ?_⟩⟩, fun v hv => h2 v hv.has⟩
  rw [run_enter hop hf hb hn ha]
  refine ⟨E.refl w, (h1 w hw hbe).mono ?_, fun _ _ h => h⟩
  rintro e w' ⟨v, rfl, hl, hk⟩
  exact ⟨v, rfl, E.of_le hl, hk⟩
/-- An operation of one value; what is known of those that it comes behind is carried on. -/
theorem wpFreeZ_carry (hg : o.guard = none) (v : Value) (hr : ∀ w, E.R W w → (execOp a.eval o).run P w = .ok (.value v) w) (V : World → Prop) (hm : ∀ w w', E.R w w' → V w → V w') (hb : ∀ w, E.R W w → behindZ E .any W o F w → V w)
    (h : wpFreeZ E P ops .any W K Q rest (k + 1) (a.put o.dst v) (F.with k (fun _ => V))) : wpFreeZ E P ops .any W K Q (o :: rest) k a F := by
  refine ⟨fun _ w u => u = v ∧ V w, ⟨fun _ _ w w' hw h => ⟨h.1, hm w w' hw h.2⟩, .inl ⟨by simp [Region.wanted, hg], fun w hw hbe => ?_⟩⟩, fun u hu => ?_⟩
  · rw [hr w hw]; exact ⟨E.refl w, rfl, hb w hw hbe⟩
  · obtain ⟨_, _, _, rfl, _⟩ := hu.has
    exact wpFreeZ_weaken _ _ _ _ _ (fun e _ w h => ⟨h.1, fun he => (h.2 he).2⟩) h
/-- An operation that makes one new block. -/
theorem wpFreeZ_new (hg : o.guard = none) (f : Nat → Value) (ob : Obj) (hr : ∀ w, (execOp a.eval o).run P w = .ok (.value (f w.heap.size)) (w.alloc ob))
    (h : ∀ b, wpFreeZ E P ops .any W K Q rest (k + 1) (a.put o.dst (f b)) (F.with k (fun _ _ => True))) : wpFreeZ E P ops .any W K Q (o :: rest) k a F := by
  refine ⟨fun _ _ u => ∃ b, u = f b, ⟨fun _ _ _ _ _ h => h, .inl ⟨by simp [Region.wanted, hg], fun w hw _ => ?_⟩⟩, fun u hu => ?_⟩
  · rw [hr w]; exact ⟨E.of_le (le_alloc w ob), _, rfl⟩
  · obtain ⟨_, _, _, b, rfl⟩ := hu.has
    exact wpFreeZ_weaken _ _ _ _ _ (fun e _ w h => ⟨h.1, fun _ => trivial⟩) (h b)
end
section
variable {P : Program} {ops : Array Oper} {W : World} {K : FuncId → Array Value → Nat → World → Value → Prop} {Q : Act → World → Prop} {F : FactsZ} {k : Nat} {o : Oper} {rest : List Oper} {a : Act}
variable {g : Nat} {t : TypeId} {m : Nat} {Fin : World → Array Value → Prop} {hm : ∀ w w' cs, le w w' → Fin w cs → Fin w' cs}
/-- The result is stored. -/
theorem wpFreeZ_out (hg : o.guard = none) {ty : TypeId} {x y : Operand} (hop : o.op = .store ty x y) (hx : a.eval x = .pointer (some ⟨g, 0, none⟩)) {cells : Array Value} (hy : a.eval y = .agg cells) (hty : ty = t) {old : Array Value} (hW : Row W g t old) (ho : old.size = m)
    (hF : ∀ w w', (outX g t m Fin hm).R W w → behindZ (outX g t m Fin hm) .any W o F w → Chg (· = g) w w' → Fin w' cells) (hi : (P.info? ty).map (·.size) = some m) (hs : cells.size = m) (h1 : cells.all (·.oneCell') = true)
    (h : wpFreeZ (outX g t m Fin hm) P ops .any W K Q rest (k + 1) (a.put o.dst undef) (F.with k (fun _ w => ∃ cs, Row w g t cs ∧ Fin w cs))) : wpFreeZ (outX g t m Fin hm) P ops .any W K Q (o :: rest) k a F := by
  subst hty
  refine ⟨fun _ w v => v = undef ∧ ∃ cs, Row w g ty cs ∧ Fin w cs, ⟨fun _ v w w' hw hv => ⟨hv.1, hw.2.2 hv.2⟩, .inl ⟨by simp [Region.wanted, hg], fun w hw hbe => ?_⟩⟩, fun v hv => ?_⟩
  · obtain ⟨cs, hc, hcs⟩ := hw.2.1 ⟨old, hW, ho⟩
    have hrun := run_storeVar_row (P := P) w g ty ty cs cells hc (hs ▸ hi) (hcs.trans hs.symm) h1
    have : (execOp a.eval o).run P w = .ok .skip (w.setRow g cells) := by
      unfold execOp
      simp only [hop, hx, hy, Instr.storeAt, Instr.sureAddr, Sem.run_bind, Sem.run_pure, Result.andThen_ok, hrun]
    rw [this]
    have hrow : Row (w.setRow g cells) g ty cells := hc.setRow _
    have hch : Chg (· = g) w (w.setRow g cells) := (Chg.refl _ w).wrote (wrote_setRow hc) rfl
    have hfin := hF w _ hw hbe hch
    exact ⟨⟨hch, fun _ => ⟨cells, hrow, hs⟩, fun _ => ⟨cells, hrow, hfin⟩⟩, rfl, cells, hrow, hfin⟩
  · obtain ⟨_, _, _, rfl, _⟩ := hv.has
    exact wpFreeZ_weaken _ _ _ _ _ (fun e _ w h => ⟨h.1, fun he => (h.2 he).2⟩) h
/-- A slice in a block of its own, made behind the region's start: the writes of the result's block leave it. -/
theorem own_outX {w w' : World} {lo hi : Nat} {s : Value} {x : Nat → Nat} {n : Nat} (h : OwnS w lo hi s x n) (hw : (outX g t m Fin hm).R w w') (hl : g < lo ∨ hi ≤ g) : OwnS w' lo hi s x n := h.chgS hw.1 (fun i h1 h2 e => by omega)
end
/-- A slice that is not empty lies in one block. -/
theorem OwnS.tight {w : World} {lo hi : Nat} {s : Value} {x : Nat → Nat} {n : Nat} (h : OwnS w lo hi s x n) (hn : 1 ≤ n) : ∃ b, lo ≤ b ∧ b < hi ∧ OwnS w b (b + 1) s x n := by
  rcases h with ⟨_, h⟩ | ⟨b, o, cap, cs, h1, h2, h3, h4, h5, h6, h7⟩
  · omega
  · exact ⟨b, h4, h5, .inr ⟨b, o, cap, cs, h1, h2, h3, Nat.le_refl _, Nat.lt_succ_self _, h6, h7⟩⟩
end Go.Fk

/- The laws' helpers for Ring, over trees of data. -/
namespace Go.Proofs.Yteblmkamopfkiaa
open Go.RowKit Go.Fk
theorem inv_Ring {w : World} {S : Nat → Prop} {us : List Value} (n0 : Nat) (x0 : Nat → CD) (z1 : Int) (h : LayL w S (([(.sl 1 n0 x0), (.int .i64 z1)] : List CD).map CD.cp) us) : ∃ u0 : Value, u0.oneCell' = true ∧ us = [u0, .int .i64 z1] ∧ LayL w S (([(.sl 1 n0 x0), (.int .i64 z1)] : List CD).map CD.cp) [u0, .int .i64 z1] := by
  have h0 := h
  simp only [List.map_cons, List.map_nil] at h
  obtain ⟨u0, us0, _, _, rfl, l0, hh0, _, _, _⟩ := h.inv
  obtain ⟨u1, us1, _, _, rfl, l1, hh1, _, _, _⟩ := hh0.inv
  obtain ⟨rfl, _⟩ := l1
  obtain rfl := hh1.inv0
  exact ⟨u0, l0.one, rfl, h0⟩
end Go.Proofs.Yteblmkamopfkiaa

/- The laws' helpers for []Ring, over trees of data. -/
namespace Go.Proofs.Yteblmkamopfkiaa
open Go.RowKit Go.Fk
theorem sz_elRing (x : Nat → CD) (k : Nat) : sumTo (fun i => (x i).sz) ((k + 1) * 2) = sumTo (fun i => (x i).sz) (k * 2) + szL ((List.range 2).map (fun j => x (k * 2 + j))) := by
  rw [Nat.succ_mul, sumTo_add]; simp [szL, sumTo, List.range_succ, List.sum_append]
theorem sz_atRing {n : Nat} (x : Nat → CD) (k : Nat) (hk : k < n) : sumTo (fun i => (x i).sz) (k * 2) + szL ((List.range 2).map (fun j => x (k * 2 + j))) ≤ sumTo (fun i => (x i).sz) (n * 2) := by
  rw [← sz_elRing]; exact sumTo_le _ (Nat.mul_le_mul_right _ hk)
end Go.Proofs.Yteblmkamopfkiaa

/- The laws' helpers for Pipe, over trees of data. -/
namespace Go.Proofs.Yteblmkamopfkiaa
open Go.RowKit Go.Fk
end Go.Proofs.Yteblmkamopfkiaa

/- Rings in the laws' helpers, over facts of memory. -/
namespace Go.Fk
open Go Go.RowKit
theorem RdS.uniq {w : World} {B B' : Nat} {s : Value} {x x' : Nat → Nat} {n n' : Nat} (h : RdS w B s x n) (h' : RdS w B' s x' n') : n = n' ∧ ∀ i, i < n → x i = x' i := by
  rcases h with ⟨rfl, rfl⟩ | ⟨a, cap, rfl, _, _, h3⟩ <;> rcases h' with ⟨e, rfl⟩ | ⟨a', cap', e, _, _, h3'⟩
  · exact ⟨rfl, fun i hi => absurd hi (by omega)⟩
  · cases e
  · cases e
  · simp only [Value.slice.injEq, Option.some.injEq] at e
    obtain ⟨rfl, e2, rfl⟩ := e
    have e3 : n = n' := by omega
    subst e3
    refine ⟨rfl, fun i hi => ?_⟩
    obtain ⟨_, y, e1, _, e2⟩ := h3 i hi
    obtain ⟨_, y', e1', _, e2'⟩ := h3' i hi
    rw [e1] at e1'
    simp only [Option.some.injEq, Value.float.injEq, true_and] at e1'
    rw [← e2, ← e2', e1']
/-- What a copy of a ring is, whatever is known of it. -/
def KRing (w0 : World) (args : Array Value) (w : World) (v : Value) : Prop := ∀ s k B x n, args = #[.agg #[s, .int .i64 k]] → RdS w0 B s x n → ∃ s' B', v = .agg #[s', .int .i64 k] ∧ RdS w B' s' x n
theorem KRing.le {w0 w w' : World} {args : Array Value} {v : Value} (h : KRing w0 args w v) (hl : Fk.le w w') : KRing w0 args w' v := fun s k B x n e hr => by
  obtain ⟨s', B', e1, e2⟩ := h s k B x n e hr
  exact ⟨s', B', e1, e2.le hl⟩
end Go.Fk
namespace Go.Proofs.Yteblmkamopfkiaa
open Go.RowKit Go.Fk
end Go.Proofs.Yteblmkamopfkiaa

/- Which filters are valid: the plain function, the model's contract and the program's. -/
namespace Go.Fk
open Go Go.RowKit
/-- How many numbers and states a kind uses. -/
def cU (k : Int) : Nat := if k = 1 ∨ k = 2 then 2 else if k = 3 ∨ k = 5 then 1 else 3
def sU (k : Int) : Nat := if k = 1 ∨ k = 2 then 1 else 2
/-- Is a filter valid? -/
def okF (k : Int) (a b c x y : Nat) : Bool := (decide (1 ≤ k) && decide (k ≤ 5)) && (usedB (tri a b c) 3 (cU k) && usedB (duo x y) 2 (sU k))
theorem okF_kind {k : Int} {a b c x y : Nat} (h : okF k a b c x y = true) : 1 ≤ k ∧ k ≤ 5 := by
  simp only [okF, Bool.and_eq_true, decide_eq_true_eq] at h; exact h.1
theorem okF_out {k : Int} {a b c x y : Nat} (h : ¬ (1 ≤ k ∧ k ≤ 5)) : okF k a b c x y = false := by
  cases e : okF k a b c x y
  · rfl
  · exact absurd (okF_kind e) h
theorem cU_le (k : Int) : cU k ≤ 3 := by unfold cU; split; omega; split <;> omega
theorem sU_le (k : Int) : sU k ≤ 2 := by unfold sU; split <;> omega
theorem Row.six {w : World} {g : Nat} {t : TypeId} {v0 v1 v2 v3 v4 v5 : Value} (h : Row w g t #[v0, v1, v2, v3, v4, v5]) :
    w.cell? ⟨g, 0, none⟩ = some v0 ∧ w.cell? ⟨g, 1, none⟩ = some v1 ∧ w.cell? ⟨g, 2, none⟩ = some v2 ∧ w.cell? ⟨g, 3, none⟩ = some v3 ∧ w.cell? ⟨g, 4, none⟩ = some v4 ∧ w.cell? ⟨g, 5, none⟩ = some v5 :=
  ⟨h.cell? 0, h.cell? 1, h.cell? 2, h.cell? 3, h.cell? 4, h.cell? 5⟩
theorem Row.tri {w : World} {g : Nat} {t : TypeId} {k : Int} {a b c x y : Nat} (h : Row w g t (#[.int .i64 k, .float .f32 a, .float .f32 b, .float .f32 c, .float .f32 x, .float .f32 y] : Array Value)) (i : Nat) (hi : i < 3) : w.cell? ⟨g, 1 + i, none⟩ = some (.float .f32 (tri a b c i)) := by
  match i, hi with
  | 0, _ => exact h.cell? 1
  | 1, _ => exact h.cell? 2
  | 2, _ => exact h.cell? 3
theorem Row.duo {w : World} {g : Nat} {t : TypeId} {k : Int} {a b c x y : Nat} (h : Row w g t (#[.int .i64 k, .float .f32 a, .float .f32 b, .float .f32 c, .float .f32 x, .float .f32 y] : Array Value)) (i : Nat) (hi : i < 2) : w.cell? ⟨g, 4 + i, none⟩ = some (.float .f32 (duo x y i)) := by
  match i, hi with
  | 0, _ => exact h.cell? 4
  | 1, _ => exact h.cell? 5
/-- A filter within a block. -/
structure FilAt (w : World) (g f : Nat) (k : Int) (a b c x y : Nat) : Prop where
  k0 : w.cell? ⟨g, f, none⟩ = some (.int .i64 k)
  tri : ∀ i, i < 3 → w.cell? ⟨g, f + 1 + i, none⟩ = some (.float .f32 (tri a b c i))
  duo : ∀ i, i < 2 → w.cell? ⟨g, f + 4 + i, none⟩ = some (.float .f32 (duo x y i))
theorem Row.filAt {w : World} {g : Nat} {t : TypeId} {k : Int} {a b c x y : Nat} (h : Row w g t (#[.int .i64 k, .float .f32 a, .float .f32 b, .float .f32 c, .float .f32 x, .float .f32 y] : Array Value)) : FilAt w g 0 k a b c x y :=
  ⟨h.six.1, fun i hi => by rw [Nat.zero_add]; exact h.tri i hi, fun i hi => by rw [Nat.zero_add]; exact h.duo i hi⟩
/-- A filter within a row. -/
structure FilIn (cs : Array Value) (f : Nat) (k : Int) (a b c x y : Nat) : Prop where
  k0 : cs[f]? = some (.int .i64 k)
  c1 : cs[f + 1]? = some (.float .f32 a)
  c2 : cs[f + 2]? = some (.float .f32 b)
  c3 : cs[f + 3]? = some (.float .f32 c)
  c4 : cs[f + 4]? = some (.float .f32 x)
  c5 : cs[f + 5]? = some (.float .f32 y)
theorem FilIn.at {cs : Array Value} {f : Nat} {k : Int} {a b c x y : Nat} (h : FilIn cs f k a b c x y) {w : World} {g : Nat} {t : TypeId} (hr : Row w g t cs) : FilAt w g f k a b c x y :=
  ⟨(hr.cell? f).trans h.k0, fun i hi => by
    match i, hi with
    | 0, _ => exact (hr.cell? (f + 1)).trans h.c1
    | 1, _ => exact (hr.cell? (f + 2)).trans h.c2
    | 2, _ => exact (hr.cell? (f + 3)).trans h.c3, fun i hi => by
    match i, hi with
    | 0, _ => exact (hr.cell? (f + 4)).trans h.c4
    | 1, _ => exact (hr.cell? (f + 5)).trans h.c5⟩
theorem fits_tri {a b c : Nat} (ha : fits .f32 a) (hb : fits .f32 b) (hc : fits .f32 c) : ∀ i, i < 3 → fits .f32 (tri a b c i) := by
  intro i hi
  match i, hi with
  | 0, _ => exact ha
  | 1, _ => exact hb
  | 2, _ => exact hc
theorem fits_duo {a b : Nat} (ha : fits .f32 a) (hb : fits .f32 b) : ∀ i, i < 2 → fits .f32 (duo a b i) := by
  intro i hi
  match i, hi with
  | 0, _ => exact ha
  | 1, _ => exact hb
end Go.Fk
namespace Go.Proofs.Yteblmkamopfkiaa
open Go.RowKit Go.Fk
end Go.Proofs.Yteblmkamopfkiaa

/- 'SameFilter' of both. -/
namespace Go.Fk
open Go Go.RowKit
/-- Are two rows the same? -/
def eqRow (f f' : Nat → Nat) (n : Nat) : Bool := (List.range n).all (fun j => sameB (f j) (f' j))
theorem eqRow_no {f f' : Nat → Nat} {n j : Nat} (hj : j < n) (h : sameB (f j) (f' j) = false) : eqRow f f' n = false := by
  rw [Bool.eq_false_iff]
  intro hh
  have := List.all_eq_true.1 hh j (List.mem_range.2 hj)
  rw [h] at this; cases this
theorem eqRow_yes {f f' : Nat → Nat} {n : Nat} (h : ∀ j, j < n → sameB (f j) (f' j) = true) : eqRow f f' n = true := List.all_eq_true.2 (fun j hj => h j (List.mem_range.1 hj))
theorem all_step {p : Nat → Prop} {k : Nat} (h : ∀ j, j < k → p j) (hk : p k) : ∀ j, j < k + 1 → p j := fun j hj => by
  by_cases e : j = k
  · rw [e]; exact hk
  · exact h j (by omega)
section
variable {P : Program} {ops : Array Oper} {w : World} {K : FuncId → Array Value → Value → Prop} {Q : Act → Prop} {o : Oper} {rest : List Oper} {a : Act} {C : World → Prop}
theorem wpLoose_anyW (hw : Region.wanted o (yielded ops a.tmps) = true) (V : Value → Prop) (h1 : ∀ n, within P (fun w' => ∃ m, w' = w.drewN m) K V ((execOp a.eval o).run P (w.drewN n)))
    (h2 : ∀ v, V v → wpLoose P ops (fun w' => ∃ m, w' = w.drewN m) K Q rest (a.put o.dst v)) : wpLoose P ops (fun w' => ∃ m, w' = w.drewN m) K Q (o :: rest) a :=
  ⟨V, .inl ⟨hw, fun w' hw' => by obtain ⟨n, rfl⟩ := hw'; exact h1 n⟩, h2⟩
theorem wpLoose_skip (hw : Region.wanted o (yielded ops a.tmps) = false) (h : wpLoose P ops C K Q rest (a.put o.dst undef)) : wpLoose P ops C K Q (o :: rest) a :=
  ⟨(· = undef), .inr ⟨hw, rfl⟩, fun v hv => by rw [hv]; exact h⟩
theorem wpLoose_nilW (hw : Region.wanted o (yielded ops a.tmps) = true) {x : Operand} (hop : o.op = Op.nilCheck x) {ad : Addr} (hx : a.eval x = .pointer (some ad))
    (hK : wpLoose P ops (fun w' => ∃ m, w' = w.drewN m) K Q rest (a.put o.dst (.pointer (some ad)))) : wpLoose P ops (fun w' => ∃ m, w' = w.drewN m) K Q (o :: rest) a := by
  refine wpLoose_anyW hw (· = .pointer (some ad)) (fun n => ?_) (by rintro v rfl; exact hK)
  simp [execOp, hop, hx, within, Result.andThen]
  exact ⟨_, rfl⟩
end
end Go.Fk
namespace Go.Proofs.Yteblmkamopfkiaa
open Go.RowKit Go.Fk
end Go.Proofs.Yteblmkamopfkiaa

/- Rings over facts of memory: 'ValidRing', 'SameRing' of both. -/
namespace Go.Fk
open Go Go.RowKit
theorem RdS.form {w : World} {B : Nat} {s : Value} {x : Nat → Nat} {n : Nat} (h : RdS w B s x n) : (s = .slice none 0 0 ∧ n = 0) ∨ ∃ (a : Addr) (cap : Nat), s = .slice (some a) n cap ∧ n ≤ cap ∧ cap ≤ maxLen := by
  rcases h with h | ⟨a, cap, h1, h2, h3, _⟩
  · exact .inl h
  · exact .inr ⟨a, cap, h1, h2, h3⟩
section
variable {P : Program} {w : World} {ops : Array Oper} {rest : List Oper} {o : Oper} {a : Act} {Q : Exit → Act → World → Prop}
/-- The length of a slice that can be read. -/
theorem wpList_lenR (hg : o.guard = none) {x : Operand} {t : TypeId} (hop : o.op = Op.call { callee := Callee.builtin Builtin.len, args := #[x], argTypes := #[t] }) {v : Value} (hx : a.eval x = v) {e : TypeId} (hu : P.underlying t = some (.slice e)) {w1 : World} {B : Nat} {y : Nat → Nat} {n : Nat} (hv : RdS w1 B v y n)
    (h : wpList P ops Q rest (a.put o.dst (.int .i64 n)) w) : wpList P ops Q (o :: rest) a w := by
  refine wpList_plain hg fun K hK' => ?_
  unfold Oper.wp
  rcases hv.form with ⟨rfl, rfl⟩ | ⟨ad, cap, rfl, _, _⟩
  all_goals
    simp [execOp, hop, hx, Result.andThen, resolve, invoke, builtin, Builtin.len_, run_underlying hu]
    exact hK' _ _ h
end
theorem sameB_can (x y : Nat) : sameB (can .f32 x) (can .f32 y) = sameB x y := by unfold sameB; rw [can_can, can_can]
theorem okRing_iff {n : Nat} {k : Int} : okRing n k = true ↔ 1 ≤ n ∧ n ≤ 1024 ∧ 0 ≤ k ∧ k < n := by
  unfold okRing; simp only [Bool.and_eq_true, decide_eq_true_eq]; omega
theorem okRing_j {n : Nat} {k : Int} (h : okRing n k = true) : 1 ≤ n ∧ n ≤ 1024 ∧ ∃ j : Nat, k = j ∧ j < n := by
  obtain ⟨h1, h2, h3, h4⟩ := okRing_iff.1 h
  exact ⟨h1, h2, k.toNat, by omega, by omega⟩
/-- Two slices of floats, compared. -/
def sameS (x x' : Nat → Nat) (n n' : Nat) : Bool := (n == n') && eqRow x x' n
theorem sameS_ne {x x' : Nat → Nat} {n n' : Nat} (h : n ≠ n') : sameS x x' n n' = false := by simp [sameS, h]
theorem sameS_eq {x x' : Nat → Nat} {n : Nat} : sameS x x' n n = eqRow x x' n := by simp [sameS]
end Go.Fk
namespace Go.Proofs.Yteblmkamopfkiaa
open Go.RowKit Go.Fk
set_option maxHeartbeats 1000000 in
theorem i_EqualFuncR (B B' : Nat) (s s' : Value) (x x' : Nat → Nat) (n n' : Nat) (w : World) (hs : RdS w B s x n) (hs' : RdS w B' s' x' n') :
    Calls Try.prog 63 #[s, s', .func (.func 62) #[] #[]] w fun e w' => e = .returned (.bool (sameS x x' n n')) ∧ w = w' := by
  by_cases hne : n = n'
  · subst hne
    rw [sameS_eq]
    by_cases h0 : n = 0
    · subst h0
      rcases hs.form with ⟨rfl, _⟩ | ⟨a, cap, rfl, hc, hm⟩ <;> rcases hs'.form with ⟨rfl, _⟩ | ⟨a', cap', rfl, hc', hm'⟩
      all_goals
        clear hs hs'
        go_enter Try.func63, Try.ntmps63
        go_wp2
        go_loop [17] (fun i => i = .int .i64 0) (fun _ => 0)
        case atStart => rfl
        case round =>
          obtain rfl := hrel
          go_wp2
          go_ret
          exact ⟨rfl, rfl⟩
    obtain ⟨a, cap, y, rfl, hc, hm, hx⟩ := hs.raw (by omega)
    obtain ⟨a', cap', y', rfl, hc', hm', hx'⟩ := hs'.raw (by omega)
    have Hc := hid (fun i hi => (hx i hi).1); have Hc' := hid (fun i hi => (hx' i hi).1)
    have Hs : Hid (∀ i, i < n → sameB (y i) (y' i) = sameB (x i) (x' i)) := fun i hi => by rw [← (hx i hi).2.2, ← (hx' i hi).2.2, sameB_can]
    clear hx hx' hs hs' h0
    unfold maxLen at hm hm'
    go_enter Try.func63, Try.ntmps63
    go_wp2
    go_loop [17] (fun i => ∃ k : Nat, k ≤ n ∧ i = .int .i64 k ∧ Hid (∀ i, i < k → sameB (x i) (x' i) = true)) (fun i => n - (intOf i).toNat)
    case atStart => exact ⟨0, by omega, rfl, fun i hi => absurd hi (by omega)⟩
    case round =>
      obtain ⟨k, hk, rfl, HK⟩ := hrel
      by_cases hlt : k < n
      · have ck := Hc.out k hlt
        have ck' := Hc'.out k hlt
        have HE := hid (Hs.out k hlt)
        cases hb : sameB (y k) (y' k)
        · go_wp2_with (go_at_call 62; refine (i_SameSample _ _ _).mono ?_; rintro e w' ⟨rfl, rfl⟩)
          go_ret
          exact ⟨ret_b (eqRow_no hlt (HE.out.symm.trans hb)).symm, rfl⟩
        · go_wp2_with (go_at_call 62; refine (i_SameSample _ _ _).mono ?_; rintro e w' ⟨rfl, rfl⟩)
          go_round
          case rel => exact ⟨k + 1, by omega, by go_num, all_step (p := fun j => sameB (x j) (x' j) = true) HK.out (HE.out.symm.trans hb)⟩
          case measure => simp [intOf]; omega
      · obtain rfl : k = n := by omega
        go_wp2
        go_ret
        exact ⟨ret_b (eqRow_yes HK.out).symm, rfl⟩
  · rw [sameS_ne hne]
    have hne' : ¬ (n : Int) = (n' : Int) := by omega
    rcases hs.form with ⟨rfl, rfl⟩ | ⟨a, cap, rfl, hc, hm⟩ <;> rcases hs'.form with ⟨rfl, rfl⟩ | ⟨a', cap', rfl, hc', hm'⟩
    all_goals first | exact absurd rfl hne | skip
    all_goals
      clear hs hs'
      try unfold maxLen at hm
      try unfold maxLen at hm'
      go_enter Try.func63, Try.ntmps63
      go_wp2
      go_ret
      exact ⟨rfl, rfl⟩
set_option maxHeartbeats 1000000 in
theorem s_l02SameListR (B B' : Nat) (s s' : Value) (x x' : Nat → Nat) (n n' : Nat) (w : World) (hs : RdS w B s x n) (hs' : RdS w B' s' x' n') :
    Calls Try.prog 61 #[s, s'] w fun e w' => e = .returned (.bool (sameS x x' n n')) ∧ ∃ m, w' = w.drewN m := by
  by_cases hne : n = n'
  · subst hne
    rw [sameS_eq]
    by_cases h0 : n = 0
    · subst h0
      rcases hs.form with ⟨rfl, _⟩ | ⟨a, cap, rfl, hc, hm⟩ <;> rcases hs'.form with ⟨rfl, _⟩ | ⟨a', cap', rfl, hc', hm'⟩
      all_goals
        clear hs hs'
        go_enter Try.func61, Try.ntmps61
        go_wp2
        go_loop [5] (fun i => i = .int .i64 0) (fun _ => 0)
        case atStart => rfl
        case round =>
          obtain rfl := hrel
          go_wp2
          go_ret
          exact ⟨rfl, 0, rfl⟩
    obtain ⟨a, cap, y, rfl, hc, hm, hx⟩ := hs.raw (by omega)
    obtain ⟨a', cap', y', rfl, hc', hm', hx'⟩ := hs'.raw (by omega)
    have Hc := hid (fun i hi => (hx i hi).1); have Hc' := hid (fun i hi => (hx' i hi).1)
    have Hs : Hid (∀ i, i < n → sameB (y i) (y' i) = sameB (x i) (x' i)) := fun i hi => by rw [← (hx i hi).2.2, ← (hx' i hi).2.2, sameB_can]
    clear hx hx' hs hs' h0
    unfold maxLen at hm hm'
    go_enter Try.func61, Try.ntmps61
    go_wp2
    go_loopw [5] (fun i wr => ∃ k : Nat, k ≤ n ∧ i = .int .i64 k ∧ (∃ m, wr = w.drewN m) ∧ Hid (∀ i, i < k → sameB (x i) (x' i) = true)) (fun i _ => n - (intOf i).toNat)
    case atStart => exact ⟨0, by omega, rfl, ⟨0, rfl⟩, fun i hi => absurd hi (by omega)⟩
    case round =>
      obtain ⟨k, hk, rfl, ⟨m, rfl⟩, HK⟩ := hrel
      by_cases hlt : k < n
      · have ck := Hc.out k hlt
        have ck' := Hc'.out k hlt
        have HE := hid (Hs.out k hlt)
        cases hb : sameB (y k) (y' k)
        · go_wp2_with fail
          refine wp_region_loose (fun _ _ v => v = .bool false) (by kernel_rfl) (by kernel_rfl) ?_
          repeat (refine wpLoose_quiet rfl ?_; go_big_quiet_step (fail); refine wpQuiet_nil ?_)
          refine wpLoose_any rfl (· = .bool false) (fun m0 => ?_) ?_
          · go_simp
            refine ((s_l01Same _ _ _).mono ?_)
            rintro e w2 ⟨rfl, rfl⟩
            exact ⟨_, ret_b hb, ⟨rfl, m0, by go_simp⟩⟩
          rintro v rfl
          simp only [Act.put, List.setIfInBounds_toArray, List.set_cons_succ, List.set_cons_zero]
          repeat (refine wpLoose_quiet rfl ?_; go_big_quiet_step (fail); refine wpQuiet_nil ?_)
          refine wpLoose_nil (fun m1 => ?_)
          go_wp2
          go_ret
          exact ⟨ret_b (eqRow_no hlt (HE.out.symm.trans hb)).symm, m + m1, by rw [World.drewN_drewN]⟩
        · go_wp2_with fail
          refine wp_region_loose (fun _ _ v => v = .bool true) (by kernel_rfl) (by kernel_rfl) ?_
          repeat (refine wpLoose_quiet rfl ?_; go_big_quiet_step (fail); refine wpQuiet_nil ?_)
          refine wpLoose_any rfl (· = .bool true) (fun m0 => ?_) ?_
          · go_simp
            refine ((s_l01Same _ _ _).mono ?_)
            rintro e w2 ⟨rfl, rfl⟩
            exact ⟨_, ret_b hb, ⟨rfl, m0, by go_simp⟩⟩
          rintro v rfl
          simp only [Act.put, List.setIfInBounds_toArray, List.set_cons_succ, List.set_cons_zero]
          repeat (refine wpLoose_quiet rfl ?_; go_big_quiet_step (fail); refine wpQuiet_nil ?_)
          refine wpLoose_nil (fun m1 => ?_)
          go_wp2
          go_roundw
          case rel => exact ⟨k + 1, by omega, by go_num, ⟨_, rfl⟩, all_step (p := fun j => sameB (x j) (x' j) = true) HK.out (HE.out.symm.trans hb)⟩
          case measure => simp [intOf]; omega
      · obtain rfl : k = n := by omega
        go_wp2
        go_ret
        exact ⟨ret_b (eqRow_yes HK.out).symm, _, rfl⟩
  · rw [sameS_ne hne]
    have hne' : ¬ (n : Int) = (n' : Int) := by omega
    rcases hs.form with ⟨rfl, rfl⟩ | ⟨a, cap, rfl, hc, hm⟩ <;> rcases hs'.form with ⟨rfl, rfl⟩ | ⟨a', cap', rfl, hc', hm'⟩
    all_goals first | exact absurd rfl hne | skip
    all_goals
      clear hs hs'
      try unfold maxLen at hm
      try unfold maxLen at hm'
      go_enter Try.func61, Try.ntmps61
      go_wp2
      go_ret
      exact ⟨rfl, 0, rfl⟩
end Go.Proofs.Yteblmkamopfkiaa

/- 'isWithin'. -/
namespace Go.Fk
open Go Go.RowKit
/-- Is a number from one to another? Not NaN. -/
def withinB (a l g : Nat) : Bool := (FloatKind.f32.format.order a l == some .gt || FloatKind.f32.format.order a l == some .eq) && (FloatKind.f32.format.order a g == some .lt || FloatKind.f32.format.order a g == some .eq)
end Go.Fk
namespace Go.Proofs.Yteblmkamopfkiaa
open Go.RowKit Go.Fk
theorem i_isWithin (a l g : Nat) (w : World) : Calls Try.prog 49 #[.float .f32 a, .float .f32 l, .float .f32 g] w fun e w' => e = .returned (.bool (withinB a l g)) ∧ w = w' := by
  rcases h0 : FloatKind.f32.format.order a l with _ | (_ | _ | _) <;> rcases h1 : FloatKind.f32.format.order a g with _ | (_ | _ | _)
  all_goals
    go_enter Try.func49, Try.ntmps49
    go_wp2
    go_ret
    exact ⟨ret_b (by unfold withinB; rw [h0, h1]; rfl), rfl⟩
end Go.Proofs.Yteblmkamopfkiaa

/- What pipes ask of their lists: 'l04All', 'l04Rings'; 'areScatters', 'isFiniteRing', 'areSections'. -/
namespace Go.Fk
open Go Go.RowKit
/-- Two lists of sections. -/
def secOk (x y : Nat → CD) (k : Nat) : Bool := rgOk x k && rgOk y k && (rgN x k == rgN y k)
theorem withinB_can {y x l g : Nat} (h : can .f32 y = x) : withinB y l g = withinB x l g := by
  unfold withinB; rw [← h, order_can_l, order_can_l]
def scB (x : Nat → Nat) (n : Nat) : Bool := allB (fun i => withinB (x i) 3212836864 1065353216) n
end Go.Fk
namespace Go.Proofs.Yteblmkamopfkiaa
open Go.RowKit Go.Fk
end Go.Proofs.Yteblmkamopfkiaa

/- Steps of a region that draws its order: guarded operations, loads of one cell, addresses of elements, new rows, lengths. Nothing here names a program. -/
namespace Go.Fk
open Go Go.RowKit
section
variable {E : Ext} {P : Program} {ops : Array Oper} {W : World} {K : FuncId → Array Value → World → Value → Prop} {Q : Act → World → Prop} {F : Facts} {k : Nat} {o : Oper} {rest : List Oper} {a : Act}
theorem wpFreeD_oneW (hw : Region.wanted o (yielded ops a.tmps) = true) (v : Value) (hr : ∀ w, E.R W w → (execOp a.eval o).run P w = .ok (.value v) w)
    (h : wpFreeD E P ops .any W K Q rest (k + 1) (a.put o.dst v) (F.with k (fun _ => True))) : wpFreeD E P ops .any W K Q (o :: rest) k a F := by
  refine ⟨fun _ u => u = v, ⟨fun _ _ _ _ h => h, .inl ⟨hw, fun w hw _ => ?_⟩⟩, fun u hu => ?_⟩
  · rw [hr w hw]; exact ⟨E.refl w, rfl⟩
  · obtain ⟨w, _, _, rfl⟩ := hu
    exact wpFreeD_weaken _ _ _ _ _ (fun e w h => ⟨h.1, fun _ => trivial⟩) h
theorem wpFreeD_skip (hw : Region.wanted o (yielded ops a.tmps) = false)
    (h : wpFreeD E P ops .any W K Q rest (k + 1) (a.put o.dst undef) (F.with k (fun _ => True))) : wpFreeD E P ops .any W K Q (o :: rest) k a F := by
  refine ⟨fun _ u => u = undef, ⟨fun _ _ _ _ h => h, .inr ⟨hw, fun w _ _ => rfl⟩⟩, fun u hu => ?_⟩
  obtain ⟨w, _, _, rfl⟩ := hu
  exact wpFreeD_weaken _ _ _ _ _ (fun e w h => ⟨h.1, fun _ => trivial⟩) h
theorem wpFreeD_callW (hw : Region.wanted o (yielded ops a.tmps) = true) {f : FuncId} {xs : Array Operand} {ts : Array TypeId} (hop : o.op = Op.call { callee := Callee.value (Operand.func f), args := xs, argTypes := ts }) {fn : Func} (hf : P.funcs[f]? = some fn)
    (hb : fn.body.isNone = false) (hn : (fn.name == "runtime.NumGoroutine") = false) {args : Array Value} (ha : xs.map a.eval = args) (hm : MonoT E (K f args))
    (h1 : ∀ w, E.R W w → behind .any o F w → Calls P f args w (fun e w' => ∃ v, e = .returned v ∧ le w w' ∧ K f args w' v)) (h2 : ∀ v, (∃ w, E.R W w ∧ (∀ e, F e w) ∧ K f args w v) → wpFreeD E P ops .any W K Q rest (k + 1) (a.put o.dst v) (F.with k (fun w => K f args w v))) : wpFreeD E P ops .any W K Q (o :: rest) k a F := by
  refine ⟨K f args, ⟨hm, .inl ⟨hw, fun w hw hbe => ?_⟩⟩, fun v hv => h2 v hv⟩
  rw [run_enter hop hf hb hn ha]
  refine ⟨E.refl w, (h1 w hw hbe).mono ?_, fun _ _ h => h⟩
  rintro e w' ⟨v, rfl, hl, hk⟩
  exact ⟨v, rfl, E.of_le hl, hk⟩
theorem wpFreeD_madeW (hwt : Region.wanted o (yielded ops a.tmps) = true) (f : Nat → Value) (t : TypeId) (cs : Array Value) (hr : ∀ w, (execOp a.eval o).run P w = .ok (.value (f w.heap.size)) (w.alloc (.cells cs t)))
    (h : ∀ b, wpFreeD leX P ops .any W K Q rest (k + 1) (a.put o.dst (f b)) (F.with k (fun w => ∃ b', f b = f b' ∧ Row w b' t cs))) : wpFreeD leX P ops .any W K Q (o :: rest) k a F := by
  refine ⟨fun w v => ∃ b', v = f b' ∧ Row w b' t cs, ⟨fun v w w' hw hv => ?_, .inl ⟨hwt, fun w hw _ => ?_⟩⟩, fun v hv => ?_⟩
  · obtain ⟨b', e, hrow⟩ := hv
    exact ⟨b', e, hrow.le hw⟩
  · rw [hr w]
    exact ⟨le_alloc w _, w.heap.size, rfl, Row.new w t cs⟩
  · obtain ⟨w, _, _, b, rfl, _⟩ := hv
    exact h b
theorem wpFreeD_load1 (hg : o.guard = none) {ty : TypeId} {x : Operand} (hop : o.op = .load ty x) {p : Addr} (hx : a.eval x = .pointer (some p)) {v : Value} (hv : ∀ w, E.R W w → w.cell? p = some v) (hu : ∀ w, (isAgg ty).run P w = .ok false w)
    (h : wpFreeD E P ops .any W K Q rest (k + 1) (a.put o.dst v) (F.with k (fun _ => True))) : wpFreeD E P ops .any W K Q (o :: rest) k a F := by
  refine wpFreeD_one hg v (fun w hw => ?_) h
  have hl : (Instr.loadAt ty (.pointer (some p))).run P w = .ok v w := by
    simp [Instr.loadAt, Instr.sureAddr, loadVar, hu, hv w hw]
  simp [execOp, hop, hx, hl, Result.andThen]
theorem wpFreeD_load1W (hw : Region.wanted o (yielded ops a.tmps) = true) {ty : TypeId} {x : Operand} (hop : o.op = .load ty x) {p : Addr} (hx : a.eval x = .pointer (some p)) {v : Value} (hv : ∀ w, E.R W w → w.cell? p = some v) (hu : ∀ w, (isAgg ty).run P w = .ok false w)
    (h : wpFreeD E P ops .any W K Q rest (k + 1) (a.put o.dst v) (F.with k (fun _ => True))) : wpFreeD E P ops .any W K Q (o :: rest) k a F := by
  refine wpFreeD_oneW hw v (fun w hw => ?_) h
  have hl : (Instr.loadAt ty (.pointer (some p))).run P w = .ok v w := by
    simp [Instr.loadAt, Instr.sureAddr, loadVar, hu, hv w hw]
  simp [execOp, hop, hx, hl, Result.andThen]
theorem wpFreeD_indexW0 (hg : o.guard = none) {t : TypeId} {x y : Operand} (hop : o.op = .indexAddr t x y) {b off n cap sz i : Nat} {kk : IntKind} {e : TypeId} (hx : a.eval x = .slice (some ⟨b, off, none⟩) n cap) (hy : a.eval y = .int kk (i : Int)) (hu : P.underlying t = some (.slice e)) (hs : (P.info? e).map (·.size) = some sz) (hi : i < n)
    (h : wpFreeD E P ops .any W K Q rest (k + 1) (a.put o.dst (.pointer (some ⟨b, off + i * sz, none⟩))) (F.with k (fun _ => True))) : wpFreeD E P ops .any W K Q (o :: rest) k a F :=
  wpFreeD_indexW hg hop hx hy hu hs hi (by rw [add_none]; exact h)
theorem wpFreeD_lenR (hg : o.guard = none) {x : Operand} {t : TypeId} (hop : o.op = Op.call { callee := Callee.builtin Builtin.len, args := #[x], argTypes := #[t] }) {v : Value} (hx : a.eval x = v) {e : TypeId} (hu : P.underlying t = some (.slice e)) {w1 : World} {B : Nat} {y : Nat → Nat} {n : Nat} (hv : RdS w1 B v y n)
    (h : wpFreeD E P ops .any W K Q rest (k + 1) (a.put o.dst (.int .i64 n)) (F.with k (fun _ => True))) : wpFreeD E P ops .any W K Q (o :: rest) k a F := by
  refine wpFreeD_one hg (.int .i64 n) (fun w _ => ?_) h
  rcases hv.form with ⟨rfl, rfl⟩ | ⟨ad, cap, rfl, _, _⟩
  all_goals
    simp [execOp, hop, hx, Result.andThen, resolve, invoke, builtin, Builtin.len_, run_underlying hu]
    try rfl
end
end Go.Fk

/- Pieces for bows and jets: guarded loads of structs in drawn regions; pairs of rings and of numbers. Nothing here names a program. -/
namespace Go.Fk
open Go Go.RowKit
section
variable {P : Program} {ops : Array Oper} {W : World} {K : FuncId → Array Value → World → Value → Prop} {Q : Act → World → Prop} {F : Facts} {k : Nat} {o : Oper} {rest : List Oper} {a : Act}
theorem wpFreeD_loadGW {w0 w1 : World} {L : List Fact} {n : Nat} (hF : Frg w0 w1 L) (hW : W = w1.drewN n) (hw : Region.wanted o (yielded ops a.tmps) = true) {ty : TypeId} {x : Operand} (hop : o.op = .load ty x) {g : Nat} (hx : a.eval x = .pointer (some ⟨g, 0, none⟩)) {t : TypeId} {cs : Array Value} {d : TypeDesc}
    (hm : rowF g t cs ∈ L) (hu : P.underlying ty = some d) (hd : (match d with | .struct _ | .array _ _ => true | _ => false) = true) {m : Nat} (hi : (P.info? ty).map (·.size) = some m) (hs : cs.size = m)
    (h : wpFreeD leX P ops .any W K Q rest (k + 1) (a.put o.dst (.agg cs)) (F.with k (fun _ => True))) : wpFreeD leX P ops .any W K Q (o :: rest) k a F := by
  subst hW hs
  refine wpFreeD_oneW hw (.agg cs) (fun w hw => ?_) h
  have := run_loadVar_row (P := P) w g t ty cs (0, 0) _ (((hF.row hm).drewN n).le hw) hu hd hi
  simp [execOp, hop, hx, Instr.loadAt, Instr.sureAddr, this, Result.andThen]
theorem wpFreeD_indexWG {E : Ext} (hw : Region.wanted o (yielded ops a.tmps) = true) {t : TypeId} {x y : Operand} (hop : o.op = .indexAddr t x y) {b off n cap sz i : Nat} {kk : IntKind} {e : TypeId} (hx : a.eval x = .slice (some ⟨b, off, none⟩) n cap) (hy : a.eval y = .int kk (i : Int)) (hu : P.underlying t = some (.slice e)) (hs : (P.info? e).map (·.size) = some sz) (hi : i < n)
    (h : wpFreeD E P ops .any W K Q rest (k + 1) (a.put o.dst (.pointer (some ⟨b, off + i * sz, none⟩))) (F.with k (fun _ => True))) : wpFreeD E P ops .any W K Q (o :: rest) k a F := by
  refine wpFreeD_oneW hw (.pointer (some ⟨b, off + i * sz, none⟩)) (fun w _ => ?_) h
  cases hq : P.info? e with
  | none => simp [hq] at hs
  | some inf =>
    have hz : inf.size = sz := by simpa [hq] using hs
    have h2 : (i : Int) < (n : Int) := by omega
    simp [execOp, hop, hx, hy, Instr.indexAt, asIntOf, run_underlying hu, sizeOf, typeInfo, hq, hz, h2, hi, Result.andThen, add_none]
end
theorem Row.at_part {w : World} {g : Nat} {t : TypeId} {cs : Array Value} (R : Row w g t cs) {f : Nat} {ds : List Value} (hp : ∀ j, j < ds.length → cs[f + j]? = ds[j]?) : ∀ (j : Nat) (v : Value), ds[j]? = some v → w.cell? ((⟨g, f, none⟩ : Addr).add j) = some v := fun j v hv => by
  rw [add_none, R.cell?, hp j (List.getElem?_eq_some_iff.1 hv).1, hv]
theorem CD.RdN.mono {w : World} {B B' : Nat} (hB : B ≤ B') : ∀ {c : CD} {v : Value}, c.RdN w B v → c.RdN w B' v := by
  intro c
  induction c with
  | sl wd n x ih =>
    intro v h
    rcases h with h | ⟨b, o, cap, h1, h2, h3, h4⟩
    · exact .inl h
    · exact .inr ⟨b, o, cap, h1, h2, h3, fun i hi => by obtain ⟨h5, u, h6, h7⟩ := h4 i hi; exact ⟨by omega, u, h6, ih i h7⟩⟩
  | _ => intro v h; exact h
theorem bool_ft (b : Bool) : b = false ∨ b = true := by cases b <;> simp
/-- A slice of floats, as a tree. -/
def slT (x : Nat → Nat) (n : Nat) : CD := .sl 1 n (fun i => .fcn .f32 (x i))
theorem slT_rds {x : Nat → Nat} {n B : Nat} {w : World} {s : Value} (h : (slT x n).RdN w B s) : RdS w B s x n := h.rd.rds
theorem CD.RdN.congr {w : World} {B : Nat} : ∀ {c d : CD} {v : Value}, c.RdN w B v → c.Eqv d → d.RdN w B v := by
  intro c
  induction c with
  | sl wd n x ih =>
    intro d v h he
    obtain ⟨y, rfl, hy⟩ := he
    rcases h with h | ⟨b, o, cap, h1, h2, h3, h4⟩
    · exact .inl h
    · exact .inr ⟨b, o, cap, h1, h2, h3, fun i hi => by obtain ⟨h5, u, h6, h7⟩ := h4 i hi; exact ⟨h5, u, h6, ih i h7 (hy i hi)⟩⟩
  | _ => intro d v h he; cases he; exact h
/-- A copy of a slice of floats. -/
theorem slT_cp {n : Nat} {x : Nat → CD} (h : ∀ i, i < n → (x i).flk = some .f32) : (CD.sl 1 n x).cp.Eqv (slT (fun i => (x i).fx) n) :=
  ⟨_, rfl, fun i hi => by show (x i).cn.Eqv (.fcn .f32 (x i).fx); rw [CD.cn_fl (h i (by simpa using hi))]; exact CD.Eqv.refl _⟩
/-- Two rings. -/
def rg2 (x y : Nat → Nat) (nx ny : Nat) (j k : Int) : Nat → CD
  | 0 => slT x nx
  | 1 => .int .i64 j
  | 2 => slT y ny
  | _ => .int .i64 k
theorem rg2_ok (x y : Nat → Nat) (nx ny : Nat) (j k : Int) : RgsOk (rg2 x y nx ny j k) 2 := fun i hi => by
  match i, hi with
  | 0, _ => exact ⟨⟨_, rfl, fun _ _ => rfl, rfl⟩, rfl⟩
  | 1, _ => exact ⟨⟨_, rfl, fun _ _ => rfl, rfl⟩, rfl⟩
def rngB (x : Nat → Nat) (n : Nat) (j : Int) : Bool := okRing n j && finB x n
theorem rg2_all (x y : Nat → Nat) (nx ny : Nat) (j k : Int) : allB (rgOk (rg2 x y nx ny j k)) 2 = (rngB x nx j && rngB y ny k) := by
  simp [allB, List.range_succ]; rfl
theorem rg2_rd {x y : Nat → Nat} {nx ny B b : Nat} {j k : Int} {w : World} {s t : Value} {ty : TypeId} (hs : (slT x nx).RdN w B s) (ht : (slT y ny).RdN w B t) (wj : (Lit.int .i64 j).wf = true) (wk : (Lit.int .i64 k).wf = true) (R : Row w b ty #[s, .int .i64 j, t, .int .i64 k]) :
    (CD.sl 2 2 (rg2 x y nx ny j k)).RdN w (max B (b + 1)) (.slice (some ⟨b, 0, none⟩) 2 2) := by
  refine .inr ⟨b, 0, 2, rfl, Nat.le_refl _, by decide, fun i hi => ⟨by omega, ?_⟩⟩
  match i, hi with
  | 0, _ => exact ⟨s, R.cell? 0, hs.mono (by omega)⟩
  | 1, _ => exact ⟨_, R.cell? 1, rfl, wj⟩
  | 2, _ => exact ⟨t, R.cell? 2, ht.mono (by omega)⟩
  | 3, _ => exact ⟨_, R.cell? 3, rfl, wk⟩
/-- Two numbers. -/
def two (m o : Nat) : Nat → Nat := fun i => match i with | 0 => can .f32 m | _ => can .f32 o
theorem fin_two (m o : Nat) : finB (two m o) 2 = (fin m && fin o) := by
  have e : ∀ z, fin (can .f32 z) = fin z := fun z => fin_can (can_can _ _)
  simp [finB, two, List.range_succ, e]
theorem two_rd {m o b : Nat} {w : World} {ty : TypeId} (hm : fits .f32 m) (ho : fits .f32 o) (R : Row w b ty #[.float .f32 m, .float .f32 o]) : RdS w (b + 1) (.slice (some ⟨b, 0, none⟩) 2 2) (two m o) 2 :=
  .inr ⟨⟨b, 0, none⟩, 2, rfl, Nat.le_refl _, by decide, fun i hi => ⟨Nat.lt_succ_self _, by rw [add_none, Nat.zero_add]; match i, hi with
    | 0, _ => exact ⟨m, R.cell? 0, hm, rfl⟩
    | 1, _ => exact ⟨o, R.cell? 1, ho, rfl⟩⟩⟩
/-- A new row that is known. -/
def OutSl (t : TypeId) (n : Nat) (cs : Array Value) (w : World) (e : Ending) (w' : World) : Prop := ∃ g, e = .returned (.slice (some ⟨g, 0, none⟩) n n) ∧ w.heap.size ≤ g ∧ Row w' g t cs ∧ le w w'
theorem Frg.rowS {w0 w w' : World} {L : List Fact} (h : Frg w0 w L) (k : Below w.heap.size w w') {g : Nat} {t : TypeId} {cs : Array Value} (hg : w.heap.size ≤ g) (hr : Row w' g t cs) : Frg w0 w' (rowF g t cs :: L) :=
  h.push k hr hg hr.lt
end Go.Fk

/- Copies of two rings, in one region. Nothing here names a program. -/
namespace Go.Fk
open Go Go.RowKit
theorem own_same {w w2 : World} {B B' lo hi : Nat} {s u : Value} {x x' : Nat → Nat} {n n' : Nat} (h : RdS w B s x n) (h' : RdS w B' s x' n') (o : OwnS w2 lo hi u x n) : OwnS w2 lo hi u x' n' := by
  obtain ⟨rfl, e⟩ := h.uniq h'
  rcases o with o | ⟨b, q, cap, cs, h1, h2, h3, h4, h5, h6, h7⟩
  · exact .inl o
  · exact .inr ⟨b, q, cap, cs, h1, h2, h3, h4, h5, h6, fun i hi => by obtain ⟨y, e1, e2, e3⟩ := h7 i hi; exact ⟨y, e1, e2, e3.trans (e i hi)⟩⟩
theorem own_one {w : World} {lo hi : Nat} {s : Value} {x : Nat → Nat} {n : Nat} (h : OwnS w lo hi s x n) : s.oneCell' = true := by
  rcases h with ⟨rfl, _⟩ | ⟨_, _, _, _, rfl, _⟩ <;> rfl
theorem Row.at_all {w : World} {g : Nat} {t : TypeId} {ds : List Value} (R : Row w g t ds.toArray) : ∀ (j : Nat) (v : Value), ds[j]? = some v → w.cell? ((⟨g, 0, none⟩ : Addr).add j) = some v := fun j v hv => by
  rw [add_none, R.cell?, Nat.zero_add, List.getElem?_toArray, hv]
/-- Two slices, each in a block of its own. -/
def Two (lo : Nat) (x : Nat → Nat) (nx : Nat) (y : Nat → Nat) (ny : Nat) (s t : Value) (w : World) : Prop := ∃ b d, OwnS w b (b + 1) s x nx ∧ OwnS w d (d + 1) t y ny ∧ b ≠ d ∧ lo ≤ b ∧ b < w.heap.size ∧ lo ≤ d ∧ d < w.heap.size
def FinC (lo : Nat) (x : Nat → Nat) (nx : Nat) (y : Nat → Nat) (ny : Nat) (mkC : Value → Value → Array Value) (w : World) (cs : Array Value) : Prop := ∃ s t, cs = mkC s t ∧ Two lo x nx y ny s t w
theorem Two.le {lo : Nat} {x : Nat → Nat} {nx : Nat} {y : Nat → Nat} {ny : Nat} {s t : Value} {w w' : World} (h : Two lo x nx y ny s t w) (hl : Fk.le w w') : Two lo x nx y ny s t w' := by
  obtain ⟨b, d, h1, h2, h3, h4, h5, h6, h7⟩ := h
  exact ⟨b, d, h1.le hl, h2.le hl, h3, h4, Nat.lt_of_lt_of_le h5 hl.size, h6, Nat.lt_of_lt_of_le h7 hl.size⟩
theorem Two.lo {lo lo' : Nat} {x : Nat → Nat} {nx : Nat} {y : Nat → Nat} {ny : Nat} {s t : Value} {w : World} (h : Two lo x nx y ny s t w) (hl : lo' ≤ lo) : Two lo' x nx y ny s t w := by
  obtain ⟨b, d, h1, h2, h3, h4, h5, h6, h7⟩ := h
  exact ⟨b, d, h1, h2, h3, by omega, h5, by omega, h7⟩
theorem Two.chg {g : Nat} {x : Nat → Nat} {nx : Nat} {y : Nat → Nat} {ny : Nat} {s t : Value} {w w' : World} (h : Two (g + 1) x nx y ny s t w) (hc : Chg (· = g) w w') : Two (g + 1) x nx y ny s t w' := by
  obtain ⟨b, d, h1, h2, h3, h4, h5, h6, h7⟩ := h
  exact ⟨b, d, h1.chgS hc (fun i h8 h9 e => by omega), h2.chgS hc (fun i h8 h9 e => by omega), h3, h4, Nat.lt_of_lt_of_le h5 hc.size, h6, Nat.lt_of_lt_of_le h7 hc.size⟩
theorem FinC_le (lo : Nat) (x : Nat → Nat) (nx : Nat) (y : Nat → Nat) (ny : Nat) (mkC : Value → Value → Array Value) : ∀ w w' cs, Fk.le w w' → FinC lo x nx y ny mkC w cs → FinC lo x nx y ny mkC w' cs := fun _ _ _ hl ⟨s, t, h, h2⟩ => ⟨s, t, h, h2.le hl⟩
/-- A copied ring: its block came behind z. -/
def Cp (g : Nat) (x : Nat → Nat) (n : Nat) (j : Int) (z : Nat) (w : World) (v : Value) : Prop := ∃ s b, v = .agg #[s, .int .i64 j] ∧ OwnS w b (b + 1) s x n ∧ z ≤ b ∧ b < w.heap.size ∧ g < z
theorem Cp.mk {g : Nat} {x : Nat → Nat} {n : Nat} {j : Int} {w w' : World} {s : Value} (h : OwnS w' w.heap.size w'.heap.size s x n) (hn : 1 ≤ n) (hg : g < w.heap.size) : Cp g x n j w.heap.size w' (.agg #[s, .int .i64 j]) := by
  obtain ⟨b, h1, h2, h3⟩ := h.tight hn
  exact ⟨s, b, rfl, h3, h1, h2, hg⟩
theorem Cp.le {g : Nat} {x : Nat → Nat} {n : Nat} {j : Int} {z : Nat} {w w' : World} {v : Value} (h : Cp g x n j z w v) (hl : Fk.le w w') : Cp g x n j z w' v := by
  obtain ⟨s, b, h1, h2, h3, h4, h5⟩ := h
  exact ⟨s, b, h1, h2.le hl, h3, Nat.lt_of_lt_of_le h4 hl.size, h5⟩
section
variable {g : Nat} {t : TypeId} {m : Nat} {Fin : World → Array Value → Prop} {hm : ∀ w w' cs, le w w' → Fin w cs → Fin w' cs}
theorem cp_outX {x : Nat → Nat} {n : Nat} {j : Int} {z : Nat} {w w' : World} {v : Value} (h : Cp g x n j z w v) (hw : (outX g t m Fin hm).R w w') : Cp g x n j z w' v := by
  obtain ⟨s, b, h1, h2, h3, h4, h5⟩ := h
  exact ⟨s, b, h1, own_outX h2 hw (.inl (by omega)), h3, Nat.lt_of_lt_of_le h4 hw.1.size, h5⟩
theorem two_outX {x : Nat → Nat} {nx : Nat} {y : Nat → Nat} {ny : Nat} {s u : Value} {w w' : World} (h : Two (g + 1) x nx y ny s u w) (hw : (outX g t m Fin hm).R w w') : Two (g + 1) x nx y ny s u w' := h.chg hw.1
theorem OwnS.block_eq {w w' : World} {b d : Nat} {s : Value} {x x' : Nat → Nat} {n n' : Nat} (h : OwnS w b (b + 1) s x n) (h' : OwnS w' d (d + 1) s x' n') (hn : 1 ≤ n) : b = d := by
  rcases h with ⟨_, h⟩ | ⟨b1, o, cap, cs, h1, h2, h3, h4, h5, _⟩
  · omega
  · rcases h' with ⟨e, h⟩ | ⟨b2, o', cap', cs', h1', h2', h3', h4', h5', _⟩
    · rw [h1] at e; cases e
    · rw [h1] at h1'
      simp only [Value.slice.injEq, Option.some.injEq, Addr.mk.injEq] at h1'
      omega
/-- Two copies that did not run at one time lie apart. -/
theorem Cp.two {E : Ext} {W w : World} {x y : Nat → Nat} {nx ny : Nat} {j k : Int} {s u : Value} {zs : Nat → Nat} {F : FactsZ} {p q : Nat} (hx : 1 ≤ nx) (hy : 1 ≤ ny)
    (h1 : Cp g x nx j (zs p) w (.agg #[s, .int .i64 j])) (h2 : Cp g y ny k (zs q) w (.agg #[u, .int .i64 k]))
    (hc : beforeZ E W zs F w p q ∨ beforeZ E W zs F w q p)
    (e1 : ∀ w2, F p (zs p) w2 → Cp g x nx j (zs p) w2 (.agg #[s, .int .i64 j])) (e2 : ∀ w2, F q (zs q) w2 → Cp g y ny k (zs q) w2 (.agg #[u, .int .i64 k])) : Two (g + 1) x nx y ny s u w := by
  obtain ⟨s', b, ev, o1, a1, a2, a3⟩ := h1
  obtain rfl : s = s' := by simpa using ev
  obtain ⟨u', d, eu, o2, c1, c2, c3⟩ := h2
  obtain rfl : u = u' := by simpa using eu
  refine ⟨b, d, o1, o2, ?_, by omega, a2, by omega, c2⟩
  rcases hc with ⟨w2, r1, r2, r3, r4⟩ | ⟨w2, r1, r2, r3, r4⟩
  · obtain ⟨s2, b2, ev2, p1, p2, p3, p4⟩ := e1 w2 r4
    obtain rfl : s = s2 := by simpa using ev2
    have := o1.block_eq p1 hx
    omega
  · obtain ⟨s2, b2, ev2, p1, p2, p3, p4⟩ := e2 w2 r4
    obtain rfl : u = s2 := by simpa using ev2
    have := o2.block_eq p1 hy
    omega
end
theorem RdS.chgG {w W w' : World} {B : Nat} {s : Value} {x : Nat → Nat} {n : Nat} (h : RdS w B s x n) (hl : Fk.le w W) (hc : Chg (· = w.heap.size) W w') : RdS w' B s x n := by
  rcases h with h | ⟨a, cap, h1, h2, h3, h4⟩
  · exact .inl h
  · refine .inr ⟨a, cap, h1, h2, h3, fun i hi => ?_⟩
    obtain ⟨h5, y, h6, h7⟩ := h4 i hi
    have hlt : (a.add i).block < w.heap.size := World.block_lt_of_cell? w _ h6
    exact ⟨h5, y, (cell_of_heap (hc.block _ (Nat.lt_of_lt_of_le hlt hl.size) (by omega))).trans ((Below.cell hl hlt).trans h6), h7⟩
theorem two_one {lo : Nat} {x : Nat → Nat} {nx : Nat} {y : Nat → Nat} {ny : Nat} {s t : Value} {w : World} (h : Two lo x nx y ny s t w) : s.oneCell' = true ∧ t.oneCell' = true := by
  obtain ⟨b, d, h1, h2, _⟩ := h
  exact ⟨own_one h1, own_one h2⟩
end Go.Fk

/- Two slices, as a fact of a range of blocks. Nothing here names a program. -/
namespace Go.Fk
open Go Go.RowKit
/-- Two slices, as a fact of a range of blocks. -/
def twF (lo hi : Nat) (x : Nat → Nat) (nx : Nat) (y : Nat → Nat) (ny : Nat) (s t : Value) : Fact := ⟨lo, hi, fun w => ∃ b d, OwnS w b (b + 1) s x nx ∧ OwnS w d (d + 1) t y ny ∧ b ≠ d ∧ lo ≤ b ∧ b < hi ∧ lo ≤ d ∧ d < hi, fun w w' h hk => by
  obtain ⟨b, d, h1, h2, h3, h4, h5, h6, h7⟩ := h
  exact ⟨b, d, (ownF b (b + 1) s x nx).ok w w' h1 (fun k a c => hk k (by have a' : b ≤ k := a; omega) (by have c' : k < b + 1 := c; omega)), (ownF d (d + 1) t y ny).ok w w' h2 (fun k a c => hk k (by have a' : d ≤ k := a; omega) (by have c' : k < d + 1 := c; omega)), h3, h4, h5, h6, h7⟩⟩
theorem Frg.two {w0 w w' : World} {L : List Fact} (h : Frg w0 w L) (k : Below w.heap.size w w') {x : Nat → Nat} {nx : Nat} {y : Nat → Nat} {ny : Nat} {s t : Value} (ht : Two w.heap.size x nx y ny s t w') : Frg w0 w' (twF w.heap.size w'.heap.size x nx y ny s t :: L) :=
  h.push k (e := twF w.heap.size w'.heap.size x nx y ny s t) (by obtain ⟨b, d, h1, h2, h3, h4, h5, h6, h7⟩ := ht; exact ⟨b, d, h1, h2, h3, h4, h5, h6, h7⟩) (Nat.le_refl _) (Nat.le_refl _)
theorem Two.of_own {w : World} {lo lo1 hi1 lo2 hi2 : Nat} {x : Nat → Nat} {nx : Nat} {y : Nat → Nat} {ny : Nat} {s t : Value} (h1 : OwnS w lo1 hi1 s x nx) (h2 : OwnS w lo2 hi2 t y ny) (n1 : 1 ≤ nx) (n2 : 1 ≤ ny) (ha : hi1 ≤ lo2) (hl : lo ≤ lo1) (hl2 : lo ≤ lo2) : Two lo x nx y ny s t w := by
  obtain ⟨b, a1, a2, a3⟩ := h1.tight n1
  obtain ⟨d, c1, c2, c3⟩ := h2.tight n2
  have hb : b < w.heap.size := by
    rcases a3 with ⟨_, h⟩ | ⟨b', o, cap, cs, _, _, _, e1, e2, r, _⟩
    · omega
    · have := r.lt; omega
  have hd : d < w.heap.size := by
    rcases c3 with ⟨_, h⟩ | ⟨b', o, cap, cs, _, _, _, e1, e2, r, _⟩
    · omega
    · have := r.lt; omega
  exact ⟨b, d, a3, c3, by omega, by omega, hb, by omega, hd⟩
theorem rngB_j {x : Nat → Nat} {n : Nat} {k : Int} (h : rngB x n k = true) : 1 ≤ n ∧ n ≤ 1024 ∧ ∃ j : Nat, k = j ∧ j < n := okRing_j (by unfold rngB at h; simp only [Bool.and_eq_true] at h; exact h.1)
theorem own_sameN {w w2 : World} {B B' lo hi : Nat} {s u : Value} {x x' z : Nat → Nat} {n n' : Nat} (h : RdS w B s x n) (h' : RdS w B' s x' n') (o : OwnS w2 lo hi u z n) : OwnS w2 lo hi u z n' := by
  obtain ⟨rfl, _⟩ := h.uniq h'; exact o
theorem midOf (pre mid post : List Value) (f : Nat) (hf : pre.length = f) : ∀ j, j < mid.length → (pre ++ (mid ++ post)).toArray[f + j]? = mid[j]? := by
  intro j hj
  subst hf
  simp only [List.getElem?_toArray]
  rw [List.getElem?_append_right (by omega), Nat.add_sub_cancel_left, List.getElem?_append_left hj]
theorem RdS.fits {w : World} {B : Nat} {s : Value} {x : Nat → Nat} {n k : Nat} (h : RdS w B s x n) (hk : k < n) : Fk.fits .f32 (x k) := by
  rcases h with ⟨_, h0⟩ | ⟨a, cap, _, _, _, h5⟩
  · omega
  · obtain ⟨_, y, _, f, e⟩ := h5 k hk
    rw [← e]; unfold can; split
    · simp [Fk.fits, Lit.wf, qnan]
    · exact f
end Go.Fk
