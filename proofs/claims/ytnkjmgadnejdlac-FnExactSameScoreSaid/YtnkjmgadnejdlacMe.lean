/- Texts of the walk, laid in one file. -/
import Derived.BigQuiet
import Derived.RegionTactic
import Derived.Test.YtnkjmgadnejdlacMd
set_option linter.unusedVariables false
set_option linter.unusedSimpArgs false
/- Copies of rings; 'PushSample' of both. -/
namespace Go.Fk
open Go Go.RowKit
section
variable {P : Program} {ops : Array Oper} {w : World} {K : FuncId → Array Value → Value → Prop} {Q : Act → Prop} {o : Oper} {rest : List Oper} {a : Act}
theorem wpLoose_nilP (hg : o.guard = none) {x : Operand} (hop : o.op = Op.nilCheck x) {ad : Addr} (hx : a.eval x = .pointer (some ad))
    (hK : wpLoose P ops (fun w' => ∃ m, w' = w.drewN m) K Q rest (a.put o.dst (.pointer (some ad)))) : wpLoose P ops (fun w' => ∃ m, w' = w.drewN m) K Q (o :: rest) a := by
  refine wpLoose_any hg (· = .pointer (some ad)) (fun n => ?_) (by rintro v rfl; exact hK)
  simp [execOp, hop, hx, within, Result.andThen]
  exact ⟨_, rfl⟩
theorem wpLoose_len (hg : o.guard = none) {x : Operand} {t : TypeId} (hop : o.op = Op.call { callee := Callee.builtin Builtin.len, args := #[x], argTypes := #[t] }) {e : TypeId} (hu : P.underlying t = some (.slice e)) {ao : Option Addr} {n c : Nat} (hx : a.eval x = .slice ao n c)
    (hK : wpLoose P ops (fun w' => ∃ m, w' = w.drewN m) K Q rest (a.put o.dst (.int .i64 n))) : wpLoose P ops (fun w' => ∃ m, w' = w.drewN m) K Q (o :: rest) a := by
  refine wpLoose_any hg (· = .int .i64 n) (fun m => ?_) (by rintro v rfl; exact hK)
  simp [execOp, hop, hx, within, Result.andThen, resolve, invoke, builtin, Builtin.len_, run_underlying hu]
  exact ⟨⟨_, rfl⟩, rfl⟩
end
/-- A ring's samples behind a push. -/
def pushX (x : Nat → Nat) (j a : Nat) : Nat → Nat := fun i => if i = j then can .f32 a else x i
def OutPu (lo hi : Nat) (s : Value) (x : Nat → Nat) (n j a g f : Nat) (t : TypeId) (cs : Array Value) (w : World) (e : Ending) (w' : World) : Prop :=
  ∃ o, e = .returned (.float .f32 o) ∧ can .f32 o = x j ∧ fits .f32 o ∧ Row w' g t (cs.setIfInBounds (f + 1) (.int .i64 (((j + 1) % n : Nat) : Int))) ∧ OwnS w' lo hi s (pushX x j a) n ∧ Chg (fun i => i = g ∨ lo ≤ i ∧ i < hi) w w'
theorem own_set {w : World} {lo hi b o cap n : Nat} {ds : Array Value} {x : Nat → Nat} (j a : Nat) (hr : Row w b 25 (ds.setIfInBounds (o + j) (.float .f32 a))) (hc : n ≤ cap) (hm : cap ≤ maxLen) (hb : lo ≤ b) (hb' : b < hi) (hj : o + j < ds.size) (ha : fits .f32 a)
    (hx : ∀ i, i < n → ∃ y, ds[o + i]? = some (.float .f32 y) ∧ fits .f32 y ∧ can .f32 y = x i) : OwnS w lo hi (.slice (some ⟨b, o, none⟩) n cap) (pushX x j a) n := by
  refine .inr ⟨b, o, cap, _, rfl, hc, hm, hb, hb', hr, fun i hi' => ?_⟩
  by_cases e : i = j
  · subst e
    exact ⟨a, by rw [Array.getElem?_setIfInBounds_self_of_lt hj], ha, by simp [pushX]⟩
  · obtain ⟨y, e1, e2, e3⟩ := hx i hi'
    exact ⟨y, by rw [Array.getElem?_setIfInBounds_ne (by omega)]; exact e1, e2, by simp [pushX, e, e3]⟩
end Go.Fk
namespace Go.Proofs.Ytnkjmgadnejdlac
open Go.RowKit Go.Fk
theorem kindF : ∀ w : World, (isAgg 22).run Try.prog w = .ok false w := fun w => by kernel_rfl
theorem kindI : ∀ w : World, (isAgg 2).run Try.prog w = .ok false w := fun w => by kernel_rfl
set_option maxRecDepth 100000 in
set_option maxHeartbeats 2000000 in
theorem i_copiedT (B : Nat) (s : Value) (x : Nat → Nat) (n : Nat) (k : Int) (w : World) (hs : RdS w B s x n) (h1 : 1 ≤ n) (h2 : n ≤ 1024) :
    Calls Try.prog 87 #[.agg #[s, .int .i64 k]] w fun e w' => ∃ q cap cs, e = .returned (.agg #[.slice (some ⟨q, 0, none⟩) n cap, .int .i64 k]) ∧ w.heap.size ≤ q ∧ Row w' q 25 cs ∧ OwnS w' q (q + 1) (.slice (some ⟨q, 0, none⟩) n cap) x n ∧ le w w' := by
  obtain ⟨a, cap, y, rfl, hc, hm, hx⟩ := hs.raw h1
  have Hx := hid hx; clear hx hs
  unfold maxLen at hm
  obtain ⟨i, hi, hi1, hi2, hi3⟩ := info36
  have HI := hid hi; have HI1 := hid hi1; have HI2 := hid hi2; have HI3 := hid hi3; clear hi hi1 hi2 hi3
  have F := ((Frg.nil w).box 34 #[.slice (some a) n cap, .int .i64 k]).box 34 #[.slice none 0 0, .int .i64 0]
  simp only [World.size_alloc] at F
  go_enter Try.func87, Try.ntmps87
  go_wp2_with fail
  obtain ⟨W, hW⟩ : ∃ W, W = (w.alloc (.cells #[.slice (some a) n cap, .int .i64 k] 34)).alloc (.cells #[.slice none 0 0, .int .i64 0] 34) := ⟨_, rfl⟩
  rw [← hW] at F ⊢
  have hz : W.heap.size = w.heap.size + 1 + 1 := by rw [hW]; simp
  clear hW
  have HZ := hid hz; clear hz
  have G := F.drewN 1
  have hcl : ∀ j, j < n → (W.drewN 1).cell? (a.add j) = some (.float .f32 (y j)) ∧ a.block < w.heap.size := fun j hj => by
    have e1 := (Hx.out j hj).1
    have hlt : (a.add j).block < w.heap.size := World.block_lt_of_cell? w _ e1
    exact ⟨(Below.cell G.below hlt).trans e1, by rw [add_block] at hlt; exact hlt⟩
  have HC := hid hcl; clear hcl
  refine region_freeD (E := outX (w.heap.size + 1) 34 2 (FinR w.heap.size 25 n y k) (FinR_le _ _ _ _ _)) (fun _ _ _ _ => True) (by kernel_rfl) (by kernel_rfl) ?_
  refine wpFreeD_one rfl (.pointer (some ⟨w.heap.size, 0, none⟩)) (fun w _ => by kernel_rfl) ?_
  simp only [Act.put, List.setIfInBounds_toArray, List.set_cons_succ, List.set_cons_zero]
  refine wpFreeD_cell rfl rfl rfl ((G.row m1).cell? 0) (by simp) kindF ?_
  simp only [Act.put, List.setIfInBounds_toArray, List.set_cons_succ, List.set_cons_zero]
  refine wpFreeD_quiet rfl ?_
  go_big_quiet_step (fail)
  refine wpQuiet_nil ?_
  refine wpFreeD_one rfl (.pointer (some ⟨w.heap.size, 0, none⟩)) (fun w _ => by kernel_rfl) ?_
  simp only [Act.put, List.setIfInBounds_toArray, List.set_cons_succ, List.set_cons_zero]
  refine wpFreeD_cell rfl rfl rfl ((G.row m1).cell? 0) (by simp) kindF ?_
  simp only [Act.put, List.setIfInBounds_toArray, List.set_cons_succ, List.set_cons_zero]
  refine wpFreeD_append rfl rfl Try.underlying22 HI.out HI1.out HI2.out HI3.out rfl rfl h1 (by omega) (fun j hj => (HC.out j hj).1) (by have := (HC.out 0 (by omega)).2; omega) (fun q c' => ?_) (by have := G.row m0; exact this.lt)
  simp only [Act.put, List.setIfInBounds_toArray, List.set_cons_succ, List.set_cons_zero]
  refine wpFreeD_one rfl (.pointer (some ⟨w.heap.size, 1, none⟩)) (fun w _ => by kernel_rfl) ?_
  simp only [Act.put, List.setIfInBounds_toArray, List.set_cons_succ, List.set_cons_zero]
  refine wpFreeD_cell rfl rfl rfl ((G.row m1).cell? 1) (by simp) kindI ?_
  simp only [Act.put, List.setIfInBounds_toArray, List.set_cons_succ, List.set_cons_zero]
  refine wpFreeD_carry rfl (.agg #[.slice (some ⟨q, 0, none⟩) n c', .int .i64 k]) (fun w _ => by kernel_rfl) (fun w' => ∃ B, (W.drewN 1).heap.size ≤ B ∧ w'.ownsRow B 25 1 (.slice (some ⟨q, 0, none⟩) n c') n (flist y n) ∧ w.heap.size + 1 < B) (fun w1 w2 hw ⟨B', e1, e2, e3⟩ => ⟨B', e1, ownsRow_out hw e2 e3, e3⟩) (fun w1 hw hb => (hb ⟨5, Ground.data⟩ (by simp) (by kernel_rfl)).1.1.2 rfl) ?_
  simp only [Act.put, List.setIfInBounds_toArray, List.set_cons_succ, List.set_cons_zero]
  refine wpFreeD_out rfl rfl rfl (cells := #[.slice (some ⟨q, 0, none⟩) n c', .int .i64 k]) rfl rfl (G.row m0) rfl (fun w1 w2 hw hb hch => ?_) infoRing rfl (by simp [Value.oneCell']) ?_
  · obtain ⟨B', e1, e2, e3⟩ := (hb ⟨8, Ground.data⟩ (by simp) (by kernel_rfl)).2 rfl
    exact ⟨_, rfl, B', by have := G.size; omega, ownsRow_ch hch e2 e3⟩
  refine wpFreeD_nil (fun w3 hw3 hF => ?_)
  obtain ⟨cs, hr, s', rfl, B', hB', ho⟩ := (hF 9).2 rfl
  have hle : le w w3 := G.below.trans (hw3.1.below (B := w.heap.size) (fun k e => by omega) G.size)
  obtain ⟨q9, cap9, cs9, rfl, hq9, hr9, ho9⟩ := own_tight ho h1 (fun j hj => (Hx.out j hj).2)
  go_wp2
  exact bodyPost_ret (results_row1 rfl _ _ _ _ _ rfl hr Try.underlying34 rfl infoRing) rfl ⟨q9, cap9, cs9, rfl, Nat.le_trans hB' hq9, hr9, ho9, hle⟩
theorem i_copied (B : Nat) (s : Value) (x : Nat → Nat) (n : Nat) (k : Int) (w : World) (hs : RdS w B s x n) (h1 : 1 ≤ n) (h2 : n ≤ 1024) :
    Calls Try.prog 87 #[.agg #[s, .int .i64 k]] w fun e w' => ∃ s', e = .returned (.agg #[s', .int .i64 k]) ∧ OwnS w' w.heap.size w'.heap.size s' x n ∧ le w w' := by
  refine (i_copiedT B s x n k w hs h1 h2).mono ?_
  rintro e w' ⟨q, cap, cs, rfl, hq, hr, ho, hl⟩
  exact ⟨_, rfl, ho.mono hq hr.lt, hl⟩
set_option maxRecDepth 100000 in
set_option maxHeartbeats 2000000 in
theorem s_l02Copy (B : Nat) (s : Value) (x : Nat → Nat) (n : Nat) (k : Int) (g f : Nat) (w : World) (hs : RdS w B s x n) (c0 : w.cell? ⟨g, f, none⟩ = some s) (c1 : w.cell? ⟨g, f + 1, none⟩ = some (.int .i64 k)) (h1 : 1 ≤ n) (h2 : n ≤ 1024) :
    Calls Try.prog 78 #[.pointer (some ⟨g, f, none⟩)] w fun e w' => ∃ s', e = .returned (.agg #[s', .int .i64 k]) ∧ OwnS w' w.heap.size w'.heap.size s' x n ∧ le w w' := by
  obtain ⟨a, cap, y, rfl, hc, hm, hx⟩ := hs.raw h1
  have Hx := hid hx; clear hx hs
  have C0 := hid c0; have C1 := hid c1; clear c0 c1
  unfold maxLen at hm
  obtain ⟨i, hi, hi1, hi2, hi3⟩ := info36
  have HI := hid hi; have HI1 := hid hi1; have HI2 := hid hi2; have HI3 := hid hi3; clear hi hi1 hi2 hi3
  have F := (Frg.nil w).box 34 #[.slice none 0 0, .int .i64 0]
  have hgw : g < w.heap.size := World.block_lt_of_cell? w _ C0.out
  go_enter Try.func78, Try.ntmps78
  go_wp2_with fail
  obtain ⟨W, hW⟩ : ∃ W, W = w.alloc (.cells #[.slice none 0 0, .int .i64 0] 34) := ⟨_, rfl⟩
  rw [← hW] at F ⊢
  have hz : W.heap.size = w.heap.size + 1 := by rw [hW]; simp
  clear hW
  have HZ := hid hz; clear hz
  have G := F.drewN 1
  have D0 := hid ((Below.cell G.below (p := ⟨g, f, none⟩) hgw).trans C0.out)
  have D1 := hid ((Below.cell G.below (p := ⟨g, f + 1, none⟩) hgw).trans C1.out)
  have hcl : ∀ j, j < n → (W.drewN 1).cell? (a.add j) = some (.float .f32 (y j)) ∧ a.block < w.heap.size := fun j hj => by
    have e1 := (Hx.out j hj).1
    have hlt : (a.add j).block < w.heap.size := World.block_lt_of_cell? w _ e1
    exact ⟨(Below.cell G.below hlt).trans e1, by rw [add_block] at hlt; exact hlt⟩
  have HC := hid hcl; clear hcl
  refine region_freeD (E := outX w.heap.size 34 2 (FinR w.heap.size 25 n y k) (FinR_le _ _ _ _ _)) (fun _ _ _ _ => True) (by kernel_rfl) (by kernel_rfl) ?_
  refine wpFreeD_new rfl (fun b => .slice (some ⟨b, 0, none⟩) 0 0) (.cells #[] 25) (fun w => by simp [execOp, run_empty w _ _ i Try.underlying22 HI.out, Result.andThen]) (fun b0 => ?_)
  simp only [Act.put, List.setIfInBounds_toArray, List.set_cons_succ, List.set_cons_zero]
  refine wpFreeD_one rfl (.pointer (some ⟨g, f, none⟩)) (fun w _ => by kernel_rfl) ?_
  simp only [Act.put, List.setIfInBounds_toArray, List.set_cons_succ, List.set_cons_zero]
  refine wpFreeD_one rfl (.pointer (some ⟨g, f, none⟩)) (fun w _ => by kernel_rfl) ?_
  simp only [Act.put, List.setIfInBounds_toArray, List.set_cons_succ, List.set_cons_zero]
  refine wpFreeD_one rfl (.pointer (some ⟨g, f, none⟩)) (fun w _ => by kernel_rfl) ?_
  simp only [Act.put, List.setIfInBounds_toArray, List.set_cons_succ, List.set_cons_zero]
  refine wpFreeD_cell rfl rfl rfl D0.out (by show g ≠ _; omega) kindF ?_
  simp only [Act.put, List.setIfInBounds_toArray, List.set_cons_succ, List.set_cons_zero]
  refine wpFreeD_append rfl rfl Try.underlying22 HI.out HI1.out HI2.out HI3.out rfl rfl h1 (by omega) (fun j hj => (HC.out j hj).1) (by have := (HC.out 0 (by omega)).2; omega) (fun q c' => ?_) (by have := G.row m0; exact this.lt)
  simp only [Act.put, List.setIfInBounds_toArray, List.set_cons_succ, List.set_cons_zero]
  refine wpFreeD_one rfl (.pointer (some ⟨g, f, none⟩)) (fun w _ => by kernel_rfl) ?_
  simp only [Act.put, List.setIfInBounds_toArray, List.set_cons_succ, List.set_cons_zero]
  refine wpFreeD_one rfl (.pointer (some ⟨g, f, none⟩)) (fun w _ => by kernel_rfl) ?_
  simp only [Act.put, List.setIfInBounds_toArray, List.set_cons_succ, List.set_cons_zero]
  refine wpFreeD_one rfl (.pointer (some ⟨g, f + 1, none⟩)) (fun w _ => by kernel_rfl) ?_
  simp only [Act.put, List.setIfInBounds_toArray, List.set_cons_succ, List.set_cons_zero]
  refine wpFreeD_cell rfl rfl rfl D1.out (by show g ≠ _; omega) kindI ?_
  simp only [Act.put, List.setIfInBounds_toArray, List.set_cons_succ, List.set_cons_zero]
  refine wpFreeD_carry rfl (.agg #[.slice (some ⟨q, 0, none⟩) n c', .int .i64 k]) (fun w _ => by kernel_rfl) (fun w' => ∃ B, (W.drewN 1).heap.size ≤ B ∧ w'.ownsRow B 25 1 (.slice (some ⟨q, 0, none⟩) n c') n (flist y n) ∧ w.heap.size < B) (fun w1 w2 hw ⟨B', e1, e2, e3⟩ => ⟨B', e1, ownsRow_out hw e2 e3, e3⟩) (fun w1 hw hb => (hb ⟨5, Ground.data⟩ (by simp) (by kernel_rfl)).1.1.1.1.2 rfl) ?_
  simp only [Act.put, List.setIfInBounds_toArray, List.set_cons_succ, List.set_cons_zero]
  refine wpFreeD_out rfl rfl rfl (cells := #[.slice (some ⟨q, 0, none⟩) n c', .int .i64 k]) rfl rfl (G.row m0) rfl (fun w1 w2 hw hb hch => ?_) infoRing rfl (by simp [Value.oneCell']) ?_
  · obtain ⟨B', e1, e2, e3⟩ := (hb ⟨10, Ground.data⟩ (by simp) (by kernel_rfl)).2 rfl
    exact ⟨_, rfl, B', by have := G.size; omega, ownsRow_ch hch e2 e3⟩
  refine wpFreeD_nil (fun w3 hw3 hF => ?_)
  obtain ⟨cs, hr, s', rfl, B', hB', ho⟩ := (hF 11).2 rfl
  have hle : le w w3 := G.below.trans (hw3.1.below (B := w.heap.size) (fun k e => by omega) G.size)
  have hown := (own_of_row ho (fun j hj => (Hx.out j hj).2)).mono hB' (Nat.le_refl _)
  go_wp2
  exact bodyPost_ret (results_row1 rfl _ _ _ _ _ rfl hr Try.underlying34 rfl infoRing) rfl ⟨_, rfl, hown, hle⟩
theorem i_oldest (B : Nat) (s : Value) (x : Nat → Nat) (n j : Nat) (w : World) (hs : RdS w B s x n) (hj : j < n) (hn : n ≤ 1024) :
    Calls Try.prog 176 #[.agg #[s, .int .i64 j]] w fun e w' => ∃ y, e = .returned (.float .f32 y) ∧ can .f32 y = x j ∧ fits .f32 y ∧ le w w' := by
  obtain ⟨a, cap, y, rfl, hc, hm, hx⟩ := hs.raw (by omega)
  have Hx := hid (hx j hj); clear hx hs
  unfold maxLen at hm
  have HL := hid (le_alloc w (.cells #[.slice (some a) n cap, .int .i64 j] 34))
  have cj := (Below.cell HL.out (World.block_lt_of_cell? w _ Hx.out.1)).trans Hx.out.1
  go_enter Try.func176, Try.ntmps176
  go_wp2
  go_ret
  exact ⟨_, rfl, Hx.out.2.2, Hx.out.2.1, HL.out⟩
set_option maxRecDepth 100000 in
set_option maxHeartbeats 2000000 in
theorem s_l02Push (lo hi : Nat) (s : Value) (x : Nat → Nat) (n j a g f : Nat) (t : TypeId) (cs : Array Value) (w : World) (hs : OwnS w lo hi s x n) (hr : Row w g t cs) (e0 : cs[f]? = some s) (e1 : cs[f + 1]? = some (.int .i64 j)) (hg : ¬ (lo ≤ g ∧ g < hi)) (hj : j < n) (hn : n ≤ 1024) (ha : fits .f32 a) :
    Calls Try.prog 81 #[.pointer (some ⟨g, f, none⟩), .float .f32 a] w (OutPu lo hi s x n j a g f t cs w) := by
  rcases hs with ⟨_, rfl⟩ | ⟨b, o, cap, ds, rfl, hc, hm, hb, hb', hrow, hx⟩
  · omega
  obtain ⟨y, ey, fy, cy⟩ := hx j hj
  have c0 : w.cell? ⟨g, f, none⟩ = some (.slice (some ⟨b, o, none⟩) n cap) := (hr.cell? f).trans e0
  have c1 : w.cell? ⟨g, f + 1, none⟩ = some (.int .i64 j) := (hr.cell? (f + 1)).trans e1
  have cb : w.cell? ⟨b, o + j, none⟩ = some (.float .f32 y) := (hrow.cell? (o + j)).trans ey
  have fb := hrow.frozen (o + j)
  have fg := hr.frozen (f + 1)
  have hne : b ≠ g := fun e => hg (e ▸ ⟨hb, hb'⟩)
  have HR := hid hr; have HROW := hid hrow; have HX := hid hx; have HY := hid ey; have HC := hid cy; have E0 := hid e0; have E1 := hid e1; have HM := hid hm
  clear hr hrow hx ey cy e0 e1
  unfold maxLen at hm
  go_enter Try.func81, Try.ntmps81
  go_wp2_with fail
  refine wp_region_loose (fun _ _ _ => True) (by kernel_rfl) (by kernel_rfl) ?_
  repeat (first | (refine wpLoose_quiet rfl ?_; go_big_quiet_step (fail); refine wpQuiet_nil ?_) | (refine wpLoose_nilP rfl rfl rfl ?_; simp only [Act.put, List.setIfInBounds_toArray, List.set_cons_succ, List.set_cons_zero]))
  refine wpLoose_nil (fun m1 => ?_)
  go_wp2_with fail
  refine wp_region_tail (fun _ _ _ => True) 10 (by kernel_rfl) (by kernel_rfl) ?_; simp only [List.take_succ_cons, List.take_zero, List.drop_succ_cons, List.drop_zero]
  repeat (first | (refine wpLoose_quiet rfl ?_; go_big_quiet_step (fail); refine wpQuiet_nil ?_) | (refine wpLoose_nilP rfl rfl rfl ?_; simp only [Act.put, List.setIfInBounds_toArray, List.set_cons_succ, List.set_cons_zero]))
  refine wpLoose_nil (fun m2 => ?_)
  go_wp2_with fail
  have hne' : g ≠ b := fun e => hne e.symm
  refine wp_region_tail (fun _ _ _ => True) 14 (by kernel_rfl) (by kernel_rfl) ?_; simp only [List.take_succ_cons, List.take_zero, List.drop_succ_cons, List.drop_zero]
  repeat (first | (refine wpLoose_quiet rfl ?_; go_big_quiet_step (fail); refine wpQuiet_nil ?_) | (refine wpLoose_nilP rfl rfl rfl ?_; simp only [Act.put, List.setIfInBounds_toArray, List.set_cons_succ, List.set_cons_zero]) | (refine wpLoose_len rfl rfl Try.underlying22 rfl ?_; simp only [Act.put, List.setIfInBounds_toArray, List.set_cons_succ, List.set_cons_zero]))
  refine wpLoose_nil (fun m3 => ?_)
  go_wp2
  go_ret
  refine ⟨y, rfl, HC.out, fy, ?_, own_set j a ((((HROW.out.drewN _).set (o + j) (.float .f32 a)).drewN m3).other ⟨g, f + 1, none⟩ _ hne) hc HM.out hb hb' (Array.getElem?_eq_some_iff.1 HY.out).1 ha HX.out, ?_⟩
  · rw [show (((j + 1) % n : Nat) : Int) = ((j : Int) + 1) % (n : Int) from by simp]
    exact (((HR.out.drewN _).other ⟨b, o + j, none⟩ _ hne').drewN m3).set (f + 1) _
  · exact Chg.setCell (Chg.le (Chg.setCell (Chg.of_le (le_drewN w _)) (.inr ⟨hb, hb'⟩) _) (le_drewN _ m3)) (.inl rfl) _
set_option maxRecDepth 100000 in
set_option maxHeartbeats 2000000 in
theorem i_push (lo hi : Nat) (s : Value) (x : Nat → Nat) (n j a g f : Nat) (t : TypeId) (cs : Array Value) (w : World) (hs : OwnS w lo hi s x n) (hr : Row w g t cs) (e0 : cs[f]? = some s) (e1 : cs[f + 1]? = some (.int .i64 j)) (hg : ¬ (lo ≤ g ∧ g < hi)) (hj : j < n) (hn : n ≤ 1024) (ha : fits .f32 a) :
    Calls Try.prog 189 #[.pointer (some ⟨g, f, none⟩), .float .f32 a] w (OutPu lo hi s x n j a g f t cs w) := by
  have HO := hid (fun (w' : World) (hl : le w w') => i_oldest hi s x n j w' (hs.rd.le hl) hj hn)
  rcases hs with ⟨_, rfl⟩ | ⟨b, o, cap, ds, rfl, hc, hm, hb, hb', hrow, hx⟩
  · omega
  have hne : b ≠ g := fun e => hg (e ▸ ⟨hb, hb'⟩)
  have hne' : g ≠ b := fun e => hne e.symm
  have HR := hid hr; have HROW := hid hrow; have HX := hid hx; have E0 := hid e0; have E1 := hid e1; have HM := hid hm
  clear hr hrow hx e0 e1
  unfold maxLen at hm
  have k0 : w.cell? ⟨g, f, none⟩ = some (.slice (some ⟨b, o, none⟩) n cap) := (HR.out.cell? f).trans E0.out
  have k1 : w.cell? ⟨g, f + 1, none⟩ = some (.int .i64 j) := (HR.out.cell? (f + 1)).trans E1.out
  go_enter Try.func189, Try.ntmps189
  go_wp2_with fail
  refine (HO.out _ (le_refl _)).mono ?_
  rintro e w2 ⟨y, rfl, cy, fy, hl⟩
  obtain ⟨y0, ey, _, _⟩ := HX.out j hj
  have HY := hid (Array.getElem?_eq_some_iff.1 ey).1
  have hr2 := HR.out.le hl
  have hrow2 := HROW.out.le hl
  have c0 : w2.cell? ⟨g, f, none⟩ = some (.slice (some ⟨b, o, none⟩) n cap) := (hr2.cell? f).trans E0.out
  have c1 : w2.cell? ⟨g, f + 1, none⟩ = some (.int .i64 j) := (hr2.cell? (f + 1)).trans E1.out
  have cb : w2.cell? ⟨b, o + j, none⟩ = some (.float .f32 y0) := (hrow2.cell? (o + j)).trans ey
  have fb := hrow2.frozen (o + j)
  have fg := hr2.frozen (f + 1)
  have HR2 := hid hr2; have HROW2 := hid hrow2; have HL := hid hl; have HC := hid cy
  clear hr2 hrow2 hl ey cy
  go_wp2_with fail
  refine wp_region_tail (fun _ _ _ => True) 10 (by kernel_rfl) (by kernel_rfl) ?_; simp only [List.take_succ_cons, List.take_zero, List.drop_succ_cons, List.drop_zero]
  repeat (first | (refine wpLoose_quiet rfl ?_; go_big_quiet_step (fail); refine wpQuiet_nil ?_) | (refine wpLoose_nilP rfl rfl rfl ?_; simp only [Act.put, List.setIfInBounds_toArray, List.set_cons_succ, List.set_cons_zero]))
  refine wpLoose_nil (fun m2 => ?_)
  go_wp2_with fail
  refine wp_region_tail (fun _ _ _ => True) 14 (by kernel_rfl) (by kernel_rfl) ?_; simp only [List.take_succ_cons, List.take_zero, List.drop_succ_cons, List.drop_zero]
  repeat (first | (refine wpLoose_quiet rfl ?_; go_big_quiet_step (fail); refine wpQuiet_nil ?_) | (refine wpLoose_nilP rfl rfl rfl ?_; simp only [Act.put, List.setIfInBounds_toArray, List.set_cons_succ, List.set_cons_zero]) | (refine wpLoose_len rfl rfl Try.underlying22 rfl ?_; simp only [Act.put, List.setIfInBounds_toArray, List.set_cons_succ, List.set_cons_zero]))
  refine wpLoose_nil (fun m3 => ?_)
  go_wp2
  go_ret
  refine ⟨y, rfl, HC.out, fy, ?_, own_set j a ((((HROW2.out.drewN _).set (o + j) (.float .f32 a)).drewN m3).other ⟨g, f + 1, none⟩ _ hne) hc HM.out hb hb' HY.out ha HX.out, ?_⟩
  · rw [show (((j + 1) % n : Nat) : Int) = ((j : Int) + 1) % (n : Int) from by simp]
    exact (((HR2.out.drewN _).other ⟨b, o + j, none⟩ _ hne').drewN m3).set (f + 1) _
  · exact Chg.setCell (Chg.le (Chg.setCell (Chg.of_le (le_trans HL.out (le_drewN w2 _))) (.inr ⟨hb, hb'⟩) _) (le_drewN _ m3)) (.inl rfl) _
theorem okRing_nat {n : Nat} {k : Int} (h : okRing n k = true) : 1 ≤ n ∧ n ≤ 1024 ∧ ∃ j : Nat, k = j ∧ j < n := by
  have := okRing_iff.1 h
  exact ⟨this.1, this.2.1, k.toNat, by omega, by omega⟩
end Go.Proofs.Ytnkjmgadnejdlac

/- Cells of slices that one may write. Nothing here names a program. -/
namespace Go.Fk
open Go Go.RowKit
theorem OwnS.form {w : World} {lo hi n : Nat} {s : Value} {x : Nat → Nat} (h : OwnS w lo hi s x n) (hn : 1 ≤ n) : ∃ b o cap, s = .slice (some ⟨b, o, none⟩) n cap ∧ n ≤ cap ∧ cap ≤ maxLen ∧ lo ≤ b ∧ b < hi := by
  rcases h with ⟨_, rfl⟩ | ⟨b, o, cap, cs, h1, h2, h3, h4, h5, _⟩
  · omega
  · exact ⟨b, o, cap, h1, h2, h3, h4, h5⟩
theorem OwnS.at {w : World} {lo hi b o n cap : Nat} {x : Nat → Nat} (h : OwnS w lo hi (.slice (some ⟨b, o, none⟩) n cap) x n) {i : Nat} (hi' : i < n) : ∃ y, w.cell? ⟨b, o + i, none⟩ = some (.float .f32 y) ∧ w.frozen? ⟨b, o + i, none⟩ = false ∧ fits .f32 y ∧ can .f32 y = x i := by
  rcases h with ⟨h0, _⟩ | ⟨b', o', cap', cs, h1, h2, h3, h4, h5, h6, h7⟩
  · cases h0
  · simp only [Value.slice.injEq, Option.some.injEq, Addr.mk.injEq, and_true, true_and] at h1
    obtain ⟨⟨rfl, rfl⟩, rfl⟩ := h1
    obtain ⟨y, e1, e2, e3⟩ := h7 i hi'
    exact ⟨y, (h6.cell? (o + i)).trans e1, h6.frozen (o + i), e2, e3⟩
theorem OwnS.set {w : World} {lo hi b o n cap : Nat} {x : Nat → Nat} (h : OwnS w lo hi (.slice (some ⟨b, o, none⟩) n cap) x n) {i a : Nat} (hi' : i < n) (ha : fits .f32 a) :
    OwnS (w.setCell ⟨b, o + i, none⟩ (.float .f32 a)) lo hi (.slice (some ⟨b, o, none⟩) n cap) (pushX x i a) n ∧ Chg (rng lo hi) w (w.setCell ⟨b, o + i, none⟩ (.float .f32 a)) := by
  rcases h with ⟨h0, _⟩ | ⟨b', o', cap', cs, h1, h2, h3, h4, h5, h6, h7⟩
  · cases h0
  · simp only [Value.slice.injEq, Option.some.injEq, Addr.mk.injEq, and_true, true_and] at h1
    obtain ⟨⟨rfl, rfl⟩, rfl⟩ := h1
    refine ⟨.inr ⟨b, o, cap, cs.setIfInBounds (o + i) (.float .f32 a), rfl, h2, h3, h4, h5, h6.set _ _, fun j hj => ?_⟩, (Chg.refl _ _).setCell (a := ⟨b, o + i, none⟩) ⟨h4, h5⟩ _⟩
    obtain ⟨y0, e0, _⟩ := h7 i hi'
    have hlt : o + i < cs.size := (Array.getElem?_eq_some_iff.1 e0).1
    by_cases e : j = i
    · subst e
      exact ⟨a, by simp [hlt], ha, by simp [pushX]⟩
    · obtain ⟨y, e1, e2, e3⟩ := h7 j hj
      exact ⟨y, by rw [Array.getElem?_setIfInBounds_ne (by omega)]; exact e1, e2, by simp [pushX, e, e3]⟩
namespace Frg
variable {w0 w w' : World}
theorem chg0 {e e' : Fact} {post : List Fact} (h : Frg w0 w (e :: post)) (k : Chg (rng e.lo e.hi) w w') (hp : e'.p w') (h1 : e'.lo = e.lo) (h2 : e'.hi = e.hi) : Frg w0 w' (e' :: post) := chg [] h k hp h1 h2
theorem chg1 {b0 e e' : Fact} {post : List Fact} (h : Frg w0 w (b0 :: e :: post)) (k : Chg (rng e.lo e.hi) w w') (hp : e'.p w') (h1 : e'.lo = e.lo) (h2 : e'.hi = e.hi) : Frg w0 w' (b0 :: e' :: post) := chg [b0] h k hp h1 h2
end Frg
/-- The first k samples are 0. -/
def zeroTo (k : Nat) (x : Nat → Nat) : Nat → Nat := fun i => if i < k then 0 else x i
theorem zeroTo_0 (x : Nat → Nat) : zeroTo 0 x = x := by funext i; simp [zeroTo]
theorem zeroTo_s (k : Nat) (x : Nat → Nat) : pushX (zeroTo k x) k 0 = zeroTo (k + 1) x := by
  funext i
  unfold pushX zeroTo
  by_cases e : i = k
  · subst e; simp; decide
  · by_cases l : i < k
    · simp [e, l, show i < k + 1 by omega]
    · simp [e, l, show ¬ i < k + 1 by omega]
end Go.Fk

/- Regions that draw: a new row, the length of a slice. Nothing here names a program. -/
namespace Go.Fk
open Go Go.RowKit
section
variable {P : Program} {ops : Array Oper} {W : World} {K : FuncId → Array Value → World → Value → Prop} {Q : Act → World → Prop} {F : World → Prop} {o : Oper} {rest : List Oper} {a : Act}
/-- A new row is made. -/
theorem wpFree_made (hg : o.guard = none) (f : Nat → Value) (t : TypeId) (cs : Array Value)
    (hr : ∀ w, (execOp a.eval o).run P w = .ok (.value (f w.heap.size)) (w.alloc (.cells cs t)))
    (h : ∀ b, W.heap.size ≤ b → wpFree P ops W K Q rest (a.put o.dst (f b)) (fun w => F w ∧ ∃ b', f b = f b' ∧ W.heap.size ≤ b' ∧ Row w b' t cs)) : wpFree P ops W K Q (o :: rest) a F := by
  refine ⟨fun w v => ∃ b, v = f b ∧ W.heap.size ≤ b ∧ Row w b t cs, ⟨fun v w w' hl h => ?_, .inl ⟨by simp [Region.wanted, hg], fun w hw => ?_⟩⟩, fun v hv => ?_⟩
  · obtain ⟨b, e, h1, h2⟩ := h; exact ⟨b, e, h1, h2.le hl⟩
  · rw [hr]
    exact ⟨le_alloc w _, w.heap.size, rfl, Below.size hw, Row.new w t cs⟩
  · obtain ⟨w, _, b, rfl, hb, _⟩ := hv
    exact h b hb
theorem wpFree_len (hg : o.guard = none) {x : Operand} {t : TypeId} (hop : o.op = Op.call { callee := Callee.builtin Builtin.len, args := #[x], argTypes := #[t] }) {e : TypeId} (hu : P.underlying t = some (.slice e)) {ao : Option Addr} {n c : Nat} (hx : a.eval x = .slice ao n c)
    (h : wpFree P ops W K Q rest (a.put o.dst (.int .i64 n)) F) : wpFree P ops W K Q (o :: rest) a F := by
  refine wpFree_one hg (.int .i64 n) (fun w _ => ?_) h
  simp [execOp, hop, hx, Result.andThen, resolve, invoke, builtin, Builtin.len_, run_underlying hu]
  rfl
end
end Go.Fk

/- Muted rings: '(Ring).muted' of the program, 'l05Muted' of the model. -/
namespace Go.Proofs.Ytnkjmgadnejdlac
open Go.RowKit Go.Fk
theorem own_zero {w : World} {b n lo hi : Nat} (h : Row w b 25 (ftab .f32 (fun _ => 0) n)) (hn : n ≤ 1024) (hlo : lo ≤ b) (hhi : b < hi) : OwnS w lo hi (.slice (some ⟨b, 0, none⟩) n n) (fun _ => 0) n :=
  .inr ⟨b, 0, n, _, rfl, Nat.le_refl _, by unfold maxLen; omega, hlo, hhi, h, fun i hi => ⟨0, by rw [Nat.zero_add]; exact get_ftab .f32 (fun _ => 0) n i hi, by simp [fits, Lit.wf], show can .f32 0 = 0 by decide⟩⟩
end Go.Proofs.Ytnkjmgadnejdlac

/- 'OnePole', 'OneZero', 'BlockDc', 'AllpassFor'. -/
namespace Go.Fk
open Go Go.RowKit
/-- A filter is given, each of its numbers up to the bits of NaN. -/
def OutL (k : Int) (A B C X Y : Nat) (B0 : Nat) (w0 : World) (e : Ending) (w' : World) : Prop := ∃ a b c x y, e = .returned (.agg #[.int .i64 k, .float .f32 a, .float .f32 b, .float .f32 c, .float .f32 x, .float .f32 y]) ∧ (can .f32 a = A ∧ can .f32 b = B ∧ can .f32 c = C ∧ can .f32 x = X ∧ can .f32 y = Y) ∧ Below B0 w0 w'
def quoA (q : Nat) : Nat := fop .quo .f32 (fop .sub .f32 1065353216 q) (fop .add .f32 1065353216 q)
theorem Row.store6 {W : World} {g : Nat} {t : TypeId} {o0 o1 o2 o3 o4 o5 v0 v1 v2 v3 v4 v5 : Value} (h : Row W g t #[o0, o1, o2, o3, o4, o5]) :
    Row ((((((W.setCell ⟨g, 0, none⟩ v0).setCell ⟨g, 1, none⟩ v1).setCell ⟨g, 2, none⟩ v2).setCell ⟨g, 3, none⟩ v3).setCell ⟨g, 4, none⟩ v4).setCell ⟨g, 5, none⟩ v5) g t #[v0, v1, v2, v3, v4, v5] := by
  have := (((((h.set 0 v0).set 1 v1).set 2 v2).set 3 v3).set 4 v4).set 5 v5
  simpa using this
theorem can_zero : can .f32 0 = 0 := by decide
/-- Is it from 0 to 2? -/
def to2 (q : Nat) : Bool := (FloatKind.f32.format.order q 0 == some .gt || FloatKind.f32.format.order q 0 == some .eq) && (FloatKind.f32.format.order q 1073741824 == some .lt || FloatKind.f32.format.order q 1073741824 == some .eq)
/-- 'AllpassFor': a filter and OK, or none and ErrRange. -/
def OutA (q : Nat) (B0 : Nat) (w0 : World) (e : Ending) (w' : World) : Prop :=
  (to2 q = true → ∃ a, e = .returned (.tuple #[(.agg #[.int .i64 3, .float .f32 a, .float .f32 0, .float .f32 0, .float .f32 0, .float .f32 0]), .int .i64 0]) ∧ can .f32 a = quoA q) ∧ (to2 q = false → e = .returned (.tuple #[(.agg #[.int .i64 0, .float .f32 0, .float .f32 0, .float .f32 0, .float .f32 0, .float .f32 0]), .int .i64 2])) ∧ Below B0 w0 w'
end Go.Fk
namespace Go.Proofs.Ytnkjmgadnejdlac
open Go.RowKit Go.Fk
end Go.Proofs.Ytnkjmgadnejdlac

/- As FreeD, where it is known besides that no two operations of a region run at one time: what one has made is there when the other starts, or the other way round. So what they make lies apart. Nothing here names a program. -/
namespace Go.Fk
open Go Go.RowKit

/-- What is known of each operation's value: 'z' is the number of blocks where it started. -/
abbrev FactsZ := Nat → Nat → World → Prop
def FactsZ.with (F : FactsZ) (k : Nat) (V : Nat → World → Prop) : FactsZ := fun e z w => F e z w ∧ (e = k → V z w)

section
variable (E : Ext) (P : Program) (ops : Array Oper) (md : Region.Mode) (W : World) (K : FuncId → Array Value → Nat → World → Value → Prop)
/-- One operation was over where the other started. -/
def beforeZ (zs : Nat → Nat) (F : FactsZ) (w : World) (p q : Nat) : Prop := ∃ w', E.R W w' ∧ E.R w' w ∧ w'.heap.size = zs q ∧ F p (zs p) w'
def crossZ (zs : Nat → Nat) (F : FactsZ) (w : World) : Prop := ∀ p q, p ≠ q → beforeZ E W zs F w p q ∨ beforeZ E W zs F w q p
/-- What is known where an operation starts: of those that it comes behind, and of their order. -/
def behindZ (o : Oper) (F : FactsZ) (w : World) : Prop := ∃ zs : Nat → Nat, (∀ e ∈ o.after, Region.binds md e = true → F e.on (zs e.on) w) ∧
  ∀ p ∈ o.after, Region.binds md p = true → ∀ q ∈ o.after, Region.binds md q = true → p.on ≠ q.on → beforeZ E W zs F w p.on q.on ∨ beforeZ E W zs F w q.on p.on
def MonoZ (V : Nat → World → Value → Prop) : Prop := ∀ z v w w', E.R w w' → V z w v → V z w' v
def YieldsZ (o : Oper) (a : Act) (F : FactsZ) (V : Nat → World → Value → Prop) : Prop :=
  MonoZ E V ∧ ((Region.wanted o (yielded ops a.tmps) = true ∧ ∀ w, E.R W w → behindZ E md W o F w → insideT E P (fun f args => K f args w.heap.size) w (V w.heap.size) ((execOp a.eval o).run P w)) ∨ (Region.wanted o (yielded ops a.tmps) = false ∧ ∀ w, E.R W w → behindZ E md W o F w → V w.heap.size w undef))
def metZ (F : FactsZ) : Prop := ∃ w zs, E.R W w ∧ (∀ e, F e (zs e) w) ∧ crossZ E W zs F w
def wpFreeZ (Q : Act → World → Prop) : List Oper → Nat → Act → FactsZ → Prop
  | [], _, a, F => ∀ w zs, E.R W w → (∀ e, F e (zs e) w) → crossZ E W zs F w → Q a w
  | o :: rest, k, a, F => ∃ V, YieldsZ E P ops md W K o a F V ∧ ∀ v, metZ E W (F.with k (fun z w => V z w v)) → wpFreeZ Q rest (k + 1) (a.put o.dst v) (F.with k (fun z w => V z w v))
def anyFreeZ (n : Nat) (L : Array Bool → Act → FactsZ → Prop) : Nat → Array Bool → Act → FactsZ → Prop
  | 0, listed, a, F => L listed a F
  | f + 1, listed, a, F => Region.ready md ops listed ≠ [] ∧
      ∀ i ∈ Region.ready md ops listed, i < n ∧ ∀ o, ops[i]? = some o → ∃ V, YieldsZ E P ops md W K o a F V ∧ ∀ v, metZ E W (F.with i (fun z w => V z w v)) → anyFreeZ n L f (listed.setIfInBounds i true) (a.put o.dst v) (F.with i (fun z w => V z w v))
def FMonoZ (F : FactsZ) : Prop := ∀ w w', E.R w w' → ∀ e z, F e z w → F e z w'
/-- Of what is not listed, nothing is told. -/
def TrivZ (listed : Array Bool) (F : FactsZ) : Prop := ∀ i, listed.getD i true = false → ∀ z w, F i z w
end

section
variable {E : Ext} {P : Program} {ops : Array Oper} {md : Region.Mode} {W : World} {K : FuncId → Array Value → Nat → World → Value → Prop}
theorem FMonoZ.with {F : FactsZ} (h : FMonoZ E F) {V : Nat → World → Value → Prop} (hV : MonoZ E V) (k : Nat) (v : Value) : FMonoZ E (F.with k (fun z w => V z w v)) := fun w w' hw e z hF =>
  ⟨h w w' hw e z hF.1, fun he => hV z v w w' hw (hF.2 he)⟩
theorem beforeZ.weaken {F F' : FactsZ} (h : ∀ e z w, F' e z w → F e z w) {zs : Nat → Nat} {w : World} {p q : Nat} (hb : beforeZ E W zs F' w p q) : beforeZ E W zs F w p q := by
  obtain ⟨w', b1, b2, b3, b4⟩ := hb; exact ⟨w', b1, b2, b3, h _ _ _ b4⟩
theorem crossZ.weaken {F F' : FactsZ} (h : ∀ e z w, F' e z w → F e z w) {zs : Nat → Nat} {w : World} (hc : crossZ E W zs F' w) : crossZ E W zs F w := fun p q hpq => (hc p q hpq).imp (·.weaken h) (·.weaken h)
theorem metZ.weaken {F F' : FactsZ} (h : ∀ e z w, F' e z w → F e z w) (hx : metZ E W F') : metZ E W F := by
  obtain ⟨w, zs, hw, hF, hc⟩ := hx; exact ⟨w, zs, hw, fun e => h _ _ _ (hF e), hc.weaken h⟩
theorem behindZ.of {F : FactsZ} {w : World} {zs : Nat → Nat} (hF : ∀ e, F e (zs e) w) (hc : crossZ E W zs F w) (o : Oper) : behindZ E md W o F w := ⟨zs, fun e _ _ => hF e.on, fun p _ _ q _ _ hpq => hc _ _ hpq⟩
theorem crossZ.step {F : FactsZ} {zs : Nat → Nat} {w w' : World} {i : Nat} {V : Nat → World → Prop} (hw : E.R W w) (hl : E.R w w') (h1 : ∀ e, F e (zs e) w) (h2 : crossZ E W zs F w) :
    crossZ E W (fun e => if e = i then w.heap.size else zs e) (F.with i V) w' := by
  intro p q hpq
  by_cases hp : p = i
  · subst hp
    right
    refine ⟨w, hw, hl, by simp, ?_⟩
    simp only [if_neg (Ne.symm hpq)]
    exact ⟨h1 q, fun h => absurd h (Ne.symm hpq)⟩
  · by_cases hq : q = i
    · subst hq
      left
      refine ⟨w, hw, hl, by simp, ?_⟩
      simp only [if_neg hpq]
      exact ⟨h1 p, fun h => absurd h hpq⟩
    · simp only [beforeZ, if_neg hp, if_neg hq]
      rcases h2 p q hpq with ⟨w2, a1, a2, a3, a4⟩ | ⟨w2, a1, a2, a3, a4⟩
      · exact .inl ⟨w2, a1, E.trans a2 hl, a3, a4, fun h => absurd h hp⟩
      · exact .inr ⟨w2, a1, E.trans a2 hl, a3, a4, fun h => absurd h hq⟩
theorem metZ.step {F : FactsZ} {w w' : World} {zs : Nat → Nat} {i : Nat} {V : Nat → World → Prop} (hm : FMonoZ E F) (ht : ∀ z w, F i z w) (hw : E.R W w) (hl : E.R w w') (h1 : ∀ e, F e (zs e) w) (h2 : crossZ E W zs F w) (hv : V w.heap.size w') : metZ E W (F.with i V) := by
  refine ⟨w', fun e => if e = i then w.heap.size else zs e, E.trans hw hl, fun e => ?_, h2.step hw hl h1⟩
  by_cases he : e = i
  · subst he
    simp only [if_true]
    exact ⟨ht _ _, fun _ => hv⟩
  · simp only [if_neg he]
    exact ⟨hm w w' hl e _ (h1 e), fun h => absurd h he⟩
theorem YieldsZ.some {o : Oper} {a : Act} {F : FactsZ} {V : Nat → World → Value → Prop} {i : Nat} (hm : FMonoZ E F) (ht : ∀ z w, F i z w) (hx : metZ E W F) (h : YieldsZ E P ops md W K o a F V) : ∃ v, metZ E W (F.with i (fun z w => V z w v)) := by
  obtain ⟨w, zs, hw, hF, hc⟩ := hx
  rcases h.2 with ⟨_, h⟩ | ⟨_, h⟩
  · obtain ⟨v, w', hl, hv⟩ := insideT_some (h w hw (.of hF hc o))
    exact ⟨v, metZ.step hm ht hw hl hF hc hv⟩
  · exact ⟨undef, metZ.step hm ht hw (E.refl w) hF hc (h w hw (.of hF hc o))⟩
theorem YieldsZ.same {o : Oper} {a a' : Act} {F : FactsZ} {V : Nat → World → Value → Prop} (he : execOp a'.eval o = execOp a.eval o) (hw : Region.wanted o (yielded ops a'.tmps) = Region.wanted o (yielded ops a.tmps))
    (h : YieldsZ E P ops md W K o a F V) : YieldsZ E P ops md W K o a' F V := by
  unfold YieldsZ at *; rw [he, hw]; exact h
theorem YieldsZ.stronger {o : Oper} {a : Act} {F F' : FactsZ} {V : Nat → World → Value → Prop} (hF : ∀ e z w, F' e z w → F e z w) (h : YieldsZ E P ops md W K o a F V) : YieldsZ E P ops md W K o a F' V := by
  have key : ∀ w, behindZ E md W o F' w → behindZ E md W o F w := fun w ⟨zs, h1, h2⟩ => ⟨zs, fun e he hb => hF _ _ _ (h1 e he hb), fun p hp hbp q hq hbq hne => (h2 p hp hbp q hq hbq hne).imp (·.weaken hF) (·.weaken hF)⟩
  refine ⟨h.1, ?_⟩
  rcases h.2 with ⟨h1, h2⟩ | ⟨h1, h2⟩
  · exact .inl ⟨h1, fun w hw hb => h2 w hw (key w hb)⟩
  · exact .inr ⟨h1, fun w hw hb => h2 w hw (key w hb)⟩
theorem YieldsZ.less {o : Oper} {a : Act} {F : FactsZ} {i : Nat} {X : Nat → World → Prop} {V : Nat → World → Value → Prop} (hn : ∀ e ∈ o.after, Region.binds md e = true → e.on ≠ i) (h : YieldsZ E P ops md W K o a (F.with i X) V) : YieldsZ E P ops md W K o a F V := by
  have key : ∀ w, behindZ E md W o F w → behindZ E md W o (F.with i X) w := fun w ⟨zs, h1, h2⟩ => ⟨zs, fun e he hb => ⟨h1 e he hb, fun h => absurd h (hn e he hb)⟩, fun p hp hbp q hq hbq hne => by
    have lift : ∀ (p q : Edge), p ∈ o.after → Region.binds md p = true → beforeZ E W zs F w p.on q.on → beforeZ E W zs (F.with i X) w p.on q.on := fun p q hp hbp ⟨w', b1, b2, b3, b4⟩ => ⟨w', b1, b2, b3, b4, fun h => absurd h (hn p hp hbp)⟩
    exact (h2 p hp hbp q hq hbq hne).imp (lift p q hp hbp) (lift q p hq hbq)⟩
  refine ⟨h.1, ?_⟩
  rcases h.2 with ⟨h1, h2⟩ | ⟨h1, h2⟩
  · exact .inl ⟨h1, fun w hw hb => h2 w hw (key w hb)⟩
  · exact .inr ⟨h1, fun w hw hb => h2 w hw (key w hb)⟩
theorem YieldsZ.more {o : Oper} {a : Act} {F : FactsZ} {i : Nat} {X : Nat → World → Prop} {V : Nat → World → Value → Prop} (h : YieldsZ E P ops md W K o a F V) : YieldsZ E P ops md W K o a (F.with i X) V := h.stronger (fun _ _ _ h => h.1)
theorem wpOp_yieldsZ {i : Nat} {o : Oper} {a : Act} {w : World} {F : FactsZ} {V : Nat → World → Value → Prop} {next : Act → World → Prop} {Q' : Exit → Act → World → Prop} (ho : ops[i]? = some o) (hw : E.R W w) (hB : behindZ E md W o F w) (hg : YieldsZ E P ops md W K o a F V)
    (hn : ∀ v w', E.R w w' → V w.heap.size w' v → next (a.put o.dst v) w') : wpOp P ops Q' i next a w := by
  unfold wpOp
  simp only [ho]
  rcases hg.2 with ⟨hwant, hv⟩ | ⟨hwant, hv⟩
  · rw [if_pos hwant]
    left
    have h3 := hv w hw hB
    unfold Oper.wp
    generalize (execOp a.eval o).run P w = r at h3
    cases r with
    | ok x w' =>
      cases x <;> simp only [insideT] at h3 <;> simp only [Oper.upon]
      case value u => exact hn u _ h3.1 h3.2
      case skip => exact hn undef _ h3.1 h3.2
      case enter f args =>
        refine h3.2.1.mono fun e w'' he => ?_
        obtain ⟨v, rfl, hl, hk⟩ := he
        exact hn v _ (E.trans h3.1 hl) (h3.2.2 w'' v hk)
    | halt x w' => simp only [insideT] at h3
  · rw [if_neg (by simp [hwant])]
    exact hn undef _ (E.refl w) (hv w hw hB)
theorem TrivZ.with {listed : Array Bool} {F : FactsZ} (h : TrivZ listed F) (i : Nat) (V : Nat → World → Prop) (hi : i < listed.size) : TrivZ (listed.setIfInBounds i true) (F.with i V) := fun j hj z w => by
  have hne : j ≠ i := fun e => by
    subst e
    rw [Array.getD_eq_getD_getElem?, Array.getElem?_setIfInBounds_self_of_lt hi] at hj
    simp at hj
  refine ⟨h j ?_ z w, fun e => absurd e hne⟩
  rw [Array.getD_eq_getD_getElem?, Array.getElem?_setIfInBounds_ne (Ne.symm hne)] at hj
  rwa [Array.getD_eq_getD_getElem?]
theorem anyFreeZ_sound {n g : Nat} {L : Array Bool → Act → FactsZ → Prop} {Q' : Exit → Act → World → Prop} (hL : ∀ listed a F w zs, E.R W w → (∀ e, F e (zs e) w) → crossZ E W zs F w → L listed a F → wpAny P md ops Q' g listed a w) :
    ∀ (f : Nat) (listed : Array Bool) (a : Act) (F : FactsZ) (w : World) (zs : Nat → Nat), FMonoZ E F → TrivZ listed F → E.R W w → (∀ e, F e (zs e) w) → crossZ E W zs F w → anyFreeZ E P ops md W K n L f listed a F → wpAny P md ops Q' (f + g) listed a w := by
  intro f
  induction f with
  | zero => intro listed a F w zs _ _ hw hF hc h; rw [Nat.zero_add]; exact hL _ _ _ _ zs hw hF hc h
  | succ f ih =>
    intro listed a F w zs hm ht hw hF hc h
    rw [show f + 1 + g = (f + g) + 1 by omega]
    refine ⟨fun h0 => absurd h0 h.1, fun i hi => ?_⟩
    obtain ⟨hun, o, ho, _⟩ := mem_ready.1 hi
    have hlt : i < listed.size := by
      rcases Nat.lt_or_ge i listed.size with h' | h'
      · exact h'
      · simp [Array.getElem?_eq_none h'] at hun
    obtain ⟨V, hg, hn⟩ := (h.2 i hi).2 o ho
    refine wpOp_yieldsZ ho hw (.of hF hc o) hg (fun v w' hl hv => ?_)
    refine ih _ _ _ _ (fun e => if e = i then w.heap.size else zs e) (hm.with hg.1 i v) (ht.with i _ hlt) (E.trans hw hl) (fun e => ?_) (hc.step hw hl hF) (hn v (metZ.step hm (ht i hun) hw hl hF hc hv))
    by_cases he : e = i
    · subst he
      simp only [if_true]
      exact ⟨ht e hun _ _, fun _ => hv⟩
    · simp only [if_neg he]
      exact ⟨hm w w' hl e _ (hF e), fun h => absurd h he⟩
theorem withZ_comm (F : FactsZ) (i j : Nat) (X Y : Nat → World → Prop) : (F.with i X).with j Y = (F.with j Y).with i X := by
  funext e z w
  unfold FactsZ.with
  exact propext ⟨fun h => ⟨⟨h.1.1, h.2⟩, h.1.2⟩, fun h => ⟨⟨h.1.1, h.2⟩, h.1.2⟩⟩
theorem anyFreeZ_weaken {n : Nat} {L : Array Bool → Act → FactsZ → Prop} (hLm : ∀ listed a F F', (∀ e z w, F' e z w → F e z w) → L listed a F → L listed a F') :
    ∀ (f : Nat) (listed : Array Bool) (a : Act) (F F' : FactsZ), (∀ e z w, F' e z w → F e z w) → anyFreeZ E P ops md W K n L f listed a F → anyFreeZ E P ops md W K n L f listed a F' := by
  intro f
  induction f with
  | zero => intro listed a F F' h hh; exact hLm _ _ _ _ h hh
  | succ f ih =>
    intro listed a F F' h hh
    refine ⟨hh.1, fun i hi => ⟨(hh.2 i hi).1, fun o ho => ?_⟩⟩
    obtain ⟨V, hg, hn⟩ := (hh.2 i hi).2 o ho
    exact ⟨V, hg.stronger h, fun v hv => ih _ _ _ _ (fun e z w hw => ⟨h e z w hw.1, hw.2⟩) (hn v (hv.weaken (fun e z w hw => ⟨h e z w hw.1, hw.2⟩)))⟩
theorem anyFreeZ_first {n i : Nat} {oi : Oper} {V : Nat → World → Value → Prop} {L : Array Bool → Act → FactsZ → Prop} (hi : ops[i]? = some oi) (hsel : ∀ (j : Nat) (o : Oper) cs b, ops[j]? = some o → o.op ≠ .select cs b)
    (hbound : ∀ listed i, HeadInv md ops n listed → i < n → listed.getD i true = false → ∀ j ∈ Region.ready md ops listed, j < n) (hin : i < n)
    (hdone : ∀ listed a F, L listed a F → ∀ j ∈ Region.ready md ops listed, n ≤ j) (hLm : ∀ listed a F F', (∀ e z w, F' e z w → F e z w) → L listed a F → L listed a F') :
    ∀ (f : Nat) (listed : Array Bool) (a : Act) (F : FactsZ), HeadInv md ops n listed →
      (∀ j oj, ops[j]? = some oj → j ≠ i → listed.getD j true = false → (∀ e ∈ oj.after, Region.binds md e = true → e.on ≠ i) → oi.apart ops oj = true) →
      i ∈ Region.ready md ops listed → FMonoZ E F → TrivZ listed F → metZ E W F → YieldsZ E P ops md W K oi a F V →
      (∀ v, metZ E W (F.with i (fun z w => V z w v)) → anyFreeZ E P ops md W K n L f (listed.setIfInBounds i true) (a.put oi.dst v) (F.with i (fun z w => V z w v))) → anyFreeZ E P ops md W K n L (f + 1) listed a F := by
  intro f
  induction f with
  | zero =>
    intro listed a F inv _ hr hm ht hx hg H
    have hun := (mem_ready.1 hr).1
    refine ⟨fun h => (by rw [h] at hr; cases hr), fun j hj => ?_⟩
    have hjn := hbound listed i inv hin hun j hj
    refine ⟨hjn, fun o ho => ?_⟩
    by_cases hji : j = i
    · subst hji
      rw [hi] at ho; cases ho
      exact ⟨V, hg, H⟩
    · obtain ⟨v, hv⟩ := hg.some (i := i) hm (ht i hun) hx
      have := hdone _ _ _ (H v hv) j (ready_mono hj hji)
      omega
  | succ f ih =>
    intro listed a F inv hfree hr hm ht hx hg H
    have hun := (mem_ready.1 hr).1
    refine ⟨fun h => (by rw [h] at hr; cases hr), fun j hj => ?_⟩
    have hjn := hbound listed i inv hin hun j hj
    refine ⟨hjn, fun o ho => ?_⟩
    by_cases hji : j = i
    · subst hji
      rw [hi] at ho; cases ho
      exact ⟨V, hg, H⟩
    · obtain ⟨hjun, oj, hoj, hall⟩ := mem_ready.1 hj
      rw [ho] at hoj; cases hoj
      have hnot : ∀ e ∈ o.after, Region.binds md e = true → e.on ≠ i := fun e he hb heq => by
        have h1 := hall e he hb
        rw [heq, getD_both hun] at h1
        cases h1
      have hap := hfree j o ho hji hjun hnot
      obtain ⟨a1, a2, a3⟩ := Oper.apart_spec hap
      have hsi := fun cs b => hsel i oi cs b hi
      have hsj := fun cs b => hsel j o cs b ho
      have hU : ∀ v : {v // metZ E W (F.with i (fun z w => V z w v))}, ∃ U, YieldsZ E P ops md W K o (a.put oi.dst v.1) (F.with i (fun z w => V z w v.1)) U ∧ ∀ u, metZ E W ((F.with i (fun z w => V z w v.1)).with j (fun z w => U z w u)) →
          anyFreeZ E P ops md W K n L f ((listed.setIfInBounds i true).setIfInBounds j true) ((a.put oi.dst v.1).put o.dst u) ((F.with i (fun z w => V z w v.1)).with j (fun z w => U z w u)) :=
        fun v => ((H v.1 v.2).2 j (ready_mono hj hji)).2 o ho
      obtain ⟨U, hU⟩ := Classical.skolem.1 hU
      obtain ⟨v0, hv0⟩ := hg.some (i := i) hm (ht i hun) hx
      have hone : ∀ v, YieldsZ E P ops md W K o a F (U v) := fun v => ((hU v).1.same (execOp_put o hsj a oi.dst v.1 a1).symm (wanted_put o a oi.dst v.1 a1).symm).less hnot
      have hgood : YieldsZ E P ops md W K o a F (fun z w u => ∀ v, U v z w u) := by
        refine ⟨fun z u w w' hl h v => (hone v).1 z u w w' hl (h v), ?_⟩
        by_cases hw : Region.wanted o (yielded ops a.tmps) = true
        · refine .inl ⟨hw, fun w hw' hb => inside_allT ⟨⟨v0, hv0⟩, trivial⟩ (fun v => ?_)⟩
          rcases (hone v).2 with ⟨_, h3⟩ | ⟨h3, _⟩
          · exact h3 w hw' hb
          · rw [hw] at h3; cases h3
        · refine .inr ⟨by simpa using hw, fun w hw' hb v => ?_⟩
          rcases (hone v).2 with ⟨h3, _⟩ | ⟨_, h3⟩
          · exact absurd h3 hw
          · exact h3 w hw' hb
      refine ⟨_, hgood, ?_⟩
      intro u hu
      have hfree' : ∀ k ok, ops[k]? = some ok → k ≠ i → (listed.setIfInBounds j true).getD k true = false →
          (∀ e ∈ ok.after, Region.binds md e = true → e.on ≠ i) → oi.apart ops ok = true := fun k ok hk hki hun hno => by
        refine hfree k ok hk hki ?_ hno
        by_cases hjk : j = k
        · subst hjk; exact hjun
        · rw [getD_set_ne true hjk] at hun; exact hun
      have hjlt : j < listed.size := by
        rcases Nat.lt_or_ge j listed.size with h' | h'
        · exact h'
        · simp [Array.getElem?_eq_none h'] at hjun
      have hx' : metZ E W (F.with j (fun z w => ∀ v, U v z w u)) := hu
      refine ih (listed.setIfInBounds j true) (a.put o.dst u) (F.with j (fun z w => ∀ v, U v z w u)) (inv.set hj hjn) hfree' (ready_mono hr (Ne.symm hji)) (hm.with hgood.1 j u) (ht.with j _ hjlt) hx' ((hg.same (execOp_put oi hsi a o.dst u a3) (wanted_put oi a o.dst u a3)).more) (fun v hv => ?_)
      rw [Array.setIfInBounds_comm _ _ hji, ← Act.put_comm a v u a2]
      have mv : metZ E W (F.with i (fun z w => V z w v)) := hv.weaken (fun e z w' h' => ⟨h'.1.1, h'.2⟩)
      have mu : metZ E W ((F.with i (fun z w => V z w v)).with j (fun z w => U ⟨v, mv⟩ z w u)) := hv.weaken (fun e z w' h' => ⟨⟨h'.1.1, h'.2⟩, fun he => h'.1.2 he ⟨v, mv⟩⟩)
      exact anyFreeZ_weaken hLm _ _ _ _ _ (fun e z w' h' => ⟨⟨h'.1.1, h'.2⟩, fun he => h'.1.2 he ⟨v, mv⟩⟩) ((hU ⟨v, mv⟩).2 u mu)
theorem anyFreeZ_lex {n g : Nat} {R : Act → World → Prop} (hsel : Region.noSelect ops = true)
    (hbound : ∀ listed i, HeadInv md ops n listed → i < n → listed.getD i true = false → ∀ j ∈ Region.ready md ops listed, j < n) :
    ∀ (l : List Oper) (k : Nat) (listed : Array Bool) (a : Act) (F : FactsZ), (∀ j, j < l.length → l[j]? = ops[k + j]?) → k + l.length = n → HeadInv md ops n listed →
    Region.lexHead md ops g l.length k listed = true → FMonoZ E F → TrivZ listed F → metZ E W F → wpFreeZ E P ops md W K R l k a F →
    anyFreeZ E P ops md W K n (fun listed' a' F' => Region.seqB md ops g n listed' = true ∧ ∀ w zs, E.R W w → (∀ e, F' e (zs e) w) → crossZ E W zs F' w → R a' w) l.length listed a F := by
  intro l
  induction l with
  | nil =>
    intro k listed a F _ hk _ hB _ _ _ h
    have : k = n := by simpa using hk
    subst this
    exact ⟨by simpa [Region.lexHead] using hB, h⟩
  | cons o l ih =>
    intro k listed a F hl hk inv hB hm ht hx h
    have h0 : ops[k]? = some o := by simpa using (hl 0 (by simp)).symm
    simp only [List.length_cons, Region.lexHead, Bool.and_eq_true] at hB
    obtain ⟨⟨hr, hf⟩, hB'⟩ := hB
    have hkn : k < n := by simp only [List.length_cons] at hk; omega
    have hr' : k ∈ Region.ready md ops listed := by simpa using hr
    have hun := (mem_ready.1 hr').1
    have hklt : k < listed.size := by
      rcases Nat.lt_or_ge k listed.size with h' | h'
      · exact h'
      · simp [Array.getElem?_eq_none h'] at hun
    obtain ⟨V, hg, hnext⟩ := h
    exact anyFreeZ_first h0 (Region.noSelect_spec hsel) hbound hkn (fun listed' a' F' hL => seqB_ready hL.1)
      (fun _ _ _ _ hF hL => ⟨hL.1, fun w zs hw h' hc => hL.2 w zs hw (fun e => hF e _ w (h' e)) (fun p q hpq => (hc p q hpq).imp (fun ⟨w', b1, b2, b3, b4⟩ => ⟨w', b1, b2, b3, hF _ _ _ b4⟩) (fun ⟨w', b1, b2, b3, b4⟩ => ⟨w', b1, b2, b3, hF _ _ _ b4⟩))⟩) l.length listed a F inv (Region.free_spec h0 hf) hr' hm ht hx hg
      (fun v hv => ih (k + 1) _ _ _ (fun j hj => by have := hl (j + 1) (by simp; omega); simpa [Nat.add_assoc, Nat.add_comm 1 j] using this) (by simp only [List.length_cons] at hk; omega) (inv.set hr' hkn) hB' (hm.with hg.1 k v) (ht.with k _ hklt)
        hv (hnext v hv))
def noFactsZ : FactsZ := fun _ _ _ => True
/-- A REGION THAT DRAWS ITS ORDER. -/
theorem region_freeZ (K : FuncId → Array Value → Nat → World → Value → Prop) {id : Nat} {Q : Exit → Act → World → Prop} {a : Act} {w : World} {l : List Oper} (hm : P.follows .mixedOrders = true)
    (hB : (Region.noSelect l.toArray && Region.lexHead .any l.toArray 0 l.length 0 (Array.replicate l.toArray.size false)) = true)
    (h : wpFreeZ E P l.toArray .any (w.drewN 1) K (fun a' w' => Q .normal a' w') l 0 a noFactsZ) : (Code.region id l.toArray true).wp P Q a w := by
  simp only [Bool.and_eq_true] at hB
  obtain ⟨hsel, hlex⟩ := hB
  have hbound : ∀ listed i, HeadInv .any l.toArray l.length listed → i < l.length → listed.getD i true = false → ∀ j ∈ Region.ready .any l.toArray listed, j < l.length := by
    intro listed i _ _ _ j hj
    obtain ⟨_, oj, hoj, _⟩ := mem_ready.1 hj
    simpa using (Array.getElem?_eq_some_iff.1 hoj).1
  have H := anyFreeZ_lex (md := .any) (g := 0) hsel hbound l 0 _ a noFactsZ (fun j hj => by simp) (by simp) (head_start _ l.length) hlex (fun _ _ _ _ _ h => h) (fun _ _ _ _ => trivial) ⟨w.drewN 1, fun _ => (w.drewN 1).heap.size, E.refl _, fun _ => trivial, fun p q _ => .inl ⟨_, E.refl _, E.refl _, rfl, trivial⟩⟩ h
  refine wp_region_any hm ?_
  have := anyFreeZ_sound (Q' := Q) (W := w.drewN 1) (g := 0) (fun listed a' F w' zs hw' hF hc hL => ⟨by simpa [Region.seqB] using hL.1, hL.2 w' zs hw' hF hc⟩) _ _ _ _ _ (fun _ => (w.drewN 1).heap.size) (fun _ _ _ _ _ h => h) (fun _ _ _ _ => trivial) (E.refl _) (fun _ => trivial) (fun p q _ => .inl ⟨_, E.refl _, E.refl _, rfl, trivial⟩) H
  rw [Nat.add_zero] at this
  exact this
/-- The same for a region whose last operations are forced to come last, and may write. -/
theorem region_tailZ (K : FuncId → Array Value → Nat → World → Value → Prop) {id : Nat} {Q : Exit → Act → World → Prop} {a : Act} {w : World} {l : List Oper} (n : Nat) (hm : P.follows .mixedOrders = true) (hB : Region.lexTailB .any l.toArray n = true)
    (h : wpFreeZ E P l.toArray .any (w.drewN 1) K (fun a' w' => wpList P l.toArray Q (l.drop n) a' w') (l.take n) 0 a noFactsZ) : (Code.region id l.toArray true).wp P Q a w := by
  simp only [Region.lexTailB, Bool.and_eq_true, decide_eq_true_eq] at hB
  obtain ⟨⟨⟨⟨hsel, hn⟩, hs⟩, hc⟩, hlex⟩ := hB
  have hn' : n < l.length := by simpa using hn
  have htl : (l.take n).length = n := by simp; omega
  have hdl : (l.drop n).length = l.toArray.size - n := by simp
  have hbound : ∀ listed i, HeadInv .any l.toArray n listed → i < n → listed.getD i true = false → ∀ j ∈ Region.ready .any l.toArray listed, j < n := by
    intro listed i inv hi hun j hj
    rcases Nat.lt_or_ge j n with h | h
    · exact h
    · exact absurd hj (tail_waits hs hc hn inv _ i rfl hi hun j h)
  have H := anyFreeZ_lex (md := .any) (g := l.toArray.size - n) hsel hbound (l.take n) 0 _ a noFactsZ (fun j hj => by
    have hj' : j < n := by rw [htl] at hj; exact hj
    simp [hj']) (by simpa using htl) (head_start _ n) (by rw [htl]; exact hlex) (fun _ _ _ _ _ h => h) (fun _ _ _ _ => trivial) ⟨w.drewN 1, fun _ => (w.drewN 1).heap.size, E.refl _, fun _ => trivial, fun p q _ => .inl ⟨_, E.refl _, E.refl _, rfl, trivial⟩⟩ h
  refine wp_region_any hm ?_
  have := anyFreeZ_sound (Q' := Q) (W := w.drewN 1) (g := l.toArray.size - n) (fun listed a' F w' zs hw' hF hc hL => by
    have := wpAny_of_seq (md := .any) (Q' := Q) (l.drop n) n listed a' w' (fun j => by simp [List.getElem?_drop]) (by rw [hdl]; exact hL.1) (hL.2 w' zs hw' hF hc)
    rwa [hdl] at this) _ _ _ _ _ (fun _ => (w.drewN 1).heap.size) (fun _ _ _ _ _ h => h) (fun _ _ _ _ => trivial) (E.refl _) (fun _ => trivial) (fun p q _ => .inl ⟨_, E.refl _, E.refl _, rfl, trivial⟩) H
  rw [htl, show n + (l.toArray.size - n) = l.toArray.size by omega] at this
  exact this
end
end Go.Fk

/- The laws of drawn regions in which several operations make memory: one operation at a time. Nothing here names a program. -/
namespace Go.Fk
open Go Go.RowKit
theorem wpFreeZ_weaken {E : Ext} {P : Program} {ops : Array Oper} {md : Region.Mode} {W : World} {K : FuncId → Array Value → Nat → World → Value → Prop} {Q : Act → World → Prop} : ∀ (l : List Oper) (k : Nat) (a : Act) (F F' : FactsZ), (∀ e z w, F' e z w → F e z w) → wpFreeZ E P ops md W K Q l k a F → wpFreeZ E P ops md W K Q l k a F' := by
  intro l
  induction l with
  | nil => intro k a F F' h hh w zs hw hF hc; exact hh w zs hw (fun e => h e _ w (hF e)) (hc.weaken h)
  | cons o l ih =>
    intro k a F F' h hh
    obtain ⟨V, hg, hn⟩ := hh
    exact ⟨V, hg.stronger h, fun v hv => ih _ _ _ _ (fun e z w hw => ⟨h e z w hw.1, hw.2⟩) (hn v (hv.weaken (fun e z w hw => ⟨h e z w hw.1, hw.2⟩)))⟩
section
variable {E : Ext} {P : Program} {ops : Array Oper} {W : World} {K : FuncId → Array Value → Nat → World → Value → Prop} {Q : Act → World → Prop} {F : FactsZ} {k : Nat} {o : Oper} {rest : List Oper} {a : Act}
theorem wpFreeZ_nil (h : ∀ w zs, E.R W w → (∀ e, F e (zs e) w) → crossZ E W zs F w → Q a w) : wpFreeZ E P ops .any W K Q [] k a F := h
/-- What has been met has been met with some operation's fact: what that fact says of the value alone may be used. -/
theorem metZ.has {V : Nat → World → Prop} (h : metZ E W (F.with k V)) : ∃ z w, E.R W w ∧ V z w := by
  obtain ⟨w, zs, hw, hF, _⟩ := h
  exact ⟨zs k, w, hw, (hF k).2 rfl⟩
theorem wpFreeZ_oneW (hw : Region.wanted o (yielded ops a.tmps) = true) (v : Value) (hr : ∀ w, E.R W w → (execOp a.eval o).run P w = .ok (.value v) w)
    (h : wpFreeZ E P ops .any W K Q rest (k + 1) (a.put o.dst v) (F.with k (fun _ _ => True))) : wpFreeZ E P ops .any W K Q (o :: rest) k a F := by
  refine ⟨fun _ _ u => u = v, ⟨fun _ _ _ _ _ h => h, .inl ⟨hw, fun w hw _ => ?_⟩⟩, fun u hu => ?_⟩
  · rw [hr w hw]; exact ⟨E.refl w, rfl⟩
  · obtain ⟨_, _, _, rfl⟩ := hu.has
    exact wpFreeZ_weaken _ _ _ _ _ (fun e _ w h => ⟨h.1, fun _ => trivial⟩) h
theorem wpFreeZ_one (hg : o.guard = none) (v : Value) (hr : ∀ w, E.R W w → (execOp a.eval o).run P w = .ok (.value v) w)
    (h : wpFreeZ E P ops .any W K Q rest (k + 1) (a.put o.dst v) (F.with k (fun _ _ => True))) : wpFreeZ E P ops .any W K Q (o :: rest) k a F := wpFreeZ_oneW (by simp [Region.wanted, hg]) v hr h
theorem wpFreeZ_skip (hw : Region.wanted o (yielded ops a.tmps) = false)
    (h : wpFreeZ E P ops .any W K Q rest (k + 1) (a.put o.dst undef) (F.with k (fun _ _ => True))) : wpFreeZ E P ops .any W K Q (o :: rest) k a F := by
  refine ⟨fun _ _ u => u = undef, ⟨fun _ _ _ _ _ h => h, .inr ⟨hw, fun w _ _ => rfl⟩⟩, fun u hu => ?_⟩
  obtain ⟨_, _, _, rfl⟩ := hu.has
  exact wpFreeZ_weaken _ _ _ _ _ (fun e _ w h => ⟨h.1, fun _ => trivial⟩) h
theorem wpFreeZ_load1 (hg : o.guard = none) {ty : TypeId} {x : Operand} (hop : o.op = .load ty x) {p : Addr} (hx : a.eval x = .pointer (some p)) {v : Value} (hv : ∀ w, E.R W w → w.cell? p = some v) (hu : ∀ w, (isAgg ty).run P w = .ok false w)
    (h : wpFreeZ E P ops .any W K Q rest (k + 1) (a.put o.dst v) (F.with k (fun _ _ => True))) : wpFreeZ E P ops .any W K Q (o :: rest) k a F := by
  refine wpFreeZ_one hg v (fun w hw => ?_) h
  have hl : (Instr.loadAt ty (.pointer (some p))).run P w = .ok v w := by
    simp [Instr.loadAt, Instr.sureAddr, loadVar, hu, hv w hw]
  simp [execOp, hop, hx, hl, Result.andThen]
theorem wpFreeZ_loadW (hg : o.guard = none) {ty : TypeId} {x : Operand} (hop : o.op = .load ty x) {p : Addr} (hx : a.eval x = .pointer (some p)) (vs : List Value) (hc : ∀ w, E.R W w → ∀ j v, vs[j]? = some v → w.cell? (p.add j) = some v) {d : TypeDesc} (hu : P.underlying ty = some d) (hd : d.isRow = true) {sz : Nat} (hs : (P.info? ty).map (·.size) = some sz) (hl : vs.length = sz)
    (h : wpFreeZ E P ops .any W K Q rest (k + 1) (a.put o.dst (.agg vs.toArray)) (F.with k (fun _ _ => True))) : wpFreeZ E P ops .any W K Q (o :: rest) k a F := by
  refine wpFreeZ_one hg (.agg vs.toArray) (fun w hw => ?_) h
  have hl' : (loadCells p vs.length).run P w = .ok vs.toArray w := run_loadCells_list (P := P) w p vs (hc w hw)
  cases hq : P.info? ty with
  | none => simp [hq] at hs
  | some inf =>
    have hz : inf.size = vs.length := by simp [hq] at hs; omega
    have hagg : (isAgg ty).run P w = .ok true w := by
      unfold isAgg
      rw [Sem.run_bind, run_underlying hu w]
      cases d <;> simp_all
    simp [execOp, hop, hx, Instr.loadAt, Instr.sureAddr, loadVar, Sem.run_bind, hagg, sizeOf, typeInfo, hq, hz, hl', Result.andThen]
/-- A call: what it gives may speak of the number of blocks where it started. -/
theorem wpFreeZ_callW (hw : Region.wanted o (yielded ops a.tmps) = true) {f : FuncId} {xs : Array Operand} {ts : Array TypeId} (hop : o.op = Op.call { callee := Callee.value (Operand.func f), args := xs, argTypes := ts }) {fn : Func} (hf : P.funcs[f]? = some fn)
    (hb : fn.body.isNone = false) (hn : (fn.name == "runtime.NumGoroutine") = false) {args : Array Value} (ha : xs.map a.eval = args) (hm : MonoZ E (K f args))
    (h1 : ∀ w, E.R W w → behindZ E .any W o F w → Calls P f args w (fun e w' => ∃ v, e = .returned v ∧ le w w' ∧ K f args w.heap.size w' v)) (h2 : ∀ v, (∃ z w, E.R W w ∧ K f args z w v) → wpFreeZ E P ops .any W K Q rest (k + 1) (a.put o.dst v) (F.with k (fun z w => K f args z w v))) : wpFreeZ E P ops .any W K Q (o :: rest) k a F := by
  refine ⟨K f args, ⟨hm, .inl ⟨hw, fun w hw hbe => ?_⟩⟩, fun v hv => h2 v hv.has⟩
  rw [run_enter hop hf hb hn ha]
  refine ⟨E.refl w, (h1 w hw hbe).mono ?_, fun _ _ h => h⟩
  rintro e w' ⟨v, rfl, hl, hk⟩
  exact ⟨v, rfl, E.of_le hl, hk⟩
/-- An operation of one value; what is known of those that it comes behind is carried on. -/
theorem wpFreeZ_carry (hg : o.guard = none) (v : Value) (hr : ∀ w, E.R W w → (execOp a.eval o).run P w = .ok (.value v) w) (V : World → Prop) (hm : ∀ w w', E.R w w' → V w → V w') (hb : ∀ w, E.R W w → behindZ E .any W o F w → V w)
    (h : wpFreeZ E P ops .any W K Q rest (k + 1) (a.put o.dst v) (F.with k (fun _ => V))) : wpFreeZ E P ops .any W K Q (o :: rest) k a F := by
  refine ⟨fun _ w u => u = v ∧ V w, ⟨fun _ _ w w' hw h => ⟨h.1, hm w w' hw h.2⟩, .inl ⟨by simp [Region.wanted, hg], fun w hw hbe => ?_⟩⟩, fun u hu => ?_⟩
  · rw [hr w hw]; exact ⟨E.refl w, rfl, hb w hw hbe⟩
  · obtain ⟨_, _, _, rfl, _⟩ := hu.has
    exact wpFreeZ_weaken _ _ _ _ _ (fun e _ w h => ⟨h.1, fun he => (h.2 he).2⟩) h
/-- An operation that makes one new block. -/
theorem wpFreeZ_new (hg : o.guard = none) (f : Nat → Value) (ob : Obj) (hr : ∀ w, (execOp a.eval o).run P w = .ok (.value (f w.heap.size)) (w.alloc ob))
    (h : ∀ b, wpFreeZ E P ops .any W K Q rest (k + 1) (a.put o.dst (f b)) (F.with k (fun _ _ => True))) : wpFreeZ E P ops .any W K Q (o :: rest) k a F := by
  refine ⟨fun _ _ u => ∃ b, u = f b, ⟨fun _ _ _ _ _ h => h, .inl ⟨by simp [Region.wanted, hg], fun w hw _ => ?_⟩⟩, fun u hu => ?_⟩
  · rw [hr w]; exact ⟨E.of_le (le_alloc w ob), _, rfl⟩
  · obtain ⟨_, _, _, b, rfl⟩ := hu.has
    exact wpFreeZ_weaken _ _ _ _ _ (fun e _ w h => ⟨h.1, fun _ => trivial⟩) (h b)
end
section
variable {P : Program} {ops : Array Oper} {W : World} {K : FuncId → Array Value → Nat → World → Value → Prop} {Q : Act → World → Prop} {F : FactsZ} {k : Nat} {o : Oper} {rest : List Oper} {a : Act}
variable {g : Nat} {t : TypeId} {m : Nat} {Fin : World → Array Value → Prop} {hm : ∀ w w' cs, le w w' → Fin w cs → Fin w' cs}
/-- The result is stored. -/
theorem wpFreeZ_out (hg : o.guard = none) {ty : TypeId} {x y : Operand} (hop : o.op = .store ty x y) (hx : a.eval x = .pointer (some ⟨g, 0, none⟩)) {cells : Array Value} (hy : a.eval y = .agg cells) (hty : ty = t) {old : Array Value} (hW : Row W g t old) (ho : old.size = m)
    (hF : ∀ w w', (outX g t m Fin hm).R W w → behindZ (outX g t m Fin hm) .any W o F w → Chg (· = g) w w' → Fin w' cells) (hi : (P.info? ty).map (·.size) = some m) (hs : cells.size = m) (h1 : cells.all (·.oneCell') = true)
    (h : wpFreeZ (outX g t m Fin hm) P ops .any W K Q rest (k + 1) (a.put o.dst undef) (F.with k (fun _ w => ∃ cs, Row w g t cs ∧ Fin w cs))) : wpFreeZ (outX g t m Fin hm) P ops .any W K Q (o :: rest) k a F := by
  subst hty
  refine ⟨fun _ w v => v = undef ∧ ∃ cs, Row w g ty cs ∧ Fin w cs, ⟨fun _ v w w' hw hv => ⟨hv.1, hw.2.2 hv.2⟩, .inl ⟨by simp [Region.wanted, hg], fun w hw hbe => ?_⟩⟩, fun v hv => ?_⟩
  · obtain ⟨cs, hc, hcs⟩ := hw.2.1 ⟨old, hW, ho⟩
    have hrun := run_storeVar_row (P := P) w g ty ty cs cells hc (hs ▸ hi) (hcs.trans hs.symm) h1
    have : (execOp a.eval o).run P w = .ok .skip (w.setRow g cells) := by
      unfold execOp
      simp only [hop, hx, hy, Instr.storeAt, Instr.sureAddr, Sem.run_bind, Sem.run_pure, Result.andThen_ok, hrun]
    rw [this]
    have hrow : Row (w.setRow g cells) g ty cells := hc.setRow _
    have hch : Chg (· = g) w (w.setRow g cells) := (Chg.refl _ w).wrote (wrote_setRow hc) rfl
    have hfin := hF w _ hw hbe hch
    exact ⟨⟨hch, fun _ => ⟨cells, hrow, hs⟩, fun _ => ⟨cells, hrow, hfin⟩⟩, rfl, cells, hrow, hfin⟩
  · obtain ⟨_, _, _, rfl, _⟩ := hv.has
    exact wpFreeZ_weaken _ _ _ _ _ (fun e _ w h => ⟨h.1, fun he => (h.2 he).2⟩) h
/-- A slice in a block of its own, made behind the region's start: the writes of the result's block leave it. -/
theorem own_outX {w w' : World} {lo hi : Nat} {s : Value} {x : Nat → Nat} {n : Nat} (h : OwnS w lo hi s x n) (hw : (outX g t m Fin hm).R w w') (hl : g < lo ∨ hi ≤ g) : OwnS w' lo hi s x n := h.chgS hw.1 (fun i h1 h2 e => by omega)
end
/-- A slice that is not empty lies in one block. -/
theorem OwnS.tight {w : World} {lo hi : Nat} {s : Value} {x : Nat → Nat} {n : Nat} (h : OwnS w lo hi s x n) (hn : 1 ≤ n) : ∃ b, lo ≤ b ∧ b < hi ∧ OwnS w b (b + 1) s x n := by
  rcases h with ⟨_, h⟩ | ⟨b, o, cap, cs, h1, h2, h3, h4, h5, h6, h7⟩
  · omega
  · exact ⟨b, h4, h5, .inr ⟨b, o, cap, cs, h1, h2, h3, Nat.le_refl _, Nat.lt_succ_self _, h6, h7⟩⟩
end Go.Fk

/- Fresh filters and rings: what constructors share. -/
namespace Go.Fk
open Go Go.RowKit
def partB (a : Nat) : Bool := (FloatKind.f32.format.order a 0 == some .gt || FloatKind.f32.format.order a 0 == some .eq) && (FloatKind.f32.format.order a 1065353216 == some .lt)
/-- A fresh filter. -/
def FilV (k : Int) (A B : Nat) (v : Value) : Prop := ∃ a b c x y, v = .agg #[.int .i64 k, .float .f32 a, .float .f32 b, .float .f32 c, .float .f32 x, .float .f32 y] ∧ (can .f32 a = A ∧ can .f32 b = B ∧ can .f32 c = 0 ∧ can .f32 x = 0 ∧ can .f32 y = 0) ∧ (fits .f32 a ∧ fits .f32 b ∧ fits .f32 c ∧ fits .f32 x ∧ fits .f32 y)
theorem zero_f : fits .f32 0 := by simp [fits, Lit.wf]
section
variable {P : Program} {ops : Array Oper} {W : World} {K : FuncId → Array Value → Nat → World → Value → Prop} {Q : Act → World → Prop} {F : FactsZ} {k : Nat} {o : Oper} {rest : List Oper} {a : Act}
/-- A slice is made. -/
theorem wpFreeZ_made (hg : o.guard = none) {ty : TypeId} {x y : Operand} (hop : o.op = .makeSlice ty x y) {u v : Value} (hx : a.eval x = u) (hy : a.eval y = v) {n : Nat} {t : TypeId} {cs : Array Value} (hr : ∀ w, (Instr.makeSlice ty u v).run P w = .ok (.slice (some ⟨w.heap.size, 0, none⟩) n n) (w.alloc (.cells cs t)))
    (h : ∀ b, wpFreeZ leX P ops .any W K Q rest (k + 1) (a.put o.dst (.slice (some ⟨b, 0, none⟩) n n)) (F.with k (fun z w => b = z ∧ W.heap.size ≤ z ∧ Row w z t cs))) : wpFreeZ leX P ops .any W K Q (o :: rest) k a F := by
  refine ⟨fun z w u => u = .slice (some ⟨z, 0, none⟩) n n ∧ W.heap.size ≤ z ∧ Row w z t cs, ⟨fun z v w w' hw hv => ⟨hv.1, hv.2.1, hv.2.2.le hw⟩, .inl ⟨by simp [Region.wanted, hg], fun w hw _ => ?_⟩⟩, fun u hu => ?_⟩
  · have : (execOp a.eval o).run P w = .ok (.value (.slice (some ⟨w.heap.size, 0, none⟩) n n)) (w.alloc (.cells cs t)) := by
      simp [execOp, hop, hx, hy, hr, Result.andThen]
    rw [this]
    exact ⟨le_alloc w _, rfl, hw.size, Row.new w t cs⟩
  · obtain ⟨z, w, _, rfl, _⟩ := hu.has
    exact wpFreeZ_weaken _ _ _ _ _ (fun e z' w h => ⟨h.1, fun he => ⟨by have := (h.2 he).1; simpa using this, (h.2 he).2⟩⟩) (h z)
end
end Go.Fk
namespace Go.Proofs.Ytnkjmgadnejdlac
open Go.RowKit Go.Fk
theorem i_isPart (a : Nat) (w : World) : Calls Try.prog 152 #[.float .f32 a] w fun e w' => e = .returned (.bool (partB a)) ∧ w = w' := by
  rcases h0 : FloatKind.f32.format.order a 0 with _ | (_ | _ | _) <;> rcases h1 : FloatKind.f32.format.order a 1065353216 with _ | (_ | _ | _)
  all_goals
    go_enter Try.func152, Try.ntmps152
    go_wp2
    go_ret
    exact ⟨ret_b (by unfold partB; rw [h0, h1]; rfl), rfl⟩
end Go.Proofs.Ytnkjmgadnejdlac

/- slices.EqualFunc over instruments and over events. -/
namespace Go.Proofs.Ytnkjmgadnejdlac
open Go.RowKit Go.Fk
set_option maxRecDepth 100000 in
set_option maxHeartbeats 4000000 in
theorem i_EqualEvents (B B' : Nat) (s s' : Value) (x x' : Nat → CD) (n n' : Nat) (w : World) (hs : (CD.sl 6 n x).RdN w B s) (hs' : (CD.sl 6 n' x').RdN w B' s') (hx : EvsOk x n) (hx' : EvsOk x' n') : Calls Try.prog 65 #[s, s', .func (.func 66) #[] #[]] w fun e w' => e = .returned (.bool (sameEvs x x' n n')) ∧ le w w' := by
  by_cases hne : n = n'
  · subst hne
    rw [sameEvs_eq]
    by_cases h0 : n = 0
    · subst h0
      rcases hs.form with ⟨rfl, _⟩ | ⟨b, o, cap, rfl, hc, hm⟩ <;> rcases hs'.form with ⟨rfl, _⟩ | ⟨b', o', cap', rfl, hc', hm'⟩
      all_goals
        clear hs hs'
        go_enter Try.func65, Try.ntmps65
        go_wp2
        go_loop [17] (fun i => i = .int .i64 0) (fun _ => 0)
        case atStart => rfl
        case round =>
          obtain rfl := hrel
          go_wp2
          go_ret
          exact ⟨rfl, le_refl _⟩
    rcases hs.form with ⟨_, e0⟩ | ⟨b, o, cap, rfl, hc, hm⟩
    · exact absurd e0 h0
    rcases hs'.form with ⟨_, e0⟩ | ⟨b', o', cap', rfl, hc', hm'⟩
    · exact absurd e0 h0
    have HA := hid (fun k (hk : k < n) => hx.vals hs hk)
    have HA' := hid (fun k (hk : k < n) => hx'.vals hs' hk)
    unfold maxLen at hm hm'
    clear hx hs hx' hs' h0
    go_enter Try.func65, Try.ntmps65
    go_wp2
    go_loopw [17] (fun i wr => ∃ j : Nat, j ≤ n ∧ i = .int .i64 j ∧ Hid (∀ i, i < j → sameEv x x' i = true) ∧ Hid (le w wr)) (fun i _ => n - (intOf i).toNat)
    case atStart => exact ⟨0, by omega, rfl, fun i hi => absurd hi (by omega), le_refl _⟩
    case round =>
      obtain ⟨j, hj, rfl, HJ, HL⟩ := hrel
      rename_i wr _
      by_cases hlt : j < n
      · obtain ⟨y, _, G, _, cu⟩ := HA.out j hlt
        obtain ⟨y', _, Gp, _, cu'⟩ := HA'.out j hlt
        have SE : sameV (evA x j) (evA x' j) (evK x j) (evK x' j) (evN x j) (evN x' j) (evI x j) (evI x' j) (evY x j) (evY x' j) y y' = sameEv x x' j := by unfold sameEv; rw [← G, ← Gp]; unfold sameV; simp only [sameB_can]
        clear G Gp
        have HS := hid (fun (w' : World) => i_sameEvent (evA x j) (evA x' j) (evK x j) (evK x' j) (evN x j) (evN x' j) (evI x j) (evI x' j) (evY x j) (evY x' j) y y' w')
        rw [SE] at HS
        clear SE
        have CU := hid (fun (w' : World) (hl : le wr w') (q : Nat) (v : Value) (hv : [Value.int .i64 (evA x j), .int .i64 (evK x j), .int .i64 (evN x j), .int .i64 (evI x j), .int .i64 (evY x j), .float .f32 y][q]? = some v) => (Below.cell (le_trans HL.out hl) (cell_lt' (cu q v hv))).trans (cu q v hv))
        have CU' := hid (fun (w' : World) (hl : le wr w') (q : Nat) (v : Value) (hv : [Value.int .i64 (evA x' j), .int .i64 (evK x' j), .int .i64 (evN x' j), .int .i64 (evI x' j), .int .i64 (evY x' j), .float .f32 y'][q]? = some v) => (Below.cell (le_trans HL.out hl) (cell_lt' (cu' q v hv))).trans (cu' q v hv))
        have F := Frg.nil wr
        clear cu cu'
        rcases bool_ft (sameEv x x' j) with h1 | h1
        · have hb := hid h1
          rw [h1] at HS
          clear h1
          go_wp2_with (first | ((with_reducible refine listN F ?_); clear F; intro wN F) | (go_at_call 66; ((with_reducible refine (HS.out _).mono ?_); rintro e w1 ⟨rfl, hl⟩; replace F := F.le hl; clear hl)) | (with_reducible refine wpList_indexW0 rfl rfl rfl rfl Try.underlying68 uinfoEventI hlt ?_) | ((with_reducible refine at_load rfl ?_); first | (with_reducible refine wpList_loadW rfl rfl rfl [.int .i64 (evA x j), .int .i64 (evK x j), .int .i64 (evN x j), .int .i64 (evI x j), .int .i64 (evY x j), .float .f32 y] (CU.out _ F.below) Try.underlying111 rfl uinfoEventI rfl ?_) | (with_reducible refine wpList_loadW rfl rfl rfl [.int .i64 (evA x' j), .int .i64 (evK x' j), .int .i64 (evN x' j), .int .i64 (evI x' j), .int .i64 (evY x' j), .float .f32 y'] (CU'.out _ F.below) Try.underlying111 rfl uinfoEventI rfl ?_) | (with_reducible refine wpList_loadG F rfl rfl rfl (by first | exact m0 | exact m1 | exact m2) Try.underlying111 rfl uinfoEventI rfl ?_)) | ((with_reducible refine at_store rfl ?_); (refine wpList_storeG F rfl rfl rfl rfl rfl uinfoEventI rfl (by (simp only [List.all_toArray', List.all_cons, List.all_nil, Bool.and_true, Bool.true_and]) <;> rfl) ?_; clear F; intro W F zW; clear zW)))
          go_ret
          exact ⟨ret_b (allB_no hlt hb.out).symm, le_trans HL.out F.below⟩
        · have hb := hid h1
          rw [h1] at HS
          clear h1
          go_wp2_with (first | ((with_reducible refine listN F ?_); clear F; intro wN F) | (go_at_call 66; ((with_reducible refine (HS.out _).mono ?_); rintro e w1 ⟨rfl, hl⟩; replace F := F.le hl; clear hl)) | (with_reducible refine wpList_indexW0 rfl rfl rfl rfl Try.underlying68 uinfoEventI hlt ?_) | ((with_reducible refine at_load rfl ?_); first | (with_reducible refine wpList_loadW rfl rfl rfl [.int .i64 (evA x j), .int .i64 (evK x j), .int .i64 (evN x j), .int .i64 (evI x j), .int .i64 (evY x j), .float .f32 y] (CU.out _ F.below) Try.underlying111 rfl uinfoEventI rfl ?_) | (with_reducible refine wpList_loadW rfl rfl rfl [.int .i64 (evA x' j), .int .i64 (evK x' j), .int .i64 (evN x' j), .int .i64 (evI x' j), .int .i64 (evY x' j), .float .f32 y'] (CU'.out _ F.below) Try.underlying111 rfl uinfoEventI rfl ?_) | (with_reducible refine wpList_loadG F rfl rfl rfl (by first | exact m0 | exact m1 | exact m2) Try.underlying111 rfl uinfoEventI rfl ?_)) | ((with_reducible refine at_store rfl ?_); (refine wpList_storeG F rfl rfl rfl rfl rfl uinfoEventI rfl (by (simp only [List.all_toArray', List.all_cons, List.all_nil, Bool.and_true, Bool.true_and]) <;> rfl) ?_; clear F; intro W F zW; clear zW)))
          go_roundw
          case rel => exact ⟨j + 1, by omega, by go_num, fun i hi => by rcases Nat.lt_or_ge i j with h | h; exact HJ.out i h; rw [show i = j by omega]; exact hb.out, le_trans HL.out F.below⟩
          case measure => simp [intOf]; omega
      · obtain rfl : j = n := by omega
        go_wp2
        go_ret
        exact ⟨ret_b (allB_yes HJ.out).symm, HL.out⟩
  · rw [sameEvs_ne hne]
    have hne' : ¬ (n : Int) = (n' : Int) := by omega
    rcases hs.form with ⟨rfl, rfl⟩ | ⟨b, o, cap, rfl, hc, hm⟩ <;> rcases hs'.form with ⟨rfl, rfl⟩ | ⟨b', o', cap', rfl, hc', hm'⟩
    all_goals first | exact absurd rfl hne | skip
    all_goals
      clear hs hs' hx hx'
      try unfold maxLen at hm
      try unfold maxLen at hm'
      go_enter Try.func65, Try.ntmps65
      go_wp2
      go_ret
      exact ⟨rfl, le_refl _⟩
set_option maxRecDepth 100000 in
set_option maxHeartbeats 4000000 in
theorem i_EqualInstruments (B B' : Nat) (s s' : Value) (x x' : Nat → CD) (n n' : Nat) (w : World) (hs : (CD.sl 5 n x).RdN w B s) (hs' : (CD.sl 5 n' x').RdN w B' s') (hx : InsOk x n) (hx' : InsOk x' n') : Calls Try.prog 105 #[s, s', .func (.func 106) #[] #[]] w fun e w' => e = .returned (.bool (sameIns x x' n n')) ∧ le w w' := by
  by_cases hne : n = n'
  · subst hne
    rw [sameIns_eq]
    by_cases h0 : n = 0
    · subst h0
      rcases hs.form with ⟨rfl, _⟩ | ⟨b, o, cap, rfl, hc, hm⟩ <;> rcases hs'.form with ⟨rfl, _⟩ | ⟨b', o', cap', rfl, hc', hm'⟩
      all_goals
        clear hs hs'
        go_enter Try.func105, Try.ntmps105
        go_wp2
        go_loop [17] (fun i => i = .int .i64 0) (fun _ => 0)
        case atStart => rfl
        case round =>
          obtain rfl := hrel
          go_wp2
          go_ret
          exact ⟨rfl, le_refl _⟩
    rcases hs.form with ⟨_, e0⟩ | ⟨b, o, cap, rfl, hc, hm⟩
    · exact absurd e0 h0
    rcases hs'.form with ⟨_, e0⟩ | ⟨b', o', cap', rfl, hc', hm'⟩
    · exact absurd e0 h0
    have HA := hid (fun k (hk : k < n) => hx.vals hs hk)
    have HA' := hid (fun k (hk : k < n) => hx'.vals hs' hk)
    unfold maxLen at hm hm'
    clear hx hs hx' hs' h0
    go_enter Try.func105, Try.ntmps105
    go_wp2
    go_loopw [17] (fun i wr => ∃ j : Nat, j ≤ n ∧ i = .int .i64 j ∧ Hid (∀ i, i < j → sameIn x x' i = true) ∧ Hid (le w wr)) (fun i _ => n - (intOf i).toNat)
    case atStart => exact ⟨0, by omega, rfl, fun i hi => absurd hi (by omega), le_refl _⟩
    case round =>
      obtain ⟨j, hj, rfl, HJ, HL⟩ := hrel
      rename_i wr _
      by_cases hlt : j < n
      · obtain ⟨a1, b1, c1, _, ⟨G0, G1, G2⟩, _, cu⟩ := HA.out j hlt
        obtain ⟨a1', b1', c1', _, ⟨Gp0, Gp1, Gp2⟩, _, cu'⟩ := HA'.out j hlt
        have SE : sameI (inT x j) (inT x' j) (inK x j) (inK x' j) a1 a1' b1 b1' c1 c1' = sameIn x x' j := by unfold sameIn; rw [← G0, ← G1, ← G2, ← Gp0, ← Gp1, ← Gp2]; unfold sameI; simp only [sameB_can]
        clear G0 G1 G2 Gp0 Gp1 Gp2
        have HS := hid (fun (w' : World) => i_sameInstrument (inT x j) (inT x' j) (inK x j) (inK x' j) a1 a1' b1 b1' c1 c1' w')
        rw [SE] at HS
        clear SE
        have CU := hid (fun (w' : World) (hl : le wr w') (q : Nat) (v : Value) (hv : [Value.string (inT x j), .int .i64 (inK x j), .float .f32 a1, .float .f32 b1, .float .f32 c1][q]? = some v) => (Below.cell (le_trans HL.out hl) (cell_lt' (cu q v hv))).trans (cu q v hv))
        have CU' := hid (fun (w' : World) (hl : le wr w') (q : Nat) (v : Value) (hv : [Value.string (inT x' j), .int .i64 (inK x' j), .float .f32 a1', .float .f32 b1', .float .f32 c1'][q]? = some v) => (Below.cell (le_trans HL.out hl) (cell_lt' (cu' q v hv))).trans (cu' q v hv))
        have F := Frg.nil wr
        clear cu cu'
        rcases bool_ft (sameIn x x' j) with h1 | h1
        · have hb := hid h1
          rw [h1] at HS
          clear h1
          go_wp2_with (first | ((with_reducible refine listN F ?_); clear F; intro wN F) | (go_at_call 106; ((with_reducible refine (HS.out _).mono ?_); rintro e w1 ⟨rfl, hl⟩; replace F := F.le hl; clear hl)) | (with_reducible refine wpList_indexW0 rfl rfl rfl rfl Try.underlying67 uinfoInstrumentI hlt ?_) | ((with_reducible refine at_load rfl ?_); first | (with_reducible refine wpList_loadW rfl rfl rfl [.string (inT x j), .int .i64 (inK x j), .float .f32 a1, .float .f32 b1, .float .f32 c1] (CU.out _ F.below) Try.underlying163 rfl uinfoInstrumentI rfl ?_) | (with_reducible refine wpList_loadW rfl rfl rfl [.string (inT x' j), .int .i64 (inK x' j), .float .f32 a1', .float .f32 b1', .float .f32 c1'] (CU'.out _ F.below) Try.underlying163 rfl uinfoInstrumentI rfl ?_) | (with_reducible refine wpList_loadG F rfl rfl rfl (by first | exact m0 | exact m1 | exact m2) Try.underlying163 rfl uinfoInstrumentI rfl ?_)) | ((with_reducible refine at_store rfl ?_); (refine wpList_storeG F rfl rfl rfl rfl rfl uinfoInstrumentI rfl (by (simp only [List.all_toArray', List.all_cons, List.all_nil, Bool.and_true, Bool.true_and]) <;> rfl) ?_; clear F; intro W F zW; clear zW)))
          go_ret
          exact ⟨ret_b (allB_no hlt hb.out).symm, le_trans HL.out F.below⟩
        · have hb := hid h1
          rw [h1] at HS
          clear h1
          go_wp2_with (first | ((with_reducible refine listN F ?_); clear F; intro wN F) | (go_at_call 106; ((with_reducible refine (HS.out _).mono ?_); rintro e w1 ⟨rfl, hl⟩; replace F := F.le hl; clear hl)) | (with_reducible refine wpList_indexW0 rfl rfl rfl rfl Try.underlying67 uinfoInstrumentI hlt ?_) | ((with_reducible refine at_load rfl ?_); first | (with_reducible refine wpList_loadW rfl rfl rfl [.string (inT x j), .int .i64 (inK x j), .float .f32 a1, .float .f32 b1, .float .f32 c1] (CU.out _ F.below) Try.underlying163 rfl uinfoInstrumentI rfl ?_) | (with_reducible refine wpList_loadW rfl rfl rfl [.string (inT x' j), .int .i64 (inK x' j), .float .f32 a1', .float .f32 b1', .float .f32 c1'] (CU'.out _ F.below) Try.underlying163 rfl uinfoInstrumentI rfl ?_) | (with_reducible refine wpList_loadG F rfl rfl rfl (by first | exact m0 | exact m1 | exact m2) Try.underlying163 rfl uinfoInstrumentI rfl ?_)) | ((with_reducible refine at_store rfl ?_); (refine wpList_storeG F rfl rfl rfl rfl rfl uinfoInstrumentI rfl (by (simp only [List.all_toArray', List.all_cons, List.all_nil, Bool.and_true, Bool.true_and]) <;> rfl) ?_; clear F; intro W F zW; clear zW)))
          go_roundw
          case rel => exact ⟨j + 1, by omega, by go_num, fun i hi => by rcases Nat.lt_or_ge i j with h | h; exact HJ.out i h; rw [show i = j by omega]; exact hb.out, le_trans HL.out F.below⟩
          case measure => simp [intOf]; omega
      · obtain rfl : j = n := by omega
        go_wp2
        go_ret
        exact ⟨ret_b (allB_yes HJ.out).symm, HL.out⟩
  · rw [sameIns_ne hne]
    have hne' : ¬ (n : Int) = (n' : Int) := by omega
    rcases hs.form with ⟨rfl, rfl⟩ | ⟨b, o, cap, rfl, hc, hm⟩ <;> rcases hs'.form with ⟨rfl, rfl⟩ | ⟨b', o', cap', rfl, hc', hm'⟩
    all_goals first | exact absurd rfl hne | skip
    all_goals
      clear hs hs' hx hx'
      try unfold maxLen at hm
      try unfold maxLen at hm'
      go_enter Try.func105, Try.ntmps105
      go_wp2
      go_ret
      exact ⟨rfl, le_refl _⟩
end Go.Proofs.Ytnkjmgadnejdlac

/- Exactness: what a format has is written as it stands. Nothing here names a program. -/
namespace Go.Fk
open Go Go.RowKit

theorem cut_zero (s : Bool) (n : Nat) : Ieee.Toward.even.cut s n 0 = n := by
  simp [Ieee.Toward.cut, Nat.mod_one]

/-- What is cut off leaves nothing behind: the quotient. -/
theorem cut_exact (s : Bool) (n d : Nat) : Ieee.Toward.even.cut s (n * 2 ^ d) d = n := by
  by_cases hn : n = 0
  · subst hn
    have hp := Nat.two_pow_pos (min d (Nat.log2 0 + 2))
    simp only [Ieee.Toward.cut, Nat.zero_mul, Nat.one_shiftLeft, Nat.zero_div, Nat.zero_mod]
    simp
  · have h0 : n * 2 ^ d ≠ 0 := Nat.mul_ne_zero hn (Nat.ne_of_gt (Nat.two_pow_pos d))
    have hd : d ≤ (n * 2 ^ d).log2 := by
      refine (Nat.le_log2 h0).2 ?_
      exact Nat.le_mul_of_pos_left _ (by omega)
    have hp := Nat.two_pow_pos d
    simp only [Ieee.Toward.cut, Nat.one_shiftLeft]
    rw [Nat.min_eq_left (by omega), Nat.mul_div_cancel _ hp, Nat.mul_mod_left]
    simp

theorem cut_scale (s : Bool) (n d j : Nat) (hn : n ≠ 0) : Ieee.Toward.even.cut s (n * 2 ^ j) (d + j) = Ieee.Toward.even.cut s n d := by
  have hl : (n * 2 ^ j).log2 = n.log2 + j := by
    have h0 : n * 2 ^ j ≠ 0 := Nat.mul_ne_zero hn (Nat.ne_of_gt (Nat.two_pow_pos j))
    refine (Nat.log2_eq_iff h0).2 ⟨?_, ?_⟩
    · rw [Nat.pow_add]; exact Nat.mul_le_mul_right _ (Nat.log2_self_le hn)
    · rw [show n.log2 + j + 1 = (n.log2 + 1) + j by omega, Nat.pow_add]
      exact Nat.mul_lt_mul_of_pos_right Nat.lt_log2_self (Nat.two_pow_pos j)
  have hp := Nat.two_pow_pos j
  simp only [Ieee.Toward.cut, Nat.one_shiftLeft, hl]
  rw [show min (d + j) (n.log2 + j + 2) = min d (n.log2 + 2) + j by omega, Nat.pow_add, Nat.mul_div_mul_right _ _ hp, Nat.mul_mod_mul_right]
  generalize 2 ^ min d (n.log2 + 2) = g
  have e1 : decide (g * 2 ^ j < 2 * (n % g * 2 ^ j)) = decide (g < 2 * (n % g)) := by
    rw [← Nat.mul_assoc]
    exact decide_eq_decide.2 (Nat.mul_lt_mul_right hp)
  have e2 : (g * 2 ^ j == 2 * (n % g * 2 ^ j)) = (g == 2 * (n % g)) := by
    rw [← Nat.mul_assoc, Bool.eq_iff_iff, beq_iff_eq, beq_iff_eq]
    exact Nat.mul_left_inj (by omega)
  rw [e1, e2]

theorem log2_scale {n : Nat} (hn : n ≠ 0) (j : Nat) : (n * 2 ^ j).log2 = n.log2 + j := by
  have h0 : n * 2 ^ j ≠ 0 := Nat.mul_ne_zero hn (Nat.ne_of_gt (Nat.two_pow_pos j))
  refine (Nat.log2_eq_iff h0).2 ⟨?_, ?_⟩
  · rw [Nat.pow_add]; exact Nat.mul_le_mul_right _ (Nat.log2_self_le hn)
  · rw [show n.log2 + j + 1 = (n.log2 + 1) + j by omega, Nat.pow_add]
    exact Nat.mul_lt_mul_of_pos_right Nat.lt_log2_self (Nat.two_pow_pos j)

/-- What is written speaks of the number alone, not of how it is split. -/
theorem nearest_scale (f : Ieee.Format) (s : Bool) (m j : Nat) (e : Int) : f.nearest s (m * 2 ^ j) (e - j) = f.nearest s m e := by
  by_cases hm : m = 0
  · subst hm; simp [Ieee.Format.nearest]
  have h0 : m * 2 ^ j ≠ 0 := Nat.mul_ne_zero hm (Nat.ne_of_gt (Nat.two_pow_pos j))
  unfold Ieee.Format.nearest
  rw [if_neg hm, if_neg h0, log2_scale hm]
  rw [show e - (j : Int) + ((m.log2 + j : Nat) : Int) - f.fractionBits = e + m.log2 - f.fractionBits by omega]
  generalize max (e + (m.log2 : Int) - f.fractionBits) f.leastPlace = last
  dsimp only
  congr 3
  simp only [Nat.shiftLeft_eq]
  by_cases h1 : e ≤ last
  · rw [show (e - (j : Int) - last).toNat = 0 by omega, show (e - last).toNat = 0 by omega, show (last - (e - (j : Int))).toNat = (last - e).toNat + j by omega]
    simpa using cut_scale s m _ j hm
  · by_cases h2 : last ≤ e - j
    · rw [show (last - (e - (j : Int))).toNat = 0 by omega, show (last - e).toNat = 0 by omega, cut_zero, cut_zero, Nat.mul_assoc, ← Nat.pow_add,
        show j + (e - (j : Int) - last).toNat = (e - last).toNat by omega]
    · rw [show (e - (j : Int) - last).toNat = 0 by omega, show (last - e).toNat = 0 by omega, cut_zero, Nat.pow_zero, Nat.mul_one,
        show j = (e - last).toNat + (last - (e - (j : Int))).toNat by omega, Nat.pow_add, ← Nat.mul_assoc]
      rw [show (last - (e - (((e - last).toNat + (last - (e - (j : Int))).toNat : Nat) : Int))).toNat = (last - (e - (j : Int))).toNat by omega]
      exact cut_exact s _ _

/-- The place of the last digit that is kept. -/
def lastOf (f : Ieee.Format) (m : Nat) (e : Int) : Int := max (e + m.log2 - f.fractionBits) f.leastPlace

/-- A number that the format has is read as it was written, shifted to the format's own place. -/
theorem read_nearest (f : Ieee.Format) (s : Bool) (m : Nat) (e : Int) (hm : m ≠ 0) (hp : m.log2 ≤ f.fractionBits) (he : f.leastPlace ≤ e)
    (ho : e + m.log2 - f.fractionBits ≤ f.leastPlace + 2 ^ f.exponentBits - 3) (hx : 2 ≤ f.exponentBits) :
    f.read (f.nearest s m e) = .number s (m * 2 ^ (e - lastOf f m e).toNat) (lastOf f m e) ∧ f.nearest s m e % f.signWeight < f.infRung := by
  have hx4 : (4 : Int) ≤ 2 ^ f.exponentBits := by
    have h : 2 ^ 2 ≤ 2 ^ f.exponentBits := Nat.pow_le_pow_right (by omega) hx
    exact_mod_cast h
  have hb : f.binade = 2 ^ f.fractionBits := rfl
  have hbp : 0 < f.binade := by rw [hb]; exact Nat.two_pow_pos _
  have hl1 : lastOf f m e ≤ e := by unfold lastOf; omega
  have hl2 : f.leastPlace ≤ lastOf f m e := by unfold lastOf; omega
  have hl3 : lastOf f m e ≤ f.leastPlace + 2 ^ f.exponentBits - 3 := by unfold lastOf; omega
  have hlog : (m * 2 ^ (e - lastOf f m e).toNat).log2 = m.log2 + (e - lastOf f m e).toNat := log2_scale hm _
  have hM0 : m * 2 ^ (e - lastOf f m e).toNat ≠ 0 := Nat.mul_ne_zero hm (Nat.ne_of_gt (Nat.two_pow_pos _))
  have hM : m * 2 ^ (e - lastOf f m e).toNat < 2 * f.binade := by
    have h1 : m.log2 + (e - lastOf f m e).toNat ≤ f.fractionBits := by unfold lastOf; omega
    have := @Nat.lt_log2_self (m * 2 ^ (e - lastOf f m e).toNat)
    rw [hlog] at this
    calc _ < _ := this
      _ ≤ 2 ^ (f.fractionBits + 1) := Nat.pow_le_pow_right (by omega) (by omega)
      _ = 2 * f.binade := by rw [Nat.pow_succ, ← hb]; omega
  have hfull : f.leastPlace < lastOf f m e → f.binade ≤ m * 2 ^ (e - lastOf f m e).toNat := by
    intro h
    have h1 : m.log2 + (e - lastOf f m e).toNat = f.fractionBits := by unfold lastOf at h ⊢; omega
    have := Nat.log2_self_le hM0
    rw [hlog, h1, ← hb] at this
    exact this
  have hn : f.nearest s m e = f.word s (min ((lastOf f m e - f.leastPlace).toNat * f.binade + m * 2 ^ (e - lastOf f m e).toNat) f.infRung) := by
    unfold Ieee.Format.nearest
    rw [if_neg hm]
    show f.word s (min ((lastOf f m e - f.leastPlace).toNat * f.binade + Ieee.Toward.even.cut s (m <<< (e - lastOf f m e).toNat) (lastOf f m e - e).toNat) f.infRung) = _
    rw [show (lastOf f m e - e).toNat = 0 by omega, cut_zero, Nat.shiftLeft_eq]
  generalize hM' : m * 2 ^ (e - lastOf f m e).toNat = M at *
  generalize hq : (lastOf f m e - f.leastPlace).toNat = q at *
  have hq2 : q + 3 ≤ 2 ^ f.exponentBits := by
    have : (q : Int) + 3 ≤ ((2 ^ f.exponentBits : Nat) : Int) := by push_cast; omega
    exact_mod_cast this
  have hr : q * f.binade + M < f.infRung := by
    unfold Ieee.Format.infRung
    have h1 : (q + 2) * f.binade ≤ (2 ^ f.exponentBits - 1) * f.binade := Nat.mul_le_mul_right _ (by omega)
    rw [Nat.add_mul] at h1
    omega
  have hs : f.infRung < f.signWeight := Ieee.Format.infRung_lt _
  rw [Nat.min_eq_left (Nat.le_of_lt hr)] at hn
  rw [hn]
  have hmod := word_mod f s (r := q * f.binade + M) (by omega)
  refine ⟨?_, by rw [hmod]; exact hr⟩
  have hsg : (f.word s (q * f.binade + M) / f.signWeight % 2 == 1) = s := by
    unfold Ieee.Format.word
    cases s
    · simp [Nat.div_eq_of_lt (show q * f.binade + M < f.signWeight by omega)]
    · simp [Nat.add_div_left _ (show 0 < f.signWeight by omega), Nat.div_eq_of_lt (show q * f.binade + M < f.signWeight by omega)]
  unfold Ieee.Format.read
  simp only [hmod, hsg]
  by_cases hsub : q * f.binade + M < f.binade
  · rw [if_pos hsub]
    have hq0 : q = 0 := by
      apply Nat.eq_zero_of_not_pos
      intro h
      have : 1 * f.binade ≤ q * f.binade := Nat.mul_le_mul_right _ h
      omega
    rw [hq0]
    congr 1
    · simp
    · omega
  · rw [if_neg hsub, if_pos hr]
    have hMb : f.binade ≤ M := by
      by_cases h : f.leastPlace < lastOf f m e
      · exact hfull h
      · have : q = 0 := by omega
        rw [this] at hsub; omega
    have e1 : (q * f.binade + M) % f.binade = M - f.binade := by
      rw [Nat.mul_add_mod_self_right, Nat.mod_eq_sub_mod hMb, Nat.mod_eq_of_lt (by omega)]
    have e2 : (q * f.binade + M) / f.binade = q + 1 := by
      rw [Nat.mul_comm, Nat.mul_add_div hbp]
      congr 1
      rw [show M = f.binade + (M - f.binade) by omega, Nat.add_div_left _ hbp, Nat.div_eq_of_lt (by omega)]
    rw [e1, e2]
    congr 1
    · omega
    · omega

/-- What is read is written back. -/
theorem write_read (f : Ieee.Format) (hx : 2 ≤ f.exponentBits) (b : Nat) {s : Bool} {m : Nat} {e : Int} (h : f.read b = .number s m e) : f.nearest s m e = f.word s (b % f.signWeight) := by
  have hb : f.binade = 2 ^ f.fractionBits := rfl
  have hbp : 0 < f.binade := by rw [hb]; exact Nat.two_pow_pos _
  have hx4 : 4 ≤ 2 ^ f.exponentBits := Nat.pow_le_pow_right (n := 2) (by omega) hx
  have hinf : f.binade ≤ f.infRung := by
    unfold Ieee.Format.infRung
    exact Nat.le_mul_of_pos_left _ (by omega)
  unfold Ieee.Format.read at h
  dsimp only at h
  generalize b % f.signWeight = r at *
  split at h
  · rename_i h1
    simp only [Ieee.Datum.number.injEq] at h
    obtain ⟨_, rfl, rfl⟩ := h
    by_cases h0 : r = 0
    · subst h0; simp [Ieee.Format.nearest]
    · unfold Ieee.Format.nearest
      rw [if_neg h0]
      have h2 := h1
      rw [hb] at h2
      have := (Nat.log2_lt h0).2 h2
      rw [show max (f.leastPlace + (r.log2 : Int) - f.fractionBits) f.leastPlace = f.leastPlace by omega]
      simp only [Int.sub_self, Int.toNat_zero, Nat.shiftLeft_zero, cut_zero, Nat.zero_mul, Nat.zero_add]
      rw [Nat.min_eq_left (by omega)]
  · rename_i h1
    split at h
    · rename_i h2
      simp only [Ieee.Datum.number.injEq] at h
      obtain ⟨_, rfl, rfl⟩ := h
      have hlt := Nat.mod_lt r hbp
      have h0 : f.binade + r % f.binade ≠ 0 := by omega
      have e1 : (f.binade + r % f.binade).log2 = f.fractionBits := by
        refine (Nat.log2_eq_iff h0).2 ⟨?_, ?_⟩
        · rw [← hb]; omega
        · rw [Nat.pow_succ, ← hb]; omega
      have h3 : 1 ≤ r / f.binade := (Nat.le_div_iff_mul_le hbp).2 (by omega)
      unfold Ieee.Format.nearest
      rw [if_neg h0, e1]
      rw [show max (f.leastPlace + ((r / f.binade - 1 : Nat) : Int) + (f.fractionBits : Int) - f.fractionBits) f.leastPlace = f.leastPlace + ((r / f.binade - 1 : Nat) : Int) by omega]
      simp only [Int.sub_self, Int.toNat_zero, Nat.shiftLeft_zero, cut_zero]
      rw [show (f.leastPlace + ((r / f.binade - 1 : Nat) : Int) - f.leastPlace).toNat = r / f.binade - 1 by omega]
      have h4 : (r / f.binade - 1) * f.binade + (f.binade + r % f.binade) = r := by
        have h5 := Nat.div_add_mod r f.binade
        have h6 : (r / f.binade - 1) * f.binade + f.binade = r / f.binade * f.binade := by
          rw [← Nat.succ_mul]; congr 1; omega
        rw [Nat.mul_comm] at h5
        omega
      rw [h4, Nat.min_eq_left (by omega)]
    · split at h <;> cases h

theorem bits32 : FloatKind.f32.format.exponentBits = 8 ∧ FloatKind.f32.format.fractionBits = 23 ∧ FloatKind.f32.format.leastPlace = -149 ∧ FloatKind.f32.format.signWeight = 2147483648 ∧ FloatKind.f32.format.infRung = 2139095040 := by decide
theorem bits64 : FloatKind.f64.format.exponentBits = 11 ∧ FloatKind.f64.format.fractionBits = 52 ∧ FloatKind.f64.format.leastPlace = -1074 ∧ FloatKind.f64.format.signWeight = 9223372036854775808 ∧ FloatKind.f64.format.infRung = 9218868437227405312 := by decide

/-- What a narrow number's datum is made of. -/
theorem read32 {b : Nat} {s : Bool} {m : Nat} {e : Int} (h : FloatKind.f32.format.read b = .number s m e) : -149 ≤ e ∧ (m ≠ 0 → m.log2 ≤ 23 ∧ e + m.log2 + 1 ≤ 128) := by
  refine ⟨?_, fun h0 => ⟨?_, lt32 h h0⟩⟩
  all_goals
    have e1 : Ieee.single.signWeight = 2147483648 := by decide
    have e2 : Ieee.single.infRung = 2139095040 := by decide
    have e3 : Ieee.single.binade = 8388608 := by decide
    have e4 : Ieee.single.leastPlace = -149 := by decide
    simp only [FloatKind.format, Ieee.Format.read, e1, e2, e3, e4] at h
    split at h
    · simp only [Ieee.Datum.number.injEq] at h
      obtain ⟨_, rfl, rfl⟩ := h
      first | omega | (have : (b % 2147483648).log2 < 23 := (Nat.log2_lt h0).2 (by omega)
                       omega)
    · split at h
      · simp only [Ieee.Datum.number.injEq] at h
        obtain ⟨_, rfl, rfl⟩ := h
        first | omega | (have : (8388608 + b % 2147483648 % 8388608).log2 < 24 := (Nat.log2_lt h0).2 (by omega)
                         omega)
      · split at h <;> cases h

/-- A narrow number is widened exactly. -/
theorem read_widen {b : Nat} {s : Bool} {m : Nat} {e : Int} (h : FloatKind.f32.format.read b = .number s m e) :
    ∃ j : Nat, ∃ e', FloatKind.f64.format.read (widen b) = .number s (m * 2 ^ j) e' ∧ (m ≠ 0 → e' = e - j) ∧ widen b % 9223372036854775808 < 9218868437227405312 := by
  obtain ⟨b1, b2, b3, b4, b5⟩ := bits64
  obtain ⟨h1, h2⟩ := read32 h
  have hw : widen b = FloatKind.f64.format.nearest s m e := by simp only [widen, h]; rfl
  rw [hw]
  by_cases hm : m = 0
  · subst hm
    refine ⟨0, -1074, ?_, fun h => absurd rfl h, ?_⟩
    · cases s <;> simp [Ieee.Format.nearest, Ieee.Format.word] <;> decide
    · cases s <;> simp [Ieee.Format.nearest, Ieee.Format.word] <;> decide
  · obtain ⟨h3, h4⟩ := h2 hm
    obtain ⟨h5, h6⟩ := read_nearest FloatKind.f64.format s m e hm (by omega) (by omega) (by rw [b1, b2, b3]; omega) (by omega)
    rw [b4, b5] at h6
    refine ⟨_, _, h5, fun _ => ?_, h6⟩
    have : lastOf FloatKind.f64.format m e ≤ e := by unfold lastOf; omega
    omega
end Go.Fk
namespace Go.Fk
open Go Go.RowKit
theorem read_mod {k : FloatKind} {b : Nat} {s : Bool} {m : Nat} {e : Int} (h : k.format.read b = .number s m e) : k.format.read (b % k.format.signWeight) = .number false m e := by
  have hs : 0 < k.format.signWeight := by unfold Ieee.Format.signWeight; exact Nat.two_pow_pos _
  have e1 : (b % k.format.signWeight / k.format.signWeight % 2 == 1) = false := by
    rw [Nat.div_eq_of_lt (Nat.mod_lt _ hs)]; rfl
  unfold Ieee.Format.read at h ⊢
  dsimp only at h ⊢
  rw [e1, Nat.mod_mod]
  generalize b % k.format.signWeight = r at *
  split
  · rename_i h1
    rw [if_pos h1] at h
    simp only [Ieee.Datum.number.injEq] at h ⊢
    exact ⟨trivial, h.2⟩
  · rename_i h1
    rw [if_neg h1] at h
    split
    · rename_i h2
      rw [if_pos h2] at h
      simp only [Ieee.Datum.number.injEq] at h ⊢
      exact ⟨trivial, h.2⟩
    · rename_i h2
      rw [if_neg h2] at h
      split at h <;> cases h

/-- May be narrowed: what the language fixes, whole range. -/
def narrowableX (b : Nat) : Prop := ∀ s m e, FloatKind.f64.format.read b = .number s m e → (FloatKind.f32.decode (FloatKind.f32.encode (.number s m e))).isInfinity = false

/-- The size of a narrow number, by way of the wide ones. -/
theorem narrow_abs {b w : Nat} (hw : can .f64 w = can .f64 (widen b)) : narrowableX (w % 9223372036854775808) ∧ can .f32 (narrow (w % 9223372036854775808)) = can .f32 (b % 2147483648) := by
  obtain ⟨a1, a2, a3, a4, a5⟩ := bits32
  obtain ⟨b1, b2, b3, b4, b5⟩ := bits64
  cases hr : FloatKind.f32.format.read b with
  | nan s t =>
    have hn : isNan .f32 b = true := by simp [isNan, hr, Ieee.Datum.isNaN]
    have hq : widen b = qnan .f64 := by simp only [widen, hr]
    have hwn : isNan .f64 w = true := by rw [isNan_of_can hw, hq]; exact isNan_qnan _
    have hm : isNan .f64 (w % 9223372036854775808) = true := by rw [isNan_f64] at hwn ⊢; rwa [Nat.mod_mod]
    have hm2 : isNan .f32 (b % 2147483648) = true := by rw [isNan_f32] at hn ⊢; rwa [Nat.mod_mod]
    obtain ⟨s', t', hr'⟩ := read_nan hm
    refine ⟨fun s1 m1 e1 h => (by rw [hr'] at h; cases h), ?_⟩
    rw [can_of_nan hm2]
    simp only [narrow, hr', can_qnan]
  | infinity s =>
    have hb : b % 2147483648 = 2139095040 := by
      have e1 : Ieee.single.signWeight = 2147483648 := by decide
      have e2 : Ieee.single.infRung = 2139095040 := by decide
      simp only [FloatKind.format, Ieee.Format.read, e1, e2] at hr
      split at hr
      · cases hr
      · split at hr
        · cases hr
        · split at hr
          · assumption
          · cases hr
    have hq : widen b = FloatKind.f64.encode (.infinity s) := by simp only [widen, hr]
    have hwq : w = FloatKind.f64.encode (.infinity s) := by
      rw [hq] at hw
      exact (eq_of_can hw.symm (by cases s <;> decide)).symm
    rw [hwq, hb]
    have e1 : FloatKind.f64.format.read (FloatKind.f64.encode (.infinity s) % 9223372036854775808) = .infinity false := by cases s <;> decide
    refine ⟨fun s1 m1 e1' h => (by rw [e1] at h; cases h), ?_⟩
    simp only [narrow, e1]
    decide
  | number s m e =>
    obtain ⟨j, e', h1, h2, h3⟩ := read_widen hr
    have hwq : w = widen b := by
      refine (eq_of_can hw.symm ?_).symm
      simp [isNan, h1, Ieee.Datum.isNaN]
    rw [hwq]
    have h4 := read_mod h1
    have h5 := read_mod hr
    rw [b4] at h4
    rw [a4] at h5
    have h6 : FloatKind.f32.format.nearest false (m * 2 ^ j) e' = b % 2147483648 := by
      have h7 := write_read FloatKind.f32.format (by omega) (b % 2147483648) h5
      rw [a4, Nat.mod_mod] at h7
      by_cases hm : m = 0
      · subst hm
        rw [Nat.zero_mul]
        exact (show FloatKind.f32.format.nearest false 0 e' = FloatKind.f32.format.nearest false 0 e by simp [Ieee.Format.nearest]).trans h7
      · rw [h2 hm, nearest_scale, h7]; rfl
    have h8 : FloatKind.f32.encode (.number false (m * 2 ^ j) e') = b % 2147483648 := h6
    refine ⟨fun s1 m1 e1 h => ?_, ?_⟩
    · rw [h4] at h
      cases h
      rw [h8]
      have : FloatKind.f32.decode (b % 2147483648) = .number false m e := h5
      rw [this]; rfl
    · have : narrow (widen b % 9223372036854775808) = FloatKind.f32.encode (.number false (m * 2 ^ j) e') := by simp only [narrow, h4]
      rw [this, h8]

section
variable {P : Program}
theorem run_narrowX (w : World) (src dst : TypeId) (b : Nat) (hs : P.underlying src = some (.float .f64)) (hd : P.underlying dst = some (.float .f32)) (hb : narrowableX b) :
    ∃ r n, (convert src dst (.float .f64 b)).run P w = .ok (.float .f32 r) (w.drewN n) ∧ can .f32 r = can .f32 (narrow b) ∧ fits .f32 r := by
  cases hr : FloatKind.f64.format.read b with
  | nan s t =>
    refine ⟨(Question.nanConv .f32 b).cut (w.tape w.drawn (.nanConv .f32 b)), 1, ?_, ?_, (nan_conv .f32 b _).2⟩
    · simp [convert, run_underlying hs, run_underlying hd, Conv.floatToFloat, FloatKind.decode, hr, Question.forced]; rfl
    · rw [can_of_nan (nan_conv .f32 b _).1]; simp only [narrow, hr, can_qnan]
  | infinity s =>
    refine ⟨FloatKind.f32.encode (.infinity s), 0, ?_, by simp only [narrow, hr], encode_wf _ _⟩
    simp [convert, run_underlying hs, run_underlying hd, Conv.floatToFloat, FloatKind.decode, hr]; rfl
  | number s m e =>
    refine ⟨FloatKind.f32.encode (.number s m e), 0, ?_, by simp only [narrow, hr], encode_wf _ _⟩
    have h := hb s m e hr
    have hr' : FloatKind.f64.decode b = .number s m e := hr
    simp [convert, run_underlying hs, run_underlying hd, Conv.floatToFloat, hr', h]; rfl

variable {w : World} {ops : Array Oper} {rest : List Oper} {o : Oper} {a : Act} {Q : Exit → Act → World → Prop}
theorem wpList_narrowX (hg : o.guard = none) {src dst : TypeId} {x : Operand} (hop : o.op = Op.convert src dst x) {b : Nat} (hx : a.eval x = .float .f64 b)
    (hs : P.underlying src = some (.float .f64)) (hd : P.underlying dst = some (.float .f32)) (hb : narrowableX b)
    (hK : ∀ r n, Hid (can .f32 r = can .f32 (narrow b)) → Hid (fits .f32 r) → wpList P ops Q rest (a.put o.dst (.float .f32 r)) (w.drewN n)) : wpList P ops Q (o :: rest) a w := by
  refine wpList_plain hg fun K hK' => ?_
  obtain ⟨r, n, hrun, hr, hf⟩ := run_narrowX (P := P) w src dst b hs hd hb
  unfold Oper.wp
  simp [execOp, hop, hx, hrun, Result.andThen]
  exact hK' _ _ (hK r n hr hf)
end
end Go.Fk

/- The place in a table: a number of 0 to 1, times 256, and its integer. Nothing here names a program. -/
namespace Go.Fk
open Go Go.RowKit
def one32 : Int := 2 ^ unitOf .f32
theorem one32_pos : 0 < one32 := Int.pow_pos (by omega)
theorem far32 : 9223372036854775807 * one32 < (far : Int) := by decide +kernel
theorem far32' : -(far : Int) < -9223372036854775808 * one32 := by decide +kernel
theorem val_one : val .f32 1065353216 = one32 ∧ isNan .f32 1065353216 = false := by decide +kernel
theorem val_zero : val .f32 0 = 0 ∧ isNan .f32 0 = false := by decide +kernel
/-- A narrow float to an integer of 64 bits. -/
theorem floatToInt_val32 {b : Nat} (hn : isNan .f32 b = false) (hlo : -9223372036854775808 * one32 ≤ val .f32 b) (hhi : val .f32 b ≤ 9223372036854775807 * one32) :
    floatToIntVal .f32 b .i64 = some ((val .f32 b).tdiv one32) := by
  have hsmall := far32
  have hsmall' := far32'
  cases hr : FloatKind.f32.format.read b with
  | nan s t => simp [isNan, hr, Ieee.Datum.isNaN] at hn
  | infinity s =>
    have hv : val .f32 b = if s then -(far : Int) else far := by simp only [val, hr]
    rw [hv] at hlo hhi
    generalize (far : Int) = big at *
    cases s <;> simp at hlo hhi <;> omega
  | number s m e =>
    have ht := toInt_val hr
    unfold floatToIntVal
    rw [ht]
    have hU := one32_pos
    rw [show (2 : Int) ^ unitOf .f32 = one32 from rfl]
    generalize one32 = U at *
    generalize val .f32 b = v at *
    have h1 : IntKind.i64.min ≤ v.tdiv U := by
      have : IntKind.i64.min = (-9223372036854775808 * U).tdiv U := (Int.mul_tdiv_cancel _ (by omega)).symm
      rw [this]; exact Int.tdiv_le_tdiv hU hlo
    have h2 : v.tdiv U ≤ IntKind.i64.max := by
      have : IntKind.i64.max = (9223372036854775807 * U).tdiv U := (Int.mul_tdiv_cancel _ (by omega)).symm
      rw [this]; exact Int.tdiv_le_tdiv hU hhi
    simp only [h1, h2, and_self, if_true]
theorem val_nearest32 {s : Bool} {m : Nat} {e : Int} (hm : m ≠ 0) (hp : m.log2 ≤ 23) (he : -149 ≤ e) (ho : e + m.log2 ≤ 127) :
    val .f32 (FloatKind.f32.format.nearest s m e) = Ieee.signed s m (e + 149).toNat := by
  obtain ⟨b1, b2, b3, b4, b5⟩ := bits32
  obtain ⟨h5, _⟩ := read_nearest FloatKind.f32.format s m e hm (by omega) (by omega) (by rw [b1, b2, b3]; omega) (by omega)
  have h1 : lastOf FloatKind.f32.format m e ≤ e := by unfold lastOf; omega
  have h2 : -149 ≤ lastOf FloatKind.f32.format m e := by unfold lastOf; omega
  simp only [val, h5]
  rw [signed_eq, signed_eq]
  have hu : ((unitOf .f32 : Nat) : Int) = 149 := rfl
  rw [hu]
  generalize lastOf FloatKind.f32.format m e = last at *
  have e1 : (2 : Int) ^ (e + 149).toNat = 2 ^ (e - last).toNat * 2 ^ (last + 149).toNat := by
    rw [← Int.pow_add]; congr 1; omega
  rw [e1, Int.natCast_mul, Int.natCast_pow]
  cases s
  · simp [Int.mul_assoc]
  · simp [Int.mul_assoc, Int.neg_mul]
/-- The place of a number in a table. -/
def placeW (x : Nat) : Nat := fop .mul .f32 x 1132462080
def inUnit (x : Nat) : Bool := (FloatKind.f32.format.order x 0 == some .gt || FloatKind.f32.format.order x 0 == some .eq) && (FloatKind.f32.format.order x 1065353216 == some .lt || FloatKind.f32.format.order x 1065353216 == some .eq)
theorem inUnit_val {x : Nat} (h : inUnit x = true) : isNan .f32 x = false ∧ 0 ≤ val .f32 x ∧ val .f32 x ≤ one32 := by
  cases hn : isNan .f32 x
  · have h0 := order_val hn val_zero.2
    have h1 := order_val hn val_one.2
    unfold inUnit at h
    rw [h0, h1, val_zero.1, val_one.1] at h
    generalize one32 = U at *
    generalize val .f32 x = v at *
    refine ⟨rfl, ?_, ?_⟩
    · rcases Int.lt_trichotomy v 0 with c | c | c
      · rw [Int.compare_eq_lt.2 c] at h; simp at h
      · omega
      · omega
    · rcases Int.lt_trichotomy v U with c | c | c
      · omega
      · omega
      · rw [Int.compare_eq_gt.2 c] at h; simp at h
  · unfold inUnit at h
    rw [order_of_nan_l hn] at h
    simp at h
theorem place_val {x : Nat} (h : inUnit x = true) : isNan .f32 (placeW x) = false ∧ val .f32 (placeW x) = val .f32 x * 256 := by
  obtain ⟨hn, h0, h1⟩ := inUnit_val h
  have hc : FloatKind.f32.format.read 1132462080 = .number false 8388608 (-15) := by decide
  have hf := far32
  have hU := one32_pos
  cases hr : FloatKind.f32.format.read x with
  | nan s t => simp [isNan, hr, Ieee.Datum.isNaN] at hn
  | infinity s =>
    have hv : val .f32 x = if s then -(far : Int) else far := by simp only [val, hr]
    rw [hv] at h0 h1
    generalize (far : Int) = big at *
    cases s <;> simp at h0 h1 <;> omega
  | number s m e =>
    obtain ⟨he, hm⟩ := read32 hr
    have hb : floatBits .mul .f32 x 1132462080 = some (FloatKind.f32.format.nearest s m (e + 8)) := by
      have : floatBits .mul .f32 x 1132462080 = some (FloatKind.f32.format.nearest (s ^^ false) (m * 2 ^ 23) (e + -15)) := by
        simp only [floatBits, Ieee.Format.mul, hr, hc]; rfl
      rw [this, Bool.xor_false, ← nearest_scale _ s m 23 (e + 8), show e + 8 - ((23 : Nat) : Int) = e + -15 by omega]
    have hp : placeW x = FloatKind.f32.format.nearest s m (e + 8) := by
      unfold placeW fop
      rw [hb]
      exact can_of_not (isNan_nearest .f32 s m (e + 8))
    refine ⟨by rw [hp]; exact isNan_nearest .f32 s m (e + 8), ?_⟩
    have hv : val .f32 x = Ieee.signed s m (e + 149).toNat := by simp only [val, hr]; rfl
    rw [hp, hv]
    by_cases m0 : m = 0
    · subst m0
      have : FloatKind.f32.format.nearest s 0 (e + 8) = FloatKind.f32.format.word s 0 := by simp [Ieee.Format.nearest]
      rw [this, signed_eq]
      cases s <;> simp <;> decide
    · obtain ⟨hl, _⟩ := hm m0
      have hle : e + m.log2 ≤ 0 := by
        rw [hv, signed_eq] at h0 h1
        have hs : s = false := by
          cases s
          · rfl
          · simp only [if_true, Int.neg_mul] at h0
            have : 0 < (m : Int) * 2 ^ (e + 149).toNat := Int.mul_pos (by omega) (Int.pow_pos (by omega))
            omega
        subst hs
        simp only [Bool.false_eq_true, if_false] at h1
        have h2 : m * 2 ^ (e + 149).toNat ≤ 2 ^ 149 := by
          have h3 : ((m * 2 ^ (e + 149).toNat : Nat) : Int) ≤ ((2 ^ 149 : Nat) : Int) := by
            rw [Int.natCast_mul, Int.natCast_pow, Int.natCast_pow]; exact h1
          exact_mod_cast h3
        have h4 : 2 ^ (m.log2 + (e + 149).toNat) ≤ 2 ^ 149 := by
          rw [Nat.pow_add]
          exact Nat.le_trans (Nat.mul_le_mul_right _ (Nat.log2_self_le m0)) h2
        have h5 := (Nat.pow_le_pow_iff_right (a := 2) (by omega)).1 h4
        omega
      rw [val_nearest32 m0 hl (by omega) (by omega), signed_eq, signed_eq, show (e + 8 + 149).toNat = (e + 149).toNat + 8 by omega, Int.pow_add, Int.mul_assoc]
      rfl
/-- The index of a place. -/
def indexW (x : Nat) : Nat := ((val .f32 x * 256).tdiv one32).toNat
theorem place_int {x p : Nat} (h : inUnit x = true) (hp : can .f32 p = placeW x) : isNan .f32 p = false ∧ floatToIntVal .f32 p .i64 = some (indexW x : Int) ∧ indexW x ≤ 256 := by
  obtain ⟨hn, h0, h1⟩ := inUnit_val h
  obtain ⟨hn2, hv⟩ := place_val h
  have hpn : isNan .f32 p = false := by
    have := isNan_of_can (hp.trans (by unfold placeW; exact (can_fop _ _ _ _).symm) : can .f32 p = can .f32 (placeW x))
    rw [this, hn2]
  have e : p = placeW x := by rw [← can_of_not hpn, hp]
  have hU := one32_pos
  refine ⟨hpn, ?_, ?_⟩
  · rw [e, floatToInt_val32 hn2 (by rw [hv]; generalize one32 = U at *; omega) (by rw [hv]; generalize one32 = U at *; omega), hv]
    unfold indexW
    generalize one32 = U at *
    have : 0 ≤ (val .f32 x * 256).tdiv U := Int.tdiv_nonneg (by omega) (by omega)
    rw [Int.toNat_of_nonneg this]
  · unfold indexW
    generalize one32 = U at *
    have : (val .f32 x * 256).tdiv U ≤ (256 * U).tdiv U := Int.tdiv_le_tdiv hU (by omega)
    rw [Int.mul_tdiv_cancel _ (by omega)] at this
    omega
end Go.Fk

/- Whole numbers as floats, and what a number has above its whole part. Nothing here names a program. -/
namespace Go.Fk
open Go Go.RowKit
theorem val_int {k : Nat} (hk : k ≤ 4096) : val .f32 (floatOfInt .f32 (k : Int)) = (k : Int) * one32 := by
  have e : floatOfInt .f32 (k : Int) = FloatKind.f32.format.nearest false k 0 := by
    show FloatKind.f32.encode (.number (decide ((k : Int) < 0)) (k : Int).natAbs 0) = _
    rw [show decide ((k : Int) < 0) = false by simp, Int.natAbs_natCast]; rfl
  rw [e]
  by_cases h0 : k = 0
  · subst h0; decide +kernel
  · have hl : k.log2 ≤ 12 := Nat.le_of_lt_succ ((Nat.log2_lt h0).2 (by omega))
    rw [val_nearest32 h0 (by omega) (by omega) (by omega), signed_eq]
    simp only [Bool.false_eq_true, if_false, one32]
    rfl
theorem far_one : 4096 * one32 < (far : Int) := by decide +kernel
theorem finite_num {x : Nat} (hn : isNan .f32 x = false) (h1 : -(far : Int) < val .f32 x) (h2 : val .f32 x < far) : ∃ s m e, FloatKind.f32.format.read x = .number s m e := by
  cases hr : FloatKind.f32.format.read x with
  | nan s t => simp [isNan, hr, Ieee.Datum.isNaN] at hn
  | infinity s =>
    have hv : val .f32 x = if s then -(far : Int) else far := by simp only [val, hr]
    rw [hv] at h1 h2
    generalize (far : Int) = big at *
    cases s <;> simp at h1 h2
  | number s m e => exact ⟨s, m, e, rfl⟩
theorem sub_num {x y : Nat} {s t : Bool} {m n : Nat} {i j : Int} (hrx : FloatKind.f32.format.read x = .number s m i) (hry : FloatKind.f32.format.read y = .number t n j) :
    isNan .f32 (fop .sub .f32 x y) = false ∧ (val .f32 x = val .f32 y → FloatKind.f32.format.order (fop .sub .f32 x y) 0 = some .eq) := by
  obtain ⟨sg, hb⟩ : ∃ sg, floatBits .sub .f32 x y = some (FloatKind.f32.format.nearest sg (Ieee.signed s m (i - min i j).toNat + Ieee.signed (!t) n (j - min i j).toNat).natAbs (min i j)) := ⟨_, by
    simp only [floatBits, Ieee.Format.sub, hrx, hry, Ieee.Datum.opposite, Ieee.Datum.sum, Option.map_some]; rfl⟩
  have hf : fop .sub .f32 x y = FloatKind.f32.format.nearest sg (Ieee.signed s m (i - min i j).toNat + Ieee.signed (!t) n (j - min i j).toNat).natAbs (min i j) := by
    unfold fop; rw [hb]; exact can_of_not (isNan_nearest _ _ _ _)
  refine ⟨by rw [hf]; exact isNan_nearest _ _ _ _, fun h => ?_⟩
  have pi : -149 ≤ i := read_place hrx
  have pj : -149 ≤ j := read_place hry
  have vx : val .f32 x = Ieee.signed s m (i + 149).toNat := by simp only [val, hrx]; rfl
  have vy : val .f32 y = Ieee.signed t n (j + 149).toNat := by simp only [val, hry]; rfl
  have hneg : Ieee.signed (!t) n (j - min i j).toNat = -Ieee.signed t n (j - min i j).toNat := by
    unfold Ieee.signed; cases t <;> simp
  rw [hneg] at hf
  have e1 : val .f32 x - val .f32 y = (Ieee.signed s m (i - min i j).toNat + -Ieee.signed t n (j - min i j).toNat) * 2 ^ (min i j + 149).toNat := by
    rw [vx, vy, signed_eq, signed_eq, signed_eq, signed_eq, Int.add_mul, Int.neg_mul, Int.mul_assoc, Int.mul_assoc, ← Int.pow_add, ← Int.pow_add]
    rw [show (i - min i j).toNat + (min i j + 149).toNat = (i + 149).toNat by omega, show (j - min i j).toNat + (min i j + 149).toNat = (j + 149).toNat by omega]
    omega
  have hT : Ieee.signed s m (i - min i j).toNat + -Ieee.signed t n (j - min i j).toNat = 0 := by
    have h0 : (Ieee.signed s m (i - min i j).toNat + -Ieee.signed t n (j - min i j).toNat) * 2 ^ (min i j + 149).toNat = 0 := by rw [← e1, h]; omega
    exact (Int.mul_eq_zero.1 h0).resolve_right (Int.ne_of_gt (Int.pow_pos (by omega)))
  rw [hf, hT, Int.natAbs_zero]
  have : FloatKind.f32.format.nearest sg 0 (min i j) = FloatKind.f32.format.word sg 0 := by simp [Ieee.Format.nearest]
  rw [this]
  cases sg <;> decide +kernel
/-- A number's whole part. -/
def wholeW (d : Nat) : Nat := ((val .f32 d).tdiv one32).toNat
/-- What a number has above its whole part. -/
def shareW (d : Nat) : Nat := fop .sub .f32 d (floatOfInt .f32 (wholeW d : Int))
theorem into_val {d n : Nat} (hn : n ≤ 4096) (h : withinB d 1065353216 (floatOfInt .f32 (n : Int)) = true) : isNan .f32 d = false ∧ one32 ≤ val .f32 d ∧ val .f32 d ≤ n * one32 := by
  cases hd : isNan .f32 d
  · have h0 := order_val hd val_one.2
    have h1 := order_val hd (isNan_int (n : Int))
    unfold withinB at h
    rw [h0, h1, val_one.1, val_int hn] at h
    generalize one32 = U at *
    generalize val .f32 d = v at *
    generalize (n : Int) * U = T at *
    refine ⟨rfl, ?_, ?_⟩
    · rcases Int.lt_trichotomy v U with c | c | c
      · rw [Int.compare_eq_lt.2 c] at h; simp at h
      · omega
      · omega
    · rcases Int.lt_trichotomy v T with c | c | c
      · omega
      · omega
      · rw [Int.compare_eq_gt.2 c] at h; simp at h
  · unfold withinB at h
    rw [order_of_nan_l hd] at h
    simp at h
theorem into_int {d n : Nat} (hn : n ≤ 4096) (h : withinB d 1065353216 (floatOfInt .f32 (n : Int)) = true) :
    floatToIntVal .f32 d .i64 = some (wholeW d : Int) ∧ 1 ≤ wholeW d ∧ wholeW d ≤ n := by
  obtain ⟨hd, h0, h1⟩ := into_val hn h
  have hU := one32_pos
  have e1 : one32.tdiv one32 ≤ (val .f32 d).tdiv one32 := Int.tdiv_le_tdiv hU h0
  have e2 : (val .f32 d).tdiv one32 ≤ (n * one32).tdiv one32 := Int.tdiv_le_tdiv hU h1
  rw [Int.mul_tdiv_cancel _ (by omega)] at e2
  rw [Int.tdiv_self (by omega)] at e1
  have hn' : (n : Int) * one32 ≤ 9223372036854775807 * one32 := Int.mul_le_mul_of_nonneg_right (by omega) (by omega)
  refine ⟨?_, ?_, ?_⟩
  · rw [floatToInt_val32 hd (by omega) (by omega)]
    unfold wholeW
    rw [Int.toNat_of_nonneg (by omega)]
  · unfold wholeW; omega
  · unfold wholeW; omega
theorem into_share {d n : Nat} (hn : n ≤ 4096) (h : withinB d 1065353216 (floatOfInt .f32 (n : Int)) = true) :
    isNan .f32 (shareW d) = false ∧ ((FloatKind.f32.format.order (shareW d) 0 == some .eq) = false → wholeW d + 1 ≤ n) := by
  obtain ⟨hd, h0, h1⟩ := into_val hn h
  obtain ⟨_, k0, k1⟩ := into_int hn h
  have hU := one32_pos
  have hf := far_one
  have hn' : (n : Int) * one32 ≤ 4096 * one32 := Int.mul_le_mul_of_nonneg_right (by omega) (by omega)
  have hk' : (wholeW d : Int) * one32 ≤ 4096 * one32 := Int.mul_le_mul_of_nonneg_right (by omega) (by omega)
  have hk0 : 0 ≤ (wholeW d : Int) * one32 := Int.mul_nonneg (by omega) (by omega)
  obtain ⟨s, m, i, hr⟩ := finite_num hd (by omega) (by omega)
  obtain ⟨t, q, j, hr2⟩ := finite_num (isNan_int (wholeW d : Int)) (by rw [val_int (by omega)]; omega) (by rw [val_int (by omega)]; omega)
  obtain ⟨g1, g2⟩ := sub_num hr hr2
  refine ⟨g1, fun hz => ?_⟩
  apply Classical.byContradiction
  intro hc
  have hk : wholeW d = n := by omega
  have : val .f32 d = val .f32 (floatOfInt .f32 (wholeW d : Int)) := by
    rw [val_int (by omega), hk]
    have e3 : (wholeW d : Int) * one32 ≤ val .f32 d := by
      have e4 : (wholeW d : Int) = (val .f32 d).tdiv one32 := by unfold wholeW; rw [Int.toNat_of_nonneg (Int.tdiv_nonneg (by omega) (by omega))]
      rw [e4]
      rw [Int.tdiv_eq_ediv_of_nonneg (by omega)]
      exact Int.ediv_mul_le _ (by omega)
    rw [hk] at e3
    omega
  have hz' := g2 this
  unfold shareW at hz
  rw [hz'] at hz
  simp at hz
end Go.Fk

/- Bounds of what is rounded to the nearest narrow float. Nothing here names a program. -/
namespace Go.Fk
open Go Go.RowKit
/-- The size of a rung, in the least units. -/
def rv (r : Nat) : Nat := if r < 8388608 then r else (8388608 + r % 8388608) * 2 ^ (r / 8388608 - 1)
theorem f32_nums : FloatKind.f32.format.signWeight = 2147483648 ∧ FloatKind.f32.format.binade = 8388608 ∧ FloatKind.f32.format.infRung = 2139095040 ∧ FloatKind.f32.format.leastPlace = -149 ∧ FloatKind.f32.format.fractionBits = 23 := by decide
theorem val_word (s : Bool) {r : Nat} (h : r < 2139095040) : val .f32 (FloatKind.f32.format.word s r) = if s then -(rv r : Int) else (rv r : Int) := by
  obtain ⟨e1, e2, e3, e4, e5⟩ := f32_nums
  have hrung : FloatKind.f32.format.word s r % FloatKind.f32.format.signWeight = r := word_mod _ _ (by rw [e1]; omega)
  have hneg : (FloatKind.f32.format.word s r / FloatKind.f32.format.signWeight % 2 == 1) = s := by
    unfold Ieee.Format.word
    rw [e1]
    cases s
    · simp; omega
    · simp; omega
  have hu : (unitOf .f32 : Int) = 149 := rfl
  unfold val Ieee.Format.read
  rw [hrung, hneg, e2, e3, e4]
  dsimp only
  unfold rv
  by_cases h1 : r < 8388608
  · rw [if_pos h1, if_pos h1]
    simp only [signed_eq]
    rw [hu]
    cases s <;> simp
  · rw [if_neg h1, if_neg h1, if_pos h]
    simp only [signed_eq]
    rw [hu, show (-149 + ((r / 8388608 - 1 : Nat) : Int) + 149).toNat = r / 8388608 - 1 by omega]
    cases s
    · simp
    · simp [Int.neg_mul]
theorem rv_le {r c : Nat} (hc : 1 ≤ c) (h : r ≤ c * 8388608) : rv r ≤ 2 ^ (22 + c) := by
  unfold rv
  have hB : (8388608 : Nat) = 2 ^ 23 := by decide
  split
  · calc r ≤ 2 ^ 23 := by omega
      _ ≤ 2 ^ (22 + c) := Nat.pow_le_pow_right (by omega) (by omega)
  · rename_i h1
    have hq : r / 8388608 ≤ c := Nat.div_le_of_le_mul (by omega)
    rcases Nat.lt_or_ge (r / 8388608) c with h2 | h2
    · calc (8388608 + r % 8388608) * 2 ^ (r / 8388608 - 1) ≤ 2 ^ 24 * 2 ^ (r / 8388608 - 1) := Nat.mul_le_mul_right _ (by have := Nat.mod_lt r (show 0 < 8388608 by decide); omega)
        _ = 2 ^ (24 + (r / 8388608 - 1)) := by rw [← Nat.pow_add]
        _ ≤ 2 ^ (22 + c) := Nat.pow_le_pow_right (by omega) (by omega)
    · have h3 : r % 8388608 = 0 := by omega
      rw [h3, Nat.add_zero, hB, ← Nat.pow_add, ← hB]
      exact Nat.pow_le_pow_right (by omega) (by omega)
theorem rv_ge {r c : Nat} (hc : 1 ≤ c) (h : c * 8388608 ≤ r) : 2 ^ (22 + c) ≤ rv r := by
  unfold rv
  have hB : (8388608 : Nat) = 2 ^ 23 := by decide
  have hq : c ≤ r / 8388608 := (Nat.le_div_iff_mul_le (by decide)).2 h
  rw [if_neg (by omega)]
  calc 2 ^ (22 + c) ≤ 2 ^ (23 + (r / 8388608 - 1)) := Nat.pow_le_pow_right (by omega) (by omega)
    _ = 8388608 * 2 ^ (r / 8388608 - 1) := by rw [Nat.pow_add, ← hB]
    _ ≤ _ := Nat.mul_le_mul_right _ (by omega)
theorem cut_ge (s : Bool) (n d : Nat) : n / 2 ^ d ≤ Ieee.Toward.even.cut s n d := by
  have h : n / 2 ^ d ≤ n / 1 <<< min d (n.log2 + 2) := by
    rw [Nat.one_shiftLeft]
    exact Nat.div_le_div_left (Nat.pow_le_pow_right (by omega) (Nat.min_le_left _ _)) (Nat.two_pow_pos _)
  show n / 2 ^ d ≤ n / 1 <<< min d (n.log2 + 2) + _
  exact Nat.le_trans h (Nat.le_add_right _ _)
/-- What is nearest to a number below '2 ^ A' is at most this. -/
theorem near_le (s : Bool) {m : Nat} {e A : Int} (hm : m ≠ 0) (hA : e + m.log2 + 1 ≤ A) (h1 : -125 ≤ A) (h2 : A ≤ 126) : ∃ v : Nat, val .f32 (FloatKind.f32.format.nearest s m e) = (if s then -(v : Int) else (v : Int)) ∧ v ≤ 2 ^ (A + 149).toNat := by
  obtain ⟨e1, e2, e3, e4, e5⟩ := f32_nums
  obtain ⟨r, hr, h3, h4⟩ := nearest_rung FloatKind.f32.format s m e A hm hA (by rw [e4, e5]; omega)
  rw [e2, e4, e5] at h4
  have h5 : r ≤ (A + 127).toNat * 8388608 := by
    have e : (A - ((23 : Nat) : Int) - -149 + 1) = A + 127 := by omega
    rw [e] at h4
    omega
  have h7 : r < 2139095040 := by
    have : (A + 127).toNat ≤ 253 := by omega
    omega
  refine ⟨rv r, by rw [hr, val_word s h7], ?_⟩
  have := rv_le (r := r) (c := (A + 127).toNat) (by omega) h5
  rwa [show 22 + (A + 127).toNat = (A + 149).toNat by omega] at this
theorem aux_min {c l k B M : Nat} (h1 : c ≤ l + 1) (h2 : B ≤ k) (h3 : c ≤ 253) (h4 : 253 * B ≤ M) : c * B ≤ min (l * B + k) M := by
  refine Nat.le_min.2 ⟨?_, Nat.le_trans (Nat.mul_le_mul_right _ h3) h4⟩
  calc c * B ≤ (l + 1) * B := Nat.mul_le_mul_right _ h1
    _ = l * B + B := Nat.succ_mul _ _
    _ ≤ _ := Nat.add_le_add_left h2 _
/-- What is nearest to a number of at least '2 ^ C' is at least this. -/
theorem near_ge (s : Bool) {m : Nat} {e A C : Int} (hm : m ≠ 0) (hA : e + m.log2 + 1 ≤ A) (h1 : -125 ≤ C) (h2 : A ≤ 126) (hC : C ≤ e + m.log2) : ∃ v : Nat, val .f32 (FloatKind.f32.format.nearest s m e) = (if s then -(v : Int) else (v : Int)) ∧ v ≤ 2 ^ (A + 149).toNat ∧ 2 ^ (C + 149).toNat ≤ v := by
  obtain ⟨e1, e2, e3, e4, e5⟩ := f32_nums
  obtain ⟨v, hv, hle⟩ := near_le s hm hA (by omega) h2
  refine ⟨v, hv, hle, ?_⟩
  obtain ⟨r, hr, h3, h4⟩ := nearest_rung FloatKind.f32.format s m e A hm hA (by rw [e4, e5]; omega)
  have hr' := hr
  unfold Ieee.Format.nearest at hr
  rw [if_neg hm, e2, e3, e4, e5] at hr
  simp only [] at hr
  generalize hlast : max (e + (m.log2 : Int) - ((23 : Nat) : Int)) (-149) = last at hr
  have hl2 : last = e + m.log2 - 23 := by omega
  generalize hk : Ieee.Toward.even.cut s (m <<< (e - last).toNat) (last - e).toNat = kept at hr
  have hkept : 8388608 ≤ kept := by
    rw [← hk]
    refine Nat.le_trans ?_ (cut_ge _ _ _)
    rw [Nat.shiftLeft_eq]
    have hm2 := Nat.log2_self_le hm
    rw [Nat.le_div_iff_mul_le (Nat.two_pow_pos _)]
    have hB : (8388608 : Nat) = 2 ^ 23 := by decide
    calc 8388608 * 2 ^ (last - e).toNat = 2 ^ (23 + (last - e).toNat) := by rw [Nat.pow_add, ← hB]
      _ ≤ 2 ^ (m.log2 + (e - last).toNat) := Nat.pow_le_pow_right (by omega) (by omega)
      _ = 2 ^ m.log2 * 2 ^ (e - last).toNat := by rw [Nat.pow_add]
      _ ≤ m * 2 ^ (e - last).toNat := Nat.mul_le_mul_right _ hm2
  have hge : (C + 127).toNat * 8388608 ≤ min ((last - -149).toNat * 8388608 + kept) 2139095040 := by
    have h5 : (C + 127).toNat ≤ (last - -149).toNat + 1 := by omega
    have h7 : (C + 127).toNat ≤ 253 := by omega
    exact aux_min h5 hkept h7 (by decide)
  generalize min ((last - -149).toNat * 8388608 + kept) 2139095040 = q at hr hge
  have hq : r = q := by
    unfold Ieee.Format.word at hr
    split at hr <;> omega
  subst hq
  rw [hr', ] at hv
  have h7 : r < 2139095040 := by
    rw [e2, e4, e5] at h4
    have e : (A - ((23 : Nat) : Int) - -149 + 1) = A + 127 := by omega
    rw [e] at h4
    omega
  rw [val_word s h7] at hv
  have hvr : v = rv r := by cases s <;> simp at hv <;> omega
  rw [hvr]
  have := rv_ge (r := r) (c := (C + 127).toNat) (by omega) hge
  rwa [show 22 + (C + 127).toNat = (C + 149).toNat by omega] at this
end Go.Fk

/- Places and periods as numbers. Nothing here names a program. -/
namespace Go.Fk
open Go Go.RowKit
theorem within_val {x a b : Nat} (ha : isNan .f32 a = false) (hb : isNan .f32 b = false) (h : withinB x a b = true) : isNan .f32 x = false ∧ val .f32 a ≤ val .f32 x ∧ val .f32 x ≤ val .f32 b := by
  cases hd : isNan .f32 x
  · have h0 := order_val hd ha
    have h1 := order_val hd hb
    unfold withinB at h
    rw [h0, h1] at h
    generalize val .f32 x = v at *
    generalize val .f32 a = U at *
    generalize val .f32 b = T at *
    refine ⟨rfl, ?_, ?_⟩
    · rcases Int.lt_trichotomy v U with c | c | c
      · rw [Int.compare_eq_lt.2 c] at h; simp at h
      · omega
      · omega
    · rcases Int.lt_trichotomy v T with c | c | c
      · omega
      · omega
      · rw [Int.compare_eq_gt.2 c] at h; simp at h
  · unfold withinB at h
    rw [order_of_nan_l hd] at h
    simp at h
theorem val_3 : val .f32 1077936128 = 3 * 2 ^ 149 ∧ isNan .f32 1077936128 = false := by decide +kernel
theorem val_1024 : val .f32 1149239296 = 2 ^ 159 ∧ isNan .f32 1149239296 = false := by decide +kernel
theorem val_half : val .f32 1056964608 = 2 ^ 148 ∧ isNan .f32 1056964608 = false := by decide +kernel
theorem one_pow : one32 = 2 ^ 149 := rfl
theorem far_159 : (2 : Int) ^ 160 < (far : Int) := by decide +kernel
theorem pow2_of {m a b : Nat} (h : m * 2 ^ a = 2 ^ (m.log2 + a)) : m = 2 ^ m.log2 := by
  rw [Nat.pow_add] at h
  exact Nat.eq_of_mul_eq_mul_right (Nat.two_pow_pos a) h
/-- What is nearest to a number from 2 to 1024. -/
theorem near_in {m : Nat} {e : Int} (he : -149 ≤ e) (h1 : 2 ^ 150 ≤ m * 2 ^ (e + 149).toNat) (h2 : m * 2 ^ (e + 149).toNat ≤ 2 ^ 159) :
    2 ^ 150 ≤ val .f32 (FloatKind.f32.format.nearest false m e) ∧ val .f32 (FloatKind.f32.format.nearest false m e) ≤ 2 ^ 159 := by
  have hm : m ≠ 0 := by
    rintro rfl
    rw [Nat.zero_mul] at h1
    exact absurd h1 (by decide)
  have hlo : 150 ≤ m.log2 + (e + 149).toNat := by
    have a := @Nat.lt_log2_self m
    have b : 2 ^ 150 < 2 ^ (m.log2 + 1 + (e + 149).toNat) := by
      rw [Nat.pow_add]
      exact Nat.lt_of_le_of_lt h1 (Nat.mul_lt_mul_of_pos_right a (Nat.two_pow_pos _))
    have := (Nat.pow_lt_pow_iff_right (a := 2) (by omega)).1 b
    omega
  have hhi : m.log2 + (e + 149).toNat ≤ 159 := by
    have a := Nat.log2_self_le hm
    have b : 2 ^ (m.log2 + (e + 149).toNat) ≤ 2 ^ 159 := by
      rw [Nat.pow_add]
      exact Nat.le_trans (Nat.mul_le_mul_right _ a) h2
    exact (Nat.pow_le_pow_iff_right (a := 2) (by omega)).1 b
  rcases Nat.lt_or_ge (m.log2 + (e + 149).toNat) 159 with h3 | h3
  · obtain ⟨v, hv, h4, h5⟩ := near_ge (e := e) (A := 10) (C := 1) false hm (by omega) (by omega) (by omega) (by omega)
    rw [hv]
    simp only [Bool.false_eq_true, if_false]
    have h4' : v ≤ 2 ^ 159 := h4
    have h5' : 2 ^ 150 ≤ v := h5
    exact ⟨by exact_mod_cast h5', by exact_mod_cast h4'⟩
  · have h4 : m.log2 + (e + 149).toNat = 159 := by omega
    have h5 : m * 2 ^ (e + 149).toNat = 2 ^ (m.log2 + (e + 149).toNat) := by
      refine Nat.le_antisymm (by rw [h4]; exact h2) ?_
      rw [Nat.pow_add]
      exact Nat.mul_le_mul_right _ (Nat.log2_self_le hm)
    have h6 := pow2_of (b := 0) h5
    have h7 : FloatKind.f32.format.nearest false m e = FloatKind.f32.format.nearest false 1 10 := by
      have := nearest_scale FloatKind.f32.format false 1 m.log2 10
      rw [Nat.one_mul, ← h6] at this
      rw [← this]
      congr 1
      omega
    rw [h7]
    decide +kernel
/-- The delay of a string's ring and filters, and its whole part. -/
theorem period_int {p x d : Nat} (hp : withinB p 1077936128 1149239296 = true) (hx : withinB x 0 1056964608 = true) (hd : can .f32 d = fop .sub .f32 p x) :
    d = fop .sub .f32 p x ∧ isNan .f32 d = false ∧ floatToIntVal .f32 d .i64 = some (wholeW d : Int) ∧ 2 ≤ wholeW d ∧ wholeW d ≤ 1024 := by
  obtain ⟨n1, a1, a2⟩ := within_val val_3.2 val_1024.2 hp
  obtain ⟨n2, b1, b2⟩ := within_val val_zero.2 val_half.2 hx
  rw [val_3.1, val_1024.1] at *
  rw [val_zero.1, val_half.1] at *
  have hf := far_159
  have hpw : (2 : Int) ^ 159 < 2 ^ 160 := by decide
  have hpw2 : (2 : Int) ^ 148 < 2 ^ 160 := by decide
  have hz : (0 : Int) < 2 ^ 149 := by decide
  obtain ⟨s, m, i, hrx⟩ := finite_num n1 (by omega) (by omega)
  obtain ⟨t, n, j, hry⟩ := finite_num n2 (by omega) (by omega)
  have pi : -149 ≤ i := read_place hrx
  have pj : -149 ≤ j := read_place hry
  have vx : val .f32 p = Ieee.signed s m (i + 149).toNat := by simp only [val, hrx]; rfl
  have vy : val .f32 x = Ieee.signed t n (j + 149).toNat := by simp only [val, hry]; rfl
  have hneg : Ieee.signed (!t) n (j - min i j).toNat = -Ieee.signed t n (j - min i j).toNat := by
    unfold Ieee.signed; cases t <;> simp
  have e1 : val .f32 p - val .f32 x = (Ieee.signed s m (i - min i j).toNat + Ieee.signed (!t) n (j - min i j).toNat) * 2 ^ (min i j + 149).toNat := by
    rw [hneg, vx, vy, signed_eq, signed_eq, signed_eq, signed_eq, Int.add_mul, Int.neg_mul, Int.mul_assoc, Int.mul_assoc, ← Int.pow_add, ← Int.pow_add]
    rw [show (i - min i j).toNat + (min i j + 149).toNat = (i + 149).toNat by omega, show (j - min i j).toNat + (min i j + 149).toNat = (j + 149).toNat by omega]
    omega
  generalize hT : Ieee.signed s m (i - min i j).toNat + Ieee.signed (!t) n (j - min i j).toNat = T at e1
  have hD1 : (2 : Int) ^ 150 ≤ val .f32 p - val .f32 x := by
    have e2 : (2 : Int) ^ 150 = 2 * 2 ^ 149 := by decide
    have e3 : (2 : Int) ^ 149 = 2 * 2 ^ 148 := by decide
    omega
  have hD2 : val .f32 p - val .f32 x ≤ 2 ^ 159 := by omega
  rw [e1] at hD1 hD2
  have hpos : (0 : Int) < 2 ^ (min i j + 149).toNat := Int.pow_pos (by omega)
  have hTp : 0 < T := by
    rcases Int.lt_trichotomy T 0 with c | c | c
    · have : T * 2 ^ (min i j + 149).toNat < 0 := Int.mul_neg_of_neg_of_pos c hpos
      have h0 : (0 : Int) < 2 ^ 150 := by decide
      omega
    · subst c
      rw [Int.zero_mul] at hD1
      exact absurd hD1 (by decide)
    · exact c
  obtain ⟨M, rfl⟩ : ∃ M : Nat, T = M := ⟨T.toNat, by omega⟩
  have hb : floatBits .sub .f32 p x = some (FloatKind.f32.format.nearest false M (min i j)) := by
    have h0 : floatBits .sub .f32 p x = some (FloatKind.f32.format.nearest (if Ieee.signed s m (i - min i j).toNat + Ieee.signed (!t) n (j - min i j).toNat = 0 then s && !t else decide (Ieee.signed s m (i - min i j).toNat + Ieee.signed (!t) n (j - min i j).toNat < 0)) (Ieee.signed s m (i - min i j).toNat + Ieee.signed (!t) n (j - min i j).toNat).natAbs (min i j)) := by
      simp only [floatBits, Ieee.Format.sub, hrx, hry, Ieee.Datum.opposite, Ieee.Datum.sum, Option.map_some]; rfl
    rw [h0, hT, if_neg (by omega), decide_eq_false (by omega), Int.natAbs_natCast]
  have hfp : fop .sub .f32 p x = FloatKind.f32.format.nearest false M (min i j) := by
    unfold fop; rw [hb]; exact can_of_not (isNan_nearest _ _ _ _)
  have hn : isNan .f32 (fop .sub .f32 p x) = false := by rw [hfp]; exact isNan_nearest _ _ _ _
  have hdn : isNan .f32 d = false := by
    have := isNan_of_can (hd.trans (can_fop _ _ _ _).symm : can .f32 d = can .f32 (fop .sub .f32 p x))
    rw [this, hn]
  have hde : d = fop .sub .f32 p x := by rw [← can_of_not hdn, hd]
  obtain ⟨k1, k2⟩ := near_in (m := M) (e := min i j) (by omega) (by exact_mod_cast hD1) (by exact_mod_cast hD2)
  rw [← hfp, ← hde] at k1 k2
  have hU := one32_pos
  have q3 : 2 * one32 ≤ val .f32 d := by
    have e2 : (2 : Int) * 2 ^ 149 = 2 ^ 150 := by decide
    rw [one_pow, e2]; exact k1
  have q4 : val .f32 d ≤ 1024 * one32 := by
    have e2 : (1024 : Int) * 2 ^ 149 = 2 ^ 159 := by decide
    rw [one_pow, e2]; exact k2
  have q1 := Int.tdiv_le_tdiv hU q3
  have q2 := Int.tdiv_le_tdiv hU q4
  rw [Int.mul_tdiv_cancel _ (by omega)] at q1 q2
  refine ⟨hde, hdn, ?_, ?_, ?_⟩
  · rw [floatToInt_val32 hdn (by omega) (by omega)]
    unfold wholeW
    rw [Int.toNat_of_nonneg (by omega)]
  · unfold wholeW; omega
  · unfold wholeW; omega
end Go.Fk

/- The numbers of a new string's filters are numbers. Nothing here names a program. -/
namespace Go.Fk
open Go Go.RowKit
theorem val_2 : val .f32 1073741824 = 2 ^ 150 ∧ isNan .f32 1073741824 = false := by decide +kernel
theorem read_1 : FloatKind.f32.format.read 1065353216 = .number false 8388608 (-23) := by decide
theorem num_of {x : Nat} (hn : isNan .f32 x = false) (h0 : 0 ≤ val .f32 x) (h1 : val .f32 x ≤ 2 ^ 150) : ∃ s m e, FloatKind.f32.format.read x = .number s m e ∧ -149 ≤ e ∧ val .f32 x = Ieee.signed s m (e + 149).toNat ∧ lt .f32 x 2 := by
  have hf := far_159
  have hp : (2 : Int) ^ 150 < 2 ^ 160 := by decide
  obtain ⟨s, m, e, hr⟩ := finite_num hn (by omega) (by omega)
  have hv : val .f32 x = Ieee.signed s m (e + 149).toNat := by simp only [val, hr]; rfl
  have pe : -149 ≤ e := read_place hr
  refine ⟨s, m, e, hr, pe, hv, s, m, e, hr, fun m0 => ?_⟩
  rw [hv, signed_eq] at h0 h1
  have hs : s = false := by
    cases s
    · rfl
    · simp only [if_true, Int.neg_mul] at h0
      have : 0 < (m : Int) * 2 ^ (e + 149).toNat := Int.mul_pos (by omega) (Int.pow_pos (by omega))
      omega
  subst hs
  simp only [Bool.false_eq_true, if_false] at h1
  have h2 : m * 2 ^ (e + 149).toNat ≤ 2 ^ 150 := by exact_mod_cast h1
  have b : 2 ^ (m.log2 + (e + 149).toNat) ≤ 2 ^ 150 := by
    rw [Nat.pow_add]
    exact Nat.le_trans (Nat.mul_le_mul_right _ (Nat.log2_self_le m0)) h2
  have := (Nat.pow_le_pow_iff_right (a := 2) (by omega)).1 b
  omega
theorem lt_one : lt .f32 1065353216 1 := ⟨false, 8388608, -23, read_1, fun _ => by decide⟩
theorem fop_of {op : BinOp} {x y r : Nat} {A : Int} (h : floatBits op .f32 x y = some r) (hl : lt .f32 r A) : fop op .f32 x y = r := by
  unfold fop; rw [h]; exact can_of_not hl.notNan
theorem ge_of {x : Nat} {v : Nat} {s : Bool} {m : Nat} {e : Int} (hr : FloatKind.f32.format.read x = .number s m e) (hv : val .f32 x = (v : Int)) (h : 2 ^ 149 ≤ v) : ge .f32 x 0 := by
  have pe : -149 ≤ e := read_place hr
  have hw : val .f32 x = Ieee.signed s m (e + 149).toNat := by simp only [val, hr]; rfl
  rw [hv, signed_eq] at hw
  have hs : s = false := by
    cases s
    · rfl
    · simp only [if_true, Int.neg_mul] at hw
      have h1 : 0 ≤ (m : Int) * 2 ^ (e + 149).toNat := Int.mul_nonneg (by omega) (Int.le_of_lt (Int.pow_pos (by omega)))
      have h2 : 0 < (v : Int) := by have := Nat.lt_of_lt_of_le (Nat.two_pow_pos 149) h; omega
      omega
  subst hs
  simp only [Bool.false_eq_true, if_false] at hw
  have hw' : v = m * 2 ^ (e + 149).toNat := by exact_mod_cast hw
  have m0 : m ≠ 0 := by
    rintro rfl
    rw [Nat.zero_mul] at hw'
    have := Nat.lt_of_lt_of_le (Nat.two_pow_pos 149) h
    omega
  refine ⟨false, m, e, hr, m0, ?_⟩
  have a := @Nat.lt_log2_self m
  have b : 2 ^ 149 < 2 ^ (m.log2 + 1 + (e + 149).toNat) := by
    rw [Nat.pow_add]
    refine Nat.lt_of_le_of_lt (hw' ▸ h) (Nat.mul_lt_mul_of_pos_right a (Nat.two_pow_pos _))
  have := (Nat.pow_lt_pow_iff_right (a := 2) (by omega)).1 b
  omega
theorem one_plus {f : Nat} (hn : isNan .f32 f = false) (h0 : 0 ≤ val .f32 f) (h1 : val .f32 f ≤ 2 ^ 150) : ge .f32 (fop .add .f32 1065353216 f) 0 := by
  obtain ⟨t, n, j, hr, pj, hv, hl⟩ := num_of hn h0 h1
  obtain ⟨r, hb, hlr⟩ := lt_add lt_one hl (fine32 (by decide) (by decide))
  have hfp := fop_of hb hlr
  obtain ⟨s', m', e', hr', _⟩ := hlr
  rw [hfp]
  generalize hT : Ieee.signed false 8388608 (-23 - min (-23) j).toNat + Ieee.signed t n (j - min (-23) j).toNat = T
  have e1 : 2 ^ 149 + val .f32 f = T * 2 ^ (min (-23) j + 149).toNat := by
    rw [← hT, hv, signed_eq, signed_eq, signed_eq, Int.add_mul, Int.mul_assoc, Int.mul_assoc, ← Int.pow_add, ← Int.pow_add]
    rw [show (-23 - min (-23) j).toNat + (min (-23) j + 149).toNat = 126 by omega, show (j - min (-23) j).toNat + (min (-23) j + 149).toNat = (j + 149).toNat by omega]
    simp only [Bool.false_eq_true, if_false]
    have : (2 : Int) ^ 149 = (8388608 : Nat) * 2 ^ 126 := by decide
    omega
  have hb2 : floatBits .add .f32 1065353216 f = some (FloatKind.f32.format.nearest (if T = 0 then false && t else decide (T < 0)) T.natAbs (min (-23) j)) := by
    rw [← hT]
    simp only [floatBits, Ieee.Format.add, read_1, hr, Ieee.Datum.sum, Option.map_some]; rfl
  have hpos : (0 : Int) < 2 ^ (min (-23) j + 149).toNat := Int.pow_pos (by omega)
  have hge : (2 : Int) ^ 149 ≤ T * 2 ^ (min (-23) j + 149).toNat := by omega
  have hle : T * 2 ^ (min (-23) j + 149).toNat ≤ (2 : Int) ^ 151 := by
    have : (2 : Int) ^ 151 = 2 ^ 150 + 2 ^ 149 + 2 ^ 149 := by decide
    have : (0 : Int) < 2 ^ 149 := by decide
    omega
  have hTp : 0 < T := by
    rcases Int.lt_trichotomy T 0 with c | c | c
    · have : T * 2 ^ (min (-23) j + 149).toNat < 0 := Int.mul_neg_of_neg_of_pos c hpos
      have h0 : (0 : Int) < 2 ^ 149 := by decide
      omega
    · subst c
      rw [Int.zero_mul] at hge
      exact absurd hge (by decide)
    · exact c
  obtain ⟨M, rfl⟩ : ∃ M : Nat, T = M := ⟨T.toNat, by omega⟩
  rw [if_neg (by omega), decide_eq_false (by omega), Int.natAbs_natCast, hb] at hb2
  have hrr : r = FloatKind.f32.format.nearest false M (min (-23) j) := by simpa using hb2
  have hm : M ≠ 0 := by omega
  have hgeN : 2 ^ 149 ≤ M * 2 ^ (min (-23) j + 149).toNat := by exact_mod_cast hge
  have hleN : M * 2 ^ (min (-23) j + 149).toNat ≤ 2 ^ 151 := by exact_mod_cast hle
  have hlo : 149 ≤ M.log2 + (min (-23) j + 149).toNat := by
    have a := @Nat.lt_log2_self M
    have b : 2 ^ 149 < 2 ^ (M.log2 + 1 + (min (-23) j + 149).toNat) := by
      rw [Nat.pow_add]
      exact Nat.lt_of_le_of_lt hgeN (Nat.mul_lt_mul_of_pos_right a (Nat.two_pow_pos _))
    have := (Nat.pow_lt_pow_iff_right (a := 2) (by omega)).1 b
    omega
  have hhi : M.log2 + (min (-23) j + 149).toNat ≤ 151 := by
    have b : 2 ^ (M.log2 + (min (-23) j + 149).toNat) ≤ 2 ^ 151 := by
      rw [Nat.pow_add]
      exact Nat.le_trans (Nat.mul_le_mul_right _ (Nat.log2_self_le hm)) hleN
    exact (Nat.pow_le_pow_iff_right (a := 2) (by omega)).1 b
  obtain ⟨v, hv2, _, h5⟩ := near_ge (e := min (-23) j) (A := 3) (C := 0) false hm (by omega) (by omega) (by omega) (by omega)
  rw [← hrr] at hv2
  simp only [Bool.false_eq_true, if_false] at hv2
  have h5' : 2 ^ 149 ≤ v := h5
  exact ge_of hr' hv2 h5'
/-- The number of an allpass filter is a number. -/
theorem quoA_num {f : Nat} (h : to2 f = true) : isNan .f32 (quoA f) = false := by
  obtain ⟨hn, h0, h1⟩ := within_val val_zero.2 val_2.2 (show withinB f 0 1073741824 = true from h)
  rw [val_zero.1] at h0
  rw [val_2.1] at h1
  obtain ⟨t, n, j, hr, pj, hv, hl⟩ := num_of hn h0 h1
  obtain ⟨r, hb, hlr⟩ := lt_sub lt_one hl (fine32 (by decide) (by decide))
  have hfp := fop_of hb hlr
  have hg := one_plus hn h0 h1
  obtain ⟨r2, hb2, hl2⟩ := lt_quo hlr hg (fine32 (by decide) (by decide))
  unfold quoA
  rw [hfp, fop_of hb2 hl2]
  exact hl2.notNan
/-- One less a mix is a number. -/
theorem mix_num {x : Nat} (h : withinB x 0 1056964608 = true) : isNan .f32 x = false ∧ isNan .f32 (fop .sub .f32 1065353216 x) = false := by
  obtain ⟨hn, h0, h1⟩ := within_val val_zero.2 val_half.2 h
  rw [val_zero.1] at h0
  rw [val_half.1] at h1
  have hp : (2 : Int) ^ 148 < 2 ^ 150 := by decide
  obtain ⟨t, n, j, hr, pj, hv, hl⟩ := num_of hn h0 (by omega)
  obtain ⟨r, hb, hlr⟩ := lt_sub lt_one hl (fine32 (by decide) (by decide))
  exact ⟨hn, by rw [fop_of hb hlr]; exact hlr.notNan⟩
end Go.Fk
namespace Go.Fk
open Go Go.RowKit
theorem of_can' {a A : Nat} (h : can .f32 a = A) (hn : isNan .f32 A = false) : a = A := by
  have hc : can .f32 a = can .f32 A := by rw [h, can_of_not hn]
  have : isNan .f32 a = false := by rw [isNan_of_can hc, hn]
  rw [← can_of_not this, h]
theorem lt_val {x A : Nat} (hn : isNan .f32 x = false) (h0 : 0 ≤ val .f32 x) (h1 : val .f32 x ≤ 2 ^ A) (hA : A ≤ 160) : ∃ s m e, FloatKind.f32.format.read x = .number s m e ∧ (m ≠ 0 → s = false ∧ e + m.log2 + 149 ≤ A) := by
  have hf := far_159
  have hp : (2 : Int) ^ A ≤ 2 ^ 160 := by exact_mod_cast Nat.pow_le_pow_right (n := 2) (by omega) hA
  obtain ⟨s, m, e, hr⟩ := finite_num hn (by omega) (by omega)
  have hv : val .f32 x = Ieee.signed s m (e + 149).toNat := by simp only [val, hr]; rfl
  have pe : -149 ≤ e := read_place hr
  refine ⟨s, m, e, hr, fun m0 => ?_⟩
  rw [hv, signed_eq] at h0 h1
  have hs : s = false := by
    cases s
    · rfl
    · simp only [if_true, Int.neg_mul] at h0
      have : 0 < (m : Int) * 2 ^ (e + 149).toNat := Int.mul_pos (by omega) (Int.pow_pos (by omega))
      omega
  subst hs
  simp only [Bool.false_eq_true, if_false] at h1
  have h2 : m * 2 ^ (e + 149).toNat ≤ 2 ^ A := by exact_mod_cast h1
  have b : 2 ^ (m.log2 + (e + 149).toNat) ≤ 2 ^ A := by
    rw [Nat.pow_add]
    exact Nat.le_trans (Nat.mul_le_mul_right _ (Nat.log2_self_le m0)) h2
  have := (Nat.pow_le_pow_iff_right (a := 2) (by omega)).1 b
  exact ⟨rfl, by omega⟩
/-- A place times a whole number. -/
theorem mult_int {pl n d : Nat} (hn : isNan .f32 pl = false) (h0 : 0 ≤ val .f32 pl) (h1 : val .f32 pl ≤ 2 ^ 149) (hk : n ≤ 1024) (hd : can .f32 d = fop .mul .f32 pl (floatOfInt .f32 (n : Int))) :
    d = fop .mul .f32 pl (floatOfInt .f32 (n : Int)) ∧ floatToIntVal .f32 d .i64 = some (wholeW d : Int) ∧ wholeW d ≤ 4096 := by
  have hU := one32_pos
  obtain ⟨s, m, i, hr, hm⟩ := lt_val hn h0 h1 (by omega)
  have hv : val .f32 (floatOfInt .f32 (n : Int)) = (n : Int) * one32 := val_int (by omega)
  have hv2 : val .f32 (floatOfInt .f32 (n : Int)) ≤ 2 ^ 159 := by
    rw [hv]
    have e2 : (1024 : Int) * one32 = 2 ^ 159 := by decide
    rw [← e2]
    exact Int.mul_le_mul_of_nonneg_right (by omega) (by omega)
  obtain ⟨t, q, j, hr2, hq⟩ := lt_val (isNan_int (n : Int)) (by rw [hv]; exact Int.mul_nonneg (by omega) (by omega)) hv2 (by omega)
  have hb : floatBits .mul .f32 pl (floatOfInt .f32 (n : Int)) = some (FloatKind.f32.format.nearest (s ^^ t) (m * q) (i + j)) := by
    simp only [floatBits, Ieee.Format.mul, hr, hr2, Ieee.Datum.product, Option.map_some]; rfl
  have hfp : fop .mul .f32 pl (floatOfInt .f32 (n : Int)) = FloatKind.f32.format.nearest (s ^^ t) (m * q) (i + j) := by
    unfold fop; rw [hb]; exact can_of_not (isNan_nearest _ _ _ _)
  have hnn : isNan .f32 (fop .mul .f32 pl (floatOfInt .f32 (n : Int))) = false := by rw [hfp]; exact isNan_nearest _ _ _ _
  have hde := of_can' hd hnn
  have key : 0 ≤ val .f32 d ∧ val .f32 d ≤ 4096 * one32 := by
    rw [hde, hfp]
    by_cases h : m * q = 0
    · rw [h, show FloatKind.f32.format.nearest (s ^^ t) 0 (i + j) = FloatKind.f32.format.word (s ^^ t) 0 by simp [Ieee.Format.nearest], val_word _ (by decide), show rv 0 = 0 by decide]
      have : 0 ≤ 4096 * one32 := Int.mul_nonneg (by omega) (by omega)
      cases (s ^^ t)
      · exact ⟨by simp, by simpa using this⟩
      · exact ⟨by simp, by simpa using this⟩
    · have m0 : m ≠ 0 := fun e => h (by rw [e, Nat.zero_mul])
      have q0 : q ≠ 0 := fun e => h (by rw [e, Nat.mul_zero])
      obtain ⟨rfl, a1⟩ := hm m0
      obtain ⟨rfl, a2⟩ := hq q0
      have hl := log2_mul_le m0 q0
      obtain ⟨v, hv3, hle⟩ := near_le (e := i + j) (A := 12) (false ^^ false) h (by omega) (by omega) (by omega)
      rw [hv3]
      have e2 : (4096 : Int) * one32 = 2 ^ 161 := by decide
      have hle' : v ≤ 2 ^ 161 := hle
      rw [e2]
      exact ⟨by simp, by simp only [Bool.xor_false, Bool.false_eq_true, if_false]; exact_mod_cast hle'⟩
  have q2 := Int.tdiv_le_tdiv hU key.2
  rw [Int.mul_tdiv_cancel _ (by omega)] at q2
  have q1 : 0 ≤ (val .f32 d).tdiv one32 := Int.tdiv_nonneg key.1 (by omega)
  have hdn : isNan .f32 d = false := by rw [hde]; exact hnn
  refine ⟨hde, ?_, by unfold wholeW; omega⟩
  rw [floatToInt_val32 hdn (by omega) (by omega)]
  unfold wholeW
  rw [Int.toNat_of_nonneg q1]
end Go.Fk

/- Tunings: data, 'ValidTuning', 'SameTuning' of both. -/
namespace Go.Fk
open Go Go.RowKit
def gtB (a b : Nat) : Bool := FloatKind.f32.format.order a b == some .gt
def ltB (a b : Nat) : Bool := FloatKind.f32.format.order a b == some .lt
theorem gtB_congr {a a' b b' : Nat} (h : can .f32 a = can .f32 a') (k : can .f32 b = can .f32 b') : gtB a b = gtB a' b' := by unfold gtB; rw [order_congr h k]
theorem ltB_congr {a a' b b' : Nat} (h : can .f32 a = can .f32 a') (k : can .f32 b = can .f32 b') : ltB a b = ltB a' b' := by unfold ltB; rw [order_congr h k]
theorem gtB_val {a b : Nat} : gtB a b = true ↔ isNan .f32 a = false ∧ isNan .f32 b = false ∧ val .f32 b < val .f32 a := by
  unfold gtB
  cases ha : isNan .f32 a
  · cases hb : isNan .f32 b
    · rw [order_val ha hb]
      rcases Int.lt_trichotomy (val .f32 a) (val .f32 b) with c | c | c
      · rw [Int.compare_eq_lt.2 c]; simp; omega
      · rw [Int.compare_eq_eq.2 c]; simp; omega
      · rw [Int.compare_eq_gt.2 c]; simp; omega
    · rw [order_of_nan_r hb]; simp
  · rw [order_of_nan_l ha]; simp
theorem ltB_val {a b : Nat} : ltB a b = true ↔ isNan .f32 a = false ∧ isNan .f32 b = false ∧ val .f32 a < val .f32 b := by
  unfold ltB
  cases ha : isNan .f32 a
  · cases hb : isNan .f32 b
    · rw [order_val ha hb]
      rcases Int.lt_trichotomy (val .f32 a) (val .f32 b) with c | c | c
      · rw [Int.compare_eq_lt.2 c]; simp; omega
      · rw [Int.compare_eq_eq.2 c]; simp; omega
      · rw [Int.compare_eq_gt.2 c]; simp; omega
    · rw [order_of_nan_r hb]; simp
  · rw [order_of_nan_l ha]; simp
/-- Degrees that ascend, the last one below the octave. -/
def degB (x : Nat → Nat) (n o : Nat) : Bool := decide (1 ≤ n) && (decide (n ≤ 31) && (sameB (x 0) 0 && (allB (fun i => gtB (x (i + 1)) (x i)) (n - 1) && ltB (x (n - 1)) o)))
/-- The same, as the model asks for it: each degree above the one before it, and below the octave. -/
def stepD (x : Nat → Nat) (o i : Nat) : Bool := (i == 0 || gtB (x i) (x (i - 1))) && ltB (x i) o
theorem deg_eq {x : Nat → Nat} {n o : Nat} (h : 1 ≤ n) : allB (stepD x o) n = (allB (fun i => gtB (x (i + 1)) (x i)) (n - 1) && ltB (x (n - 1)) o) := by
  cases hm : allB (stepD x o) n
  · symm
    rw [Bool.eq_false_iff]
    intro hh
    rw [Bool.and_eq_true] at hh
    obtain ⟨h1, h2⟩ := hh
    obtain ⟨i, hi, hf⟩ := allB_ex hm
    have key : ∀ k, k ≤ n - 1 → ltB (x (n - 1 - k)) o = true := by
      intro k
      induction k with
      | zero => intro _; exact h2
      | succ k ih =>
        intro hk
        have a := allB_all h1 (n - 1 - (k + 1)) (by omega)
        have b := ih (by omega)
        replace a : gtB (x (n - 1 - (k + 1) + 1)) (x (n - 1 - (k + 1))) = true := a
        rw [show n - 1 - (k + 1) + 1 = n - 1 - k by omega] at a
        obtain ⟨a1, a2, a3⟩ := gtB_val.1 a
        obtain ⟨b1, b2, b3⟩ := ltB_val.1 b
        exact ltB_val.2 ⟨a2, b2, by omega⟩
    have hl := key (n - 1 - i) (by omega)
    rw [show n - 1 - (n - 1 - i) = i by omega] at hl
    unfold stepD at hf
    rw [hl, Bool.and_true] at hf
    by_cases h0 : i = 0
    · subst h0; simp at hf
    · have a := allB_all h1 (i - 1) (by omega)
      replace a : gtB (x (i - 1 + 1)) (x (i - 1)) = true := a
      rw [show i - 1 + 1 = i by omega] at a
      rw [a] at hf
      simp at hf
  · symm
    rw [Bool.and_eq_true]
    refine ⟨allB_yes (fun i hi => ?_), ?_⟩
    · have a := allB_all hm (i + 1) (by omega)
      unfold stepD at a
      simp at a
      exact a.1
    · have a := allB_all hm (n - 1) (by omega)
      unfold stepD at a
      rw [Bool.and_eq_true] at a
      exact a.2
def okT (b o : Nat) (x : Nat → Nat) (n : Nat) : Bool := withinB b 1065353216 1184645120 && (withinB o 1065353216 1167458304 && degB x n o)
/-- A slice of floats, opened. -/
theorem slT_raw {x : Nat → Nat} {n B : Nat} {s : Value} {w : World} (h : (slT x n).RdN w B s) (hn : 1 ≤ n) : ∃ (b p cap : Nat) (y : Nat → Nat), s = .slice (some ⟨b, p, none⟩) n cap ∧ n ≤ cap ∧ cap ≤ maxLen ∧ ∀ i, i < n → w.cell? ⟨b, p + i, none⟩ = some (.float .f32 (y i)) ∧ fits .f32 (y i) ∧ can .f32 (y i) = x i := by
  rcases h with ⟨_, rfl⟩ | ⟨b, p, cap, rfl, h2, h3, h4⟩
  · omega
  have : ∀ i, ∃ y, i < n → w.cell? ⟨b, p + i, none⟩ = some (.float .f32 y) ∧ fits .f32 y ∧ can .f32 y = x i := fun i => by
    by_cases hi : i < n
    · obtain ⟨_, u, e, y, rfl, f, c⟩ := h4 i (by omega)
      exact ⟨y, fun _ => ⟨e, f, c⟩⟩
    · exact ⟨0, fun h => absurd h hi⟩
  obtain ⟨y, hy⟩ := Classical.skolem.1 this
  exact ⟨b, p, cap, y, rfl, h2, h3, hy⟩
end Go.Fk
namespace Go.Proofs.Ytnkjmgadnejdlac
open Go.RowKit Go.Fk
set_option maxRecDepth 100000 in
set_option maxHeartbeats 2000000 in
theorem i_areDegrees (B : Nat) (s : Value) (x : Nat → Nat) (n o : Nat) (w : World) (hs : (slT x n).RdN w B s) : Calls Try.prog 136 #[s, .float .f32 o] w fun e w' => e = .returned (.bool (degB x n o)) ∧ w = w' := by
  by_cases h0 : n = 0
  · subst h0
    rcases hs.form with ⟨rfl, _⟩ | ⟨b, p, cap, rfl, hc, hm⟩
    all_goals
      clear hs
      go_enter Try.func136, Try.ntmps136
      go_wp2
      go_ret
      exact ⟨rfl, rfl⟩
  obtain ⟨m, rfl⟩ : ∃ m, n = m + 1 := ⟨n - 1, by omega⟩
  obtain ⟨b, p, cap, y, rfl, hc, hm, hx⟩ := slT_raw hs (by omega)
  unfold maxLen at hm
  clear hs h0
  have EQ : ∀ i, i < m + 1 → can .f32 (y i) = can .f32 (x i) := fun i hi => by rw [← (hx i hi).2.2, can_can]
  have c0 : w.cell? ⟨b, p, none⟩ = some (.float .f32 (y 0)) := (hx 0 (by omega)).1
  have cl := (hx m (by omega)).1
  have hd1 : decide ((m : Int) + 1 < 1) = false := decide_eq_false (by omega)
  have S0 : Hid (sameB (y 0) 0 = sameB (x 0) 0) := by unfold sameB Hid; rw [EQ 0 (by omega)]
  have HL : Hid (ltB (y m) o = ltB (x m) o) := ltB_congr (EQ m (by omega)) rfl
  have HG : Hid (∀ i, i < m → gtB (y (i + 1)) (y i) = gtB (x (i + 1)) (x i)) := fun i hi => gtB_congr (EQ _ (by omega)) (EQ _ (by omega))
  have HC := hid (fun i hi => (hx i hi).1)
  have HD : Hid (degB x (m + 1) o = (decide (m + 1 ≤ 31) && (sameB (x 0) 0 && (allB (fun i => gtB (x (i + 1)) (x i)) m && ltB (x m) o)))) := by
    unfold Hid degB
    rw [decide_eq_true (by omega : 1 ≤ m + 1), Bool.true_and, Nat.add_sub_cancel]
  clear EQ hx
  by_cases h31 : m + 1 ≤ 31
  · have hd2 : decide ((31 : Int) < (m : Int) + 1) = false := decide_eq_false (by omega)
    cases hs0 : sameB (y 0) 0
    · have R : Hid (degB x (m + 1) o = false) := by
        show degB x (m + 1) o = false
        rw [HD.out, ← S0.out, hs0, Bool.false_and, Bool.and_false]
      clear HD
      have HS := hid (fun w' => i_SameSample (y 0) 0 w')
      rw [hs0] at HS
      clear hs0
      go_enter Try.func136, Try.ntmps136
      go_wp2_with (go_at_call 103; ((with_reducible refine (HS.out _).mono ?_); rintro e w' ⟨rfl, rfl⟩))
      go_ret
      exact ⟨ret_b R.out.symm, rfl⟩
    · have R : Hid (degB x (m + 1) o = (allB (fun i => gtB (x (i + 1)) (x i)) m && ltB (x m) o)) := by
        show degB x (m + 1) o = _
        rw [HD.out, ← S0.out, hs0, Bool.true_and, decide_eq_true h31, Bool.true_and]
      clear HD
      have HS := hid (fun w' => i_SameSample (y 0) 0 w')
      rw [hs0] at HS
      clear hs0
      by_cases hcp : cap = 1
      · obtain rfl : m = 0 := by omega
        subst hcp
        go_enter Try.func136, Try.ntmps136
        go_wp2_with (go_at_call 103; ((with_reducible refine (HS.out _).mono ?_); rintro e w' ⟨rfl, rfl⟩))
        go_loop [26] (fun i => i = .int .i64 0) (fun _ => 0)
        case atStart => rfl
        case round =>
          obtain rfl := hrel
          go_wp2
          go_ret
          exact ⟨ret_b (R.out.trans (by rw [allB_yes (fun i hi => absurd hi (by omega)), Bool.true_and]; exact HL.out.symm)).symm, rfl⟩
      · have hcp1 : ¬ (cap : Int) = 1 := by omega
        have hcp2 : ¬ 1 = cap := by omega
        go_enter Try.func136, Try.ntmps136
        go_wp2_with (go_at_call 103; ((with_reducible refine (HS.out _).mono ?_); rintro e w' ⟨rfl, rfl⟩))
        go_loop [26] (fun i => ∃ k : Nat, k ≤ m ∧ i = .int .i64 k ∧ Hid (∀ i, i < k → gtB (x (i + 1)) (x i) = true)) (fun i => m - (intOf i).toNat)
        case atStart => exact ⟨0, by omega, rfl, fun i hi => absurd hi (by omega)⟩
        case round =>
          obtain ⟨k, hk, rfl, HK⟩ := hrel
          by_cases hlt : k < m
          · have ck := HC.out k (by omega)
            have ck' := HC.out (k + 1) (by omega)
            rw [show p + (k + 1) = p + 1 + k by omega] at ck'
            have HE := hid (HG.out k hlt)
            cases hb : gtB (y (k + 1)) (y k)
            · have hb' : (FloatKind.f32.format.order (y (k + 1)) (y k) == some .gt) = false := hb
              have HB := hid hb
              clear hb
              go_wp2
              go_ret
              exact ⟨ret_b (R.out.trans (by rw [allB_no hlt (HE.out.symm.trans HB.out), Bool.false_and])).symm, rfl⟩
            · have hb' : (FloatKind.f32.format.order (y (k + 1)) (y k) == some .gt) = true := hb
              have HB := hid hb
              clear hb
              go_wp2
              go_round
              case rel => exact ⟨k + 1, by omega, by go_num, all_step (p := fun j => gtB (x (j + 1)) (x j) = true) HK.out (HE.out.symm.trans HB.out)⟩
              case measure => simp [intOf]; omega
          · obtain rfl : k = m := by omega
            go_wp2
            go_ret
            exact ⟨ret_b (R.out.trans (by rw [allB_yes HK.out, Bool.true_and]; exact HL.out.symm)).symm, rfl⟩
  · have R : Hid (degB x (m + 1) o = false) := by
      show degB x (m + 1) o = false
      rw [HD.out, decide_eq_false h31, Bool.false_and]
    clear HD
    have hd2 : decide ((31 : Int) < (m : Int) + 1) = true := decide_eq_true (by omega)
    go_enter Try.func136, Try.ntmps136
    go_wp2
    go_ret
    exact ⟨ret_b R.out.symm, rfl⟩
set_option maxRecDepth 100000 in
set_option maxHeartbeats 4000000 in
theorem i_ValidTuning (b o : Nat) (x : Nat → Nat) (n : Nat) (B : Nat) (s : Value) (w : World) (hs : (slT x n).RdN w B s) :
    Calls Try.prog 112 #[.agg #[.float .f32 b, .float .f32 o, s]] w (Out_b (okT b o x n) w) := by
  have H1 := hid (fun (w' : World) => i_isWithin b 1065353216 1184645120 w')
  have H2 := hid (fun (w' : World) => i_isWithin o 1065353216 1167458304 w')
  have H3 := hid (fun (w' : World) (hl : le w w') => i_areDegrees B s x n o w' (hs.le hl))
  clear hs
  change Calls _ _ _ _ (Out_b (withinB b 1065353216 1184645120 && (withinB o 1065353216 1167458304 && degB x n o)) w)
  cases h1 : withinB b 1065353216 1184645120 <;> cases h2 : withinB o 1065353216 1167458304
  all_goals
    rw [h1] at H1; rw [h2] at H2
    clear h1 h2
    have F := (Frg.nil w).box 66 #[.float .f32 b, .float .f32 o, s]
    have c0 := (F.row m0).cell? 0
    have c1 := (F.row m0).cell? 1
    have c2 := (F.row m0).cell? 2
    go_enter Try.func112, Try.ntmps112
    go_wp2_with (first | (go_at_call 111; ((first | with_reducible refine (H1.out _).mono ?_ | with_reducible refine (H2.out _).mono ?_); rintro e w1 ⟨rfl, rfl⟩)) | (go_at_call 136; ((with_reducible refine (H3.out _ F.below).mono ?_); rintro e w2 ⟨rfl, rfl⟩)))
    go_ret
    exact ⟨rfl, F.below⟩
set_option maxRecDepth 100000 in
set_option maxHeartbeats 4000000 in
theorem s_l07Base (b : Nat) (w : World) : Calls Try.prog 150 #[.float .f32 b] w fun e w' => e = .returned (.bool (withinB b 1065353216 1184645120)) ∧ w = w' := by
  rcases h0 : FloatKind.f32.format.order b 1065353216 with _ | (_ | _ | _) <;> rcases h1 : FloatKind.f32.format.order b 1184645120 with _ | (_ | _ | _)
  all_goals
    go_enter Try.func150, Try.ntmps150
    go_wp2
    go_ret
    exact ⟨ret_b (by unfold withinB; rw [h0, h1]; rfl), rfl⟩
set_option maxRecDepth 100000 in
set_option maxHeartbeats 4000000 in
theorem s_l07Ok (b o : Nat) (x : Nat → Nat) (n : Nat) (B : Nat) (s : Value) (w : World) (hs : (slT x n).RdN w B s) (g : Nat) (R : Row w g 66 #[.float .f32 b, .float .f32 o, s]) : Calls Try.prog 130 #[.pointer (some ⟨g, 0, none⟩)] w (Out_b (okT b o x n) w) := by
  have H1 := hid (fun (w' : World) => s_l07Base b w')
  have c0 := R.cell? 0
  have c1 := R.cell? 1
  have c2 := R.cell? 2
  clear R
  change Calls _ _ _ _ (Out_b (withinB b 1065353216 1184645120 && (withinB o 1065353216 1167458304 && degB x n o)) w)
  cases h1 : withinB b 1065353216 1184645120
  · rw [h1] at H1
    clear h1
    rcases CD.RdN.form hs with ⟨rfl, _⟩ | ⟨b', p, cap, rfl, hc, hm⟩
    all_goals
      clear hs
      go_enter Try.func130, Try.ntmps130
      go_wp2_with (go_at_call 150; ((with_reducible refine (H1.out _).mono ?_); rintro e w1 ⟨rfl, rfl⟩))
      go_ret
      exact ⟨rfl, le_refl _⟩
  rw [h1] at H1
  clear h1
  rw [Bool.true_and]
  cases e1 : (FloatKind.f32.format.order o 1065353216 == some .gt || FloatKind.f32.format.order o 1065353216 == some .eq)
  · have HW : Hid (withinB o 1065353216 1167458304 = false) := by show withinB o 1065353216 1167458304 = false; unfold withinB; rw [e1, Bool.false_and]
    rcases CD.RdN.form hs with ⟨rfl, _⟩ | ⟨b', p, cap, rfl, hc, hm⟩
    all_goals
      clear hs
      go_enter Try.func130, Try.ntmps130
      go_wp2_with (go_at_call 150; ((with_reducible refine (H1.out _).mono ?_); rintro e w1 ⟨rfl, rfl⟩))
      go_ret
      exact ⟨ret_b (by rw [HW.out, Bool.false_and]), le_refl _⟩
  cases e2 : (FloatKind.f32.format.order o 1167458304 == some .lt || FloatKind.f32.format.order o 1167458304 == some .eq)
  · have HW : Hid (withinB o 1065353216 1167458304 = false) := by show withinB o 1065353216 1167458304 = false; unfold withinB; rw [e1, e2, Bool.true_and]
    rcases CD.RdN.form hs with ⟨rfl, _⟩ | ⟨b', p, cap, rfl, hc, hm⟩
    all_goals
      clear hs
      go_enter Try.func130, Try.ntmps130
      go_wp2_with (go_at_call 150; ((with_reducible refine (H1.out _).mono ?_); rintro e w1 ⟨rfl, rfl⟩))
      go_ret
      exact ⟨ret_b (by rw [HW.out, Bool.false_and]), le_refl _⟩
  have HW : withinB o 1065353216 1167458304 = true := by unfold withinB; rw [e1, e2, Bool.true_and]
  rw [HW, Bool.true_and]
  clear HW
  by_cases h0 : n = 0
  · subst h0
    rcases CD.RdN.form hs with ⟨rfl, _⟩ | ⟨b', p, cap, rfl, hc, hm⟩
    all_goals
      clear hs
      go_enter Try.func130, Try.ntmps130
      go_wp2_with (go_at_call 150; ((with_reducible refine (H1.out _).mono ?_); rintro e w1 ⟨rfl, rfl⟩))
      go_ret
      exact ⟨rfl, le_refl _⟩
  have HD : Hid (degB x n o = (decide (n ≤ 31) && (sameB (x 0) 0 && allB (stepD x o) n))) := by
    show degB x n o = _
    unfold degB
    rw [decide_eq_true (by omega : 1 ≤ n), Bool.true_and, deg_eq (by omega)]
  obtain ⟨b', p, cap, y, rfl, hc, hm, hx⟩ := slT_raw hs (by omega)
  unfold maxLen at hm
  clear hs
  have EQ : ∀ i, i < n → can .f32 (y i) = can .f32 (x i) := fun i hi => by rw [← (hx i hi).2.2, can_can]
  have d0 : w.cell? ⟨b', p, none⟩ = some (.float .f32 (y 0)) := (hx 0 (by omega)).1
  have hd1 : decide ((n : Int) < 1) = false := decide_eq_false (by omega)
  have S0 : Hid (sameB (y 0) 0 = sameB (x 0) 0) := by unfold sameB Hid; rw [EQ 0 (by omega)]
  have HL : Hid (∀ i, i < n → ltB (y i) o = ltB (x i) o) := fun i hi => ltB_congr (EQ i hi) rfl
  have HG : Hid (∀ i, i + 1 < n → gtB (y (i + 1)) (y i) = gtB (x (i + 1)) (x i)) := fun i hi => gtB_congr (EQ _ hi) (EQ _ (by omega))
  have HC := hid (fun i hi => (hx i hi).1)
  clear EQ hx
  by_cases h31 : n ≤ 31
  · have hd2 : decide ((31 : Int) < (n : Int)) = false := decide_eq_false (by omega)
    have HS := hid (fun w' => s_l01Same (y 0) 0 w')
    cases hs0 : sameB (y 0) 0
    · have RR : Hid (degB x n o = false) := by
        show degB x n o = false
        rw [HD.out, ← S0.out, hs0, Bool.false_and, Bool.and_false]
      clear HD
      rw [hs0] at HS
      clear hs0
      go_enter Try.func130, Try.ntmps130
      go_wp2_with (first | (go_at_call 150; ((with_reducible refine (H1.out _).mono ?_); rintro e w1 ⟨rfl, rfl⟩)) | (go_at_call 58; ((with_reducible refine (HS.out _).mono ?_); rintro e w1 ⟨rfl, rfl⟩)))
      go_ret
      exact ⟨ret_b RR.out.symm, le_refl _⟩
    · have RR : Hid (degB x n o = allB (stepD x o) n) := by
        show degB x n o = _
        rw [HD.out, ← S0.out, hs0, Bool.true_and, decide_eq_true h31, Bool.true_and]
      clear HD
      rw [hs0] at HS
      clear hs0
      go_enter Try.func130, Try.ntmps130
      go_wp2_with (first | (go_at_call 150; ((with_reducible refine (H1.out _).mono ?_); rintro e w1 ⟨rfl, rfl⟩)) | (go_at_call 58; ((with_reducible refine (HS.out _).mono ?_); rintro e w1 ⟨rfl, rfl⟩)))
      go_loopw [4] (fun i wr => ∃ k : Nat, k ≤ n ∧ i = .int .i64 k ∧ (∃ q, wr = w.drewN q) ∧ Hid (∀ i, i < k → stepD x o i = true)) (fun i _ => n - (intOf i).toNat)
      case atStart => exact ⟨0, by omega, rfl, ⟨0, rfl⟩, fun i hi => absurd hi (by omega)⟩
      case round =>
        obtain ⟨k, hk, rfl, ⟨q, rfl⟩, HK⟩ := hrel
        by_cases hlt : k < n
        · have ck := HC.out k hlt
          have HLk := hid (HL.out k hlt)
          have hki : (k : Int) < (n : Int) := by omega
          by_cases hk0 : k = 0
          · subst hk0
            cases hb : ltB (y 0) o
            · have hb' : (FloatKind.f32.format.order (y 0) o == some .lt) = false := hb
              have ST : Hid (stepD x o 0 = false) := by show stepD x o 0 = false; unfold stepD; rw [← HLk.out, hb, Bool.and_false]
              clear hb
              go_wp2_with fail
              go_quiet (fail)
              go_wp2
              go_ret
              exact ⟨ret_b (RR.out.trans (allB_no hlt ST.out)).symm, le_trans (le_drewN _ _) (le_drewN _ _)⟩
            · have hb' : (FloatKind.f32.format.order (y 0) o == some .lt) = true := hb
              have ST : Hid (stepD x o 0 = true) := by show stepD x o 0 = true; unfold stepD; rw [← HLk.out, hb]; rfl
              clear hb
              go_wp2_with fail
              go_quiet (fail)
              go_wp2
              go_roundw
              case rel => exact ⟨0 + 1, by omega, by go_num, ⟨_, rfl⟩, all_step (p := fun j => stepD x o j = true) HK.out ST.out⟩
              case measure => simp [intOf]; omega
          · obtain ⟨j, rfl⟩ : ∃ j, k = j + 1 := ⟨k - 1, by omega⟩
            have cj := HC.out j (by omega)
            have HGj := hid (HG.out j hlt)
            have ej : Hid (stepD x o (j + 1) = (gtB (y (j + 1)) (y j) && ltB (y (j + 1)) o)) := by
              show stepD x o (j + 1) = _
              unfold stepD
              rw [HGj.out, HLk.out, Nat.add_sub_cancel]
              rfl
            have hj0 : decide ((0 : Int) < (j : Int) + 1) = true := decide_eq_true (by omega)
            clear HGj HLk
            cases hg : gtB (y (j + 1)) (y j)
            · have hg' : (FloatKind.f32.format.order (y (j + 1)) (y j) == some .gt) = false := hg
              have ST : Hid (stepD x o (j + 1) = false) := ej.out.trans (by rw [hg, Bool.false_and])
              clear hg ej
              go_wp2_with fail
              go_quiet (fail)
              go_wp2
              go_ret
              exact ⟨ret_b (RR.out.trans (allB_no hlt ST.out)).symm, le_trans (le_drewN _ _) (le_drewN _ _)⟩
            · have hg' : (FloatKind.f32.format.order (y (j + 1)) (y j) == some .gt) = true := hg
              rw [hg, Bool.true_and] at ej
              clear hg
              cases hb : ltB (y (j + 1)) o
              · have hb' : (FloatKind.f32.format.order (y (j + 1)) o == some .lt) = false := hb
                have ST : Hid (stepD x o (j + 1) = false) := ej.out.trans hb
                clear hb ej
                go_wp2_with fail
                go_quiet (fail)
                go_wp2
                go_ret
                exact ⟨ret_b (RR.out.trans (allB_no hlt ST.out)).symm, le_trans (le_drewN _ _) (le_drewN _ _)⟩
              · have hb' : (FloatKind.f32.format.order (y (j + 1)) o == some .lt) = true := hb
                have ST : Hid (stepD x o (j + 1) = true) := ej.out.trans hb
                clear hb ej
                go_wp2_with fail
                go_quiet (fail)
                go_wp2
                go_roundw
                case rel => exact ⟨j + 1 + 1, by omega, by go_num, ⟨_, rfl⟩, all_step (p := fun j => stepD x o j = true) HK.out ST.out⟩
                case measure => simp [intOf]; omega
        · obtain rfl : k = n := by omega
          go_wp2
          go_ret
          exact ⟨ret_b (RR.out.trans (allB_yes HK.out)).symm, le_drewN _ _⟩
  · have hd2 : decide ((31 : Int) < (n : Int)) = true := decide_eq_true (by omega)
    have RR : Hid (degB x n o = false) := by
      show degB x n o = false
      rw [HD.out, decide_eq_false h31, Bool.false_and]
    clear HD
    go_enter Try.func130, Try.ntmps130
    go_wp2_with (go_at_call 150; ((with_reducible refine (H1.out _).mono ?_); rintro e w1 ⟨rfl, rfl⟩))
    go_ret
    exact ⟨ret_b RR.out.symm, le_refl _⟩
set_option maxRecDepth 100000 in
set_option maxHeartbeats 4000000 in
theorem s_ValidTuning (b o : Nat) (x : Nat → Nat) (n : Nat) (B : Nat) (s : Value) (w : World) (hs : (slT x n).RdN w B s) :
    Calls Try.prog 108 #[.agg #[.float .f32 b, .float .f32 o, s]] w (Out_b (okT b o x n) w) := by
  have HV := hid (fun (w' : World) (g : Nat) (hl : le w w') (R : Row w' g 66 #[.float .f32 b, .float .f32 o, s]) => s_l07Ok b o x n B s w' (hs.le hl) g R)
  clear hs
  have F := (Frg.nil w).box 66 #[.float .f32 b, .float .f32 o, s]
  go_enter Try.func108, Try.ntmps108
  go_wp2_with (go_at_call 130; ((with_reducible refine (HV.out _ _ F.below (F.row m0)).mono ?_); rintro e w1 ⟨rfl, hl⟩; replace F := F.le hl; clear hl))
  go_ret
  exact ⟨rfl, F.below⟩
def sameT (b o : Nat) (x : Nat → Nat) (n : Nat) (b' o' : Nat) (x' : Nat → Nat) (n' : Nat) : Bool := sameB b b' && (sameB o o' && sameS x x' n n')
set_option maxRecDepth 100000 in
set_option maxHeartbeats 4000000 in
theorem i_SameTuning (b o b' o' : Nat) (x x' : Nat → Nat) (n n' : Nat) (B B' : Nat) (s s' : Value) (w : World) (hs : (slT x n).RdN w B s) (hs' : (slT x' n').RdN w B' s') :
    Calls Try.prog 104 #[.agg #[.float .f32 b, .float .f32 o, s], .agg #[.float .f32 b', .float .f32 o', s']] w (Out_b (sameT b o x n b' o' x' n') w) := by
  have H1 := hid (fun (w' : World) => i_SameSample b b' w')
  have H2 := hid (fun (w' : World) => i_SameSample o o' w')
  have H3 := hid (fun (w1 : World) (hl : le w w1) => i_EqualFuncR B B' s s' x x' n n' w1 (slT_rds (hs.le hl)) (slT_rds (hs'.le hl)))
  clear hs hs'
  change Calls _ _ _ _ (Out_b (sameB b b' && (sameB o o' && sameS x x' n n')) w)
  cases h1 : sameB b b' <;> cases h2 : sameB o o'
  all_goals
    rw [h1] at H1; rw [h2] at H2
    clear h1 h2
    have F := ((Frg.nil w).box 66 #[.float .f32 b, .float .f32 o, s]).box 66 #[.float .f32 b', .float .f32 o', s']
    simp only [World.size_alloc] at F
    have c0 := (F.row m1).cell? 0
    have c1 := (F.row m1).cell? 1
    have c2 := (F.row m1).cell? 2
    have c3 := (F.row m0).cell? 0
    have c4 := (F.row m0).cell? 1
    have c5 := (F.row m0).cell? 2
    go_enter Try.func104, Try.ntmps104
    go_wp2_with (first | (go_at_call 103; ((first | with_reducible refine (H1.out _).mono ?_ | with_reducible refine (H2.out _).mono ?_); rintro e w1 ⟨rfl, rfl⟩)) | (go_at_call 129; ((with_reducible refine (H3.out _ F.below).mono ?_); rintro e w2 ⟨rfl, rfl⟩)))
    go_ret
    first | exact ⟨rfl, F.below⟩ | exact ⟨rfl, le_trans F.below (le_drewN _ _)⟩
set_option maxRecDepth 100000 in
set_option maxHeartbeats 4000000 in
theorem s_SameTuning (b o b' o' : Nat) (x x' : Nat → Nat) (n n' : Nat) (B B' : Nat) (s s' : Value) (w : World) (hs : (slT x n).RdN w B s) (hs' : (slT x' n').RdN w B' s') :
    Calls Try.prog 59 #[.agg #[.float .f32 b, .float .f32 o, s], .agg #[.float .f32 b', .float .f32 o', s']] w (Out_b (sameT b o x n b' o' x' n') w) := by
  have H1 := hid (fun (w' : World) => s_l01Same b b' w')
  have H2 := hid (fun (w' : World) => s_l01Same o o' w')
  have H3 := hid (fun (w1 : World) (hl : le w w1) => s_l02SameListR B B' s s' x x' n n' w1 (slT_rds (hs.le hl)) (slT_rds (hs'.le hl)))
  clear hs hs'
  change Calls _ _ _ _ (Out_b (sameB b b' && (sameB o o' && sameS x x' n n')) w)
  cases h1 : sameB b b' <;> cases h2 : sameB o o'
  all_goals
    rw [h1] at H1; rw [h2] at H2
    clear h1 h2
    have F := ((Frg.nil w).box 66 #[.float .f32 b, .float .f32 o, s]).box 66 #[.float .f32 b', .float .f32 o', s']
    simp only [World.size_alloc] at F
    have c0 := (F.row m1).cell? 0
    have c1 := (F.row m1).cell? 1
    have c2 := (F.row m1).cell? 2
    have c3 := (F.row m0).cell? 0
    have c4 := (F.row m0).cell? 1
    have c5 := (F.row m0).cell? 2
    go_enter Try.func59, Try.ntmps59
    go_wp2_with (first | (go_at_call 58; ((first | with_reducible refine (H1.out _).mono ?_ | with_reducible refine (H2.out _).mono ?_); rintro e w1 ⟨rfl, rfl⟩)) | (go_at_call 100; ((with_reducible refine (H3.out _ F.below).mono ?_); rintro e w2 ⟨rfl, m9, rfl⟩)))
    go_ret
    first | exact ⟨rfl, F.below⟩ | exact ⟨rfl, le_trans F.below (le_drewN _ _)⟩
theorem tun_data {cs : List CD} (h : HasShL shTuning cs) : ∃ (b o : Nat) (xs : Nat → CD) (n : Nat), cs = [.flt .f32 b, .flt .f32 o, .sl 1 n xs] ∧ (∀ i, i < n → (xs i).flk = some .f32) := by
  obtain ⟨c0, cs, rfl, q0, h⟩ := h.inv
  obtain ⟨c1, cs, rfl, q1, h⟩ := h.inv
  obtain ⟨c2, cs, rfl, q2, h⟩ := h.inv
  obtain rfl := h.inv0
  obtain ⟨b, rfl⟩ := q0
  obtain ⟨o, rfl⟩ := q1
  obtain ⟨n, xs, rfl, r0⟩ := q2
  exact ⟨b, o, xs, n, rfl, fun i hi => ShOk.flts (fun i hi j hj => (r0 i hi j hj).ok) rfl i hi⟩
theorem tun_open {b o : Nat} {xs : Nat → CD} {n : Nat} {w : World} {B : Nat} {u : List Value} (h : RdLN w B (([.flt .f32 b, .flt .f32 o, .sl 1 n xs] : List CD).map CD.cp) u) (hx : ∀ i, i < n → (xs i).flk = some .f32) : ∃ s : Value, u = [.float .f32 b, .float .f32 o, s] ∧ (slT (fun i => (xs i).fx) n).RdN w B s ∧ fits .f32 b ∧ fits .f32 o := by
  simp only [List.map_cons, List.map_nil] at h
  obtain ⟨v0, u0, rfl, q0, hh0⟩ := h.inv
  obtain ⟨v1, u1, rfl, q1, hh1⟩ := hh0.inv
  obtain ⟨v2, u2, rfl, q2, hh2⟩ := hh1.inv
  obtain rfl := hh2.inv0
  obtain ⟨rfl, f1⟩ := q0
  obtain ⟨rfl, f2⟩ := q1
  exact ⟨v2, rfl, q2.congr (slT_cp hx), f1, f2⟩
end Go.Proofs.Ytnkjmgadnejdlac
