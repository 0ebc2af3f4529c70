/- Copies of rings; 'PushSample' of both. -/
import Derived.Test.YtaenbpkcehenkaaRingX
import Derived.Test.YtaenbpkcehenkaaTail
namespace Go.Fk
open Go Go.RowKit
section
variable {P : Program} {ops : Array Oper} {w : World} {K : FuncId → Array Value → Value → Prop} {Q : Act → Prop} {o : Oper} {rest : List Oper} {a : Act}
theorem wpLoose_nilP (hg : o.guard = none) {x : Operand} (hop : o.op = Op.nilCheck x) {ad : Addr} (hx : a.eval x = .pointer (some ad))
    (hK : wpLoose P ops (fun w' => ∃ m, w' = w.drewN m) K Q rest (a.put o.dst (.pointer (some ad)))) : wpLoose P ops (fun w' => ∃ m, w' = w.drewN m) K Q (o :: rest) a := by
  refine wpLoose_any hg (· = .pointer (some ad)) (fun n => ?_) (by rintro v rfl; exact hK)
  simp [execOp, hop, hx, within, Result.andThen]
  exact ⟨_, rfl⟩
theorem wpLoose_len (hg : o.guard = none) {x : Operand} {t : TypeId} (hop : o.op = Op.call { callee := Callee.builtin Builtin.len, args := #[x], argTypes := #[t] }) {e : TypeId} (hu : P.underlying t = some (.slice e)) {ao : Option Addr} {n c : Nat} (hx : a.eval x = .slice ao n c)
    (hK : wpLoose P ops (fun w' => ∃ m, w' = w.drewN m) K Q rest (a.put o.dst (.int .i64 n))) : wpLoose P ops (fun w' => ∃ m, w' = w.drewN m) K Q (o :: rest) a := by
  refine wpLoose_any hg (· = .int .i64 n) (fun m => ?_) (by rintro v rfl; exact hK)
  simp [execOp, hop, hx, within, Result.andThen, resolve, invoke, builtin, Builtin.len_, run_underlying hu]
  exact ⟨⟨_, rfl⟩, rfl⟩
end
/-- A ring's samples behind a push. -/
def pushX (x : Nat → Nat) (j a : Nat) : Nat → Nat := fun i => if i = j then can .f32 a else x i
def OutPu (lo hi : Nat) (s : Value) (x : Nat → Nat) (n j a g f : Nat) (t : TypeId) (cs : Array Value) (w : World) (e : Ending) (w' : World) : Prop :=
  ∃ o, e = .returned (.float .f32 o) ∧ can .f32 o = x j ∧ fits .f32 o ∧ Row w' g t (cs.setIfInBounds (f + 1) (.int .i64 (((j + 1) % n : Nat) : Int))) ∧ OwnS w' lo hi s (pushX x j a) n ∧ Chg (fun i => i = g ∨ lo ≤ i ∧ i < hi) w w'
theorem own_set {w : World} {lo hi b o cap n : Nat} {t : TypeId} {ds : Array Value} {x : Nat → Nat} (j a : Nat) (hr : Row w b t (ds.setIfInBounds (o + j) (.float .f32 a))) (hc : n ≤ cap) (hm : cap ≤ maxLen) (hb : lo ≤ b) (hb' : b < hi) (hj : o + j < ds.size) (ha : fits .f32 a)
    (hx : ∀ i, i < n → ∃ y, ds[o + i]? = some (.float .f32 y) ∧ fits .f32 y ∧ can .f32 y = x i) : OwnS w lo hi (.slice (some ⟨b, o, none⟩) n cap) (pushX x j a) n := by
  refine .inr ⟨b, o, cap, t, _, rfl, hc, hm, hb, hb', hr, fun i hi' => ?_⟩
  by_cases e : i = j
  · subst e
    exact ⟨a, by rw [Array.getElem?_setIfInBounds_self_of_lt hj], ha, by simp [pushX]⟩
  · obtain ⟨y, e1, e2, e3⟩ := hx i hi'
    exact ⟨y, by rw [Array.getElem?_setIfInBounds_ne (by omega)]; exact e1, e2, by simp [pushX, e, e3]⟩
end Go.Fk
namespace Go.Proofs.Ytaenbpkcehenkaa
open Go.RowKit Go.Fk
theorem kindF : ∀ w : World, (isAgg 22).run Try.prog w = .ok false w := fun w => by kernel_rfl
theorem kindI : ∀ w : World, (isAgg 2).run Try.prog w = .ok false w := fun w => by kernel_rfl
set_option maxRecDepth 100000 in
set_option maxHeartbeats 2000000 in
theorem i_copied (B : Nat) (s : Value) (x : Nat → Nat) (n : Nat) (k : Int) (w : World) (hs : RdS w B s x n) (h1 : 1 ≤ n) (h2 : n ≤ 1024) :
    Calls Try.prog 72 #[.agg #[s, .int .i64 k]] w fun e w' => ∃ s', e = .returned (.agg #[s', .int .i64 k]) ∧ OwnS w' w.heap.size w'.heap.size s' x n ∧ le w w' := by
  obtain ⟨a, cap, y, rfl, hc, hm, hx⟩ := hs.raw h1
  have Hx := hid hx; clear hx hs
  unfold maxLen at hm
  obtain ⟨i, hi, hi1, hi2, hi3⟩ := info36
  have HI := hid hi; have HI1 := hid hi1; have HI2 := hid hi2; have HI3 := hid hi3; clear hi hi1 hi2 hi3
  have F := ((Frg.nil w).box 27 #[.slice (some a) n cap, .int .i64 k]).box 27 #[.slice none 0 0, .int .i64 0]
  simp only [World.size_alloc] at F
  go_enter Try.func72, Try.ntmps72
  go_wp2_with fail
  obtain ⟨W, hW⟩ : ∃ W, W = (w.alloc (.cells #[.slice (some a) n cap, .int .i64 k] 27)).alloc (.cells #[.slice none 0 0, .int .i64 0] 27) := ⟨_, rfl⟩
  rw [← hW] at F ⊢
  have hz : W.heap.size = w.heap.size + 1 + 1 := by rw [hW]; simp
  clear hW
  have HZ := hid hz; clear hz
  have G := F.drewN 1
  have hcl : ∀ j, j < n → (W.drewN 1).cell? (a.add j) = some (.float .f32 (y j)) ∧ a.block < w.heap.size := fun j hj => by
    have e1 := (Hx.out j hj).1
    have hlt : (a.add j).block < w.heap.size := World.block_lt_of_cell? w _ e1
    exact ⟨(Below.cell G.below hlt).trans e1, by rw [add_block] at hlt; exact hlt⟩
  have HC := hid hcl; clear hcl
  refine region_freeD (E := outX (w.heap.size + 1) 27 2 (FinR w.heap.size 32 n y k) (FinR_le _ _ _ _ _)) (fun _ _ _ _ => True) (by kernel_rfl) (by kernel_rfl) ?_
  refine wpFreeD_one rfl (.pointer (some ⟨w.heap.size, 0, none⟩)) (fun w _ => by kernel_rfl) ?_
  simp only [Act.put, List.setIfInBounds_toArray, List.set_cons_succ, List.set_cons_zero]
  refine wpFreeD_cell rfl rfl rfl ((G.row m1).cell? 0) (by simp) kindF ?_
  simp only [Act.put, List.setIfInBounds_toArray, List.set_cons_succ, List.set_cons_zero]
  refine wpFreeD_quiet rfl ?_
  go_big_quiet_step (fail)
  refine wpQuiet_nil ?_
  refine wpFreeD_one rfl (.pointer (some ⟨w.heap.size, 0, none⟩)) (fun w _ => by kernel_rfl) ?_
  simp only [Act.put, List.setIfInBounds_toArray, List.set_cons_succ, List.set_cons_zero]
  refine wpFreeD_cell rfl rfl rfl ((G.row m1).cell? 0) (by simp) kindF ?_
  simp only [Act.put, List.setIfInBounds_toArray, List.set_cons_succ, List.set_cons_zero]
  refine wpFreeD_append rfl rfl Try.underlying22 HI.out HI1.out HI2.out HI3.out rfl rfl h1 (by omega) (fun j hj => (HC.out j hj).1) (by have := (HC.out 0 (by omega)).2; omega) (fun q c' => ?_) (by have := G.row m0; exact this.lt)
  simp only [Act.put, List.setIfInBounds_toArray, List.set_cons_succ, List.set_cons_zero]
  refine wpFreeD_one rfl (.pointer (some ⟨w.heap.size, 1, none⟩)) (fun w _ => by kernel_rfl) ?_
  simp only [Act.put, List.setIfInBounds_toArray, List.set_cons_succ, List.set_cons_zero]
  refine wpFreeD_cell rfl rfl rfl ((G.row m1).cell? 1) (by simp) kindI ?_
  simp only [Act.put, List.setIfInBounds_toArray, List.set_cons_succ, List.set_cons_zero]
  refine wpFreeD_carry rfl (.agg #[.slice (some ⟨q, 0, none⟩) n c', .int .i64 k]) (fun w _ => by kernel_rfl) (fun w' => ∃ B, (W.drewN 1).heap.size ≤ B ∧ w'.ownsRow B 32 1 (.slice (some ⟨q, 0, none⟩) n c') n (flist y n) ∧ w.heap.size + 1 < B) (fun w1 w2 hw ⟨B', e1, e2, e3⟩ => ⟨B', e1, ownsRow_out hw e2 e3, e3⟩) (fun w1 hw hb => (hb ⟨5, Ground.data⟩ (by simp) (by kernel_rfl)).1.1.2 rfl) ?_
  simp only [Act.put, List.setIfInBounds_toArray, List.set_cons_succ, List.set_cons_zero]
  refine wpFreeD_out rfl rfl rfl (cells := #[.slice (some ⟨q, 0, none⟩) n c', .int .i64 k]) rfl rfl (G.row m0) rfl (fun w1 w2 hw hb hch => ?_) infoRing rfl (by simp [Value.oneCell']) ?_
  · obtain ⟨B', e1, e2, e3⟩ := (hb ⟨8, Ground.data⟩ (by simp) (by kernel_rfl)).2 rfl
    exact ⟨_, rfl, B', by have := G.size; omega, ownsRow_ch hch e2 e3⟩
  refine wpFreeD_nil (fun w3 hw3 hF => ?_)
  obtain ⟨cs, hr, s', rfl, B', hB', ho⟩ := (hF 9).2 rfl
  have hle : le w w3 := G.below.trans (hw3.1.below (B := w.heap.size) (fun k e => by omega) G.size)
  have hown := (own_of_row ho (fun j hj => (Hx.out j hj).2)).mono hB' (Nat.le_refl _)
  go_wp2
  exact bodyPost_ret (results_row1 rfl _ _ _ _ _ rfl hr Try.underlying27 rfl infoRing) rfl ⟨_, rfl, hown, hle⟩
set_option maxRecDepth 100000 in
set_option maxHeartbeats 2000000 in
theorem s_l02Copy (B : Nat) (s : Value) (x : Nat → Nat) (n : Nat) (k : Int) (g f : Nat) (w : World) (hs : RdS w B s x n) (c0 : w.cell? ⟨g, f, none⟩ = some s) (c1 : w.cell? ⟨g, f + 1, none⟩ = some (.int .i64 k)) (h1 : 1 ≤ n) (h2 : n ≤ 1024) :
    Calls Try.prog 70 #[.pointer (some ⟨g, f, none⟩)] w fun e w' => ∃ s', e = .returned (.agg #[s', .int .i64 k]) ∧ OwnS w' w.heap.size w'.heap.size s' x n ∧ le w w' := by
  obtain ⟨a, cap, y, rfl, hc, hm, hx⟩ := hs.raw h1
  have Hx := hid hx; clear hx hs
  have C0 := hid c0; have C1 := hid c1; clear c0 c1
  unfold maxLen at hm
  obtain ⟨i, hi, hi1, hi2, hi3⟩ := info36
  have HI := hid hi; have HI1 := hid hi1; have HI2 := hid hi2; have HI3 := hid hi3; clear hi hi1 hi2 hi3
  have F := (Frg.nil w).box 27 #[.slice none 0 0, .int .i64 0]
  have hgw : g < w.heap.size := World.block_lt_of_cell? w _ C0.out
  go_enter Try.func70, Try.ntmps70
  go_wp2_with fail
  obtain ⟨W, hW⟩ : ∃ W, W = w.alloc (.cells #[.slice none 0 0, .int .i64 0] 27) := ⟨_, rfl⟩
  rw [← hW] at F ⊢
  have hz : W.heap.size = w.heap.size + 1 := by rw [hW]; simp
  clear hW
  have HZ := hid hz; clear hz
  have G := F.drewN 1
  have D0 := hid ((Below.cell G.below (p := ⟨g, f, none⟩) hgw).trans C0.out)
  have D1 := hid ((Below.cell G.below (p := ⟨g, f + 1, none⟩) hgw).trans C1.out)
  have hcl : ∀ j, j < n → (W.drewN 1).cell? (a.add j) = some (.float .f32 (y j)) ∧ a.block < w.heap.size := fun j hj => by
    have e1 := (Hx.out j hj).1
    have hlt : (a.add j).block < w.heap.size := World.block_lt_of_cell? w _ e1
    exact ⟨(Below.cell G.below hlt).trans e1, by rw [add_block] at hlt; exact hlt⟩
  have HC := hid hcl; clear hcl
  refine region_freeD (E := outX w.heap.size 27 2 (FinR w.heap.size 32 n y k) (FinR_le _ _ _ _ _)) (fun _ _ _ _ => True) (by kernel_rfl) (by kernel_rfl) ?_
  refine wpFreeD_new rfl (fun b => .slice (some ⟨b, 0, none⟩) 0 0) (.cells #[] 32) (fun w => by simp [execOp, run_empty w _ _ i Try.underlying22 HI.out, Result.andThen]) (fun b0 => ?_)
  simp only [Act.put, List.setIfInBounds_toArray, List.set_cons_succ, List.set_cons_zero]
  refine wpFreeD_one rfl (.pointer (some ⟨g, f, none⟩)) (fun w _ => by kernel_rfl) ?_
  simp only [Act.put, List.setIfInBounds_toArray, List.set_cons_succ, List.set_cons_zero]
  refine wpFreeD_one rfl (.pointer (some ⟨g, f, none⟩)) (fun w _ => by kernel_rfl) ?_
  simp only [Act.put, List.setIfInBounds_toArray, List.set_cons_succ, List.set_cons_zero]
  refine wpFreeD_one rfl (.pointer (some ⟨g, f, none⟩)) (fun w _ => by kernel_rfl) ?_
  simp only [Act.put, List.setIfInBounds_toArray, List.set_cons_succ, List.set_cons_zero]
  refine wpFreeD_cell rfl rfl rfl D0.out (by show g ≠ _; omega) kindF ?_
  simp only [Act.put, List.setIfInBounds_toArray, List.set_cons_succ, List.set_cons_zero]
  refine wpFreeD_append rfl rfl Try.underlying22 HI.out HI1.out HI2.out HI3.out rfl rfl h1 (by omega) (fun j hj => (HC.out j hj).1) (by have := (HC.out 0 (by omega)).2; omega) (fun q c' => ?_) (by have := G.row m0; exact this.lt)
  simp only [Act.put, List.setIfInBounds_toArray, List.set_cons_succ, List.set_cons_zero]
  refine wpFreeD_one rfl (.pointer (some ⟨g, f, none⟩)) (fun w _ => by kernel_rfl) ?_
  simp only [Act.put, List.setIfInBounds_toArray, List.set_cons_succ, List.set_cons_zero]
  refine wpFreeD_one rfl (.pointer (some ⟨g, f, none⟩)) (fun w _ => by kernel_rfl) ?_
  simp only [Act.put, List.setIfInBounds_toArray, List.set_cons_succ, List.set_cons_zero]
  refine wpFreeD_one rfl (.pointer (some ⟨g, f + 1, none⟩)) (fun w _ => by kernel_rfl) ?_
  simp only [Act.put, List.setIfInBounds_toArray, List.set_cons_succ, List.set_cons_zero]
  refine wpFreeD_cell rfl rfl rfl D1.out (by show g ≠ _; omega) kindI ?_
  simp only [Act.put, List.setIfInBounds_toArray, List.set_cons_succ, List.set_cons_zero]
  refine wpFreeD_carry rfl (.agg #[.slice (some ⟨q, 0, none⟩) n c', .int .i64 k]) (fun w _ => by kernel_rfl) (fun w' => ∃ B, (W.drewN 1).heap.size ≤ B ∧ w'.ownsRow B 32 1 (.slice (some ⟨q, 0, none⟩) n c') n (flist y n) ∧ w.heap.size < B) (fun w1 w2 hw ⟨B', e1, e2, e3⟩ => ⟨B', e1, ownsRow_out hw e2 e3, e3⟩) (fun w1 hw hb => (hb ⟨5, Ground.data⟩ (by simp) (by kernel_rfl)).1.1.1.1.2 rfl) ?_
  simp only [Act.put, List.setIfInBounds_toArray, List.set_cons_succ, List.set_cons_zero]
  refine wpFreeD_out rfl rfl rfl (cells := #[.slice (some ⟨q, 0, none⟩) n c', .int .i64 k]) rfl rfl (G.row m0) rfl (fun w1 w2 hw hb hch => ?_) infoRing rfl (by simp [Value.oneCell']) ?_
  · obtain ⟨B', e1, e2, e3⟩ := (hb ⟨10, Ground.data⟩ (by simp) (by kernel_rfl)).2 rfl
    exact ⟨_, rfl, B', by have := G.size; omega, ownsRow_ch hch e2 e3⟩
  refine wpFreeD_nil (fun w3 hw3 hF => ?_)
  obtain ⟨cs, hr, s', rfl, B', hB', ho⟩ := (hF 11).2 rfl
  have hle : le w w3 := G.below.trans (hw3.1.below (B := w.heap.size) (fun k e => by omega) G.size)
  have hown := (own_of_row ho (fun j hj => (Hx.out j hj).2)).mono hB' (Nat.le_refl _)
  go_wp2
  exact bodyPost_ret (results_row1 rfl _ _ _ _ _ rfl hr Try.underlying27 rfl infoRing) rfl ⟨_, rfl, hown, hle⟩
theorem i_oldest (B : Nat) (s : Value) (x : Nat → Nat) (n j : Nat) (w : World) (hs : RdS w B s x n) (hj : j < n) (hn : n ≤ 1024) :
    Calls Try.prog 93 #[.agg #[s, .int .i64 j]] w fun e w' => ∃ y, e = .returned (.float .f32 y) ∧ can .f32 y = x j ∧ fits .f32 y ∧ le w w' := by
  obtain ⟨a, cap, y, rfl, hc, hm, hx⟩ := hs.raw (by omega)
  have Hx := hid (hx j hj); clear hx hs
  unfold maxLen at hm
  have HL := hid (le_alloc w (.cells #[.slice (some a) n cap, .int .i64 j] 27))
  have cj := (Below.cell HL.out (World.block_lt_of_cell? w _ Hx.out.1)).trans Hx.out.1
  go_enter Try.func93, Try.ntmps93
  go_wp2
  go_ret
  exact ⟨_, rfl, Hx.out.2.2, Hx.out.2.1, HL.out⟩
set_option maxRecDepth 100000 in
set_option maxHeartbeats 2000000 in
theorem s_l02Push (lo hi : Nat) (s : Value) (x : Nat → Nat) (n j a g f : Nat) (t : TypeId) (cs : Array Value) (w : World) (hs : OwnS w lo hi s x n) (hr : Row w g t cs) (e0 : cs[f]? = some s) (e1 : cs[f + 1]? = some (.int .i64 j)) (hg : ¬ (lo ≤ g ∧ g < hi)) (hj : j < n) (hn : n ≤ 1024) (ha : fits .f32 a) :
    Calls Try.prog 71 #[.pointer (some ⟨g, f, none⟩), .float .f32 a] w (OutPu lo hi s x n j a g f t cs w) := by
  rcases hs with ⟨_, rfl⟩ | ⟨b, o, cap, t', ds, rfl, hc, hm, hb, hb', hrow, hx⟩
  · omega
  obtain ⟨y, ey, fy, cy⟩ := hx j hj
  have c0 : w.cell? ⟨g, f, none⟩ = some (.slice (some ⟨b, o, none⟩) n cap) := (hr.cell? f).trans e0
  have c1 : w.cell? ⟨g, f + 1, none⟩ = some (.int .i64 j) := (hr.cell? (f + 1)).trans e1
  have cb : w.cell? ⟨b, o + j, none⟩ = some (.float .f32 y) := (hrow.cell? (o + j)).trans ey
  have fb := hrow.frozen (o + j)
  have fg := hr.frozen (f + 1)
  have hne : b ≠ g := fun e => hg (e ▸ ⟨hb, hb'⟩)
  have HR := hid hr; have HROW := hid hrow; have HX := hid hx; have HY := hid ey; have HC := hid cy; have E0 := hid e0; have E1 := hid e1; have HM := hid hm
  clear hr hrow hx ey cy e0 e1
  unfold maxLen at hm
  go_enter Try.func71, Try.ntmps71
  go_wp2_with fail
  refine wp_region_loose (fun _ _ _ => True) (by kernel_rfl) (by kernel_rfl) ?_
  repeat (first | (refine wpLoose_quiet rfl ?_; go_big_quiet_step (fail); refine wpQuiet_nil ?_) | (refine wpLoose_nilP rfl rfl rfl ?_; simp only [Act.put, List.setIfInBounds_toArray, List.set_cons_succ, List.set_cons_zero]))
  refine wpLoose_nil (fun m1 => ?_)
  go_wp2_with fail
  refine wp_region_tail (fun _ _ _ => True) 10 (by kernel_rfl) (by kernel_rfl) ?_; simp only [List.take_succ_cons, List.take_zero, List.drop_succ_cons, List.drop_zero]
  repeat (first | (refine wpLoose_quiet rfl ?_; go_big_quiet_step (fail); refine wpQuiet_nil ?_) | (refine wpLoose_nilP rfl rfl rfl ?_; simp only [Act.put, List.setIfInBounds_toArray, List.set_cons_succ, List.set_cons_zero]))
  refine wpLoose_nil (fun m2 => ?_)
  go_wp2_with fail
  have hne' : g ≠ b := fun e => hne e.symm
  refine wp_region_tail (fun _ _ _ => True) 14 (by kernel_rfl) (by kernel_rfl) ?_; simp only [List.take_succ_cons, List.take_zero, List.drop_succ_cons, List.drop_zero]
  repeat (first | (refine wpLoose_quiet rfl ?_; go_big_quiet_step (fail); refine wpQuiet_nil ?_) | (refine wpLoose_nilP rfl rfl rfl ?_; simp only [Act.put, List.setIfInBounds_toArray, List.set_cons_succ, List.set_cons_zero]) | (refine wpLoose_len rfl rfl Try.underlying22 rfl ?_; simp only [Act.put, List.setIfInBounds_toArray, List.set_cons_succ, List.set_cons_zero]))
  refine wpLoose_nil (fun m3 => ?_)
  go_wp2
  go_ret
  refine ⟨y, rfl, HC.out, fy, ?_, own_set j a ((((HROW.out.drewN _).set (o + j) (.float .f32 a)).drewN m3).other ⟨g, f + 1, none⟩ _ hne) hc HM.out hb hb' (Array.getElem?_eq_some_iff.1 HY.out).1 ha HX.out, ?_⟩
  · rw [show (((j + 1) % n : Nat) : Int) = ((j : Int) + 1) % (n : Int) from by simp]
    exact (((HR.out.drewN _).other ⟨b, o + j, none⟩ _ hne').drewN m3).set (f + 1) _
  · exact Chg.setCell (Chg.le (Chg.setCell (Chg.of_le (le_drewN w _)) (.inr ⟨hb, hb'⟩) _) (le_drewN _ m3)) (.inl rfl) _
set_option maxRecDepth 100000 in
set_option maxHeartbeats 2000000 in
theorem i_push (lo hi : Nat) (s : Value) (x : Nat → Nat) (n j a g f : Nat) (t : TypeId) (cs : Array Value) (w : World) (hs : OwnS w lo hi s x n) (hr : Row w g t cs) (e0 : cs[f]? = some s) (e1 : cs[f + 1]? = some (.int .i64 j)) (hg : ¬ (lo ≤ g ∧ g < hi)) (hj : j < n) (hn : n ≤ 1024) (ha : fits .f32 a) :
    Calls Try.prog 73 #[.pointer (some ⟨g, f, none⟩), .float .f32 a] w (OutPu lo hi s x n j a g f t cs w) := by
  have HO := hid (fun (w' : World) (hl : le w w') => i_oldest hi s x n j w' (hs.rd.le hl) hj hn)
  rcases hs with ⟨_, rfl⟩ | ⟨b, o, cap, t', ds, rfl, hc, hm, hb, hb', hrow, hx⟩
  · omega
  have hne : b ≠ g := fun e => hg (e ▸ ⟨hb, hb'⟩)
  have hne' : g ≠ b := fun e => hne e.symm
  have HR := hid hr; have HROW := hid hrow; have HX := hid hx; have E0 := hid e0; have E1 := hid e1; have HM := hid hm
  clear hr hrow hx e0 e1
  unfold maxLen at hm
  have k0 : w.cell? ⟨g, f, none⟩ = some (.slice (some ⟨b, o, none⟩) n cap) := (HR.out.cell? f).trans E0.out
  have k1 : w.cell? ⟨g, f + 1, none⟩ = some (.int .i64 j) := (HR.out.cell? (f + 1)).trans E1.out
  go_enter Try.func73, Try.ntmps73
  go_wp2_with fail
  refine (HO.out _ (le_refl _)).mono ?_
  rintro e w2 ⟨y, rfl, cy, fy, hl⟩
  obtain ⟨y0, ey, _, _⟩ := HX.out j hj
  have HY := hid (Array.getElem?_eq_some_iff.1 ey).1
  have hr2 := HR.out.le hl
  have hrow2 := HROW.out.le hl
  have c0 : w2.cell? ⟨g, f, none⟩ = some (.slice (some ⟨b, o, none⟩) n cap) := (hr2.cell? f).trans E0.out
  have c1 : w2.cell? ⟨g, f + 1, none⟩ = some (.int .i64 j) := (hr2.cell? (f + 1)).trans E1.out
  have cb : w2.cell? ⟨b, o + j, none⟩ = some (.float .f32 y0) := (hrow2.cell? (o + j)).trans ey
  have fb := hrow2.frozen (o + j)
  have fg := hr2.frozen (f + 1)
  have HR2 := hid hr2; have HROW2 := hid hrow2; have HL := hid hl; have HC := hid cy
  clear hr2 hrow2 hl ey cy
  go_wp2_with fail
  refine wp_region_tail (fun _ _ _ => True) 10 (by kernel_rfl) (by kernel_rfl) ?_; simp only [List.take_succ_cons, List.take_zero, List.drop_succ_cons, List.drop_zero]
  repeat (first | (refine wpLoose_quiet rfl ?_; go_big_quiet_step (fail); refine wpQuiet_nil ?_) | (refine wpLoose_nilP rfl rfl rfl ?_; simp only [Act.put, List.setIfInBounds_toArray, List.set_cons_succ, List.set_cons_zero]))
  refine wpLoose_nil (fun m2 => ?_)
  go_wp2_with fail
  refine wp_region_tail (fun _ _ _ => True) 14 (by kernel_rfl) (by kernel_rfl) ?_; simp only [List.take_succ_cons, List.take_zero, List.drop_succ_cons, List.drop_zero]
  repeat (first | (refine wpLoose_quiet rfl ?_; go_big_quiet_step (fail); refine wpQuiet_nil ?_) | (refine wpLoose_nilP rfl rfl rfl ?_; simp only [Act.put, List.setIfInBounds_toArray, List.set_cons_succ, List.set_cons_zero]) | (refine wpLoose_len rfl rfl Try.underlying22 rfl ?_; simp only [Act.put, List.setIfInBounds_toArray, List.set_cons_succ, List.set_cons_zero]))
  refine wpLoose_nil (fun m3 => ?_)
  go_wp2
  go_ret
  refine ⟨y, rfl, HC.out, fy, ?_, own_set j a ((((HROW2.out.drewN _).set (o + j) (.float .f32 a)).drewN m3).other ⟨g, f + 1, none⟩ _ hne) hc HM.out hb hb' HY.out ha HX.out, ?_⟩
  · rw [show (((j + 1) % n : Nat) : Int) = ((j : Int) + 1) % (n : Int) from by simp]
    exact (((HR2.out.drewN _).other ⟨b, o + j, none⟩ _ hne').drewN m3).set (f + 1) _
  · exact Chg.setCell (Chg.le (Chg.setCell (Chg.of_le (le_trans HL.out (le_drewN w2 _))) (.inr ⟨hb, hb'⟩) _) (le_drewN _ m3)) (.inl rfl) _
theorem okRing_nat {n : Nat} {k : Int} (h : okRing n k = true) : 1 ≤ n ∧ n ≤ 1024 ∧ ∃ j : Nat, k = j ∧ j < n := by
  have := okRing_iff.1 h
  exact ⟨this.1, this.2.1, k.toNat, by omega, by omega⟩
set_option maxRecDepth 100000 in
set_option maxHeartbeats 2000000 in
theorem s_Push_no (B : Nat) (s : Value) (x : Nat → Nat) (n : Nat) (k : Int) (a : Nat) (w : World) (hs : RdS w B s x n) (hk : (Lit.int .i64 k).wf = true) (hv : okRing n k = false) :
    Calls Try.prog 22 #[.agg #[s, .int .i64 k], .float .f32 a] w (Out_rfi (fun _ => 0) 0 0 0 1 w) := by
  have HV := hid (fun (w' : World) (g f : Nat) (hl : le w w') (c0 : w'.cell? ⟨g, f, none⟩ = some s) (c1 : w'.cell? ⟨g, f + 1, none⟩ = some (.int .i64 k)) => hv ▸ s_l02RingR B s x n k g f w' (hs.le hl) c0 c1 hk)
  have OC := hid hs.one
  clear hs hk hv
  have F := ((Frg.nil w).box 27 #[s, .int .i64 k]).box 27 #[.slice none 0 0, .int .i64 0]
  simp only [World.size_alloc] at F
  go_enter Try.func22, Try.ntmps22
  go_wp2_with (first | (go_at_call 67; ((with_reducible refine (HV.out _ _ 0 F.below ((F.row m1).cell? 0) ((F.row m1).cell? 1)).mono ?_); rintro e w1 ⟨rfl, rfl⟩)) | ((with_reducible refine stop_store rfl ?_)))
  show wpList _ _ _ _ _ _
  refine wpList_storeD rfl rfl rfl (cells := #[.slice none 0 0, .int .i64 0]) rfl (F.row m0) infoRing rfl (by simp [Value.oneCell']) (fun w4 KW => ?_)
  have R := hid KW.row
  have L := hid (F.below.trans (((Chg.refl (· = w.heap.size + 1) _).wrote KW rfl).below (B := w.heap.size) (fun i hi => by omega) F.size))
  clear KW F
  go_wp2
  exact bodyPost_ret (results_row3 rfl _ _ _ _ _ rfl R.out Try.underlying27 rfl infoRing) rfl ⟨_, _, rfl, .inl ⟨rfl, rfl⟩, by decide, L.out⟩
set_option maxRecDepth 100000 in
set_option maxHeartbeats 2000000 in
theorem s_Push_yes (B : Nat) (s : Value) (x : Nat → Nat) (n j : Nat) (a : Nat) (w : World) (hs : RdS w B s x n) (h1 : 1 ≤ n) (h2 : n ≤ 1024) (hj : j < n) (ha : fits .f32 a) :
    Calls Try.prog 22 #[.agg #[s, .int .i64 j], .float .f32 a] w (Out_rfi (pushX x j a) n (((j + 1) % n : Nat) : Int) (x j) 0 w) := by
  have HV := hid (fun (w' : World) (g f : Nat) (hl : le w w') (c0 : w'.cell? ⟨g, f, none⟩ = some s) (c1 : w'.cell? ⟨g, f + 1, none⟩ = some (.int .i64 j)) => (show okRing n j = true from okRing_iff.2 ⟨h1, h2, by omega, by omega⟩) ▸ s_l02RingR B s x n j g f w' (hs.le hl) c0 c1 (by go_wf))
  have HCP := hid (fun (w' : World) (g f : Nat) (hl : le w w') (c0 : w'.cell? ⟨g, f, none⟩ = some s) (c1 : w'.cell? ⟨g, f + 1, none⟩ = some (.int .i64 j)) => s_l02Copy B s x n j g f w' (hs.le hl) c0 c1 h1 h2)
  have OC := hid hs.one
  have HA := hid ha
  clear hs ha
  have F := ((Frg.nil w).box 27 #[s, .int .i64 j]).box 27 #[.slice none 0 0, .int .i64 0]
  simp only [World.size_alloc] at F
  go_enter Try.func22, Try.ntmps22
  go_wp2_with (first | (go_at_call 67; ((with_reducible refine (HV.out _ _ 0 F.below ((F.row m1).cell? 0) ((F.row m1).cell? 1)).mono ?_); rintro e w1 ⟨rfl, rfl⟩)) | (go_at_call 70; ((with_reducible refine (HCP.out _ _ 0 F.below ((F.row m1).cell? 0) ((F.row m1).cell? 1)).mono ?_); rintro e w2 ⟨s', rfl, ho, hl⟩; have OC2 := hid (OwnS.one ho); replace F := F.own1 hl ho; clear ho hl)) | (refine wpList_storeG F rfl rfl rfl rfl rfl infoRing rfl (one_head OC2.out rfl) ?_; clear F; intro W F zW; clear zW) | (go_at_call 71; ((with_reducible refine (s_l02Push _ _ _ _ n j a _ 0 _ _ _ (F.own m1) (F.row m0) rfl rfl F.not_in hj h2 HA.out).mono ?_); rintro e w3 ⟨o, rfl, co, fo, hr, hown, hch⟩; replace F := F.pushed hr hown hch; have CO := hid co; clear hr hown hch co)) | ((with_reducible refine at_load rfl ?_); (with_reducible refine wpList_loadG F rfl rfl rfl m0 Try.underlying27 rfl infoRing rfl ?_)) | ((with_reducible refine stop_store rfl ?_)))
  show wpList _ _ _ _ _ _
  refine wpList_storeD rfl rfl rfl (cells := #[s', .int .i64 (((j + 1) % n : Nat) : Int)]) rfl (F.row m2) infoRing rfl (one_head OC2.out rfl) (fun w4 KW => ?_)
  have R := hid KW.row
  have L := hid (F.fin1 KW)
  clear KW F
  go_wp2
  exact bodyPost_ret (results_row3 rfl _ _ _ _ _ rfl R.out Try.underlying27 rfl infoRing) rfl ⟨_, _, rfl, L.out.1, CO.out, L.out.2⟩
set_option maxRecDepth 100000 in
set_option maxHeartbeats 2000000 in
theorem i_Push_no (B : Nat) (s : Value) (x : Nat → Nat) (n : Nat) (k : Int) (a : Nat) (w : World) (hs : RdS w B s x n) (hv : okRing n k = false) :
    Calls Try.prog 23 #[.agg #[s, .int .i64 k], .float .f32 a] w (Out_rfi (fun _ => 0) 0 0 0 1 w) := by
  have HV := hid (fun (w' : World) (hl : le w w') => hv ▸ i_ValidRingR B s x n k w' (hs.le hl))
  clear hs hv
  have F := ((Frg.nil w).box 27 #[s, .int .i64 k]).box 27 #[.slice none 0 0, .int .i64 0]
  simp only [World.size_alloc] at F
  go_enter Try.func23, Try.ntmps23
  go_wp2_with (first | ((with_reducible refine at_load rfl ?_); (with_reducible refine wpList_loadG F rfl rfl rfl m1 Try.underlying27 rfl infoRing rfl ?_)) | (go_at_call 18; ((with_reducible refine (HV.out _ F.below).mono ?_); rintro e w1 ⟨rfl, hl⟩; replace F := F.le hl; clear hl)) | ((with_reducible refine stop_store rfl ?_)))
  show wpList _ _ _ _ _ _
  refine wpList_storeD rfl rfl rfl (cells := #[.slice none 0 0, .int .i64 0]) rfl (F.row m0) infoRing rfl (by simp [Value.oneCell']) (fun w4 KW => ?_)
  have R := hid KW.row
  have L := hid (F.below.trans (((Chg.refl (· = w.heap.size + 1) _).wrote KW rfl).below (B := w.heap.size) (fun i hi => by omega) F.size))
  clear KW F
  go_wp2
  exact bodyPost_ret (results_row3 rfl _ _ _ _ _ rfl R.out Try.underlying27 rfl infoRing) rfl ⟨_, _, rfl, .inl ⟨rfl, rfl⟩, by decide, L.out⟩
set_option maxRecDepth 100000 in
set_option maxHeartbeats 2000000 in
theorem i_Push_yes (B : Nat) (s : Value) (x : Nat → Nat) (n j : Nat) (a : Nat) (w : World) (hs : RdS w B s x n) (h1 : 1 ≤ n) (h2 : n ≤ 1024) (hj : j < n) (ha : fits .f32 a) :
    Calls Try.prog 23 #[.agg #[s, .int .i64 j], .float .f32 a] w (Out_rfi (pushX x j a) n (((j + 1) % n : Nat) : Int) (x j) 0 w) := by
  have HV := hid (fun (w' : World) (hl : le w w') => (show okRing n j = true from okRing_iff.2 ⟨h1, h2, by omega, by omega⟩) ▸ i_ValidRingR B s x n j w' (hs.le hl))
  have HCP := hid (fun (w' : World) (hl : le w w') => i_copied B s x n j w' (hs.le hl) h1 h2)
  have HA := hid ha
  clear hs ha
  have F := ((Frg.nil w).box 27 #[s, .int .i64 j]).box 27 #[.slice none 0 0, .int .i64 0]
  simp only [World.size_alloc] at F
  go_enter Try.func23, Try.ntmps23
  go_wp2_with (first | (go_at_call 18; ((with_reducible refine (HV.out _ F.below).mono ?_); rintro e w1 ⟨rfl, hl⟩; replace F := F.le hl; clear hl)) | (go_at_call 72; ((with_reducible refine (HCP.out _ F.below).mono ?_); rintro e w2 ⟨s', rfl, ho, hl⟩; have OC2 := hid (OwnS.one ho); replace F := F.own1 hl ho; clear ho hl)) | (refine wpList_storeG F rfl rfl rfl rfl rfl infoRing rfl (one_head OC2.out rfl) ?_; clear F; intro W F zW; clear zW) | (go_at_call 73; ((with_reducible refine (i_push _ _ _ _ n j a _ 0 _ _ _ (F.own m1) (F.row m0) rfl rfl F.not_in hj h2 HA.out).mono ?_); rintro e w3 ⟨o, rfl, co, fo, hr, hown, hch⟩; replace F := F.pushed hr hown hch; have CO := hid co; clear hr hown hch co)) | ((with_reducible refine at_load rfl ?_); first | (with_reducible refine wpList_loadG F rfl rfl rfl m0 Try.underlying27 rfl infoRing rfl ?_) | (with_reducible refine wpList_loadG F rfl rfl rfl m1 Try.underlying27 rfl infoRing rfl ?_)) | ((with_reducible refine stop_store rfl ?_)))
  show wpList _ _ _ _ _ _
  refine wpList_storeD rfl rfl rfl (cells := #[s', .int .i64 (((j + 1) % n : Nat) : Int)]) rfl (F.row m2) infoRing rfl (one_head OC2.out rfl) (fun w4 KW => ?_)
  have R := hid KW.row
  have L := hid (F.fin1 KW)
  clear KW F
  go_wp2
  exact bodyPost_ret (results_row3 rfl _ _ _ _ _ rfl R.out Try.underlying27 rfl infoRing) rfl ⟨_, _, rfl, L.out.1, CO.out, L.out.2⟩
theorem both_PushSample (x : Nat → Nat) (n : Nat) (k : Int) (a : Nat) (hk : (Lit.int .i64 k).wf = true) (ha : fits .f32 a) : ∃ (x' : Nat → Nat) (n' : Nat) (k' : Int) (o : Nat) (c : Int), n' ≤ 1048576 ∧ (∀ (w : World) (B : Nat) (u : Value), RdS w B u x n → Calls Try.prog 22 #[.agg #[u, .int .i64 k], .float .f32 a] w (Out_rfi x' n' k' o c w)) ∧ (∀ (w : World) (B : Nat) (u : Value), RdS w B u x n → Calls Try.prog 23 #[.agg #[u, .int .i64 k], .float .f32 a] w (Out_rfi x' n' k' o c w)) := by
  cases hv : okRing n k
  · exact ⟨_, _, _, _, _, by omega, fun w B u h => s_Push_no B u x n k a w h hk hv, fun w B u h => i_Push_no B u x n k a w h hv⟩
  · obtain ⟨h1, h2, j, rfl, hj⟩ := okRing_nat hv
    exact ⟨_, n, _, _, _, by omega, fun w B u h => s_Push_yes B u x n j a w h h1 h2 hj ha, fun w B u h => i_Push_yes B u x n j a w h h1 h2 hj ha⟩
end Go.Proofs.Ytaenbpkcehenkaa
