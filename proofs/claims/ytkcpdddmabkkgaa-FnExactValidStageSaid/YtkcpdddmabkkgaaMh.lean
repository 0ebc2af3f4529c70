/- Texts of the walk, laid in one file. -/
import Derived.Test.YtkcpdddmabkkgaaMg
set_option linter.unusedVariables false
set_option linter.unusedSimpArgs false
/- The laws' helpers for Stage, over trees of data. -/
namespace Go.Proofs.Ytkcpdddmabkkgaa
open Go.RowKit Go.Fk
set_option maxRecDepth 100000 in
set_option maxHeartbeats 4000000 in
theorem szU_Stage (B : Nat) (cs : List CD) (vs : List Value) (m r : Int) (w : World) (h : RdL w B cs vs) (hsh : ShOkL shStage cs) (h0 : 0 ≤ m) (h1 : m ≤ 1048576) (hr : lessBy m (szL cs) = r) :
    Calls Try.prog 4 #[.agg vs.toArray, .int .i64 m] w (OutI r w) := by
  obtain ⟨c0, cs, rfl, q0, hsh⟩ := hsh.inv
  obtain ⟨c1, cs, rfl, q1, hsh⟩ := hsh.inv
  obtain ⟨c2, cs, rfl, q2, hsh⟩ := hsh.inv
  obtain ⟨c3, cs, rfl, q3, hsh⟩ := hsh.inv
  obtain ⟨c4, cs, rfl, q4, hsh⟩ := hsh.inv
  obtain ⟨c5, cs, rfl, q5, hsh⟩ := hsh.inv
  obtain ⟨c6, cs, rfl, q6, hsh⟩ := hsh.inv
  obtain ⟨c7, cs, rfl, q7, hsh⟩ := hsh.inv
  obtain ⟨c8, cs, rfl, q8, hsh⟩ := hsh.inv
  obtain rfl := hsh.inv0
  obtain ⟨v0, vs, rfl, r0, h⟩ := h.inv
  obtain ⟨v1, vs, rfl, r1, h⟩ := h.inv
  obtain ⟨v2, vs, rfl, r2, h⟩ := h.inv
  obtain ⟨v3, vs, rfl, r3, h⟩ := h.inv
  obtain ⟨v4, vs, rfl, r4, h⟩ := h.inv
  obtain ⟨v5, vs, rfl, r5, h⟩ := h.inv
  obtain ⟨v6, vs, rfl, r6, h⟩ := h.inv
  obtain ⟨v7, vs, rfl, r7, h⟩ := h.inv
  obtain ⟨v8, vs, rfl, r8, h⟩ := h.inv
  obtain rfl := h.inv0
  have q0 : c0.flk = some .f32 := q0
  obtain ⟨y0, rfl, f0, e0⟩ := r0.fl q0
  have q1 : c1.flk = some .f32 := q1
  obtain ⟨y1, rfl, f1, e1⟩ := r1.fl q1
  have q2 : c2.flk = some .f32 := q2
  obtain ⟨y2, rfl, f2, e2⟩ := r2.fl q2
  obtain ⟨z6, rfl⟩ := q6
  obtain ⟨rfl, wf6⟩ := r6
  obtain ⟨z7, rfl⟩ := q7
  obtain ⟨rfl, wf7⟩ := r7
  obtain ⟨z8, rfl⟩ := q8
  obtain ⟨rfl, wf8⟩ := r8
  obtain ⟨a0, ha0⟩ : ∃ a : Nat, a = szL [c0, c1, c2, c3, c4, c5] := ⟨_, rfl⟩
  have H0 := hid (fun (m r : Int) (w' : World) (hl : le w w') (h0 : 0 ≤ m) (h1 : m ≤ 1048576) (hr : lessBy m a0 = r) => szU_Score B _ [.float .f32 y0, .float .f32 y1, .float .f32 y2, v3, v4, v5] m r w' (RdL.cons (c := c0) (r0.le hl) (RdL.cons (c := c1) (r1.le hl) (RdL.cons (c := c2) (r2.le hl) (RdL.cons (c := c3) (r3.le hl) (RdL.cons (c := c4) (r4.le hl) (RdL.cons (c := c5) (r5.le hl) (RdL.nil _ _))))))) (ShOkL.cons q0 (ShOkL.cons q1 (ShOkL.cons q2 (ShOkL.cons q3 (ShOkL.cons q4 (ShOkL.cons q5 (ShOkL.nil))))))) h0 h1 (ha0 ▸ hr))
  replace hr : Hid (lessBy m (a0) = r) := by rw [← hr]; congr 1; try (first | (simp only [szL, List.map_cons, List.map_nil, List.sum_cons, List.sum_nil, CD.sz, ha0, CD.sz_fl q0, CD.sz_fl q1, CD.sz_fl q2]; done) | (simp only [szL, List.map_cons, List.map_nil, List.sum_cons, List.sum_nil, CD.sz, ha0, CD.sz_fl q0, CD.sz_fl q1, CD.sz_fl q2]; omega))
  clear ha0
  have F := (Frg.nil w).box 31 #[.float .f32 y0, .float .f32 y1, .float .f32 y2, v3, v4, v5, .int .i64 z6, .int .i64 z7, .int .i64 z8]
  by_cases g0 : m - (a0 : Int) < 0
  · have er : r = -1 := by have := hr.out; rw [lessBy_neg (by omega)] at this; omega
    subst er
    clear hr
    go_enter Try.func4, Try.ntmps4
    go_wp2_with (first | ((with_reducible refine at_load rfl ?_); first | (with_reducible refine wpList_loadGP F rfl rfl rfl (by first | exact m0) Try.underlying29 rfl [.float .f32 y0, .float .f32 y1, .float .f32 y2, v3, v4, v5] (partStage_Score (.float .f32 y0) (.float .f32 y1) (.float .f32 y2) (v3) (v4) (v5) (.int .i64 z6) (.int .i64 z7) (.int .i64 z8)) uinfoScoreL rfl ?_) | (with_reducible refine wpList_load1 F rfl rfl rfl (by first | exact m0) (f := 6) (v := .int .i64 z6) rfl ukindInt64 ?_) | (with_reducible refine wpList_load1 F rfl rfl rfl (by first | exact m0) (f := 7) (v := .int .i64 z7) rfl ukindInt64 ?_) | (with_reducible refine wpList_load1 F rfl rfl rfl (by first | exact m0) (f := 8) (v := .int .i64 z8) rfl ukindInt64 ?_)) | (go_at_call 9; ((with_reducible refine (H0.out m (-1 : Int) _ F.below (by omega) (by omega) (by exact lessBy_neg (by omega))).mono ?_); rintro e w1 ⟨rfl, hl⟩; replace F := F.le hl; clear hl)))
    go_ret
    exact ⟨rfl, F.below⟩
  · skip
    have er : r = (m - (a0 : Int)) := by have := hr.out; rw [lessBy_pos (by omega)] at this; omega
    subst er
    clear hr
    go_enter Try.func4, Try.ntmps4
    go_wp2_with (first | ((with_reducible refine at_load rfl ?_); first | (with_reducible refine wpList_loadGP F rfl rfl rfl (by first | exact m0) Try.underlying29 rfl [.float .f32 y0, .float .f32 y1, .float .f32 y2, v3, v4, v5] (partStage_Score (.float .f32 y0) (.float .f32 y1) (.float .f32 y2) (v3) (v4) (v5) (.int .i64 z6) (.int .i64 z7) (.int .i64 z8)) uinfoScoreL rfl ?_) | (with_reducible refine wpList_load1 F rfl rfl rfl (by first | exact m0) (f := 6) (v := .int .i64 z6) rfl ukindInt64 ?_) | (with_reducible refine wpList_load1 F rfl rfl rfl (by first | exact m0) (f := 7) (v := .int .i64 z7) rfl ukindInt64 ?_) | (with_reducible refine wpList_load1 F rfl rfl rfl (by first | exact m0) (f := 8) (v := .int .i64 z8) rfl ukindInt64 ?_)) | (go_at_call 9; ((with_reducible refine (H0.out m (m - (a0 : Int)) _ F.below (by omega) (by omega) (by exact lessBy_pos (by omega))).mono ?_); rintro e w1 ⟨rfl, hl⟩; replace F := F.le hl; clear hl)))
    go_ret
    exact ⟨rfl, F.below⟩
set_option maxRecDepth 100000 in
set_option maxHeartbeats 4000000 in
theorem eqU_Stage (B B' : Nat) (cs : List CD) (vs vs' : List Value) (w : World) (h : RdL w B cs vs) (h' : RdL w B' cs vs') (hsh : ShOkL shStage cs) (hz : szL cs ≤ 1048576) :
    Calls Try.prog 8 #[.agg vs.toArray, .agg vs'.toArray] w (OutT w) := by
  obtain ⟨c0, cs, rfl, q0, hsh⟩ := hsh.inv
  obtain ⟨c1, cs, rfl, q1, hsh⟩ := hsh.inv
  obtain ⟨c2, cs, rfl, q2, hsh⟩ := hsh.inv
  obtain ⟨c3, cs, rfl, q3, hsh⟩ := hsh.inv
  obtain ⟨c4, cs, rfl, q4, hsh⟩ := hsh.inv
  obtain ⟨c5, cs, rfl, q5, hsh⟩ := hsh.inv
  obtain ⟨c6, cs, rfl, q6, hsh⟩ := hsh.inv
  obtain ⟨c7, cs, rfl, q7, hsh⟩ := hsh.inv
  obtain ⟨c8, cs, rfl, q8, hsh⟩ := hsh.inv
  obtain rfl := hsh.inv0
  obtain ⟨v0, vs, rfl, r0, h⟩ := h.inv
  obtain ⟨v1, vs, rfl, r1, h⟩ := h.inv
  obtain ⟨v2, vs, rfl, r2, h⟩ := h.inv
  obtain ⟨v3, vs, rfl, r3, h⟩ := h.inv
  obtain ⟨v4, vs, rfl, r4, h⟩ := h.inv
  obtain ⟨v5, vs, rfl, r5, h⟩ := h.inv
  obtain ⟨v6, vs, rfl, r6, h⟩ := h.inv
  obtain ⟨v7, vs, rfl, r7, h⟩ := h.inv
  obtain ⟨v8, vs, rfl, r8, h⟩ := h.inv
  obtain rfl := h.inv0
  obtain ⟨v0', vs', rfl, r0', h'⟩ := h'.inv
  obtain ⟨v1', vs', rfl, r1', h'⟩ := h'.inv
  obtain ⟨v2', vs', rfl, r2', h'⟩ := h'.inv
  obtain ⟨v3', vs', rfl, r3', h'⟩ := h'.inv
  obtain ⟨v4', vs', rfl, r4', h'⟩ := h'.inv
  obtain ⟨v5', vs', rfl, r5', h'⟩ := h'.inv
  obtain ⟨v6', vs', rfl, r6', h'⟩ := h'.inv
  obtain ⟨v7', vs', rfl, r7', h'⟩ := h'.inv
  obtain ⟨v8', vs', rfl, r8', h'⟩ := h'.inv
  obtain rfl := h'.inv0
  have q0 : c0.flk = some .f32 := q0
  obtain ⟨y0, rfl, f0, e0⟩ := r0.fl q0
  obtain ⟨y0', rfl, f0', e0'⟩ := r0'.fl q0
  have q1 : c1.flk = some .f32 := q1
  obtain ⟨y1, rfl, f1, e1⟩ := r1.fl q1
  obtain ⟨y1', rfl, f1', e1'⟩ := r1'.fl q1
  have q2 : c2.flk = some .f32 := q2
  obtain ⟨y2, rfl, f2, e2⟩ := r2.fl q2
  obtain ⟨y2', rfl, f2', e2'⟩ := r2'.fl q2
  obtain ⟨z6, rfl⟩ := q6
  obtain ⟨rfl, wf6⟩ := r6
  obtain ⟨rfl, wf6'⟩ := r6'
  obtain ⟨z7, rfl⟩ := q7
  obtain ⟨rfl, wf7⟩ := r7
  obtain ⟨rfl, wf7'⟩ := r7'
  obtain ⟨z8, rfl⟩ := q8
  obtain ⟨rfl, wf8⟩ := r8
  obtain ⟨rfl, wf8'⟩ := r8'
  have HZ := hid hz
  have H0 := hid (fun (w' : World) (hl : le w w') => eqU_Score B B' [c0, c1, c2, c3, c4, c5] [.float .f32 y0, .float .f32 y1, .float .f32 y2, v3, v4, v5] [.float .f32 y0', .float .f32 y1', .float .f32 y2', v3', v4', v5'] w' (RdL.cons (c := c0) (r0.le hl) (RdL.cons (c := c1) (r1.le hl) (RdL.cons (c := c2) (r2.le hl) (RdL.cons (c := c3) (r3.le hl) (RdL.cons (c := c4) (r4.le hl) (RdL.cons (c := c5) (r5.le hl) (RdL.nil _ _))))))) (RdL.cons (c := c0) (r0'.le hl) (RdL.cons (c := c1) (r1'.le hl) (RdL.cons (c := c2) (r2'.le hl) (RdL.cons (c := c3) (r3'.le hl) (RdL.cons (c := c4) (r4'.le hl) (RdL.cons (c := c5) (r5'.le hl) (RdL.nil _ _))))))) (ShOkL.cons q0 (ShOkL.cons q1 (ShOkL.cons q2 (ShOkL.cons q3 (ShOkL.cons q4 (ShOkL.cons q5 (ShOkL.nil))))))) (szL_le HZ.out 0 6 rfl))
  have F := ((Frg.nil w).box 40 #[.float .f32 y0, .float .f32 y1, .float .f32 y2, v3, v4, v5, .int .i64 z6, .int .i64 z7, .int .i64 z8]).box 40 #[.float .f32 y0', .float .f32 y1', .float .f32 y2', v3', v4', v5', .int .i64 z6, .int .i64 z7, .int .i64 z8]
  simp only [World.size_alloc] at F
  clear hz HZ
  go_enter Try.func8, Try.ntmps8
  go_wp2_with (first | ((with_reducible refine listN F ?_); clear F; intro wN F) | ((with_reducible refine at_load rfl ?_); first | (with_reducible refine wpList_loadGP F rfl rfl rfl (by first | exact m0 | exact m1) Try.underlying38 rfl [.float .f32 y0, .float .f32 y1, .float .f32 y2, v3, v4, v5] (partStage_Score (.float .f32 y0) (.float .f32 y1) (.float .f32 y2) (v3) (v4) (v5) (.int .i64 z6) (.int .i64 z7) (.int .i64 z8)) uinfoScoreI rfl ?_) | (with_reducible refine wpList_load1 F rfl rfl rfl (by first | exact m0 | exact m1) (f := 6) (v := .int .i64 z6) rfl ukindInt64 ?_) | (with_reducible refine wpList_load1 F rfl rfl rfl (by first | exact m0 | exact m1) (f := 7) (v := .int .i64 z7) rfl ukindInt64 ?_) | (with_reducible refine wpList_load1 F rfl rfl rfl (by first | exact m0 | exact m1) (f := 8) (v := .int .i64 z8) rfl ukindInt64 ?_) | (with_reducible refine wpList_loadGP F rfl rfl rfl (by first | exact m0 | exact m1) Try.underlying38 rfl [.float .f32 y0', .float .f32 y1', .float .f32 y2', v3', v4', v5'] (partStage_Score (.float .f32 y0') (.float .f32 y1') (.float .f32 y2') (v3') (v4') (v5') (.int .i64 z6) (.int .i64 z7) (.int .i64 z8)) uinfoScoreI rfl ?_) | (with_reducible refine wpList_load1 F rfl rfl rfl (by first | exact m0 | exact m1) (f := 6) (v := .int .i64 z6) rfl ukindInt64 ?_) | (with_reducible refine wpList_load1 F rfl rfl rfl (by first | exact m0 | exact m1) (f := 7) (v := .int .i64 z7) rfl ukindInt64 ?_) | (with_reducible refine wpList_load1 F rfl rfl rfl (by first | exact m0 | exact m1) (f := 8) (v := .int .i64 z8) rfl ukindInt64 ?_)) | (go_at_call 13; ((with_reducible refine (H0.out _ F.below).mono ?_); rintro e w1 ⟨rfl, hl⟩; replace F := F.le hl; clear hl)))
  go_ret
  first | exact ⟨rfl, F.below⟩ | exact ⟨rfl, below_drewN F.below _⟩
theorem invf_Stage {w : World} {S : Nat → Prop} {us : List Value} (c0 : CD) (c1 : CD) (c2 : CD) (n3 : Nat) (x3 : Nat → CD) (n4 : Nat) (x4 : Nat → CD) (n5 : Nat) (x5 : Nat → CD) (z6 : Int) (z7 : Int) (z8 : Int) (q0 : c0.flk = some .f32) (q1 : c1.flk = some .f32) (q2 : c2.flk = some .f32) (h : LayL w S (([(c0), (c1), (c2), (.sl 1 n3 x3), (.sl 5 n4 x4), (.sl 6 n5 x5), (.int .i64 z6), (.int .i64 z7), (.int .i64 z8)] : List CD).map CD.cp) us) : ∃ (g0 : Nat) (g1 : Nat) (g2 : Nat) (u3 : Value) (u4 : Value) (u5 : Value), u3.oneCell' = true ∧ u4.oneCell' = true ∧ u5.oneCell' = true ∧ us = [.float .f32 g0, .float .f32 g1, .float .f32 g2, u3, u4, u5, .int .i64 z6, .int .i64 z7, .int .i64 z8] ∧ LayL w S (([(c0), (c1), (c2), (.sl 1 n3 x3), (.sl 5 n4 x4), (.sl 6 n5 x5), (.int .i64 z6), (.int .i64 z7), (.int .i64 z8)] : List CD).map CD.cp) [.float .f32 g0, .float .f32 g1, .float .f32 g2, u3, u4, u5, .int .i64 z6, .int .i64 z7, .int .i64 z8] := by
  have h0 := h
  simp only [List.map_cons, List.map_nil] at h
  obtain ⟨u0, us0, _, _, rfl, l0, hh0, _, _, _⟩ := h.inv
  obtain ⟨g0, rfl⟩ := lay_fl q0 l0
  obtain ⟨u1, us1, _, _, rfl, l1, hh1, _, _, _⟩ := hh0.inv
  obtain ⟨g1, rfl⟩ := lay_fl q1 l1
  obtain ⟨u2, us2, _, _, rfl, l2, hh2, _, _, _⟩ := hh1.inv
  obtain ⟨g2, rfl⟩ := lay_fl q2 l2
  obtain ⟨u3, us3, _, _, rfl, l3, hh3, _, _, _⟩ := hh2.inv
  obtain ⟨u4, us4, _, _, rfl, l4, hh4, _, _, _⟩ := hh3.inv
  obtain ⟨u5, us5, _, _, rfl, l5, hh5, _, _, _⟩ := hh4.inv
  obtain ⟨u6, us6, _, _, rfl, l6, hh6, _, _, _⟩ := hh5.inv
  obtain ⟨rfl, _⟩ := l6
  obtain ⟨u7, us7, _, _, rfl, l7, hh7, _, _, _⟩ := hh6.inv
  obtain ⟨rfl, _⟩ := l7
  obtain ⟨u8, us8, _, _, rfl, l8, hh8, _, _, _⟩ := hh7.inv
  obtain ⟨rfl, _⟩ := l8
  obtain rfl := hh8.inv0
  exact ⟨g0, g1, g2, u3, u4, u5, l3.one, l4.one, l5.one, rfl, h0⟩
set_option maxRecDepth 100000 in
set_option maxHeartbeats 4000000 in
theorem toU_Stage (B : Nat) (cs : List CD) (vs : List Value) (w : World) (h : RdL w B cs vs) (hsh : ShOkL shStage cs) (hz : szL cs ≤ 1048576) :
    Calls Try.prog 6 #[.agg vs.toArray] w (OutA' (cs.map CD.cp) w) := by
  obtain ⟨c0, cs, rfl, q0, hsh⟩ := hsh.inv
  obtain ⟨c1, cs, rfl, q1, hsh⟩ := hsh.inv
  obtain ⟨c2, cs, rfl, q2, hsh⟩ := hsh.inv
  obtain ⟨c3, cs, rfl, q3, hsh⟩ := hsh.inv
  obtain ⟨c4, cs, rfl, q4, hsh⟩ := hsh.inv
  obtain ⟨c5, cs, rfl, q5, hsh⟩ := hsh.inv
  obtain ⟨c6, cs, rfl, q6, hsh⟩ := hsh.inv
  obtain ⟨c7, cs, rfl, q7, hsh⟩ := hsh.inv
  obtain ⟨c8, cs, rfl, q8, hsh⟩ := hsh.inv
  obtain rfl := hsh.inv0
  obtain ⟨v0, vs, rfl, r0, h⟩ := h.inv
  obtain ⟨v1, vs, rfl, r1, h⟩ := h.inv
  obtain ⟨v2, vs, rfl, r2, h⟩ := h.inv
  obtain ⟨v3, vs, rfl, r3, h⟩ := h.inv
  obtain ⟨v4, vs, rfl, r4, h⟩ := h.inv
  obtain ⟨v5, vs, rfl, r5, h⟩ := h.inv
  obtain ⟨v6, vs, rfl, r6, h⟩ := h.inv
  obtain ⟨v7, vs, rfl, r7, h⟩ := h.inv
  obtain ⟨v8, vs, rfl, r8, h⟩ := h.inv
  obtain rfl := h.inv0
  have q0 : c0.flk = some .f32 := q0
  obtain ⟨y0, rfl, f0, e0⟩ := r0.fl q0
  have q1 : c1.flk = some .f32 := q1
  obtain ⟨y1, rfl, f1, e1⟩ := r1.fl q1
  have q2 : c2.flk = some .f32 := q2
  obtain ⟨y2, rfl, f2, e2⟩ := r2.fl q2
  obtain ⟨z6, rfl⟩ := q6
  obtain ⟨rfl, wf6⟩ := r6
  obtain ⟨z7, rfl⟩ := q7
  obtain ⟨rfl, wf7⟩ := r7
  obtain ⟨z8, rfl⟩ := q8
  obtain ⟨rfl, wf8⟩ := r8
  have HZ := hid hz
  have H0 := hid (fun (w' : World) (hl : le w w') => toU_Score B [c0, c1, c2, c3, c4, c5] [.float .f32 y0, .float .f32 y1, .float .f32 y2, v3, v4, v5] w' (RdL.cons (c := c0) (r0.le hl) (RdL.cons (c := c1) (r1.le hl) (RdL.cons (c := c2) (r2.le hl) (RdL.cons (c := c3) (r3.le hl) (RdL.cons (c := c4) (r4.le hl) (RdL.cons (c := c5) (r5.le hl) (RdL.nil _ _))))))) (ShOkL.cons q0 (ShOkL.cons q1 (ShOkL.cons q2 (ShOkL.cons q3 (ShOkL.cons q4 (ShOkL.cons q5 (ShOkL.nil))))))) (szL_le HZ.out 0 6 rfl))
  obtain ⟨n3, x3, rfl, -⟩ := q3
  obtain ⟨n4, x4, rfl, -⟩ := q4
  obtain ⟨n5, x5, rfl, -⟩ := q5
  have F := (((Frg.nil w).box 31 #[.float .f32 y0, .float .f32 y1, .float .f32 y2, v3, v4, v5, .int .i64 z6, .int .i64 z7, .int .i64 z8]).box 40 #[.float .f32 0, .float .f32 0, .float .f32 0, .slice none 0 0, .slice none 0 0, .slice none 0 0, .int .i64 0, .int .i64 0, .int .i64 0]).box 40 #[.float .f32 0, .float .f32 0, .float .f32 0, .slice none 0 0, .slice none 0 0, .slice none 0 0, .int .i64 0, .int .i64 0, .int .i64 0]
  simp only [World.size_alloc] at F
  clear hz HZ
  go_enter Try.func6, Try.ntmps6
  go_wp2_with (first | ((with_reducible refine listN F ?_); clear F; intro wN F) | ((with_reducible refine at_load rfl ?_); first | (with_reducible refine wpList_loadGP F rfl rfl rfl (by first | exact m0 | exact m1 | exact m2 | exact m3) Try.underlying29 rfl [.float .f32 y0, .float .f32 y1, .float .f32 y2, v3, v4, v5] (partStage_Score (.float .f32 y0) (.float .f32 y1) (.float .f32 y2) (v3) (v4) (v5) (.int .i64 z6) (.int .i64 z7) (.int .i64 z8)) uinfoScoreL rfl ?_) | (with_reducible refine wpList_load1 F rfl rfl rfl (by first | exact m0 | exact m1 | exact m2 | exact m3) (f := 6) (v := .int .i64 z6) rfl ukindInt64 ?_) | (with_reducible refine wpList_load1 F rfl rfl rfl (by first | exact m0 | exact m1 | exact m2 | exact m3) (f := 7) (v := .int .i64 z7) rfl ukindInt64 ?_) | (with_reducible refine wpList_load1 F rfl rfl rfl (by first | exact m0 | exact m1 | exact m2 | exact m3) (f := 8) (v := .int .i64 z8) rfl ukindInt64 ?_)) | (go_at_call 11; ((with_reducible refine (H0.out _ F.below).mono ?_); rintro e w1 ⟨us, rfl, ho, hl⟩; obtain ⟨g0, g1, g2, u3, u4, u5, O3, O4, O5, rfl, ho⟩ := invf_Score _ _ _ _ _ _ _ _ _ q0 q1 q2 ho; have O3 := hid O3; have O4 := hid O4; have O5 := hid O5; replace F := F.lay1 hl ho; clear ho hl)) | (with_reducible refine stop_store rfl ?_))
  show wpList _ _ _ _ _ _
  refine wpList_storeP rfl rfl rfl (f := 0) (cells := [.float .f32 g0, .float .f32 g1, .float .f32 g2, u3, u4, u5]) rfl (F.row m1) uinfoScoreI (by simp) (by (simp only [List.all_toArray', List.all_cons, List.all_nil, Bool.and_true, Bool.true_and, O3.out, O4.out, O5.out]) <;> rfl) (fun w2 K => ?_)
  replace F := F.wrI1 (cs' := #[.float .f32 g0, .float .f32 g1, .float .f32 g2, u3, u4, u5, .int .i64 0, .int .i64 0, .int .i64 0]) K
  clear K
  go_wp2_with (first | ((with_reducible refine listN F ?_); clear F; intro wN F) | ((with_reducible refine at_load rfl ?_); first | (with_reducible refine wpList_loadGP F rfl rfl rfl (by first | exact m0 | exact m1 | exact m2 | exact m3 | exact m4) Try.underlying29 rfl [.float .f32 y0, .float .f32 y1, .float .f32 y2, v3, v4, v5] (partStage_Score (.float .f32 y0) (.float .f32 y1) (.float .f32 y2) (v3) (v4) (v5) (.int .i64 z6) (.int .i64 z7) (.int .i64 z8)) uinfoScoreL rfl ?_) | (with_reducible refine wpList_load1 F rfl rfl rfl (by first | exact m0 | exact m1 | exact m2 | exact m3 | exact m4) (f := 6) (v := .int .i64 z6) rfl ukindInt64 ?_) | (with_reducible refine wpList_load1 F rfl rfl rfl (by first | exact m0 | exact m1 | exact m2 | exact m3 | exact m4) (f := 7) (v := .int .i64 z7) rfl ukindInt64 ?_) | (with_reducible refine wpList_load1 F rfl rfl rfl (by first | exact m0 | exact m1 | exact m2 | exact m3 | exact m4) (f := 8) (v := .int .i64 z8) rfl ukindInt64 ?_)) | (with_reducible refine stop_store rfl ?_))
  show wpList _ _ _ _ _ _
  refine wpList_store1 rfl rfl (f := 6) rfl rfl (F.row m1) uinfo1Int64 (by simp) rfl #[.float .f32 g0, .float .f32 g1, .float .f32 g2, u3, u4, u5, .int .i64 z6, .int .i64 0, .int .i64 0] rfl (fun w2 K => ?_)
  replace F := F.wrI1 (cs' := #[.float .f32 g0, .float .f32 g1, .float .f32 g2, u3, u4, u5, .int .i64 z6, .int .i64 0, .int .i64 0]) K
  clear K
  go_wp2_with (first | ((with_reducible refine listN F ?_); clear F; intro wN F) | ((with_reducible refine at_load rfl ?_); first | (with_reducible refine wpList_loadGP F rfl rfl rfl (by first | exact m0 | exact m1 | exact m2 | exact m3 | exact m4) Try.underlying29 rfl [.float .f32 y0, .float .f32 y1, .float .f32 y2, v3, v4, v5] (partStage_Score (.float .f32 y0) (.float .f32 y1) (.float .f32 y2) (v3) (v4) (v5) (.int .i64 z6) (.int .i64 z7) (.int .i64 z8)) uinfoScoreL rfl ?_) | (with_reducible refine wpList_load1 F rfl rfl rfl (by first | exact m0 | exact m1 | exact m2 | exact m3 | exact m4) (f := 6) (v := .int .i64 z6) rfl ukindInt64 ?_) | (with_reducible refine wpList_load1 F rfl rfl rfl (by first | exact m0 | exact m1 | exact m2 | exact m3 | exact m4) (f := 7) (v := .int .i64 z7) rfl ukindInt64 ?_) | (with_reducible refine wpList_load1 F rfl rfl rfl (by first | exact m0 | exact m1 | exact m2 | exact m3 | exact m4) (f := 8) (v := .int .i64 z8) rfl ukindInt64 ?_)) | (with_reducible refine stop_store rfl ?_))
  show wpList _ _ _ _ _ _
  refine wpList_store1 rfl rfl (f := 7) rfl rfl (F.row m1) uinfo1Int64 (by simp) rfl #[.float .f32 g0, .float .f32 g1, .float .f32 g2, u3, u4, u5, .int .i64 z6, .int .i64 z7, .int .i64 0] rfl (fun w2 K => ?_)
  replace F := F.wrI1 (cs' := #[.float .f32 g0, .float .f32 g1, .float .f32 g2, u3, u4, u5, .int .i64 z6, .int .i64 z7, .int .i64 0]) K
  clear K
  go_wp2_with (first | ((with_reducible refine listN F ?_); clear F; intro wN F) | ((with_reducible refine at_load rfl ?_); first | (with_reducible refine wpList_loadGP F rfl rfl rfl (by first | exact m0 | exact m1 | exact m2 | exact m3 | exact m4) Try.underlying29 rfl [.float .f32 y0, .float .f32 y1, .float .f32 y2, v3, v4, v5] (partStage_Score (.float .f32 y0) (.float .f32 y1) (.float .f32 y2) (v3) (v4) (v5) (.int .i64 z6) (.int .i64 z7) (.int .i64 z8)) uinfoScoreL rfl ?_) | (with_reducible refine wpList_load1 F rfl rfl rfl (by first | exact m0 | exact m1 | exact m2 | exact m3 | exact m4) (f := 6) (v := .int .i64 z6) rfl ukindInt64 ?_) | (with_reducible refine wpList_load1 F rfl rfl rfl (by first | exact m0 | exact m1 | exact m2 | exact m3 | exact m4) (f := 7) (v := .int .i64 z7) rfl ukindInt64 ?_) | (with_reducible refine wpList_load1 F rfl rfl rfl (by first | exact m0 | exact m1 | exact m2 | exact m3 | exact m4) (f := 8) (v := .int .i64 z8) rfl ukindInt64 ?_)) | (with_reducible refine stop_store rfl ?_))
  show wpList _ _ _ _ _ _
  refine wpList_store1 rfl rfl (f := 8) rfl rfl (F.row m1) uinfo1Int64 (by simp) rfl #[.float .f32 g0, .float .f32 g1, .float .f32 g2, u3, u4, u5, .int .i64 z6, .int .i64 z7, .int .i64 z8] rfl (fun w2 K => ?_)
  replace F := F.wrI1 (cs' := #[.float .f32 g0, .float .f32 g1, .float .f32 g2, u3, u4, u5, .int .i64 z6, .int .i64 z7, .int .i64 z8]) K
  clear K
  go_wp2_with (first | ((with_reducible refine listN F ?_); clear F; intro wN F) | ((with_reducible refine at_load rfl ?_); (with_reducible refine wpList_loadG F rfl rfl rfl (by first | exact m0 | exact m1) Try.underlying40 rfl uinfoStageI rfl ?_)) | (with_reducible refine stop_store rfl ?_))
  show wpList _ _ _ _ _ _
  refine wpList_storeD rfl rfl rfl (cells := #[.float .f32 g0, .float .f32 g1, .float .f32 g2, u3, u4, u5, .int .i64 z6, .int .i64 z7, .int .i64 z8]) rfl (F.row m2) uinfoStageI rfl (by (simp only [List.all_toArray', List.all_cons, List.all_nil, Bool.and_true, Bool.true_and, O3.out, O4.out, O5.out]) <;> rfl) (fun w6 K => ?_)
  have R := hid K.row
  replace F := F.wrI2 K
  have E0 := Eaten.start F
  replace E0 := Eaten.leaf (c := .int .i64 z8) (v := .int .i64 z8) E0 (show CD.Lay _ _ _ _ from ⟨rfl, wf8⟩)
  replace E0 := Eaten.leaf (c := .int .i64 z7) (v := .int .i64 z7) E0 (show CD.Lay _ _ _ _ from ⟨rfl, wf7⟩)
  replace E0 := Eaten.leaf (c := .int .i64 z6) (v := .int .i64 z6) E0 (show CD.Lay _ _ _ _ from ⟨rfl, wf6⟩)
  replace E0 := Eaten.eat F E0
  replace F := F.tl
  have L := hid (show LayL _ _ _ _ ∧ le w _ from ⟨E0.fin, F.below⟩)
  clear K F E0
  go_wp2
  exact bodyPost_ret (results_row1 rfl _ _ _ _ _ rfl R.out Try.underlying40 rfl uinfoStageI) rfl ⟨[.float .f32 g0, .float .f32 g1, .float .f32 g2, u3, u4, u5, .int .i64 z6, .int .i64 z7, .int .i64 z8], rfl, L.out.1, L.out.2⟩
end Go.Proofs.Ytkcpdddmabkkgaa

/- 'ValidStage' of both. -/
namespace Go.Fk
open Go Go.RowKit
def inZ (l g z : Int) : Bool := decide (l ≤ z) && decide (z ≤ g)
/-- Is a stage valid? c tells whether its score is. -/
def okSt (c : Bool) (z1 z2 z3 : Int) : Bool := c && inZ 1 6 z1 && inZ 1 12 z2 && inZ 1 3 z3
end Go.Fk
namespace Go.Proofs.Ytkcpdddmabkkgaa
open Go.RowKit Go.Fk
theorem stage_data {cs : List CD} (h : HasShL shStage cs) : ∃ (r b o : Nat) (xD : Nat → CD) (nD : Nat) (xI : Nat → CD) (nI : Nat) (xE : Nat → CD) (nE : Nat) (z1 z2 z3 : Int), cs = [.flt .f32 r, .flt .f32 b, .flt .f32 o, .sl 1 nD xD, .sl 5 nI xI, .sl 6 nE xE, .int .i64 z1, .int .i64 z2, .int .i64 z3] ∧ (∀ i, i < nD → (xD i).flk = some .f32) ∧ InsOk (fun i => (xI i).cn) nI ∧ EvsOk (fun i => (xE i).cn) nE := by
  obtain ⟨c0, cs, rfl, q0, h⟩ := h.inv
  obtain ⟨c1, cs, rfl, q1, h⟩ := h.inv
  obtain ⟨c2, cs, rfl, q2, h⟩ := h.inv
  obtain ⟨c3, cs, rfl, q3, h⟩ := h.inv
  obtain ⟨c4, cs, rfl, q4, h⟩ := h.inv
  obtain ⟨c5, cs, rfl, q5, h⟩ := h.inv
  obtain ⟨c6, cs, rfl, q6, h⟩ := h.inv
  obtain ⟨c7, cs, rfl, q7, h⟩ := h.inv
  obtain ⟨c8, cs, rfl, q8, h⟩ := h.inv
  obtain rfl := h.inv0
  obtain ⟨z1, rfl⟩ := q6
  obtain ⟨z2, rfl⟩ := q7
  obtain ⟨z3, rfl⟩ := q8
  obtain ⟨r, rfl⟩ := q0
  obtain ⟨b, rfl⟩ := q1
  obtain ⟨o, rfl⟩ := q2
  obtain ⟨nD, xD, rfl, r0⟩ := q3
  obtain ⟨nI, xI, rfl, r1⟩ := q4
  obtain ⟨nE, xE, rfl, r2⟩ := q5
  refine ⟨r, b, o, xD, nD, xI, nI, xE, nE, z1, z2, z3, rfl, fun i hi => ShOk.flts (fun i hi j hj => (r0 i hi j hj).ok) rfl i hi, ?_, ?_⟩
  · exact ins_ok (x := fun i => (xI i).cn) (fun i hi j hj => ((r1 i hi j hj).ok).cn) rfl rfl rfl rfl rfl
  · exact evs_ok (x := fun i => (xE i).cn) (fun i hi j hj => ((r2 i hi j hj).ok).cn) rfl rfl rfl rfl rfl rfl
theorem stage_open {r b o nD nI nE : Nat} {z1 z2 z3 : Int} {xD xI xE : Nat → CD} {w : World} {B : Nat} {u : List Value} (h : RdLN w B (([.flt .f32 r, .flt .f32 b, .flt .f32 o, .sl 1 nD xD, .sl 5 nI xI, .sl 6 nE xE, .int .i64 z1, .int .i64 z2, .int .i64 z3] : List CD).map CD.cp) u) (hx : ∀ i, i < nD → (xD i).flk = some .f32) : ∃ sD sI sE : Value, u = [.float .f32 r, .float .f32 b, .float .f32 o, sD, sI, sE, .int .i64 z1, .int .i64 z2, .int .i64 z3] ∧ (slT (fun i => (xD i).fx) nD).RdN w B sD ∧ (CD.sl 5 nI (fun i => (xI i).cn)).RdN w B sI ∧ (CD.sl 6 nE (fun i => (xE i).cn)).RdN w B sE ∧ fits .f32 r ∧ fits .f32 b ∧ fits .f32 o := by
  simp only [List.map_cons, List.map_nil] at h
  obtain ⟨v0, u0, rfl, q0, hh0⟩ := h.inv
  obtain ⟨v1, u1, rfl, q1, hh1⟩ := hh0.inv
  obtain ⟨v2, u2, rfl, q2, hh2⟩ := hh1.inv
  obtain ⟨v3, u3, rfl, q3, hh3⟩ := hh2.inv
  obtain ⟨v4, u4, rfl, q4, hh4⟩ := hh3.inv
  obtain ⟨v5, u5, rfl, q5, hh5⟩ := hh4.inv
  obtain ⟨v6, u6, rfl, q6, hh6⟩ := hh5.inv
  obtain ⟨v7, u7, rfl, q7, hh7⟩ := hh6.inv
  obtain ⟨v8, u8, rfl, q8, hh8⟩ := hh7.inv
  obtain rfl := hh8.inv0
  obtain ⟨rfl, g6⟩ := q6
  obtain ⟨rfl, g7⟩ := q7
  obtain ⟨rfl, g8⟩ := q8
  obtain ⟨rfl, f0⟩ := q0
  obtain ⟨rfl, f1⟩ := q1
  obtain ⟨rfl, f2⟩ := q2
  exact ⟨v3, v4, v5, rfl, q3.congr (slT_cp hx), q4, q5, f0, f1, f2⟩
set_option maxRecDepth 100000 in
set_option maxHeartbeats 4000000 in
theorem s_l10Shape (B : Nat) (sD : Value) (pI : Option Addr) (capI : Nat) (pE : Option Addr) (capE : Nat) (r b o : Nat) (xD : Nat → Nat) (nD : Nat) (xI : Nat → CD) (nI : Nat) (xE : Nat → CD) (nE : Nat) (z1 z2 z3 : Int) (w : World) (hD : (slT xD nD).RdN w B sD) (hI : (CD.sl 5 nI xI).RdN w B (.slice pI nI capI)) (hE : (CD.sl 6 nE xE).RdN w B (.slice pE nE capE)) (kI : InsOk xI nI) (kE : EvsOk xE nE) (g : Nat) (R : Row w g 40 #[.float .f32 r, .float .f32 b, .float .f32 o, sD, .slice pI nI capI, .slice pE nE capE, .int .i64 z1, .int .i64 z2, .int .i64 z3]) : Calls Try.prog 10 #[.pointer (some ⟨g, 0, none⟩)] w (Out_b (okSt (okSc r b o xD nD xI nI xE nE) z1 z2 z3) w) := by
  have HV := hid (s_l08OkG g B sD pI capI pE capE r b o xD nD xI nI xE nE w z1 z2 z3 R hD hI hE kI kE)
  have RS := hid (fun (w1 : World) (hl : le w w1) => R.le hl)
  clear hD hI hE kI kE R
  obtain ⟨c, hc⟩ : ∃ c, c = okSc r b o xD nD xI nI xE nE := ⟨_, rfl⟩
  rw [← hc] at HV ⊢
  clear hc
  have F := Frg.nil w
  have H1 := hid (fun (w : World) => s_In z1 1 6 w)
  have H2 := hid (fun (w : World) => s_In z2 1 12 w)
  have H3 := hid (fun (w : World) => s_In z3 1 3 w)
  rcases bool_ft (c) with d0 | d0
  · have E := hid (show okSt c z1 z2 z3 = false by unfold okSt; rw [d0]; rfl)
    rw [d0] at HV
    clear d0
    go_enter Try.func10, Try.ntmps10
    go_wp2_with (first | ((with_reducible refine listN F ?_); clear F; intro wN F) | ((with_reducible refine at_load rfl ?_); first | (with_reducible refine wpList_load1C rfl (g := g) (f := 6) rfl (v := .int .i64 z1) (by kernel_rfl) (RS.out _ F.below) rfl ukindInt64 ?_) | (with_reducible refine wpList_load1C rfl (g := g) (f := 7) rfl (v := .int .i64 z2) (by kernel_rfl) (RS.out _ F.below) rfl ukindInt64 ?_) | (with_reducible refine wpList_load1C rfl (g := g) (f := 8) rfl (v := .int .i64 z3) (by kernel_rfl) (RS.out _ F.below) rfl ukindInt64 ?_)) | (go_at_call 17; ((with_reducible refine HV.out.mono ?_); rintro e w1 ⟨rfl, hl⟩; replace F := F.le hl; clear hl)) | (go_at_call 18; first | ((with_reducible refine (H1.out _).mono ?_); rintro e w1 ⟨rfl, rfl⟩; skip) | ((with_reducible refine (H2.out _).mono ?_); rintro e w1 ⟨rfl, rfl⟩; skip) | ((with_reducible refine (H3.out _).mono ?_); rintro e w1 ⟨rfl, rfl⟩; skip)))
    go_ret
    exact ⟨ret_b (by rw [E.out]), F.below⟩
  have t0 := hid d0
  rw [d0] at HV
  clear d0
  rcases bool_ft (decide (1 ≤ z1) && decide (z1 ≤ 6)) with d1 | d1
  · have E := hid (show okSt c z1 z2 z3 = false by unfold okSt inZ; rw [d1]; simp)
    rw [d1] at H1
    clear d1
    go_enter Try.func10, Try.ntmps10
    go_wp2_with (first | ((with_reducible refine listN F ?_); clear F; intro wN F) | ((with_reducible refine at_load rfl ?_); first | (with_reducible refine wpList_load1C rfl (g := g) (f := 6) rfl (v := .int .i64 z1) (by kernel_rfl) (RS.out _ F.below) rfl ukindInt64 ?_) | (with_reducible refine wpList_load1C rfl (g := g) (f := 7) rfl (v := .int .i64 z2) (by kernel_rfl) (RS.out _ F.below) rfl ukindInt64 ?_) | (with_reducible refine wpList_load1C rfl (g := g) (f := 8) rfl (v := .int .i64 z3) (by kernel_rfl) (RS.out _ F.below) rfl ukindInt64 ?_)) | (go_at_call 17; ((with_reducible refine HV.out.mono ?_); rintro e w1 ⟨rfl, hl⟩; replace F := F.le hl; clear hl)) | (go_at_call 18; first | ((with_reducible refine (H1.out _).mono ?_); rintro e w1 ⟨rfl, rfl⟩; skip) | ((with_reducible refine (H2.out _).mono ?_); rintro e w1 ⟨rfl, rfl⟩; skip) | ((with_reducible refine (H3.out _).mono ?_); rintro e w1 ⟨rfl, rfl⟩; skip)))
    go_ret
    exact ⟨ret_b (by rw [E.out]), F.below⟩
  have t1 := hid d1
  rw [d1] at H1
  clear d1
  rcases bool_ft (decide (1 ≤ z2) && decide (z2 ≤ 12)) with d2 | d2
  · have E := hid (show okSt c z1 z2 z3 = false by unfold okSt inZ; rw [d2]; simp)
    rw [d2] at H2
    clear d2
    go_enter Try.func10, Try.ntmps10
    go_wp2_with (first | ((with_reducible refine listN F ?_); clear F; intro wN F) | ((with_reducible refine at_load rfl ?_); first | (with_reducible refine wpList_load1C rfl (g := g) (f := 6) rfl (v := .int .i64 z1) (by kernel_rfl) (RS.out _ F.below) rfl ukindInt64 ?_) | (with_reducible refine wpList_load1C rfl (g := g) (f := 7) rfl (v := .int .i64 z2) (by kernel_rfl) (RS.out _ F.below) rfl ukindInt64 ?_) | (with_reducible refine wpList_load1C rfl (g := g) (f := 8) rfl (v := .int .i64 z3) (by kernel_rfl) (RS.out _ F.below) rfl ukindInt64 ?_)) | (go_at_call 17; ((with_reducible refine HV.out.mono ?_); rintro e w1 ⟨rfl, hl⟩; replace F := F.le hl; clear hl)) | (go_at_call 18; first | ((with_reducible refine (H1.out _).mono ?_); rintro e w1 ⟨rfl, rfl⟩; skip) | ((with_reducible refine (H2.out _).mono ?_); rintro e w1 ⟨rfl, rfl⟩; skip) | ((with_reducible refine (H3.out _).mono ?_); rintro e w1 ⟨rfl, rfl⟩; skip)))
    go_ret
    exact ⟨ret_b (by rw [E.out]), F.below⟩
  have t2 := hid d2
  rw [d2] at H2
  clear d2
  rcases bool_ft (decide (1 ≤ z3) && decide (z3 ≤ 3)) with d3 | d3
  · have E := hid (show okSt c z1 z2 z3 = false by unfold okSt inZ; rw [d3]; simp)
    rw [d3] at H3
    clear d3
    go_enter Try.func10, Try.ntmps10
    go_wp2_with (first | ((with_reducible refine listN F ?_); clear F; intro wN F) | ((with_reducible refine at_load rfl ?_); first | (with_reducible refine wpList_load1C rfl (g := g) (f := 6) rfl (v := .int .i64 z1) (by kernel_rfl) (RS.out _ F.below) rfl ukindInt64 ?_) | (with_reducible refine wpList_load1C rfl (g := g) (f := 7) rfl (v := .int .i64 z2) (by kernel_rfl) (RS.out _ F.below) rfl ukindInt64 ?_) | (with_reducible refine wpList_load1C rfl (g := g) (f := 8) rfl (v := .int .i64 z3) (by kernel_rfl) (RS.out _ F.below) rfl ukindInt64 ?_)) | (go_at_call 17; ((with_reducible refine HV.out.mono ?_); rintro e w1 ⟨rfl, hl⟩; replace F := F.le hl; clear hl)) | (go_at_call 18; first | ((with_reducible refine (H1.out _).mono ?_); rintro e w1 ⟨rfl, rfl⟩; skip) | ((with_reducible refine (H2.out _).mono ?_); rintro e w1 ⟨rfl, rfl⟩; skip) | ((with_reducible refine (H3.out _).mono ?_); rintro e w1 ⟨rfl, rfl⟩; skip)))
    go_ret
    exact ⟨ret_b (by rw [E.out]), F.below⟩
  have E := hid (show okSt c z1 z2 z3 = true by unfold okSt inZ; rw [t0.out, t1.out, t2.out, d3]; rfl)
  rw [d3] at H3
  clear d3
  go_enter Try.func10, Try.ntmps10
  go_wp2_with (first | ((with_reducible refine listN F ?_); clear F; intro wN F) | ((with_reducible refine at_load rfl ?_); first | (with_reducible refine wpList_load1C rfl (g := g) (f := 6) rfl (v := .int .i64 z1) (by kernel_rfl) (RS.out _ F.below) rfl ukindInt64 ?_) | (with_reducible refine wpList_load1C rfl (g := g) (f := 7) rfl (v := .int .i64 z2) (by kernel_rfl) (RS.out _ F.below) rfl ukindInt64 ?_) | (with_reducible refine wpList_load1C rfl (g := g) (f := 8) rfl (v := .int .i64 z3) (by kernel_rfl) (RS.out _ F.below) rfl ukindInt64 ?_)) | (go_at_call 17; ((with_reducible refine HV.out.mono ?_); rintro e w1 ⟨rfl, hl⟩; replace F := F.le hl; clear hl)) | (go_at_call 18; first | ((with_reducible refine (H1.out _).mono ?_); rintro e w1 ⟨rfl, rfl⟩; skip) | ((with_reducible refine (H2.out _).mono ?_); rintro e w1 ⟨rfl, rfl⟩; skip) | ((with_reducible refine (H3.out _).mono ?_); rintro e w1 ⟨rfl, rfl⟩; skip)))
  go_ret
  exact ⟨ret_b (by rw [E.out]), F.below⟩
set_option maxRecDepth 100000 in
set_option maxHeartbeats 4000000 in
theorem s_ValidStage (B : Nat) (sD : Value) (pI : Option Addr) (capI : Nat) (pE : Option Addr) (capE : Nat) (r b o : Nat) (xD : Nat → Nat) (nD : Nat) (xI : Nat → CD) (nI : Nat) (xE : Nat → CD) (nE : Nat) (z1 z2 z3 : Int) (w : World) (hD : (slT xD nD).RdN w B sD) (hI : (CD.sl 5 nI xI).RdN w B (.slice pI nI capI)) (hE : (CD.sl 6 nE xE).RdN w B (.slice pE nE capE)) (kI : InsOk xI nI) (kE : EvsOk xE nE) : Calls Try.prog 5 #[.agg #[.float .f32 r, .float .f32 b, .float .f32 o, sD, .slice pI nI capI, .slice pE nE capE, .int .i64 z1, .int .i64 z2, .int .i64 z3]] w (Out_b (okSt (okSc r b o xD nD xI nI xE nE) z1 z2 z3) w) := by
  have HSh := hid (fun (w1 : World) (hl : le w w1) (g : Nat) (R : Row w1 g 40 #[.float .f32 r, .float .f32 b, .float .f32 o, sD, .slice pI nI capI, .slice pE nE capE, .int .i64 z1, .int .i64 z2, .int .i64 z3]) => s_l10Shape B sD pI capI pE capE r b o xD nD xI nI xE nE z1 z2 z3 w1 (hD.le hl) (hI.le hl) (hE.le hl) kI kE g R)
  clear hD hI hE kI kE
  have F := (Frg.nil w).box 40 #[.float .f32 r, .float .f32 b, .float .f32 o, sD, .slice pI nI capI, .slice pE nE capE, .int .i64 z1, .int .i64 z2, .int .i64 z3]
  go_enter Try.func5, Try.ntmps5
  go_wp2_with (first | (go_at_call 10; ((with_reducible refine (HSh.out _ F.below _ (F.row m0)).mono ?_); rintro e w1 ⟨rfl, hl⟩; replace F := F.le hl; clear hl)) | ((with_reducible refine listN F ?_); clear F; intro wN F))
  go_ret
  exact ⟨rfl, F.below⟩
theorem scAt (r b o : Nat) (sD sI sE a1 a2 a3 : Value) : ∀ j, j < [Value.float .f32 r, .float .f32 b, .float .f32 o, sD, sI, sE].length → (#[Value.float .f32 r, .float .f32 b, .float .f32 o, sD, sI, sE, a1, a2, a3] : Array Value)[0 + j]? = [Value.float .f32 r, .float .f32 b, .float .f32 o, sD, sI, sE][j]? := fun j hj => by match j, hj with | 0, _ => rfl | 1, _ => rfl | 2, _ => rfl | 3, _ => rfl | 4, _ => rfl | 5, _ => rfl
set_option maxRecDepth 100000 in
set_option maxHeartbeats 4000000 in
theorem i_ValidStage (B : Nat) (sD : Value) (pI : Option Addr) (capI : Nat) (pE : Option Addr) (capE : Nat) (r b o : Nat) (xD : Nat → Nat) (nD : Nat) (xI : Nat → CD) (nI : Nat) (xE : Nat → CD) (nE : Nat) (z1 z2 z3 : Int) (w : World) (hD : (slT xD nD).RdN w B sD) (hI : (CD.sl 5 nI xI).RdN w B (.slice pI nI capI)) (hE : (CD.sl 6 nE xE).RdN w B (.slice pE nE capE)) (kI : InsOk xI nI) (kE : EvsOk xE nE) : Calls Try.prog 7 #[.agg #[.float .f32 r, .float .f32 b, .float .f32 o, sD, .slice pI nI capI, .slice pE nE capE, .int .i64 z1, .int .i64 z2, .int .i64 z3]] w (Out_b (okSt (okSc r b o xD nD xI nI xE nE) z1 z2 z3) w) := by
  have HV := hid (fun (w1 : World) (hl : le w w1) => i_ValidScore B sD pI capI pE capE r b o xD nD xI nI xE nE w1 (hD.le hl) (hI.le hl) (hE.le hl) kI kE)
  clear hD hI hE kI kE
  obtain ⟨c, hc⟩ : ∃ c, c = okSc r b o xD nD xI nI xE nE := ⟨_, rfl⟩
  rw [← hc] at HV ⊢
  clear hc
  have F := (Frg.nil w).box 40 #[.float .f32 r, .float .f32 b, .float .f32 o, sD, .slice pI nI capI, .slice pE nE capE, .int .i64 z1, .int .i64 z2, .int .i64 z3]
  have RS := hid (fun (w1 : World) (hl : le (w.alloc (.cells #[.float .f32 r, .float .f32 b, .float .f32 o, sD, .slice pI nI capI, .slice pE nE capE, .int .i64 z1, .int .i64 z2, .int .i64 z3] 40)) w1) => (Row.new w 40 #[.float .f32 r, .float .f32 b, .float .f32 o, sD, .slice pI nI capI, .slice pE nE capE, .int .i64 z1, .int .i64 z2, .int .i64 z3]).le hl)
  clear RS
  rcases bool_ft c with d0 | d0
  · have E := hid (show okSt c z1 z2 z3 = false by unfold okSt; rw [d0]; rfl)
    rw [d0] at HV
    clear d0
    go_enter Try.func7, Try.ntmps7
    go_wp2_with (first | ((with_reducible refine listN F ?_); clear F; intro wN F) | ((with_reducible refine at_load rfl ?_); first | (with_reducible refine wpList_loadGP F rfl rfl rfl m0 Try.underlying38 rfl [.float .f32 r, .float .f32 b, .float .f32 o, sD, .slice pI nI capI, .slice pE nE capE] (scAt r b o sD (.slice pI nI capI) (.slice pE nE capE) (.int .i64 z1) (.int .i64 z2) (.int .i64 z3)) uinfoScoreI rfl ?_) | (with_reducible refine wpList_load1C rfl (g := w.heap.size) (f := 6) rfl (v := .int .i64 z1) (by kernel_rfl) (F.row m0) rfl ukindInt64 ?_) | (with_reducible refine wpList_load1C rfl (g := w.heap.size) (f := 7) rfl (v := .int .i64 z2) (by kernel_rfl) (F.row m0) rfl ukindInt64 ?_) | (with_reducible refine wpList_load1C rfl (g := w.heap.size) (f := 8) rfl (v := .int .i64 z3) (by kernel_rfl) (F.row m0) rfl ukindInt64 ?_)) | (go_at_call 12; ((with_reducible refine (HV.out _ F.below).mono ?_); rintro e w1 ⟨rfl, hl⟩; replace F := F.le hl; clear hl)))
    go_ret
    exact ⟨ret_b (by rw [E.out] <;> first | rfl | (simp <;> omega)), F.below⟩
  have t0 := hid d0
  rw [d0] at HV
  clear d0
  by_cases lz1 : ¬ 1 ≤ z1
  · have E := hid (show okSt c z1 z2 z3 = false by unfold okSt; rw [show inZ 1 6 z1 = false by unfold inZ; simp [show ¬ 1 ≤ z1 by omega]]; simp)
    have nn : z1 < 1 := by omega
    clear lz1
    go_enter Try.func7, Try.ntmps7
    go_wp2_with (first | ((with_reducible refine listN F ?_); clear F; intro wN F) | ((with_reducible refine at_load rfl ?_); first | (with_reducible refine wpList_loadGP F rfl rfl rfl m0 Try.underlying38 rfl [.float .f32 r, .float .f32 b, .float .f32 o, sD, .slice pI nI capI, .slice pE nE capE] (scAt r b o sD (.slice pI nI capI) (.slice pE nE capE) (.int .i64 z1) (.int .i64 z2) (.int .i64 z3)) uinfoScoreI rfl ?_) | (with_reducible refine wpList_load1C rfl (g := w.heap.size) (f := 6) rfl (v := .int .i64 z1) (by kernel_rfl) (F.row m0) rfl ukindInt64 ?_) | (with_reducible refine wpList_load1C rfl (g := w.heap.size) (f := 7) rfl (v := .int .i64 z2) (by kernel_rfl) (F.row m0) rfl ukindInt64 ?_) | (with_reducible refine wpList_load1C rfl (g := w.heap.size) (f := 8) rfl (v := .int .i64 z3) (by kernel_rfl) (F.row m0) rfl ukindInt64 ?_)) | (go_at_call 12; ((with_reducible refine (HV.out _ F.below).mono ?_); rintro e w1 ⟨rfl, hl⟩; replace F := F.le hl; clear hl)))
    go_ret
    exact ⟨ret_b (by rw [E.out] <;> first | rfl | (simp <;> omega)), F.below⟩
  replace lz1 : 1 ≤ z1 := by omega
  by_cases gz1 : ¬ z1 ≤ 6
  · have E := hid (show okSt c z1 z2 z3 = false by unfold okSt; rw [show inZ 1 6 z1 = false by unfold inZ; simp [show ¬ z1 ≤ 6 by omega]]; simp)
    have nn : 6 < z1 := by omega
    clear gz1
    go_enter Try.func7, Try.ntmps7
    go_wp2_with (first | ((with_reducible refine listN F ?_); clear F; intro wN F) | ((with_reducible refine at_load rfl ?_); first | (with_reducible refine wpList_loadGP F rfl rfl rfl m0 Try.underlying38 rfl [.float .f32 r, .float .f32 b, .float .f32 o, sD, .slice pI nI capI, .slice pE nE capE] (scAt r b o sD (.slice pI nI capI) (.slice pE nE capE) (.int .i64 z1) (.int .i64 z2) (.int .i64 z3)) uinfoScoreI rfl ?_) | (with_reducible refine wpList_load1C rfl (g := w.heap.size) (f := 6) rfl (v := .int .i64 z1) (by kernel_rfl) (F.row m0) rfl ukindInt64 ?_) | (with_reducible refine wpList_load1C rfl (g := w.heap.size) (f := 7) rfl (v := .int .i64 z2) (by kernel_rfl) (F.row m0) rfl ukindInt64 ?_) | (with_reducible refine wpList_load1C rfl (g := w.heap.size) (f := 8) rfl (v := .int .i64 z3) (by kernel_rfl) (F.row m0) rfl ukindInt64 ?_)) | (go_at_call 12; ((with_reducible refine (HV.out _ F.below).mono ?_); rintro e w1 ⟨rfl, hl⟩; replace F := F.le hl; clear hl)))
    go_ret
    exact ⟨ret_b (by rw [E.out] <;> first | rfl | (simp <;> omega)), F.below⟩
  replace gz1 : z1 ≤ 6 := by omega
  by_cases lz2 : ¬ 1 ≤ z2
  · have E := hid (show okSt c z1 z2 z3 = false by unfold okSt; rw [show inZ 1 12 z2 = false by unfold inZ; simp [show ¬ 1 ≤ z2 by omega]]; simp)
    have nn : z2 < 1 := by omega
    clear lz2
    go_enter Try.func7, Try.ntmps7
    go_wp2_with (first | ((with_reducible refine listN F ?_); clear F; intro wN F) | ((with_reducible refine at_load rfl ?_); first | (with_reducible refine wpList_loadGP F rfl rfl rfl m0 Try.underlying38 rfl [.float .f32 r, .float .f32 b, .float .f32 o, sD, .slice pI nI capI, .slice pE nE capE] (scAt r b o sD (.slice pI nI capI) (.slice pE nE capE) (.int .i64 z1) (.int .i64 z2) (.int .i64 z3)) uinfoScoreI rfl ?_) | (with_reducible refine wpList_load1C rfl (g := w.heap.size) (f := 6) rfl (v := .int .i64 z1) (by kernel_rfl) (F.row m0) rfl ukindInt64 ?_) | (with_reducible refine wpList_load1C rfl (g := w.heap.size) (f := 7) rfl (v := .int .i64 z2) (by kernel_rfl) (F.row m0) rfl ukindInt64 ?_) | (with_reducible refine wpList_load1C rfl (g := w.heap.size) (f := 8) rfl (v := .int .i64 z3) (by kernel_rfl) (F.row m0) rfl ukindInt64 ?_)) | (go_at_call 12; ((with_reducible refine (HV.out _ F.below).mono ?_); rintro e w1 ⟨rfl, hl⟩; replace F := F.le hl; clear hl)))
    go_ret
    exact ⟨ret_b (by rw [E.out] <;> first | rfl | (simp <;> omega)), F.below⟩
  replace lz2 : 1 ≤ z2 := by omega
  by_cases gz2 : ¬ z2 ≤ 12
  · have E := hid (show okSt c z1 z2 z3 = false by unfold okSt; rw [show inZ 1 12 z2 = false by unfold inZ; simp [show ¬ z2 ≤ 12 by omega]]; simp)
    have nn : 12 < z2 := by omega
    clear gz2
    go_enter Try.func7, Try.ntmps7
    go_wp2_with (first | ((with_reducible refine listN F ?_); clear F; intro wN F) | ((with_reducible refine at_load rfl ?_); first | (with_reducible refine wpList_loadGP F rfl rfl rfl m0 Try.underlying38 rfl [.float .f32 r, .float .f32 b, .float .f32 o, sD, .slice pI nI capI, .slice pE nE capE] (scAt r b o sD (.slice pI nI capI) (.slice pE nE capE) (.int .i64 z1) (.int .i64 z2) (.int .i64 z3)) uinfoScoreI rfl ?_) | (with_reducible refine wpList_load1C rfl (g := w.heap.size) (f := 6) rfl (v := .int .i64 z1) (by kernel_rfl) (F.row m0) rfl ukindInt64 ?_) | (with_reducible refine wpList_load1C rfl (g := w.heap.size) (f := 7) rfl (v := .int .i64 z2) (by kernel_rfl) (F.row m0) rfl ukindInt64 ?_) | (with_reducible refine wpList_load1C rfl (g := w.heap.size) (f := 8) rfl (v := .int .i64 z3) (by kernel_rfl) (F.row m0) rfl ukindInt64 ?_)) | (go_at_call 12; ((with_reducible refine (HV.out _ F.below).mono ?_); rintro e w1 ⟨rfl, hl⟩; replace F := F.le hl; clear hl)))
    go_ret
    exact ⟨ret_b (by rw [E.out] <;> first | rfl | (simp <;> omega)), F.below⟩
  replace gz2 : z2 ≤ 12 := by omega
  by_cases lz3 : ¬ 1 ≤ z3
  · have E := hid (show okSt c z1 z2 z3 = false by unfold okSt; rw [show inZ 1 3 z3 = false by unfold inZ; simp [show ¬ 1 ≤ z3 by omega]]; simp)
    have nn : z3 < 1 := by omega
    clear lz3
    go_enter Try.func7, Try.ntmps7
    go_wp2_with (first | ((with_reducible refine listN F ?_); clear F; intro wN F) | ((with_reducible refine at_load rfl ?_); first | (with_reducible refine wpList_loadGP F rfl rfl rfl m0 Try.underlying38 rfl [.float .f32 r, .float .f32 b, .float .f32 o, sD, .slice pI nI capI, .slice pE nE capE] (scAt r b o sD (.slice pI nI capI) (.slice pE nE capE) (.int .i64 z1) (.int .i64 z2) (.int .i64 z3)) uinfoScoreI rfl ?_) | (with_reducible refine wpList_load1C rfl (g := w.heap.size) (f := 6) rfl (v := .int .i64 z1) (by kernel_rfl) (F.row m0) rfl ukindInt64 ?_) | (with_reducible refine wpList_load1C rfl (g := w.heap.size) (f := 7) rfl (v := .int .i64 z2) (by kernel_rfl) (F.row m0) rfl ukindInt64 ?_) | (with_reducible refine wpList_load1C rfl (g := w.heap.size) (f := 8) rfl (v := .int .i64 z3) (by kernel_rfl) (F.row m0) rfl ukindInt64 ?_)) | (go_at_call 12; ((with_reducible refine (HV.out _ F.below).mono ?_); rintro e w1 ⟨rfl, hl⟩; replace F := F.le hl; clear hl)))
    go_ret
    exact ⟨ret_b (by rw [E.out] <;> first | rfl | (simp <;> omega)), F.below⟩
  replace lz3 : 1 ≤ z3 := by omega
  by_cases gz3 : ¬ z3 ≤ 3
  · have E := hid (show okSt c z1 z2 z3 = false by unfold okSt; rw [show inZ 1 3 z3 = false by unfold inZ; simp [show ¬ z3 ≤ 3 by omega]]; simp)
    have nn : 3 < z3 := by omega
    clear gz3
    go_enter Try.func7, Try.ntmps7
    go_wp2_with (first | ((with_reducible refine listN F ?_); clear F; intro wN F) | ((with_reducible refine at_load rfl ?_); first | (with_reducible refine wpList_loadGP F rfl rfl rfl m0 Try.underlying38 rfl [.float .f32 r, .float .f32 b, .float .f32 o, sD, .slice pI nI capI, .slice pE nE capE] (scAt r b o sD (.slice pI nI capI) (.slice pE nE capE) (.int .i64 z1) (.int .i64 z2) (.int .i64 z3)) uinfoScoreI rfl ?_) | (with_reducible refine wpList_load1C rfl (g := w.heap.size) (f := 6) rfl (v := .int .i64 z1) (by kernel_rfl) (F.row m0) rfl ukindInt64 ?_) | (with_reducible refine wpList_load1C rfl (g := w.heap.size) (f := 7) rfl (v := .int .i64 z2) (by kernel_rfl) (F.row m0) rfl ukindInt64 ?_) | (with_reducible refine wpList_load1C rfl (g := w.heap.size) (f := 8) rfl (v := .int .i64 z3) (by kernel_rfl) (F.row m0) rfl ukindInt64 ?_)) | (go_at_call 12; ((with_reducible refine (HV.out _ F.below).mono ?_); rintro e w1 ⟨rfl, hl⟩; replace F := F.le hl; clear hl)))
    go_ret
    exact ⟨ret_b (by rw [E.out] <;> first | rfl | (simp <;> omega)), F.below⟩
  replace gz3 : z3 ≤ 3 := by omega
  have E := hid (show okSt c z1 z2 z3 = true by unfold okSt inZ; rw [t0.out]; simp [lz1, gz1, lz2, gz2, lz3, gz3])
  go_enter Try.func7, Try.ntmps7
  go_wp2_with (first | ((with_reducible refine listN F ?_); clear F; intro wN F) | ((with_reducible refine at_load rfl ?_); first | (with_reducible refine wpList_loadGP F rfl rfl rfl m0 Try.underlying38 rfl [.float .f32 r, .float .f32 b, .float .f32 o, sD, .slice pI nI capI, .slice pE nE capE] (scAt r b o sD (.slice pI nI capI) (.slice pE nE capE) (.int .i64 z1) (.int .i64 z2) (.int .i64 z3)) uinfoScoreI rfl ?_) | (with_reducible refine wpList_load1C rfl (g := w.heap.size) (f := 6) rfl (v := .int .i64 z1) (by kernel_rfl) (F.row m0) rfl ukindInt64 ?_) | (with_reducible refine wpList_load1C rfl (g := w.heap.size) (f := 7) rfl (v := .int .i64 z2) (by kernel_rfl) (F.row m0) rfl ukindInt64 ?_) | (with_reducible refine wpList_load1C rfl (g := w.heap.size) (f := 8) rfl (v := .int .i64 z3) (by kernel_rfl) (F.row m0) rfl ukindInt64 ?_)) | (go_at_call 12; ((with_reducible refine (HV.out _ F.below).mono ?_); rintro e w1 ⟨rfl, hl⟩; replace F := F.le hl; clear hl)))
  go_ret
  exact ⟨ret_b (by rw [E.out] <;> first | rfl | (simp <;> omega)), F.below⟩
theorem both_ValidStage (cs : List CD) (h : HasShL shStage cs) : ∃ ar0 : Bool, (∀ (w : World) (B : Nat) (u : List Value), RdLN w B (cs.map CD.cp) u → Calls Try.prog 5 #[.agg u.toArray] w (Out_b ar0 w)) ∧ (∀ (w : World) (B : Nat) (u : List Value), RdLN w B (cs.map CD.cp) u → Calls Try.prog 7 #[.agg u.toArray] w (Out_b ar0 w)) := by
  obtain ⟨r, b, o, xD, nD, xI, nI, xE, nE, z1, z2, z3, rfl, hx, kI, kE⟩ := stage_data h
  refine ⟨okSt (okSc r b o (fun i => (xD i).fx) nD (fun i => (xI i).cn) nI (fun i => (xE i).cn) nE) z1 z2 z3, fun w B u hu => ?_, fun w B u hu => ?_⟩
  · obtain ⟨sD, sI, sE, rfl, hD, hI, hE, _⟩ := stage_open hu hx
    obtain ⟨_, pI, cI, rfl⟩ := len_of hI
    obtain ⟨_, pE, cE, rfl⟩ := len_of hE
    exact s_ValidStage B sD pI cI pE cE _ _ _ _ _ _ _ _ _ _ _ _ w hD hI hE kI kE
  · obtain ⟨sD, sI, sE, rfl, hD, hI, hE, _⟩ := stage_open hu hx
    obtain ⟨_, pI, cI, rfl⟩ := len_of hI
    obtain ⟨_, pE, cE, rfl⟩ := len_of hE
    exact i_ValidStage B sD pI cI pE cE _ _ _ _ _ _ _ _ _ _ _ _ w hD hI hE kI kE
end Go.Proofs.Ytkcpdddmabkkgaa

/- The walk of 'FnExactValidStage'. -/
namespace Go.Proofs.Ytkcpdddmabkkgaa.fnExactValidStage
open Go.RowKit Go.Fk
set_option maxRecDepth 100000 in
set_option maxHeartbeats 4000000 in
theorem core (cs0 : List CD) (vs0 : List Value) (ar0 : Bool) (w : World) (z0 : RdL w w.heap.size cs0 vs0) (k0 : ShOkL shStage cs0) (hz : szL cs0 ≤ 1048576)
    (hS : ∀ (w : World) (B0 : Nat) (u0 : List Value), RdLN w B0 (cs0.map CD.cp) u0 → Calls Try.prog 5 #[.agg u0.toArray] w (Out_b ar0 w))
    (hI : ∀ (w : World) (B0 : Nat) (u0 : List Value), RdLN w B0 (cs0.map CD.cp) u0 → Calls Try.prog 7 #[.agg u0.toArray] w (Out_b ar0 w)) :
    Calls Try.prog 3 #[.agg vs0.toArray] w fun e w' => e = .returned (.bool true) ∧ Below w.heap.size w w' := by
  have Z0 := hid z0; have K0 := hid k0; have hl0 : Hid (vs0.length = 9) := z0.1.trans k0.1; clear z0 k0
  have hz0 : szL cs0 ≤ 1048576 := by omega
  have hm0 : ¬ (1048576 : Int) - (szL cs0 : Nat) < 0 := by omega
  have HS := hid hS; have HI := hid hI; clear hS hI
  have F := Frg.nil w
  replace F := F.box 31 vs0.toArray
  go_enter Try.func3, Try.ntmps3
  go_wp2_with (first | (((with_reducible refine listN F ?_); clear F; intro wN F)) | ((with_reducible refine at_loadU rfl rfl ?_); first | (with_reducible refine wpList_loadG F rfl rfl rfl (by first | exact m0 | exact m1 | exact m2 | exact m3 | exact m4 | exact m5 | exact m6 | exact m7 | exact m8) Try.underlying40 rfl uinfoStageI (by simp only [List.size_toArray]; first | exact hl0.out | exact hl1.out | exact hu0.out | exact hu1.out) ?_) | (with_reducible refine wpList_loadG F rfl rfl rfl (by first | exact m0 | exact m1 | exact m2 | exact m3 | exact m4 | exact m5 | exact m6 | exact m7 | exact m8) Try.underlying31 rfl uinfoStageL (by simp only [List.size_toArray]; first | exact hl0.out | exact hl1.out | exact hu0.out | exact hu1.out) ?_)) | (go_at_call 4; ((with_reducible refine (szU_Stage _ cs0 vs0 (1048576 : Int) ((1048576 : Int) - (szL cs0 : Nat)) _ (Z0.out.le F.below) K0.out (by omega) (by omega) (lessBy_pos hm0)).mono ?_); rintro e w1 ⟨rfl, hb1⟩; replace F := F.le hb1)) | (go_at_call 6; ((with_reducible refine (toU_Stage _ cs0 vs0 _ (Z0.out.le F.below) K0.out hz0).mono ?_); rintro e w1 ⟨usA0, rfl, ho, hl⟩; have hu0 : Hid (usA0.length = 9) := ho.1.trans ((List.length_map ..).trans K0.out.1); have ho0 := hid ho.all_one; replace F := F.lay1 hl ho; clear ho hl)))
  first | ((with_reducible refine callAt0 F ?_); clear F; intro wN F) | ((with_reducible refine callAtN F ?_); clear F; intro wN F)
  refine (HS.out _ _ _ (F.layN (by first | exact m0 | exact m1 | exact m2 | exact m3 | exact m4 | exact m5 | exact m6 | exact m7 | exact m8))).mono ?_
  rintro e wS ⟨rfl, hlS⟩
  replace F := F.le hlS
  go_wp2_with (first | (((with_reducible refine listN F ?_); clear F; intro wN F)) | ((with_reducible refine at_store rfl ?_); first | (refine wpList_storeG F rfl rfl rfl rfl rfl (by simp only [List.size_toArray]; first | (rw [hu0.out]; exact uinfoStageI) | (rw [hu1.out]; exact uinfoStageI)) (by simp only [List.size_toArray]; first | (rw [hu0.out]; rfl) | (rw [hu1.out]; rfl)) (by first | exact ho0.out | exact ho1.out) ?_; clear F; intro W F zW; clear zW)) | ((with_reducible refine at_loadU rfl rfl ?_); first | (with_reducible refine wpList_loadG F rfl rfl rfl (by first | exact m0 | exact m1 | exact m2 | exact m3 | exact m4 | exact m5 | exact m6 | exact m7 | exact m8) Try.underlying40 rfl uinfoStageI (by simp only [List.size_toArray]; first | exact hl0.out | exact hl1.out | exact hu0.out | exact hu1.out) ?_) | (with_reducible refine wpList_loadG F rfl rfl rfl (by first | exact m0 | exact m1 | exact m2 | exact m3 | exact m4 | exact m5 | exact m6 | exact m7 | exact m8) Try.underlying31 rfl uinfoStageL (by simp only [List.size_toArray]; first | exact hl0.out | exact hl1.out | exact hu0.out | exact hu1.out) ?_)) | (go_at_call 6; ((with_reducible refine (toU_Stage _ cs0 vs0 _ (Z0.out.le F.below) K0.out hz0).mono ?_); rintro e w1 ⟨usB0, rfl, ho, hl⟩; have hu0 : Hid (usB0.length = 9) := ho.1.trans ((List.length_map ..).trans K0.out.1); have ho0 := hid ho.all_one; replace F := F.lay1 hl ho; clear ho hl)))
  first | ((with_reducible refine callAt0 F ?_); clear F; intro wN F) | ((with_reducible refine callAtN F ?_); clear F; intro wN F)
  refine (HI.out _ _ _ (F.layN (by first | exact m0 | exact m1 | exact m2 | exact m3 | exact m4 | exact m5 | exact m6 | exact m7 | exact m8))).mono ?_
  rintro e wI ⟨rfl, hlI⟩
  replace F := F.le hlI
  go_wp2_with (first | (((with_reducible refine listN F ?_); clear F; intro wN F)) | ((with_reducible refine at_store rfl ?_); first | (refine wpList_storeG F rfl rfl rfl rfl rfl (by simp only [List.size_toArray]; first | (rw [hu0.out]; exact uinfoStageI) | (rw [hu1.out]; exact uinfoStageI)) (by simp only [List.size_toArray]; first | (rw [hu0.out]; rfl) | (rw [hu1.out]; rfl)) (by first | exact ho0.out | exact ho1.out) ?_; clear F; intro W F zW; clear zW)) | ((with_reducible refine at_loadU rfl rfl ?_); first | (with_reducible refine wpList_loadG F rfl rfl rfl (by first | exact m0 | exact m1 | exact m2 | exact m3 | exact m4 | exact m5 | exact m6 | exact m7 | exact m8) Try.underlying40 rfl uinfoStageI (by simp only [List.size_toArray]; first | exact hl0.out | exact hl1.out | exact hu0.out | exact hu1.out) ?_) | (with_reducible refine wpList_loadG F rfl rfl rfl (by first | exact m0 | exact m1 | exact m2 | exact m3 | exact m4 | exact m5 | exact m6 | exact m7 | exact m8) Try.underlying31 rfl uinfoStageL (by simp only [List.size_toArray]; first | exact hl0.out | exact hl1.out | exact hu0.out | exact hu1.out) ?_)))
  first | (refine wpAt0 F ?_; clear F; intro wN F) | (refine wpAtN F ?_; clear F; intro wN F)
  refine region_freeD (E := leX) (fun f _ w v => if f = 6 then ∃ (us : List Value) (B : Nat), v = .agg us.toArray ∧ RdL w B (cs0.map CD.cp) us else v = .bool true) (by kernel_rfl) (by kernel_rfl) ?_
  refine wpFreeD_loadG F rfl rfl rfl rfl (by first | exact m0 | exact m1 | exact m2 | exact m3 | exact m4 | exact m5 | exact m6 | exact m7 | exact m8) Try.underlying40 rfl uinfoStageI (by simp only [List.size_toArray]; exact hu0.out) ?_
  simp only [Act.put, List.setIfInBounds_toArray, List.set_cons_succ, List.set_cons_zero]
  refine wpFreeD_loadG F rfl rfl rfl rfl (by first | exact m0 | exact m1 | exact m2 | exact m3 | exact m4 | exact m5 | exact m6 | exact m7 | exact m8) Try.underlying31 rfl uinfoStageL (by simp only [List.size_toArray]; exact hl0.out) ?_
  simp only [Act.put, List.setIfInBounds_toArray, List.set_cons_succ, List.set_cons_zero]
  refine wpFreeD_callB rfl rfl Try.func6 (by kernel_rfl) (by kernel_rfl) (args := #[.agg vs0.toArray]) (by simp [Act.eval]) (fun v w1 w2 hw hv => by simp only [if_true] at hv ⊢; obtain ⟨u, B, h1, h2⟩ := hv; exact ⟨u, B, h1, h2.le hw⟩) (fun w1 hw1 _ => (toU_Stage _ cs0 vs0 w1 (Z0.out.le (le_trans (F.drewN _).below hw1)) K0.out hz0).mono ?_) ?_
  · rintro e w2 ⟨u, rfl, ho, hl⟩
    exact ⟨_, rfl, hl, by simp only [if_true]; exact ⟨u, _, rfl, ho.rd (fun _ hj => hj.2)⟩⟩
  rintro v ⟨_, _, _, hv⟩
  simp only [if_true] at hv
  obtain ⟨u0, Bu0, rfl, _⟩ := hv
  simp only [Act.put, List.setIfInBounds_toArray, List.set_cons_succ, List.set_cons_zero]
  refine wpFreeD_callB rfl rfl Try.func8 (by kernel_rfl) (by kernel_rfl) (args := #[.agg usB0.toArray, .agg u0.toArray]) (by simp [Act.eval]) (fun v w1 w2 hw hv => by simp only [show ¬ (8 = 6) by decide, if_false] at hv ⊢; exact hv) (fun w1 hw1 hbe => ?_) ?_
  · have hk := (hbe ⟨2, Ground.data⟩ (by simp) (by kernel_rfl)).2 rfl
    simp only [if_true] at hk
    obtain ⟨u', B', he, hr⟩ := hk
    obtain rfl : u0 = u' := by simpa using he
    refine (eqU_Stage _ _ (cs0.map CD.cp) _ _ _ (((F.drewN 1).le hw1).layR (by first | exact m0 | exact m1 | exact m2 | exact m3 | exact m4 | exact m5 | exact m6 | exact m7 | exact m8)) hr K0.out.cp (by rw [szL_cp]; exact hz0)).mono ?_
    rintro e w2 ⟨rfl, hl⟩
    exact ⟨_, rfl, hl, by simp only [show ¬ (8 = 6) by decide, if_false]⟩
  rintro v ⟨_, _, _, hv⟩
  simp only [show ¬ (8 = 6) by decide, if_false] at hv
  subst hv
  simp only [Act.put, List.setIfInBounds_toArray, List.set_cons_succ, List.set_cons_zero]
  refine wpFreeD_one rfl (.bool false) (fun w1 _ => by kernel_rfl) ?_
  simp only [Act.put, List.setIfInBounds_toArray, List.set_cons_succ, List.set_cons_zero]
  refine wpFreeD_nil (fun wR hwR _ => ?_)
  replace F := (F.drewN 1).le hwR
  clear hwR
  go_wp2_with (first | (((with_reducible refine listN F ?_); clear F; intro wN F)) | ((with_reducible refine at_loadU rfl rfl ?_); first | (with_reducible refine wpList_loadG F rfl rfl rfl (by first | exact m0 | exact m1 | exact m2 | exact m3 | exact m4 | exact m5 | exact m6 | exact m7 | exact m8) Try.underlying40 rfl uinfoStageI (by simp only [List.size_toArray]; first | exact hl0.out | exact hl1.out | exact hu0.out | exact hu1.out) ?_) | (with_reducible refine wpList_loadG F rfl rfl rfl (by first | exact m0 | exact m1 | exact m2 | exact m3 | exact m4 | exact m5 | exact m6 | exact m7 | exact m8) Try.underlying31 rfl uinfoStageL (by simp only [List.size_toArray]; first | exact hl0.out | exact hl1.out | exact hu0.out | exact hu1.out) ?_)))
  go_ret
  first | exact ⟨rfl, F.below⟩ | exact ⟨rfl, below_drewN F.below _⟩
set_option maxRecDepth 100000 in
set_option maxHeartbeats 4000000 in
theorem large0 (cs0 : List CD) (vs0 : List Value) (w : World) (z0 : RdL w w.heap.size cs0 vs0) (k0 : ShOkL shStage cs0)  (hg : ¬ szL cs0 ≤ 1048576) :
    Calls Try.prog 3 #[.agg vs0.toArray] w fun e w' => e = .returned (.bool true) ∧ Below w.heap.size w w' := by
  have Z0 := hid z0; have K0 := hid k0; have hl0 : Hid (vs0.length = 9) := z0.1.trans k0.1; clear z0 k0
  have hn0 : (1048576 : Int) - (szL cs0 : Nat) < 0 := by omega
  have F := Frg.nil w
  replace F := F.box 31 vs0.toArray
  go_enter Try.func3, Try.ntmps3
  go_wp2_with (first | (((with_reducible refine listN F ?_); clear F; intro wN F)) | ((with_reducible refine at_loadU rfl rfl ?_); first | (with_reducible refine wpList_loadG F rfl rfl rfl (by first | exact m0 | exact m1 | exact m2 | exact m3 | exact m4 | exact m5 | exact m6 | exact m7 | exact m8) Try.underlying40 rfl uinfoStageI (by simp only [List.size_toArray]; first | exact hl0.out | exact hl1.out | exact hu0.out | exact hu1.out) ?_) | (with_reducible refine wpList_loadG F rfl rfl rfl (by first | exact m0 | exact m1 | exact m2 | exact m3 | exact m4 | exact m5 | exact m6 | exact m7 | exact m8) Try.underlying31 rfl uinfoStageL (by simp only [List.size_toArray]; first | exact hl0.out | exact hl1.out | exact hu0.out | exact hu1.out) ?_)) | (go_at_call 4; ((with_reducible refine (szU_Stage _ cs0 vs0 (1048576 : Int) (-1 : Int) _ (Z0.out.le F.below) K0.out (by omega) (by omega) (lessBy_neg hn0)).mono ?_); rintro e w1 ⟨rfl, hb1⟩; replace F := F.le hb1)))
  go_ret
  first | exact ⟨rfl, F.below⟩ | exact ⟨rfl, below_drewN F.below _⟩
theorem walk (cs0 : List CD) (vs0 : List Value) (w : World) (k0 : HasShL shStage cs0) (z0 : RdL w w.heap.size cs0 vs0) :
    Calls Try.prog 3 #[.agg vs0.toArray] w fun e w' => e = .returned (.bool true) ∧ Below w.heap.size w w' := by
  by_cases g0 : szL cs0 ≤ 1048576
  · skip
    obtain ⟨ar0, hS, hI⟩ := both_ValidStage cs0 k0
    exact core cs0 vs0 ar0 w z0 k0.ok g0 hS hI
  · exact large0 cs0 vs0 w z0 k0.ok  g0
end Go.Proofs.Ytkcpdddmabkkgaa.fnExactValidStage
