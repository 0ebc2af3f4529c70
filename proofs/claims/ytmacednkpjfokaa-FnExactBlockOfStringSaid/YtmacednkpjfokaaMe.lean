/- Texts of the walk, laid in one file. -/
import Derived.OwnWalk
import Derived.Test.YtmacednkpjfokaaMd
set_option linter.unusedVariables false
set_option linter.unusedSimpArgs false
/- Loops of the program: strings that go on. -/
namespace Go.Fk
open Go Go.RowKit
theorem qRing (s : Value) (q : StS) : ∀ j, j < [s, Value.int .i64 (q.j : Nat)].length → (#[s, .int .i64 (q.j : Nat), .int .i64 3, .float .f32 (q.ta), .float .f32 (q.tb), .float .f32 (q.tc), .float .f32 (q.tx), .float .f32 (q.ty), .int .i64 2, .float .f32 (q.da), .float .f32 (q.db), .float .f32 (q.dc), .float .f32 (q.dx), .float .f32 (q.dy), .float .f32 (q.l)] : Array Value)[0 + j]? = [s, Value.int .i64 (q.j : Nat)][j]? := part_at [] [s, .int .i64 (q.j : Nat)] _ 0 rfl
theorem qTune (s : Value) (q : StS) : ∀ j, j < [Value.int .i64 3, .float .f32 q.ta, .float .f32 q.tb, .float .f32 q.tc, .float .f32 q.tx, .float .f32 q.ty].length → (#[s, .int .i64 (q.j : Nat), .int .i64 3, .float .f32 (q.ta), .float .f32 (q.tb), .float .f32 (q.tc), .float .f32 (q.tx), .float .f32 (q.ty), .int .i64 2, .float .f32 (q.da), .float .f32 (q.db), .float .f32 (q.dc), .float .f32 (q.dx), .float .f32 (q.dy), .float .f32 (q.l)] : Array Value)[2 + j]? = [Value.int .i64 3, .float .f32 q.ta, .float .f32 q.tb, .float .f32 q.tc, .float .f32 q.tx, .float .f32 q.ty][j]? := part_at [s, .int .i64 (q.j : Nat)] _ _ 2 rfl
theorem qDamp (s : Value) (q : StS) : ∀ j, j < [Value.int .i64 2, .float .f32 q.da, .float .f32 q.db, .float .f32 q.dc, .float .f32 q.dx, .float .f32 q.dy].length → (#[s, .int .i64 (q.j : Nat), .int .i64 3, .float .f32 (q.ta), .float .f32 (q.tb), .float .f32 (q.tc), .float .f32 (q.tx), .float .f32 (q.ty), .int .i64 2, .float .f32 (q.da), .float .f32 (q.db), .float .f32 (q.dc), .float .f32 (q.dx), .float .f32 (q.dy), .float .f32 (q.l)] : Array Value)[8 + j]? = [Value.int .i64 2, .float .f32 q.da, .float .f32 q.db, .float .f32 q.dc, .float .f32 q.dx, .float .f32 q.dy][j]? := part_at [s, .int .i64 (q.j : Nat), .int .i64 3, .float .f32 q.ta, .float .f32 q.tb, .float .f32 q.tc, .float .f32 q.tx, .float .f32 q.ty] _ _ 8 rfl
end Go.Fk
namespace Go.Proofs.Ytmacednkpjfokaa
open Go.RowKit Go.Fk
/-- A loop: a string that goes on; all its blocks lie from B to C. -/
def LpS (w : World) (B C g : Nat) (q : StS) : Prop := ∃ (s : Value) (lo hi rt rd : Nat), Row w g 137 #[s, .int .i64 (q.j : Nat), .int .i64 (loudN q.x q.n : Nat), .pointer (some ⟨rt, 0, none⟩), .pointer (some ⟨rd, 0, none⟩), .float .f32 q.l] ∧ OwnS w lo hi s q.x q.n ∧ Row w rt 88 #[mdl 3 q.ta q.tb q.tc, .float .f32 (q.tx), .float .f32 (q.ty)] ∧ Row w rd 88 #[mdl 2 q.da q.db q.dc, .float .f32 (q.dx), .float .f32 (q.dy)] ∧
  (B ≤ g ∧ g < C ∧ B ≤ rt ∧ rt < C ∧ B ≤ rd ∧ rd < C ∧ B ≤ lo ∧ hi ≤ C) ∧ (g ≠ rt ∧ g ≠ rd ∧ rt ≠ rd ∧ ¬ (lo ≤ g ∧ g < hi) ∧ ¬ (lo ≤ rt ∧ rt < hi) ∧ ¬ (lo ≤ rd ∧ rd < hi))
def OutLS (B C g : Nat) (q : StS) (a : Nat) (w : World) (e : Ending) (w' : World) : Prop := ∃ o, e = .returned (.float .f32 o) ∧ can .f32 o = q.x q.j ∧ fits .f32 o ∧ LpS w' B C g (stepS q a) ∧ Chg (rng B C) w w'
theorem lpPart (s : Value) (q : StS) (rt rd : Nat) : ∀ j, j < [s, Value.int .i64 (q.j : Nat)].length → (#[s, .int .i64 (q.j : Nat), .int .i64 (loudN q.x q.n : Nat), .pointer (some ⟨rt, 0, none⟩), .pointer (some ⟨rd, 0, none⟩), .float .f32 q.l] : Array Value)[0 + j]? = [s, Value.int .i64 (q.j : Nat)][j]? := part_at [] [s, .int .i64 (q.j : Nat)] _ 0 rfl
set_option maxRecDepth 100000 in
set_option maxHeartbeats 4000000 in
theorem i_loopStep (B C g : Nat) (q : StS) (a : Nat) (w : World) (h : LpS w B C g q) (ok : q.Ok) (ha : fits .f32 a) :
    Calls Try.prog 78 #[.pointer (some ⟨g, 0, none⟩), .float .f32 a] w (OutLS B C g q a w) := by
  obtain ⟨s, lo, hi, rt, rd, R, O, RT, RD, ⟨b1, b2, b3, b4, b5, b6, b7, b8⟩, d1, d2, d3, d4, d5, d6⟩ := h
  have HO := hid (fun (w' : World) (hl : le w w') => i_oldest hi s q.x q.n q.j w' (O.rd.le hl) ok.j1 ok.n2)
  rcases O with ⟨rfl, h0⟩ | ⟨b, o, cap, ds, rfl, hc, hm, hb, hb', hrow, hx⟩
  · have := ok.n1; omega
  have OO : Hid (OwnS w lo hi (.slice (some ⟨b, o, none⟩) q.n cap) q.x q.n) := .inr ⟨b, o, cap, ds, rfl, hc, hm, hb, hb', hrow, hx⟩
  have j1 := ok.j1
  have n2 := ok.n2
  have OK := hid ok
  have HR := hid R; have HRT := hid RT; have HRD := hid RD
  clear R RT RD hrow hx ok
  unfold maxLen at hm
  go_enter Try.func78, Try.ntmps78
  go_wp2_with (first | ((with_reducible refine at_loadU rfl rfl ?_); (with_reducible refine wpList_loadPR HR.out rfl rfl rfl Try.underlying46 rfl [.slice (some ⟨b, o, none⟩) q.n cap, .int .i64 (q.j : Nat)] (lpPart _ q rt rd) infoRing rfl ?_)) | (go_at_call 99; ((with_reducible refine (HO.out _ (le_refl _)).mono ?_); rintro e w1 ⟨y, rfl, cy, fy, hl⟩; have HL1 := hid hl; have HC := hid cy; clear hl cy)))
  have R1 := hid (HR.out.le HL1.out)
  have R1d : Hid (Row w1.drew g 137 #[(.slice (some ⟨b, o, none⟩) q.n cap), .int .i64 (q.j : Nat), .int .i64 (loudN q.x q.n : Nat), .pointer (some ⟨rt, 0, none⟩), .pointer (some ⟨rd, 0, none⟩), .float .f32 q.l]) := R1.out.drewN 1
  have T1 : Hid (Row w1.drew rt 88 #[mdl 3 q.ta q.tb q.tc, .float .f32 (q.tx), .float .f32 (q.ty)]) := (HRT.out.le HL1.out).drewN 1
  have D1 : Hid (Row w1.drew rd 88 #[mdl 2 q.da q.db q.dc, .float .f32 (q.dx), .float .f32 (q.dy)]) := (HRD.out.le HL1.out).drewN 1
  have HCY : Hid (can .f32 y = can .f32 (q.x q.j)) := by unfold Hid; rw [← HC.out, can_can]
  have c2 := R1.out.cell? 3
  have c3 := R1.out.cell? 4
  go_region_with (go_at_call 100; first | ((with_reducible refine (i_step 3 q.ta q.tb q.tc q.tx q.ty y rt _ ⟨by decide, by decide⟩ T1.out OK.out.ftx fy).mono ?_); rintro e w2 ⟨r1, rfl, hr1, fr1, hR1, hU1⟩; rw [st0_congr HCY.out, st1_congr HCY.out] at hR1; have T2 := hid hR1; have HC1 : Hid (can .f32 r1 = can .f32 (y1S q)) := (hr1.trans ((outF_congr HCY.out).trans (can_outF _ _ _ _ _ _ _).symm)); have U1 := hid (chg_upd hU1); have D2 := hid (U1.out.row D1.out (Ne.symm d3)); have c3w := (U1.out.row R1d.out d1).cell? 4; clear hR1 hr1 hU1) | ((with_reducible refine (i_step 2 q.da q.db q.dc q.dx q.dy r1 rd _ ⟨by decide, by decide⟩ D2.out OK.out.fdx fr1).mono ?_); rintro e w3 ⟨r2, rfl, hr2, fr2, hR2, hU2⟩; rw [st0_congr HC1.out, st1_congr HC1.out] at hR2; have D3 := hid hR2; have HC2 : Hid (can .f32 r2 = y2S q) := (hr2.trans (outF_congr HC1.out)); have U2 := hid (chg_upd hU2); have T3 := hid (U2.out.row T2.out d3); clear hR2 hr2 hU2))
  all_goals
    go_simp
    have UU : Hid (Chg (fun i => i = rt ∨ i = rd) w w3) := (Chg.of_le (le_trans HL1.out (le_drewN w1 1))).trans ((U1.out.mono (fun i h => .inl h)).trans (U2.out.mono (fun i h => .inr h)))
    have R3 := hid (UU.out.row HR.out (by rintro (h | h); exact d1 h; exact d2 h))
    have O3 := hid (OwnS.chgS OO.out UU.out (fun i h1 h2 h3 => by rcases h3 with h3 | h3; (subst h3; exact d5 ⟨h1, h2⟩); (subst h3; exact d6 ⟨h1, h2⟩)))
    clear U1 U2 T1 D1 T2 D2 R1 R1d c3w HR HRT HRD OO HO c2 c3
    have c5 := R3.out.cell? 5
    have HN := hid (fun r2 p r => @next_of q a r2 p r)
    go_wp2_with fail
    refine wp_region_tail (fun _ _ _ => True) 11 (by kernel_rfl) (by kernel_rfl) ?_; simp only [List.take_succ_cons, List.take_zero, List.drop_succ_cons, List.drop_zero]
    repeat (first | (with_reducible refine wpLoose_farith rfl rfl rfl rfl rfl ?_; intro r hr hf; simp only [Act.put, List.setIfInBounds_toArray, List.set_cons_succ, List.set_cons_zero]) | (refine wpLoose_quiet rfl ?_; go_big_quiet_step (fail); refine wpQuiet_nil ?_) | (refine wpLoose_nilP rfl rfl rfl ?_; simp only [Act.put, List.setIfInBounds_toArray, List.set_cons_succ, List.set_cons_zero]))
    refine wpLoose_nil (fun m => ?_)
    clear c5
    go_wp2_with (go_at_call 101; ((with_reducible refine (i_come lo hi (.slice (some ⟨b, o, none⟩) q.n cap) q.x q.n q.j _ g 0 _ _ _ (O3.out.le (le_drewN _ _)) (R3.out.drewN _) rfl rfl rfl d4 j1 n2 hf.out).mono ?_); rintro e w5 ⟨⟨v5, rfl⟩, hR4, hO4, hU4⟩; replace hR4 := hid hR4; replace hO4 := hid hO4; replace hU4 := hid hU4))
    have HK : Hid (kept r = nextS q a) := HN.out _ _ _ HC2.out (Hid.out ‹Hid (can .f32 _ = fop .mul .f32 r2 q.l)›) hr.out
    have EX : comeX q.x q.j r = (stepS q a).x := by unfold comeX; rw [HK.out]; rfl
    go_ret
    replace hR4 := hR4.out
    replace hO4 := hO4.out
    rw [EX] at hR4 hO4
    refine ⟨y, rfl, HC.out, fy, ⟨(.slice (some ⟨b, o, none⟩) q.n cap), lo, hi, rt, rd, ?_, hO4, ?_, ?_, ⟨b1, b2, b3, b4, b5, b6, b7, b8⟩, d1, d2, d3, d4, d5, d6⟩, ?_⟩
    · simpa [stepS] using hR4
    · exact hU4.out.row (T3.out.drewN _) (by rintro (h | h); exact d1 h.symm; exact d5 h)
    · exact hU4.out.row (D3.out.drewN _) (by rintro (h | h); exact d2 h.symm; exact d6 h)
    · refine ((UU.out.le (le_drewN _ _)).mono (fun i hi' => ?_)).trans (hU4.out.mono (fun i hi' => ?_))
      · rcases hi' with h | h
        · subst h; exact ⟨b3, b4⟩
        · subst h; exact ⟨b5, b6⟩
      · rcases hi' with h | h
        · subst h; exact ⟨b1, b2⟩
        · exact ⟨by omega, by omega⟩
set_option maxRecDepth 100000 in
set_option maxHeartbeats 4000000 in
theorem i_newLoop (B : Nat) (s : Value) (q : StS) (w : World) (hs : RdS w B s q.x q.n) (ok : q.Ok) :
    Calls Try.prog 77 #[.agg #[s, .int .i64 (q.j : Nat), .int .i64 3, .float .f32 (q.ta), .float .f32 (q.tb), .float .f32 (q.tc), .float .f32 (q.tx), .float .f32 (q.ty), .int .i64 2, .float .f32 (q.da), .float .f32 (q.db), .float .f32 (q.dc), .float .f32 (q.dx), .float .f32 (q.dy), .float .f32 (q.l)]] w fun e w' => ∃ g, e = .returned (.pointer (some ⟨g, 0, none⟩)) ∧ LpS w' w.heap.size w'.heap.size g q ∧ le w w' := by
  have HS := hid hs; clear hs
  have n1 := ok.n1
  have n2 := ok.n2
  have OK := hid ok; clear ok
  have G := (Frg.nil w).box 48 #[s, .int .i64 (q.j : Nat), .int .i64 3, .float .f32 (q.ta), .float .f32 (q.tb), .float .f32 (q.tc), .float .f32 (q.tx), .float .f32 (q.ty), .int .i64 2, .float .f32 (q.da), .float .f32 (q.db), .float .f32 (q.dc), .float .f32 (q.dx), .float .f32 (q.dy), .float .f32 (q.l)]
  have F0 := (Frm.nil w).box 48 #[s, .int .i64 (q.j : Nat), .int .i64 3, .float .f32 (q.ta), .float .f32 (q.tb), .float .f32 (q.tc), .float .f32 (q.tx), .float .f32 (q.ty), .int .i64 2, .float .f32 (q.da), .float .f32 (q.db), .float .f32 (q.dc), .float .f32 (q.dx), .float .f32 (q.dy), .float .f32 (q.l)]
  go_enter Try.func77, Try.ntmps77
  go_wp2_with fail
  obtain ⟨W, hW⟩ : ∃ W, W = w.alloc (.cells #[s, .int .i64 (q.j : Nat), .int .i64 3, .float .f32 (q.ta), .float .f32 (q.tb), .float .f32 (q.tc), .float .f32 (q.tx), .float .f32 (q.ty), .int .i64 2, .float .f32 (q.da), .float .f32 (q.db), .float .f32 (q.dc), .float .f32 (q.dx), .float .f32 (q.dy), .float .f32 (q.l)] 48) := ⟨_, rfl⟩
  rw [← hW] at G F0 ⊢
  clear hW
  have F := F0.drewN 1
  have G1 := G.drewN 1
  refine region_tail (fun f args w' v => if f = 98 then (∃ q0 o0 cap cs, v = .agg #[.slice (some ⟨q0, o0, none⟩) q.n cap, .int .i64 (q.j : Nat), .int .i64 (loudN q.x q.n : Nat)] ∧ w.heap.size ≤ q0 ∧ Row w' q0 22 cs ∧ OwnS w' q0 (q0 + 1) (.slice (some ⟨q0, o0, none⟩) q.n cap) q.x q.n) else (∀ k a b c x y, args = #[(.agg #[.int .i64 k, .float .f32 a, .float .f32 b, .float .f32 c, .float .f32 x, .float .f32 y])] → ∃ b0, v = .pointer (some ⟨b0, 0, none⟩) ∧ w.heap.size ≤ b0 ∧ Row w' b0 88 #[mdl k a b c, .float .f32 x, .float .f32 y])) 12 (by kernel_rfl) (by kernel_rfl) ?_
  simp only [List.take_succ_cons, List.take_zero, List.drop_succ_cons, List.drop_zero]
  refine wpFree_one rfl (.pointer (some ⟨w.heap.size, 0, none⟩)) (fun w1 _ => by kernel_rfl) ?_
  simp only [Act.put, List.setIfInBounds_toArray, List.set_cons_succ, List.set_cons_zero]
  refine wpFree_loadPart F (n := 0) rfl rfl rfl rfl List.mem_cons_self Try.underlying46 rfl [s, .int .i64 (q.j : Nat)] (qRing s q) infoRing ?_
  simp only [Act.put, List.setIfInBounds_toArray, List.set_cons_succ, List.set_cons_zero]
  refine wpFree_call rfl rfl Try.func98 (by kernel_rfl) (by kernel_rfl) (args := #[.agg #[s, .int .i64 (q.j : Nat)]]) (by simp [Act.eval]) (fun v w1 w2 hw hv => by simp only [if_true] at hv ⊢; obtain ⟨q0, o0, cap, cs, e1, e2, e3, e4⟩ := hv; exact ⟨q0, o0, cap, cs, e1, e2, e3.le hw, e4.le hw⟩) (fun w1 hw1 => (i_newDelay B s q.x q.n _ w1 (HS.out.le (le_trans G1.below hw1)) n1 n2).mono ?_) ?_
  · rintro e w2 ⟨s', rfl, ho, hl⟩
    rcases ho with ⟨_, h0⟩ | ⟨q0, o0, cap, cs, rfl, hc, hm, hq, hq', hr, hx⟩
    · omega
    exact ⟨_, rfl, hl, by simp only [if_true]; exact ⟨q0, o0, cap, cs, rfl, Nat.le_trans G1.below.size (Nat.le_trans hw1.size hq), hr, .inr ⟨q0, o0, cap, cs, rfl, hc, hm, Nat.le_refl _, Nat.lt_succ_self _, hr, hx⟩⟩⟩
  rintro v ⟨_, _, hv⟩
  simp only [if_true] at hv
  obtain ⟨q0, o0, cap, cs, rfl, hq0, _⟩ := hv
  simp only [Act.put, List.setIfInBounds_toArray, List.set_cons_succ, List.set_cons_zero]
  refine wpFree_one rfl (.pointer (some ⟨w.heap.size, 2, none⟩)) (fun w1 _ => by kernel_rfl) ?_
  simp only [Act.put, List.setIfInBounds_toArray, List.set_cons_succ, List.set_cons_zero]
  refine wpFree_loadPart F (n := 0) rfl rfl rfl rfl List.mem_cons_self Try.underlying28 rfl [.int .i64 3, .float .f32 q.ta, .float .f32 q.tb, .float .f32 q.tc, .float .f32 q.tx, .float .f32 q.ty] (qTune s q) infoFil ?_
  simp only [Act.put, List.setIfInBounds_toArray, List.set_cons_succ, List.set_cons_zero]
  refine wpFree_call rfl rfl Try.func52 (by kernel_rfl) (by kernel_rfl) (args := #[(.agg #[.int .i64 3, .float .f32 q.ta, .float .f32 q.tb, .float .f32 q.tc, .float .f32 q.tx, .float .f32 q.ty])]) (by simp [Act.eval]) (fun v w1 w2 hw hv => by simp only [show ¬ (52 = 98) by decide, if_false] at hv ⊢; intro k a b c x y e; obtain ⟨b0, e1, e2, e3⟩ := hv k a b c x y e; exact ⟨b0, e1, e2, e3.le hw⟩) (fun w1 hw1 => (i_newRunner 3 q.ta q.tb q.tc q.tx q.ty w1 ⟨by decide, by decide⟩).mono ?_) ?_
  · rintro e w2 ⟨b0, rfl, hb, hr, hl⟩
    refine ⟨_, rfl, hl, ?_⟩
    simp only [show ¬ (52 = 98) by decide, if_false]
    intro k a b c x y e
    simp only [Array.mk.injEq, List.cons.injEq, Value.agg.injEq, Value.int.injEq, Value.float.injEq, true_and, and_true] at e
    obtain ⟨rfl, rfl, rfl, rfl, rfl, rfl⟩ := e
    exact ⟨b0, rfl, Nat.le_trans G1.below.size (Nat.le_trans hw1.size hb), hr⟩
  rintro v ⟨_, _, hv⟩
  simp only [show ¬ (52 = 98) by decide, if_false] at hv
  obtain ⟨rt, rfl, _⟩ := hv _ _ _ _ _ _ rfl
  simp only [Act.put, List.setIfInBounds_toArray, List.set_cons_succ, List.set_cons_zero]
  refine wpFree_one rfl (.pointer (some ⟨w.heap.size, 8, none⟩)) (fun w1 _ => by kernel_rfl) ?_
  simp only [Act.put, List.setIfInBounds_toArray, List.set_cons_succ, List.set_cons_zero]
  refine wpFree_loadPart F (n := 0) rfl rfl rfl rfl List.mem_cons_self Try.underlying28 rfl [.int .i64 2, .float .f32 q.da, .float .f32 q.db, .float .f32 q.dc, .float .f32 q.dx, .float .f32 q.dy] (qDamp s q) infoFil ?_
  simp only [Act.put, List.setIfInBounds_toArray, List.set_cons_succ, List.set_cons_zero]
  refine wpFree_call rfl rfl Try.func52 (by kernel_rfl) (by kernel_rfl) (args := #[(.agg #[.int .i64 2, .float .f32 q.da, .float .f32 q.db, .float .f32 q.dc, .float .f32 q.dx, .float .f32 q.dy])]) (by simp [Act.eval]) (fun v w1 w2 hw hv => by simp only [show ¬ (52 = 98) by decide, if_false] at hv ⊢; intro k a b c x y e; obtain ⟨b0, e1, e2, e3⟩ := hv k a b c x y e; exact ⟨b0, e1, e2, e3.le hw⟩) (fun w1 hw1 => (i_newRunner 2 q.da q.db q.dc q.dx q.dy w1 ⟨by decide, by decide⟩).mono ?_) ?_
  · rintro e w2 ⟨b0, rfl, hb, hr, hl⟩
    refine ⟨_, rfl, hl, ?_⟩
    simp only [show ¬ (52 = 98) by decide, if_false]
    intro k a b c x y e
    simp only [Array.mk.injEq, List.cons.injEq, Value.agg.injEq, Value.int.injEq, Value.float.injEq, true_and, and_true] at e
    obtain ⟨rfl, rfl, rfl, rfl, rfl, rfl⟩ := e
    exact ⟨b0, rfl, Nat.le_trans G1.below.size (Nat.le_trans hw1.size hb), hr⟩
  rintro v ⟨_, _, hv⟩
  simp only [show ¬ (52 = 98) by decide, if_false] at hv
  obtain ⟨rd, rfl, _⟩ := hv _ _ _ _ _ _ rfl
  simp only [Act.put, List.setIfInBounds_toArray, List.set_cons_succ, List.set_cons_zero]
  refine wpFree_one rfl (.pointer (some ⟨w.heap.size, 14, none⟩)) (fun w1 _ => by kernel_rfl) ?_
  simp only [Act.put, List.setIfInBounds_toArray, List.set_cons_succ, List.set_cons_zero]
  refine wpFree_loadF F (n := 0) rfl rfl rfl rfl List.mem_cons_self rfl Try.underlying22 ?_
  simp only [Act.put, List.setIfInBounds_toArray, List.set_cons_succ, List.set_cons_zero]
  refine wpFree_one rfl (.agg #[.slice (some ⟨q0, o0, none⟩) q.n cap, .int .i64 (q.j : Nat), .int .i64 (loudN q.x q.n : Nat), .pointer (some ⟨rt, 0, none⟩), .pointer (some ⟨rd, 0, none⟩), .float .f32 q.l]) (fun w1 _ => by kernel_rfl) ?_
  simp only [Act.put, List.setIfInBounds_toArray, List.set_cons_succ, List.set_cons_zero]
  refine wpFree_nil (fun w3 hw3 hF => ?_)
  obtain ⟨⟨⟨_, K1⟩, K2⟩, K3⟩ := hF
  simp only [if_true] at K1
  simp only [show ¬ (52 = 98) by decide, if_false] at K2 K3
  obtain ⟨q1, o1, cap1, cs1, e1, _, hr1, ho1⟩ := K1
  simp only [Value.agg.injEq, Array.mk.injEq, List.cons.injEq, Value.slice.injEq, Option.some.injEq, Addr.mk.injEq, and_true, true_and] at e1
  obtain ⟨⟨rfl, rfl⟩, rfl⟩ := e1
  obtain ⟨rt1, e2, hrt, hT⟩ := K2 _ _ _ _ _ _ rfl
  obtain rfl : rt = rt1 := by simpa using e2
  obtain ⟨rd1, e3, hrd, hD⟩ := K3 _ _ _ _ _ _ rfl
  obtain rfl : rd = rd1 := by simpa using e3
  have hle := hid (le_trans G1.below hw3)
  have ne1 : q0 ≠ rt := by intro e; subst e; unfold Row at hr1 hT; rw [hr1] at hT; simp at hT
  have ne2 : q0 ≠ rd := by intro e; subst e; unfold Row at hr1 hD; rw [hr1] at hD; simp at hD
  have ne3 : rt ≠ rd := by intro e; subst e; rw [mdl3] at hT; rw [mdl2] at hD; unfold Row at hT hD; rw [hT] at hD; simp at hD
  have x1 := hr1.lt; have x2 := hT.lt; have x3 := hD.lt
  have HO := hid ho1; have HT := hid hT; have HD := hid hD
  clear ho1 hT hD hr1 G G1 F F0 hw3 K2 K3
  go_wp2
  go_ret
  have hg : w.heap.size ≤ w3.heap.size := hle.out.size
  have hl4 := le_trans hle.out (le_alloc w3 (.cells #[.slice (some ⟨q0, o0, none⟩) q.n cap, .int .i64 (q.j : Nat), .int .i64 (loudN q.x q.n : Nat), .pointer (some ⟨rt, 0, none⟩), .pointer (some ⟨rd, 0, none⟩), .float .f32 q.l] 137))
  refine ⟨w3.heap.size, rfl, ⟨(.slice (some ⟨q0, o0, none⟩) q.n cap), q0, q0 + 1, rt, rd, Row.new _ _ _, HO.out.le (le_alloc w3 _), HT.out.le (le_alloc w3 _), HD.out.le (le_alloc w3 _), ⟨hg, by simp, hrt, by simp; omega, hrd, by simp; omega, hq0, by simp; omega⟩, by omega, by omega, ne3, by omega, by omega, by omega⟩, hl4⟩
theorem rPart (v0 v1 v2 : Value) : ∀ j, j < [v1, v2].length → (#[v0, v1, v2] : Array Value)[1 + j]? = [v1, v2][j]? := part12
set_option maxRecDepth 100000 in
set_option maxHeartbeats 2000000 in
theorem i_behind (B C g : Nat) (q : StS) (s0 : Value) (j0 : Int) (tx0 ty0 dx0 dy0 : Nat) (w : World) (h : LpS w B C g q) :
    Calls Try.prog 79 #[.pointer (some ⟨g, 0, none⟩), .agg #[s0, .int .i64 j0, .int .i64 3, .float .f32 q.ta, .float .f32 q.tb, .float .f32 q.tc, .float .f32 (tx0), .float .f32 (ty0), .int .i64 2, .float .f32 q.da, .float .f32 q.db, .float .f32 q.dc, .float .f32 (dx0), .float .f32 (dy0), .float .f32 q.l]] w fun e w' => ∃ s lo hi, e = .returned (.agg #[s, .int .i64 (q.j : Nat), .int .i64 3, .float .f32 (q.ta), .float .f32 (q.tb), .float .f32 (q.tc), .float .f32 (q.tx), .float .f32 (q.ty), .int .i64 2, .float .f32 (q.da), .float .f32 (q.db), .float .f32 (q.dc), .float .f32 (q.dx), .float .f32 (q.dy), .float .f32 (q.l)]) ∧ OwnS w' lo hi s q.x q.n ∧ B ≤ lo ∧ hi ≤ C ∧ le w w' := by
  obtain ⟨s, lo, hi, rt, rd, R, O, RT, RD, ⟨b1, b2, b3, b4, b5, b6, b7, b8⟩, d1, d2, d3, d4, d5, d6⟩ := h
  have OC := hid (OwnS.one O)
  have HR := hid R; have HRT := hid RT; have HRD := hid RD; have HO := hid O
  clear R RT RD O
  have F := ((Frg.nil w).box 48 #[s0, .int .i64 j0, .int .i64 3, .float .f32 q.ta, .float .f32 q.tb, .float .f32 q.tc, .float .f32 (tx0), .float .f32 (ty0), .int .i64 2, .float .f32 q.da, .float .f32 q.db, .float .f32 q.dc, .float .f32 (dx0), .float .f32 (dy0), .float .f32 q.l]).box 48 #[.slice none 0 0, .int .i64 0, .int .i64 0, .float .f32 0, .float .f32 0, .float .f32 0, .float .f32 (0), .float .f32 (0), .int .i64 0, .float .f32 0, .float .f32 0, .float .f32 0, .float .f32 (0), .float .f32 (0), .float .f32 0]
  simp only [World.size_alloc] at F
  go_enter Try.func79, Try.ntmps79
  go_wp2_with (first | ((with_reducible refine at_loadU rfl rfl ?_); (with_reducible refine wpList_loadPR (HR.out.le F.below) rfl rfl rfl Try.underlying46 rfl [s, .int .i64 (q.j : Nat)] (lpPart _ q rt rd) infoRing rfl ?_)) | ((with_reducible refine stop_store rfl ?_)))
  show wpList _ _ _ _ _ _
  refine wpList_storeP rfl rfl rfl (f := 0) (cells := [s, .int .i64 (q.j : Nat)]) rfl (F.row m1) infoRing (by simp) (one_head OC.out rfl) (fun w2 K => ?_)
  replace F := F.wr1 (cs' := #[s, .int .i64 (q.j : Nat), .int .i64 3, .float .f32 q.ta, .float .f32 q.tb, .float .f32 q.tc, .float .f32 (tx0), .float .f32 (ty0), .int .i64 2, .float .f32 q.da, .float .f32 q.db, .float .f32 q.dc, .float .f32 (dx0), .float .f32 (dy0), .float .f32 q.l]) K
  clear K
  have c2 := (HR.out.le F.below).cell? 3
  go_wp2_with (first | ((with_reducible refine at_loadU rfl rfl ?_); (with_reducible refine wpList_loadPR (HRT.out.le F.below) rfl rfl rfl Try.underlying24 rfl [.float .f32 q.tx, .float .f32 q.ty] (rPart _ _ _) info2 rfl ?_)) | ((with_reducible refine stop_store rfl ?_)))
  show wpList _ _ _ _ _ _
  refine wpList_storeP rfl rfl rfl (f := 6) (cells := [.float .f32 q.tx, .float .f32 q.ty]) rfl (F.row m1) info2 (by simp) (by simp [Value.oneCell']) (fun w3 K => ?_)
  replace F := F.wr1 (cs' := #[s, .int .i64 (q.j : Nat), .int .i64 3, .float .f32 q.ta, .float .f32 q.tb, .float .f32 q.tc, .float .f32 (q.tx), .float .f32 (q.ty), .int .i64 2, .float .f32 q.da, .float .f32 q.db, .float .f32 q.dc, .float .f32 (dx0), .float .f32 (dy0), .float .f32 q.l]) K
  clear K c2
  have c3 := (HR.out.le F.below).cell? 4
  go_wp2_with (first | ((with_reducible refine at_loadU rfl rfl ?_); (with_reducible refine wpList_loadPR (HRD.out.le F.below) rfl rfl rfl Try.underlying24 rfl [.float .f32 q.dx, .float .f32 q.dy] (rPart _ _ _) info2 rfl ?_)) | ((with_reducible refine stop_store rfl ?_)))
  show wpList _ _ _ _ _ _
  refine wpList_storeP rfl rfl rfl (f := 12) (cells := [.float .f32 q.dx, .float .f32 q.dy]) rfl (F.row m1) info2 (by simp) (by simp [Value.oneCell']) (fun w4 K => ?_)
  replace F := F.wr1 (cs' := #[s, .int .i64 (q.j : Nat), .int .i64 3, .float .f32 (q.ta), .float .f32 (q.tb), .float .f32 (q.tc), .float .f32 (q.tx), .float .f32 (q.ty), .int .i64 2, .float .f32 (q.da), .float .f32 (q.db), .float .f32 (q.dc), .float .f32 (q.dx), .float .f32 (q.dy), .float .f32 (q.l)]) K
  clear K c3
  go_wp2_with (first | ((with_reducible refine at_loadU rfl rfl ?_); (with_reducible refine wpList_loadG F rfl rfl rfl m1 Try.underlying48 rfl infoStr rfl ?_)) | ((with_reducible refine stop_store rfl ?_)))
  show wpList _ _ _ _ _ _
  refine wpList_storeD rfl rfl rfl (cells := #[s, .int .i64 (q.j : Nat), .int .i64 3, .float .f32 (q.ta), .float .f32 (q.tb), .float .f32 (q.tc), .float .f32 (q.tx), .float .f32 (q.ty), .int .i64 2, .float .f32 (q.da), .float .f32 (q.db), .float .f32 (q.dc), .float .f32 (q.dx), .float .f32 (q.dy), .float .f32 (q.l)]) rfl (F.row m0) infoStr rfl (one_head OC.out rfl) (fun w5 K => ?_)
  have RW := hid K.row
  have L := hid (F.wr0 K).below
  clear K F
  go_wp2
  exact bodyPost_ret (results_row1 rfl _ _ _ _ _ rfl RW.out Try.underlying48 rfl infoStr) rfl ⟨s, lo, hi, rfl, HO.out.le L.out, b7, b8, L.out⟩
set_option maxRecDepth 100000 in
theorem i_delaySilent (g f m : Nat) (t : TypeId) (cs : Array Value) (w : World) (R : Row w g t cs) (e : cs[f + 2]? = some (.int .i64 (m : Nat))) : Calls Try.prog 102 #[.pointer (some ⟨g, f, none⟩)] w fun e w' => e = .returned (.bool (decide (m = 0))) ∧ w = w' := by
  have c := (R.cell? (f + 2)).trans e
  by_cases h0 : m = 0
  · subst h0
    go_enter Try.func102, Try.ntmps102
    go_wp2
    go_ret
    exact ⟨rfl, rfl⟩
  · have E := hid (show decide (m = 0) = false from decide_eq_false h0)
    have h0' : ¬ ((m : Nat) : Int) = 0 := by omega
    rw [E.out]
    go_enter Try.func102, Try.ntmps102
    go_wp2
    go_ret
    exact ⟨ret_b (by simpa using h0), rfl⟩
set_option maxRecDepth 100000 in
set_option maxHeartbeats 2000000 in
theorem i_loopStill (B C g : Nat) (q : StS) (w : World) (h : LpS w B C g q) :
    Calls Try.prog 83 #[.pointer (some ⟨g, 0, none⟩)] w fun e w' => e = .returned (.bool (silS q)) ∧ w = w' := by
  obtain ⟨s, lo, hi, rt, rd, R, O, RT, RD, _, _⟩ := h
  have HT := hid (i_isStill _ _ _ _ _ RT)
  have HD := hid (i_isStill _ _ _ _ _ RD)
  have c3 := R.cell? 3
  have c4 := R.cell? 4
  have HSI := hid (i_delaySilent g 0 (loudN q.x q.n) _ _ w R rfl)
  clear R O RT RD
  have hs : silS q = (decide (loudN q.x q.n = 0) && (stillB q.tx q.ty && stillB q.dx q.dy)) := rfl
  rw [hs]
  by_cases h0 : loudN q.x q.n = 0
  · rw [decide_eq_true h0] at HSI
    cases h1 : stillB q.tx q.ty
    · rw [h1] at HT
      clear h1 HD hs
      go_enter Try.func83, Try.ntmps83
      go_wp2_with (first | (go_at_call 102; ((with_reducible refine (HSI.out).mono ?_); rintro e w' ⟨rfl, rfl⟩)) | (go_at_call 103; ((with_reducible refine (HT.out).mono ?_); rintro e w' ⟨rfl, rfl⟩)))
      go_ret
      exact ⟨ret_b (by simp), rfl⟩
    · rw [h1] at HT
      clear h1 hs
      go_enter Try.func83, Try.ntmps83
      go_wp2_with (first | (go_at_call 102; ((with_reducible refine (HSI.out).mono ?_); rintro e w' ⟨rfl, rfl⟩)) | (go_at_call 103; ((with_reducible refine (HT.out).mono ?_); rintro e w' ⟨rfl, rfl⟩)) | (go_at_call 103; ((with_reducible refine (HD.out).mono ?_); rintro e w' ⟨rfl, rfl⟩)))
      go_ret
      exact ⟨ret_b (by simp [h0]), rfl⟩
  · rw [decide_eq_false h0] at HSI
    clear hs HT HD
    go_enter Try.func83, Try.ntmps83
    go_wp2_with (first | (go_at_call 102; ((with_reducible refine (HSI.out).mono ?_); rintro e w' ⟨rfl, rfl⟩)))
    go_ret
    exact ⟨ret_b (by simp [h0]), rfl⟩
end Go.Proofs.Ytmacednkpjfokaa

/- 'ValidString' of both. -/
namespace Go.Fk
open Go Go.RowKit
/-- Is a string valid? -/
def okStr (n : Nat) (k tk : Int) (ta tb tc tx ty : Nat) (dk : Int) (da db dc dx dy l : Nat) : Bool := okRing n k && (okF tk ta tb tc tx ty && (decide (tk = 3) && (okF dk da db dc dx dy && (decide (dk = 2) && fin l))))
theorem inTune (s : Value) (k tk : Int) (ta tb tc tx ty : Nat) (dk : Int) (da db dc dx dy l : Nat) : FilIn #[s, .int .i64 k, .int .i64 tk, .float .f32 ta, .float .f32 tb, .float .f32 tc, .float .f32 tx, .float .f32 ty, .int .i64 dk, .float .f32 da, .float .f32 db, .float .f32 dc, .float .f32 dx, .float .f32 dy, .float .f32 l] 2 tk ta tb tc tx ty := ⟨rfl, rfl, rfl, rfl, rfl, rfl⟩
theorem inDamp (s : Value) (k tk : Int) (ta tb tc tx ty : Nat) (dk : Int) (da db dc dx dy l : Nat) : FilIn #[s, .int .i64 k, .int .i64 tk, .float .f32 ta, .float .f32 tb, .float .f32 tc, .float .f32 tx, .float .f32 ty, .int .i64 dk, .float .f32 da, .float .f32 db, .float .f32 dc, .float .f32 dx, .float .f32 dy, .float .f32 l] 8 dk da db dc dx dy := ⟨rfl, rfl, rfl, rfl, rfl, rfl⟩
end Go.Fk
namespace Go.Proofs.Ytmacednkpjfokaa
open Go.RowKit Go.Fk
set_option maxRecDepth 100000 in
set_option maxHeartbeats 2000000 in
theorem s_l03Ok (B : Nat) (s : Value) (x : Nat → Nat) (n : Nat) (k tk : Int) (ta tb tc tx ty : Nat) (dk : Int) (da db dc dx dy l : Nat) (g : Nat) (w : World) (hs : RdS w B s x n) (R : Row w g 48 #[s, .int .i64 k, .int .i64 tk, .float .f32 ta, .float .f32 tb, .float .f32 tc, .float .f32 tx, .float .f32 ty, .int .i64 dk, .float .f32 da, .float .f32 db, .float .f32 dc, .float .f32 dx, .float .f32 dy, .float .f32 l]) (hk : (Lit.int .i64 k).wf = true) :
    Calls Try.prog 61 #[.pointer (some ⟨g, 0, none⟩)] w fun e w' => e = .returned (.bool (okStr n k tk ta tb tc tx ty dk da db dc dx dy l)) ∧ ∃ m, w' = w.drewN m := by
  have G0 := s_l02RingR B s x n k g 0 w hs (R.cell? 0) (R.cell? 1) hk
  have G1 := fun (w1 : World) (R1 : Row w1 g 48 #[s, .int .i64 k, .int .i64 tk, .float .f32 ta, .float .f32 tb, .float .f32 tc, .float .f32 tx, .float .f32 ty, .int .i64 dk, .float .f32 da, .float .f32 db, .float .f32 dc, .float .f32 dx, .float .f32 dy, .float .f32 l]) => s_OkAt tk ta tb tc tx ty g 2 w1 ((inTune s k tk ta tb tc tx ty dk da db dc dx dy l).at R1)
  have G3 := fun (w1 : World) (R1 : Row w1 g 48 #[s, .int .i64 k, .int .i64 tk, .float .f32 ta, .float .f32 tb, .float .f32 tc, .float .f32 tx, .float .f32 ty, .int .i64 dk, .float .f32 da, .float .f32 db, .float .f32 dc, .float .f32 dx, .float .f32 dy, .float .f32 l]) => s_OkAt dk da db dc dx dy g 8 w1 ((inDamp s k tk ta tb tc tx ty dk da db dc dx dy l).at R1)
  have G5 := fun (w1 : World) => s_l01Finite l w1
  have c2 := R.cell? 2
  have c8 := R.cell? 8
  have c14 := R.cell? 14
  have RR := hid R
  clear hs R hk
  cases h1 : okRing n k
  · have HZ : Hid (okStr n k tk ta tb tc tx ty dk da db dc dx dy l = false) := by unfold Hid okStr; simp only [h1, Bool.and_true, Bool.and_false, Bool.true_and, Bool.false_and]
    rw [h1] at G0; have H0 := hid G0; clear G0
    clear h1
    clear G1
    clear G3
    clear G5
    go_enter Try.func61, Try.ntmps61
    go_wp2_with (first | (go_at_call 91; ((with_reducible refine (H0.out).mono ?_); rintro e w1 ⟨rfl, rfl⟩)) | (go_at_call 47; ((with_reducible refine (H1.out _ (by first | exact RR.out | exact RR.out.drewN _)).mono ?_); rintro e w1 ⟨rfl, n1, rfl⟩)) | (go_at_call 47; ((with_reducible refine (H3.out _ (by first | exact RR.out | exact RR.out.drewN _)).mono ?_); rintro e w1 ⟨rfl, n1, rfl⟩)) | (go_at_call 62; ((with_reducible refine (H5.out _).mono ?_); rintro e w1 ⟨rfl, n1, rfl⟩)))
    go_ret
    exact ⟨ret_b HZ.out.symm, by first | exact ⟨_, rfl⟩ | exact ⟨0, rfl⟩⟩
  · skip
    cases h2 : okF tk ta tb tc tx ty
    · have HZ : Hid (okStr n k tk ta tb tc tx ty dk da db dc dx dy l = false) := by unfold Hid okStr; simp only [h1, h2, Bool.and_true, Bool.and_false, Bool.true_and, Bool.false_and]
      rw [h1] at G0; have H0 := hid G0; clear G0
      rw [h2] at G1; have H1 := hid G1; clear G1
      clear h1 h2
      clear G3
      clear G5
      go_enter Try.func61, Try.ntmps61
      go_wp2_with (first | (go_at_call 91; ((with_reducible refine (H0.out).mono ?_); rintro e w1 ⟨rfl, rfl⟩)) | (go_at_call 47; ((with_reducible refine (H1.out _ (by first | exact RR.out | exact RR.out.drewN _)).mono ?_); rintro e w1 ⟨rfl, n1, rfl⟩)) | (go_at_call 47; ((with_reducible refine (H3.out _ (by first | exact RR.out | exact RR.out.drewN _)).mono ?_); rintro e w1 ⟨rfl, n1, rfl⟩)) | (go_at_call 62; ((with_reducible refine (H5.out _).mono ?_); rintro e w1 ⟨rfl, n1, rfl⟩)))
      go_ret
      exact ⟨ret_b HZ.out.symm, by first | exact ⟨_, rfl⟩ | exact ⟨0, rfl⟩⟩
    · skip
      cases h3 : decide (tk = 3)
      · have HZ : Hid (okStr n k tk ta tb tc tx ty dk da db dc dx dy l = false) := by unfold Hid okStr; simp only [h1, h2, h3, Bool.and_true, Bool.and_false, Bool.true_and, Bool.false_and]
        rw [h1] at G0; have H0 := hid G0; clear G0
        rw [h2] at G1; have H1 := hid G1; clear G1
        have e3 : ¬ tk = 3 := of_decide_eq_false h3
        clear h1 h2 h3
        clear G3
        clear G5
        go_enter Try.func61, Try.ntmps61
        go_wp2_with (first | (go_at_call 91; ((with_reducible refine (H0.out).mono ?_); rintro e w1 ⟨rfl, rfl⟩)) | (go_at_call 47; ((with_reducible refine (H1.out _ (by first | exact RR.out | exact RR.out.drewN _)).mono ?_); rintro e w1 ⟨rfl, n1, rfl⟩)) | (go_at_call 47; ((with_reducible refine (H3.out _ (by first | exact RR.out | exact RR.out.drewN _)).mono ?_); rintro e w1 ⟨rfl, n1, rfl⟩)) | (go_at_call 62; ((with_reducible refine (H5.out _).mono ?_); rintro e w1 ⟨rfl, n1, rfl⟩)))
        go_ret
        exact ⟨ret_b HZ.out.symm, by first | exact ⟨_, rfl⟩ | exact ⟨0, rfl⟩⟩
      · skip
        cases h4 : okF dk da db dc dx dy
        · have HZ : Hid (okStr n k tk ta tb tc tx ty dk da db dc dx dy l = false) := by unfold Hid okStr; simp only [h1, h2, h3, h4, Bool.and_true, Bool.and_false, Bool.true_and, Bool.false_and]
          rw [h1] at G0; have H0 := hid G0; clear G0
          rw [h2] at G1; have H1 := hid G1; clear G1
          have e3 : (tk == 3) = true := by simpa using h3
          rw [h4] at G3; have H3 := hid G3; clear G3
          clear h1 h2 h3 h4
          clear G5
          go_enter Try.func61, Try.ntmps61
          go_wp2_with (first | (go_at_call 91; ((with_reducible refine (H0.out).mono ?_); rintro e w1 ⟨rfl, rfl⟩)) | (go_at_call 47; ((with_reducible refine (H1.out _ (by first | exact RR.out | exact RR.out.drewN _)).mono ?_); rintro e w1 ⟨rfl, n1, rfl⟩)) | (go_at_call 47; ((with_reducible refine (H3.out _ (by first | exact RR.out | exact RR.out.drewN _)).mono ?_); rintro e w1 ⟨rfl, n1, rfl⟩)) | (go_at_call 62; ((with_reducible refine (H5.out _).mono ?_); rintro e w1 ⟨rfl, n1, rfl⟩)))
          go_ret
          exact ⟨ret_b HZ.out.symm, by first | exact ⟨_, rfl⟩ | exact ⟨0, rfl⟩⟩
        · skip
          cases h5 : decide (dk = 2)
          · have HZ : Hid (okStr n k tk ta tb tc tx ty dk da db dc dx dy l = false) := by unfold Hid okStr; simp only [h1, h2, h3, h4, h5, Bool.and_true, Bool.and_false, Bool.true_and, Bool.false_and]
            rw [h1] at G0; have H0 := hid G0; clear G0
            rw [h2] at G1; have H1 := hid G1; clear G1
            have e3 : (tk == 3) = true := by simpa using h3
            rw [h4] at G3; have H3 := hid G3; clear G3
            have e5 : ¬ dk = 2 := of_decide_eq_false h5
            clear h1 h2 h3 h4 h5
            clear G5
            go_enter Try.func61, Try.ntmps61
            go_wp2_with (first | (go_at_call 91; ((with_reducible refine (H0.out).mono ?_); rintro e w1 ⟨rfl, rfl⟩)) | (go_at_call 47; ((with_reducible refine (H1.out _ (by first | exact RR.out | exact RR.out.drewN _)).mono ?_); rintro e w1 ⟨rfl, n1, rfl⟩)) | (go_at_call 47; ((with_reducible refine (H3.out _ (by first | exact RR.out | exact RR.out.drewN _)).mono ?_); rintro e w1 ⟨rfl, n1, rfl⟩)) | (go_at_call 62; ((with_reducible refine (H5.out _).mono ?_); rintro e w1 ⟨rfl, n1, rfl⟩)))
            go_ret
            exact ⟨ret_b HZ.out.symm, by first | exact ⟨_, rfl⟩ | exact ⟨0, rfl⟩⟩
          · skip
            cases h6 : fin l
            · have HZ : Hid (okStr n k tk ta tb tc tx ty dk da db dc dx dy l = false) := by unfold Hid okStr; simp only [h1, h2, h3, h4, h5, h6, Bool.and_true, Bool.and_false, Bool.true_and, Bool.false_and]
              rw [h1] at G0; have H0 := hid G0; clear G0
              rw [h2] at G1; have H1 := hid G1; clear G1
              have e3 : (tk == 3) = true := by simpa using h3
              rw [h4] at G3; have H3 := hid G3; clear G3
              have e5 : (dk == 2) = true := by simpa using h5
              rw [h6] at G5; have H5 := hid G5; clear G5
              clear h1 h2 h3 h4 h5 h6
              go_enter Try.func61, Try.ntmps61
              go_wp2_with (first | (go_at_call 91; ((with_reducible refine (H0.out).mono ?_); rintro e w1 ⟨rfl, rfl⟩)) | (go_at_call 47; ((with_reducible refine (H1.out _ (by first | exact RR.out | exact RR.out.drewN _)).mono ?_); rintro e w1 ⟨rfl, n1, rfl⟩)) | (go_at_call 47; ((with_reducible refine (H3.out _ (by first | exact RR.out | exact RR.out.drewN _)).mono ?_); rintro e w1 ⟨rfl, n1, rfl⟩)) | (go_at_call 62; ((with_reducible refine (H5.out _).mono ?_); rintro e w1 ⟨rfl, n1, rfl⟩)))
              go_ret
              exact ⟨ret_b HZ.out.symm, by first | exact ⟨_, rfl⟩ | exact ⟨0, rfl⟩⟩
            · skip
              have HZ : Hid (okStr n k tk ta tb tc tx ty dk da db dc dx dy l = true) := by unfold Hid okStr; simp only [h1, h2, h3, h4, h5, h6, Bool.and_true, Bool.and_false, Bool.true_and, Bool.false_and]
              rw [h1] at G0; have H0 := hid G0; clear G0
              rw [h2] at G1; have H1 := hid G1; clear G1
              have e3 : (tk == 3) = true := by simpa using h3
              rw [h4] at G3; have H3 := hid G3; clear G3
              have e5 : (dk == 2) = true := by simpa using h5
              rw [h6] at G5; have H5 := hid G5; clear G5
              clear h1 h2 h3 h4 h5 h6
              go_enter Try.func61, Try.ntmps61
              go_wp2_with (first | (go_at_call 91; ((with_reducible refine (H0.out).mono ?_); rintro e w1 ⟨rfl, rfl⟩)) | (go_at_call 47; ((with_reducible refine (H1.out _ (by first | exact RR.out | exact RR.out.drewN _)).mono ?_); rintro e w1 ⟨rfl, n1, rfl⟩)) | (go_at_call 47; ((with_reducible refine (H3.out _ (by first | exact RR.out | exact RR.out.drewN _)).mono ?_); rintro e w1 ⟨rfl, n1, rfl⟩)) | (go_at_call 62; ((with_reducible refine (H5.out _).mono ?_); rintro e w1 ⟨rfl, n1, rfl⟩)))
              go_ret
              exact ⟨ret_b HZ.out.symm, by first | exact ⟨_, rfl⟩ | exact ⟨0, rfl⟩⟩
set_option maxRecDepth 100000 in
set_option maxHeartbeats 2000000 in
theorem i_ValidStringR (B : Nat) (s : Value) (x : Nat → Nat) (n : Nat) (k tk : Int) (ta tb tc tx ty : Nat) (dk : Int) (da db dc dx dy l : Nat) (w : World) (hs : RdS w B s x n) (hf : fits .f32 ta ∧ fits .f32 tb ∧ fits .f32 tc ∧ fits .f32 tx ∧ fits .f32 ty) (hg : fits .f32 da ∧ fits .f32 db ∧ fits .f32 dc ∧ fits .f32 dx ∧ fits .f32 dy) (hl : fits .f32 l) :
    Calls Try.prog 66 #[.agg #[s, .int .i64 k, .int .i64 tk, .float .f32 ta, .float .f32 tb, .float .f32 tc, .float .f32 tx, .float .f32 ty, .int .i64 dk, .float .f32 da, .float .f32 db, .float .f32 dc, .float .f32 dx, .float .f32 dy, .float .f32 l]] w (Out_b (okStr n k tk ta tb tc tx ty dk da db dc dx dy l) w) := by
  have G0 := fun (w1 : World) (h : le w w1) => i_ValidRingR B s x n k w1 (hs.le h)
  have G1 := fun (w1 : World) => i_ValidFilter tk ta tb tc tx ty w1 hf
  have G3 := fun (w1 : World) => i_ValidFilter dk da db dc dx dy w1 hg
  have G5 := fun (w1 : World) => i_isFinite l w1 hl
  have F := (Frg.nil w).box 48 #[s, .int .i64 k, .int .i64 tk, .float .f32 ta, .float .f32 tb, .float .f32 tc, .float .f32 tx, .float .f32 ty, .int .i64 dk, .float .f32 da, .float .f32 db, .float .f32 dc, .float .f32 dx, .float .f32 dy, .float .f32 l]
  clear hs hf hg hl
  cases h1 : okRing n k
  · have HZ : Hid (okStr n k tk ta tb tc tx ty dk da db dc dx dy l = false) := by unfold Hid okStr; simp only [h1, Bool.and_true, Bool.and_false, Bool.true_and, Bool.false_and]
    rw [h1] at G0; have H0 := hid G0; clear G0
    clear h1
    clear G1
    clear G3
    clear G5
    have c2 := (F.row m0).cell? 2; have c8 := (F.row m0).cell? 8; have c14 := (F.row m0).cell? 14
    go_enter Try.func66, Try.ntmps66
    go_wp2_with (first | ((with_reducible refine at_loadU rfl rfl ?_); first | (with_reducible refine wpList_loadGP F rfl rfl rfl m0 Try.underlying46 rfl [s, .int .i64 k] (strRing s k tk ta tb tc tx ty dk da db dc dx dy l) infoRing rfl ?_) | (with_reducible refine wpList_loadGP F rfl rfl rfl m0 Try.underlying28 rfl [.int .i64 tk, .float .f32 ta, .float .f32 tb, .float .f32 tc, .float .f32 tx, .float .f32 ty] (strTune s k tk ta tb tc tx ty dk da db dc dx dy l) infoFil rfl ?_) | (with_reducible refine wpList_loadGP F rfl rfl rfl m0 Try.underlying28 rfl [.int .i64 dk, .float .f32 da, .float .f32 db, .float .f32 dc, .float .f32 dx, .float .f32 dy] (strDamp s k tk ta tb tc tx ty dk da db dc dx dy l) infoFil rfl ?_)) | ((with_reducible refine at_loadV rfl rfl ?_); first | (with_reducible refine wpList_loadGPG F rfl rfl m0 Try.underlying46 rfl [s, .int .i64 k] (strRing s k tk ta tb tc tx ty dk da db dc dx dy l) infoRing rfl (by kernel_rfl) ?_) | (with_reducible refine wpList_loadGPG F rfl rfl m0 Try.underlying28 rfl [.int .i64 tk, .float .f32 ta, .float .f32 tb, .float .f32 tc, .float .f32 tx, .float .f32 ty] (strTune s k tk ta tb tc tx ty dk da db dc dx dy l) infoFil rfl (by kernel_rfl) ?_) | (with_reducible refine wpList_loadGPG F rfl rfl m0 Try.underlying28 rfl [.int .i64 dk, .float .f32 da, .float .f32 db, .float .f32 dc, .float .f32 dx, .float .f32 dy] (strDamp s k tk ta tb tc tx ty dk da db dc dx dy l) infoFil rfl (by kernel_rfl) ?_)) | (go_at_call 93; ((with_reducible refine (H0.out _ F.below).mono ?_); rintro e w1 ⟨rfl, hl⟩; replace F := F.le hl; clear hl; clear c2 c8 c14; have c2 := (F.row m0).cell? 2; have c8 := (F.row m0).cell? 8; have c14 := (F.row m0).cell? 14)) | (go_at_call 51; ((with_reducible refine (H1.out _).mono ?_); rintro e w1 ⟨rfl, hl⟩; replace F := F.le hl; clear hl; clear c2 c8 c14; have c2 := (F.row m0).cell? 2; have c8 := (F.row m0).cell? 8; have c14 := (F.row m0).cell? 14)) | (go_at_call 51; ((with_reducible refine (H3.out _).mono ?_); rintro e w1 ⟨rfl, hl⟩; replace F := F.le hl; clear hl; clear c2 c8 c14; have c2 := (F.row m0).cell? 2; have c8 := (F.row m0).cell? 8; have c14 := (F.row m0).cell? 14)) | (go_at_call 68; ((with_reducible refine (H5.out _).mono ?_); rintro e w1 ⟨rfl, rfl⟩)))
    go_ret
    exact ⟨ret_b HZ.out.symm, F.below⟩
  · skip
    cases h3 : decide (tk = 3)
    · have HZ : Hid (okStr n k tk ta tb tc tx ty dk da db dc dx dy l = false) := by unfold Hid okStr; simp only [h1, h3, Bool.and_true, Bool.and_false, Bool.true_and, Bool.false_and]
      rw [h1] at G0; have H0 := hid G0; clear G0
      have e3 : ¬ tk = 3 := of_decide_eq_false h3
      clear h1 h3
      clear G1
      clear G3
      clear G5
      have c2 := (F.row m0).cell? 2; have c8 := (F.row m0).cell? 8; have c14 := (F.row m0).cell? 14
      go_enter Try.func66, Try.ntmps66
      go_wp2_with (first | ((with_reducible refine at_loadU rfl rfl ?_); first | (with_reducible refine wpList_loadGP F rfl rfl rfl m0 Try.underlying46 rfl [s, .int .i64 k] (strRing s k tk ta tb tc tx ty dk da db dc dx dy l) infoRing rfl ?_) | (with_reducible refine wpList_loadGP F rfl rfl rfl m0 Try.underlying28 rfl [.int .i64 tk, .float .f32 ta, .float .f32 tb, .float .f32 tc, .float .f32 tx, .float .f32 ty] (strTune s k tk ta tb tc tx ty dk da db dc dx dy l) infoFil rfl ?_) | (with_reducible refine wpList_loadGP F rfl rfl rfl m0 Try.underlying28 rfl [.int .i64 dk, .float .f32 da, .float .f32 db, .float .f32 dc, .float .f32 dx, .float .f32 dy] (strDamp s k tk ta tb tc tx ty dk da db dc dx dy l) infoFil rfl ?_)) | ((with_reducible refine at_loadV rfl rfl ?_); first | (with_reducible refine wpList_loadGPG F rfl rfl m0 Try.underlying46 rfl [s, .int .i64 k] (strRing s k tk ta tb tc tx ty dk da db dc dx dy l) infoRing rfl (by kernel_rfl) ?_) | (with_reducible refine wpList_loadGPG F rfl rfl m0 Try.underlying28 rfl [.int .i64 tk, .float .f32 ta, .float .f32 tb, .float .f32 tc, .float .f32 tx, .float .f32 ty] (strTune s k tk ta tb tc tx ty dk da db dc dx dy l) infoFil rfl (by kernel_rfl) ?_) | (with_reducible refine wpList_loadGPG F rfl rfl m0 Try.underlying28 rfl [.int .i64 dk, .float .f32 da, .float .f32 db, .float .f32 dc, .float .f32 dx, .float .f32 dy] (strDamp s k tk ta tb tc tx ty dk da db dc dx dy l) infoFil rfl (by kernel_rfl) ?_)) | (go_at_call 93; ((with_reducible refine (H0.out _ F.below).mono ?_); rintro e w1 ⟨rfl, hl⟩; replace F := F.le hl; clear hl; clear c2 c8 c14; have c2 := (F.row m0).cell? 2; have c8 := (F.row m0).cell? 8; have c14 := (F.row m0).cell? 14)) | (go_at_call 51; ((with_reducible refine (H1.out _).mono ?_); rintro e w1 ⟨rfl, hl⟩; replace F := F.le hl; clear hl; clear c2 c8 c14; have c2 := (F.row m0).cell? 2; have c8 := (F.row m0).cell? 8; have c14 := (F.row m0).cell? 14)) | (go_at_call 51; ((with_reducible refine (H3.out _).mono ?_); rintro e w1 ⟨rfl, hl⟩; replace F := F.le hl; clear hl; clear c2 c8 c14; have c2 := (F.row m0).cell? 2; have c8 := (F.row m0).cell? 8; have c14 := (F.row m0).cell? 14)) | (go_at_call 68; ((with_reducible refine (H5.out _).mono ?_); rintro e w1 ⟨rfl, rfl⟩)))
      go_ret
      exact ⟨ret_b HZ.out.symm, F.below⟩
    · skip
      cases h2 : okF tk ta tb tc tx ty
      · have HZ : Hid (okStr n k tk ta tb tc tx ty dk da db dc dx dy l = false) := by unfold Hid okStr; simp only [h1, h3, h2, Bool.and_true, Bool.and_false, Bool.true_and, Bool.false_and]
        rw [h1] at G0; have H0 := hid G0; clear G0
        have e3 : (tk == 3) = true := by simpa using h3
        rw [h2] at G1; have H1 := hid G1; clear G1
        clear h1 h3 h2
        clear G3
        clear G5
        have c2 := (F.row m0).cell? 2; have c8 := (F.row m0).cell? 8; have c14 := (F.row m0).cell? 14
        go_enter Try.func66, Try.ntmps66
        go_wp2_with (first | ((with_reducible refine at_loadU rfl rfl ?_); first | (with_reducible refine wpList_loadGP F rfl rfl rfl m0 Try.underlying46 rfl [s, .int .i64 k] (strRing s k tk ta tb tc tx ty dk da db dc dx dy l) infoRing rfl ?_) | (with_reducible refine wpList_loadGP F rfl rfl rfl m0 Try.underlying28 rfl [.int .i64 tk, .float .f32 ta, .float .f32 tb, .float .f32 tc, .float .f32 tx, .float .f32 ty] (strTune s k tk ta tb tc tx ty dk da db dc dx dy l) infoFil rfl ?_) | (with_reducible refine wpList_loadGP F rfl rfl rfl m0 Try.underlying28 rfl [.int .i64 dk, .float .f32 da, .float .f32 db, .float .f32 dc, .float .f32 dx, .float .f32 dy] (strDamp s k tk ta tb tc tx ty dk da db dc dx dy l) infoFil rfl ?_)) | ((with_reducible refine at_loadV rfl rfl ?_); first | (with_reducible refine wpList_loadGPG F rfl rfl m0 Try.underlying46 rfl [s, .int .i64 k] (strRing s k tk ta tb tc tx ty dk da db dc dx dy l) infoRing rfl (by kernel_rfl) ?_) | (with_reducible refine wpList_loadGPG F rfl rfl m0 Try.underlying28 rfl [.int .i64 tk, .float .f32 ta, .float .f32 tb, .float .f32 tc, .float .f32 tx, .float .f32 ty] (strTune s k tk ta tb tc tx ty dk da db dc dx dy l) infoFil rfl (by kernel_rfl) ?_) | (with_reducible refine wpList_loadGPG F rfl rfl m0 Try.underlying28 rfl [.int .i64 dk, .float .f32 da, .float .f32 db, .float .f32 dc, .float .f32 dx, .float .f32 dy] (strDamp s k tk ta tb tc tx ty dk da db dc dx dy l) infoFil rfl (by kernel_rfl) ?_)) | (go_at_call 93; ((with_reducible refine (H0.out _ F.below).mono ?_); rintro e w1 ⟨rfl, hl⟩; replace F := F.le hl; clear hl; clear c2 c8 c14; have c2 := (F.row m0).cell? 2; have c8 := (F.row m0).cell? 8; have c14 := (F.row m0).cell? 14)) | (go_at_call 51; ((with_reducible refine (H1.out _).mono ?_); rintro e w1 ⟨rfl, hl⟩; replace F := F.le hl; clear hl; clear c2 c8 c14; have c2 := (F.row m0).cell? 2; have c8 := (F.row m0).cell? 8; have c14 := (F.row m0).cell? 14)) | (go_at_call 51; ((with_reducible refine (H3.out _).mono ?_); rintro e w1 ⟨rfl, hl⟩; replace F := F.le hl; clear hl; clear c2 c8 c14; have c2 := (F.row m0).cell? 2; have c8 := (F.row m0).cell? 8; have c14 := (F.row m0).cell? 14)) | (go_at_call 68; ((with_reducible refine (H5.out _).mono ?_); rintro e w1 ⟨rfl, rfl⟩)))
        go_ret
        exact ⟨ret_b HZ.out.symm, F.below⟩
      · skip
        cases h5 : decide (dk = 2)
        · have HZ : Hid (okStr n k tk ta tb tc tx ty dk da db dc dx dy l = false) := by unfold Hid okStr; simp only [h1, h3, h2, h5, Bool.and_true, Bool.and_false, Bool.true_and, Bool.false_and]
          rw [h1] at G0; have H0 := hid G0; clear G0
          have e3 : (tk == 3) = true := by simpa using h3
          rw [h2] at G1; have H1 := hid G1; clear G1
          have e5 : ¬ dk = 2 := of_decide_eq_false h5
          clear h1 h3 h2 h5
          clear G3
          clear G5
          have c2 := (F.row m0).cell? 2; have c8 := (F.row m0).cell? 8; have c14 := (F.row m0).cell? 14
          go_enter Try.func66, Try.ntmps66
          go_wp2_with (first | ((with_reducible refine at_loadU rfl rfl ?_); first | (with_reducible refine wpList_loadGP F rfl rfl rfl m0 Try.underlying46 rfl [s, .int .i64 k] (strRing s k tk ta tb tc tx ty dk da db dc dx dy l) infoRing rfl ?_) | (with_reducible refine wpList_loadGP F rfl rfl rfl m0 Try.underlying28 rfl [.int .i64 tk, .float .f32 ta, .float .f32 tb, .float .f32 tc, .float .f32 tx, .float .f32 ty] (strTune s k tk ta tb tc tx ty dk da db dc dx dy l) infoFil rfl ?_) | (with_reducible refine wpList_loadGP F rfl rfl rfl m0 Try.underlying28 rfl [.int .i64 dk, .float .f32 da, .float .f32 db, .float .f32 dc, .float .f32 dx, .float .f32 dy] (strDamp s k tk ta tb tc tx ty dk da db dc dx dy l) infoFil rfl ?_)) | ((with_reducible refine at_loadV rfl rfl ?_); first | (with_reducible refine wpList_loadGPG F rfl rfl m0 Try.underlying46 rfl [s, .int .i64 k] (strRing s k tk ta tb tc tx ty dk da db dc dx dy l) infoRing rfl (by kernel_rfl) ?_) | (with_reducible refine wpList_loadGPG F rfl rfl m0 Try.underlying28 rfl [.int .i64 tk, .float .f32 ta, .float .f32 tb, .float .f32 tc, .float .f32 tx, .float .f32 ty] (strTune s k tk ta tb tc tx ty dk da db dc dx dy l) infoFil rfl (by kernel_rfl) ?_) | (with_reducible refine wpList_loadGPG F rfl rfl m0 Try.underlying28 rfl [.int .i64 dk, .float .f32 da, .float .f32 db, .float .f32 dc, .float .f32 dx, .float .f32 dy] (strDamp s k tk ta tb tc tx ty dk da db dc dx dy l) infoFil rfl (by kernel_rfl) ?_)) | (go_at_call 93; ((with_reducible refine (H0.out _ F.below).mono ?_); rintro e w1 ⟨rfl, hl⟩; replace F := F.le hl; clear hl; clear c2 c8 c14; have c2 := (F.row m0).cell? 2; have c8 := (F.row m0).cell? 8; have c14 := (F.row m0).cell? 14)) | (go_at_call 51; ((with_reducible refine (H1.out _).mono ?_); rintro e w1 ⟨rfl, hl⟩; replace F := F.le hl; clear hl; clear c2 c8 c14; have c2 := (F.row m0).cell? 2; have c8 := (F.row m0).cell? 8; have c14 := (F.row m0).cell? 14)) | (go_at_call 51; ((with_reducible refine (H3.out _).mono ?_); rintro e w1 ⟨rfl, hl⟩; replace F := F.le hl; clear hl; clear c2 c8 c14; have c2 := (F.row m0).cell? 2; have c8 := (F.row m0).cell? 8; have c14 := (F.row m0).cell? 14)) | (go_at_call 68; ((with_reducible refine (H5.out _).mono ?_); rintro e w1 ⟨rfl, rfl⟩)))
          go_ret
          exact ⟨ret_b HZ.out.symm, F.below⟩
        · skip
          cases h4 : okF dk da db dc dx dy
          · have HZ : Hid (okStr n k tk ta tb tc tx ty dk da db dc dx dy l = false) := by unfold Hid okStr; simp only [h1, h3, h2, h5, h4, Bool.and_true, Bool.and_false, Bool.true_and, Bool.false_and]
            rw [h1] at G0; have H0 := hid G0; clear G0
            have e3 : (tk == 3) = true := by simpa using h3
            rw [h2] at G1; have H1 := hid G1; clear G1
            have e5 : (dk == 2) = true := by simpa using h5
            rw [h4] at G3; have H3 := hid G3; clear G3
            clear h1 h3 h2 h5 h4
            clear G5
            have c2 := (F.row m0).cell? 2; have c8 := (F.row m0).cell? 8; have c14 := (F.row m0).cell? 14
            go_enter Try.func66, Try.ntmps66
            go_wp2_with (first | ((with_reducible refine at_loadU rfl rfl ?_); first | (with_reducible refine wpList_loadGP F rfl rfl rfl m0 Try.underlying46 rfl [s, .int .i64 k] (strRing s k tk ta tb tc tx ty dk da db dc dx dy l) infoRing rfl ?_) | (with_reducible refine wpList_loadGP F rfl rfl rfl m0 Try.underlying28 rfl [.int .i64 tk, .float .f32 ta, .float .f32 tb, .float .f32 tc, .float .f32 tx, .float .f32 ty] (strTune s k tk ta tb tc tx ty dk da db dc dx dy l) infoFil rfl ?_) | (with_reducible refine wpList_loadGP F rfl rfl rfl m0 Try.underlying28 rfl [.int .i64 dk, .float .f32 da, .float .f32 db, .float .f32 dc, .float .f32 dx, .float .f32 dy] (strDamp s k tk ta tb tc tx ty dk da db dc dx dy l) infoFil rfl ?_)) | ((with_reducible refine at_loadV rfl rfl ?_); first | (with_reducible refine wpList_loadGPG F rfl rfl m0 Try.underlying46 rfl [s, .int .i64 k] (strRing s k tk ta tb tc tx ty dk da db dc dx dy l) infoRing rfl (by kernel_rfl) ?_) | (with_reducible refine wpList_loadGPG F rfl rfl m0 Try.underlying28 rfl [.int .i64 tk, .float .f32 ta, .float .f32 tb, .float .f32 tc, .float .f32 tx, .float .f32 ty] (strTune s k tk ta tb tc tx ty dk da db dc dx dy l) infoFil rfl (by kernel_rfl) ?_) | (with_reducible refine wpList_loadGPG F rfl rfl m0 Try.underlying28 rfl [.int .i64 dk, .float .f32 da, .float .f32 db, .float .f32 dc, .float .f32 dx, .float .f32 dy] (strDamp s k tk ta tb tc tx ty dk da db dc dx dy l) infoFil rfl (by kernel_rfl) ?_)) | (go_at_call 93; ((with_reducible refine (H0.out _ F.below).mono ?_); rintro e w1 ⟨rfl, hl⟩; replace F := F.le hl; clear hl; clear c2 c8 c14; have c2 := (F.row m0).cell? 2; have c8 := (F.row m0).cell? 8; have c14 := (F.row m0).cell? 14)) | (go_at_call 51; ((with_reducible refine (H1.out _).mono ?_); rintro e w1 ⟨rfl, hl⟩; replace F := F.le hl; clear hl; clear c2 c8 c14; have c2 := (F.row m0).cell? 2; have c8 := (F.row m0).cell? 8; have c14 := (F.row m0).cell? 14)) | (go_at_call 51; ((with_reducible refine (H3.out _).mono ?_); rintro e w1 ⟨rfl, hl⟩; replace F := F.le hl; clear hl; clear c2 c8 c14; have c2 := (F.row m0).cell? 2; have c8 := (F.row m0).cell? 8; have c14 := (F.row m0).cell? 14)) | (go_at_call 68; ((with_reducible refine (H5.out _).mono ?_); rintro e w1 ⟨rfl, rfl⟩)))
            go_ret
            exact ⟨ret_b HZ.out.symm, F.below⟩
          · skip
            cases h6 : fin l
            · have HZ : Hid (okStr n k tk ta tb tc tx ty dk da db dc dx dy l = false) := by unfold Hid okStr; simp only [h1, h3, h2, h5, h4, h6, Bool.and_true, Bool.and_false, Bool.true_and, Bool.false_and]
              rw [h1] at G0; have H0 := hid G0; clear G0
              have e3 : (tk == 3) = true := by simpa using h3
              rw [h2] at G1; have H1 := hid G1; clear G1
              have e5 : (dk == 2) = true := by simpa using h5
              rw [h4] at G3; have H3 := hid G3; clear G3
              rw [h6] at G5; have H5 := hid G5; clear G5
              clear h1 h3 h2 h5 h4 h6
              have c2 := (F.row m0).cell? 2; have c8 := (F.row m0).cell? 8; have c14 := (F.row m0).cell? 14
              go_enter Try.func66, Try.ntmps66
              go_wp2_with (first | ((with_reducible refine at_loadU rfl rfl ?_); first | (with_reducible refine wpList_loadGP F rfl rfl rfl m0 Try.underlying46 rfl [s, .int .i64 k] (strRing s k tk ta tb tc tx ty dk da db dc dx dy l) infoRing rfl ?_) | (with_reducible refine wpList_loadGP F rfl rfl rfl m0 Try.underlying28 rfl [.int .i64 tk, .float .f32 ta, .float .f32 tb, .float .f32 tc, .float .f32 tx, .float .f32 ty] (strTune s k tk ta tb tc tx ty dk da db dc dx dy l) infoFil rfl ?_) | (with_reducible refine wpList_loadGP F rfl rfl rfl m0 Try.underlying28 rfl [.int .i64 dk, .float .f32 da, .float .f32 db, .float .f32 dc, .float .f32 dx, .float .f32 dy] (strDamp s k tk ta tb tc tx ty dk da db dc dx dy l) infoFil rfl ?_)) | ((with_reducible refine at_loadV rfl rfl ?_); first | (with_reducible refine wpList_loadGPG F rfl rfl m0 Try.underlying46 rfl [s, .int .i64 k] (strRing s k tk ta tb tc tx ty dk da db dc dx dy l) infoRing rfl (by kernel_rfl) ?_) | (with_reducible refine wpList_loadGPG F rfl rfl m0 Try.underlying28 rfl [.int .i64 tk, .float .f32 ta, .float .f32 tb, .float .f32 tc, .float .f32 tx, .float .f32 ty] (strTune s k tk ta tb tc tx ty dk da db dc dx dy l) infoFil rfl (by kernel_rfl) ?_) | (with_reducible refine wpList_loadGPG F rfl rfl m0 Try.underlying28 rfl [.int .i64 dk, .float .f32 da, .float .f32 db, .float .f32 dc, .float .f32 dx, .float .f32 dy] (strDamp s k tk ta tb tc tx ty dk da db dc dx dy l) infoFil rfl (by kernel_rfl) ?_)) | (go_at_call 93; ((with_reducible refine (H0.out _ F.below).mono ?_); rintro e w1 ⟨rfl, hl⟩; replace F := F.le hl; clear hl; clear c2 c8 c14; have c2 := (F.row m0).cell? 2; have c8 := (F.row m0).cell? 8; have c14 := (F.row m0).cell? 14)) | (go_at_call 51; ((with_reducible refine (H1.out _).mono ?_); rintro e w1 ⟨rfl, hl⟩; replace F := F.le hl; clear hl; clear c2 c8 c14; have c2 := (F.row m0).cell? 2; have c8 := (F.row m0).cell? 8; have c14 := (F.row m0).cell? 14)) | (go_at_call 51; ((with_reducible refine (H3.out _).mono ?_); rintro e w1 ⟨rfl, hl⟩; replace F := F.le hl; clear hl; clear c2 c8 c14; have c2 := (F.row m0).cell? 2; have c8 := (F.row m0).cell? 8; have c14 := (F.row m0).cell? 14)) | (go_at_call 68; ((with_reducible refine (H5.out _).mono ?_); rintro e w1 ⟨rfl, rfl⟩)))
              go_ret
              exact ⟨ret_b HZ.out.symm, F.below⟩
            · skip
              have HZ : Hid (okStr n k tk ta tb tc tx ty dk da db dc dx dy l = true) := by unfold Hid okStr; simp only [h1, h3, h2, h5, h4, h6, Bool.and_true, Bool.and_false, Bool.true_and, Bool.false_and]
              rw [h1] at G0; have H0 := hid G0; clear G0
              have e3 : (tk == 3) = true := by simpa using h3
              rw [h2] at G1; have H1 := hid G1; clear G1
              have e5 : (dk == 2) = true := by simpa using h5
              rw [h4] at G3; have H3 := hid G3; clear G3
              rw [h6] at G5; have H5 := hid G5; clear G5
              clear h1 h3 h2 h5 h4 h6
              have c2 := (F.row m0).cell? 2; have c8 := (F.row m0).cell? 8; have c14 := (F.row m0).cell? 14
              go_enter Try.func66, Try.ntmps66
              go_wp2_with (first | ((with_reducible refine at_loadU rfl rfl ?_); first | (with_reducible refine wpList_loadGP F rfl rfl rfl m0 Try.underlying46 rfl [s, .int .i64 k] (strRing s k tk ta tb tc tx ty dk da db dc dx dy l) infoRing rfl ?_) | (with_reducible refine wpList_loadGP F rfl rfl rfl m0 Try.underlying28 rfl [.int .i64 tk, .float .f32 ta, .float .f32 tb, .float .f32 tc, .float .f32 tx, .float .f32 ty] (strTune s k tk ta tb tc tx ty dk da db dc dx dy l) infoFil rfl ?_) | (with_reducible refine wpList_loadGP F rfl rfl rfl m0 Try.underlying28 rfl [.int .i64 dk, .float .f32 da, .float .f32 db, .float .f32 dc, .float .f32 dx, .float .f32 dy] (strDamp s k tk ta tb tc tx ty dk da db dc dx dy l) infoFil rfl ?_)) | ((with_reducible refine at_loadV rfl rfl ?_); first | (with_reducible refine wpList_loadGPG F rfl rfl m0 Try.underlying46 rfl [s, .int .i64 k] (strRing s k tk ta tb tc tx ty dk da db dc dx dy l) infoRing rfl (by kernel_rfl) ?_) | (with_reducible refine wpList_loadGPG F rfl rfl m0 Try.underlying28 rfl [.int .i64 tk, .float .f32 ta, .float .f32 tb, .float .f32 tc, .float .f32 tx, .float .f32 ty] (strTune s k tk ta tb tc tx ty dk da db dc dx dy l) infoFil rfl (by kernel_rfl) ?_) | (with_reducible refine wpList_loadGPG F rfl rfl m0 Try.underlying28 rfl [.int .i64 dk, .float .f32 da, .float .f32 db, .float .f32 dc, .float .f32 dx, .float .f32 dy] (strDamp s k tk ta tb tc tx ty dk da db dc dx dy l) infoFil rfl (by kernel_rfl) ?_)) | (go_at_call 93; ((with_reducible refine (H0.out _ F.below).mono ?_); rintro e w1 ⟨rfl, hl⟩; replace F := F.le hl; clear hl; clear c2 c8 c14; have c2 := (F.row m0).cell? 2; have c8 := (F.row m0).cell? 8; have c14 := (F.row m0).cell? 14)) | (go_at_call 51; ((with_reducible refine (H1.out _).mono ?_); rintro e w1 ⟨rfl, hl⟩; replace F := F.le hl; clear hl; clear c2 c8 c14; have c2 := (F.row m0).cell? 2; have c8 := (F.row m0).cell? 8; have c14 := (F.row m0).cell? 14)) | (go_at_call 51; ((with_reducible refine (H3.out _).mono ?_); rintro e w1 ⟨rfl, hl⟩; replace F := F.le hl; clear hl; clear c2 c8 c14; have c2 := (F.row m0).cell? 2; have c8 := (F.row m0).cell? 8; have c14 := (F.row m0).cell? 14)) | (go_at_call 68; ((with_reducible refine (H5.out _).mono ?_); rintro e w1 ⟨rfl, rfl⟩)))
              go_ret
              exact ⟨ret_b HZ.out.symm, F.below⟩
end Go.Proofs.Ytmacednkpjfokaa

/- 'StepString' of both, and what such functions share. -/
namespace Go.Fk
open Go Go.RowKit
theorem okStr_q {x : Nat → Nat} {n : Nat} {k tk : Int} {ta tb tc tx ty : Nat} {dk : Int} {da db dc dx dy l : Nat} (h : okStr n k tk ta tb tc tx ty dk da db dc dx dy l = true) (hf : fits .f32 ta ∧ fits .f32 tb ∧ fits .f32 tc ∧ fits .f32 tx ∧ fits .f32 ty) (hg : fits .f32 da ∧ fits .f32 db ∧ fits .f32 dc ∧ fits .f32 dx ∧ fits .f32 dy) (hl : fits .f32 l) :
    ∃ j : Nat, k = j ∧ tk = 3 ∧ dk = 2 ∧ (⟨x, n, j, ta, tb, tc, tx, ty, da, db, dc, dx, dy, l⟩ : StS).Ok := by
  unfold okStr at h
  simp only [Bool.and_eq_true, decide_eq_true_eq] at h
  obtain ⟨h1, h2, rfl, h4, rfl, h6⟩ := h
  obtain ⟨e1, e2, j, rfl, ej⟩ := okRing_j h1
  obtain ⟨f1, f2, f3, f4, f5⟩ := hf
  obtain ⟨g1, g2, g3, g4, g5⟩ := hg
  exact ⟨j, rfl, rfl, rfl, ⟨e1, e2, ej, h2, h4, h6, f1, f2, f3, f4, f5, g1, g2, g3, g4, g5, hl⟩⟩
end Go.Fk
namespace Go.Proofs.Ytmacednkpjfokaa
open Go.RowKit Go.Fk
theorem SpS.ok {w w' : World} {B C g : Nat} {q : StS} (h : SpS w B C g q) (hk : ∀ k, B ≤ k → k < C → w'.heap[k]? = w.heap[k]?) : SpS w' B C g q := by
  obtain ⟨s, lo, hi, R, O, g1, g2, g3, g4, g5⟩ := h
  exact ⟨s, lo, hi, (rowF g _ _).ok w w' R (fun k a b => hk k (Nat.le_trans g1 a) (by have b' : k < g + 1 := b; omega)), (ownF lo hi s q.x q.n).ok w w' O (fun k a b => hk k (Nat.le_trans g3 a) (Nat.lt_of_lt_of_le b g4)), g1, g2, g3, g4, g5⟩
/-- A string of the model in memory. -/
def spF (B C g : Nat) (q : StS) : Fact := ⟨B, C, fun w => SpS w B C g q, fun _ _ h hk => SpS.ok h hk⟩
theorem toSp {w0 w : World} {g lo hi : Nat} {s : Value} {q : StS} {l : List Fact} (h : Frg w0 w (rowF g 48 #[s, .int .i64 (q.j : Nat), .int .i64 3, .float .f32 (q.ta), .float .f32 (q.tb), .float .f32 (q.tc), .float .f32 (q.tx), .float .f32 (q.ty), .int .i64 2, .float .f32 (q.da), .float .f32 (q.db), .float .f32 (q.dc), .float .f32 (q.dx), .float .f32 (q.dy), .float .f32 (q.l)] :: ownF lo hi s q.x q.n :: l)) (hn : 1 ≤ q.n) : Frg w0 w (spF lo (g + 1) g q :: l) := by
  have f1 := h.facts (rowF g 48 #[s, .int .i64 (q.j : Nat), .int .i64 3, .float .f32 (q.ta), .float .f32 (q.tb), .float .f32 (q.tc), .float .f32 (q.tx), .float .f32 (q.ty), .int .i64 2, .float .f32 (q.da), .float .f32 (q.db), .float .f32 (q.dc), .float .f32 (q.dx), .float .f32 (q.dy), .float .f32 (q.l)]) (by simp)
  have f2 := h.facts (ownF lo hi s q.x q.n) (by simp)
  have a1 := List.pairwise_cons.1 h.apart
  have a2 := List.pairwise_cons.1 a1.2
  have b12 : hi ≤ g := a1.1 (ownF lo hi s q.x q.n) (by simp)
  have hlo : lo < hi := by
    rcases f2.2.2 with ⟨_, h0⟩ | ⟨b, o, cap, cs, _, _, _, h4, h5, _⟩
    · omega
    · omega
  refine ⟨h.below, fun e he => ?_, List.pairwise_cons.2 ⟨fun e he => a2.1 e he, a2.2⟩⟩
  rcases List.mem_cons.1 he with rfl | he
  · exact ⟨f2.1, f1.2.1, ⟨s, lo, hi, f1.2.2, f2.2.2, by omega, by omega, Nat.le_refl _, by omega, by omega⟩⟩
  · exact h.facts e (by simp [he])
theorem LpS.ok {w w' : World} {B C g : Nat} {q : StS} (h : LpS w B C g q) (hk : ∀ k, B ≤ k → k < C → w'.heap[k]? = w.heap[k]?) : LpS w' B C g q := by
  obtain ⟨s, lo, hi, rt, rd, R, O, RT, RD, ⟨b1, b2, b3, b4, b5, b6, b7, b8⟩, d⟩ := h
  exact ⟨s, lo, hi, rt, rd, (rowF g _ _).ok w w' R (fun k a b => hk k (Nat.le_trans b1 a) (by have b' : k < g + 1 := b; omega)), (ownF lo hi s q.x q.n).ok w w' O (fun k a b => hk k (Nat.le_trans b7 a) (Nat.lt_of_lt_of_le b b8)), (rowF rt _ _).ok w w' RT (fun k a b => hk k (Nat.le_trans b3 a) (by have b' : k < rt + 1 := b; omega)), (rowF rd _ _).ok w w' RD (fun k a b => hk k (Nat.le_trans b5 a) (by have b' : k < rd + 1 := b; omega)), ⟨b1, b2, b3, b4, b5, b6, b7, b8⟩, d⟩
/-- A loop in memory. -/
def lpF (B C g : Nat) (q : StS) : Fact := ⟨B, C, fun w => LpS w B C g q, fun _ _ h hk => LpS.ok h hk⟩
theorem Frg.sp {w0 w : World} {L : List Fact} {B C g : Nat} {q : StS} (h : Frg w0 w L) (hm : spF B C g q ∈ L) : SpS w B C g q := (h.facts _ hm).2.2
theorem Frg.lp {w0 w : World} {L : List Fact} {B C g : Nat} {q : StS} (h : Frg w0 w L) (hm : lpF B C g q ∈ L) : LpS w B C g q := (h.facts _ hm).2.2
set_option maxRecDepth 100000 in
set_option maxHeartbeats 2000000 in
theorem s_StepString_no (B : Nat) (s : Value) (x : Nat → Nat) (n : Nat) (k tk : Int) (ta tb tc tx ty : Nat) (dk : Int) (da db dc dx dy l : Nat) (a : Nat) (w : World) (hs : RdS w B s x n) (hk : (Lit.int .i64 k).wf = true) (hv : okStr n k tk ta tb tc tx ty dk da db dc dx dy l = false) :
    Calls Try.prog 33 #[.agg #[s, .int .i64 k, .int .i64 tk, .float .f32 ta, .float .f32 tb, .float .f32 tc, .float .f32 tx, .float .f32 ty, .int .i64 dk, .float .f32 da, .float .f32 db, .float .f32 dc, .float .f32 dx, .float .f32 dy, .float .f32 l], .float .f32 a] w (Out_sfi (fun _ => 0) 0 0 0 0 0 0 0 0 0 0 0 0 0 0 0 0 1 w) := by
  have HV := hid (fun (w' : World) (g : Nat) (hl : le w w') (R : Row w' g 48 #[s, .int .i64 k, .int .i64 tk, .float .f32 ta, .float .f32 tb, .float .f32 tc, .float .f32 tx, .float .f32 ty, .int .i64 dk, .float .f32 da, .float .f32 db, .float .f32 dc, .float .f32 dx, .float .f32 dy, .float .f32 l]) => hv ▸ s_l03Ok B s x n k tk ta tb tc tx ty dk da db dc dx dy l g w' (hs.le hl) R hk)
  clear hs hk hv
  have F := ((Frg.nil w).box 48 #[s, .int .i64 k, .int .i64 tk, .float .f32 ta, .float .f32 tb, .float .f32 tc, .float .f32 tx, .float .f32 ty, .int .i64 dk, .float .f32 da, .float .f32 db, .float .f32 dc, .float .f32 dx, .float .f32 dy, .float .f32 l]).box 48 #[.slice none 0 0, .int .i64 0, .int .i64 0, .float .f32 0, .float .f32 0, .float .f32 0, .float .f32 0, .float .f32 0, .int .i64 0, .float .f32 0, .float .f32 0, .float .f32 0, .float .f32 0, .float .f32 0, .float .f32 0]
  simp only [World.size_alloc] at F
  go_enter Try.func33, Try.ntmps33
  go_wp2_with (first | (go_at_call 61; ((with_reducible refine (HV.out _ _ F.below (F.row m1)).mono ?_); rintro e w1 ⟨rfl, m, rfl⟩; replace F := F.drewN m)) | ((with_reducible refine stop_store rfl ?_)))
  show wpList _ _ _ _ _ _
  refine wpList_storeD rfl rfl rfl (cells := #[.slice none 0 0, .int .i64 0, .int .i64 0, .float .f32 0, .float .f32 0, .float .f32 0, .float .f32 0, .float .f32 0, .int .i64 0, .float .f32 0, .float .f32 0, .float .f32 0, .float .f32 0, .float .f32 0, .float .f32 0]) rfl (F.row m0) infoStr rfl (by simp [Value.oneCell']) (fun w4 K => ?_)
  have R := hid K.row
  have L := hid (F.wr0 K).below
  clear K F
  go_wp2
  exact bodyPost_ret (results_row3 rfl _ _ _ _ _ rfl R.out Try.underlying48 rfl infoStr) rfl ⟨_, _, rfl, .inl ⟨rfl, rfl⟩, by decide, L.out⟩
set_option maxRecDepth 100000 in
set_option maxHeartbeats 4000000 in
theorem s_StepString_yes (B : Nat) (s : Value) (q : StS) (a : Nat) (w : World) (hs : RdS w B s q.x q.n) (ok : q.Ok) (hk : (Lit.int .i64 (q.j : Nat)).wf = true) (hv : okStr q.n (q.j : Nat) 3 q.ta q.tb q.tc q.tx q.ty 2 q.da q.db q.dc q.dx q.dy q.l = true) (ha : fits .f32 a) :
    Calls Try.prog 33 #[.agg #[s, .int .i64 (q.j : Nat), .int .i64 3, .float .f32 (q.ta), .float .f32 (q.tb), .float .f32 (q.tc), .float .f32 (q.tx), .float .f32 (q.ty), .int .i64 2, .float .f32 (q.da), .float .f32 (q.db), .float .f32 (q.dc), .float .f32 (q.dx), .float .f32 (q.dy), .float .f32 (q.l)], .float .f32 a] w (Out_sfi (stepS q a).x (stepS q a).n ((stepS q a).j : Nat) 3 ((stepS q a).ta) ((stepS q a).tb) ((stepS q a).tc) ((stepS q a).tx) ((stepS q a).ty) 2 ((stepS q a).da) ((stepS q a).db) ((stepS q a).dc) ((stepS q a).dx) ((stepS q a).dy) (stepS q a).l (q.x q.j) 0 w) := by
  have HV := hid (fun (w' : World) (g : Nat) (hl : le w w') (R : Row w' g 48 #[s, .int .i64 (q.j : Nat), .int .i64 3, .float .f32 (q.ta), .float .f32 (q.tb), .float .f32 (q.tc), .float .f32 (q.tx), .float .f32 (q.ty), .int .i64 2, .float .f32 (q.da), .float .f32 (q.db), .float .f32 (q.dc), .float .f32 (q.dx), .float .f32 (q.dy), .float .f32 (q.l)]) => hv ▸ s_l03Ok B s q.x q.n (q.j : Nat) 3 q.ta q.tb q.tc q.tx q.ty 2 q.da q.db q.dc q.dx q.dy q.l g w' (hs.le hl) R hk)
  have HCP := hid (fun (w' : World) (g : Nat) (hl : le w w') (R : Row w' g 48 #[s, .int .i64 (q.j : Nat), .int .i64 3, .float .f32 (q.ta), .float .f32 (q.tb), .float .f32 (q.tc), .float .f32 (q.tx), .float .f32 (q.ty), .int .i64 2, .float .f32 (q.da), .float .f32 (q.db), .float .f32 (q.dc), .float .f32 (q.dx), .float .f32 (q.dy), .float .f32 (q.l)]) => s_l03Copy B s q.x q.n (q.j : Nat) 3 q.ta q.tb q.tc q.tx q.ty 2 q.da q.db q.dc q.dx q.dy q.l g w' (hs.le hl) R ok.n1 ok.n2)
  have OK := hid ok
  have n1 := ok.n1
  clear hs hk hv ok
  have F := ((Frg.nil w).box 48 #[s, .int .i64 (q.j : Nat), .int .i64 3, .float .f32 (q.ta), .float .f32 (q.tb), .float .f32 (q.tc), .float .f32 (q.tx), .float .f32 (q.ty), .int .i64 2, .float .f32 (q.da), .float .f32 (q.db), .float .f32 (q.dc), .float .f32 (q.dx), .float .f32 (q.dy), .float .f32 (q.l)]).box 48 #[.slice none 0 0, .int .i64 0, .int .i64 0, .float .f32 0, .float .f32 0, .float .f32 0, .float .f32 0, .float .f32 0, .int .i64 0, .float .f32 0, .float .f32 0, .float .f32 0, .float .f32 0, .float .f32 0, .float .f32 0]
  simp only [World.size_alloc] at F
  go_enter Try.func33, Try.ntmps33
  go_wp2_with (first | (go_at_call 61; ((with_reducible refine (HV.out _ _ F.below (F.row m1)).mono ?_); rintro e w1 ⟨rfl, m, rfl⟩; replace F := F.drewN m)) | (go_at_call 63; ((with_reducible refine (HCP.out _ _ F.below (F.row m1)).mono ?_); rintro e w2 ⟨s', rfl, ho, hl⟩; have OC := hid (OwnS.one ho); replace F := F.own1 hl ho; clear ho hl)) | (refine wpList_storeG F rfl rfl rfl rfl rfl infoStr rfl (one_head OC.out rfl) ?_; clear F; intro W3 F zW; clear zW; replace F := toSp F n1) | (go_at_call 76; ((with_reducible refine (s_l03Step _ _ _ q a _ (Frg.sp F m0) OK.out ha).mono ?_); rintro e w4 ⟨o4, rfl, ho4, fo4, hsp, hch⟩; replace F := F.chg [] (e' := spF _ _ _ (stepS q a)) hch hsp rfl rfl; have HO4 := hid ho4; obtain ⟨s5, lo5, hi5, R5, O5, b1, b2, b3, b4, b5⟩ := hsp; have R5 := hid R5; have O5 := hid O5; have OC5 := hid (OwnS.one O5.out); clear hch ho4)) | ((with_reducible refine at_loadU rfl rfl ?_); (with_reducible refine wpList_loadDR R5.out rfl rfl rfl Try.underlying48 rfl infoStr rfl ?_)) | ((with_reducible refine stop_store (ty := 48) rfl ?_)))
  show wpList _ _ _ _ _ _
  refine wpList_storeD rfl rfl rfl (cells := #[s5, .int .i64 ((stepS q a).j : Nat), .int .i64 3, .float .f32 ((stepS q a).ta), .float .f32 ((stepS q a).tb), .float .f32 ((stepS q a).tc), .float .f32 ((stepS q a).tx), .float .f32 ((stepS q a).ty), .int .i64 2, .float .f32 ((stepS q a).da), .float .f32 ((stepS q a).db), .float .f32 ((stepS q a).dc), .float .f32 ((stepS q a).dx), .float .f32 ((stepS q a).dy), .float .f32 ((stepS q a).l)]) rfl (F.row m1) infoStr rfl (one_head OC5.out rfl) (fun w6 K => ?_)
  have RW := hid K.row
  have f1 := F.facts (spF _ _ _ (stepS q a)) m0
  have f2 := F.facts (rowF (w.heap.size + 1) 48 #[.slice none 0 0, .int .i64 0, .int .i64 0, .float .f32 0, .float .f32 0, .float .f32 0, .float .f32 0, .float .f32 0, .int .i64 0, .float .f32 0, .float .f32 0, .float .f32 0, .float .f32 0, .float .f32 0, .float .f32 0]) m1
  have a1 := (List.pairwise_cons.1 F.apart).1 _ m0
  simp only [rowF, spF] at a1
  have hc : Chg (· = w.heap.size + 1) _ w6 := (Chg.refl _ _).wrote K rfl
  have L := hid (F.wr1 K).below
  have f1' := hid f1.2.1
  have O6 := hid ((OwnS.chgS O5.out hc (fun i h1 h2 h3 => by have h3' : i = w.heap.size + 1 := h3; omega)).mono (lo' := w.heap.size) (hi' := w6.heap.size) (by omega) (Nat.le_trans b4 (Nat.le_trans f1'.out hc.size)))
  clear f1 f2 hc K F
  go_wp2
  exact bodyPost_ret (results_row3 rfl _ _ _ _ _ rfl RW.out Try.underlying48 rfl infoStr) rfl ⟨_, _, rfl, O6.out, HO4.out, L.out⟩
end Go.Proofs.Ytmacednkpjfokaa

/- Strings that go on, plainly. Nothing here names a program. -/
namespace Go.Fk
open Go Go.RowKit
/-- The string behind some steps, in which these samples come. -/
def goS (q : StS) (f : Nat → Nat) : Nat → StS
  | 0 => q
  | k + 1 => stepS (goS q f k) (f k)
/-- What the step with an index makes. -/
def outS (q : StS) (f : Nat → Nat) (k : Nat) : Nat := (goS q f k).x (goS q f k).j
/-- It is valid, and its samples fit. -/
structure StS.Fit (q : StS) : Prop where
  ok : q.Ok
  x : ∀ i, i < q.n → fits .f32 (q.x i)
theorem StS.Fit.j {q : StS} (h : q.Fit) : fits .f32 (q.x q.j) := h.x _ h.ok.j1
theorem StS.Fit.step {q : StS} (h : q.Fit) {a : Nat} : (stepS q a).Fit where
  ok := h.ok.step a h.j
  x := fun i hi => by
    show fits .f32 (pushX q.x q.j (nextS q a) i)
    unfold pushX
    split
    · exact fits_can (fits_nextS q a)
    · exact h.x i hi
theorem StS.Fit.run {q : StS} (h : q.Fit) (f : Nat → Nat) (k : Nat) : (goS q f k).Fit := by
  induction k with
  | zero => exact h
  | succ k ih => exact ih.step
section
variable (q : StS) (f : Nat → Nat) (k : Nat)
theorem goS_n : (goS q f k).n = q.n := by induction k with | zero => rfl | succ k ih => exact ih
theorem goS_ta : (goS q f k).ta = q.ta := by induction k with | zero => rfl | succ k ih => exact ih
theorem goS_tb : (goS q f k).tb = q.tb := by induction k with | zero => rfl | succ k ih => exact ih
theorem goS_tc : (goS q f k).tc = q.tc := by induction k with | zero => rfl | succ k ih => exact ih
theorem goS_da : (goS q f k).da = q.da := by induction k with | zero => rfl | succ k ih => exact ih
theorem goS_db : (goS q f k).db = q.db := by induction k with | zero => rfl | succ k ih => exact ih
theorem goS_dc : (goS q f k).dc = q.dc := by induction k with | zero => rfl | succ k ih => exact ih
theorem goS_l : (goS q f k).l = q.l := by induction k with | zero => rfl | succ k ih => exact ih
end
theorem RdS.fit {w : World} {B : Nat} {s : Value} {x : Nat → Nat} {n : Nat} (h : RdS w B s x n) : ∀ i, i < n → fits .f32 (x i) := by
  rcases h with ⟨_, rfl⟩ | ⟨a, cap, _, _, _, h5⟩
  · intro i hi; omega
  · intro i hi
    obtain ⟨_, y, _, h2, h3⟩ := h5 i hi
    rw [← h3]; exact fits_can h2
/-- The string with all samples and states 0. -/
def muteS (q : StS) : StS := { q with x := fun _ => 0, tx := 0, ty := 0, dx := 0, dy := 0 }
/-- Behind so many steps with 0 it is silent, and not before; or it is not behind K of them. -/
def ResSS (q : StS) (K : Nat) (n code : Int) : Prop :=
  (∃ m : Nat, n = m ∧ code = 0 ∧ m ≤ K ∧ silS (goS q (fun _ => 0) m) = true ∧ ∀ i, i < m → silS (goS q (fun _ => 0) i) = false) ∨ (n = 0 ∧ code = 7 ∧ ∀ i, i ≤ K → silS (goS q (fun _ => 0) i) = false)
theorem ResSS.one {q : StS} {K : Nat} {n d n' d' : Int} (h : ResSS q K n d) (h' : ResSS q K n' d') : n = n' ∧ d = d' := by
  rcases h with ⟨m, rfl, rfl, h1, h2, h3⟩ | ⟨rfl, rfl, h3⟩ <;> rcases h' with ⟨m', rfl, rfl, h1', h2', h3'⟩ | ⟨rfl, rfl, h3'⟩
  · rcases Nat.lt_trichotomy m m' with h | h | h
    · have := h3' m h; rw [h2] at this; cases this
    · subst h; exact ⟨rfl, rfl⟩
    · have := h3 m' h; rw [h2'] at this; cases this
  · have := h3' m h1; rw [h2] at this; cases this
  · have := h3 m' h1'; rw [h2'] at this; cases this
  · exact ⟨rfl, rfl⟩
theorem ResSS.ex (q : StS) (K : Nat) : ∃ n d, ResSS q K n d := by
  have key : (∃ m, m ≤ K ∧ silS (goS q (fun _ => 0) m) = true ∧ ∀ i, i < m → silS (goS q (fun _ => 0) i) = false) ∨ ∀ i, i ≤ K → silS (goS q (fun _ => 0) i) = false := by
    induction K with
    | zero =>
      cases h : silS (goS q (fun _ => 0) 0)
      · exact .inr (fun i hi => by obtain rfl : i = 0 := by omega
                                   exact h)
      · exact .inl ⟨0, Nat.le_refl _, h, fun i hi => absurd hi (by omega)⟩
    | succ K ih =>
      rcases ih with ⟨m, h1, h2, h3⟩ | h1
      · exact .inl ⟨m, by omega, h2, h3⟩
      · cases h : silS (goS q (fun _ => 0) (K + 1))
        · exact .inr (fun i hi => by
            rcases Nat.lt_or_ge i (K + 1) with h2 | h2
            · exact h1 i (by omega)
            · obtain rfl : i = K + 1 := by omega
              exact h)
        · exact .inl ⟨K + 1, Nat.le_refl _, h, fun i hi => h1 i (by omega)⟩
  rcases key with ⟨m, h1, h2, h3⟩ | h1
  · exact ⟨m, 0, .inl ⟨m, rfl, rfl, h1, h2, h3⟩⟩
  · exact ⟨0, 7, .inr ⟨rfl, rfl, h1⟩⟩
end Go.Fk

/- Cells of slices that one may write. Nothing here names a program. -/
namespace Go.Fk
open Go Go.RowKit
theorem OwnS.form {w : World} {lo hi n : Nat} {s : Value} {x : Nat → Nat} (h : OwnS w lo hi s x n) (hn : 1 ≤ n) : ∃ b o cap, s = .slice (some ⟨b, o, none⟩) n cap ∧ n ≤ cap ∧ cap ≤ maxLen ∧ lo ≤ b ∧ b < hi := by
  rcases h with ⟨_, rfl⟩ | ⟨b, o, cap, cs, h1, h2, h3, h4, h5, _⟩
  · omega
  · exact ⟨b, o, cap, h1, h2, h3, h4, h5⟩
theorem OwnS.at {w : World} {lo hi b o n cap : Nat} {x : Nat → Nat} (h : OwnS w lo hi (.slice (some ⟨b, o, none⟩) n cap) x n) {i : Nat} (hi' : i < n) : ∃ y, w.cell? ⟨b, o + i, none⟩ = some (.float .f32 y) ∧ w.frozen? ⟨b, o + i, none⟩ = false ∧ fits .f32 y ∧ can .f32 y = x i := by
  rcases h with ⟨h0, _⟩ | ⟨b', o', cap', cs, h1, h2, h3, h4, h5, h6, h7⟩
  · cases h0
  · simp only [Value.slice.injEq, Option.some.injEq, Addr.mk.injEq, and_true, true_and] at h1
    obtain ⟨⟨rfl, rfl⟩, rfl⟩ := h1
    obtain ⟨y, e1, e2, e3⟩ := h7 i hi'
    exact ⟨y, (h6.cell? (o + i)).trans e1, h6.frozen (o + i), e2, e3⟩
theorem OwnS.set {w : World} {lo hi b o n cap : Nat} {x : Nat → Nat} (h : OwnS w lo hi (.slice (some ⟨b, o, none⟩) n cap) x n) {i a : Nat} (hi' : i < n) (ha : fits .f32 a) :
    OwnS (w.setCell ⟨b, o + i, none⟩ (.float .f32 a)) lo hi (.slice (some ⟨b, o, none⟩) n cap) (pushX x i a) n ∧ Chg (rng lo hi) w (w.setCell ⟨b, o + i, none⟩ (.float .f32 a)) := by
  rcases h with ⟨h0, _⟩ | ⟨b', o', cap', cs, h1, h2, h3, h4, h5, h6, h7⟩
  · cases h0
  · simp only [Value.slice.injEq, Option.some.injEq, Addr.mk.injEq, and_true, true_and] at h1
    obtain ⟨⟨rfl, rfl⟩, rfl⟩ := h1
    refine ⟨.inr ⟨b, o, cap, cs.setIfInBounds (o + i) (.float .f32 a), rfl, h2, h3, h4, h5, h6.set _ _, fun j hj => ?_⟩, (Chg.refl _ _).setCell (a := ⟨b, o + i, none⟩) ⟨h4, h5⟩ _⟩
    obtain ⟨y0, e0, _⟩ := h7 i hi'
    have hlt : o + i < cs.size := (Array.getElem?_eq_some_iff.1 e0).1
    by_cases e : j = i
    · subst e
      exact ⟨a, by simp [hlt], ha, by simp [pushX]⟩
    · obtain ⟨y, e1, e2, e3⟩ := h7 j hj
      exact ⟨y, by rw [Array.getElem?_setIfInBounds_ne (by omega)]; exact e1, e2, by simp [pushX, e, e3]⟩
namespace Frg
variable {w0 w w' : World}
theorem chg0 {e e' : Fact} {post : List Fact} (h : Frg w0 w (e :: post)) (k : Chg (rng e.lo e.hi) w w') (hp : e'.p w') (h1 : e'.lo = e.lo) (h2 : e'.hi = e.hi) : Frg w0 w' (e' :: post) := chg [] h k hp h1 h2
theorem chg1 {b0 e e' : Fact} {post : List Fact} (h : Frg w0 w (b0 :: e :: post)) (k : Chg (rng e.lo e.hi) w w') (hp : e'.p w') (h1 : e'.lo = e.lo) (h2 : e'.hi = e.hi) : Frg w0 w' (b0 :: e' :: post) := chg [b0] h k hp h1 h2
end Frg
/-- The first k samples are 0. -/
def zeroTo (k : Nat) (x : Nat → Nat) : Nat → Nat := fun i => if i < k then 0 else x i
theorem zeroTo_0 (x : Nat → Nat) : zeroTo 0 x = x := by funext i; simp [zeroTo]
theorem zeroTo_s (k : Nat) (x : Nat → Nat) : pushX (zeroTo k x) k 0 = zeroTo (k + 1) x := by
  funext i
  unfold pushX zeroTo
  by_cases e : i = k
  · subst e; simp; decide
  · by_cases l : i < k
    · simp [e, l, show i < k + 1 by omega]
    · simp [e, l, show ¬ i < k + 1 by omega]
end Go.Fk

/- Regions that draw: a new row, the length of a slice. Nothing here names a program. -/
namespace Go.Fk
open Go Go.RowKit
section
variable {P : Program} {ops : Array Oper} {W : World} {K : FuncId → Array Value → World → Value → Prop} {Q : Act → World → Prop} {F : World → Prop} {o : Oper} {rest : List Oper} {a : Act}
/-- A new row is made. -/
theorem wpFree_made (hg : o.guard = none) (f : Nat → Value) (t : TypeId) (cs : Array Value)
    (hr : ∀ w, (execOp a.eval o).run P w = .ok (.value (f w.heap.size)) (w.alloc (.cells cs t)))
    (h : ∀ b, W.heap.size ≤ b → wpFree P ops W K Q rest (a.put o.dst (f b)) (fun w => F w ∧ ∃ b', f b = f b' ∧ W.heap.size ≤ b' ∧ Row w b' t cs)) : wpFree P ops W K Q (o :: rest) a F := by
  refine ⟨fun w v => ∃ b, v = f b ∧ W.heap.size ≤ b ∧ Row w b t cs, ⟨fun v w w' hl h => ?_, .inl ⟨by simp [Region.wanted, hg], fun w hw => ?_⟩⟩, fun v hv => ?_⟩
  · obtain ⟨b, e, h1, h2⟩ := h; exact ⟨b, e, h1, h2.le hl⟩
  · rw [hr]
    exact ⟨le_alloc w _, w.heap.size, rfl, Below.size hw, Row.new w t cs⟩
  · obtain ⟨w, _, b, rfl, hb, _⟩ := hv
    exact h b hb
theorem wpFree_len (hg : o.guard = none) {x : Operand} {t : TypeId} (hop : o.op = Op.call { callee := Callee.builtin Builtin.len, args := #[x], argTypes := #[t] }) {e : TypeId} (hu : P.underlying t = some (.slice e)) {ao : Option Addr} {n c : Nat} (hx : a.eval x = .slice ao n c)
    (h : wpFree P ops W K Q rest (a.put o.dst (.int .i64 n)) F) : wpFree P ops W K Q (o :: rest) a F := by
  refine wpFree_one hg (.int .i64 n) (fun w _ => ?_) h
  simp [execOp, hop, hx, Result.andThen, resolve, invoke, builtin, Builtin.len_, run_underlying hu]
  rfl
end
end Go.Fk

/- Numbers that are added to the samples of a ring: 'l03Add'. -/
namespace Go.Fk
open Go Go.RowKit
/-- A ring's samples behind a number that is added to the one with the index j. -/
def addX (x : Nat → Nat) (j a : Nat) : Nat → Nat := fun i => if i = j then fop .add .f32 (x i) a else x i
theorem addX_of {x : Nat → Nat} {j a y r : Nat} (hy : can .f32 y = x j) (hr : can .f32 r = fop .add .f32 y a) : pushX x j r = addX x j a := by
  funext i
  unfold pushX addX
  by_cases e : i = j
  · subst e
    rw [if_pos rfl, if_pos rfl, hr, ← hy, fop_can_l]
  · rw [if_neg e, if_neg e]
theorem addX_can {x : Nat → Nat} {j a b : Nat} (h : can .f32 a = can .f32 b) : addX x j a = addX x j b := by
  funext i
  unfold addX
  split
  · rw [← fop_can_r, h, fop_can_r]
  · rfl
/-- Some numbers are added, from the oldest sample but 'fr' on. -/
def addN (x : Nat → Nat) (n j : Nat) (v : Nat → Nat) (fr : Nat) : Nat → (Nat → Nat)
  | 0 => x
  | k + 1 => addX (addN x n j v fr k) ((j + (fr + k)) % n) (v (fr + k))
theorem addN_congr {x : Nat → Nat} {n j fr : Nat} {v v' : Nat → Nat} {k : Nat} (h : ∀ i, i < k → can .f32 (v (fr + i)) = can .f32 (v' (fr + i))) : addN x n j v fr k = addN x n j v' fr k := by
  induction k with
  | zero => rfl
  | succ k ih =>
    unfold addN
    rw [ih (fun i hi => h i (by omega))]
    funext i
    unfold addX
    split
    · rw [← fop_can_r, h k (by omega), fop_can_r]
    · rfl
end Go.Fk
namespace Go.Proofs.Ytmacednkpjfokaa
open Go.RowKit Go.Fk
set_option maxRecDepth 100000 in
set_option maxHeartbeats 2000000 in
theorem s_l03Add (lo hi : Nat) (s : Value) (x : Nat → Nat) (n j k a g f : Nat) (t : TypeId) (cs : Array Value) (w : World) (hs : OwnS w lo hi s x n) (hr : Row w g t cs) (e0 : cs[f]? = some s) (e1 : cs[f + 1]? = some (.int .i64 j)) (hg : ¬ (lo ≤ g ∧ g < hi)) (hj : j < n) (hk : k < n) (hn : n ≤ 1024) (ha : fits .f32 a) :
    Calls Try.prog 64 #[.pointer (some ⟨g, f, none⟩), .int .i64 k, .float .f32 a] w fun e w' => e = .returned (.tuple #[]) ∧ Row w' g t cs ∧ OwnS w' lo hi s (addX x ((j + k) % n) a) n ∧ Chg (rng lo hi) w w' := by
  obtain ⟨b, o, cap, rfl, hc, hm, hb, hb'⟩ := hs.form (by omega)
  have hm2 : (j + k) % n < n := Nat.mod_lt _ (by omega)
  obtain ⟨y, cy, fy, fity, ey⟩ := hs.at hm2
  have c0 : w.cell? ⟨g, f, none⟩ = some (.slice (some ⟨b, o, none⟩) n cap) := (hr.cell? f).trans e0
  have c1 : w.cell? ⟨g, f + 1, none⟩ = some (.int .i64 j) := (hr.cell? (f + 1)).trans e1
  have HE1 : Hid (((j : Int) + k) % n = (((j + k) % n : Nat) : Int)) := by unfold Hid; rw [Int.natCast_emod]; rfl
  have HS := hid (fun (w' : World) (hl : le w w') (r : Nat) (fr : fits .f32 r) => (hs.le hl).set hm2 fr)
  have HR := hid hr; have HY := hid ey; have HM := hid hm2
  clear hs hr e0 e1 ey fity
  unfold maxLen at hm
  generalize hJ : (j + k) % n = J at *
  clear hJ
  go_enter Try.func64, Try.ntmps64
  go_wp2_with fail
  refine wp_region_loose (fun _ _ _ => True) (by kernel_rfl) (by kernel_rfl) ?_
  repeat (first | (refine wpLoose_quiet rfl ?_; go_big_quiet_step (fail); refine wpQuiet_nil ?_) | (refine wpLoose_nilP rfl rfl rfl ?_; simp only [Act.put, List.setIfInBounds_toArray, List.set_cons_succ, List.set_cons_zero]) | (refine wpLoose_len rfl rfl Try.underlying40 rfl ?_; simp only [Act.put, List.setIfInBounds_toArray, List.set_cons_succ, List.set_cons_zero]))
  refine wpLoose_nil (fun m1 => ?_)
  rw [HE1.out]
  go_wp2_with fail
  have hJn := HM.out
  refine wp_region_tail (fun _ _ _ => True) 15 (by kernel_rfl) (by kernel_rfl) ?_; simp only [List.take_succ_cons, List.take_zero, List.drop_succ_cons, List.drop_zero]
  repeat (first | (with_reducible refine wpLoose_farith rfl rfl rfl rfl rfl ?_; intro r hrr hf; simp only [Act.put, List.setIfInBounds_toArray, List.set_cons_succ, List.set_cons_zero]) | (refine wpLoose_quiet rfl ?_; go_big_quiet_step (fail); refine wpQuiet_nil ?_) | (refine wpLoose_nilP rfl rfl rfl ?_; simp only [Act.put, List.setIfInBounds_toArray, List.set_cons_succ, List.set_cons_zero]))
  refine wpLoose_nil (fun m2 => ?_)
  go_wp2
  refine bodyPost_end (results_none rfl _ _ _) rfl ?_
  have h := HS.out (w.drewN (m1 + m2)) (le_drewN _ _) r hf.out
  rw [addX_of HY.out hrr.out] at h
  exact ⟨rfl, ((HR.out.drewN _).other ⟨b, o + J, none⟩ _ (by intro e; exact hg (e ▸ ⟨hb, hb'⟩))), h.1, (Chg.of_le (le_drewN _ _)).trans h.2⟩
end Go.Proofs.Ytmacednkpjfokaa

/- How an argument that is a struct of a ring, two filters and a float is opened. Nothing here names a program. -/
namespace Go.Fk
open Go Go.RowKit Go.ChangeShapes
section
variable {H : Type} {enc : TypeId × Value → H} {P : Program} {w : World} {base : Nat} {spare : Nat → Bool} {held : Bool}
theorem trod_ring {t t0 t1 e : TypeId} {f0 f1 : Field} {fuel : Nat} {cs : List Value} {x : DataW H × List MemPlace} (ht : P.underlying t = some (.struct #[f0, f1]))
    (e0 : (f0.type, f0.offset) = (t0, 0)) (e1 : (f1.type, f1.offset) = (t1, 1))
    (h0 : P.underlying t0 = some (.slice e)) (h1 : P.underlying t1 = some (.int .i64)) (he : P.underlying e = some (.float .f32))
    (c0 : P.cellsOf t0 = 1) (c1 : P.cellsOf t1 = 1) (ce : P.cellsOf e = 1) (ct : P.cellsOf t = 2) (hf : DataW.trod enc P w base spare held fuel t cs = some x) :
    ∃ (s : Value) (f : Nat → Nat) (n : Nat) (k : Int), cs = [s, .int .i64 k] ∧ (Lit.int .i64 k).wf = true ∧ SlIn w s f n := by
  obtain ⟨xs, m, _, _, hlen, hl, hi⟩ := DataW.trod_struct ht hf
  simp only [Prod.mk.injEq] at e0 e1
  have g0 := hi 0 f0 rfl
  have g1 := hi 1 f1 rfl
  rw [e0.1, e0.2, c0] at g0
  rw [e1.1, e1.2, c1] at g1
  rw [List.getElem?_eq_getElem (by simp_all)] at g0 g1
  have hlen : cs.length = 2 := hlen.trans ct
  match cs, hlen with
  | [v0, v1], _ =>
    simp only [List.drop_zero, List.drop_succ_cons, List.take_succ_cons, List.take_zero] at g0 g1
    obtain ⟨s, f, n, hs, hsl⟩ := trod_fslice h0 he ce g0
    obtain ⟨k, rfl, hk⟩ := trod_int_cell h1 g1
    simp only [List.cons.injEq, and_true] at hs
    subst hs
    exact ⟨_, f, n, k, rfl, hk, hsl⟩
theorem trod_filter {t t0 t1 t2 e : TypeId} {f0 f1 f2 : Field} {fuel : Nat} {cs : List Value} {x : DataW H × List MemPlace} (ht : P.underlying t = some (.struct #[f0, f1, f2]))
    (e0 : (f0.type, f0.offset) = (t0, 0)) (e1 : (f1.type, f1.offset) = (t1, 1)) (e2 : (f2.type, f2.offset) = (t2, 4))
    (h0 : P.underlying t0 = some (.int .i64)) (h1 : P.underlying t1 = some (.array 3 e)) (h2 : P.underlying t2 = some (.array 2 e)) (he : P.underlying e = some (.float .f32))
    (c0 : P.cellsOf t0 = 1) (c1 : P.cellsOf t1 = 3) (c2 : P.cellsOf t2 = 2) (ce : P.cellsOf e = 1) (ct : P.cellsOf t = 6) (hf : DataW.trod enc P w base spare held fuel t cs = some x) :
    ∃ (k : Int) (a b c x y : Nat), cs = [.int .i64 k, .float .f32 a, .float .f32 b, .float .f32 c, .float .f32 x, .float .f32 y] ∧ (Lit.int .i64 k).wf = true ∧ fits .f32 a ∧ fits .f32 b ∧ fits .f32 c ∧ fits .f32 x ∧ fits .f32 y := by
  obtain ⟨xs, m, _, _, hlen, hl, hi⟩ := DataW.trod_struct ht hf
  simp only [Prod.mk.injEq] at e0 e1 e2
  have g0 := hi 0 f0 rfl
  have g1 := hi 1 f1 rfl
  have g2 := hi 2 f2 rfl
  rw [e0.1, e0.2, c0] at g0
  rw [e1.1, e1.2, c1] at g1
  rw [e2.1, e2.2, c2] at g2
  rw [List.getElem?_eq_getElem (by simp_all)] at g0 g1 g2
  have hlen : cs.length = 6 := hlen.trans ct
  obtain ⟨l1, q1, n1, p1⟩ := trod_farr h1 he ce c1 g1
  obtain ⟨l2, q2, n2, p2⟩ := trod_farr h2 he ce c2 g2
  match cs, hlen, l1, n1, l2, n2 with
  | [v0, v1, v2, v3, v4, v5], _, [a, b, c], _, [x, y], _ =>
    simp only [List.drop_zero, List.drop_succ_cons, List.take_succ_cons, List.take_zero, List.map_cons, List.map_nil, List.cons.injEq, and_true] at q1 q2 g0
    obtain ⟨rfl, rfl, rfl⟩ := q1
    obtain ⟨rfl, rfl⟩ := q2
    obtain ⟨k, rfl, hk⟩ := trod_int_cell h0 g0
    exact ⟨k, a, b, c, x, y, rfl, hk, p1 _ (by simp), p1 _ (by simp), p1 _ (by simp), p2 _ (by simp), p2 _ (by simp)⟩
theorem open_str {r : Reach} {b0 : Nat} {t tr tf te : TypeId} {f0 f1 f2 f3 : Field} {v : Value} {d : DataW H} {ps : List MemPlace} (ht : P.underlying t = some (.struct #[f0, f1, f2, f3]))
    (e0 : (f0.type, f0.offset) = (tr, 0)) (e1 : (f1.type, f1.offset) = (tf, 2)) (e2 : (f2.type, f2.offset) = (tf, 8)) (e3 : (f3.type, f3.offset) = (te, 14))
    (hr : ∀ fuel cs (x : DataW H × List MemPlace), DataW.trod enc P w base spare held fuel tr cs = some x → ∃ (s : Value) (f : Nat → Nat) (n : Nat) (k : Int), cs = [s, .int .i64 k] ∧ (Lit.int .i64 k).wf = true ∧ SlIn w s f n)
    (hfil : ∀ fuel cs (x : DataW H × List MemPlace), DataW.trod enc P w base spare held fuel tf cs = some x → ∃ (k : Int) (a b c x y : Nat), cs = [.int .i64 k, .float .f32 a, .float .f32 b, .float .f32 c, .float .f32 x, .float .f32 y] ∧ (Lit.int .i64 k).wf = true ∧ fits .f32 a ∧ fits .f32 b ∧ fits .f32 c ∧ fits .f32 x ∧ fits .f32 y)
    (he : P.underlying te = some (.float .f32)) (cr : P.cellsOf tr = 2) (cf : P.cellsOf tf = 6) (ce : P.cellsOf te = 1) (ct : P.cellsOf t = 15)
    (hval : Value.okWide P w r b0 t v) (hd : DataW.Trod enc P w base spare held t v d ps) :
    ∃ (s : Value) (f : Nat → Nat) (n : Nat) (k tk : Int) (ta tb tc tx ty : Nat) (dk : Int) (da db dc dx dy l : Nat), v = .agg #[s, .int .i64 k, .int .i64 tk, .float .f32 ta, .float .f32 tb, .float .f32 tc, .float .f32 tx, .float .f32 ty, .int .i64 dk, .float .f32 da, .float .f32 db, .float .f32 dc, .float .f32 dx, .float .f32 dy, .float .f32 l] ∧
      ((Lit.int .i64 k).wf = true ∧ (Lit.int .i64 tk).wf = true ∧ fits .f32 ta ∧ fits .f32 tb ∧ fits .f32 tc ∧ fits .f32 tx ∧ fits .f32 ty ∧ (Lit.int .i64 dk).wf = true ∧ fits .f32 da ∧ fits .f32 db ∧ fits .f32 dc ∧ fits .f32 dx ∧ fits .f32 dy ∧ fits .f32 l) ∧ SlIn w s f n := by
  simp only [Value.okWide, ht] at hval
  obtain ⟨cs, rfl, hsz, _⟩ := hval
  obtain ⟨fuel, hf⟩ := hd
  simp only [Value.cells] at hf
  obtain ⟨xs, m, _, _, hlen, hl, hi⟩ := DataW.trod_struct ht hf
  simp only [Prod.mk.injEq] at e0 e1 e2 e3
  have g0 := hi 0 f0 rfl
  have g1 := hi 1 f1 rfl
  have g2 := hi 2 f2 rfl
  have g3 := hi 3 f3 rfl
  rw [e0.1, e0.2, cr] at g0
  rw [e1.1, e1.2, cf] at g1
  rw [e2.1, e2.2, cf] at g2
  rw [e3.1, e3.2, ce] at g3
  rw [List.getElem?_eq_getElem (by simp_all)] at g0 g1 g2 g3
  have hlen : cs.toList.length = 15 := hlen.trans ct
  obtain ⟨s, f, n, k, q0, w0, z0⟩ := hr _ _ _ g0
  obtain ⟨tk, ta, tb, tc, tx, ty, q1, w1⟩ := hfil _ _ _ g1
  obtain ⟨dk, da, db, dc, dx, dy, q2, w2⟩ := hfil _ _ _ g2
  obtain ⟨l⟩ := cs
  simp only at *
  match l, hlen with
  | [v0, v1, v2, v3, v4, v5, v6, v7, v8, v9, v10, v11, v12, v13, v14], _ =>
    simp only [List.drop_zero, List.drop_succ_cons, List.take_succ_cons, List.take_zero, List.cons.injEq, and_true] at q0 q1 q2 g3
    obtain ⟨rfl, rfl⟩ := q0
    obtain ⟨rfl, rfl, rfl, rfl, rfl, rfl⟩ := q1
    obtain ⟨rfl, rfl, rfl, rfl, rfl, rfl⟩ := q2
    obtain ⟨lo, rfl, hlo⟩ := trod_float_cell he g3
    exact ⟨_, f, n, k, tk, ta, tb, tc, tx, ty, dk, da, db, dc, dx, dy, lo, rfl, ⟨w0, w1.1, w1.2.1, w1.2.2.1, w1.2.2.2.1, w1.2.2.2.2.1, w1.2.2.2.2.2, w2.1, w2.2.1, w2.2.2.1, w2.2.2.2.1, w2.2.2.2.2.1, w2.2.2.2.2.2, hlo⟩, z0⟩
end
end Go.Fk

/- Laws for operations that are guarded and wanted. Nothing here names a program. -/
namespace Go.Fk
open Go Go.RowKit
section
variable {P : Program} {w : World} {ops : Array Oper} {rest : List Oper} {o : Oper} {a : Act} {Q : Exit → Act → World → Prop}
theorem wpList_wanted (hw : Region.wanted o (yielded ops a.tmps) = true) (h : ∀ K : Act → World → Prop, (∀ a w, wpList P ops Q rest a w → K a w) → o.wp P a w K Q) : wpList P ops Q (o :: rest) a w :=
  wpList_step fun K hK => by simp only [hw, if_true]; exact h K hK
theorem wpList_widenG {src dst : TypeId} {x : Operand} (hop : o.op = Op.convert src dst x) {b : Nat} (hx : a.eval x = .float .f32 b)
    (hs : P.underlying src = some (.float .f32)) (hd : P.underlying dst = some (.float .f64)) (hw : Region.wanted o (yielded ops a.tmps) = true)
    (hK : ∀ r n, Hid (can .f64 r = can .f64 (widen b)) → Hid (fits .f64 r) → wpList P ops Q rest (a.put o.dst (.float .f64 r)) (w.drewN n)) : wpList P ops Q (o :: rest) a w := by
  refine wpList_wanted hw fun K hK' => ?_
  obtain ⟨r, n, hrun, hr, hf⟩ := run_widen (P := P) w src dst b hs hd
  unfold Oper.wp
  simp [execOp, hop, hx, hrun, Result.andThen]
  exact hK' _ _ (hK r n hr hf)
end
end Go.Fk

/- What grows by append, beside facts of memory. Nothing here names a program. -/
namespace Go.Fk
open Go Go.RowKit
theorem ownsRow_chS {S : Nat → Prop} {w w' : World} {e : TypeId} {n B : Nat} {xs : List Value} {v : Value} (hw : Chg S w w') (h : w.ownsRow B e 1 v n xs) (hS : ∀ i, S i → i < B) : w'.ownsRow B e 1 v n xs := by
  obtain ⟨h1, h2⟩ := h
  refine ⟨h1, ?_⟩
  rcases h2 with h2 | ⟨q, cap, cur, e1, e2, e3, e4⟩
  · exact .inl h2
  · exact .inr ⟨q, cap, cur, e1, e2, by have := hw.row (g := q) (t := e) (cs := cur) e3 (fun hq => by have := hS q hq; omega); exact this, e4⟩
theorem ownBlock_ge {w : World} {B : Nat} {e : TypeId} {z : Nat} {v : Value} {n : Nat} {xs : List Value} (h : w.ownsRow B e z v n xs) : ∀ k, v.ownBlock = some k → B ≤ k := by
  rcases h.2 with ⟨rfl, _⟩ | ⟨q, cap, cur, rfl, hb, _⟩
  · intro k hk; cases hk
  · intro k hk; simp only [Value.ownBlock, Option.some.injEq] at hk; omega
theorem chg_grown {w w' : World} {row : Option Nat} {B : Nat} (h : w.grownBy w' row) (hr : ∀ k, row = some k → B ≤ k) : Chg (B ≤ ·) w w' :=
  ⟨h.os, h.tape, h.output, h.size, fun k hk hn => h.block k hk (fun e => hn (hr k e.symm))⟩
theorem Frg.up {w0 w w' : World} {L : List Fact} {B : Nat} (h : Frg w0 w L) (k : Chg (B ≤ ·) w w') (hB : ∀ e ∈ L, e.hi ≤ B) (h0 : w0.heap.size ≤ B) : Frg w0 w' L :=
  ⟨h.below.trans (k.below (fun i hi => Nat.le_trans h0 hi) h.size), fun e he => by
    obtain ⟨h1, h2, h3⟩ := h.facts e he
    exact ⟨h1, Nat.le_trans h2 k.size, e.ok w w' h3 (fun i _ hi => k.block i (by omega) (fun hb => by have := hB e he; omega))⟩, h.apart⟩
theorem flist_snoc (y : Nat → Nat) (n a : Nat) : flist y n ++ [.float .f32 a] = flist (fun j => if j = n then a else y j) (n + 1) := by
  have h := flist_app y (fun _ => a) n 1
  have h1 : flist (fun _ => a) 1 = [.float .f32 a] := by simp [flist]
  rw [h1] at h
  rw [h]
  apply List.ext_getElem?
  intro i
  by_cases hi : i < n + 1
  · rw [flist_get' _ hi, flist_get' _ hi]
    by_cases e : i = n
    · simp [e]
    · simp [e, show i < n by omega]
  · rw [List.getElem?_eq_none (by rw [flist_length]; omega), List.getElem?_eq_none (by rw [flist_length]; omega)]
theorem Frg.own2 {w0 w w' : World} {L : List Fact} {q n n' : Nat} {s s' : Value} {x x' : Nat → Nat} (h : Frg w0 w L) (k : Below w.heap.size w w') (h1 : w.heap.size ≤ q) (h2 : q ≤ w'.heap.size) (o1 : OwnS w' w.heap.size q s x n) (o2 : OwnS w' q w'.heap.size s' x' n') :
    Frg w0 w' (ownF q w'.heap.size s' x' n' :: ownF w.heap.size q s x n :: L) := by
  refine ⟨(h.le k).below, fun e he => ?_, .cons (fun e he => ?_) (.cons (fun e he => (h.facts e he).2.1) h.apart)⟩
  · rcases List.mem_cons.1 he with rfl | he
    · exact ⟨Nat.le_trans h.size h1, Nat.le_refl _, o2⟩
    · rcases List.mem_cons.1 he with rfl | he
      · exact ⟨h.size, h2, o1⟩
      · exact (h.le k).facts e he
  · rcases List.mem_cons.1 he with rfl | he
    · exact Nat.le_refl q
    · exact Nat.le_trans (h.facts e he).2.1 h1
theorem m12 {b0 b1 b2 b3 b4 b5 b6 b7 b8 b9 b10 b11 a : Fact} {l : List Fact} : a ∈ b0 :: b1 :: b2 :: b3 :: b4 :: b5 :: b6 :: b7 :: b8 :: b9 :: b10 :: b11 :: a :: l := List.mem_cons_of_mem _ (List.mem_cons_of_mem _ (List.mem_cons_of_mem _ (List.mem_cons_of_mem _ (List.mem_cons_of_mem _ (List.mem_cons_of_mem _ (List.mem_cons_of_mem _ (List.mem_cons_of_mem _ (List.mem_cons_of_mem _ (List.mem_cons_of_mem _ (List.mem_cons_of_mem _ (List.mem_cons_of_mem _ (List.mem_cons_self))))))))))))
theorem m13 {b0 b1 b2 b3 b4 b5 b6 b7 b8 b9 b10 b11 b12 a : Fact} {l : List Fact} : a ∈ b0 :: b1 :: b2 :: b3 :: b4 :: b5 :: b6 :: b7 :: b8 :: b9 :: b10 :: b11 :: b12 :: a :: l := List.mem_cons_of_mem _ (List.mem_cons_of_mem _ (List.mem_cons_of_mem _ (List.mem_cons_of_mem _ (List.mem_cons_of_mem _ (List.mem_cons_of_mem _ (List.mem_cons_of_mem _ (List.mem_cons_of_mem _ (List.mem_cons_of_mem _ (List.mem_cons_of_mem _ (List.mem_cons_of_mem _ (List.mem_cons_of_mem _ (List.mem_cons_of_mem _ (List.mem_cons_self)))))))))))))
theorem m14 {b0 b1 b2 b3 b4 b5 b6 b7 b8 b9 b10 b11 b12 b13 a : Fact} {l : List Fact} : a ∈ b0 :: b1 :: b2 :: b3 :: b4 :: b5 :: b6 :: b7 :: b8 :: b9 :: b10 :: b11 :: b12 :: b13 :: a :: l := List.mem_cons_of_mem _ (List.mem_cons_of_mem _ (List.mem_cons_of_mem _ (List.mem_cons_of_mem _ (List.mem_cons_of_mem _ (List.mem_cons_of_mem _ (List.mem_cons_of_mem _ (List.mem_cons_of_mem _ (List.mem_cons_of_mem _ (List.mem_cons_of_mem _ (List.mem_cons_of_mem _ (List.mem_cons_of_mem _ (List.mem_cons_of_mem _ (List.mem_cons_of_mem _ (List.mem_cons_self))))))))))))))
theorem m15 {b0 b1 b2 b3 b4 b5 b6 b7 b8 b9 b10 b11 b12 b13 b14 a : Fact} {l : List Fact} : a ∈ b0 :: b1 :: b2 :: b3 :: b4 :: b5 :: b6 :: b7 :: b8 :: b9 :: b10 :: b11 :: b12 :: b13 :: b14 :: a :: l := List.mem_cons_of_mem _ (List.mem_cons_of_mem _ (List.mem_cons_of_mem _ (List.mem_cons_of_mem _ (List.mem_cons_of_mem _ (List.mem_cons_of_mem _ (List.mem_cons_of_mem _ (List.mem_cons_of_mem _ (List.mem_cons_of_mem _ (List.mem_cons_of_mem _ (List.mem_cons_of_mem _ (List.mem_cons_of_mem _ (List.mem_cons_of_mem _ (List.mem_cons_of_mem _ (List.mem_cons_of_mem _ (List.mem_cons_self)))))))))))))))
theorem m16 {b0 b1 b2 b3 b4 b5 b6 b7 b8 b9 b10 b11 b12 b13 b14 b15 a : Fact} {l : List Fact} : a ∈ b0 :: b1 :: b2 :: b3 :: b4 :: b5 :: b6 :: b7 :: b8 :: b9 :: b10 :: b11 :: b12 :: b13 :: b14 :: b15 :: a :: l := List.mem_cons_of_mem _ (List.mem_cons_of_mem _ (List.mem_cons_of_mem _ (List.mem_cons_of_mem _ (List.mem_cons_of_mem _ (List.mem_cons_of_mem _ (List.mem_cons_of_mem _ (List.mem_cons_of_mem _ (List.mem_cons_of_mem _ (List.mem_cons_of_mem _ (List.mem_cons_of_mem _ (List.mem_cons_of_mem _ (List.mem_cons_of_mem _ (List.mem_cons_of_mem _ (List.mem_cons_of_mem _ (List.mem_cons_of_mem _ (List.mem_cons_self))))))))))))))))
theorem m17 {b0 b1 b2 b3 b4 b5 b6 b7 b8 b9 b10 b11 b12 b13 b14 b15 b16 a : Fact} {l : List Fact} : a ∈ b0 :: b1 :: b2 :: b3 :: b4 :: b5 :: b6 :: b7 :: b8 :: b9 :: b10 :: b11 :: b12 :: b13 :: b14 :: b15 :: b16 :: a :: l := List.mem_cons_of_mem _ (List.mem_cons_of_mem _ (List.mem_cons_of_mem _ (List.mem_cons_of_mem _ (List.mem_cons_of_mem _ (List.mem_cons_of_mem _ (List.mem_cons_of_mem _ (List.mem_cons_of_mem _ (List.mem_cons_of_mem _ (List.mem_cons_of_mem _ (List.mem_cons_of_mem _ (List.mem_cons_of_mem _ (List.mem_cons_of_mem _ (List.mem_cons_of_mem _ (List.mem_cons_of_mem _ (List.mem_cons_of_mem _ (List.mem_cons_of_mem _ (List.mem_cons_self)))))))))))))))))
theorem m18 {b0 b1 b2 b3 b4 b5 b6 b7 b8 b9 b10 b11 b12 b13 b14 b15 b16 b17 a : Fact} {l : List Fact} : a ∈ b0 :: b1 :: b2 :: b3 :: b4 :: b5 :: b6 :: b7 :: b8 :: b9 :: b10 :: b11 :: b12 :: b13 :: b14 :: b15 :: b16 :: b17 :: a :: l := List.mem_cons_of_mem _ (List.mem_cons_of_mem _ (List.mem_cons_of_mem _ (List.mem_cons_of_mem _ (List.mem_cons_of_mem _ (List.mem_cons_of_mem _ (List.mem_cons_of_mem _ (List.mem_cons_of_mem _ (List.mem_cons_of_mem _ (List.mem_cons_of_mem _ (List.mem_cons_of_mem _ (List.mem_cons_of_mem _ (List.mem_cons_of_mem _ (List.mem_cons_of_mem _ (List.mem_cons_of_mem _ (List.mem_cons_of_mem _ (List.mem_cons_of_mem _ (List.mem_cons_of_mem _ (List.mem_cons_self))))))))))))))))))
theorem m19 {b0 b1 b2 b3 b4 b5 b6 b7 b8 b9 b10 b11 b12 b13 b14 b15 b16 b17 b18 a : Fact} {l : List Fact} : a ∈ b0 :: b1 :: b2 :: b3 :: b4 :: b5 :: b6 :: b7 :: b8 :: b9 :: b10 :: b11 :: b12 :: b13 :: b14 :: b15 :: b16 :: b17 :: b18 :: a :: l := List.mem_cons_of_mem _ (List.mem_cons_of_mem _ (List.mem_cons_of_mem _ (List.mem_cons_of_mem _ (List.mem_cons_of_mem _ (List.mem_cons_of_mem _ (List.mem_cons_of_mem _ (List.mem_cons_of_mem _ (List.mem_cons_of_mem _ (List.mem_cons_of_mem _ (List.mem_cons_of_mem _ (List.mem_cons_of_mem _ (List.mem_cons_of_mem _ (List.mem_cons_of_mem _ (List.mem_cons_of_mem _ (List.mem_cons_of_mem _ (List.mem_cons_of_mem _ (List.mem_cons_of_mem _ (List.mem_cons_of_mem _ (List.mem_cons_self)))))))))))))))))))
theorem Frg.mark10 {w0 w w' : World} {lo hi n : Nat} {s : Value} {x x' : Nat → Nat} {l : List Fact} {b0 b1 b2 b3 b4 b5 b6 b7 b8 b9 : Fact} (h : Frg w0 w (b0 :: b1 :: b2 :: b3 :: b4 :: b5 :: b6 :: b7 :: b8 :: b9 :: ownF lo hi s x n :: l)) (hp : OwnS w' lo hi s x' n) (k : Chg (rng lo hi) w w') : Frg w0 w' (b0 :: b1 :: b2 :: b3 :: b4 :: b5 :: b6 :: b7 :: b8 :: b9 :: ownF lo hi s x' n :: l) :=
  Frg.chg [b0, b1, b2, b3, b4, b5, b6, b7, b8, b9] (e := ownF lo hi s x n) (e' := ownF lo hi s x' n) h k hp rfl rfl
theorem Frg.mark11 {w0 w w' : World} {lo hi n : Nat} {s : Value} {x x' : Nat → Nat} {l : List Fact} {b0 b1 b2 b3 b4 b5 b6 b7 b8 b9 b10 : Fact} (h : Frg w0 w (b0 :: b1 :: b2 :: b3 :: b4 :: b5 :: b6 :: b7 :: b8 :: b9 :: b10 :: ownF lo hi s x n :: l)) (hp : OwnS w' lo hi s x' n) (k : Chg (rng lo hi) w w') : Frg w0 w' (b0 :: b1 :: b2 :: b3 :: b4 :: b5 :: b6 :: b7 :: b8 :: b9 :: b10 :: ownF lo hi s x' n :: l) :=
  Frg.chg [b0, b1, b2, b3, b4, b5, b6, b7, b8, b9, b10] (e := ownF lo hi s x n) (e' := ownF lo hi s x' n) h k hp rfl rfl
theorem Frg.mark12 {w0 w w' : World} {lo hi n : Nat} {s : Value} {x x' : Nat → Nat} {l : List Fact} {b0 b1 b2 b3 b4 b5 b6 b7 b8 b9 b10 b11 : Fact} (h : Frg w0 w (b0 :: b1 :: b2 :: b3 :: b4 :: b5 :: b6 :: b7 :: b8 :: b9 :: b10 :: b11 :: ownF lo hi s x n :: l)) (hp : OwnS w' lo hi s x' n) (k : Chg (rng lo hi) w w') : Frg w0 w' (b0 :: b1 :: b2 :: b3 :: b4 :: b5 :: b6 :: b7 :: b8 :: b9 :: b10 :: b11 :: ownF lo hi s x' n :: l) :=
  Frg.chg [b0, b1, b2, b3, b4, b5, b6, b7, b8, b9, b10, b11] (e := ownF lo hi s x n) (e' := ownF lo hi s x' n) h k hp rfl rfl
theorem Frg.mark13 {w0 w w' : World} {lo hi n : Nat} {s : Value} {x x' : Nat → Nat} {l : List Fact} {b0 b1 b2 b3 b4 b5 b6 b7 b8 b9 b10 b11 b12 : Fact} (h : Frg w0 w (b0 :: b1 :: b2 :: b3 :: b4 :: b5 :: b6 :: b7 :: b8 :: b9 :: b10 :: b11 :: b12 :: ownF lo hi s x n :: l)) (hp : OwnS w' lo hi s x' n) (k : Chg (rng lo hi) w w') : Frg w0 w' (b0 :: b1 :: b2 :: b3 :: b4 :: b5 :: b6 :: b7 :: b8 :: b9 :: b10 :: b11 :: b12 :: ownF lo hi s x' n :: l) :=
  Frg.chg [b0, b1, b2, b3, b4, b5, b6, b7, b8, b9, b10, b11, b12] (e := ownF lo hi s x n) (e' := ownF lo hi s x' n) h k hp rfl rfl
theorem Frg.mark14 {w0 w w' : World} {lo hi n : Nat} {s : Value} {x x' : Nat → Nat} {l : List Fact} {b0 b1 b2 b3 b4 b5 b6 b7 b8 b9 b10 b11 b12 b13 : Fact} (h : Frg w0 w (b0 :: b1 :: b2 :: b3 :: b4 :: b5 :: b6 :: b7 :: b8 :: b9 :: b10 :: b11 :: b12 :: b13 :: ownF lo hi s x n :: l)) (hp : OwnS w' lo hi s x' n) (k : Chg (rng lo hi) w w') : Frg w0 w' (b0 :: b1 :: b2 :: b3 :: b4 :: b5 :: b6 :: b7 :: b8 :: b9 :: b10 :: b11 :: b12 :: b13 :: ownF lo hi s x' n :: l) :=
  Frg.chg [b0, b1, b2, b3, b4, b5, b6, b7, b8, b9, b10, b11, b12, b13] (e := ownF lo hi s x n) (e' := ownF lo hi s x' n) h k hp rfl rfl
theorem Frg.mark15 {w0 w w' : World} {lo hi n : Nat} {s : Value} {x x' : Nat → Nat} {l : List Fact} {b0 b1 b2 b3 b4 b5 b6 b7 b8 b9 b10 b11 b12 b13 b14 : Fact} (h : Frg w0 w (b0 :: b1 :: b2 :: b3 :: b4 :: b5 :: b6 :: b7 :: b8 :: b9 :: b10 :: b11 :: b12 :: b13 :: b14 :: ownF lo hi s x n :: l)) (hp : OwnS w' lo hi s x' n) (k : Chg (rng lo hi) w w') : Frg w0 w' (b0 :: b1 :: b2 :: b3 :: b4 :: b5 :: b6 :: b7 :: b8 :: b9 :: b10 :: b11 :: b12 :: b13 :: b14 :: ownF lo hi s x' n :: l) :=
  Frg.chg [b0, b1, b2, b3, b4, b5, b6, b7, b8, b9, b10, b11, b12, b13, b14] (e := ownF lo hi s x n) (e' := ownF lo hi s x' n) h k hp rfl rfl
theorem Frg.mark16 {w0 w w' : World} {lo hi n : Nat} {s : Value} {x x' : Nat → Nat} {l : List Fact} {b0 b1 b2 b3 b4 b5 b6 b7 b8 b9 b10 b11 b12 b13 b14 b15 : Fact} (h : Frg w0 w (b0 :: b1 :: b2 :: b3 :: b4 :: b5 :: b6 :: b7 :: b8 :: b9 :: b10 :: b11 :: b12 :: b13 :: b14 :: b15 :: ownF lo hi s x n :: l)) (hp : OwnS w' lo hi s x' n) (k : Chg (rng lo hi) w w') : Frg w0 w' (b0 :: b1 :: b2 :: b3 :: b4 :: b5 :: b6 :: b7 :: b8 :: b9 :: b10 :: b11 :: b12 :: b13 :: b14 :: b15 :: ownF lo hi s x' n :: l) :=
  Frg.chg [b0, b1, b2, b3, b4, b5, b6, b7, b8, b9, b10, b11, b12, b13, b14, b15] (e := ownF lo hi s x n) (e' := ownF lo hi s x' n) h k hp rfl rfl
end Go.Fk

/- Facts of memory whose blocks lie apart, in any order. Made by genfrgu.py out of XOwn. Nothing here names a program. -/
namespace Go.Fk
open Go Go.RowKit
structure FrgU (w0 w : World) (L : List Fact) : Prop where
  below : le w0 w
  facts : ∀ e ∈ L, w0.heap.size ≤ e.lo ∧ e.hi ≤ w.heap.size ∧ e.p w
  apart : L.Pairwise (fun a b => b.hi ≤ a.lo ∨ a.hi ≤ b.lo)
theorem Frg.u {w0 w : World} {L : List Fact} (h : Frg w0 w L) : FrgU w0 w L := ⟨h.below, h.facts, h.apart.imp (fun h => .inl h)⟩
namespace FrgU
variable {w0 w w' : World} {L : List Fact}
theorem nil (w : World) : FrgU w w [] := ⟨le_refl w, by simp, .nil⟩
theorem le (h : FrgU w0 w L) (k : Below w.heap.size w w') : FrgU w0 w' L := ⟨le_trans h.below k, fun e he => by
  obtain ⟨h0, h1, h2⟩ := h.facts e he
  exact ⟨h0, Nat.le_trans h1 k.size, e.ok w w' h2 (fun i _ hi => k.block i (by omega))⟩, h.apart⟩
theorem drewN (h : FrgU w0 w L) (n : Nat) : FrgU w0 (w.drewN n) L := h.le (le_drewN w n)
theorem alloc (h : FrgU w0 w L) (o : Obj) : FrgU w0 (w.alloc o) L := h.le (le_alloc w o)
/-- A new fact, of blocks that are newer than all that was there. -/
theorem push (h : FrgU w0 w L) (k : Below w.heap.size w w') {e : Fact} (he : e.p w') (hl : w.heap.size ≤ e.lo) (hh : e.hi ≤ w'.heap.size) : FrgU w0 w' (e :: L) := by
  refine ⟨(h.le k).below, fun x hx => ?_, .cons (fun x hx => .inl (Nat.le_trans (h.facts x hx).2.1 hl)) h.apart⟩
  rcases List.mem_cons.1 hx with rfl | hx
  · exact ⟨Nat.le_trans h.below.size hl, hh, he⟩
  · exact (h.le k).facts x hx
theorem box (h : FrgU w0 w L) (t : TypeId) (cs : Array Value) : FrgU w0 (w.alloc (.cells cs t)) (rowF w.heap.size t cs :: L) :=
  h.push (le_alloc w _) (Row.new w t cs) (Nat.le_refl _) (by simp [rowF])
theorem own1 (h : FrgU w0 w L) (k : Below w.heap.size w w') {s : Value} {x : Nat → Nat} {n : Nat} (he : OwnS w' w.heap.size w'.heap.size s x n) : FrgU w0 w' (ownF w.heap.size w'.heap.size s x n :: L) :=
  h.push k he (Nat.le_refl _) (Nat.le_refl _)
theorem row (h : FrgU w0 w L) {g : Nat} {t : TypeId} {cs : Array Value} (hm : rowF g t cs ∈ L) : Row w g t cs := (h.facts _ hm).2.2
theorem own (h : FrgU w0 w L) {lo hi : Nat} {s : Value} {x : Nat → Nat} {n : Nat} (hm : ownF lo hi s x n ∈ L) : OwnS w lo hi s x n := (h.facts _ hm).2.2
theorem size (h : FrgU w0 w L) : w0.heap.size ≤ w.heap.size := h.below.size
theorem sub {L' : List Fact} (h : FrgU w0 w L) (hs : L'.Sublist L) : FrgU w0 w L' := ⟨h.below, fun x hx => h.facts x (hs.mem hx), h.apart.sublist hs⟩
/-- One fact's blocks are written: all other facts stand. -/
theorem chg (pre : List Fact) {post : List Fact} {e e' : Fact} (h : FrgU w0 w (pre ++ e :: post)) (k : Chg (rng e.lo e.hi) w w') (hp : e'.p w') (h1 : e'.lo = e.lo) (h2 : e'.hi = e.hi) : FrgU w0 w' (pre ++ e' :: post) := by
  have he := h.facts e (by simp)
  have hap := List.pairwise_append.1 h.apart
  have hap2 := List.pairwise_cons.1 hap.2.1
  refine ⟨h.below.trans (k.below (fun i hi => Nat.le_trans he.1 hi.1) h.size), fun x hx => ?_, ?_⟩
  · rcases List.mem_append.1 hx with hx | hx
    · have hx' := h.facts x (List.mem_append_left _ hx)
      have ha := hap.2.2 x hx e (by simp)
      exact ⟨hx'.1, Nat.le_trans hx'.2.1 k.size, x.ok w w' hx'.2.2 (fun i a b => k.block i (by omega) (fun c => by have := c.1; have := c.2; omega))⟩
    · rcases List.mem_cons.1 hx with rfl | hx
      · exact ⟨by rw [h1]; exact he.1, by rw [h2]; exact Nat.le_trans he.2.1 k.size, hp⟩
      · have hx' := h.facts x (List.mem_append_right _ (List.mem_cons_of_mem _ hx))
        have ha := hap2.1 x hx
        exact ⟨hx'.1, Nat.le_trans hx'.2.1 k.size, x.ok w w' hx'.2.2 (fun i a b => k.block i (by omega) (fun c => by have := c.1; have := c.2; omega))⟩
  · refine List.pairwise_append.2 ⟨hap.1, List.pairwise_cons.2 ⟨fun x hx => ?_, hap2.2⟩, fun x hx y hy => ?_⟩
    · show x.hi ≤ e'.lo ∨ e'.hi ≤ x.lo; rw [h1, h2]; exact hap2.1 x hx
    · rcases List.mem_cons.1 hy with rfl | hy
      · show y.hi ≤ x.lo ∨ x.hi ≤ y.lo; rw [h1, h2]; exact hap.2.2 x hx e (by simp)
      · exact hap.2.2 x hx y (List.mem_cons_of_mem _ hy)
/-- A row is written. -/
theorem wrote (pre : List Fact) {post : List Fact} {g : Nat} {t : TypeId} {cs cs' : Array Value} (h : FrgU w0 w (pre ++ rowF g t cs :: post)) (k : Wrote w w' g t cs') : FrgU w0 w' (pre ++ rowF g t cs' :: post) :=
  chg pre (e := rowF g t cs) (e' := rowF g t cs') h ((Chg.refl (rng g (g + 1)) w).wrote k ⟨Nat.le_refl _, Nat.lt_succ_self _⟩) k.row rfl rfl
theorem setC (pre : List Fact) {post : List Fact} {g : Nat} {t : TypeId} {cs : Array Value} (h : FrgU w0 w (pre ++ rowF g t cs :: post)) (i : Nat) (v : Value) : FrgU w0 (w.setCell ⟨g, i, none⟩ v) (pre ++ rowF g t (cs.setIfInBounds i v) :: post) :=
  chg pre (e := rowF g t cs) (e' := rowF g t (cs.setIfInBounds i v)) h ((Chg.refl (rng g (g + 1)) w).setCell ⟨Nat.le_refl _, Nat.lt_succ_self _⟩ v) ((h.row (by simp)).set i v) rfl rfl
theorem wr0 {post : List Fact} {g : Nat} {t : TypeId} {cs cs' : Array Value} (h : FrgU w0 w (rowF g t cs :: post)) (k : Wrote w w' g t cs') : FrgU w0 w' (rowF g t cs' :: post) := wrote [] h k
theorem wr1 {b0 : Fact} {post : List Fact} {g : Nat} {t : TypeId} {cs cs' : Array Value} (h : FrgU w0 w (b0 :: rowF g t cs :: post)) (k : Wrote w w' g t cs') : FrgU w0 w' (b0 :: rowF g t cs' :: post) := wrote [b0] h k
theorem wr2 {b0 b1 : Fact} {post : List Fact} {g : Nat} {t : TypeId} {cs cs' : Array Value} (h : FrgU w0 w (b0 :: b1 :: rowF g t cs :: post)) (k : Wrote w w' g t cs') : FrgU w0 w' (b0 :: b1 :: rowF g t cs' :: post) := wrote [b0, b1] h k
theorem wr3 {b0 b1 b2 : Fact} {post : List Fact} {g : Nat} {t : TypeId} {cs cs' : Array Value} (h : FrgU w0 w (b0 :: b1 :: b2 :: rowF g t cs :: post)) (k : Wrote w w' g t cs') : FrgU w0 w' (b0 :: b1 :: b2 :: rowF g t cs' :: post) := wrote [b0, b1, b2] h k
theorem set0 {post : List Fact} {g : Nat} {t : TypeId} {cs : Array Value} (h : FrgU w0 w (rowF g t cs :: post)) (i : Nat) (v : Value) : FrgU w0 (w.setCell ⟨g, i, none⟩ v) (rowF g t (cs.setIfInBounds i v) :: post) := setC [] h i v
theorem set1 {b0 : Fact} {post : List Fact} {g : Nat} {t : TypeId} {cs : Array Value} (h : FrgU w0 w (b0 :: rowF g t cs :: post)) (i : Nat) (v : Value) : FrgU w0 (w.setCell ⟨g, i, none⟩ v) (b0 :: rowF g t (cs.setIfInBounds i v) :: post) := setC [b0] h i v
theorem set2 {b0 b1 : Fact} {post : List Fact} {g : Nat} {t : TypeId} {cs : Array Value} (h : FrgU w0 w (b0 :: b1 :: rowF g t cs :: post)) (i : Nat) (v : Value) : FrgU w0 (w.setCell ⟨g, i, none⟩ v) (b0 :: b1 :: rowF g t (cs.setIfInBounds i v) :: post) := setC [b0, b1] h i v
theorem mark0 {lo hi n : Nat} {s : Value} {x x' : Nat → Nat} {l : List Fact} (h : FrgU w0 w (ownF lo hi s x n :: l)) (hp : OwnS w' lo hi s x' n) (k : Chg (rng lo hi) w w') : FrgU w0 w' (ownF lo hi s x' n :: l) :=
  chg [] (e := ownF lo hi s x n) (e' := ownF lo hi s x' n) h k hp rfl rfl
theorem mark1 {lo hi n : Nat} {s : Value} {x x' : Nat → Nat} {l : List Fact} {b0 : Fact} (h : FrgU w0 w (b0 :: ownF lo hi s x n :: l)) (hp : OwnS w' lo hi s x' n) (k : Chg (rng lo hi) w w') : FrgU w0 w' (b0 :: ownF lo hi s x' n :: l) :=
  chg [b0] (e := ownF lo hi s x n) (e' := ownF lo hi s x' n) h k hp rfl rfl
theorem mark2 {lo hi n : Nat} {s : Value} {x x' : Nat → Nat} {l : List Fact} {b0 b1 : Fact} (h : FrgU w0 w (b0 :: b1 :: ownF lo hi s x n :: l)) (hp : OwnS w' lo hi s x' n) (k : Chg (rng lo hi) w w') : FrgU w0 w' (b0 :: b1 :: ownF lo hi s x' n :: l) :=
  chg [b0, b1] (e := ownF lo hi s x n) (e' := ownF lo hi s x' n) h k hp rfl rfl
theorem mark3 {lo hi n : Nat} {s : Value} {x x' : Nat → Nat} {l : List Fact} {b0 b1 b2 : Fact} (h : FrgU w0 w (b0 :: b1 :: b2 :: ownF lo hi s x n :: l)) (hp : OwnS w' lo hi s x' n) (k : Chg (rng lo hi) w w') : FrgU w0 w' (b0 :: b1 :: b2 :: ownF lo hi s x' n :: l) :=
  chg [b0, b1, b2] (e := ownF lo hi s x n) (e' := ownF lo hi s x' n) h k hp rfl rfl
theorem mark4 {lo hi n : Nat} {s : Value} {x x' : Nat → Nat} {l : List Fact} {b0 b1 b2 b3 : Fact} (h : FrgU w0 w (b0 :: b1 :: b2 :: b3 :: ownF lo hi s x n :: l)) (hp : OwnS w' lo hi s x' n) (k : Chg (rng lo hi) w w') : FrgU w0 w' (b0 :: b1 :: b2 :: b3 :: ownF lo hi s x' n :: l) :=
  chg [b0, b1, b2, b3] (e := ownF lo hi s x n) (e' := ownF lo hi s x' n) h k hp rfl rfl
theorem mark5 {lo hi n : Nat} {s : Value} {x x' : Nat → Nat} {l : List Fact} {b0 b1 b2 b3 b4 : Fact} (h : FrgU w0 w (b0 :: b1 :: b2 :: b3 :: b4 :: ownF lo hi s x n :: l)) (hp : OwnS w' lo hi s x' n) (k : Chg (rng lo hi) w w') : FrgU w0 w' (b0 :: b1 :: b2 :: b3 :: b4 :: ownF lo hi s x' n :: l) :=
  chg [b0, b1, b2, b3, b4] (e := ownF lo hi s x n) (e' := ownF lo hi s x' n) h k hp rfl rfl
theorem mark6 {lo hi n : Nat} {s : Value} {x x' : Nat → Nat} {l : List Fact} {b0 b1 b2 b3 b4 b5 : Fact} (h : FrgU w0 w (b0 :: b1 :: b2 :: b3 :: b4 :: b5 :: ownF lo hi s x n :: l)) (hp : OwnS w' lo hi s x' n) (k : Chg (rng lo hi) w w') : FrgU w0 w' (b0 :: b1 :: b2 :: b3 :: b4 :: b5 :: ownF lo hi s x' n :: l) :=
  chg [b0, b1, b2, b3, b4, b5] (e := ownF lo hi s x n) (e' := ownF lo hi s x' n) h k hp rfl rfl
theorem mark7 {lo hi n : Nat} {s : Value} {x x' : Nat → Nat} {l : List Fact} {b0 b1 b2 b3 b4 b5 b6 : Fact} (h : FrgU w0 w (b0 :: b1 :: b2 :: b3 :: b4 :: b5 :: b6 :: ownF lo hi s x n :: l)) (hp : OwnS w' lo hi s x' n) (k : Chg (rng lo hi) w w') : FrgU w0 w' (b0 :: b1 :: b2 :: b3 :: b4 :: b5 :: b6 :: ownF lo hi s x' n :: l) :=
  chg [b0, b1, b2, b3, b4, b5, b6] (e := ownF lo hi s x n) (e' := ownF lo hi s x' n) h k hp rfl rfl
theorem mark8 {lo hi n : Nat} {s : Value} {x x' : Nat → Nat} {l : List Fact} {b0 b1 b2 b3 b4 b5 b6 b7 : Fact} (h : FrgU w0 w (b0 :: b1 :: b2 :: b3 :: b4 :: b5 :: b6 :: b7 :: ownF lo hi s x n :: l)) (hp : OwnS w' lo hi s x' n) (k : Chg (rng lo hi) w w') : FrgU w0 w' (b0 :: b1 :: b2 :: b3 :: b4 :: b5 :: b6 :: b7 :: ownF lo hi s x' n :: l) :=
  chg [b0, b1, b2, b3, b4, b5, b6, b7] (e := ownF lo hi s x n) (e' := ownF lo hi s x' n) h k hp rfl rfl
theorem mark9 {lo hi n : Nat} {s : Value} {x x' : Nat → Nat} {l : List Fact} {b0 b1 b2 b3 b4 b5 b6 b7 b8 : Fact} (h : FrgU w0 w (b0 :: b1 :: b2 :: b3 :: b4 :: b5 :: b6 :: b7 :: b8 :: ownF lo hi s x n :: l)) (hp : OwnS w' lo hi s x' n) (k : Chg (rng lo hi) w w') : FrgU w0 w' (b0 :: b1 :: b2 :: b3 :: b4 :: b5 :: b6 :: b7 :: b8 :: ownF lo hi s x' n :: l) :=
  chg [b0, b1, b2, b3, b4, b5, b6, b7, b8] (e := ownF lo hi s x n) (e' := ownF lo hi s x' n) h k hp rfl rfl
theorem add (h : FrgU w0 w L) {e : Fact} (he : e.p w) (hl : w0.heap.size ≤ e.lo) (hh : e.hi ≤ w.heap.size) (hd : ∀ x ∈ L, x.hi ≤ e.lo ∨ e.hi ≤ x.lo) : FrgU w0 w (e :: L) :=
  ⟨h.below, fun x hx => by
    rcases List.mem_cons.1 hx with rfl | hx
    · exact ⟨hl, hh, he⟩
    · exact h.facts x hx, .cons hd h.apart⟩
theorem mark10 {w0 w w' : World} {lo hi n : Nat} {s : Value} {x x' : Nat → Nat} {l : List Fact} {b0 b1 b2 b3 b4 b5 b6 b7 b8 b9 : Fact} (h : FrgU w0 w (b0 :: b1 :: b2 :: b3 :: b4 :: b5 :: b6 :: b7 :: b8 :: b9 :: ownF lo hi s x n :: l)) (hp : OwnS w' lo hi s x' n) (k : Chg (rng lo hi) w w') : FrgU w0 w' (b0 :: b1 :: b2 :: b3 :: b4 :: b5 :: b6 :: b7 :: b8 :: b9 :: ownF lo hi s x' n :: l) :=
  FrgU.chg [b0, b1, b2, b3, b4, b5, b6, b7, b8, b9] (e := ownF lo hi s x n) (e' := ownF lo hi s x' n) h k hp rfl rfl
theorem mark11 {w0 w w' : World} {lo hi n : Nat} {s : Value} {x x' : Nat → Nat} {l : List Fact} {b0 b1 b2 b3 b4 b5 b6 b7 b8 b9 b10 : Fact} (h : FrgU w0 w (b0 :: b1 :: b2 :: b3 :: b4 :: b5 :: b6 :: b7 :: b8 :: b9 :: b10 :: ownF lo hi s x n :: l)) (hp : OwnS w' lo hi s x' n) (k : Chg (rng lo hi) w w') : FrgU w0 w' (b0 :: b1 :: b2 :: b3 :: b4 :: b5 :: b6 :: b7 :: b8 :: b9 :: b10 :: ownF lo hi s x' n :: l) :=
  FrgU.chg [b0, b1, b2, b3, b4, b5, b6, b7, b8, b9, b10] (e := ownF lo hi s x n) (e' := ownF lo hi s x' n) h k hp rfl rfl
theorem mark12 {w0 w w' : World} {lo hi n : Nat} {s : Value} {x x' : Nat → Nat} {l : List Fact} {b0 b1 b2 b3 b4 b5 b6 b7 b8 b9 b10 b11 : Fact} (h : FrgU w0 w (b0 :: b1 :: b2 :: b3 :: b4 :: b5 :: b6 :: b7 :: b8 :: b9 :: b10 :: b11 :: ownF lo hi s x n :: l)) (hp : OwnS w' lo hi s x' n) (k : Chg (rng lo hi) w w') : FrgU w0 w' (b0 :: b1 :: b2 :: b3 :: b4 :: b5 :: b6 :: b7 :: b8 :: b9 :: b10 :: b11 :: ownF lo hi s x' n :: l) :=
  FrgU.chg [b0, b1, b2, b3, b4, b5, b6, b7, b8, b9, b10, b11] (e := ownF lo hi s x n) (e' := ownF lo hi s x' n) h k hp rfl rfl
theorem mark13 {w0 w w' : World} {lo hi n : Nat} {s : Value} {x x' : Nat → Nat} {l : List Fact} {b0 b1 b2 b3 b4 b5 b6 b7 b8 b9 b10 b11 b12 : Fact} (h : FrgU w0 w (b0 :: b1 :: b2 :: b3 :: b4 :: b5 :: b6 :: b7 :: b8 :: b9 :: b10 :: b11 :: b12 :: ownF lo hi s x n :: l)) (hp : OwnS w' lo hi s x' n) (k : Chg (rng lo hi) w w') : FrgU w0 w' (b0 :: b1 :: b2 :: b3 :: b4 :: b5 :: b6 :: b7 :: b8 :: b9 :: b10 :: b11 :: b12 :: ownF lo hi s x' n :: l) :=
  FrgU.chg [b0, b1, b2, b3, b4, b5, b6, b7, b8, b9, b10, b11, b12] (e := ownF lo hi s x n) (e' := ownF lo hi s x' n) h k hp rfl rfl
theorem mark14 {w0 w w' : World} {lo hi n : Nat} {s : Value} {x x' : Nat → Nat} {l : List Fact} {b0 b1 b2 b3 b4 b5 b6 b7 b8 b9 b10 b11 b12 b13 : Fact} (h : FrgU w0 w (b0 :: b1 :: b2 :: b3 :: b4 :: b5 :: b6 :: b7 :: b8 :: b9 :: b10 :: b11 :: b12 :: b13 :: ownF lo hi s x n :: l)) (hp : OwnS w' lo hi s x' n) (k : Chg (rng lo hi) w w') : FrgU w0 w' (b0 :: b1 :: b2 :: b3 :: b4 :: b5 :: b6 :: b7 :: b8 :: b9 :: b10 :: b11 :: b12 :: b13 :: ownF lo hi s x' n :: l) :=
  FrgU.chg [b0, b1, b2, b3, b4, b5, b6, b7, b8, b9, b10, b11, b12, b13] (e := ownF lo hi s x n) (e' := ownF lo hi s x' n) h k hp rfl rfl
theorem mark15 {w0 w w' : World} {lo hi n : Nat} {s : Value} {x x' : Nat → Nat} {l : List Fact} {b0 b1 b2 b3 b4 b5 b6 b7 b8 b9 b10 b11 b12 b13 b14 : Fact} (h : FrgU w0 w (b0 :: b1 :: b2 :: b3 :: b4 :: b5 :: b6 :: b7 :: b8 :: b9 :: b10 :: b11 :: b12 :: b13 :: b14 :: ownF lo hi s x n :: l)) (hp : OwnS w' lo hi s x' n) (k : Chg (rng lo hi) w w') : FrgU w0 w' (b0 :: b1 :: b2 :: b3 :: b4 :: b5 :: b6 :: b7 :: b8 :: b9 :: b10 :: b11 :: b12 :: b13 :: b14 :: ownF lo hi s x' n :: l) :=
  FrgU.chg [b0, b1, b2, b3, b4, b5, b6, b7, b8, b9, b10, b11, b12, b13, b14] (e := ownF lo hi s x n) (e' := ownF lo hi s x' n) h k hp rfl rfl
theorem mark16 {w0 w w' : World} {lo hi n : Nat} {s : Value} {x x' : Nat → Nat} {l : List Fact} {b0 b1 b2 b3 b4 b5 b6 b7 b8 b9 b10 b11 b12 b13 b14 b15 : Fact} (h : FrgU w0 w (b0 :: b1 :: b2 :: b3 :: b4 :: b5 :: b6 :: b7 :: b8 :: b9 :: b10 :: b11 :: b12 :: b13 :: b14 :: b15 :: ownF lo hi s x n :: l)) (hp : OwnS w' lo hi s x' n) (k : Chg (rng lo hi) w w') : FrgU w0 w' (b0 :: b1 :: b2 :: b3 :: b4 :: b5 :: b6 :: b7 :: b8 :: b9 :: b10 :: b11 :: b12 :: b13 :: b14 :: b15 :: ownF lo hi s x' n :: l) :=
  FrgU.chg [b0, b1, b2, b3, b4, b5, b6, b7, b8, b9, b10, b11, b12, b13, b14, b15] (e := ownF lo hi s x n) (e' := ownF lo hi s x' n) h k hp rfl rfl
end FrgU
section
variable {P : Program} {ops : Array Oper} {Q : Exit → Act → World → Prop} {o : Oper} {rest : List Oper} {a : Act} {w : World}
theorem wpList_loadGU {w0 : World} {L : List Fact} (hF : FrgU w0 w L) (hg : o.guard = none) {ty : TypeId} {x : Operand} (hop : o.op = .load ty x) {g : Nat} (hx : a.eval x = .pointer (some ⟨g, 0, none⟩)) {t : TypeId} {cs : Array Value} {d : TypeDesc}
    (hm : rowF g t cs ∈ L) (hu : P.underlying ty = some d) (hd : (match d with | .struct _ | .array _ _ => true | _ => false) = true) {n : Nat} (hi : (P.info? ty).map (·.size) = some n) (hn : cs.size = n)
    (h : wpList P ops Q rest (a.put o.dst (.agg cs)) w) : wpList P ops Q (o :: rest) a w :=
  wpList_loadD hg hop hx (hF.row hm) hu hd (hn ▸ hi) h
theorem wpList_loadGGU {w0 : World} {L : List Fact} (hF : FrgU w0 w L) {ty : TypeId} {x : Operand} (hop : o.op = .load ty x) {g : Nat} (hx : a.eval x = .pointer (some ⟨g, 0, none⟩)) {t : TypeId} {cs : Array Value} {d : TypeDesc}
    (hm : rowF g t cs ∈ L) (hu : P.underlying ty = some d) (hd : (match d with | .struct _ | .array _ _ => true | _ => false) = true) {n : Nat} (hi : (P.info? ty).map (·.size) = some n) (hn : cs.size = n) (hw : Region.wanted o (yielded ops a.tmps) = true)
    (h : wpList P ops Q rest (a.put o.dst (.agg cs)) w) : wpList P ops Q (o :: rest) a w :=
  wpList_step fun K hK => by
    simp only [hw, if_true]
    exact wp_load_row ty x hop g hx t cs (0, 0) d (hF.row hm) hu hd (hn ▸ hi) (hK _ _ h)
theorem wpList_storeGU {w0 w1 : World} {L : List Fact} {t : TypeId} {old : Array Value} (hF : FrgU w0 w1 L) (hw : w = w1.alloc (.cells old t)) (hg : o.guard = none) {ty : TypeId} {x y : Operand} (hop : o.op = .store ty x y) (hx : a.eval x = .pointer (some ⟨w1.heap.size, 0, none⟩)) {cells : Array Value} (hy : a.eval y = .agg cells)
    (hi : (P.info? ty).map (·.size) = some cells.size) (ho : old.size = cells.size) (h1 : cells.all (·.oneCell') = true)
    (h : ∀ w', FrgU w0 w' (rowF w1.heap.size t cells :: L) → w'.heap.size = w1.heap.size + 1 → wpList P ops Q rest (a.put o.dst undef) w') : wpList P ops Q (o :: rest) a w :=
  wpList_storeN hw hg hop hx hy hi ho h1 (fun w' hr hl hz => h w' (hF.push hl hr (Nat.le_refl _) (by have := hr.lt; simp only [rowF]; omega)) hz)
end
theorem wpAt0U {P : Program} {c : Code} {Q : Exit → Act → World → Prop} {a : Act} {w0 w : World} {L : List Fact} (F : FrgU w0 w L) (h : ∀ w', FrgU w0 w' L → c.wp P Q a w') : c.wp P Q a w := h _ F
theorem wpAtNU {P : Program} {c : Code} {Q : Exit → Act → World → Prop} {a : Act} {w0 w : World} {L : List Fact} {n : Nat} (F : FrgU w0 w L) (h : ∀ w', FrgU w0 w' L → c.wp P Q a w') : c.wp P Q a (w.drewN n) := h _ (F.drewN n)
theorem callAt0U {P : Program} {f : FuncId} {args : Array Value} {R : Ending → World → Prop} {w0 w : World} {L : List Fact} (F : FrgU w0 w L) (h : ∀ w', FrgU w0 w' L → Calls P f args w' R) : Calls P f args w R := h _ F
theorem callAtNU {P : Program} {f : FuncId} {args : Array Value} {R : Ending → World → Prop} {w0 w : World} {L : List Fact} {n : Nat} (F : FrgU w0 w L) (h : ∀ w', FrgU w0 w' L → Calls P f args w' R) : Calls P f args (w.drewN n) R := h _ (F.drewN n)
section
variable {P : Program} {w0 w : World} {L : List Fact} {n : Nat} {ops : Array Oper} {rest : List Oper} {o : Oper} {a : Act} {Q : Exit → Act → World → Prop}
theorem listNU (F : FrgU w0 w L) (h : ∀ w', FrgU w0 w' L → wpList P ops Q rest a w') : wpList P ops Q rest a (w.drewN n) := h _ (F.drewN n)
end
section
variable {E : Ext} {P : Program} {ops : Array Oper} {W : World} {K : FuncId → Array Value → World → Value → Prop} {Q : Act → World → Prop} {F : Facts} {k : Nat} {o : Oper} {rest : List Oper} {a : Act}
theorem wpFreeD_loadGU {w0 w1 : World} {L : List Fact} {n : Nat} (hF : FrgU w0 w1 L) (hW : W = w1.drewN n) (hg : o.guard = none) {ty : TypeId} {x : Operand} (hop : o.op = .load ty x) {g : Nat} (hx : a.eval x = .pointer (some ⟨g, 0, none⟩)) {t : TypeId} {cs : Array Value} {d : TypeDesc}
    (hm : rowF g t cs ∈ L) (hu : P.underlying ty = some d) (hd : (match d with | .struct _ | .array _ _ => true | _ => false) = true) {m : Nat} (hi : (P.info? ty).map (·.size) = some m) (hs : cs.size = m)
    (h : wpFreeD leX P ops .any W K Q rest (k + 1) (a.put o.dst (.agg cs)) (F.with k (fun _ => True))) : wpFreeD leX P ops .any W K Q (o :: rest) k a F := by
  subst hW hs
  refine wpFreeD_one hg (.agg cs) (fun w hw => ?_) h
  have := run_loadVar_row (P := P) w g t ty cs (0, 0) _ (((hF.row hm).drewN n).le hw) hu hd hi
  simp [execOp, hop, hx, Instr.loadAt, Instr.sureAddr, this, Result.andThen]
end
end Go.Fk

/- Regions that make a string and store it into the result. -/
namespace Go.Fk
open Go Go.RowKit
section
variable {P : Program} {ops : Array Oper} {W : World} {K : FuncId → Array Value → World → Value → Prop} {Q : Act → World → Prop} {F : Facts} {k : Nat} {o : Oper} {rest : List Oper} {a : Act} {g : Nat} {t : TypeId} {m : Nat} {Fin : World → Array Value → Prop} {hm : ∀ w w' cs, le w w' → Fin w cs → Fin w' cs}
theorem wpFreeD_loadX {g' : Nat} {t' : TypeId} {cs : Array Value} (hR : Row W g' t' cs) (hne : g' ≠ g) (hg : o.guard = none) {ty : TypeId} {x : Operand} (hop : o.op = .load ty x) (hx : a.eval x = .pointer (some ⟨g', 0, none⟩)) {d : TypeDesc}
    (hu : P.underlying ty = some d) (hd : (match d with | .struct _ | .array _ _ => true | _ => false) = true) {n : Nat} (hi : (P.info? ty).map (·.size) = some n) (hs : cs.size = n)
    (h : wpFreeD (outX g t m Fin hm) P ops .any W K Q rest (k + 1) (a.put o.dst (.agg cs)) (F.with k (fun _ => True))) : wpFreeD (outX g t m Fin hm) P ops .any W K Q (o :: rest) k a F := by
  subst hs
  refine wpFreeD_one hg (.agg cs) (fun w hw => ?_) h
  have := run_loadVar_row (P := P) w g' t' ty cs (0, 0) _ (hw.1.row hR hne) hu hd hi
  simp [execOp, hop, hx, Instr.loadAt, Instr.sureAddr, this, Result.andThen]
end
theorem own_finX {T : List (Nat × TypeId × Array Value)} {w w' : World} (h : (finX T).R w w') {lo hi : Nat} {s : Value} {x : Nat → Nat} {n : Nat} (ho : OwnS w lo hi s x n) (hT : ∀ x ∈ T, ¬ (lo ≤ x.1 ∧ x.1 < hi)) : OwnS w' lo hi s x n := by
  rcases ho with ho | ⟨b, o, cap, cs, h1, h2, h3, h4, h5, h6, h7⟩
  · exact .inl ho
  · exact .inr ⟨b, o, cap, cs, h1, h2, h3, h4, h5, finX_row h h6 (fun x hx e => hT x hx (by rw [e]; exact ⟨h4, h5⟩)), h7⟩
/-- A string that is made: its cells but the slice, and its samples. -/
def FinS (B : Nat) (c : Value → Array Value) (x : Nat → Nat) (n : Nat) (w : World) (cs : Array Value) : Prop := ∃ s, cs = c s ∧ ∃ lo hi, B ≤ lo ∧ hi ≤ w.heap.size ∧ OwnS w lo hi s x n
theorem FinS_le (B : Nat) (c : Value → Array Value) (x : Nat → Nat) (n : Nat) : ∀ w w' cs, le w w' → FinS B c x n w cs → FinS B c x n w' cs := fun _ _ _ hl ⟨s, h, lo, hi, h1, h2, h3⟩ => ⟨s, h, lo, hi, h1, Nat.le_trans h2 hl.size, h3.le hl⟩
theorem FinS_ch {B : Nat} {c : Value → Array Value} {x : Nat → Nat} {n g : Nat} {w w' : World} {cs : Array Value} (h : FinS B c x n w cs) (hc : Chg (· = g) w w') (hg : g < B) : FinS B c x n w' cs := by
  obtain ⟨s, h, lo, hi, h1, h2, h3⟩ := h
  exact ⟨s, h, lo, hi, h1, Nat.le_trans h2 hc.size, h3.chgS hc (fun i a b e => by have e' : i = g := e; omega)⟩
end Go.Fk
namespace Go.Fk
open Go Go.RowKit
theorem of_can {a A : Nat} (h : can .f32 a = A) (hn : isNan .f32 A = false) : a = A := by
  have hc : can .f32 a = can .f32 A := by rw [h, can_of_not hn]
  have : isNan .f32 a = false := by rw [isNan_of_can hc, hn]
  rw [← can_of_not this, h]
section
variable {P : Program} {ops : Array Oper} {W : World} {K : FuncId → Array Value → World → Value → Prop} {Q : Act → World → Prop} {F : Facts} {k : Nat} {o : Oper} {rest : List Oper} {a : Act} {g : Nat} {t : TypeId} {m : Nat} {Fin : World → Array Value → Prop} {hm : ∀ w w' cs, le w w' → Fin w cs → Fin w' cs}
theorem wpFreeD_made (hgW : g < W.heap.size) (hg : o.guard = none) (f : Nat → Value) (tt : TypeId) (cs : Array Value) (hr : ∀ w, (execOp a.eval o).run P w = .ok (.value (f w.heap.size)) (w.alloc (.cells cs tt)))
    (h : ∀ b, wpFreeD (outX g t m Fin hm) P ops .any W K Q rest (k + 1) (a.put o.dst (f b)) (F.with k (fun w => ∃ b', f b = f b' ∧ W.heap.size ≤ b' ∧ Row w b' tt cs))) : wpFreeD (outX g t m Fin hm) P ops .any W K Q (o :: rest) k a F := by
  refine ⟨fun w v => ∃ b', v = f b' ∧ W.heap.size ≤ b' ∧ Row w b' tt cs, ⟨fun v w w' hw hv => ?_, .inl ⟨by simp [Region.wanted, hg], fun w hw _ => ?_⟩⟩, fun v hv => ?_⟩
  · obtain ⟨b', e, hb, hrow⟩ := hv
    exact ⟨b', e, hb, hw.1.row hrow (fun e => by have e' : b' = g := e; omega)⟩
  · rw [hr w]
    exact ⟨(outX g t m Fin hm).of_le (le_alloc w _), w.heap.size, rfl, hw.1.size, Row.new w tt cs⟩
  · obtain ⟨w, _, _, b, rfl, _⟩ := hv
    exact h b
end
end Go.Fk

/- Regions that make blocks and write into them what has memory of its own. -/
namespace Go.Fk
open Go Go.RowKit
/-- Rows of types that are none of T's stand. -/
def keeps (T : List (TypeId × Nat × (World → Array Value → Prop))) (w w' : World) : Prop := w.heap.size ≤ w'.heap.size ∧ ∀ k t cs, (∀ x ∈ T, x.1 ≠ t) → Row w k t cs → Row w' k t cs
theorem keeps_le {T : List (TypeId × Nat × (World → Array Value → Prop))} {w w' : World} (h : le w w') : keeps T w w' := ⟨h.size, fun _ _ _ _ hr => hr.le h⟩
/-- As newX, where what is written may speak of the world. -/
def newF (B : Nat) (T : List (TypeId × Nat × (World → Array Value → Prop))) (hm : ∀ x ∈ T, ∀ w w' cs, keeps T w w' → x.2.2 w cs → x.2.2 w' cs) : Ext where
  R w w' := w'.os = w.os ∧ w'.tape = w.tape ∧ w'.output = w.output ∧ w.heap.size ≤ w'.heap.size ∧ (∀ k, k < B → k < w.heap.size → w'.heap[k]? = w.heap[k]?) ∧
    (∀ k x, x ∈ T → (∃ cs, Row w k x.1 cs ∧ x.2.2 w cs) → ∃ cs, Row w' k x.1 cs ∧ x.2.2 w' cs) ∧ (∀ k x, x ∈ T → (∃ cs, Row w k x.1 cs ∧ cs.size = x.2.1) → ∃ cs, Row w' k x.1 cs ∧ cs.size = x.2.1) ∧
    keeps T w w'
  refl w := ⟨rfl, rfl, rfl, Nat.le_refl _, fun _ _ _ => rfl, fun _ _ _ h => h, fun _ _ _ h => h, Nat.le_refl _, fun _ _ _ _ h => h⟩
  trans := by
    rintro a b c ⟨h1, h2, h3, h4, h5, h6, h7, h8⟩ ⟨k1, k2, k3, k4, k5, k6, k7, k8⟩
    exact ⟨k1.trans h1, k2.trans h2, k3.trans h3, Nat.le_trans h4 k4, fun k hk hx => (k5 k hk (Nat.lt_of_lt_of_le hx h4)).trans (h5 k hk hx), fun k x hx h => k6 k x hx (h6 k x hx h), fun k x hx h => k7 k x hx (h7 k x hx h), Nat.le_trans h8.1 k8.1, fun k t cs hn h => k8.2 k t cs hn (h8.2 k t cs hn h)⟩
  of_le := by
    intro a b h
    exact ⟨h.os, h.tape, h.output, h.size, fun k _ hk => h.block k hk, fun k x hx ⟨cs, hr, hs⟩ => ⟨cs, hr.le h, hm x hx a b cs (keeps_le h) hs⟩, fun k x _ ⟨cs, hr, hs⟩ => ⟨cs, hr.le h, hs⟩, keeps_le h⟩
section
variable {B : Nat} {T : List (TypeId × Nat × (World → Array Value → Prop))} {hm : ∀ x ∈ T, ∀ w w' cs, keeps T w w' → x.2.2 w cs → x.2.2 w' cs}
theorem newF_keeps {w w' : World} (h : (newF B T hm).R w w') : keeps T w w' := h.2.2.2.2.2.2.2
theorem newF_le {w w' : World} (h : (newF B T hm).R w w') (hB : w.heap.size ≤ B) : le w w' :=
  ⟨h.1, h.2.1, h.2.2.1, h.2.2.2.1, fun k hk => h.2.2.2.2.1 k (by omega) hk⟩
theorem newF_below {w w' : World} (h : (newF B T hm).R w w') {C : Nat} (hC : C ≤ B) (hw : C ≤ w.heap.size) : Below C w w' :=
  ⟨h.1, h.2.1, h.2.2.1, h.2.2.2.1, fun k hk => h.2.2.2.2.1 k (by omega) (by omega)⟩
theorem newF_row {w w' : World} (h : (newF B T hm).R w w') {g : Nat} {t : TypeId} {cs : Array Value} (hr : Row w g t cs) (hg : g < B) : Row w' g t cs := by
  have := h.2.2.2.2.1 g hg hr.lt
  unfold Row at *
  rw [this]; exact hr
theorem keeps_own {w w' : World} {lo hi : Nat} {s : Value} {x : Nat → Nat} {n : Nat} (k : keeps T w w') (hT : ∀ x ∈ T, x.1 ≠ 22) (h : OwnS w lo hi s x n) : OwnS w' lo hi s x n := by
  rcases h with h | ⟨b, o, cap, cs, h1, h2, h3, h4, h5, h6, h7⟩
  · exact .inl h
  · exact .inr ⟨b, o, cap, cs, h1, h2, h3, h4, h5, k.2 _ _ _ hT h6, h7⟩
/-- Memory of one's own, made since B0. -/
def NewS (B0 : Nat) (s : Value) (x : Nat → Nat) (n : Nat) (w : World) : Prop := OwnS w B0 w.heap.size s x n
theorem NewS.keeps {w w' : World} {B0 : Nat} {s : Value} {x : Nat → Nat} {n : Nat} (h : NewS B0 s x n w) (k : keeps T w w') (hT : ∀ x ∈ T, x.1 ≠ 22) : NewS B0 s x n w' := (keeps_own k hT h).mono (Nat.le_refl _) k.1
variable {P : Program} {ops : Array Oper} {W : World} {K : FuncId → Array Value → World → Value → Prop} {Q : Act → World → Prop} {F : Facts} {k : Nat} {o : Oper} {rest : List Oper} {a : Act}
/-- An operation that carries on what is known of those before it. -/
theorem wpFreeD_oneK {E : Ext} (hg : o.guard = none) (v : Value) (G : World → Prop) (hG : ∀ w w', E.R w w' → G w → G w') (hr : ∀ w, E.R W w → (execOp a.eval o).run P w = .ok (.value v) w) (hb : ∀ w, E.R W w → behind .any o F w → G w)
    (h : wpFreeD E P ops .any W K Q rest (k + 1) (a.put o.dst v) (F.with k G)) : wpFreeD E P ops .any W K Q (o :: rest) k a F := by
  refine ⟨fun w u => u = v ∧ G w, ⟨fun _ w w' hw h => ⟨h.1, hG w w' hw h.2⟩, .inl ⟨by simp [Region.wanted, hg], fun w hw hbe => ?_⟩⟩, fun u hu => ?_⟩
  · rw [hr w hw]; exact ⟨E.refl w, rfl, hb w hw hbe⟩
  · obtain ⟨w, _, _, rfl, _⟩ := hu
    exact wpFreeD_weaken _ _ _ _ _ (fun e w h => ⟨h.1, fun he => (h.2 he).2⟩) h
theorem wpFreeD_loadF (hg : o.guard = none) {ty : TypeId} {x : Operand} (hop : o.op = .load ty x) {g : Nat} (hx : a.eval x = .pointer (some ⟨g, 0, none⟩)) {t : TypeId} {cs : Array Value} {d : TypeDesc}
    (hr : Row W g t cs) (hB : g < B) (hu : P.underlying ty = some d) (hd : (match d with | .struct _ | .array _ _ => true | _ => false) = true) {m : Nat} (hi : (P.info? ty).map (·.size) = some m) (hs : cs.size = m)
    (h : wpFreeD (newF B T hm) P ops .any W K Q rest (k + 1) (a.put o.dst (.agg cs)) (F.with k (fun _ => True))) : wpFreeD (newF B T hm) P ops .any W K Q (o :: rest) k a F := by
  subst hs
  refine wpFreeD_one hg (.agg cs) (fun w hw => ?_) h
  have := run_loadVar_row (P := P) w g t ty cs (0, 0) _ (newF_row hw hr hB) hu hd hi
  simp [execOp, hop, hx, Instr.loadAt, Instr.sureAddr, this, Result.andThen]
theorem wpFreeD_loadFG {w0 w1 : World} {L : List Fact} {n : Nat} {T : List (TypeId × Nat × (World → Array Value → Prop))} {hm : ∀ x ∈ T, ∀ w w' cs, keeps T w w' → x.2.2 w cs → x.2.2 w' cs} (hF : FrgU w0 w1 L) (hW : W = w1.drewN n) (hg : o.guard = none) {ty : TypeId} {x : Operand} (hop : o.op = .load ty x) {g : Nat} (hx : a.eval x = .pointer (some ⟨g, 0, none⟩)) {t : TypeId} {cs : Array Value} {d : TypeDesc}
    (hq : rowF g t cs ∈ L) (hu : P.underlying ty = some d) (hd : (match d with | .struct _ | .array _ _ => true | _ => false) = true) {m : Nat} (hi : (P.info? ty).map (·.size) = some m) (hs : cs.size = m)
    (h : wpFreeD (newF w1.heap.size T hm) P ops .any W K Q rest (k + 1) (a.put o.dst (.agg cs)) (F.with k (fun _ => True))) : wpFreeD (newF w1.heap.size T hm) P ops .any W K Q (o :: rest) k a F := by
  subst hW
  exact wpFreeD_loadF hg hop hx ((hF.row hq).drewN n) (hF.row hq).lt hu hd hi hs h
theorem wpFreeD_allocF (hg : o.guard = none) {ty : TypeId} (hop : o.op = .alloc ty) (cs : Array Value)
    (hr : ∀ w, (Instr.alloc ty true (.tuple #[])).run P w = .ok (.pointer (some ⟨w.heap.size, 0, none⟩)) (w.alloc (.cells cs ty))) {n : Nat} {p : World → Array Value → Prop} (hT : (ty, n, p) ∈ T) (hs : cs.size = n) (hB : W.heap.size = B)
    (h : ∀ b, B ≤ b → wpFreeD (newF B T hm) P ops .any W K Q rest (k + 1) (a.put o.dst (.pointer (some ⟨b, 0, none⟩))) (F.with k (IsRow b ty n))) : wpFreeD (newF B T hm) P ops .any W K Q (o :: rest) k a F := by
  refine ⟨fun w v => ∃ b, v = .pointer (some ⟨b, 0, none⟩) ∧ B ≤ b ∧ IsRow b ty n w, ⟨fun v w w' hw hv => ?_, .inl ⟨by simp [Region.wanted, hg], fun w hw _ => ?_⟩⟩, fun v hv => ?_⟩
  · obtain ⟨b, e, h1, h2⟩ := hv; exact ⟨b, e, h1, hw.2.2.2.2.2.2.1 b _ hT h2⟩
  · simp [execOp, hop, hr, Result.andThen, insideT]
    exact ⟨(newF B T hm).of_le (le_alloc w _), by have := hw.2.2.2.1; omega, cs, Row.new w ty cs, hs⟩
  · obtain ⟨w, _, _, b, rfl, hb, _⟩ := hv
    exact wpFreeD_weaken _ _ _ _ _ (fun e w h => ⟨h.1, fun he => by obtain ⟨b', e', _, h'⟩ := h.2 he; obtain rfl : b = b' := by simpa using e'
                                                                    exact h'⟩) (h b hb)
theorem wpFreeD_storeF (hg : o.guard = none) {ty : TypeId} {x y : Operand} (hop : o.op = .store ty x y) {b : Nat} (hx : a.eval x = .pointer (some ⟨b, 0, none⟩)) {cells : Array Value} (hy : a.eval y = .agg cells)
    {n : Nat} {p : World → Array Value → Prop} (hT : (ty, n, p) ∈ T) (hp : ∀ w, (newF B T hm).R W w → behind .any o F w → p w cells) (hd : ∀ x ∈ T, ∀ y ∈ T, x.1 = y.1 → x = y) (hb : B ≤ b) (hpre : ∀ w, (newF B T hm).R W w → behind .any o F w → IsRow b ty n w) (hi : (P.info? ty).map (·.size) = some n) (hs : cells.size = n) (h1 : cells.all (·.oneCell') = true)
    (h : wpFreeD (newF B T hm) P ops .any W K Q rest (k + 1) (a.put o.dst undef) (F.with k (fun w => ∃ cs, Row w b ty cs ∧ p w cs))) : wpFreeD (newF B T hm) P ops .any W K Q (o :: rest) k a F := by
  subst hs
  refine ⟨fun w v => v = undef ∧ ∃ cs, Row w b ty cs ∧ p w cs, ⟨fun v w w' hw hv => ⟨hv.1, hw.2.2.2.2.2.1 _ _ hT hv.2⟩, .inl ⟨by simp [Region.wanted, hg], fun w hw hbe => ?_⟩⟩, fun v hv => ?_⟩
  · obtain ⟨cs, hc, hcs⟩ := hpre w hw hbe
    have hrun := run_storeVar_row (P := P) w b ty ty cs cells hc hi hcs h1
    have : (execOp a.eval o).run P w = .ok .skip (w.setRow b cells) := by
      unfold execOp
      simp only [hop, hx, hy, Instr.storeAt, Instr.sureAddr, Sem.run_bind, Sem.run_pure, Result.andThen_ok, hrun]
    rw [this]
    have hrow : Row (w.setRow b cells) b ty cells := hc.setRow _
    have one : ∀ q t' c', Row w q t' c' → q = b → t' = ty ∧ c' = cs := by
      rintro q t' c' hq rfl
      unfold Row at hq hc
      rw [hc] at hq
      simp only [Option.some.injEq, Obj.cells.injEq] at hq
      exact ⟨hq.2.1.symm, hq.1.symm⟩
    have hk : keeps T w (w.setRow b cells) := ⟨by simp, fun q t' c' hn hrx => by
      by_cases e : q = b
      · exact absurd (one _ _ _ hrx e).1.symm (hn _ hT)
      · exact hrx.setRow_other e _⟩
    refine ⟨⟨rfl, rfl, rfl, by simp, fun q hq _ => ?_, fun q x' hx' ⟨c', hrx, hsx⟩ => ?_, fun q x' hx' ⟨c', hrx, hsx⟩ => ?_, hk⟩, rfl, cells, hrow, hm _ hT w _ _ hk (hp w hw hbe)⟩
    · unfold World.setRow
      rw [Array.getElem?_modify, if_neg (by omega)]
    · by_cases e : q = b
      · have := hd x' hx' _ hT (one _ _ _ hrx e).1
        subst this; subst e; exact ⟨cells, hrow, hm _ hT w _ _ hk (hp w hw hbe)⟩
      · exact ⟨c', hrx.setRow_other e _, hm _ hx' w _ _ hk hsx⟩
    · by_cases e : q = b
      · have := hd x' hx' _ hT (one _ _ _ hrx e).1
        subst this; subst e; exact ⟨cells, hrow, rfl⟩
      · exact ⟨c', hrx.setRow_other e _, hsx⟩
  · obtain ⟨w, _, _, rfl, _⟩ := hv
    exact wpFreeD_weaken _ _ _ _ _ (fun e w h => ⟨h.1, fun he => (h.2 he).2⟩) h
end
/-- What memory of one's own lies in: no row of another type. -/
theorem OwnS.tight {w : World} {lo hi : Nat} {s : Value} {x : Nat → Nat} {n : Nat} (h : OwnS w lo hi s x n) (hl : lo ≤ hi) : ∃ lo' hi', OwnS w lo' hi' s x n ∧ lo ≤ lo' ∧ hi' ≤ hi ∧ ∀ g t cs, Row w g t cs → t ≠ 22 → g + 1 ≤ lo' ∨ hi' ≤ g := by
  rcases h with h | ⟨b, o, cap, cs, h1, h2, h3, h4, h5, h6, h7⟩
  · exact ⟨lo, lo, .inl h, Nat.le_refl _, hl, fun g _ _ _ _ => by omega⟩
  · refine ⟨b, b + 1, .inr ⟨b, o, cap, cs, h1, h2, h3, Nat.le_refl _, Nat.lt_succ_self _, h6, h7⟩, h4, h5, fun g t c hr ht => ?_⟩
    have : g ≠ b := by
      rintro rfl
      unfold Row at hr h6
      rw [h6] at hr
      simp only [Option.some.injEq, Obj.cells.injEq] at hr
      exact ht hr.2.1.symm
    omega
theorem FrgU.two {w0 W w3 : World} {L : List Fact} (F : FrgU w0 W L) (hl : Fk.le W w3) {t6 t7 : TypeId} {c6 c7 : Array Value} {b6 b7 : Nat} {s : Value} {x : Nat → Nat} {n : Nat} (r6 : Row w3 b6 t6 c6) (g6 : W.heap.size ≤ b6) (r7 : Row w3 b7 t7 c7) (g7 : W.heap.size ≤ b7)
    (hne : t6 ≠ t7) (n6 : t6 ≠ 22) (n7 : t7 ≠ 22) (ho : NewS W.heap.size s x n w3) : ∃ lo hi, FrgU w0 w3 (ownF lo hi s x n :: rowF b7 t7 c7 :: rowF b6 t6 c6 :: L) := by
  obtain ⟨lo, hi, ho, h1, h2, hd⟩ := OwnS.tight ho hl.size
  have hb : b6 ≠ b7 := by
    rintro rfl
    unfold Row at r6 r7
    rw [r6] at r7
    simp only [Option.some.injEq, Obj.cells.injEq] at r7
    exact hne r7.2.1
  have F1 := F.le hl
  have hL : ∀ x ∈ L, x.hi ≤ W.heap.size := fun x hx => (F.facts x hx).2.1
  have sz := F.size
  refine ⟨lo, hi, ((F1.add (e := rowF b6 t6 c6) r6 (by simp only [rowF]; omega) (by have := r6.lt; simp only [rowF]; omega) (fun x hx => .inl (by have := hL x hx; simp only [rowF]; omega))).add (e := rowF b7 t7 c7) r7 (by simp only [rowF]; omega) (by have := r7.lt; simp only [rowF]; omega) (fun x hx => ?_)).add (e := ownF lo hi s x n) ho (by simp only [ownF]; omega) h2 (fun x hx => ?_)⟩
  · rcases List.mem_cons.1 hx with rfl | hx
    · simp only [rowF]; omega
    · exact .inl (by have := hL x hx; simp only [rowF]; omega)
  · rcases List.mem_cons.1 hx with rfl | hx
    · exact hd _ _ _ r7 n7
    rcases List.mem_cons.1 hx with rfl | hx
    · exact hd _ _ _ r6 n6
    · exact .inl (by have := hL x hx; simp only [ownF]; omega)
end Go.Fk

/- 'IsSilentString' of both. -/
namespace Go.Proofs.Ytmacednkpjfokaa
open Go.RowKit Go.Fk
set_option maxRecDepth 100000 in
set_option maxHeartbeats 4000000 in
theorem s_l03Silent (B : Nat) (s : Value) (q : StS) (g : Nat) (w : World) (hs : RdS w B s q.x q.n) (R : Row w g 48 #[s, .int .i64 (q.j : Nat), .int .i64 3, .float .f32 (q.ta), .float .f32 (q.tb), .float .f32 (q.tc), .float .f32 (q.tx), .float .f32 (q.ty), .int .i64 2, .float .f32 (q.da), .float .f32 (q.db), .float .f32 (q.dc), .float .f32 (q.dx), .float .f32 (q.dy), .float .f32 (q.l)]) (n1 : 1 ≤ q.n) (n2 : q.n ≤ 1024) :
    Calls Try.prog 82 #[.pointer (some ⟨g, 0, none⟩)] w fun e w' => e = .returned (.bool (silS q)) ∧ ∃ m, w' = w.drewN m := by
  obtain ⟨a, cap, y, rfl, hc, hm, hx⟩ := hs.raw n1
  unfold maxLen at hm
  have HX := hid hx
  clear hx hs
  have c0 := R.cell? 0
  have HT := hid (fun m => s_l02StillAt q.tx q.ty g 2 (w.drewN m) ((R.drewN m).cell? 6) ((R.drewN m).cell? 7))
  have HD := hid (fun m => s_l02StillAt q.dx q.dy g 8 (w.drewN m) ((R.drewN m).cell? 12) ((R.drewN m).cell? 13))
  have hs : silS q = (decide (loudN q.x q.n = 0) && (stillB q.tx q.ty && stillB q.dx q.dy)) := rfl
  rw [hs]
  go_enter Try.func82, Try.ntmps82
  go_wp2
  go_loopw [3] (fun i wr => ∃ k : Nat, k ≤ q.n ∧ i = .int .i64 k ∧ (∃ m, wr = w.drewN m) ∧ Hid (∀ i, i < k → zeroF (q.x i) = true)) (fun i _ => q.n - (intOf i).toNat)
  case atStart => exact ⟨0, by omega, rfl, ⟨0, rfl⟩, fun i hi => absurd hi (by omega)⟩
  case round =>
    obtain ⟨k, hk, rfl, ⟨m, rfl⟩, HK⟩ := hrel
    by_cases hlt : k < q.n
    · obtain ⟨ck, fk, ek⟩ := HX.out k hlt
      have HZ : Hid (zeroF (y k) = zeroF (q.x k)) := by unfold Hid; rw [← ek, zeroF_can]
      clear ek
      cases hz : zeroF (y k)
      · have HN : Hid (loudN q.x q.n ≠ 0) := by
          intro h
          have := loudN_zero.1 h k hlt
          rw [← HZ.out, hz] at this; cases this
        unfold zeroF at hz
        have h2 : (FloatKind.f32.format.order (y k) 0 != some .eq) = !(FloatKind.f32.format.order (y k) 0 == some .eq) := rfl
        rw [hz] at h2
        replace h2 := h2.trans (show _ = true from rfl)
        go_wp2
        go_ret
        exact ⟨ret_b (by simp [HN.out]), _, rfl⟩
      · have HZ2 : Hid (zeroF (q.x k) = true) := HZ.out.symm.trans hz
        unfold zeroF at hz
        have h2 : (FloatKind.f32.format.order (y k) 0 != some .eq) = !(FloatKind.f32.format.order (y k) 0 == some .eq) := rfl
        rw [hz] at h2
        replace h2 := h2.trans (show _ = false from rfl)
        go_wp2
        go_roundw
        case rel => exact ⟨k + 1, by omega, by go_num, ⟨_, rfl⟩, all_step (p := fun j => zeroF (q.x j) = true) HK.out HZ2.out⟩
        case measure => simp [intOf]; omega
    · obtain rfl : k = q.n := by omega
      have h0 : loudN q.x q.n = 0 := loudN_zero.2 HK.out
      replace h0 := hid h0
      cases h1 : stillB q.tx q.ty
      · rw [h1] at HT
        replace h1 := hid h1
        clear HD hs
        go_wp2_with (first | (go_at_call 57; ((with_reducible refine (HT.out _).mono ?_); rintro e w' ⟨rfl, rfl⟩)))
        go_ret
        exact ⟨ret_b (by simp [h1.out]), _, rfl⟩
      · rw [h1] at HT
        replace h1 := hid h1
        clear hs
        go_wp2_with (first | (go_at_call 57; first | ((with_reducible refine (HT.out _).mono ?_); rintro e w' ⟨rfl, rfl⟩) | ((with_reducible refine (HD.out _).mono ?_); rintro e w' ⟨rfl, rfl⟩)))
        go_ret
        exact ⟨ret_b (by simp [h0.out, h1.out]), _, rfl⟩
set_option maxRecDepth 100000 in
set_option maxHeartbeats 4000000 in
theorem s_IsSilentString_no (B : Nat) (s : Value) (x : Nat → Nat) (n : Nat) (k tk : Int) (ta tb tc tx ty : Nat) (dk : Int) (da db dc dx dy l : Nat) (w : World) (hs : RdS w B s x n) (hk : (Lit.int .i64 k).wf = true) (hv : okStr n k tk ta tb tc tx ty dk da db dc dx dy l = false) :
    Calls Try.prog 43 #[.agg #[s, .int .i64 k, .int .i64 tk, .float .f32 ta, .float .f32 tb, .float .f32 tc, .float .f32 tx, .float .f32 ty, .int .i64 dk, .float .f32 da, .float .f32 db, .float .f32 dc, .float .f32 dx, .float .f32 dy, .float .f32 l]] w (Out_bi false 1 w) := by
  have HV := hid (fun (w' : World) (g : Nat) (hl : le w w') (R : Row w' g 48 #[s, .int .i64 k, .int .i64 tk, .float .f32 ta, .float .f32 tb, .float .f32 tc, .float .f32 tx, .float .f32 ty, .int .i64 dk, .float .f32 da, .float .f32 db, .float .f32 dc, .float .f32 dx, .float .f32 dy, .float .f32 l]) => hv ▸ s_l03Ok B s x n k tk ta tb tc tx ty dk da db dc dx dy l g w' (hs.le hl) R hk)
  clear hs hk hv
  have F := ((Frg.nil w).box 48 #[s, .int .i64 k, .int .i64 tk, .float .f32 ta, .float .f32 tb, .float .f32 tc, .float .f32 tx, .float .f32 ty, .int .i64 dk, .float .f32 da, .float .f32 db, .float .f32 dc, .float .f32 dx, .float .f32 dy, .float .f32 l])
  go_enter Try.func43, Try.ntmps43
  go_wp2_with (first | (go_at_call 61; ((with_reducible refine (HV.out _ _ F.below (F.row (by first | exact m0 | exact m1 | exact m2 | exact m3 | exact m4 | exact m5))).mono ?_); rintro e w1 ⟨rfl, m, rfl⟩; replace F := F.drewN m)))
  go_ret2
  first | exact ⟨rfl, F.below⟩ | exact ⟨rfl, by rw [← World.drewN_drewN]; exact F.below⟩
set_option maxRecDepth 100000 in
set_option maxHeartbeats 4000000 in
theorem s_IsSilentString_yes (B : Nat) (s : Value) (q : StS) (w : World) (hs : RdS w B s q.x q.n) (ok : q.Ok) (hk : (Lit.int .i64 (q.j : Nat)).wf = true) (hv : okStr q.n (q.j : Nat) 3 q.ta q.tb q.tc q.tx q.ty 2 q.da q.db q.dc q.dx q.dy q.l = true) :
    Calls Try.prog 43 #[.agg #[s, .int .i64 (q.j : Nat), .int .i64 3, .float .f32 (q.ta), .float .f32 (q.tb), .float .f32 (q.tc), .float .f32 (q.tx), .float .f32 (q.ty), .int .i64 2, .float .f32 (q.da), .float .f32 (q.db), .float .f32 (q.dc), .float .f32 (q.dx), .float .f32 (q.dy), .float .f32 (q.l)]] w (Out_bi (silS q) 0 w) := by
  have HV := hid (fun (w' : World) (g : Nat) (hl : le w w') (R : Row w' g 48 #[s, .int .i64 (q.j : Nat), .int .i64 3, .float .f32 (q.ta), .float .f32 (q.tb), .float .f32 (q.tc), .float .f32 (q.tx), .float .f32 (q.ty), .int .i64 2, .float .f32 (q.da), .float .f32 (q.db), .float .f32 (q.dc), .float .f32 (q.dx), .float .f32 (q.dy), .float .f32 (q.l)]) => hv ▸ s_l03Ok B s q.x q.n (q.j : Nat) 3 q.ta q.tb q.tc q.tx q.ty 2 q.da q.db q.dc q.dx q.dy q.l g w' (hs.le hl) R hk)
  have HSL := hid (fun (w' : World) (g : Nat) (hl : le w w') (R : Row w' g 48 #[s, .int .i64 (q.j : Nat), .int .i64 3, .float .f32 (q.ta), .float .f32 (q.tb), .float .f32 (q.tc), .float .f32 (q.tx), .float .f32 (q.ty), .int .i64 2, .float .f32 (q.da), .float .f32 (q.db), .float .f32 (q.dc), .float .f32 (q.dx), .float .f32 (q.dy), .float .f32 (q.l)]) => s_l03Silent B s q g w' (hs.le hl) R ok.n1 ok.n2)
  clear hs hk hv ok
  have F := ((Frg.nil w).box 48 #[s, .int .i64 (q.j : Nat), .int .i64 3, .float .f32 (q.ta), .float .f32 (q.tb), .float .f32 (q.tc), .float .f32 (q.tx), .float .f32 (q.ty), .int .i64 2, .float .f32 (q.da), .float .f32 (q.db), .float .f32 (q.dc), .float .f32 (q.dx), .float .f32 (q.dy), .float .f32 (q.l)])
  go_enter Try.func43, Try.ntmps43
  go_wp2_with (first | (go_at_call 61; ((with_reducible refine (HV.out _ _ F.below (F.row (by first | exact m0 | exact m1 | exact m2 | exact m3 | exact m4 | exact m5))).mono ?_); rintro e w1 ⟨rfl, m, rfl⟩; replace F := F.drewN m)) | (go_at_call 82; ((with_reducible refine (HSL.out _ _ F.below (F.row (by first | exact m0 | exact m1 | exact m2 | exact m3 | exact m4 | exact m5))).mono ?_); rintro e w2 ⟨rfl, m2, rfl⟩; replace F := F.drewN m2)))
  go_ret2
  first | exact ⟨rfl, F.below⟩ | exact ⟨rfl, by rw [← World.drewN_drewN]; exact F.below⟩
set_option maxRecDepth 100000 in
set_option maxHeartbeats 4000000 in
theorem i_IsSilentString_no (B : Nat) (s : Value) (x : Nat → Nat) (n : Nat) (k tk : Int) (ta tb tc tx ty : Nat) (dk : Int) (da db dc dx dy l : Nat) (w : World) (hs : RdS w B s x n) (hf : fits .f32 ta ∧ fits .f32 tb ∧ fits .f32 tc ∧ fits .f32 tx ∧ fits .f32 ty) (hg : fits .f32 da ∧ fits .f32 db ∧ fits .f32 dc ∧ fits .f32 dx ∧ fits .f32 dy) (hl2 : fits .f32 l) (hv : okStr n k tk ta tb tc tx ty dk da db dc dx dy l = false) :
    Calls Try.prog 44 #[.agg #[s, .int .i64 k, .int .i64 tk, .float .f32 ta, .float .f32 tb, .float .f32 tc, .float .f32 tx, .float .f32 ty, .int .i64 dk, .float .f32 da, .float .f32 db, .float .f32 dc, .float .f32 dx, .float .f32 dy, .float .f32 l]] w (Out_bi false 1 w) := by
  have HV := hid (fun (w' : World) (hl : le w w') => hv ▸ i_ValidStringR B s x n k tk ta tb tc tx ty dk da db dc dx dy l w' (hs.le hl) hf hg hl2)
  clear hs hv hf hg hl2
  have F := ((Frg.nil w).box 48 #[s, .int .i64 k, .int .i64 tk, .float .f32 ta, .float .f32 tb, .float .f32 tc, .float .f32 tx, .float .f32 ty, .int .i64 dk, .float .f32 da, .float .f32 db, .float .f32 dc, .float .f32 dx, .float .f32 dy, .float .f32 l])
  go_enter Try.func44, Try.ntmps44
  go_wp2_with (first | ((with_reducible refine at_loadU rfl rfl ?_); (with_reducible refine wpList_loadG F rfl rfl rfl (by first | exact m0 | exact m1 | exact m2 | exact m3 | exact m4 | exact m5) Try.underlying48 rfl infoStr rfl ?_)) | (go_at_call 66; ((with_reducible refine (HV.out _ F.below).mono ?_); rintro e w1 ⟨rfl, hl⟩; replace F := F.le hl; clear hl)))
  go_ret2
  first | exact ⟨rfl, F.below⟩ | exact ⟨rfl, by rw [← World.drewN_drewN]; exact F.below⟩
set_option maxRecDepth 100000 in
set_option maxHeartbeats 4000000 in
theorem i_IsSilentString_yes (B : Nat) (s : Value) (q : StS) (w : World) (hs : RdS w B s q.x q.n) (ok : q.Ok) (hv : okStr q.n (q.j : Nat) 3 q.ta q.tb q.tc q.tx q.ty 2 q.da q.db q.dc q.dx q.dy q.l = true) :
    Calls Try.prog 44 #[.agg #[s, .int .i64 (q.j : Nat), .int .i64 3, .float .f32 (q.ta), .float .f32 (q.tb), .float .f32 (q.tc), .float .f32 (q.tx), .float .f32 (q.ty), .int .i64 2, .float .f32 (q.da), .float .f32 (q.db), .float .f32 (q.dc), .float .f32 (q.dx), .float .f32 (q.dy), .float .f32 (q.l)]] w (Out_bi (silS q) 0 w) := by
  have HV := hid (fun (w' : World) (hl : le w w') => hv ▸ i_ValidStringR B s q.x q.n (q.j : Nat) 3 q.ta q.tb q.tc q.tx q.ty 2 q.da q.db q.dc q.dx q.dy q.l w' (hs.le hl) ⟨ok.fta, ok.ftb, ok.ftc, ok.ftx, ok.fty⟩ ⟨ok.fda, ok.fdb, ok.fdc, ok.fdx, ok.fdy⟩ ok.fl)
  have HN := hid (fun (w' : World) (hl : le w w') => i_newLoop B s q w' (hs.le hl) ok)
  clear hs hv ok
  have F := ((Frg.nil w).box 48 #[s, .int .i64 (q.j : Nat), .int .i64 3, .float .f32 (q.ta), .float .f32 (q.tb), .float .f32 (q.tc), .float .f32 (q.tx), .float .f32 (q.ty), .int .i64 2, .float .f32 (q.da), .float .f32 (q.db), .float .f32 (q.dc), .float .f32 (q.dx), .float .f32 (q.dy), .float .f32 (q.l)])
  go_enter Try.func44, Try.ntmps44
  go_wp2_with (first | ((with_reducible refine at_loadU rfl rfl ?_); (with_reducible refine wpList_loadG F rfl rfl rfl (by first | exact m0 | exact m1 | exact m2 | exact m3 | exact m4 | exact m5) Try.underlying48 rfl infoStr rfl ?_)) | (go_at_call 66; ((with_reducible refine (HV.out _ F.below).mono ?_); rintro e w1 ⟨rfl, hl⟩; replace F := F.le hl; clear hl)) | (go_at_call 77; ((with_reducible refine (HN.out _ F.below).mono ?_); rintro e w2 ⟨g, rfl, hlp, hl⟩; replace F := F.push (e := lpF _ _ g q) hl hlp (Nat.le_refl _) (Nat.le_refl _); clear hlp hl)) | (go_at_call 83; ((with_reducible refine (i_loopStill _ _ _ q _ (Frg.lp F m0)).mono ?_); rintro e w4 ⟨rfl, rfl⟩)))
  go_ret2
  first | exact ⟨rfl, F.below⟩ | exact ⟨rfl, by rw [← World.drewN_drewN]; exact F.below⟩
theorem both_IsSilentString (x : Nat → Nat) (n : Nat) (k tk : Int) (ta tb tc tx ty : Nat) (dk : Int) (da db dc dx dy l : Nat) (hw : (Lit.int .i64 k).wf = true ∧ (Lit.int .i64 tk).wf = true ∧ fits .f32 ta ∧ fits .f32 tb ∧ fits .f32 tc ∧ fits .f32 tx ∧ fits .f32 ty ∧ (Lit.int .i64 dk).wf = true ∧ fits .f32 da ∧ fits .f32 db ∧ fits .f32 dc ∧ fits .f32 dx ∧ fits .f32 dy ∧ fits .f32 l) : ∃ (ar0 : Bool) (ar1 : Int), (∀ (w : World) (B : Nat) (u : Value), RdS w B u x n → Calls Try.prog 43 #[.agg #[u, .int .i64 k, .int .i64 tk, .float .f32 ta, .float .f32 tb, .float .f32 tc, .float .f32 tx, .float .f32 ty, .int .i64 dk, .float .f32 da, .float .f32 db, .float .f32 dc, .float .f32 dx, .float .f32 dy, .float .f32 l]] w (Out_bi ar0 ar1 w)) ∧ (∀ (w : World) (B : Nat) (u : Value), RdS w B u x n → Calls Try.prog 44 #[.agg #[u, .int .i64 k, .int .i64 tk, .float .f32 ta, .float .f32 tb, .float .f32 tc, .float .f32 tx, .float .f32 ty, .int .i64 dk, .float .f32 da, .float .f32 db, .float .f32 dc, .float .f32 dx, .float .f32 dy, .float .f32 l]] w (Out_bi ar0 ar1 w)) := by
  obtain ⟨hk, _, h1, h2, h3, h4, h5, _, g1, g2, g3, g4, g5, hl⟩ := hw
  cases hv : okStr n k tk ta tb tc tx ty dk da db dc dx dy l
  · exact ⟨false, 1, fun w B u h => s_IsSilentString_no B u x n k tk ta tb tc tx ty dk da db dc dx dy l w h hk hv, fun w B u h => i_IsSilentString_no B u x n k tk ta tb tc tx ty dk da db dc dx dy l w h ⟨h1, h2, h3, h4, h5⟩ ⟨g1, g2, g3, g4, g5⟩ hl hv⟩
  · obtain ⟨j, rfl, rfl, rfl, ok⟩ := okStr_q (x := x) hv ⟨h1, h2, h3, h4, h5⟩ ⟨g1, g2, g3, g4, g5⟩ hl
    exact ⟨_, _, fun w B u h => s_IsSilentString_yes B u (⟨x, n, j, ta, tb, tc, tx, ty, da, db, dc, dx, dy, l⟩ : StS) w h ok hk hv, fun w B u h => i_IsSilentString_yes B u (⟨x, n, j, ta, tb, tc, tx, ty, da, db, dc, dx, dy, l⟩ : StS) w h ok hv⟩
end Go.Proofs.Ytmacednkpjfokaa

/- 'StepsToStill' of both. -/
namespace Go.Proofs.Ytmacednkpjfokaa
open Go.RowKit Go.Fk
set_option maxHeartbeats 2000000 in
theorem i_leastSteps (k : Int) (a b c x y K g : Nat) (w : World) (hk : 1 ≤ k ∧ k ≤ 5) (hK : K ≤ 100000) (hx : fits .f32 x) (hy : fits .f32 y) (R : Row w g 88 #[mdl k a b c, .float .f32 x, .float .f32 y]) :
    Calls Try.prog 59 #[.iface 82 (.pointer (some ⟨g, 0, none⟩)), .int .i64 K, .int .i64 100000] w fun e w' => ∃ n d, e = .returned (.tuple #[.int .i64 n, .int .i64 d]) ∧ ResST k a b c x y K n d ∧ Upd g w w' := by
  have HK := hid hk
  have HN := hid (fun n => fits_stN (k := k) (a := a) (b := b) (c := c) hx hy n)
  have hK1 : (K : Int) ≤ 100000 := by omega
  have hK0 : 0 ≤ (K : Int) := by omega
  have HR := hid R; clear R hx hy hk
  go_enter Try.func59, Try.ntmps59
  go_wp2_with fail
  go_loopw [18] (fun i wr => ∃ j : Nat, j ≤ K + 1 ∧ i = .int .i64 j ∧ Hid (∀ m, m < j → stillN k a b c x y m = false) ∧ Hid (Row wr g 88 #[mdl k a b c, .float .f32 (stN k a b c x y j).1, .float .f32 (stN k a b c x y j).2]) ∧ Hid (Upd g w wr)) (fun i _ => (K + 1) - (intOf i).toNat)
  case atStart => exact ⟨0, by omega, rfl, fun m hm => absurd hm (by omega), HR.out, Upd.refl g w⟩
  case round =>
    obtain ⟨j, hj, rfl, HJ, RJ, UJ⟩ := hrel
    by_cases hlt : j < K + 1
    · have hlt' : (j : Int) < (K : Int) + 1 := by omega
      cases hs : stillB (stN k a b c x y j).1 (stN k a b c x y j).2
      · have hS := hid (fun w R => i_isStill (mdl k a b c) (stN k a b c x y j).1 (stN k a b c x y j).2 g w R)
        rw [hs] at hS
        replace hs := hid hs
        go_wp2_with (first | (go_at_call 103; ((with_reducible refine (hS.out _ RJ.out).mono ?_); rintro e w3 ⟨rfl, rfl⟩)) | (go_at_call 100; ((with_reducible refine (i_step _ _ _ _ _ _ _ _ _ HK.out RJ.out (HN.out _).1 fits_zero).mono ?_); rintro e w4 ⟨r, rfl, hr, fr, hR, hU⟩; replace RJ := hid hR; replace UJ := hid (UJ.out.trans hU); clear hR hU hr fr)))
        go_roundw
        case rel => exact ⟨j + 1, by omega, by go_num, fun m hm => by rcases Nat.lt_or_ge m j with h | h; exact HJ.out m h; rw [show m = j by omega]; exact hs.out, RJ.out, UJ.out⟩
        case measure => simp [intOf]; omega
      · have hS := hid (fun w R => i_isStill (mdl k a b c) (stN k a b c x y j).1 (stN k a b c x y j).2 g w R)
        rw [hs] at hS
        replace hs := hid hs
        go_wp2_with (first | (go_at_call 103; ((with_reducible refine (hS.out _ RJ.out).mono ?_); rintro e w3 ⟨rfl, rfl⟩)))
        go_ret2
        exact ⟨_, _, rfl, .inl ⟨rfl, j, rfl, by omega, hs.out, HJ.out⟩, UJ.out⟩
    · have hlt' : ¬ (j : Int) < (K : Int) + 1 := by omega
      obtain rfl : j = K + 1 := by omega
      go_wp2
      go_ret2
      exact ⟨_, _, rfl, .inr ⟨rfl, rfl, fun i hi => HJ.out i (by omega)⟩, UJ.out⟩
theorem i_leastSteps_out (v : Value) (m : Int) (w : World) (hm : m < 0 ∨ 100000 < m) :
    Calls Try.prog 59 #[v, .int .i64 m, .int .i64 100000] w fun e w' => e = .returned (.tuple #[.int .i64 0, .int .i64 2]) ∧ w = w' := by
  rcases (show m < 0 ∨ (¬ m < 0 ∧ 100000 < m) by omega) with h | ⟨h, h'⟩
  all_goals
    clear hm
    go_enter Try.func59, Try.ntmps59
    go_wp2
    go_ret2
    exact ⟨rfl, rfl⟩
set_option maxHeartbeats 2000000 in
theorem i_Steps_yes (k : Int) (a b c x y K : Nat) (w : World) (hv : okF k a b c x y = true) (hK : K ≤ 100000) (hf : fits .f32 a ∧ fits .f32 b ∧ fits .f32 c ∧ fits .f32 x ∧ fits .f32 y) :
    Calls Try.prog 20 #[(.agg #[.int .i64 k, .float .f32 a, .float .f32 b, .float .f32 c, .float .f32 x, .float .f32 y]), .int .i64 K] w (OutST k a b c x y K w) := by
  have Hf := hid hf; clear hf
  have hV := hid (fun w => i_ValidFilter k a b c x y w Hf.out)
  have HK := hid (okF_kind hv)
  rw [hv] at hV
  clear hv
  have HL := hid (fun (w : World) (g : Nat) (R : Row w g 88 #[mdl k a b c, .float .f32 x, .float .f32 y]) => i_leastSteps k a b c x y K g w HK.out hK Hf.out.2.2.2.1 Hf.out.2.2.2.2 R)
  have F := (Frm.nil w).box 28 (#[.int .i64 k, .float .f32 a, .float .f32 b, .float .f32 c, .float .f32 x, .float .f32 y] : Array Value)
  go_enter Try.func20, Try.ntmps20
  go_wp2_with (first | ((with_reducible refine at_load rfl ?_); first | (with_reducible refine wpList_loadFr F rfl rfl rfl (by first | exact List.mem_cons_self | exact List.mem_cons_of_mem _ (List.mem_cons_self) | exact List.mem_cons_of_mem _ (List.mem_cons_of_mem _ (List.mem_cons_self)) | exact List.mem_cons_of_mem _ (List.mem_cons_of_mem _ (List.mem_cons_of_mem _ (List.mem_cons_self))) | exact List.mem_cons_of_mem _ (List.mem_cons_of_mem _ (List.mem_cons_of_mem _ (List.mem_cons_of_mem _ (List.mem_cons_self)))) | exact List.mem_cons_of_mem _ (List.mem_cons_of_mem _ (List.mem_cons_of_mem _ (List.mem_cons_of_mem _ (List.mem_cons_of_mem _ (List.mem_cons_self))))) | exact List.mem_cons_of_mem _ (List.mem_cons_of_mem _ (List.mem_cons_of_mem _ (List.mem_cons_of_mem _ (List.mem_cons_of_mem _ (List.mem_cons_of_mem _ (List.mem_cons_self))))))) Try.underlying28 rfl infoFil (by simp [size_ftab]) ?_) | (with_reducible refine wpList_loadFr (F.box _ _) rfl rfl rfl (by first | exact List.mem_cons_self | exact List.mem_cons_of_mem _ (List.mem_cons_self) | exact List.mem_cons_of_mem _ (List.mem_cons_of_mem _ (List.mem_cons_self)) | exact List.mem_cons_of_mem _ (List.mem_cons_of_mem _ (List.mem_cons_of_mem _ (List.mem_cons_self))) | exact List.mem_cons_of_mem _ (List.mem_cons_of_mem _ (List.mem_cons_of_mem _ (List.mem_cons_of_mem _ (List.mem_cons_self)))) | exact List.mem_cons_of_mem _ (List.mem_cons_of_mem _ (List.mem_cons_of_mem _ (List.mem_cons_of_mem _ (List.mem_cons_of_mem _ (List.mem_cons_self))))) | exact List.mem_cons_of_mem _ (List.mem_cons_of_mem _ (List.mem_cons_of_mem _ (List.mem_cons_of_mem _ (List.mem_cons_of_mem _ (List.mem_cons_of_mem _ (List.mem_cons_self))))))) Try.underlying28 rfl infoFil (by simp [size_ftab]) ?_)) | (go_at_call 51; ((with_reducible refine (hV.out _).mono ?_); rintro e w1 ⟨rfl, hb1⟩; replace F := F.le hb1)) | (go_at_call 52; ((with_reducible refine (i_newRunner _ _ _ _ _ _ _ HK.out).mono ?_); rintro e w2 ⟨g, rfl, hg, hR, hl⟩; have hge := hid (Nat.le_trans F.below.size hg); have hle2 := hid (le_trans F.below hl); replace F := hid hR; clear hR hl hg)) | (go_at_call 59; ((with_reducible refine (HL.out _ _ F.out).mono ?_); rintro e w3 ⟨n, d, rfl, hres, hU⟩; replace hres := hid hres; replace hU := hid hU)))
  go_ret2
  exact ⟨_, _, rfl, hres.out, Below.trans hle2.out (hU.out.below hge.out hle2.out.size)⟩
set_option maxHeartbeats 2000000 in
theorem s_Steps_yes (k : Int) (a b c x y K : Nat) (w : World) (hv : okF k a b c x y = true) (hK : K ≤ 100000) (hx : fits .f32 x) (hy : fits .f32 y) :
    Calls Try.prog 19 #[(.agg #[.int .i64 k, .float .f32 a, .float .f32 b, .float .f32 c, .float .f32 x, .float .f32 y]), .int .i64 K] w (OutST k a b c x y K w) := by
  have hV := hid (fun g w (R : Row w g 28 (#[.int .i64 k, .float .f32 a, .float .f32 b, .float .f32 c, .float .f32 x, .float .f32 y] : Array Value)) => s_Ok k a b c x y g w R)
  have HV := hid (fun n => okF_stN hv n)
  have HN := hid (fun n => fits_stN (k := k) (a := a) (b := b) (c := c) hx hy n)
  rw [hv] at hV
  clear hv hx hy
  have hK1 : (K : Int) ≤ 100000 := by omega
  have hK0 : 0 ≤ (K : Int) := by omega
  have hIn : Hid (∀ w, Calls Try.prog 56 #[.int .i64 K, .int .i64 0, .int .i64 100000] w fun e w' => e = .returned (.bool true) ∧ w = w') := fun w => by
    have h := s_In K 0 100000 w
    rwa [show (decide ((0 : Int) ≤ K) && decide ((K : Int) ≤ 100000)) = true by simp only [Bool.and_eq_true, decide_eq_true_eq]; omega] at h
  have F := (Frm.nil w).box 28 (#[.int .i64 k, .float .f32 a, .float .f32 b, .float .f32 c, .float .f32 x, .float .f32 y] : Array Value)
  go_enter Try.func19, Try.ntmps19
  go_wp2_with (first | (go_at_call 47; ((with_reducible refine (hV.out _ _ (F.row List.mem_cons_self)).mono ?_); rintro e w1 ⟨rfl, n1, rfl⟩; replace F := F.drewN n1)) | (go_at_call 56; ((with_reducible refine (hIn.out _).mono ?_); rintro e w1 ⟨rfl, rfl⟩)))
  replace F := hid F
  go_loopw [6] (fun i wr => ∃ j : Nat, j ≤ K + 1 ∧ i = .int .i64 j ∧ Hid (∀ m, m < j → stillN k a b c x y m = false) ∧ Hid (Frm w wr [(w.heap.size, 28, (#[.int .i64 k, .float .f32 a, .float .f32 b, .float .f32 c, .float .f32 (stN k a b c x y j).1, .float .f32 (stN k a b c x y j).2] : Array Value))])) (fun i _ => (K + 1) - (intOf i).toNat)
  case atStart => exact ⟨0, by omega, rfl, fun m hm => absurd hm (by omega), F⟩
  case round =>
    obtain ⟨j, hj, rfl, HJ, FJ⟩ := hrel
    clear F
    by_cases hlt : j ≤ K
    · have hjK : (j : Int) ≤ K := by omega
      cases hs : stillB (stN k a b c x y j).1 (stN k a b c x y j).2
      · have hS := hid (fun w R => s_l02Still k a b c (stN k a b c x y j).1 (stN k a b c x y j).2 w.heap.size w R)
        have hS := hid (fun w g R => s_l02Still k a b c (stN k a b c x y j).1 (stN k a b c x y j).2 g w R)
        rw [hs] at hS
        replace hs := hid hs
        go_wp2_with (first | (go_at_call 57; ((with_reducible refine (hS.out _ _ (FJ.out.row List.mem_cons_self)).mono ?_); rintro e w3 ⟨rfl, rfl⟩)) | (go_at_call 58; ((with_reducible refine (s_Step _ _ _ _ _ _ _ _ _ (HV.out _) (FJ.out.row List.mem_cons_self) (HN.out _).1 fits_zero).mono ?_); rintro e w3 ⟨r, rfl, _, _, hR, hU⟩; replace FJ := hid (FJ.out.upd hR hU (Nat.le_refl _) (L' := []) (by simp)); clear hR hU)))
        go_roundw
        case rel => exact ⟨j + 1, by omega, by go_num, fun m hm => by rcases Nat.lt_or_ge m j with h | h; exact HJ.out m h; rw [show m = j by omega]; exact hs.out, FJ⟩
        case measure => simp [intOf]; omega
      · have hS := hid (fun w g R => s_l02Still k a b c (stN k a b c x y j).1 (stN k a b c x y j).2 g w R)
        rw [hs] at hS
        replace hs := hid hs
        go_wp2_with (first | (go_at_call 57; ((with_reducible refine (hS.out _ _ (FJ.out.row List.mem_cons_self)).mono ?_); rintro e w3 ⟨rfl, rfl⟩)))
        go_ret2
        exact ⟨_, _, rfl, .inl ⟨rfl, j, rfl, by omega, hs.out, HJ.out⟩, FJ.out.below⟩
    · have hjK : ¬ (j : Int) ≤ K := by omega
      obtain rfl : j = K + 1 := by omega
      go_wp2
      go_ret2
      exact ⟨_, _, rfl, .inr ⟨rfl, rfl, fun i hi => HJ.out i (by omega)⟩, FJ.out.below⟩
set_option maxHeartbeats 1000000 in
theorem i_Steps_no (k : Int) (a b c x y : Nat) (m : Int) (w : World) (hv : okF k a b c x y = false) (hf : fits .f32 a ∧ fits .f32 b ∧ fits .f32 c ∧ fits .f32 x ∧ fits .f32 y) :
    Calls Try.prog 20 #[(.agg #[.int .i64 k, .float .f32 a, .float .f32 b, .float .f32 c, .float .f32 x, .float .f32 y]), .int .i64 m] w fun e w' => e = .returned (.tuple #[.int .i64 0, .int .i64 1]) ∧ le w w' := by
  have Hf := hid hf; clear hf
  have hV := hid (fun w => i_ValidFilter k a b c x y w Hf.out)
  rw [hv] at hV
  clear hv
  have F := (Frm.nil w).box 28 (#[.int .i64 k, .float .f32 a, .float .f32 b, .float .f32 c, .float .f32 x, .float .f32 y] : Array Value)
  go_enter Try.func20, Try.ntmps20
  go_wp2_with (first | ((with_reducible refine at_load rfl ?_); first | (with_reducible refine wpList_loadFr F rfl rfl rfl (by first | exact List.mem_cons_self | exact List.mem_cons_of_mem _ (List.mem_cons_self) | exact List.mem_cons_of_mem _ (List.mem_cons_of_mem _ (List.mem_cons_self)) | exact List.mem_cons_of_mem _ (List.mem_cons_of_mem _ (List.mem_cons_of_mem _ (List.mem_cons_self))) | exact List.mem_cons_of_mem _ (List.mem_cons_of_mem _ (List.mem_cons_of_mem _ (List.mem_cons_of_mem _ (List.mem_cons_self)))) | exact List.mem_cons_of_mem _ (List.mem_cons_of_mem _ (List.mem_cons_of_mem _ (List.mem_cons_of_mem _ (List.mem_cons_of_mem _ (List.mem_cons_self))))) | exact List.mem_cons_of_mem _ (List.mem_cons_of_mem _ (List.mem_cons_of_mem _ (List.mem_cons_of_mem _ (List.mem_cons_of_mem _ (List.mem_cons_of_mem _ (List.mem_cons_self))))))) Try.underlying28 rfl infoFil (by simp [size_ftab]) ?_) | (with_reducible refine wpList_loadFr (F.box _ _) rfl rfl rfl (by first | exact List.mem_cons_self | exact List.mem_cons_of_mem _ (List.mem_cons_self) | exact List.mem_cons_of_mem _ (List.mem_cons_of_mem _ (List.mem_cons_self)) | exact List.mem_cons_of_mem _ (List.mem_cons_of_mem _ (List.mem_cons_of_mem _ (List.mem_cons_self))) | exact List.mem_cons_of_mem _ (List.mem_cons_of_mem _ (List.mem_cons_of_mem _ (List.mem_cons_of_mem _ (List.mem_cons_self)))) | exact List.mem_cons_of_mem _ (List.mem_cons_of_mem _ (List.mem_cons_of_mem _ (List.mem_cons_of_mem _ (List.mem_cons_of_mem _ (List.mem_cons_self))))) | exact List.mem_cons_of_mem _ (List.mem_cons_of_mem _ (List.mem_cons_of_mem _ (List.mem_cons_of_mem _ (List.mem_cons_of_mem _ (List.mem_cons_of_mem _ (List.mem_cons_self))))))) Try.underlying28 rfl infoFil (by simp [size_ftab]) ?_)) | (go_at_call 51; ((with_reducible refine (hV.out _).mono ?_); rintro e w1 ⟨rfl, hb1⟩; replace F := F.le hb1)))
  go_ret2
  exact ⟨rfl, F.below⟩
set_option maxHeartbeats 1000000 in
theorem i_Steps_out (k : Int) (a b c x y : Nat) (m : Int) (w : World) (hv : okF k a b c x y = true) (hm : m < 0 ∨ 100000 < m) (hf : fits .f32 a ∧ fits .f32 b ∧ fits .f32 c ∧ fits .f32 x ∧ fits .f32 y) :
    Calls Try.prog 20 #[(.agg #[.int .i64 k, .float .f32 a, .float .f32 b, .float .f32 c, .float .f32 x, .float .f32 y]), .int .i64 m] w fun e w' => e = .returned (.tuple #[.int .i64 0, .int .i64 2]) ∧ le w w' := by
  have Hf := hid hf; clear hf
  have hV := hid (fun w => i_ValidFilter k a b c x y w Hf.out)
  have hk := okF_kind hv
  rw [hv] at hV
  clear hv
  have F := (Frm.nil w).box 28 (#[.int .i64 k, .float .f32 a, .float .f32 b, .float .f32 c, .float .f32 x, .float .f32 y] : Array Value)
  have HK := hid hk
  have HL := hid (fun (v : Value) (w : World) => i_leastSteps_out v m w hm)
  clear hm hk
  go_enter Try.func20, Try.ntmps20
  go_wp2_with (first | ((with_reducible refine at_load rfl ?_); first | (with_reducible refine wpList_loadFr F rfl rfl rfl (by first | exact List.mem_cons_self | exact List.mem_cons_of_mem _ (List.mem_cons_self) | exact List.mem_cons_of_mem _ (List.mem_cons_of_mem _ (List.mem_cons_self)) | exact List.mem_cons_of_mem _ (List.mem_cons_of_mem _ (List.mem_cons_of_mem _ (List.mem_cons_self))) | exact List.mem_cons_of_mem _ (List.mem_cons_of_mem _ (List.mem_cons_of_mem _ (List.mem_cons_of_mem _ (List.mem_cons_self)))) | exact List.mem_cons_of_mem _ (List.mem_cons_of_mem _ (List.mem_cons_of_mem _ (List.mem_cons_of_mem _ (List.mem_cons_of_mem _ (List.mem_cons_self))))) | exact List.mem_cons_of_mem _ (List.mem_cons_of_mem _ (List.mem_cons_of_mem _ (List.mem_cons_of_mem _ (List.mem_cons_of_mem _ (List.mem_cons_of_mem _ (List.mem_cons_self))))))) Try.underlying28 rfl infoFil (by simp [size_ftab]) ?_) | (with_reducible refine wpList_loadFr (F.box _ _) rfl rfl rfl (by first | exact List.mem_cons_self | exact List.mem_cons_of_mem _ (List.mem_cons_self) | exact List.mem_cons_of_mem _ (List.mem_cons_of_mem _ (List.mem_cons_self)) | exact List.mem_cons_of_mem _ (List.mem_cons_of_mem _ (List.mem_cons_of_mem _ (List.mem_cons_self))) | exact List.mem_cons_of_mem _ (List.mem_cons_of_mem _ (List.mem_cons_of_mem _ (List.mem_cons_of_mem _ (List.mem_cons_self)))) | exact List.mem_cons_of_mem _ (List.mem_cons_of_mem _ (List.mem_cons_of_mem _ (List.mem_cons_of_mem _ (List.mem_cons_of_mem _ (List.mem_cons_self))))) | exact List.mem_cons_of_mem _ (List.mem_cons_of_mem _ (List.mem_cons_of_mem _ (List.mem_cons_of_mem _ (List.mem_cons_of_mem _ (List.mem_cons_of_mem _ (List.mem_cons_self))))))) Try.underlying28 rfl infoFil (by simp [size_ftab]) ?_)) | (go_at_call 51; ((with_reducible refine (hV.out _).mono ?_); rintro e w1 ⟨rfl, hb1⟩; replace F := F.le hb1)) | (go_at_call 52; ((with_reducible refine (i_newRunner _ _ _ _ _ _ _ HK.out).mono ?_); rintro e w2 ⟨g, rfl, hg, hR, hl⟩; replace F := F.le hl; clear hR hl hg)) | (go_at_call 59; ((with_reducible refine (HL.out _ _).mono ?_); rintro e w3 ⟨rfl, rfl⟩)))
  go_ret2
  exact ⟨rfl, F.below⟩
set_option maxHeartbeats 1000000 in
theorem s_Steps_no (k : Int) (a b c x y : Nat) (m : Int) (w : World) (hv : okF k a b c x y = false) :
    Calls Try.prog 19 #[(.agg #[.int .i64 k, .float .f32 a, .float .f32 b, .float .f32 c, .float .f32 x, .float .f32 y]), .int .i64 m] w fun e w' => e = .returned (.tuple #[.int .i64 0, .int .i64 1]) ∧ le w w' := by
  have hV := hid (fun g w (R : Row w g 28 (#[.int .i64 k, .float .f32 a, .float .f32 b, .float .f32 c, .float .f32 x, .float .f32 y] : Array Value)) => s_Ok k a b c x y g w R)
  rw [hv] at hV
  clear hv
  have F := (Frm.nil w).box 28 (#[.int .i64 k, .float .f32 a, .float .f32 b, .float .f32 c, .float .f32 x, .float .f32 y] : Array Value)
  go_enter Try.func19, Try.ntmps19
  go_wp2_with (first | (go_at_call 47; ((with_reducible refine (hV.out _ _ (F.row List.mem_cons_self)).mono ?_); rintro e w1 ⟨rfl, n1, rfl⟩; replace F := F.drewN n1)))
  go_ret2
  exact ⟨rfl, F.below⟩
set_option maxHeartbeats 1000000 in
theorem s_Steps_out (k : Int) (a b c x y : Nat) (m : Int) (w : World) (hv : okF k a b c x y = true) (hm : m < 0 ∨ 100000 < m) :
    Calls Try.prog 19 #[(.agg #[.int .i64 k, .float .f32 a, .float .f32 b, .float .f32 c, .float .f32 x, .float .f32 y]), .int .i64 m] w fun e w' => e = .returned (.tuple #[.int .i64 0, .int .i64 2]) ∧ le w w' := by
  have hV := hid (fun g w (R : Row w g 28 (#[.int .i64 k, .float .f32 a, .float .f32 b, .float .f32 c, .float .f32 x, .float .f32 y] : Array Value)) => s_Ok k a b c x y g w R)
  rw [hv] at hV
  clear hv
  have hIn : Hid (∀ w, Calls Try.prog 56 #[.int .i64 m, .int .i64 0, .int .i64 100000] w fun e w' => e = .returned (.bool false) ∧ w = w') := fun w => by
    have h := s_In m 0 100000 w
    rwa [show (decide ((0 : Int) ≤ m) && decide (m ≤ 100000)) = false by simp only [Bool.and_eq_false_iff, decide_eq_false_iff_not]; omega] at h
  have F := (Frm.nil w).box 28 (#[.int .i64 k, .float .f32 a, .float .f32 b, .float .f32 c, .float .f32 x, .float .f32 y] : Array Value)
  clear hm
  go_enter Try.func19, Try.ntmps19
  go_wp2_with (first | (go_at_call 47; ((with_reducible refine (hV.out _ _ (F.row List.mem_cons_self)).mono ?_); rintro e w1 ⟨rfl, n1, rfl⟩; replace F := F.drewN n1)) | (go_at_call 56; ((with_reducible refine (hIn.out _).mono ?_); rintro e w1 ⟨rfl, rfl⟩)))
  go_ret2
  exact ⟨rfl, F.below⟩
end Go.Proofs.Ytmacednkpjfokaa
