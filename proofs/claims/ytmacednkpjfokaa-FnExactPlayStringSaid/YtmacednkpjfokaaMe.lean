/- Texts of the walk, laid in one file. -/
import Derived.OwnWalk
import Derived.Test.YtmacednkpjfokaaMd
set_option linter.unusedVariables false
set_option linter.unusedSimpArgs false
/- Loops of the program: strings that go on. -/
namespace Go.Fk
open Go Go.RowKit
theorem qRing (s : Value) (q : StS) : ∀ j, j < [s, Value.int .i64 (q.j : Nat)].length → (#[s, .int .i64 (q.j : Nat), .int .i64 3, .float .f32 (q.ta), .float .f32 (q.tb), .float .f32 (q.tc), .float .f32 (q.tx), .float .f32 (q.ty), .int .i64 2, .float .f32 (q.da), .float .f32 (q.db), .float .f32 (q.dc), .float .f32 (q.dx), .float .f32 (q.dy), .float .f32 (q.l)] : Array Value)[0 + j]? = [s, Value.int .i64 (q.j : Nat)][j]? := part_at [] [s, .int .i64 (q.j : Nat)] _ 0 rfl
theorem qTune (s : Value) (q : StS) : ∀ j, j < [Value.int .i64 3, .float .f32 q.ta, .float .f32 q.tb, .float .f32 q.tc, .float .f32 q.tx, .float .f32 q.ty].length → (#[s, .int .i64 (q.j : Nat), .int .i64 3, .float .f32 (q.ta), .float .f32 (q.tb), .float .f32 (q.tc), .float .f32 (q.tx), .float .f32 (q.ty), .int .i64 2, .float .f32 (q.da), .float .f32 (q.db), .float .f32 (q.dc), .float .f32 (q.dx), .float .f32 (q.dy), .float .f32 (q.l)] : Array Value)[2 + j]? = [Value.int .i64 3, .float .f32 q.ta, .float .f32 q.tb, .float .f32 q.tc, .float .f32 q.tx, .float .f32 q.ty][j]? := part_at [s, .int .i64 (q.j : Nat)] _ _ 2 rfl
theorem qDamp (s : Value) (q : StS) : ∀ j, j < [Value.int .i64 2, .float .f32 q.da, .float .f32 q.db, .float .f32 q.dc, .float .f32 q.dx, .float .f32 q.dy].length → (#[s, .int .i64 (q.j : Nat), .int .i64 3, .float .f32 (q.ta), .float .f32 (q.tb), .float .f32 (q.tc), .float .f32 (q.tx), .float .f32 (q.ty), .int .i64 2, .float .f32 (q.da), .float .f32 (q.db), .float .f32 (q.dc), .float .f32 (q.dx), .float .f32 (q.dy), .float .f32 (q.l)] : Array Value)[8 + j]? = [Value.int .i64 2, .float .f32 q.da, .float .f32 q.db, .float .f32 q.dc, .float .f32 q.dx, .float .f32 q.dy][j]? := part_at [s, .int .i64 (q.j : Nat), .int .i64 3, .float .f32 q.ta, .float .f32 q.tb, .float .f32 q.tc, .float .f32 q.tx, .float .f32 q.ty] _ _ 8 rfl
end Go.Fk
namespace Go.Proofs.Ytmacednkpjfokaa
open Go.RowKit Go.Fk
/-- A loop: a string that goes on; all its blocks lie from B to C. -/
def LpS (w : World) (B C g : Nat) (q : StS) : Prop := ∃ (s : Value) (lo hi rt rd : Nat), Row w g 137 #[s, .int .i64 (q.j : Nat), .int .i64 (loudN q.x q.n : Nat), .pointer (some ⟨rt, 0, none⟩), .pointer (some ⟨rd, 0, none⟩), .float .f32 q.l] ∧ OwnS w lo hi s q.x q.n ∧ Row w rt 88 #[mdl 3 q.ta q.tb q.tc, .float .f32 (q.tx), .float .f32 (q.ty)] ∧ Row w rd 88 #[mdl 2 q.da q.db q.dc, .float .f32 (q.dx), .float .f32 (q.dy)] ∧
  (B ≤ g ∧ g < C ∧ B ≤ rt ∧ rt < C ∧ B ≤ rd ∧ rd < C ∧ B ≤ lo ∧ hi ≤ C) ∧ (g ≠ rt ∧ g ≠ rd ∧ rt ≠ rd ∧ ¬ (lo ≤ g ∧ g < hi) ∧ ¬ (lo ≤ rt ∧ rt < hi) ∧ ¬ (lo ≤ rd ∧ rd < hi))
def OutLS (B C g : Nat) (q : StS) (a : Nat) (w : World) (e : Ending) (w' : World) : Prop := ∃ o, e = .returned (.float .f32 o) ∧ can .f32 o = q.x q.j ∧ fits .f32 o ∧ LpS w' B C g (stepS q a) ∧ Chg (rng B C) w w'
theorem lpPart (s : Value) (q : StS) (rt rd : Nat) : ∀ j, j < [s, Value.int .i64 (q.j : Nat)].length → (#[s, .int .i64 (q.j : Nat), .int .i64 (loudN q.x q.n : Nat), .pointer (some ⟨rt, 0, none⟩), .pointer (some ⟨rd, 0, none⟩), .float .f32 q.l] : Array Value)[0 + j]? = [s, Value.int .i64 (q.j : Nat)][j]? := part_at [] [s, .int .i64 (q.j : Nat)] _ 0 rfl
set_option maxRecDepth 100000 in
set_option maxHeartbeats 4000000 in
theorem i_loopStep (B C g : Nat) (q : StS) (a : Nat) (w : World) (h : LpS w B C g q) (ok : q.Ok) (ha : fits .f32 a) :
    Calls Try.prog 78 #[.pointer (some ⟨g, 0, none⟩), .float .f32 a] w (OutLS B C g q a w) := by
  obtain ⟨s, lo, hi, rt, rd, R, O, RT, RD, ⟨b1, b2, b3, b4, b5, b6, b7, b8⟩, d1, d2, d3, d4, d5, d6⟩ := h
  have HO := hid (fun (w' : World) (hl : le w w') => i_oldest hi s q.x q.n q.j w' (O.rd.le hl) ok.j1 ok.n2)
  rcases O with ⟨rfl, h0⟩ | ⟨b, o, cap, ds, rfl, hc, hm, hb, hb', hrow, hx⟩
  · have := ok.n1; omega
  have OO : Hid (OwnS w lo hi (.slice (some ⟨b, o, none⟩) q.n cap) q.x q.n) := .inr ⟨b, o, cap, ds, rfl, hc, hm, hb, hb', hrow, hx⟩
  have j1 := ok.j1
  have n2 := ok.n2
  have OK := hid ok
  have HR := hid R; have HRT := hid RT; have HRD := hid RD
  clear R RT RD hrow hx ok
  unfold maxLen at hm
  go_enter Try.func78, Try.ntmps78
  go_wp2_with (first | ((with_reducible refine at_loadU rfl rfl ?_); (with_reducible refine wpList_loadPR HR.out rfl rfl rfl Try.underlying46 rfl [.slice (some ⟨b, o, none⟩) q.n cap, .int .i64 (q.j : Nat)] (lpPart _ q rt rd) infoRing rfl ?_)) | (go_at_call 99; ((with_reducible refine (HO.out _ (le_refl _)).mono ?_); rintro e w1 ⟨y, rfl, cy, fy, hl⟩; have HL1 := hid hl; have HC := hid cy; clear hl cy)))
  have R1 := hid (HR.out.le HL1.out)
  have R1d : Hid (Row w1.drew g 137 #[(.slice (some ⟨b, o, none⟩) q.n cap), .int .i64 (q.j : Nat), .int .i64 (loudN q.x q.n : Nat), .pointer (some ⟨rt, 0, none⟩), .pointer (some ⟨rd, 0, none⟩), .float .f32 q.l]) := R1.out.drewN 1
  have T1 : Hid (Row w1.drew rt 88 #[mdl 3 q.ta q.tb q.tc, .float .f32 (q.tx), .float .f32 (q.ty)]) := (HRT.out.le HL1.out).drewN 1
  have D1 : Hid (Row w1.drew rd 88 #[mdl 2 q.da q.db q.dc, .float .f32 (q.dx), .float .f32 (q.dy)]) := (HRD.out.le HL1.out).drewN 1
  have HCY : Hid (can .f32 y = can .f32 (q.x q.j)) := by unfold Hid; rw [← HC.out, can_can]
  have c2 := R1.out.cell? 3
  have c3 := R1.out.cell? 4
  go_region_with (go_at_call 100; first | ((with_reducible refine (i_step 3 q.ta q.tb q.tc q.tx q.ty y rt _ ⟨by decide, by decide⟩ T1.out OK.out.ftx fy).mono ?_); rintro e w2 ⟨r1, rfl, hr1, fr1, hR1, hU1⟩; rw [st0_congr HCY.out, st1_congr HCY.out] at hR1; have T2 := hid hR1; have HC1 : Hid (can .f32 r1 = can .f32 (y1S q)) := (hr1.trans ((outF_congr HCY.out).trans (can_outF _ _ _ _ _ _ _).symm)); have U1 := hid (chg_upd hU1); have D2 := hid (U1.out.row D1.out (Ne.symm d3)); have c3w := (U1.out.row R1d.out d1).cell? 4; clear hR1 hr1 hU1) | ((with_reducible refine (i_step 2 q.da q.db q.dc q.dx q.dy r1 rd _ ⟨by decide, by decide⟩ D2.out OK.out.fdx fr1).mono ?_); rintro e w3 ⟨r2, rfl, hr2, fr2, hR2, hU2⟩; rw [st0_congr HC1.out, st1_congr HC1.out] at hR2; have D3 := hid hR2; have HC2 : Hid (can .f32 r2 = y2S q) := (hr2.trans (outF_congr HC1.out)); have U2 := hid (chg_upd hU2); have T3 := hid (U2.out.row T2.out d3); clear hR2 hr2 hU2))
  all_goals
    go_simp
    have UU : Hid (Chg (fun i => i = rt ∨ i = rd) w w3) := (Chg.of_le (le_trans HL1.out (le_drewN w1 1))).trans ((U1.out.mono (fun i h => .inl h)).trans (U2.out.mono (fun i h => .inr h)))
    have R3 := hid (UU.out.row HR.out (by rintro (h | h); exact d1 h; exact d2 h))
    have O3 := hid (OwnS.chgS OO.out UU.out (fun i h1 h2 h3 => by rcases h3 with h3 | h3; (subst h3; exact d5 ⟨h1, h2⟩); (subst h3; exact d6 ⟨h1, h2⟩)))
    clear U1 U2 T1 D1 T2 D2 R1 R1d c3w HR HRT HRD OO HO c2 c3
    have c5 := R3.out.cell? 5
    have HN := hid (fun r2 p r => @next_of q a r2 p r)
    go_wp2_with fail
    refine wp_region_tail (fun _ _ _ => True) 11 (by kernel_rfl) (by kernel_rfl) ?_; simp only [List.take_succ_cons, List.take_zero, List.drop_succ_cons, List.drop_zero]
    repeat (first | (with_reducible refine wpLoose_farith rfl rfl rfl rfl rfl ?_; intro r hr hf; simp only [Act.put, List.setIfInBounds_toArray, List.set_cons_succ, List.set_cons_zero]) | (refine wpLoose_quiet rfl ?_; go_big_quiet_step (fail); refine wpQuiet_nil ?_) | (refine wpLoose_nilP rfl rfl rfl ?_; simp only [Act.put, List.setIfInBounds_toArray, List.set_cons_succ, List.set_cons_zero]))
    refine wpLoose_nil (fun m => ?_)
    clear c5
    go_wp2_with (go_at_call 101; ((with_reducible refine (i_come lo hi (.slice (some ⟨b, o, none⟩) q.n cap) q.x q.n q.j _ g 0 _ _ _ (O3.out.le (le_drewN _ _)) (R3.out.drewN _) rfl rfl rfl d4 j1 n2 hf.out).mono ?_); rintro e w5 ⟨⟨v5, rfl⟩, hR4, hO4, hU4⟩; replace hR4 := hid hR4; replace hO4 := hid hO4; replace hU4 := hid hU4))
    have HK : Hid (kept r = nextS q a) := HN.out _ _ _ HC2.out (Hid.out ‹Hid (can .f32 _ = fop .mul .f32 r2 q.l)›) hr.out
    have EX : comeX q.x q.j r = (stepS q a).x := by unfold comeX; rw [HK.out]; rfl
    go_ret
    replace hR4 := hR4.out
    replace hO4 := hO4.out
    rw [EX] at hR4 hO4
    refine ⟨y, rfl, HC.out, fy, ⟨(.slice (some ⟨b, o, none⟩) q.n cap), lo, hi, rt, rd, ?_, hO4, ?_, ?_, ⟨b1, b2, b3, b4, b5, b6, b7, b8⟩, d1, d2, d3, d4, d5, d6⟩, ?_⟩
    · simpa [stepS] using hR4
    · exact hU4.out.row (T3.out.drewN _) (by rintro (h | h); exact d1 h.symm; exact d5 h)
    · exact hU4.out.row (D3.out.drewN _) (by rintro (h | h); exact d2 h.symm; exact d6 h)
    · refine ((UU.out.le (le_drewN _ _)).mono (fun i hi' => ?_)).trans (hU4.out.mono (fun i hi' => ?_))
      · rcases hi' with h | h
        · subst h; exact ⟨b3, b4⟩
        · subst h; exact ⟨b5, b6⟩
      · rcases hi' with h | h
        · subst h; exact ⟨b1, b2⟩
        · exact ⟨by omega, by omega⟩
set_option maxRecDepth 100000 in
set_option maxHeartbeats 4000000 in
theorem i_newLoop (B : Nat) (s : Value) (q : StS) (w : World) (hs : RdS w B s q.x q.n) (ok : q.Ok) :
    Calls Try.prog 77 #[.agg #[s, .int .i64 (q.j : Nat), .int .i64 3, .float .f32 (q.ta), .float .f32 (q.tb), .float .f32 (q.tc), .float .f32 (q.tx), .float .f32 (q.ty), .int .i64 2, .float .f32 (q.da), .float .f32 (q.db), .float .f32 (q.dc), .float .f32 (q.dx), .float .f32 (q.dy), .float .f32 (q.l)]] w fun e w' => ∃ g, e = .returned (.pointer (some ⟨g, 0, none⟩)) ∧ LpS w' w.heap.size w'.heap.size g q ∧ le w w' := by
  have HS := hid hs; clear hs
  have n1 := ok.n1
  have n2 := ok.n2
  have OK := hid ok; clear ok
  have G := (Frg.nil w).box 48 #[s, .int .i64 (q.j : Nat), .int .i64 3, .float .f32 (q.ta), .float .f32 (q.tb), .float .f32 (q.tc), .float .f32 (q.tx), .float .f32 (q.ty), .int .i64 2, .float .f32 (q.da), .float .f32 (q.db), .float .f32 (q.dc), .float .f32 (q.dx), .float .f32 (q.dy), .float .f32 (q.l)]
  have F0 := (Frm.nil w).box 48 #[s, .int .i64 (q.j : Nat), .int .i64 3, .float .f32 (q.ta), .float .f32 (q.tb), .float .f32 (q.tc), .float .f32 (q.tx), .float .f32 (q.ty), .int .i64 2, .float .f32 (q.da), .float .f32 (q.db), .float .f32 (q.dc), .float .f32 (q.dx), .float .f32 (q.dy), .float .f32 (q.l)]
  go_enter Try.func77, Try.ntmps77
  go_wp2_with fail
  obtain ⟨W, hW⟩ : ∃ W, W = w.alloc (.cells #[s, .int .i64 (q.j : Nat), .int .i64 3, .float .f32 (q.ta), .float .f32 (q.tb), .float .f32 (q.tc), .float .f32 (q.tx), .float .f32 (q.ty), .int .i64 2, .float .f32 (q.da), .float .f32 (q.db), .float .f32 (q.dc), .float .f32 (q.dx), .float .f32 (q.dy), .float .f32 (q.l)] 48) := ⟨_, rfl⟩
  rw [← hW] at G F0 ⊢
  clear hW
  have F := F0.drewN 1
  have G1 := G.drewN 1
  refine region_tail (fun f args w' v => if f = 98 then (∃ q0 o0 cap cs, v = .agg #[.slice (some ⟨q0, o0, none⟩) q.n cap, .int .i64 (q.j : Nat), .int .i64 (loudN q.x q.n : Nat)] ∧ w.heap.size ≤ q0 ∧ Row w' q0 22 cs ∧ OwnS w' q0 (q0 + 1) (.slice (some ⟨q0, o0, none⟩) q.n cap) q.x q.n) else (∀ k a b c x y, args = #[(.agg #[.int .i64 k, .float .f32 a, .float .f32 b, .float .f32 c, .float .f32 x, .float .f32 y])] → ∃ b0, v = .pointer (some ⟨b0, 0, none⟩) ∧ w.heap.size ≤ b0 ∧ Row w' b0 88 #[mdl k a b c, .float .f32 x, .float .f32 y])) 12 (by kernel_rfl) (by kernel_rfl) ?_
  simp only [List.take_succ_cons, List.take_zero, List.drop_succ_cons, List.drop_zero]
  refine wpFree_one rfl (.pointer (some ⟨w.heap.size, 0, none⟩)) (fun w1 _ => by kernel_rfl) ?_
  simp only [Act.put, List.setIfInBounds_toArray, List.set_cons_succ, List.set_cons_zero]
  refine wpFree_loadPart F (n := 0) rfl rfl rfl rfl List.mem_cons_self Try.underlying46 rfl [s, .int .i64 (q.j : Nat)] (qRing s q) infoRing ?_
  simp only [Act.put, List.setIfInBounds_toArray, List.set_cons_succ, List.set_cons_zero]
  refine wpFree_call rfl rfl Try.func98 (by kernel_rfl) (by kernel_rfl) (args := #[.agg #[s, .int .i64 (q.j : Nat)]]) (by simp [Act.eval]) (fun v w1 w2 hw hv => by simp only [if_true] at hv ⊢; obtain ⟨q0, o0, cap, cs, e1, e2, e3, e4⟩ := hv; exact ⟨q0, o0, cap, cs, e1, e2, e3.le hw, e4.le hw⟩) (fun w1 hw1 => (i_newDelay B s q.x q.n _ w1 (HS.out.le (le_trans G1.below hw1)) n1 n2).mono ?_) ?_
  · rintro e w2 ⟨s', rfl, ho, hl⟩
    rcases ho with ⟨_, h0⟩ | ⟨q0, o0, cap, cs, rfl, hc, hm, hq, hq', hr, hx⟩
    · omega
    exact ⟨_, rfl, hl, by simp only [if_true]; exact ⟨q0, o0, cap, cs, rfl, Nat.le_trans G1.below.size (Nat.le_trans hw1.size hq), hr, .inr ⟨q0, o0, cap, cs, rfl, hc, hm, Nat.le_refl _, Nat.lt_succ_self _, hr, hx⟩⟩⟩
  rintro v ⟨_, _, hv⟩
  simp only [if_true] at hv
  obtain ⟨q0, o0, cap, cs, rfl, hq0, _⟩ := hv
  simp only [Act.put, List.setIfInBounds_toArray, List.set_cons_succ, List.set_cons_zero]
  refine wpFree_one rfl (.pointer (some ⟨w.heap.size, 2, none⟩)) (fun w1 _ => by kernel_rfl) ?_
  simp only [Act.put, List.setIfInBounds_toArray, List.set_cons_succ, List.set_cons_zero]
  refine wpFree_loadPart F (n := 0) rfl rfl rfl rfl List.mem_cons_self Try.underlying28 rfl [.int .i64 3, .float .f32 q.ta, .float .f32 q.tb, .float .f32 q.tc, .float .f32 q.tx, .float .f32 q.ty] (qTune s q) infoFil ?_
  simp only [Act.put, List.setIfInBounds_toArray, List.set_cons_succ, List.set_cons_zero]
  refine wpFree_call rfl rfl Try.func52 (by kernel_rfl) (by kernel_rfl) (args := #[(.agg #[.int .i64 3, .float .f32 q.ta, .float .f32 q.tb, .float .f32 q.tc, .float .f32 q.tx, .float .f32 q.ty])]) (by simp [Act.eval]) (fun v w1 w2 hw hv => by simp only [show ¬ (52 = 98) by decide, if_false] at hv ⊢; intro k a b c x y e; obtain ⟨b0, e1, e2, e3⟩ := hv k a b c x y e; exact ⟨b0, e1, e2, e3.le hw⟩) (fun w1 hw1 => (i_newRunner 3 q.ta q.tb q.tc q.tx q.ty w1 ⟨by decide, by decide⟩).mono ?_) ?_
  · rintro e w2 ⟨b0, rfl, hb, hr, hl⟩
    refine ⟨_, rfl, hl, ?_⟩
    simp only [show ¬ (52 = 98) by decide, if_false]
    intro k a b c x y e
    simp only [Array.mk.injEq, List.cons.injEq, Value.agg.injEq, Value.int.injEq, Value.float.injEq, true_and, and_true] at e
    obtain ⟨rfl, rfl, rfl, rfl, rfl, rfl⟩ := e
    exact ⟨b0, rfl, Nat.le_trans G1.below.size (Nat.le_trans hw1.size hb), hr⟩
  rintro v ⟨_, _, hv⟩
  simp only [show ¬ (52 = 98) by decide, if_false] at hv
  obtain ⟨rt, rfl, _⟩ := hv _ _ _ _ _ _ rfl
  simp only [Act.put, List.setIfInBounds_toArray, List.set_cons_succ, List.set_cons_zero]
  refine wpFree_one rfl (.pointer (some ⟨w.heap.size, 8, none⟩)) (fun w1 _ => by kernel_rfl) ?_
  simp only [Act.put, List.setIfInBounds_toArray, List.set_cons_succ, List.set_cons_zero]
  refine wpFree_loadPart F (n := 0) rfl rfl rfl rfl List.mem_cons_self Try.underlying28 rfl [.int .i64 2, .float .f32 q.da, .float .f32 q.db, .float .f32 q.dc, .float .f32 q.dx, .float .f32 q.dy] (qDamp s q) infoFil ?_
  simp only [Act.put, List.setIfInBounds_toArray, List.set_cons_succ, List.set_cons_zero]
  refine wpFree_call rfl rfl Try.func52 (by kernel_rfl) (by kernel_rfl) (args := #[(.agg #[.int .i64 2, .float .f32 q.da, .float .f32 q.db, .float .f32 q.dc, .float .f32 q.dx, .float .f32 q.dy])]) (by simp [Act.eval]) (fun v w1 w2 hw hv => by simp only [show ¬ (52 = 98) by decide, if_false] at hv ⊢; intro k a b c x y e; obtain ⟨b0, e1, e2, e3⟩ := hv k a b c x y e; exact ⟨b0, e1, e2, e3.le hw⟩) (fun w1 hw1 => (i_newRunner 2 q.da q.db q.dc q.dx q.dy w1 ⟨by decide, by decide⟩).mono ?_) ?_
  · rintro e w2 ⟨b0, rfl, hb, hr, hl⟩
    refine ⟨_, rfl, hl, ?_⟩
    simp only [show ¬ (52 = 98) by decide, if_false]
    intro k a b c x y e
    simp only [Array.mk.injEq, List.cons.injEq, Value.agg.injEq, Value.int.injEq, Value.float.injEq, true_and, and_true] at e
    obtain ⟨rfl, rfl, rfl, rfl, rfl, rfl⟩ := e
    exact ⟨b0, rfl, Nat.le_trans G1.below.size (Nat.le_trans hw1.size hb), hr⟩
  rintro v ⟨_, _, hv⟩
  simp only [show ¬ (52 = 98) by decide, if_false] at hv
  obtain ⟨rd, rfl, _⟩ := hv _ _ _ _ _ _ rfl
  simp only [Act.put, List.setIfInBounds_toArray, List.set_cons_succ, List.set_cons_zero]
  refine wpFree_one rfl (.pointer (some ⟨w.heap.size, 14, none⟩)) (fun w1 _ => by kernel_rfl) ?_
  simp only [Act.put, List.setIfInBounds_toArray, List.set_cons_succ, List.set_cons_zero]
  refine wpFree_loadF F (n := 0) rfl rfl rfl rfl List.mem_cons_self rfl Try.underlying22 ?_
  simp only [Act.put, List.setIfInBounds_toArray, List.set_cons_succ, List.set_cons_zero]
  refine wpFree_one rfl (.agg #[.slice (some ⟨q0, o0, none⟩) q.n cap, .int .i64 (q.j : Nat), .int .i64 (loudN q.x q.n : Nat), .pointer (some ⟨rt, 0, none⟩), .pointer (some ⟨rd, 0, none⟩), .float .f32 q.l]) (fun w1 _ => by kernel_rfl) ?_
  simp only [Act.put, List.setIfInBounds_toArray, List.set_cons_succ, List.set_cons_zero]
  refine wpFree_nil (fun w3 hw3 hF => ?_)
  obtain ⟨⟨⟨_, K1⟩, K2⟩, K3⟩ := hF
  simp only [if_true] at K1
  simp only [show ¬ (52 = 98) by decide, if_false] at K2 K3
  obtain ⟨q1, o1, cap1, cs1, e1, _, hr1, ho1⟩ := K1
  simp only [Value.agg.injEq, Array.mk.injEq, List.cons.injEq, Value.slice.injEq, Option.some.injEq, Addr.mk.injEq, and_true, true_and] at e1
  obtain ⟨⟨rfl, rfl⟩, rfl⟩ := e1
  obtain ⟨rt1, e2, hrt, hT⟩ := K2 _ _ _ _ _ _ rfl
  obtain rfl : rt = rt1 := by simpa using e2
  obtain ⟨rd1, e3, hrd, hD⟩ := K3 _ _ _ _ _ _ rfl
  obtain rfl : rd = rd1 := by simpa using e3
  have hle := hid (le_trans G1.below hw3)
  have ne1 : q0 ≠ rt := by intro e; subst e; unfold Row at hr1 hT; rw [hr1] at hT; simp at hT
  have ne2 : q0 ≠ rd := by intro e; subst e; unfold Row at hr1 hD; rw [hr1] at hD; simp at hD
  have ne3 : rt ≠ rd := by intro e; subst e; rw [mdl3] at hT; rw [mdl2] at hD; unfold Row at hT hD; rw [hT] at hD; simp at hD
  have x1 := hr1.lt; have x2 := hT.lt; have x3 := hD.lt
  have HO := hid ho1; have HT := hid hT; have HD := hid hD
  clear ho1 hT hD hr1 G G1 F F0 hw3 K2 K3
  go_wp2
  go_ret
  have hg : w.heap.size ≤ w3.heap.size := hle.out.size
  have hl4 := le_trans hle.out (le_alloc w3 (.cells #[.slice (some ⟨q0, o0, none⟩) q.n cap, .int .i64 (q.j : Nat), .int .i64 (loudN q.x q.n : Nat), .pointer (some ⟨rt, 0, none⟩), .pointer (some ⟨rd, 0, none⟩), .float .f32 q.l] 137))
  refine ⟨w3.heap.size, rfl, ⟨(.slice (some ⟨q0, o0, none⟩) q.n cap), q0, q0 + 1, rt, rd, Row.new _ _ _, HO.out.le (le_alloc w3 _), HT.out.le (le_alloc w3 _), HD.out.le (le_alloc w3 _), ⟨hg, by simp, hrt, by simp; omega, hrd, by simp; omega, hq0, by simp; omega⟩, by omega, by omega, ne3, by omega, by omega, by omega⟩, hl4⟩
theorem rPart (v0 v1 v2 : Value) : ∀ j, j < [v1, v2].length → (#[v0, v1, v2] : Array Value)[1 + j]? = [v1, v2][j]? := part12
set_option maxRecDepth 100000 in
set_option maxHeartbeats 2000000 in
theorem i_behind (B C g : Nat) (q : StS) (s0 : Value) (j0 : Int) (tx0 ty0 dx0 dy0 : Nat) (w : World) (h : LpS w B C g q) :
    Calls Try.prog 79 #[.pointer (some ⟨g, 0, none⟩), .agg #[s0, .int .i64 j0, .int .i64 3, .float .f32 q.ta, .float .f32 q.tb, .float .f32 q.tc, .float .f32 (tx0), .float .f32 (ty0), .int .i64 2, .float .f32 q.da, .float .f32 q.db, .float .f32 q.dc, .float .f32 (dx0), .float .f32 (dy0), .float .f32 q.l]] w fun e w' => ∃ s lo hi, e = .returned (.agg #[s, .int .i64 (q.j : Nat), .int .i64 3, .float .f32 (q.ta), .float .f32 (q.tb), .float .f32 (q.tc), .float .f32 (q.tx), .float .f32 (q.ty), .int .i64 2, .float .f32 (q.da), .float .f32 (q.db), .float .f32 (q.dc), .float .f32 (q.dx), .float .f32 (q.dy), .float .f32 (q.l)]) ∧ OwnS w' lo hi s q.x q.n ∧ B ≤ lo ∧ hi ≤ C ∧ le w w' := by
  obtain ⟨s, lo, hi, rt, rd, R, O, RT, RD, ⟨b1, b2, b3, b4, b5, b6, b7, b8⟩, d1, d2, d3, d4, d5, d6⟩ := h
  have OC := hid (OwnS.one O)
  have HR := hid R; have HRT := hid RT; have HRD := hid RD; have HO := hid O
  clear R RT RD O
  have F := ((Frg.nil w).box 48 #[s0, .int .i64 j0, .int .i64 3, .float .f32 q.ta, .float .f32 q.tb, .float .f32 q.tc, .float .f32 (tx0), .float .f32 (ty0), .int .i64 2, .float .f32 q.da, .float .f32 q.db, .float .f32 q.dc, .float .f32 (dx0), .float .f32 (dy0), .float .f32 q.l]).box 48 #[.slice none 0 0, .int .i64 0, .int .i64 0, .float .f32 0, .float .f32 0, .float .f32 0, .float .f32 (0), .float .f32 (0), .int .i64 0, .float .f32 0, .float .f32 0, .float .f32 0, .float .f32 (0), .float .f32 (0), .float .f32 0]
  simp only [World.size_alloc] at F
  go_enter Try.func79, Try.ntmps79
  go_wp2_with (first | ((with_reducible refine at_loadU rfl rfl ?_); (with_reducible refine wpList_loadPR (HR.out.le F.below) rfl rfl rfl Try.underlying46 rfl [s, .int .i64 (q.j : Nat)] (lpPart _ q rt rd) infoRing rfl ?_)) | ((with_reducible refine stop_store rfl ?_)))
  show wpList _ _ _ _ _ _
  refine wpList_storeP rfl rfl rfl (f := 0) (cells := [s, .int .i64 (q.j : Nat)]) rfl (F.row m1) infoRing (by simp) (one_head OC.out rfl) (fun w2 K => ?_)
  replace F := F.wr1 (cs' := #[s, .int .i64 (q.j : Nat), .int .i64 3, .float .f32 q.ta, .float .f32 q.tb, .float .f32 q.tc, .float .f32 (tx0), .float .f32 (ty0), .int .i64 2, .float .f32 q.da, .float .f32 q.db, .float .f32 q.dc, .float .f32 (dx0), .float .f32 (dy0), .float .f32 q.l]) K
  clear K
  have c2 := (HR.out.le F.below).cell? 3
  go_wp2_with (first | ((with_reducible refine at_loadU rfl rfl ?_); (with_reducible refine wpList_loadPR (HRT.out.le F.below) rfl rfl rfl Try.underlying24 rfl [.float .f32 q.tx, .float .f32 q.ty] (rPart _ _ _) info2 rfl ?_)) | ((with_reducible refine stop_store rfl ?_)))
  show wpList _ _ _ _ _ _
  refine wpList_storeP rfl rfl rfl (f := 6) (cells := [.float .f32 q.tx, .float .f32 q.ty]) rfl (F.row m1) info2 (by simp) (by simp [Value.oneCell']) (fun w3 K => ?_)
  replace F := F.wr1 (cs' := #[s, .int .i64 (q.j : Nat), .int .i64 3, .float .f32 q.ta, .float .f32 q.tb, .float .f32 q.tc, .float .f32 (q.tx), .float .f32 (q.ty), .int .i64 2, .float .f32 q.da, .float .f32 q.db, .float .f32 q.dc, .float .f32 (dx0), .float .f32 (dy0), .float .f32 q.l]) K
  clear K c2
  have c3 := (HR.out.le F.below).cell? 4
  go_wp2_with (first | ((with_reducible refine at_loadU rfl rfl ?_); (with_reducible refine wpList_loadPR (HRD.out.le F.below) rfl rfl rfl Try.underlying24 rfl [.float .f32 q.dx, .float .f32 q.dy] (rPart _ _ _) info2 rfl ?_)) | ((with_reducible refine stop_store rfl ?_)))
  show wpList _ _ _ _ _ _
  refine wpList_storeP rfl rfl rfl (f := 12) (cells := [.float .f32 q.dx, .float .f32 q.dy]) rfl (F.row m1) info2 (by simp) (by simp [Value.oneCell']) (fun w4 K => ?_)
  replace F := F.wr1 (cs' := #[s, .int .i64 (q.j : Nat), .int .i64 3, .float .f32 (q.ta), .float .f32 (q.tb), .float .f32 (q.tc), .float .f32 (q.tx), .float .f32 (q.ty), .int .i64 2, .float .f32 (q.da), .float .f32 (q.db), .float .f32 (q.dc), .float .f32 (q.dx), .float .f32 (q.dy), .float .f32 (q.l)]) K
  clear K c3
  go_wp2_with (first | ((with_reducible refine at_loadU rfl rfl ?_); (with_reducible refine wpList_loadG F rfl rfl rfl m1 Try.underlying48 rfl infoStr rfl ?_)) | ((with_reducible refine stop_store rfl ?_)))
  show wpList _ _ _ _ _ _
  refine wpList_storeD rfl rfl rfl (cells := #[s, .int .i64 (q.j : Nat), .int .i64 3, .float .f32 (q.ta), .float .f32 (q.tb), .float .f32 (q.tc), .float .f32 (q.tx), .float .f32 (q.ty), .int .i64 2, .float .f32 (q.da), .float .f32 (q.db), .float .f32 (q.dc), .float .f32 (q.dx), .float .f32 (q.dy), .float .f32 (q.l)]) rfl (F.row m0) infoStr rfl (one_head OC.out rfl) (fun w5 K => ?_)
  have RW := hid K.row
  have L := hid (F.wr0 K).below
  clear K F
  go_wp2
  exact bodyPost_ret (results_row1 rfl _ _ _ _ _ rfl RW.out Try.underlying48 rfl infoStr) rfl ⟨s, lo, hi, rfl, HO.out.le L.out, b7, b8, L.out⟩
set_option maxRecDepth 100000 in
theorem i_delaySilent (g f m : Nat) (t : TypeId) (cs : Array Value) (w : World) (R : Row w g t cs) (e : cs[f + 2]? = some (.int .i64 (m : Nat))) : Calls Try.prog 102 #[.pointer (some ⟨g, f, none⟩)] w fun e w' => e = .returned (.bool (decide (m = 0))) ∧ w = w' := by
  have c := (R.cell? (f + 2)).trans e
  by_cases h0 : m = 0
  · subst h0
    go_enter Try.func102, Try.ntmps102
    go_wp2
    go_ret
    exact ⟨rfl, rfl⟩
  · have E := hid (show decide (m = 0) = false from decide_eq_false h0)
    have h0' : ¬ ((m : Nat) : Int) = 0 := by omega
    rw [E.out]
    go_enter Try.func102, Try.ntmps102
    go_wp2
    go_ret
    exact ⟨ret_b (by simpa using h0), rfl⟩
set_option maxRecDepth 100000 in
set_option maxHeartbeats 2000000 in
theorem i_loopStill (B C g : Nat) (q : StS) (w : World) (h : LpS w B C g q) :
    Calls Try.prog 83 #[.pointer (some ⟨g, 0, none⟩)] w fun e w' => e = .returned (.bool (silS q)) ∧ w = w' := by
  obtain ⟨s, lo, hi, rt, rd, R, O, RT, RD, _, _⟩ := h
  have HT := hid (i_isStill _ _ _ _ _ RT)
  have HD := hid (i_isStill _ _ _ _ _ RD)
  have c3 := R.cell? 3
  have c4 := R.cell? 4
  have HSI := hid (i_delaySilent g 0 (loudN q.x q.n) _ _ w R rfl)
  clear R O RT RD
  have hs : silS q = (decide (loudN q.x q.n = 0) && (stillB q.tx q.ty && stillB q.dx q.dy)) := rfl
  rw [hs]
  by_cases h0 : loudN q.x q.n = 0
  · rw [decide_eq_true h0] at HSI
    cases h1 : stillB q.tx q.ty
    · rw [h1] at HT
      clear h1 HD hs
      go_enter Try.func83, Try.ntmps83
      go_wp2_with (first | (go_at_call 102; ((with_reducible refine (HSI.out).mono ?_); rintro e w' ⟨rfl, rfl⟩)) | (go_at_call 103; ((with_reducible refine (HT.out).mono ?_); rintro e w' ⟨rfl, rfl⟩)))
      go_ret
      exact ⟨ret_b (by simp), rfl⟩
    · rw [h1] at HT
      clear h1 hs
      go_enter Try.func83, Try.ntmps83
      go_wp2_with (first | (go_at_call 102; ((with_reducible refine (HSI.out).mono ?_); rintro e w' ⟨rfl, rfl⟩)) | (go_at_call 103; ((with_reducible refine (HT.out).mono ?_); rintro e w' ⟨rfl, rfl⟩)) | (go_at_call 103; ((with_reducible refine (HD.out).mono ?_); rintro e w' ⟨rfl, rfl⟩)))
      go_ret
      exact ⟨ret_b (by simp [h0]), rfl⟩
  · rw [decide_eq_false h0] at HSI
    clear hs HT HD
    go_enter Try.func83, Try.ntmps83
    go_wp2_with (first | (go_at_call 102; ((with_reducible refine (HSI.out).mono ?_); rintro e w' ⟨rfl, rfl⟩)))
    go_ret
    exact ⟨ret_b (by simp [h0]), rfl⟩
end Go.Proofs.Ytmacednkpjfokaa

/- 'ValidString' of both. -/
namespace Go.Fk
open Go Go.RowKit
/-- Is a string valid? -/
def okStr (n : Nat) (k tk : Int) (ta tb tc tx ty : Nat) (dk : Int) (da db dc dx dy l : Nat) : Bool := okRing n k && (okF tk ta tb tc tx ty && (decide (tk = 3) && (okF dk da db dc dx dy && (decide (dk = 2) && fin l))))
theorem inTune (s : Value) (k tk : Int) (ta tb tc tx ty : Nat) (dk : Int) (da db dc dx dy l : Nat) : FilIn #[s, .int .i64 k, .int .i64 tk, .float .f32 ta, .float .f32 tb, .float .f32 tc, .float .f32 tx, .float .f32 ty, .int .i64 dk, .float .f32 da, .float .f32 db, .float .f32 dc, .float .f32 dx, .float .f32 dy, .float .f32 l] 2 tk ta tb tc tx ty := ⟨rfl, rfl, rfl, rfl, rfl, rfl⟩
theorem inDamp (s : Value) (k tk : Int) (ta tb tc tx ty : Nat) (dk : Int) (da db dc dx dy l : Nat) : FilIn #[s, .int .i64 k, .int .i64 tk, .float .f32 ta, .float .f32 tb, .float .f32 tc, .float .f32 tx, .float .f32 ty, .int .i64 dk, .float .f32 da, .float .f32 db, .float .f32 dc, .float .f32 dx, .float .f32 dy, .float .f32 l] 8 dk da db dc dx dy := ⟨rfl, rfl, rfl, rfl, rfl, rfl⟩
end Go.Fk
namespace Go.Proofs.Ytmacednkpjfokaa
open Go.RowKit Go.Fk
set_option maxRecDepth 100000 in
set_option maxHeartbeats 2000000 in
theorem s_l03Ok (B : Nat) (s : Value) (x : Nat → Nat) (n : Nat) (k tk : Int) (ta tb tc tx ty : Nat) (dk : Int) (da db dc dx dy l : Nat) (g : Nat) (w : World) (hs : RdS w B s x n) (R : Row w g 48 #[s, .int .i64 k, .int .i64 tk, .float .f32 ta, .float .f32 tb, .float .f32 tc, .float .f32 tx, .float .f32 ty, .int .i64 dk, .float .f32 da, .float .f32 db, .float .f32 dc, .float .f32 dx, .float .f32 dy, .float .f32 l]) (hk : (Lit.int .i64 k).wf = true) :
    Calls Try.prog 61 #[.pointer (some ⟨g, 0, none⟩)] w fun e w' => e = .returned (.bool (okStr n k tk ta tb tc tx ty dk da db dc dx dy l)) ∧ ∃ m, w' = w.drewN m := by
  have G0 := s_l02RingR B s x n k g 0 w hs (R.cell? 0) (R.cell? 1) hk
  have G1 := fun (w1 : World) (R1 : Row w1 g 48 #[s, .int .i64 k, .int .i64 tk, .float .f32 ta, .float .f32 tb, .float .f32 tc, .float .f32 tx, .float .f32 ty, .int .i64 dk, .float .f32 da, .float .f32 db, .float .f32 dc, .float .f32 dx, .float .f32 dy, .float .f32 l]) => s_OkAt tk ta tb tc tx ty g 2 w1 ((inTune s k tk ta tb tc tx ty dk da db dc dx dy l).at R1)
  have G3 := fun (w1 : World) (R1 : Row w1 g 48 #[s, .int .i64 k, .int .i64 tk, .float .f32 ta, .float .f32 tb, .float .f32 tc, .float .f32 tx, .float .f32 ty, .int .i64 dk, .float .f32 da, .float .f32 db, .float .f32 dc, .float .f32 dx, .float .f32 dy, .float .f32 l]) => s_OkAt dk da db dc dx dy g 8 w1 ((inDamp s k tk ta tb tc tx ty dk da db dc dx dy l).at R1)
  have G5 := fun (w1 : World) => s_l01Finite l w1
  have c2 := R.cell? 2
  have c8 := R.cell? 8
  have c14 := R.cell? 14
  have RR := hid R
  clear hs R hk
  cases h1 : okRing n k
  · have HZ : Hid (okStr n k tk ta tb tc tx ty dk da db dc dx dy l = false) := by unfold Hid okStr; simp only [h1, Bool.and_true, Bool.and_false, Bool.true_and, Bool.false_and]
    rw [h1] at G0; have H0 := hid G0; clear G0
    clear h1
    clear G1
    clear G3
    clear G5
    go_enter Try.func61, Try.ntmps61
    go_wp2_with (first | (go_at_call 91; ((with_reducible refine (H0.out).mono ?_); rintro e w1 ⟨rfl, rfl⟩)) | (go_at_call 47; ((with_reducible refine (H1.out _ (by first | exact RR.out | exact RR.out.drewN _)).mono ?_); rintro e w1 ⟨rfl, n1, rfl⟩)) | (go_at_call 47; ((with_reducible refine (H3.out _ (by first | exact RR.out | exact RR.out.drewN _)).mono ?_); rintro e w1 ⟨rfl, n1, rfl⟩)) | (go_at_call 62; ((with_reducible refine (H5.out _).mono ?_); rintro e w1 ⟨rfl, n1, rfl⟩)))
    go_ret
    exact ⟨ret_b HZ.out.symm, by first | exact ⟨_, rfl⟩ | exact ⟨0, rfl⟩⟩
  · skip
    cases h2 : okF tk ta tb tc tx ty
    · have HZ : Hid (okStr n k tk ta tb tc tx ty dk da db dc dx dy l = false) := by unfold Hid okStr; simp only [h1, h2, Bool.and_true, Bool.and_false, Bool.true_and, Bool.false_and]
      rw [h1] at G0; have H0 := hid G0; clear G0
      rw [h2] at G1; have H1 := hid G1; clear G1
      clear h1 h2
      clear G3
      clear G5
      go_enter Try.func61, Try.ntmps61
      go_wp2_with (first | (go_at_call 91; ((with_reducible refine (H0.out).mono ?_); rintro e w1 ⟨rfl, rfl⟩)) | (go_at_call 47; ((with_reducible refine (H1.out _ (by first | exact RR.out | exact RR.out.drewN _)).mono ?_); rintro e w1 ⟨rfl, n1, rfl⟩)) | (go_at_call 47; ((with_reducible refine (H3.out _ (by first | exact RR.out | exact RR.out.drewN _)).mono ?_); rintro e w1 ⟨rfl, n1, rfl⟩)) | (go_at_call 62; ((with_reducible refine (H5.out _).mono ?_); rintro e w1 ⟨rfl, n1, rfl⟩)))
      go_ret
      exact ⟨ret_b HZ.out.symm, by first | exact ⟨_, rfl⟩ | exact ⟨0, rfl⟩⟩
    · skip
      cases h3 : decide (tk = 3)
      · have HZ : Hid (okStr n k tk ta tb tc tx ty dk da db dc dx dy l = false) := by unfold Hid okStr; simp only [h1, h2, h3, Bool.and_true, Bool.and_false, Bool.true_and, Bool.false_and]
        rw [h1] at G0; have H0 := hid G0; clear G0
        rw [h2] at G1; have H1 := hid G1; clear G1
        have e3 : ¬ tk = 3 := of_decide_eq_false h3
        clear h1 h2 h3
        clear G3
        clear G5
        go_enter Try.func61, Try.ntmps61
        go_wp2_with (first | (go_at_call 91; ((with_reducible refine (H0.out).mono ?_); rintro e w1 ⟨rfl, rfl⟩)) | (go_at_call 47; ((with_reducible refine (H1.out _ (by first | exact RR.out | exact RR.out.drewN _)).mono ?_); rintro e w1 ⟨rfl, n1, rfl⟩)) | (go_at_call 47; ((with_reducible refine (H3.out _ (by first | exact RR.out | exact RR.out.drewN _)).mono ?_); rintro e w1 ⟨rfl, n1, rfl⟩)) | (go_at_call 62; ((with_reducible refine (H5.out _).mono ?_); rintro e w1 ⟨rfl, n1, rfl⟩)))
        go_ret
        exact ⟨ret_b HZ.out.symm, by first | exact ⟨_, rfl⟩ | exact ⟨0, rfl⟩⟩
      · skip
        cases h4 : okF dk da db dc dx dy
        · have HZ : Hid (okStr n k tk ta tb tc tx ty dk da db dc dx dy l = false) := by unfold Hid okStr; simp only [h1, h2, h3, h4, Bool.and_true, Bool.and_false, Bool.true_and, Bool.false_and]
          rw [h1] at G0; have H0 := hid G0; clear G0
          rw [h2] at G1; have H1 := hid G1; clear G1
          have e3 : (tk == 3) = true := by simpa using h3
          rw [h4] at G3; have H3 := hid G3; clear G3
          clear h1 h2 h3 h4
          clear G5
          go_enter Try.func61, Try.ntmps61
          go_wp2_with (first | (go_at_call 91; ((with_reducible refine (H0.out).mono ?_); rintro e w1 ⟨rfl, rfl⟩)) | (go_at_call 47; ((with_reducible refine (H1.out _ (by first | exact RR.out | exact RR.out.drewN _)).mono ?_); rintro e w1 ⟨rfl, n1, rfl⟩)) | (go_at_call 47; ((with_reducible refine (H3.out _ (by first | exact RR.out | exact RR.out.drewN _)).mono ?_); rintro e w1 ⟨rfl, n1, rfl⟩)) | (go_at_call 62; ((with_reducible refine (H5.out _).mono ?_); rintro e w1 ⟨rfl, n1, rfl⟩)))
          go_ret
          exact ⟨ret_b HZ.out.symm, by first | exact ⟨_, rfl⟩ | exact ⟨0, rfl⟩⟩
        · skip
          cases h5 : decide (dk = 2)
          · have HZ : Hid (okStr n k tk ta tb tc tx ty dk da db dc dx dy l = false) := by unfold Hid okStr; simp only [h1, h2, h3, h4, h5, Bool.and_true, Bool.and_false, Bool.true_and, Bool.false_and]
            rw [h1] at G0; have H0 := hid G0; clear G0
            rw [h2] at G1; have H1 := hid G1; clear G1
            have e3 : (tk == 3) = true := by simpa using h3
            rw [h4] at G3; have H3 := hid G3; clear G3
            have e5 : ¬ dk = 2 := of_decide_eq_false h5
            clear h1 h2 h3 h4 h5
            clear G5
            go_enter Try.func61, Try.ntmps61
            go_wp2_with (first | (go_at_call 91; ((with_reducible refine (H0.out).mono ?_); rintro e w1 ⟨rfl, rfl⟩)) | (go_at_call 47; ((with_reducible refine (H1.out _ (by first | exact RR.out | exact RR.out.drewN _)).mono ?_); rintro e w1 ⟨rfl, n1, rfl⟩)) | (go_at_call 47; ((with_reducible refine (H3.out _ (by first | exact RR.out | exact RR.out.drewN _)).mono ?_); rintro e w1 ⟨rfl, n1, rfl⟩)) | (go_at_call 62; ((with_reducible refine (H5.out _).mono ?_); rintro e w1 ⟨rfl, n1, rfl⟩)))
            go_ret
            exact ⟨ret_b HZ.out.symm, by first | exact ⟨_, rfl⟩ | exact ⟨0, rfl⟩⟩
          · skip
            cases h6 : fin l
            · have HZ : Hid (okStr n k tk ta tb tc tx ty dk da db dc dx dy l = false) := by unfold Hid okStr; simp only [h1, h2, h3, h4, h5, h6, Bool.and_true, Bool.and_false, Bool.true_and, Bool.false_and]
              rw [h1] at G0; have H0 := hid G0; clear G0
              rw [h2] at G1; have H1 := hid G1; clear G1
              have e3 : (tk == 3) = true := by simpa using h3
              rw [h4] at G3; have H3 := hid G3; clear G3
              have e5 : (dk == 2) = true := by simpa using h5
              rw [h6] at G5; have H5 := hid G5; clear G5
              clear h1 h2 h3 h4 h5 h6
              go_enter Try.func61, Try.ntmps61
              go_wp2_with (first | (go_at_call 91; ((with_reducible refine (H0.out).mono ?_); rintro e w1 ⟨rfl, rfl⟩)) | (go_at_call 47; ((with_reducible refine (H1.out _ (by first | exact RR.out | exact RR.out.drewN _)).mono ?_); rintro e w1 ⟨rfl, n1, rfl⟩)) | (go_at_call 47; ((with_reducible refine (H3.out _ (by first | exact RR.out | exact RR.out.drewN _)).mono ?_); rintro e w1 ⟨rfl, n1, rfl⟩)) | (go_at_call 62; ((with_reducible refine (H5.out _).mono ?_); rintro e w1 ⟨rfl, n1, rfl⟩)))
              go_ret
              exact ⟨ret_b HZ.out.symm, by first | exact ⟨_, rfl⟩ | exact ⟨0, rfl⟩⟩
            · skip
              have HZ : Hid (okStr n k tk ta tb tc tx ty dk da db dc dx dy l = true) := by unfold Hid okStr; simp only [h1, h2, h3, h4, h5, h6, Bool.and_true, Bool.and_false, Bool.true_and, Bool.false_and]
              rw [h1] at G0; have H0 := hid G0; clear G0
              rw [h2] at G1; have H1 := hid G1; clear G1
              have e3 : (tk == 3) = true := by simpa using h3
              rw [h4] at G3; have H3 := hid G3; clear G3
              have e5 : (dk == 2) = true := by simpa using h5
              rw [h6] at G5; have H5 := hid G5; clear G5
              clear h1 h2 h3 h4 h5 h6
              go_enter Try.func61, Try.ntmps61
              go_wp2_with (first | (go_at_call 91; ((with_reducible refine (H0.out).mono ?_); rintro e w1 ⟨rfl, rfl⟩)) | (go_at_call 47; ((with_reducible refine (H1.out _ (by first | exact RR.out | exact RR.out.drewN _)).mono ?_); rintro e w1 ⟨rfl, n1, rfl⟩)) | (go_at_call 47; ((with_reducible refine (H3.out _ (by first | exact RR.out | exact RR.out.drewN _)).mono ?_); rintro e w1 ⟨rfl, n1, rfl⟩)) | (go_at_call 62; ((with_reducible refine (H5.out _).mono ?_); rintro e w1 ⟨rfl, n1, rfl⟩)))
              go_ret
              exact ⟨ret_b HZ.out.symm, by first | exact ⟨_, rfl⟩ | exact ⟨0, rfl⟩⟩
set_option maxRecDepth 100000 in
set_option maxHeartbeats 2000000 in
theorem i_ValidStringR (B : Nat) (s : Value) (x : Nat → Nat) (n : Nat) (k tk : Int) (ta tb tc tx ty : Nat) (dk : Int) (da db dc dx dy l : Nat) (w : World) (hs : RdS w B s x n) (hf : fits .f32 ta ∧ fits .f32 tb ∧ fits .f32 tc ∧ fits .f32 tx ∧ fits .f32 ty) (hg : fits .f32 da ∧ fits .f32 db ∧ fits .f32 dc ∧ fits .f32 dx ∧ fits .f32 dy) (hl : fits .f32 l) :
    Calls Try.prog 66 #[.agg #[s, .int .i64 k, .int .i64 tk, .float .f32 ta, .float .f32 tb, .float .f32 tc, .float .f32 tx, .float .f32 ty, .int .i64 dk, .float .f32 da, .float .f32 db, .float .f32 dc, .float .f32 dx, .float .f32 dy, .float .f32 l]] w (Out_b (okStr n k tk ta tb tc tx ty dk da db dc dx dy l) w) := by
  have G0 := fun (w1 : World) (h : le w w1) => i_ValidRingR B s x n k w1 (hs.le h)
  have G1 := fun (w1 : World) => i_ValidFilter tk ta tb tc tx ty w1 hf
  have G3 := fun (w1 : World) => i_ValidFilter dk da db dc dx dy w1 hg
  have G5 := fun (w1 : World) => i_isFinite l w1 hl
  have F := (Frg.nil w).box 48 #[s, .int .i64 k, .int .i64 tk, .float .f32 ta, .float .f32 tb, .float .f32 tc, .float .f32 tx, .float .f32 ty, .int .i64 dk, .float .f32 da, .float .f32 db, .float .f32 dc, .float .f32 dx, .float .f32 dy, .float .f32 l]
  clear hs hf hg hl
  cases h1 : okRing n k
  · have HZ : Hid (okStr n k tk ta tb tc tx ty dk da db dc dx dy l = false) := by unfold Hid okStr; simp only [h1, Bool.and_true, Bool.and_false, Bool.true_and, Bool.false_and]
    rw [h1] at G0; have H0 := hid G0; clear G0
    clear h1
    clear G1
    clear G3
    clear G5
    have c2 := (F.row m0).cell? 2; have c8 := (F.row m0).cell? 8; have c14 := (F.row m0).cell? 14
    go_enter Try.func66, Try.ntmps66
    go_wp2_with (first | ((with_reducible refine at_loadU rfl rfl ?_); first | (with_reducible refine wpList_loadGP F rfl rfl rfl m0 Try.underlying46 rfl [s, .int .i64 k] (strRing s k tk ta tb tc tx ty dk da db dc dx dy l) infoRing rfl ?_) | (with_reducible refine wpList_loadGP F rfl rfl rfl m0 Try.underlying28 rfl [.int .i64 tk, .float .f32 ta, .float .f32 tb, .float .f32 tc, .float .f32 tx, .float .f32 ty] (strTune s k tk ta tb tc tx ty dk da db dc dx dy l) infoFil rfl ?_) | (with_reducible refine wpList_loadGP F rfl rfl rfl m0 Try.underlying28 rfl [.int .i64 dk, .float .f32 da, .float .f32 db, .float .f32 dc, .float .f32 dx, .float .f32 dy] (strDamp s k tk ta tb tc tx ty dk da db dc dx dy l) infoFil rfl ?_)) | ((with_reducible refine at_loadV rfl rfl ?_); first | (with_reducible refine wpList_loadGPG F rfl rfl m0 Try.underlying46 rfl [s, .int .i64 k] (strRing s k tk ta tb tc tx ty dk da db dc dx dy l) infoRing rfl (by kernel_rfl) ?_) | (with_reducible refine wpList_loadGPG F rfl rfl m0 Try.underlying28 rfl [.int .i64 tk, .float .f32 ta, .float .f32 tb, .float .f32 tc, .float .f32 tx, .float .f32 ty] (strTune s k tk ta tb tc tx ty dk da db dc dx dy l) infoFil rfl (by kernel_rfl) ?_) | (with_reducible refine wpList_loadGPG F rfl rfl m0 Try.underlying28 rfl [.int .i64 dk, .float .f32 da, .float .f32 db, .float .f32 dc, .float .f32 dx, .float .f32 dy] (strDamp s k tk ta tb tc tx ty dk da db dc dx dy l) infoFil rfl (by kernel_rfl) ?_)) | (go_at_call 93; ((with_reducible refine (H0.out _ F.below).mono ?_); rintro e w1 ⟨rfl, hl⟩; replace F := F.le hl; clear hl; clear c2 c8 c14; have c2 := (F.row m0).cell? 2; have c8 := (F.row m0).cell? 8; have c14 := (F.row m0).cell? 14)) | (go_at_call 51; ((with_reducible refine (H1.out _).mono ?_); rintro e w1 ⟨rfl, hl⟩; replace F := F.le hl; clear hl; clear c2 c8 c14; have c2 := (F.row m0).cell? 2; have c8 := (F.row m0).cell? 8; have c14 := (F.row m0).cell? 14)) | (go_at_call 51; ((with_reducible refine (H3.out _).mono ?_); rintro e w1 ⟨rfl, hl⟩; replace F := F.le hl; clear hl; clear c2 c8 c14; have c2 := (F.row m0).cell? 2; have c8 := (F.row m0).cell? 8; have c14 := (F.row m0).cell? 14)) | (go_at_call 68; ((with_reducible refine (H5.out _).mono ?_); rintro e w1 ⟨rfl, rfl⟩)))
    go_ret
    exact ⟨ret_b HZ.out.symm, F.below⟩
  · skip
    cases h3 : decide (tk = 3)
    · have HZ : Hid (okStr n k tk ta tb tc tx ty dk da db dc dx dy l = false) := by unfold Hid okStr; simp only [h1, h3, Bool.and_true, Bool.and_false, Bool.true_and, Bool.false_and]
      rw [h1] at G0; have H0 := hid G0; clear G0
      have e3 : ¬ tk = 3 := of_decide_eq_false h3
      clear h1 h3
      clear G1
      clear G3
      clear G5
      have c2 := (F.row m0).cell? 2; have c8 := (F.row m0).cell? 8; have c14 := (F.row m0).cell? 14
      go_enter Try.func66, Try.ntmps66
      go_wp2_with (first | ((with_reducible refine at_loadU rfl rfl ?_); first | (with_reducible refine wpList_loadGP F rfl rfl rfl m0 Try.underlying46 rfl [s, .int .i64 k] (strRing s k tk ta tb tc tx ty dk da db dc dx dy l) infoRing rfl ?_) | (with_reducible refine wpList_loadGP F rfl rfl rfl m0 Try.underlying28 rfl [.int .i64 tk, .float .f32 ta, .float .f32 tb, .float .f32 tc, .float .f32 tx, .float .f32 ty] (strTune s k tk ta tb tc tx ty dk da db dc dx dy l) infoFil rfl ?_) | (with_reducible refine wpList_loadGP F rfl rfl rfl m0 Try.underlying28 rfl [.int .i64 dk, .float .f32 da, .float .f32 db, .float .f32 dc, .float .f32 dx, .float .f32 dy] (strDamp s k tk ta tb tc tx ty dk da db dc dx dy l) infoFil rfl ?_)) | ((with_reducible refine at_loadV rfl rfl ?_); first | (with_reducible refine wpList_loadGPG F rfl rfl m0 Try.underlying46 rfl [s, .int .i64 k] (strRing s k tk ta tb tc tx ty dk da db dc dx dy l) infoRing rfl (by kernel_rfl) ?_) | (with_reducible refine wpList_loadGPG F rfl rfl m0 Try.underlying28 rfl [.int .i64 tk, .float .f32 ta, .float .f32 tb, .float .f32 tc, .float .f32 tx, .float .f32 ty] (strTune s k tk ta tb tc tx ty dk da db dc dx dy l) infoFil rfl (by kernel_rfl) ?_) | (with_reducible refine wpList_loadGPG F rfl rfl m0 Try.underlying28 rfl [.int .i64 dk, .float .f32 da, .float .f32 db, .float .f32 dc, .float .f32 dx, .float .f32 dy] (strDamp s k tk ta tb tc tx ty dk da db dc dx dy l) infoFil rfl (by kernel_rfl) ?_)) | (go_at_call 93; ((with_reducible refine (H0.out _ F.below).mono ?_); rintro e w1 ⟨rfl, hl⟩; replace F := F.le hl; clear hl; clear c2 c8 c14; have c2 := (F.row m0).cell? 2; have c8 := (F.row m0).cell? 8; have c14 := (F.row m0).cell? 14)) | (go_at_call 51; ((with_reducible refine (H1.out _).mono ?_); rintro e w1 ⟨rfl, hl⟩; replace F := F.le hl; clear hl; clear c2 c8 c14; have c2 := (F.row m0).cell? 2; have c8 := (F.row m0).cell? 8; have c14 := (F.row m0).cell? 14)) | (go_at_call 51; ((with_reducible refine (H3.out _).mono ?_); rintro e w1 ⟨rfl, hl⟩; replace F := F.le hl; clear hl; clear c2 c8 c14; have c2 := (F.row m0).cell? 2; have c8 := (F.row m0).cell? 8; have c14 := (F.row m0).cell? 14)) | (go_at_call 68; ((with_reducible refine (H5.out _).mono ?_); rintro e w1 ⟨rfl, rfl⟩)))
      go_ret
      exact ⟨ret_b HZ.out.symm, F.below⟩
    · skip
      cases h2 : okF tk ta tb tc tx ty
      · have HZ : Hid (okStr n k tk ta tb tc tx ty dk da db dc dx dy l = false) := by unfold Hid okStr; simp only [h1, h3, h2, Bool.and_true, Bool.and_false, Bool.true_and, Bool.false_and]
        rw [h1] at G0; have H0 := hid G0; clear G0
        have e3 : (tk == 3) = true := by simpa using h3
        rw [h2] at G1; have H1 := hid G1; clear G1
        clear h1 h3 h2
        clear G3
        clear G5
        have c2 := (F.row m0).cell? 2; have c8 := (F.row m0).cell? 8; have c14 := (F.row m0).cell? 14
        go_enter Try.func66, Try.ntmps66
        go_wp2_with (first | ((with_reducible refine at_loadU rfl rfl ?_); first | (with_reducible refine wpList_loadGP F rfl rfl rfl m0 Try.underlying46 rfl [s, .int .i64 k] (strRing s k tk ta tb tc tx ty dk da db dc dx dy l) infoRing rfl ?_) | (with_reducible refine wpList_loadGP F rfl rfl rfl m0 Try.underlying28 rfl [.int .i64 tk, .float .f32 ta, .float .f32 tb, .float .f32 tc, .float .f32 tx, .float .f32 ty] (strTune s k tk ta tb tc tx ty dk da db dc dx dy l) infoFil rfl ?_) | (with_reducible refine wpList_loadGP F rfl rfl rfl m0 Try.underlying28 rfl [.int .i64 dk, .float .f32 da, .float .f32 db, .float .f32 dc, .float .f32 dx, .float .f32 dy] (strDamp s k tk ta tb tc tx ty dk da db dc dx dy l) infoFil rfl ?_)) | ((with_reducible refine at_loadV rfl rfl ?_); first | (with_reducible refine wpList_loadGPG F rfl rfl m0 Try.underlying46 rfl [s, .int .i64 k] (strRing s k tk ta tb tc tx ty dk da db dc dx dy l) infoRing rfl (by kernel_rfl) ?_) | (with_reducible refine wpList_loadGPG F rfl rfl m0 Try.underlying28 rfl [.int .i64 tk, .float .f32 ta, .float .f32 tb, .float .f32 tc, .float .f32 tx, .float .f32 ty] (strTune s k tk ta tb tc tx ty dk da db dc dx dy l) infoFil rfl (by kernel_rfl) ?_) | (with_reducible refine wpList_loadGPG F rfl rfl m0 Try.underlying28 rfl [.int .i64 dk, .float .f32 da, .float .f32 db, .float .f32 dc, .float .f32 dx, .float .f32 dy] (strDamp s k tk ta tb tc tx ty dk da db dc dx dy l) infoFil rfl (by kernel_rfl) ?_)) | (go_at_call 93; ((with_reducible refine (H0.out _ F.below).mono ?_); rintro e w1 ⟨rfl, hl⟩; replace F := F.le hl; clear hl; clear c2 c8 c14; have c2 := (F.row m0).cell? 2; have c8 := (F.row m0).cell? 8; have c14 := (F.row m0).cell? 14)) | (go_at_call 51; ((with_reducible refine (H1.out _).mono ?_); rintro e w1 ⟨rfl, hl⟩; replace F := F.le hl; clear hl; clear c2 c8 c14; have c2 := (F.row m0).cell? 2; have c8 := (F.row m0).cell? 8; have c14 := (F.row m0).cell? 14)) | (go_at_call 51; ((with_reducible refine (H3.out _).mono ?_); rintro e w1 ⟨rfl, hl⟩; replace F := F.le hl; clear hl; clear c2 c8 c14; have c2 := (F.row m0).cell? 2; have c8 := (F.row m0).cell? 8; have c14 := (F.row m0).cell? 14)) | (go_at_call 68; ((with_reducible refine (H5.out _).mono ?_); rintro e w1 ⟨rfl, rfl⟩)))
        go_ret
        exact ⟨ret_b HZ.out.symm, F.below⟩
      · skip
        cases h5 : decide (dk = 2)
        · have HZ : Hid (okStr n k tk ta tb tc tx ty dk da db dc dx dy l = false) := by unfold Hid okStr; simp only [h1, h3, h2, h5, Bool.and_true, Bool.and_false, Bool.true_and, Bool.false_and]
          rw [h1] at G0; have H0 := hid G0; clear G0
          have e3 : (tk == 3) = true := by simpa using h3
          rw [h2] at G1; have H1 := hid G1; clear G1
          have e5 : ¬ dk = 2 := of_decide_eq_false h5
          clear h1 h3 h2 h5
          clear G3
          clear G5
          have c2 := (F.row m0).cell? 2; have c8 := (F.row m0).cell? 8; have c14 := (F.row m0).cell? 14
          go_enter Try.func66, Try.ntmps66
          go_wp2_with (first | ((with_reducible refine at_loadU rfl rfl ?_); first | (with_reducible refine wpList_loadGP F rfl rfl rfl m0 Try.underlying46 rfl [s, .int .i64 k] (strRing s k tk ta tb tc tx ty dk da db dc dx dy l) infoRing rfl ?_) | (with_reducible refine wpList_loadGP F rfl rfl rfl m0 Try.underlying28 rfl [.int .i64 tk, .float .f32 ta, .float .f32 tb, .float .f32 tc, .float .f32 tx, .float .f32 ty] (strTune s k tk ta tb tc tx ty dk da db dc dx dy l) infoFil rfl ?_) | (with_reducible refine wpList_loadGP F rfl rfl rfl m0 Try.underlying28 rfl [.int .i64 dk, .float .f32 da, .float .f32 db, .float .f32 dc, .float .f32 dx, .float .f32 dy] (strDamp s k tk ta tb tc tx ty dk da db dc dx dy l) infoFil rfl ?_)) | ((with_reducible refine at_loadV rfl rfl ?_); first | (with_reducible refine wpList_loadGPG F rfl rfl m0 Try.underlying46 rfl [s, .int .i64 k] (strRing s k tk ta tb tc tx ty dk da db dc dx dy l) infoRing rfl (by kernel_rfl) ?_) | (with_reducible refine wpList_loadGPG F rfl rfl m0 Try.underlying28 rfl [.int .i64 tk, .float .f32 ta, .float .f32 tb, .float .f32 tc, .float .f32 tx, .float .f32 ty] (strTune s k tk ta tb tc tx ty dk da db dc dx dy l) infoFil rfl (by kernel_rfl) ?_) | (with_reducible refine wpList_loadGPG F rfl rfl m0 Try.underlying28 rfl [.int .i64 dk, .float .f32 da, .float .f32 db, .float .f32 dc, .float .f32 dx, .float .f32 dy] (strDamp s k tk ta tb tc tx ty dk da db dc dx dy l) infoFil rfl (by kernel_rfl) ?_)) | (go_at_call 93; ((with_reducible refine (H0.out _ F.below).mono ?_); rintro e w1 ⟨rfl, hl⟩; replace F := F.le hl; clear hl; clear c2 c8 c14; have c2 := (F.row m0).cell? 2; have c8 := (F.row m0).cell? 8; have c14 := (F.row m0).cell? 14)) | (go_at_call 51; ((with_reducible refine (H1.out _).mono ?_); rintro e w1 ⟨rfl, hl⟩; replace F := F.le hl; clear hl; clear c2 c8 c14; have c2 := (F.row m0).cell? 2; have c8 := (F.row m0).cell? 8; have c14 := (F.row m0).cell? 14)) | (go_at_call 51; ((with_reducible refine (H3.out _).mono ?_); rintro e w1 ⟨rfl, hl⟩; replace F := F.le hl; clear hl; clear c2 c8 c14; have c2 := (F.row m0).cell? 2; have c8 := (F.row m0).cell? 8; have c14 := (F.row m0).cell? 14)) | (go_at_call 68; ((with_reducible refine (H5.out _).mono ?_); rintro e w1 ⟨rfl, rfl⟩)))
          go_ret
          exact ⟨ret_b HZ.out.symm, F.below⟩
        · skip
          cases h4 : okF dk da db dc dx dy
          · have HZ : Hid (okStr n k tk ta tb tc tx ty dk da db dc dx dy l = false) := by unfold Hid okStr; simp only [h1, h3, h2, h5, h4, Bool.and_true, Bool.and_false, Bool.true_and, Bool.false_and]
            rw [h1] at G0; have H0 := hid G0; clear G0
            have e3 : (tk == 3) = true := by simpa using h3
            rw [h2] at G1; have H1 := hid G1; clear G1
            have e5 : (dk == 2) = true := by simpa using h5
            rw [h4] at G3; have H3 := hid G3; clear G3
            clear h1 h3 h2 h5 h4
            clear G5
            have c2 := (F.row m0).cell? 2; have c8 := (F.row m0).cell? 8; have c14 := (F.row m0).cell? 14
            go_enter Try.func66, Try.ntmps66
            go_wp2_with (first | ((with_reducible refine at_loadU rfl rfl ?_); first | (with_reducible refine wpList_loadGP F rfl rfl rfl m0 Try.underlying46 rfl [s, .int .i64 k] (strRing s k tk ta tb tc tx ty dk da db dc dx dy l) infoRing rfl ?_) | (with_reducible refine wpList_loadGP F rfl rfl rfl m0 Try.underlying28 rfl [.int .i64 tk, .float .f32 ta, .float .f32 tb, .float .f32 tc, .float .f32 tx, .float .f32 ty] (strTune s k tk ta tb tc tx ty dk da db dc dx dy l) infoFil rfl ?_) | (with_reducible refine wpList_loadGP F rfl rfl rfl m0 Try.underlying28 rfl [.int .i64 dk, .float .f32 da, .float .f32 db, .float .f32 dc, .float .f32 dx, .float .f32 dy] (strDamp s k tk ta tb tc tx ty dk da db dc dx dy l) infoFil rfl ?_)) | ((with_reducible refine at_loadV rfl rfl ?_); first | (with_reducible refine wpList_loadGPG F rfl rfl m0 Try.underlying46 rfl [s, .int .i64 k] (strRing s k tk ta tb tc tx ty dk da db dc dx dy l) infoRing rfl (by kernel_rfl) ?_) | (with_reducible refine wpList_loadGPG F rfl rfl m0 Try.underlying28 rfl [.int .i64 tk, .float .f32 ta, .float .f32 tb, .float .f32 tc, .float .f32 tx, .float .f32 ty] (strTune s k tk ta tb tc tx ty dk da db dc dx dy l) infoFil rfl (by kernel_rfl) ?_) | (with_reducible refine wpList_loadGPG F rfl rfl m0 Try.underlying28 rfl [.int .i64 dk, .float .f32 da, .float .f32 db, .float .f32 dc, .float .f32 dx, .float .f32 dy] (strDamp s k tk ta tb tc tx ty dk da db dc dx dy l) infoFil rfl (by kernel_rfl) ?_)) | (go_at_call 93; ((with_reducible refine (H0.out _ F.below).mono ?_); rintro e w1 ⟨rfl, hl⟩; replace F := F.le hl; clear hl; clear c2 c8 c14; have c2 := (F.row m0).cell? 2; have c8 := (F.row m0).cell? 8; have c14 := (F.row m0).cell? 14)) | (go_at_call 51; ((with_reducible refine (H1.out _).mono ?_); rintro e w1 ⟨rfl, hl⟩; replace F := F.le hl; clear hl; clear c2 c8 c14; have c2 := (F.row m0).cell? 2; have c8 := (F.row m0).cell? 8; have c14 := (F.row m0).cell? 14)) | (go_at_call 51; ((with_reducible refine (H3.out _).mono ?_); rintro e w1 ⟨rfl, hl⟩; replace F := F.le hl; clear hl; clear c2 c8 c14; have c2 := (F.row m0).cell? 2; have c8 := (F.row m0).cell? 8; have c14 := (F.row m0).cell? 14)) | (go_at_call 68; ((with_reducible refine (H5.out _).mono ?_); rintro e w1 ⟨rfl, rfl⟩)))
            go_ret
            exact ⟨ret_b HZ.out.symm, F.below⟩
          · skip
            cases h6 : fin l
            · have HZ : Hid (okStr n k tk ta tb tc tx ty dk da db dc dx dy l = false) := by unfold Hid okStr; simp only [h1, h3, h2, h5, h4, h6, Bool.and_true, Bool.and_false, Bool.true_and, Bool.false_and]
              rw [h1] at G0; have H0 := hid G0; clear G0
              have e3 : (tk == 3) = true := by simpa using h3
              rw [h2] at G1; have H1 := hid G1; clear G1
              have e5 : (dk == 2) = true := by simpa using h5
              rw [h4] at G3; have H3 := hid G3; clear G3
              rw [h6] at G5; have H5 := hid G5; clear G5
              clear h1 h3 h2 h5 h4 h6
              have c2 := (F.row m0).cell? 2; have c8 := (F.row m0).cell? 8; have c14 := (F.row m0).cell? 14
              go_enter Try.func66, Try.ntmps66
              go_wp2_with (first | ((with_reducible refine at_loadU rfl rfl ?_); first | (with_reducible refine wpList_loadGP F rfl rfl rfl m0 Try.underlying46 rfl [s, .int .i64 k] (strRing s k tk ta tb tc tx ty dk da db dc dx dy l) infoRing rfl ?_) | (with_reducible refine wpList_loadGP F rfl rfl rfl m0 Try.underlying28 rfl [.int .i64 tk, .float .f32 ta, .float .f32 tb, .float .f32 tc, .float .f32 tx, .float .f32 ty] (strTune s k tk ta tb tc tx ty dk da db dc dx dy l) infoFil rfl ?_) | (with_reducible refine wpList_loadGP F rfl rfl rfl m0 Try.underlying28 rfl [.int .i64 dk, .float .f32 da, .float .f32 db, .float .f32 dc, .float .f32 dx, .float .f32 dy] (strDamp s k tk ta tb tc tx ty dk da db dc dx dy l) infoFil rfl ?_)) | ((with_reducible refine at_loadV rfl rfl ?_); first | (with_reducible refine wpList_loadGPG F rfl rfl m0 Try.underlying46 rfl [s, .int .i64 k] (strRing s k tk ta tb tc tx ty dk da db dc dx dy l) infoRing rfl (by kernel_rfl) ?_) | (with_reducible refine wpList_loadGPG F rfl rfl m0 Try.underlying28 rfl [.int .i64 tk, .float .f32 ta, .float .f32 tb, .float .f32 tc, .float .f32 tx, .float .f32 ty] (strTune s k tk ta tb tc tx ty dk da db dc dx dy l) infoFil rfl (by kernel_rfl) ?_) | (with_reducible refine wpList_loadGPG F rfl rfl m0 Try.underlying28 rfl [.int .i64 dk, .float .f32 da, .float .f32 db, .float .f32 dc, .float .f32 dx, .float .f32 dy] (strDamp s k tk ta tb tc tx ty dk da db dc dx dy l) infoFil rfl (by kernel_rfl) ?_)) | (go_at_call 93; ((with_reducible refine (H0.out _ F.below).mono ?_); rintro e w1 ⟨rfl, hl⟩; replace F := F.le hl; clear hl; clear c2 c8 c14; have c2 := (F.row m0).cell? 2; have c8 := (F.row m0).cell? 8; have c14 := (F.row m0).cell? 14)) | (go_at_call 51; ((with_reducible refine (H1.out _).mono ?_); rintro e w1 ⟨rfl, hl⟩; replace F := F.le hl; clear hl; clear c2 c8 c14; have c2 := (F.row m0).cell? 2; have c8 := (F.row m0).cell? 8; have c14 := (F.row m0).cell? 14)) | (go_at_call 51; ((with_reducible refine (H3.out _).mono ?_); rintro e w1 ⟨rfl, hl⟩; replace F := F.le hl; clear hl; clear c2 c8 c14; have c2 := (F.row m0).cell? 2; have c8 := (F.row m0).cell? 8; have c14 := (F.row m0).cell? 14)) | (go_at_call 68; ((with_reducible refine (H5.out _).mono ?_); rintro e w1 ⟨rfl, rfl⟩)))
              go_ret
              exact ⟨ret_b HZ.out.symm, F.below⟩
            · skip
              have HZ : Hid (okStr n k tk ta tb tc tx ty dk da db dc dx dy l = true) := by unfold Hid okStr; simp only [h1, h3, h2, h5, h4, h6, Bool.and_true, Bool.and_false, Bool.true_and, Bool.false_and]
              rw [h1] at G0; have H0 := hid G0; clear G0
              have e3 : (tk == 3) = true := by simpa using h3
              rw [h2] at G1; have H1 := hid G1; clear G1
              have e5 : (dk == 2) = true := by simpa using h5
              rw [h4] at G3; have H3 := hid G3; clear G3
              rw [h6] at G5; have H5 := hid G5; clear G5
              clear h1 h3 h2 h5 h4 h6
              have c2 := (F.row m0).cell? 2; have c8 := (F.row m0).cell? 8; have c14 := (F.row m0).cell? 14
              go_enter Try.func66, Try.ntmps66
              go_wp2_with (first | ((with_reducible refine at_loadU rfl rfl ?_); first | (with_reducible refine wpList_loadGP F rfl rfl rfl m0 Try.underlying46 rfl [s, .int .i64 k] (strRing s k tk ta tb tc tx ty dk da db dc dx dy l) infoRing rfl ?_) | (with_reducible refine wpList_loadGP F rfl rfl rfl m0 Try.underlying28 rfl [.int .i64 tk, .float .f32 ta, .float .f32 tb, .float .f32 tc, .float .f32 tx, .float .f32 ty] (strTune s k tk ta tb tc tx ty dk da db dc dx dy l) infoFil rfl ?_) | (with_reducible refine wpList_loadGP F rfl rfl rfl m0 Try.underlying28 rfl [.int .i64 dk, .float .f32 da, .float .f32 db, .float .f32 dc, .float .f32 dx, .float .f32 dy] (strDamp s k tk ta tb tc tx ty dk da db dc dx dy l) infoFil rfl ?_)) | ((with_reducible refine at_loadV rfl rfl ?_); first | (with_reducible refine wpList_loadGPG F rfl rfl m0 Try.underlying46 rfl [s, .int .i64 k] (strRing s k tk ta tb tc tx ty dk da db dc dx dy l) infoRing rfl (by kernel_rfl) ?_) | (with_reducible refine wpList_loadGPG F rfl rfl m0 Try.underlying28 rfl [.int .i64 tk, .float .f32 ta, .float .f32 tb, .float .f32 tc, .float .f32 tx, .float .f32 ty] (strTune s k tk ta tb tc tx ty dk da db dc dx dy l) infoFil rfl (by kernel_rfl) ?_) | (with_reducible refine wpList_loadGPG F rfl rfl m0 Try.underlying28 rfl [.int .i64 dk, .float .f32 da, .float .f32 db, .float .f32 dc, .float .f32 dx, .float .f32 dy] (strDamp s k tk ta tb tc tx ty dk da db dc dx dy l) infoFil rfl (by kernel_rfl) ?_)) | (go_at_call 93; ((with_reducible refine (H0.out _ F.below).mono ?_); rintro e w1 ⟨rfl, hl⟩; replace F := F.le hl; clear hl; clear c2 c8 c14; have c2 := (F.row m0).cell? 2; have c8 := (F.row m0).cell? 8; have c14 := (F.row m0).cell? 14)) | (go_at_call 51; ((with_reducible refine (H1.out _).mono ?_); rintro e w1 ⟨rfl, hl⟩; replace F := F.le hl; clear hl; clear c2 c8 c14; have c2 := (F.row m0).cell? 2; have c8 := (F.row m0).cell? 8; have c14 := (F.row m0).cell? 14)) | (go_at_call 51; ((with_reducible refine (H3.out _).mono ?_); rintro e w1 ⟨rfl, hl⟩; replace F := F.le hl; clear hl; clear c2 c8 c14; have c2 := (F.row m0).cell? 2; have c8 := (F.row m0).cell? 8; have c14 := (F.row m0).cell? 14)) | (go_at_call 68; ((with_reducible refine (H5.out _).mono ?_); rintro e w1 ⟨rfl, rfl⟩)))
              go_ret
              exact ⟨ret_b HZ.out.symm, F.below⟩
end Go.Proofs.Ytmacednkpjfokaa

/- 'StepString' of both, and what such functions share. -/
namespace Go.Fk
open Go Go.RowKit
theorem okStr_q {x : Nat → Nat} {n : Nat} {k tk : Int} {ta tb tc tx ty : Nat} {dk : Int} {da db dc dx dy l : Nat} (h : okStr n k tk ta tb tc tx ty dk da db dc dx dy l = true) (hf : fits .f32 ta ∧ fits .f32 tb ∧ fits .f32 tc ∧ fits .f32 tx ∧ fits .f32 ty) (hg : fits .f32 da ∧ fits .f32 db ∧ fits .f32 dc ∧ fits .f32 dx ∧ fits .f32 dy) (hl : fits .f32 l) :
    ∃ j : Nat, k = j ∧ tk = 3 ∧ dk = 2 ∧ (⟨x, n, j, ta, tb, tc, tx, ty, da, db, dc, dx, dy, l⟩ : StS).Ok := by
  unfold okStr at h
  simp only [Bool.and_eq_true, decide_eq_true_eq] at h
  obtain ⟨h1, h2, rfl, h4, rfl, h6⟩ := h
  obtain ⟨e1, e2, j, rfl, ej⟩ := okRing_j h1
  obtain ⟨f1, f2, f3, f4, f5⟩ := hf
  obtain ⟨g1, g2, g3, g4, g5⟩ := hg
  exact ⟨j, rfl, rfl, rfl, ⟨e1, e2, ej, h2, h4, h6, f1, f2, f3, f4, f5, g1, g2, g3, g4, g5, hl⟩⟩
end Go.Fk
namespace Go.Proofs.Ytmacednkpjfokaa
open Go.RowKit Go.Fk
theorem SpS.ok {w w' : World} {B C g : Nat} {q : StS} (h : SpS w B C g q) (hk : ∀ k, B ≤ k → k < C → w'.heap[k]? = w.heap[k]?) : SpS w' B C g q := by
  obtain ⟨s, lo, hi, R, O, g1, g2, g3, g4, g5⟩ := h
  exact ⟨s, lo, hi, (rowF g _ _).ok w w' R (fun k a b => hk k (Nat.le_trans g1 a) (by have b' : k < g + 1 := b; omega)), (ownF lo hi s q.x q.n).ok w w' O (fun k a b => hk k (Nat.le_trans g3 a) (Nat.lt_of_lt_of_le b g4)), g1, g2, g3, g4, g5⟩
/-- A string of the model in memory. -/
def spF (B C g : Nat) (q : StS) : Fact := ⟨B, C, fun w => SpS w B C g q, fun _ _ h hk => SpS.ok h hk⟩
theorem toSp {w0 w : World} {g lo hi : Nat} {s : Value} {q : StS} {l : List Fact} (h : Frg w0 w (rowF g 48 #[s, .int .i64 (q.j : Nat), .int .i64 3, .float .f32 (q.ta), .float .f32 (q.tb), .float .f32 (q.tc), .float .f32 (q.tx), .float .f32 (q.ty), .int .i64 2, .float .f32 (q.da), .float .f32 (q.db), .float .f32 (q.dc), .float .f32 (q.dx), .float .f32 (q.dy), .float .f32 (q.l)] :: ownF lo hi s q.x q.n :: l)) (hn : 1 ≤ q.n) : Frg w0 w (spF lo (g + 1) g q :: l) := by
  have f1 := h.facts (rowF g 48 #[s, .int .i64 (q.j : Nat), .int .i64 3, .float .f32 (q.ta), .float .f32 (q.tb), .float .f32 (q.tc), .float .f32 (q.tx), .float .f32 (q.ty), .int .i64 2, .float .f32 (q.da), .float .f32 (q.db), .float .f32 (q.dc), .float .f32 (q.dx), .float .f32 (q.dy), .float .f32 (q.l)]) (by simp)
  have f2 := h.facts (ownF lo hi s q.x q.n) (by simp)
  have a1 := List.pairwise_cons.1 h.apart
  have a2 := List.pairwise_cons.1 a1.2
  have b12 : hi ≤ g := a1.1 (ownF lo hi s q.x q.n) (by simp)
  have hlo : lo < hi := by
    rcases f2.2.2 with ⟨_, h0⟩ | ⟨b, o, cap, cs, _, _, _, h4, h5, _⟩
    · omega
    · omega
  refine ⟨h.below, fun e he => ?_, List.pairwise_cons.2 ⟨fun e he => a2.1 e he, a2.2⟩⟩
  rcases List.mem_cons.1 he with rfl | he
  · exact ⟨f2.1, f1.2.1, ⟨s, lo, hi, f1.2.2, f2.2.2, by omega, by omega, Nat.le_refl _, by omega, by omega⟩⟩
  · exact h.facts e (by simp [he])
theorem LpS.ok {w w' : World} {B C g : Nat} {q : StS} (h : LpS w B C g q) (hk : ∀ k, B ≤ k → k < C → w'.heap[k]? = w.heap[k]?) : LpS w' B C g q := by
  obtain ⟨s, lo, hi, rt, rd, R, O, RT, RD, ⟨b1, b2, b3, b4, b5, b6, b7, b8⟩, d⟩ := h
  exact ⟨s, lo, hi, rt, rd, (rowF g _ _).ok w w' R (fun k a b => hk k (Nat.le_trans b1 a) (by have b' : k < g + 1 := b; omega)), (ownF lo hi s q.x q.n).ok w w' O (fun k a b => hk k (Nat.le_trans b7 a) (Nat.lt_of_lt_of_le b b8)), (rowF rt _ _).ok w w' RT (fun k a b => hk k (Nat.le_trans b3 a) (by have b' : k < rt + 1 := b; omega)), (rowF rd _ _).ok w w' RD (fun k a b => hk k (Nat.le_trans b5 a) (by have b' : k < rd + 1 := b; omega)), ⟨b1, b2, b3, b4, b5, b6, b7, b8⟩, d⟩
/-- A loop in memory. -/
def lpF (B C g : Nat) (q : StS) : Fact := ⟨B, C, fun w => LpS w B C g q, fun _ _ h hk => LpS.ok h hk⟩
theorem Frg.sp {w0 w : World} {L : List Fact} {B C g : Nat} {q : StS} (h : Frg w0 w L) (hm : spF B C g q ∈ L) : SpS w B C g q := (h.facts _ hm).2.2
theorem Frg.lp {w0 w : World} {L : List Fact} {B C g : Nat} {q : StS} (h : Frg w0 w L) (hm : lpF B C g q ∈ L) : LpS w B C g q := (h.facts _ hm).2.2
set_option maxRecDepth 100000 in
set_option maxHeartbeats 2000000 in
theorem s_StepString_no (B : Nat) (s : Value) (x : Nat → Nat) (n : Nat) (k tk : Int) (ta tb tc tx ty : Nat) (dk : Int) (da db dc dx dy l : Nat) (a : Nat) (w : World) (hs : RdS w B s x n) (hk : (Lit.int .i64 k).wf = true) (hv : okStr n k tk ta tb tc tx ty dk da db dc dx dy l = false) :
    Calls Try.prog 33 #[.agg #[s, .int .i64 k, .int .i64 tk, .float .f32 ta, .float .f32 tb, .float .f32 tc, .float .f32 tx, .float .f32 ty, .int .i64 dk, .float .f32 da, .float .f32 db, .float .f32 dc, .float .f32 dx, .float .f32 dy, .float .f32 l], .float .f32 a] w (Out_sfi (fun _ => 0) 0 0 0 0 0 0 0 0 0 0 0 0 0 0 0 0 1 w) := by
  have HV := hid (fun (w' : World) (g : Nat) (hl : le w w') (R : Row w' g 48 #[s, .int .i64 k, .int .i64 tk, .float .f32 ta, .float .f32 tb, .float .f32 tc, .float .f32 tx, .float .f32 ty, .int .i64 dk, .float .f32 da, .float .f32 db, .float .f32 dc, .float .f32 dx, .float .f32 dy, .float .f32 l]) => hv ▸ s_l03Ok B s x n k tk ta tb tc tx ty dk da db dc dx dy l g w' (hs.le hl) R hk)
  clear hs hk hv
  have F := ((Frg.nil w).box 48 #[s, .int .i64 k, .int .i64 tk, .float .f32 ta, .float .f32 tb, .float .f32 tc, .float .f32 tx, .float .f32 ty, .int .i64 dk, .float .f32 da, .float .f32 db, .float .f32 dc, .float .f32 dx, .float .f32 dy, .float .f32 l]).box 48 #[.slice none 0 0, .int .i64 0, .int .i64 0, .float .f32 0, .float .f32 0, .float .f32 0, .float .f32 0, .float .f32 0, .int .i64 0, .float .f32 0, .float .f32 0, .float .f32 0, .float .f32 0, .float .f32 0, .float .f32 0]
  simp only [World.size_alloc] at F
  go_enter Try.func33, Try.ntmps33
  go_wp2_with (first | (go_at_call 61; ((with_reducible refine (HV.out _ _ F.below (F.row m1)).mono ?_); rintro e w1 ⟨rfl, m, rfl⟩; replace F := F.drewN m)) | ((with_reducible refine stop_store rfl ?_)))
  show wpList _ _ _ _ _ _
  refine wpList_storeD rfl rfl rfl (cells := #[.slice none 0 0, .int .i64 0, .int .i64 0, .float .f32 0, .float .f32 0, .float .f32 0, .float .f32 0, .float .f32 0, .int .i64 0, .float .f32 0, .float .f32 0, .float .f32 0, .float .f32 0, .float .f32 0, .float .f32 0]) rfl (F.row m0) infoStr rfl (by simp [Value.oneCell']) (fun w4 K => ?_)
  have R := hid K.row
  have L := hid (F.wr0 K).below
  clear K F
  go_wp2
  exact bodyPost_ret (results_row3 rfl _ _ _ _ _ rfl R.out Try.underlying48 rfl infoStr) rfl ⟨_, _, rfl, .inl ⟨rfl, rfl⟩, by decide, L.out⟩
set_option maxRecDepth 100000 in
set_option maxHeartbeats 4000000 in
theorem s_StepString_yes (B : Nat) (s : Value) (q : StS) (a : Nat) (w : World) (hs : RdS w B s q.x q.n) (ok : q.Ok) (hk : (Lit.int .i64 (q.j : Nat)).wf = true) (hv : okStr q.n (q.j : Nat) 3 q.ta q.tb q.tc q.tx q.ty 2 q.da q.db q.dc q.dx q.dy q.l = true) (ha : fits .f32 a) :
    Calls Try.prog 33 #[.agg #[s, .int .i64 (q.j : Nat), .int .i64 3, .float .f32 (q.ta), .float .f32 (q.tb), .float .f32 (q.tc), .float .f32 (q.tx), .float .f32 (q.ty), .int .i64 2, .float .f32 (q.da), .float .f32 (q.db), .float .f32 (q.dc), .float .f32 (q.dx), .float .f32 (q.dy), .float .f32 (q.l)], .float .f32 a] w (Out_sfi (stepS q a).x (stepS q a).n ((stepS q a).j : Nat) 3 ((stepS q a).ta) ((stepS q a).tb) ((stepS q a).tc) ((stepS q a).tx) ((stepS q a).ty) 2 ((stepS q a).da) ((stepS q a).db) ((stepS q a).dc) ((stepS q a).dx) ((stepS q a).dy) (stepS q a).l (q.x q.j) 0 w) := by
  have HV := hid (fun (w' : World) (g : Nat) (hl : le w w') (R : Row w' g 48 #[s, .int .i64 (q.j : Nat), .int .i64 3, .float .f32 (q.ta), .float .f32 (q.tb), .float .f32 (q.tc), .float .f32 (q.tx), .float .f32 (q.ty), .int .i64 2, .float .f32 (q.da), .float .f32 (q.db), .float .f32 (q.dc), .float .f32 (q.dx), .float .f32 (q.dy), .float .f32 (q.l)]) => hv ▸ s_l03Ok B s q.x q.n (q.j : Nat) 3 q.ta q.tb q.tc q.tx q.ty 2 q.da q.db q.dc q.dx q.dy q.l g w' (hs.le hl) R hk)
  have HCP := hid (fun (w' : World) (g : Nat) (hl : le w w') (R : Row w' g 48 #[s, .int .i64 (q.j : Nat), .int .i64 3, .float .f32 (q.ta), .float .f32 (q.tb), .float .f32 (q.tc), .float .f32 (q.tx), .float .f32 (q.ty), .int .i64 2, .float .f32 (q.da), .float .f32 (q.db), .float .f32 (q.dc), .float .f32 (q.dx), .float .f32 (q.dy), .float .f32 (q.l)]) => s_l03Copy B s q.x q.n (q.j : Nat) 3 q.ta q.tb q.tc q.tx q.ty 2 q.da q.db q.dc q.dx q.dy q.l g w' (hs.le hl) R ok.n1 ok.n2)
  have OK := hid ok
  have n1 := ok.n1
  clear hs hk hv ok
  have F := ((Frg.nil w).box 48 #[s, .int .i64 (q.j : Nat), .int .i64 3, .float .f32 (q.ta), .float .f32 (q.tb), .float .f32 (q.tc), .float .f32 (q.tx), .float .f32 (q.ty), .int .i64 2, .float .f32 (q.da), .float .f32 (q.db), .float .f32 (q.dc), .float .f32 (q.dx), .float .f32 (q.dy), .float .f32 (q.l)]).box 48 #[.slice none 0 0, .int .i64 0, .int .i64 0, .float .f32 0, .float .f32 0, .float .f32 0, .float .f32 0, .float .f32 0, .int .i64 0, .float .f32 0, .float .f32 0, .float .f32 0, .float .f32 0, .float .f32 0, .float .f32 0]
  simp only [World.size_alloc] at F
  go_enter Try.func33, Try.ntmps33
  go_wp2_with (first | (go_at_call 61; ((with_reducible refine (HV.out _ _ F.below (F.row m1)).mono ?_); rintro e w1 ⟨rfl, m, rfl⟩; replace F := F.drewN m)) | (go_at_call 63; ((with_reducible refine (HCP.out _ _ F.below (F.row m1)).mono ?_); rintro e w2 ⟨s', rfl, ho, hl⟩; have OC := hid (OwnS.one ho); replace F := F.own1 hl ho; clear ho hl)) | (refine wpList_storeG F rfl rfl rfl rfl rfl infoStr rfl (one_head OC.out rfl) ?_; clear F; intro W3 F zW; clear zW; replace F := toSp F n1) | (go_at_call 76; ((with_reducible refine (s_l03Step _ _ _ q a _ (Frg.sp F m0) OK.out ha).mono ?_); rintro e w4 ⟨o4, rfl, ho4, fo4, hsp, hch⟩; replace F := F.chg [] (e' := spF _ _ _ (stepS q a)) hch hsp rfl rfl; have HO4 := hid ho4; obtain ⟨s5, lo5, hi5, R5, O5, b1, b2, b3, b4, b5⟩ := hsp; have R5 := hid R5; have O5 := hid O5; have OC5 := hid (OwnS.one O5.out); clear hch ho4)) | ((with_reducible refine at_loadU rfl rfl ?_); (with_reducible refine wpList_loadDR R5.out rfl rfl rfl Try.underlying48 rfl infoStr rfl ?_)) | ((with_reducible refine stop_store (ty := 48) rfl ?_)))
  show wpList _ _ _ _ _ _
  refine wpList_storeD rfl rfl rfl (cells := #[s5, .int .i64 ((stepS q a).j : Nat), .int .i64 3, .float .f32 ((stepS q a).ta), .float .f32 ((stepS q a).tb), .float .f32 ((stepS q a).tc), .float .f32 ((stepS q a).tx), .float .f32 ((stepS q a).ty), .int .i64 2, .float .f32 ((stepS q a).da), .float .f32 ((stepS q a).db), .float .f32 ((stepS q a).dc), .float .f32 ((stepS q a).dx), .float .f32 ((stepS q a).dy), .float .f32 ((stepS q a).l)]) rfl (F.row m1) infoStr rfl (one_head OC5.out rfl) (fun w6 K => ?_)
  have RW := hid K.row
  have f1 := F.facts (spF _ _ _ (stepS q a)) m0
  have f2 := F.facts (rowF (w.heap.size + 1) 48 #[.slice none 0 0, .int .i64 0, .int .i64 0, .float .f32 0, .float .f32 0, .float .f32 0, .float .f32 0, .float .f32 0, .int .i64 0, .float .f32 0, .float .f32 0, .float .f32 0, .float .f32 0, .float .f32 0, .float .f32 0]) m1
  have a1 := (List.pairwise_cons.1 F.apart).1 _ m0
  simp only [rowF, spF] at a1
  have hc : Chg (· = w.heap.size + 1) _ w6 := (Chg.refl _ _).wrote K rfl
  have L := hid (F.wr1 K).below
  have f1' := hid f1.2.1
  have O6 := hid ((OwnS.chgS O5.out hc (fun i h1 h2 h3 => by have h3' : i = w.heap.size + 1 := h3; omega)).mono (lo' := w.heap.size) (hi' := w6.heap.size) (by omega) (Nat.le_trans b4 (Nat.le_trans f1'.out hc.size)))
  clear f1 f2 hc K F
  go_wp2
  exact bodyPost_ret (results_row3 rfl _ _ _ _ _ rfl RW.out Try.underlying48 rfl infoStr) rfl ⟨_, _, rfl, O6.out, HO4.out, L.out⟩
end Go.Proofs.Ytmacednkpjfokaa

/- How an argument that is a struct of a ring, two filters and a float is opened. Nothing here names a program. -/
namespace Go.Fk
open Go Go.RowKit Go.ChangeShapes
section
variable {H : Type} {enc : TypeId × Value → H} {P : Program} {w : World} {base : Nat} {spare : Nat → Bool} {held : Bool}
theorem trod_ring {t t0 t1 e : TypeId} {f0 f1 : Field} {fuel : Nat} {cs : List Value} {x : DataW H × List MemPlace} (ht : P.underlying t = some (.struct #[f0, f1]))
    (e0 : (f0.type, f0.offset) = (t0, 0)) (e1 : (f1.type, f1.offset) = (t1, 1))
    (h0 : P.underlying t0 = some (.slice e)) (h1 : P.underlying t1 = some (.int .i64)) (he : P.underlying e = some (.float .f32))
    (c0 : P.cellsOf t0 = 1) (c1 : P.cellsOf t1 = 1) (ce : P.cellsOf e = 1) (ct : P.cellsOf t = 2) (hf : DataW.trod enc P w base spare held fuel t cs = some x) :
    ∃ (s : Value) (f : Nat → Nat) (n : Nat) (k : Int), cs = [s, .int .i64 k] ∧ (Lit.int .i64 k).wf = true ∧ SlIn w s f n := by
  obtain ⟨xs, m, _, _, hlen, hl, hi⟩ := DataW.trod_struct ht hf
  simp only [Prod.mk.injEq] at e0 e1
  have g0 := hi 0 f0 rfl
  have g1 := hi 1 f1 rfl
  rw [e0.1, e0.2, c0] at g0
  rw [e1.1, e1.2, c1] at g1
  rw [List.getElem?_eq_getElem (by simp_all)] at g0 g1
  have hlen : cs.length = 2 := hlen.trans ct
  match cs, hlen with
  | [v0, v1], _ =>
    simp only [List.drop_zero, List.drop_succ_cons, List.take_succ_cons, List.take_zero] at g0 g1
    obtain ⟨s, f, n, hs, hsl⟩ := trod_fslice h0 he ce g0
    obtain ⟨k, rfl, hk⟩ := trod_int_cell h1 g1
    simp only [List.cons.injEq, and_true] at hs
    subst hs
    exact ⟨_, f, n, k, rfl, hk, hsl⟩
theorem trod_filter {t t0 t1 t2 e : TypeId} {f0 f1 f2 : Field} {fuel : Nat} {cs : List Value} {x : DataW H × List MemPlace} (ht : P.underlying t = some (.struct #[f0, f1, f2]))
    (e0 : (f0.type, f0.offset) = (t0, 0)) (e1 : (f1.type, f1.offset) = (t1, 1)) (e2 : (f2.type, f2.offset) = (t2, 4))
    (h0 : P.underlying t0 = some (.int .i64)) (h1 : P.underlying t1 = some (.array 3 e)) (h2 : P.underlying t2 = some (.array 2 e)) (he : P.underlying e = some (.float .f32))
    (c0 : P.cellsOf t0 = 1) (c1 : P.cellsOf t1 = 3) (c2 : P.cellsOf t2 = 2) (ce : P.cellsOf e = 1) (ct : P.cellsOf t = 6) (hf : DataW.trod enc P w base spare held fuel t cs = some x) :
    ∃ (k : Int) (a b c x y : Nat), cs = [.int .i64 k, .float .f32 a, .float .f32 b, .float .f32 c, .float .f32 x, .float .f32 y] ∧ (Lit.int .i64 k).wf = true ∧ fits .f32 a ∧ fits .f32 b ∧ fits .f32 c ∧ fits .f32 x ∧ fits .f32 y := by
  obtain ⟨xs, m, _, _, hlen, hl, hi⟩ := DataW.trod_struct ht hf
  simp only [Prod.mk.injEq] at e0 e1 e2
  have g0 := hi 0 f0 rfl
  have g1 := hi 1 f1 rfl
  have g2 := hi 2 f2 rfl
  rw [e0.1, e0.2, c0] at g0
  rw [e1.1, e1.2, c1] at g1
  rw [e2.1, e2.2, c2] at g2
  rw [List.getElem?_eq_getElem (by simp_all)] at g0 g1 g2
  have hlen : cs.length = 6 := hlen.trans ct
  obtain ⟨l1, q1, n1, p1⟩ := trod_farr h1 he ce c1 g1
  obtain ⟨l2, q2, n2, p2⟩ := trod_farr h2 he ce c2 g2
  match cs, hlen, l1, n1, l2, n2 with
  | [v0, v1, v2, v3, v4, v5], _, [a, b, c], _, [x, y], _ =>
    simp only [List.drop_zero, List.drop_succ_cons, List.take_succ_cons, List.take_zero, List.map_cons, List.map_nil, List.cons.injEq, and_true] at q1 q2 g0
    obtain ⟨rfl, rfl, rfl⟩ := q1
    obtain ⟨rfl, rfl⟩ := q2
    obtain ⟨k, rfl, hk⟩ := trod_int_cell h0 g0
    exact ⟨k, a, b, c, x, y, rfl, hk, p1 _ (by simp), p1 _ (by simp), p1 _ (by simp), p2 _ (by simp), p2 _ (by simp)⟩
theorem open_str {r : Reach} {b0 : Nat} {t tr tf te : TypeId} {f0 f1 f2 f3 : Field} {v : Value} {d : DataW H} {ps : List MemPlace} (ht : P.underlying t = some (.struct #[f0, f1, f2, f3]))
    (e0 : (f0.type, f0.offset) = (tr, 0)) (e1 : (f1.type, f1.offset) = (tf, 2)) (e2 : (f2.type, f2.offset) = (tf, 8)) (e3 : (f3.type, f3.offset) = (te, 14))
    (hr : ∀ fuel cs (x : DataW H × List MemPlace), DataW.trod enc P w base spare held fuel tr cs = some x → ∃ (s : Value) (f : Nat → Nat) (n : Nat) (k : Int), cs = [s, .int .i64 k] ∧ (Lit.int .i64 k).wf = true ∧ SlIn w s f n)
    (hfil : ∀ fuel cs (x : DataW H × List MemPlace), DataW.trod enc P w base spare held fuel tf cs = some x → ∃ (k : Int) (a b c x y : Nat), cs = [.int .i64 k, .float .f32 a, .float .f32 b, .float .f32 c, .float .f32 x, .float .f32 y] ∧ (Lit.int .i64 k).wf = true ∧ fits .f32 a ∧ fits .f32 b ∧ fits .f32 c ∧ fits .f32 x ∧ fits .f32 y)
    (he : P.underlying te = some (.float .f32)) (cr : P.cellsOf tr = 2) (cf : P.cellsOf tf = 6) (ce : P.cellsOf te = 1) (ct : P.cellsOf t = 15)
    (hval : Value.okWide P w r b0 t v) (hd : DataW.Trod enc P w base spare held t v d ps) :
    ∃ (s : Value) (f : Nat → Nat) (n : Nat) (k tk : Int) (ta tb tc tx ty : Nat) (dk : Int) (da db dc dx dy l : Nat), v = .agg #[s, .int .i64 k, .int .i64 tk, .float .f32 ta, .float .f32 tb, .float .f32 tc, .float .f32 tx, .float .f32 ty, .int .i64 dk, .float .f32 da, .float .f32 db, .float .f32 dc, .float .f32 dx, .float .f32 dy, .float .f32 l] ∧
      ((Lit.int .i64 k).wf = true ∧ (Lit.int .i64 tk).wf = true ∧ fits .f32 ta ∧ fits .f32 tb ∧ fits .f32 tc ∧ fits .f32 tx ∧ fits .f32 ty ∧ (Lit.int .i64 dk).wf = true ∧ fits .f32 da ∧ fits .f32 db ∧ fits .f32 dc ∧ fits .f32 dx ∧ fits .f32 dy ∧ fits .f32 l) ∧ SlIn w s f n := by
  simp only [Value.okWide, ht] at hval
  obtain ⟨cs, rfl, hsz, _⟩ := hval
  obtain ⟨fuel, hf⟩ := hd
  simp only [Value.cells] at hf
  obtain ⟨xs, m, _, _, hlen, hl, hi⟩ := DataW.trod_struct ht hf
  simp only [Prod.mk.injEq] at e0 e1 e2 e3
  have g0 := hi 0 f0 rfl
  have g1 := hi 1 f1 rfl
  have g2 := hi 2 f2 rfl
  have g3 := hi 3 f3 rfl
  rw [e0.1, e0.2, cr] at g0
  rw [e1.1, e1.2, cf] at g1
  rw [e2.1, e2.2, cf] at g2
  rw [e3.1, e3.2, ce] at g3
  rw [List.getElem?_eq_getElem (by simp_all)] at g0 g1 g2 g3
  have hlen : cs.toList.length = 15 := hlen.trans ct
  obtain ⟨s, f, n, k, q0, w0, z0⟩ := hr _ _ _ g0
  obtain ⟨tk, ta, tb, tc, tx, ty, q1, w1⟩ := hfil _ _ _ g1
  obtain ⟨dk, da, db, dc, dx, dy, q2, w2⟩ := hfil _ _ _ g2
  obtain ⟨l⟩ := cs
  simp only at *
  match l, hlen with
  | [v0, v1, v2, v3, v4, v5, v6, v7, v8, v9, v10, v11, v12, v13, v14], _ =>
    simp only [List.drop_zero, List.drop_succ_cons, List.take_succ_cons, List.take_zero, List.cons.injEq, and_true] at q0 q1 q2 g3
    obtain ⟨rfl, rfl⟩ := q0
    obtain ⟨rfl, rfl, rfl, rfl, rfl, rfl⟩ := q1
    obtain ⟨rfl, rfl, rfl, rfl, rfl, rfl⟩ := q2
    obtain ⟨lo, rfl, hlo⟩ := trod_float_cell he g3
    exact ⟨_, f, n, k, tk, ta, tb, tc, tx, ty, dk, da, db, dc, dx, dy, lo, rfl, ⟨w0, w1.1, w1.2.1, w1.2.2.1, w1.2.2.2.1, w1.2.2.2.2.1, w1.2.2.2.2.2, w2.1, w2.2.1, w2.2.2.1, w2.2.2.2.1, w2.2.2.2.2.1, w2.2.2.2.2.2, hlo⟩, z0⟩
end
end Go.Fk

/- Laws for operations that are guarded and wanted. Nothing here names a program. -/
namespace Go.Fk
open Go Go.RowKit
section
variable {P : Program} {w : World} {ops : Array Oper} {rest : List Oper} {o : Oper} {a : Act} {Q : Exit → Act → World → Prop}
theorem wpList_wanted (hw : Region.wanted o (yielded ops a.tmps) = true) (h : ∀ K : Act → World → Prop, (∀ a w, wpList P ops Q rest a w → K a w) → o.wp P a w K Q) : wpList P ops Q (o :: rest) a w :=
  wpList_step fun K hK => by simp only [hw, if_true]; exact h K hK
theorem wpList_widenG {src dst : TypeId} {x : Operand} (hop : o.op = Op.convert src dst x) {b : Nat} (hx : a.eval x = .float .f32 b)
    (hs : P.underlying src = some (.float .f32)) (hd : P.underlying dst = some (.float .f64)) (hw : Region.wanted o (yielded ops a.tmps) = true)
    (hK : ∀ r n, Hid (can .f64 r = can .f64 (widen b)) → Hid (fits .f64 r) → wpList P ops Q rest (a.put o.dst (.float .f64 r)) (w.drewN n)) : wpList P ops Q (o :: rest) a w := by
  refine wpList_wanted hw fun K hK' => ?_
  obtain ⟨r, n, hrun, hr, hf⟩ := run_widen (P := P) w src dst b hs hd
  unfold Oper.wp
  simp [execOp, hop, hx, hrun, Result.andThen]
  exact hK' _ _ (hK r n hr hf)
end
end Go.Fk

/- Strings that go on, plainly. Nothing here names a program. -/
namespace Go.Fk
open Go Go.RowKit
/-- The string behind some steps, in which these samples come. -/
def goS (q : StS) (f : Nat → Nat) : Nat → StS
  | 0 => q
  | k + 1 => stepS (goS q f k) (f k)
/-- What the step with an index makes. -/
def outS (q : StS) (f : Nat → Nat) (k : Nat) : Nat := (goS q f k).x (goS q f k).j
/-- It is valid, and its samples fit. -/
structure StS.Fit (q : StS) : Prop where
  ok : q.Ok
  x : ∀ i, i < q.n → fits .f32 (q.x i)
theorem StS.Fit.j {q : StS} (h : q.Fit) : fits .f32 (q.x q.j) := h.x _ h.ok.j1
theorem StS.Fit.step {q : StS} (h : q.Fit) {a : Nat} : (stepS q a).Fit where
  ok := h.ok.step a h.j
  x := fun i hi => by
    show fits .f32 (pushX q.x q.j (nextS q a) i)
    unfold pushX
    split
    · exact fits_can (fits_nextS q a)
    · exact h.x i hi
theorem StS.Fit.run {q : StS} (h : q.Fit) (f : Nat → Nat) (k : Nat) : (goS q f k).Fit := by
  induction k with
  | zero => exact h
  | succ k ih => exact ih.step
section
variable (q : StS) (f : Nat → Nat) (k : Nat)
theorem goS_n : (goS q f k).n = q.n := by induction k with | zero => rfl | succ k ih => exact ih
theorem goS_ta : (goS q f k).ta = q.ta := by induction k with | zero => rfl | succ k ih => exact ih
theorem goS_tb : (goS q f k).tb = q.tb := by induction k with | zero => rfl | succ k ih => exact ih
theorem goS_tc : (goS q f k).tc = q.tc := by induction k with | zero => rfl | succ k ih => exact ih
theorem goS_da : (goS q f k).da = q.da := by induction k with | zero => rfl | succ k ih => exact ih
theorem goS_db : (goS q f k).db = q.db := by induction k with | zero => rfl | succ k ih => exact ih
theorem goS_dc : (goS q f k).dc = q.dc := by induction k with | zero => rfl | succ k ih => exact ih
theorem goS_l : (goS q f k).l = q.l := by induction k with | zero => rfl | succ k ih => exact ih
end
theorem RdS.fit {w : World} {B : Nat} {s : Value} {x : Nat → Nat} {n : Nat} (h : RdS w B s x n) : ∀ i, i < n → fits .f32 (x i) := by
  rcases h with ⟨_, rfl⟩ | ⟨a, cap, _, _, _, h5⟩
  · intro i hi; omega
  · intro i hi
    obtain ⟨_, y, _, h2, h3⟩ := h5 i hi
    rw [← h3]; exact fits_can h2
/-- The string with all samples and states 0. -/
def muteS (q : StS) : StS := { q with x := fun _ => 0, tx := 0, ty := 0, dx := 0, dy := 0 }
/-- Behind so many steps with 0 it is silent, and not before; or it is not behind K of them. -/
def ResSS (q : StS) (K : Nat) (n code : Int) : Prop :=
  (∃ m : Nat, n = m ∧ code = 0 ∧ m ≤ K ∧ silS (goS q (fun _ => 0) m) = true ∧ ∀ i, i < m → silS (goS q (fun _ => 0) i) = false) ∨ (n = 0 ∧ code = 7 ∧ ∀ i, i ≤ K → silS (goS q (fun _ => 0) i) = false)
theorem ResSS.one {q : StS} {K : Nat} {n d n' d' : Int} (h : ResSS q K n d) (h' : ResSS q K n' d') : n = n' ∧ d = d' := by
  rcases h with ⟨m, rfl, rfl, h1, h2, h3⟩ | ⟨rfl, rfl, h3⟩ <;> rcases h' with ⟨m', rfl, rfl, h1', h2', h3'⟩ | ⟨rfl, rfl, h3'⟩
  · rcases Nat.lt_trichotomy m m' with h | h | h
    · have := h3' m h; rw [h2] at this; cases this
    · subst h; exact ⟨rfl, rfl⟩
    · have := h3 m' h; rw [h2'] at this; cases this
  · have := h3' m h1; rw [h2] at this; cases this
  · have := h3 m' h1'; rw [h2'] at this; cases this
  · exact ⟨rfl, rfl⟩
theorem ResSS.ex (q : StS) (K : Nat) : ∃ n d, ResSS q K n d := by
  have key : (∃ m, m ≤ K ∧ silS (goS q (fun _ => 0) m) = true ∧ ∀ i, i < m → silS (goS q (fun _ => 0) i) = false) ∨ ∀ i, i ≤ K → silS (goS q (fun _ => 0) i) = false := by
    induction K with
    | zero =>
      cases h : silS (goS q (fun _ => 0) 0)
      · exact .inr (fun i hi => by obtain rfl : i = 0 := by omega
                                   exact h)
      · exact .inl ⟨0, Nat.le_refl _, h, fun i hi => absurd hi (by omega)⟩
    | succ K ih =>
      rcases ih with ⟨m, h1, h2, h3⟩ | h1
      · exact .inl ⟨m, by omega, h2, h3⟩
      · cases h : silS (goS q (fun _ => 0) (K + 1))
        · exact .inr (fun i hi => by
            rcases Nat.lt_or_ge i (K + 1) with h2 | h2
            · exact h1 i (by omega)
            · obtain rfl : i = K + 1 := by omega
              exact h)
        · exact .inl ⟨K + 1, Nat.le_refl _, h, fun i hi => h1 i (by omega)⟩
  rcases key with ⟨m, h1, h2, h3⟩ | h1
  · exact ⟨m, 0, .inl ⟨m, rfl, rfl, h1, h2, h3⟩⟩
  · exact ⟨0, 7, .inr ⟨rfl, rfl, h1⟩⟩
end Go.Fk

/- 'IsSilentString' of both. -/
namespace Go.Proofs.Ytmacednkpjfokaa
open Go.RowKit Go.Fk
set_option maxRecDepth 100000 in
set_option maxHeartbeats 4000000 in
theorem s_l03Silent (B : Nat) (s : Value) (q : StS) (g : Nat) (w : World) (hs : RdS w B s q.x q.n) (R : Row w g 48 #[s, .int .i64 (q.j : Nat), .int .i64 3, .float .f32 (q.ta), .float .f32 (q.tb), .float .f32 (q.tc), .float .f32 (q.tx), .float .f32 (q.ty), .int .i64 2, .float .f32 (q.da), .float .f32 (q.db), .float .f32 (q.dc), .float .f32 (q.dx), .float .f32 (q.dy), .float .f32 (q.l)]) (n1 : 1 ≤ q.n) (n2 : q.n ≤ 1024) :
    Calls Try.prog 82 #[.pointer (some ⟨g, 0, none⟩)] w fun e w' => e = .returned (.bool (silS q)) ∧ ∃ m, w' = w.drewN m := by
  obtain ⟨a, cap, y, rfl, hc, hm, hx⟩ := hs.raw n1
  unfold maxLen at hm
  have HX := hid hx
  clear hx hs
  have c0 := R.cell? 0
  have HT := hid (fun m => s_l02StillAt q.tx q.ty g 2 (w.drewN m) ((R.drewN m).cell? 6) ((R.drewN m).cell? 7))
  have HD := hid (fun m => s_l02StillAt q.dx q.dy g 8 (w.drewN m) ((R.drewN m).cell? 12) ((R.drewN m).cell? 13))
  have hs : silS q = (decide (loudN q.x q.n = 0) && (stillB q.tx q.ty && stillB q.dx q.dy)) := rfl
  rw [hs]
  go_enter Try.func82, Try.ntmps82
  go_wp2
  go_loopw [3] (fun i wr => ∃ k : Nat, k ≤ q.n ∧ i = .int .i64 k ∧ (∃ m, wr = w.drewN m) ∧ Hid (∀ i, i < k → zeroF (q.x i) = true)) (fun i _ => q.n - (intOf i).toNat)
  case atStart => exact ⟨0, by omega, rfl, ⟨0, rfl⟩, fun i hi => absurd hi (by omega)⟩
  case round =>
    obtain ⟨k, hk, rfl, ⟨m, rfl⟩, HK⟩ := hrel
    by_cases hlt : k < q.n
    · obtain ⟨ck, fk, ek⟩ := HX.out k hlt
      have HZ : Hid (zeroF (y k) = zeroF (q.x k)) := by unfold Hid; rw [← ek, zeroF_can]
      clear ek
      cases hz : zeroF (y k)
      · have HN : Hid (loudN q.x q.n ≠ 0) := by
          intro h
          have := loudN_zero.1 h k hlt
          rw [← HZ.out, hz] at this; cases this
        unfold zeroF at hz
        have h2 : (FloatKind.f32.format.order (y k) 0 != some .eq) = !(FloatKind.f32.format.order (y k) 0 == some .eq) := rfl
        rw [hz] at h2
        replace h2 := h2.trans (show _ = true from rfl)
        go_wp2
        go_ret
        exact ⟨ret_b (by simp [HN.out]), _, rfl⟩
      · have HZ2 : Hid (zeroF (q.x k) = true) := HZ.out.symm.trans hz
        unfold zeroF at hz
        have h2 : (FloatKind.f32.format.order (y k) 0 != some .eq) = !(FloatKind.f32.format.order (y k) 0 == some .eq) := rfl
        rw [hz] at h2
        replace h2 := h2.trans (show _ = false from rfl)
        go_wp2
        go_roundw
        case rel => exact ⟨k + 1, by omega, by go_num, ⟨_, rfl⟩, all_step (p := fun j => zeroF (q.x j) = true) HK.out HZ2.out⟩
        case measure => simp [intOf]; omega
    · obtain rfl : k = q.n := by omega
      have h0 : loudN q.x q.n = 0 := loudN_zero.2 HK.out
      replace h0 := hid h0
      cases h1 : stillB q.tx q.ty
      · rw [h1] at HT
        replace h1 := hid h1
        clear HD hs
        go_wp2_with (first | (go_at_call 57; ((with_reducible refine (HT.out _).mono ?_); rintro e w' ⟨rfl, rfl⟩)))
        go_ret
        exact ⟨ret_b (by simp [h1.out]), _, rfl⟩
      · rw [h1] at HT
        replace h1 := hid h1
        clear hs
        go_wp2_with (first | (go_at_call 57; first | ((with_reducible refine (HT.out _).mono ?_); rintro e w' ⟨rfl, rfl⟩) | ((with_reducible refine (HD.out _).mono ?_); rintro e w' ⟨rfl, rfl⟩)))
        go_ret
        exact ⟨ret_b (by simp [h0.out, h1.out]), _, rfl⟩
set_option maxRecDepth 100000 in
set_option maxHeartbeats 4000000 in
theorem s_IsSilentString_no (B : Nat) (s : Value) (x : Nat → Nat) (n : Nat) (k tk : Int) (ta tb tc tx ty : Nat) (dk : Int) (da db dc dx dy l : Nat) (w : World) (hs : RdS w B s x n) (hk : (Lit.int .i64 k).wf = true) (hv : okStr n k tk ta tb tc tx ty dk da db dc dx dy l = false) :
    Calls Try.prog 43 #[.agg #[s, .int .i64 k, .int .i64 tk, .float .f32 ta, .float .f32 tb, .float .f32 tc, .float .f32 tx, .float .f32 ty, .int .i64 dk, .float .f32 da, .float .f32 db, .float .f32 dc, .float .f32 dx, .float .f32 dy, .float .f32 l]] w (Out_bi false 1 w) := by
  have HV := hid (fun (w' : World) (g : Nat) (hl : le w w') (R : Row w' g 48 #[s, .int .i64 k, .int .i64 tk, .float .f32 ta, .float .f32 tb, .float .f32 tc, .float .f32 tx, .float .f32 ty, .int .i64 dk, .float .f32 da, .float .f32 db, .float .f32 dc, .float .f32 dx, .float .f32 dy, .float .f32 l]) => hv ▸ s_l03Ok B s x n k tk ta tb tc tx ty dk da db dc dx dy l g w' (hs.le hl) R hk)
  clear hs hk hv
  have F := ((Frg.nil w).box 48 #[s, .int .i64 k, .int .i64 tk, .float .f32 ta, .float .f32 tb, .float .f32 tc, .float .f32 tx, .float .f32 ty, .int .i64 dk, .float .f32 da, .float .f32 db, .float .f32 dc, .float .f32 dx, .float .f32 dy, .float .f32 l])
  go_enter Try.func43, Try.ntmps43
  go_wp2_with (first | (go_at_call 61; ((with_reducible refine (HV.out _ _ F.below (F.row (by first | exact m0 | exact m1 | exact m2 | exact m3 | exact m4 | exact m5))).mono ?_); rintro e w1 ⟨rfl, m, rfl⟩; replace F := F.drewN m)))
  go_ret2
  first | exact ⟨rfl, F.below⟩ | exact ⟨rfl, by rw [← World.drewN_drewN]; exact F.below⟩
set_option maxRecDepth 100000 in
set_option maxHeartbeats 4000000 in
theorem s_IsSilentString_yes (B : Nat) (s : Value) (q : StS) (w : World) (hs : RdS w B s q.x q.n) (ok : q.Ok) (hk : (Lit.int .i64 (q.j : Nat)).wf = true) (hv : okStr q.n (q.j : Nat) 3 q.ta q.tb q.tc q.tx q.ty 2 q.da q.db q.dc q.dx q.dy q.l = true) :
    Calls Try.prog 43 #[.agg #[s, .int .i64 (q.j : Nat), .int .i64 3, .float .f32 (q.ta), .float .f32 (q.tb), .float .f32 (q.tc), .float .f32 (q.tx), .float .f32 (q.ty), .int .i64 2, .float .f32 (q.da), .float .f32 (q.db), .float .f32 (q.dc), .float .f32 (q.dx), .float .f32 (q.dy), .float .f32 (q.l)]] w (Out_bi (silS q) 0 w) := by
  have HV := hid (fun (w' : World) (g : Nat) (hl : le w w') (R : Row w' g 48 #[s, .int .i64 (q.j : Nat), .int .i64 3, .float .f32 (q.ta), .float .f32 (q.tb), .float .f32 (q.tc), .float .f32 (q.tx), .float .f32 (q.ty), .int .i64 2, .float .f32 (q.da), .float .f32 (q.db), .float .f32 (q.dc), .float .f32 (q.dx), .float .f32 (q.dy), .float .f32 (q.l)]) => hv ▸ s_l03Ok B s q.x q.n (q.j : Nat) 3 q.ta q.tb q.tc q.tx q.ty 2 q.da q.db q.dc q.dx q.dy q.l g w' (hs.le hl) R hk)
  have HSL := hid (fun (w' : World) (g : Nat) (hl : le w w') (R : Row w' g 48 #[s, .int .i64 (q.j : Nat), .int .i64 3, .float .f32 (q.ta), .float .f32 (q.tb), .float .f32 (q.tc), .float .f32 (q.tx), .float .f32 (q.ty), .int .i64 2, .float .f32 (q.da), .float .f32 (q.db), .float .f32 (q.dc), .float .f32 (q.dx), .float .f32 (q.dy), .float .f32 (q.l)]) => s_l03Silent B s q g w' (hs.le hl) R ok.n1 ok.n2)
  clear hs hk hv ok
  have F := ((Frg.nil w).box 48 #[s, .int .i64 (q.j : Nat), .int .i64 3, .float .f32 (q.ta), .float .f32 (q.tb), .float .f32 (q.tc), .float .f32 (q.tx), .float .f32 (q.ty), .int .i64 2, .float .f32 (q.da), .float .f32 (q.db), .float .f32 (q.dc), .float .f32 (q.dx), .float .f32 (q.dy), .float .f32 (q.l)])
  go_enter Try.func43, Try.ntmps43
  go_wp2_with (first | (go_at_call 61; ((with_reducible refine (HV.out _ _ F.below (F.row (by first | exact m0 | exact m1 | exact m2 | exact m3 | exact m4 | exact m5))).mono ?_); rintro e w1 ⟨rfl, m, rfl⟩; replace F := F.drewN m)) | (go_at_call 82; ((with_reducible refine (HSL.out _ _ F.below (F.row (by first | exact m0 | exact m1 | exact m2 | exact m3 | exact m4 | exact m5))).mono ?_); rintro e w2 ⟨rfl, m2, rfl⟩; replace F := F.drewN m2)))
  go_ret2
  first | exact ⟨rfl, F.below⟩ | exact ⟨rfl, by rw [← World.drewN_drewN]; exact F.below⟩
set_option maxRecDepth 100000 in
set_option maxHeartbeats 4000000 in
theorem i_IsSilentString_no (B : Nat) (s : Value) (x : Nat → Nat) (n : Nat) (k tk : Int) (ta tb tc tx ty : Nat) (dk : Int) (da db dc dx dy l : Nat) (w : World) (hs : RdS w B s x n) (hf : fits .f32 ta ∧ fits .f32 tb ∧ fits .f32 tc ∧ fits .f32 tx ∧ fits .f32 ty) (hg : fits .f32 da ∧ fits .f32 db ∧ fits .f32 dc ∧ fits .f32 dx ∧ fits .f32 dy) (hl2 : fits .f32 l) (hv : okStr n k tk ta tb tc tx ty dk da db dc dx dy l = false) :
    Calls Try.prog 44 #[.agg #[s, .int .i64 k, .int .i64 tk, .float .f32 ta, .float .f32 tb, .float .f32 tc, .float .f32 tx, .float .f32 ty, .int .i64 dk, .float .f32 da, .float .f32 db, .float .f32 dc, .float .f32 dx, .float .f32 dy, .float .f32 l]] w (Out_bi false 1 w) := by
  have HV := hid (fun (w' : World) (hl : le w w') => hv ▸ i_ValidStringR B s x n k tk ta tb tc tx ty dk da db dc dx dy l w' (hs.le hl) hf hg hl2)
  clear hs hv hf hg hl2
  have F := ((Frg.nil w).box 48 #[s, .int .i64 k, .int .i64 tk, .float .f32 ta, .float .f32 tb, .float .f32 tc, .float .f32 tx, .float .f32 ty, .int .i64 dk, .float .f32 da, .float .f32 db, .float .f32 dc, .float .f32 dx, .float .f32 dy, .float .f32 l])
  go_enter Try.func44, Try.ntmps44
  go_wp2_with (first | ((with_reducible refine at_loadU rfl rfl ?_); (with_reducible refine wpList_loadG F rfl rfl rfl (by first | exact m0 | exact m1 | exact m2 | exact m3 | exact m4 | exact m5) Try.underlying48 rfl infoStr rfl ?_)) | (go_at_call 66; ((with_reducible refine (HV.out _ F.below).mono ?_); rintro e w1 ⟨rfl, hl⟩; replace F := F.le hl; clear hl)))
  go_ret2
  first | exact ⟨rfl, F.below⟩ | exact ⟨rfl, by rw [← World.drewN_drewN]; exact F.below⟩
set_option maxRecDepth 100000 in
set_option maxHeartbeats 4000000 in
theorem i_IsSilentString_yes (B : Nat) (s : Value) (q : StS) (w : World) (hs : RdS w B s q.x q.n) (ok : q.Ok) (hv : okStr q.n (q.j : Nat) 3 q.ta q.tb q.tc q.tx q.ty 2 q.da q.db q.dc q.dx q.dy q.l = true) :
    Calls Try.prog 44 #[.agg #[s, .int .i64 (q.j : Nat), .int .i64 3, .float .f32 (q.ta), .float .f32 (q.tb), .float .f32 (q.tc), .float .f32 (q.tx), .float .f32 (q.ty), .int .i64 2, .float .f32 (q.da), .float .f32 (q.db), .float .f32 (q.dc), .float .f32 (q.dx), .float .f32 (q.dy), .float .f32 (q.l)]] w (Out_bi (silS q) 0 w) := by
  have HV := hid (fun (w' : World) (hl : le w w') => hv ▸ i_ValidStringR B s q.x q.n (q.j : Nat) 3 q.ta q.tb q.tc q.tx q.ty 2 q.da q.db q.dc q.dx q.dy q.l w' (hs.le hl) ⟨ok.fta, ok.ftb, ok.ftc, ok.ftx, ok.fty⟩ ⟨ok.fda, ok.fdb, ok.fdc, ok.fdx, ok.fdy⟩ ok.fl)
  have HN := hid (fun (w' : World) (hl : le w w') => i_newLoop B s q w' (hs.le hl) ok)
  clear hs hv ok
  have F := ((Frg.nil w).box 48 #[s, .int .i64 (q.j : Nat), .int .i64 3, .float .f32 (q.ta), .float .f32 (q.tb), .float .f32 (q.tc), .float .f32 (q.tx), .float .f32 (q.ty), .int .i64 2, .float .f32 (q.da), .float .f32 (q.db), .float .f32 (q.dc), .float .f32 (q.dx), .float .f32 (q.dy), .float .f32 (q.l)])
  go_enter Try.func44, Try.ntmps44
  go_wp2_with (first | ((with_reducible refine at_loadU rfl rfl ?_); (with_reducible refine wpList_loadG F rfl rfl rfl (by first | exact m0 | exact m1 | exact m2 | exact m3 | exact m4 | exact m5) Try.underlying48 rfl infoStr rfl ?_)) | (go_at_call 66; ((with_reducible refine (HV.out _ F.below).mono ?_); rintro e w1 ⟨rfl, hl⟩; replace F := F.le hl; clear hl)) | (go_at_call 77; ((with_reducible refine (HN.out _ F.below).mono ?_); rintro e w2 ⟨g, rfl, hlp, hl⟩; replace F := F.push (e := lpF _ _ g q) hl hlp (Nat.le_refl _) (Nat.le_refl _); clear hlp hl)) | (go_at_call 83; ((with_reducible refine (i_loopStill _ _ _ q _ (Frg.lp F m0)).mono ?_); rintro e w4 ⟨rfl, rfl⟩)))
  go_ret2
  first | exact ⟨rfl, F.below⟩ | exact ⟨rfl, by rw [← World.drewN_drewN]; exact F.below⟩
theorem both_IsSilentString (x : Nat → Nat) (n : Nat) (k tk : Int) (ta tb tc tx ty : Nat) (dk : Int) (da db dc dx dy l : Nat) (hw : (Lit.int .i64 k).wf = true ∧ (Lit.int .i64 tk).wf = true ∧ fits .f32 ta ∧ fits .f32 tb ∧ fits .f32 tc ∧ fits .f32 tx ∧ fits .f32 ty ∧ (Lit.int .i64 dk).wf = true ∧ fits .f32 da ∧ fits .f32 db ∧ fits .f32 dc ∧ fits .f32 dx ∧ fits .f32 dy ∧ fits .f32 l) : ∃ (ar0 : Bool) (ar1 : Int), (∀ (w : World) (B : Nat) (u : Value), RdS w B u x n → Calls Try.prog 43 #[.agg #[u, .int .i64 k, .int .i64 tk, .float .f32 ta, .float .f32 tb, .float .f32 tc, .float .f32 tx, .float .f32 ty, .int .i64 dk, .float .f32 da, .float .f32 db, .float .f32 dc, .float .f32 dx, .float .f32 dy, .float .f32 l]] w (Out_bi ar0 ar1 w)) ∧ (∀ (w : World) (B : Nat) (u : Value), RdS w B u x n → Calls Try.prog 44 #[.agg #[u, .int .i64 k, .int .i64 tk, .float .f32 ta, .float .f32 tb, .float .f32 tc, .float .f32 tx, .float .f32 ty, .int .i64 dk, .float .f32 da, .float .f32 db, .float .f32 dc, .float .f32 dx, .float .f32 dy, .float .f32 l]] w (Out_bi ar0 ar1 w)) := by
  obtain ⟨hk, _, h1, h2, h3, h4, h5, _, g1, g2, g3, g4, g5, hl⟩ := hw
  cases hv : okStr n k tk ta tb tc tx ty dk da db dc dx dy l
  · exact ⟨false, 1, fun w B u h => s_IsSilentString_no B u x n k tk ta tb tc tx ty dk da db dc dx dy l w h hk hv, fun w B u h => i_IsSilentString_no B u x n k tk ta tb tc tx ty dk da db dc dx dy l w h ⟨h1, h2, h3, h4, h5⟩ ⟨g1, g2, g3, g4, g5⟩ hl hv⟩
  · obtain ⟨j, rfl, rfl, rfl, ok⟩ := okStr_q (x := x) hv ⟨h1, h2, h3, h4, h5⟩ ⟨g1, g2, g3, g4, g5⟩ hl
    exact ⟨_, _, fun w B u h => s_IsSilentString_yes B u (⟨x, n, j, ta, tb, tc, tx, ty, da, db, dc, dx, dy, l⟩ : StS) w h ok hk hv, fun w B u h => i_IsSilentString_yes B u (⟨x, n, j, ta, tb, tc, tx, ty, da, db, dc, dx, dy, l⟩ : StS) w h ok hv⟩
end Go.Proofs.Ytmacednkpjfokaa

/- 'StepsToStill' of both. -/
namespace Go.Proofs.Ytmacednkpjfokaa
open Go.RowKit Go.Fk
set_option maxHeartbeats 2000000 in
theorem i_leastSteps (k : Int) (a b c x y K g : Nat) (w : World) (hk : 1 ≤ k ∧ k ≤ 5) (hK : K ≤ 100000) (hx : fits .f32 x) (hy : fits .f32 y) (R : Row w g 88 #[mdl k a b c, .float .f32 x, .float .f32 y]) :
    Calls Try.prog 59 #[.iface 82 (.pointer (some ⟨g, 0, none⟩)), .int .i64 K, .int .i64 100000] w fun e w' => ∃ n d, e = .returned (.tuple #[.int .i64 n, .int .i64 d]) ∧ ResST k a b c x y K n d ∧ Upd g w w' := by
  have HK := hid hk
  have HN := hid (fun n => fits_stN (k := k) (a := a) (b := b) (c := c) hx hy n)
  have hK1 : (K : Int) ≤ 100000 := by omega
  have hK0 : 0 ≤ (K : Int) := by omega
  have HR := hid R; clear R hx hy hk
  go_enter Try.func59, Try.ntmps59
  go_wp2_with fail
  go_loopw [18] (fun i wr => ∃ j : Nat, j ≤ K + 1 ∧ i = .int .i64 j ∧ Hid (∀ m, m < j → stillN k a b c x y m = false) ∧ Hid (Row wr g 88 #[mdl k a b c, .float .f32 (stN k a b c x y j).1, .float .f32 (stN k a b c x y j).2]) ∧ Hid (Upd g w wr)) (fun i _ => (K + 1) - (intOf i).toNat)
  case atStart => exact ⟨0, by omega, rfl, fun m hm => absurd hm (by omega), HR.out, Upd.refl g w⟩
  case round =>
    obtain ⟨j, hj, rfl, HJ, RJ, UJ⟩ := hrel
    by_cases hlt : j < K + 1
    · have hlt' : (j : Int) < (K : Int) + 1 := by omega
      cases hs : stillB (stN k a b c x y j).1 (stN k a b c x y j).2
      · have hS := hid (fun w R => i_isStill (mdl k a b c) (stN k a b c x y j).1 (stN k a b c x y j).2 g w R)
        rw [hs] at hS
        replace hs := hid hs
        go_wp2_with (first | (go_at_call 103; ((with_reducible refine (hS.out _ RJ.out).mono ?_); rintro e w3 ⟨rfl, rfl⟩)) | (go_at_call 100; ((with_reducible refine (i_step _ _ _ _ _ _ _ _ _ HK.out RJ.out (HN.out _).1 fits_zero).mono ?_); rintro e w4 ⟨r, rfl, hr, fr, hR, hU⟩; replace RJ := hid hR; replace UJ := hid (UJ.out.trans hU); clear hR hU hr fr)))
        go_roundw
        case rel => exact ⟨j + 1, by omega, by go_num, fun m hm => by rcases Nat.lt_or_ge m j with h | h; exact HJ.out m h; rw [show m = j by omega]; exact hs.out, RJ.out, UJ.out⟩
        case measure => simp [intOf]; omega
      · have hS := hid (fun w R => i_isStill (mdl k a b c) (stN k a b c x y j).1 (stN k a b c x y j).2 g w R)
        rw [hs] at hS
        replace hs := hid hs
        go_wp2_with (first | (go_at_call 103; ((with_reducible refine (hS.out _ RJ.out).mono ?_); rintro e w3 ⟨rfl, rfl⟩)))
        go_ret2
        exact ⟨_, _, rfl, .inl ⟨rfl, j, rfl, by omega, hs.out, HJ.out⟩, UJ.out⟩
    · have hlt' : ¬ (j : Int) < (K : Int) + 1 := by omega
      obtain rfl : j = K + 1 := by omega
      go_wp2
      go_ret2
      exact ⟨_, _, rfl, .inr ⟨rfl, rfl, fun i hi => HJ.out i (by omega)⟩, UJ.out⟩
theorem i_leastSteps_out (v : Value) (m : Int) (w : World) (hm : m < 0 ∨ 100000 < m) :
    Calls Try.prog 59 #[v, .int .i64 m, .int .i64 100000] w fun e w' => e = .returned (.tuple #[.int .i64 0, .int .i64 2]) ∧ w = w' := by
  rcases (show m < 0 ∨ (¬ m < 0 ∧ 100000 < m) by omega) with h | ⟨h, h'⟩
  all_goals
    clear hm
    go_enter Try.func59, Try.ntmps59
    go_wp2
    go_ret2
    exact ⟨rfl, rfl⟩
set_option maxHeartbeats 2000000 in
theorem i_Steps_yes (k : Int) (a b c x y K : Nat) (w : World) (hv : okF k a b c x y = true) (hK : K ≤ 100000) (hf : fits .f32 a ∧ fits .f32 b ∧ fits .f32 c ∧ fits .f32 x ∧ fits .f32 y) :
    Calls Try.prog 20 #[(.agg #[.int .i64 k, .float .f32 a, .float .f32 b, .float .f32 c, .float .f32 x, .float .f32 y]), .int .i64 K] w (OutST k a b c x y K w) := by
  have Hf := hid hf; clear hf
  have hV := hid (fun w => i_ValidFilter k a b c x y w Hf.out)
  have HK := hid (okF_kind hv)
  rw [hv] at hV
  clear hv
  have HL := hid (fun (w : World) (g : Nat) (R : Row w g 88 #[mdl k a b c, .float .f32 x, .float .f32 y]) => i_leastSteps k a b c x y K g w HK.out hK Hf.out.2.2.2.1 Hf.out.2.2.2.2 R)
  have F := (Frm.nil w).box 28 (#[.int .i64 k, .float .f32 a, .float .f32 b, .float .f32 c, .float .f32 x, .float .f32 y] : Array Value)
  go_enter Try.func20, Try.ntmps20
  go_wp2_with (first | ((with_reducible refine at_load rfl ?_); first | (with_reducible refine wpList_loadFr F rfl rfl rfl (by first | exact List.mem_cons_self | exact List.mem_cons_of_mem _ (List.mem_cons_self) | exact List.mem_cons_of_mem _ (List.mem_cons_of_mem _ (List.mem_cons_self)) | exact List.mem_cons_of_mem _ (List.mem_cons_of_mem _ (List.mem_cons_of_mem _ (List.mem_cons_self))) | exact List.mem_cons_of_mem _ (List.mem_cons_of_mem _ (List.mem_cons_of_mem _ (List.mem_cons_of_mem _ (List.mem_cons_self)))) | exact List.mem_cons_of_mem _ (List.mem_cons_of_mem _ (List.mem_cons_of_mem _ (List.mem_cons_of_mem _ (List.mem_cons_of_mem _ (List.mem_cons_self))))) | exact List.mem_cons_of_mem _ (List.mem_cons_of_mem _ (List.mem_cons_of_mem _ (List.mem_cons_of_mem _ (List.mem_cons_of_mem _ (List.mem_cons_of_mem _ (List.mem_cons_self))))))) Try.underlying28 rfl infoFil (by simp [size_ftab]) ?_) | (with_reducible refine wpList_loadFr (F.box _ _) rfl rfl rfl (by first | exact List.mem_cons_self | exact List.mem_cons_of_mem _ (List.mem_cons_self) | exact List.mem_cons_of_mem _ (List.mem_cons_of_mem _ (List.mem_cons_self)) | exact List.mem_cons_of_mem _ (List.mem_cons_of_mem _ (List.mem_cons_of_mem _ (List.mem_cons_self))) | exact List.mem_cons_of_mem _ (List.mem_cons_of_mem _ (List.mem_cons_of_mem _ (List.mem_cons_of_mem _ (List.mem_cons_self)))) | exact List.mem_cons_of_mem _ (List.mem_cons_of_mem _ (List.mem_cons_of_mem _ (List.mem_cons_of_mem _ (List.mem_cons_of_mem _ (List.mem_cons_self))))) | exact List.mem_cons_of_mem _ (List.mem_cons_of_mem _ (List.mem_cons_of_mem _ (List.mem_cons_of_mem _ (List.mem_cons_of_mem _ (List.mem_cons_of_mem _ (List.mem_cons_self))))))) Try.underlying28 rfl infoFil (by simp [size_ftab]) ?_)) | (go_at_call 51; ((with_reducible refine (hV.out _).mono ?_); rintro e w1 ⟨rfl, hb1⟩; replace F := F.le hb1)) | (go_at_call 52; ((with_reducible refine (i_newRunner _ _ _ _ _ _ _ HK.out).mono ?_); rintro e w2 ⟨g, rfl, hg, hR, hl⟩; have hge := hid (Nat.le_trans F.below.size hg); have hle2 := hid (le_trans F.below hl); replace F := hid hR; clear hR hl hg)) | (go_at_call 59; ((with_reducible refine (HL.out _ _ F.out).mono ?_); rintro e w3 ⟨n, d, rfl, hres, hU⟩; replace hres := hid hres; replace hU := hid hU)))
  go_ret2
  exact ⟨_, _, rfl, hres.out, Below.trans hle2.out (hU.out.below hge.out hle2.out.size)⟩
set_option maxHeartbeats 2000000 in
theorem s_Steps_yes (k : Int) (a b c x y K : Nat) (w : World) (hv : okF k a b c x y = true) (hK : K ≤ 100000) (hx : fits .f32 x) (hy : fits .f32 y) :
    Calls Try.prog 19 #[(.agg #[.int .i64 k, .float .f32 a, .float .f32 b, .float .f32 c, .float .f32 x, .float .f32 y]), .int .i64 K] w (OutST k a b c x y K w) := by
  have hV := hid (fun g w (R : Row w g 28 (#[.int .i64 k, .float .f32 a, .float .f32 b, .float .f32 c, .float .f32 x, .float .f32 y] : Array Value)) => s_Ok k a b c x y g w R)
  have HV := hid (fun n => okF_stN hv n)
  have HN := hid (fun n => fits_stN (k := k) (a := a) (b := b) (c := c) hx hy n)
  rw [hv] at hV
  clear hv hx hy
  have hK1 : (K : Int) ≤ 100000 := by omega
  have hK0 : 0 ≤ (K : Int) := by omega
  have hIn : Hid (∀ w, Calls Try.prog 56 #[.int .i64 K, .int .i64 0, .int .i64 100000] w fun e w' => e = .returned (.bool true) ∧ w = w') := fun w => by
    have h := s_In K 0 100000 w
    rwa [show (decide ((0 : Int) ≤ K) && decide ((K : Int) ≤ 100000)) = true by simp only [Bool.and_eq_true, decide_eq_true_eq]; omega] at h
  have F := (Frm.nil w).box 28 (#[.int .i64 k, .float .f32 a, .float .f32 b, .float .f32 c, .float .f32 x, .float .f32 y] : Array Value)
  go_enter Try.func19, Try.ntmps19
  go_wp2_with (first | (go_at_call 47; ((with_reducible refine (hV.out _ _ (F.row List.mem_cons_self)).mono ?_); rintro e w1 ⟨rfl, n1, rfl⟩; replace F := F.drewN n1)) | (go_at_call 56; ((with_reducible refine (hIn.out _).mono ?_); rintro e w1 ⟨rfl, rfl⟩)))
  replace F := hid F
  go_loopw [6] (fun i wr => ∃ j : Nat, j ≤ K + 1 ∧ i = .int .i64 j ∧ Hid (∀ m, m < j → stillN k a b c x y m = false) ∧ Hid (Frm w wr [(w.heap.size, 28, (#[.int .i64 k, .float .f32 a, .float .f32 b, .float .f32 c, .float .f32 (stN k a b c x y j).1, .float .f32 (stN k a b c x y j).2] : Array Value))])) (fun i _ => (K + 1) - (intOf i).toNat)
  case atStart => exact ⟨0, by omega, rfl, fun m hm => absurd hm (by omega), F⟩
  case round =>
    obtain ⟨j, hj, rfl, HJ, FJ⟩ := hrel
    clear F
    by_cases hlt : j ≤ K
    · have hjK : (j : Int) ≤ K := by omega
      cases hs : stillB (stN k a b c x y j).1 (stN k a b c x y j).2
      · have hS := hid (fun w R => s_l02Still k a b c (stN k a b c x y j).1 (stN k a b c x y j).2 w.heap.size w R)
        have hS := hid (fun w g R => s_l02Still k a b c (stN k a b c x y j).1 (stN k a b c x y j).2 g w R)
        rw [hs] at hS
        replace hs := hid hs
        go_wp2_with (first | (go_at_call 57; ((with_reducible refine (hS.out _ _ (FJ.out.row List.mem_cons_self)).mono ?_); rintro e w3 ⟨rfl, rfl⟩)) | (go_at_call 58; ((with_reducible refine (s_Step _ _ _ _ _ _ _ _ _ (HV.out _) (FJ.out.row List.mem_cons_self) (HN.out _).1 fits_zero).mono ?_); rintro e w3 ⟨r, rfl, _, _, hR, hU⟩; replace FJ := hid (FJ.out.upd hR hU (Nat.le_refl _) (L' := []) (by simp)); clear hR hU)))
        go_roundw
        case rel => exact ⟨j + 1, by omega, by go_num, fun m hm => by rcases Nat.lt_or_ge m j with h | h; exact HJ.out m h; rw [show m = j by omega]; exact hs.out, FJ⟩
        case measure => simp [intOf]; omega
      · have hS := hid (fun w g R => s_l02Still k a b c (stN k a b c x y j).1 (stN k a b c x y j).2 g w R)
        rw [hs] at hS
        replace hs := hid hs
        go_wp2_with (first | (go_at_call 57; ((with_reducible refine (hS.out _ _ (FJ.out.row List.mem_cons_self)).mono ?_); rintro e w3 ⟨rfl, rfl⟩)))
        go_ret2
        exact ⟨_, _, rfl, .inl ⟨rfl, j, rfl, by omega, hs.out, HJ.out⟩, FJ.out.below⟩
    · have hjK : ¬ (j : Int) ≤ K := by omega
      obtain rfl : j = K + 1 := by omega
      go_wp2
      go_ret2
      exact ⟨_, _, rfl, .inr ⟨rfl, rfl, fun i hi => HJ.out i (by omega)⟩, FJ.out.below⟩
set_option maxHeartbeats 1000000 in
theorem i_Steps_no (k : Int) (a b c x y : Nat) (m : Int) (w : World) (hv : okF k a b c x y = false) (hf : fits .f32 a ∧ fits .f32 b ∧ fits .f32 c ∧ fits .f32 x ∧ fits .f32 y) :
    Calls Try.prog 20 #[(.agg #[.int .i64 k, .float .f32 a, .float .f32 b, .float .f32 c, .float .f32 x, .float .f32 y]), .int .i64 m] w fun e w' => e = .returned (.tuple #[.int .i64 0, .int .i64 1]) ∧ le w w' := by
  have Hf := hid hf; clear hf
  have hV := hid (fun w => i_ValidFilter k a b c x y w Hf.out)
  rw [hv] at hV
  clear hv
  have F := (Frm.nil w).box 28 (#[.int .i64 k, .float .f32 a, .float .f32 b, .float .f32 c, .float .f32 x, .float .f32 y] : Array Value)
  go_enter Try.func20, Try.ntmps20
  go_wp2_with (first | ((with_reducible refine at_load rfl ?_); first | (with_reducible refine wpList_loadFr F rfl rfl rfl (by first | exact List.mem_cons_self | exact List.mem_cons_of_mem _ (List.mem_cons_self) | exact List.mem_cons_of_mem _ (List.mem_cons_of_mem _ (List.mem_cons_self)) | exact List.mem_cons_of_mem _ (List.mem_cons_of_mem _ (List.mem_cons_of_mem _ (List.mem_cons_self))) | exact List.mem_cons_of_mem _ (List.mem_cons_of_mem _ (List.mem_cons_of_mem _ (List.mem_cons_of_mem _ (List.mem_cons_self)))) | exact List.mem_cons_of_mem _ (List.mem_cons_of_mem _ (List.mem_cons_of_mem _ (List.mem_cons_of_mem _ (List.mem_cons_of_mem _ (List.mem_cons_self))))) | exact List.mem_cons_of_mem _ (List.mem_cons_of_mem _ (List.mem_cons_of_mem _ (List.mem_cons_of_mem _ (List.mem_cons_of_mem _ (List.mem_cons_of_mem _ (List.mem_cons_self))))))) Try.underlying28 rfl infoFil (by simp [size_ftab]) ?_) | (with_reducible refine wpList_loadFr (F.box _ _) rfl rfl rfl (by first | exact List.mem_cons_self | exact List.mem_cons_of_mem _ (List.mem_cons_self) | exact List.mem_cons_of_mem _ (List.mem_cons_of_mem _ (List.mem_cons_self)) | exact List.mem_cons_of_mem _ (List.mem_cons_of_mem _ (List.mem_cons_of_mem _ (List.mem_cons_self))) | exact List.mem_cons_of_mem _ (List.mem_cons_of_mem _ (List.mem_cons_of_mem _ (List.mem_cons_of_mem _ (List.mem_cons_self)))) | exact List.mem_cons_of_mem _ (List.mem_cons_of_mem _ (List.mem_cons_of_mem _ (List.mem_cons_of_mem _ (List.mem_cons_of_mem _ (List.mem_cons_self))))) | exact List.mem_cons_of_mem _ (List.mem_cons_of_mem _ (List.mem_cons_of_mem _ (List.mem_cons_of_mem _ (List.mem_cons_of_mem _ (List.mem_cons_of_mem _ (List.mem_cons_self))))))) Try.underlying28 rfl infoFil (by simp [size_ftab]) ?_)) | (go_at_call 51; ((with_reducible refine (hV.out _).mono ?_); rintro e w1 ⟨rfl, hb1⟩; replace F := F.le hb1)))
  go_ret2
  exact ⟨rfl, F.below⟩
set_option maxHeartbeats 1000000 in
theorem i_Steps_out (k : Int) (a b c x y : Nat) (m : Int) (w : World) (hv : okF k a b c x y = true) (hm : m < 0 ∨ 100000 < m) (hf : fits .f32 a ∧ fits .f32 b ∧ fits .f32 c ∧ fits .f32 x ∧ fits .f32 y) :
    Calls Try.prog 20 #[(.agg #[.int .i64 k, .float .f32 a, .float .f32 b, .float .f32 c, .float .f32 x, .float .f32 y]), .int .i64 m] w fun e w' => e = .returned (.tuple #[.int .i64 0, .int .i64 2]) ∧ le w w' := by
  have Hf := hid hf; clear hf
  have hV := hid (fun w => i_ValidFilter k a b c x y w Hf.out)
  have hk := okF_kind hv
  rw [hv] at hV
  clear hv
  have F := (Frm.nil w).box 28 (#[.int .i64 k, .float .f32 a, .float .f32 b, .float .f32 c, .float .f32 x, .float .f32 y] : Array Value)
  have HK := hid hk
  have HL := hid (fun (v : Value) (w : World) => i_leastSteps_out v m w hm)
  clear hm hk
  go_enter Try.func20, Try.ntmps20
  go_wp2_with (first | ((with_reducible refine at_load rfl ?_); first | (with_reducible refine wpList_loadFr F rfl rfl rfl (by first | exact List.mem_cons_self | exact List.mem_cons_of_mem _ (List.mem_cons_self) | exact List.mem_cons_of_mem _ (List.mem_cons_of_mem _ (List.mem_cons_self)) | exact List.mem_cons_of_mem _ (List.mem_cons_of_mem _ (List.mem_cons_of_mem _ (List.mem_cons_self))) | exact List.mem_cons_of_mem _ (List.mem_cons_of_mem _ (List.mem_cons_of_mem _ (List.mem_cons_of_mem _ (List.mem_cons_self)))) | exact List.mem_cons_of_mem _ (List.mem_cons_of_mem _ (List.mem_cons_of_mem _ (List.mem_cons_of_mem _ (List.mem_cons_of_mem _ (List.mem_cons_self))))) | exact List.mem_cons_of_mem _ (List.mem_cons_of_mem _ (List.mem_cons_of_mem _ (List.mem_cons_of_mem _ (List.mem_cons_of_mem _ (List.mem_cons_of_mem _ (List.mem_cons_self))))))) Try.underlying28 rfl infoFil (by simp [size_ftab]) ?_) | (with_reducible refine wpList_loadFr (F.box _ _) rfl rfl rfl (by first | exact List.mem_cons_self | exact List.mem_cons_of_mem _ (List.mem_cons_self) | exact List.mem_cons_of_mem _ (List.mem_cons_of_mem _ (List.mem_cons_self)) | exact List.mem_cons_of_mem _ (List.mem_cons_of_mem _ (List.mem_cons_of_mem _ (List.mem_cons_self))) | exact List.mem_cons_of_mem _ (List.mem_cons_of_mem _ (List.mem_cons_of_mem _ (List.mem_cons_of_mem _ (List.mem_cons_self)))) | exact List.mem_cons_of_mem _ (List.mem_cons_of_mem _ (List.mem_cons_of_mem _ (List.mem_cons_of_mem _ (List.mem_cons_of_mem _ (List.mem_cons_self))))) | exact List.mem_cons_of_mem _ (List.mem_cons_of_mem _ (List.mem_cons_of_mem _ (List.mem_cons_of_mem _ (List.mem_cons_of_mem _ (List.mem_cons_of_mem _ (List.mem_cons_self))))))) Try.underlying28 rfl infoFil (by simp [size_ftab]) ?_)) | (go_at_call 51; ((with_reducible refine (hV.out _).mono ?_); rintro e w1 ⟨rfl, hb1⟩; replace F := F.le hb1)) | (go_at_call 52; ((with_reducible refine (i_newRunner _ _ _ _ _ _ _ HK.out).mono ?_); rintro e w2 ⟨g, rfl, hg, hR, hl⟩; replace F := F.le hl; clear hR hl hg)) | (go_at_call 59; ((with_reducible refine (HL.out _ _).mono ?_); rintro e w3 ⟨rfl, rfl⟩)))
  go_ret2
  exact ⟨rfl, F.below⟩
set_option maxHeartbeats 1000000 in
theorem s_Steps_no (k : Int) (a b c x y : Nat) (m : Int) (w : World) (hv : okF k a b c x y = false) :
    Calls Try.prog 19 #[(.agg #[.int .i64 k, .float .f32 a, .float .f32 b, .float .f32 c, .float .f32 x, .float .f32 y]), .int .i64 m] w fun e w' => e = .returned (.tuple #[.int .i64 0, .int .i64 1]) ∧ le w w' := by
  have hV := hid (fun g w (R : Row w g 28 (#[.int .i64 k, .float .f32 a, .float .f32 b, .float .f32 c, .float .f32 x, .float .f32 y] : Array Value)) => s_Ok k a b c x y g w R)
  rw [hv] at hV
  clear hv
  have F := (Frm.nil w).box 28 (#[.int .i64 k, .float .f32 a, .float .f32 b, .float .f32 c, .float .f32 x, .float .f32 y] : Array Value)
  go_enter Try.func19, Try.ntmps19
  go_wp2_with (first | (go_at_call 47; ((with_reducible refine (hV.out _ _ (F.row List.mem_cons_self)).mono ?_); rintro e w1 ⟨rfl, n1, rfl⟩; replace F := F.drewN n1)))
  go_ret2
  exact ⟨rfl, F.below⟩
set_option maxHeartbeats 1000000 in
theorem s_Steps_out (k : Int) (a b c x y : Nat) (m : Int) (w : World) (hv : okF k a b c x y = true) (hm : m < 0 ∨ 100000 < m) :
    Calls Try.prog 19 #[(.agg #[.int .i64 k, .float .f32 a, .float .f32 b, .float .f32 c, .float .f32 x, .float .f32 y]), .int .i64 m] w fun e w' => e = .returned (.tuple #[.int .i64 0, .int .i64 2]) ∧ le w w' := by
  have hV := hid (fun g w (R : Row w g 28 (#[.int .i64 k, .float .f32 a, .float .f32 b, .float .f32 c, .float .f32 x, .float .f32 y] : Array Value)) => s_Ok k a b c x y g w R)
  rw [hv] at hV
  clear hv
  have hIn : Hid (∀ w, Calls Try.prog 56 #[.int .i64 m, .int .i64 0, .int .i64 100000] w fun e w' => e = .returned (.bool false) ∧ w = w') := fun w => by
    have h := s_In m 0 100000 w
    rwa [show (decide ((0 : Int) ≤ m) && decide (m ≤ 100000)) = false by simp only [Bool.and_eq_false_iff, decide_eq_false_iff_not]; omega] at h
  have F := (Frm.nil w).box 28 (#[.int .i64 k, .float .f32 a, .float .f32 b, .float .f32 c, .float .f32 x, .float .f32 y] : Array Value)
  clear hm
  go_enter Try.func19, Try.ntmps19
  go_wp2_with (first | (go_at_call 47; ((with_reducible refine (hV.out _ _ (F.row List.mem_cons_self)).mono ?_); rintro e w1 ⟨rfl, n1, rfl⟩; replace F := F.drewN n1)) | (go_at_call 56; ((with_reducible refine (hIn.out _).mono ?_); rintro e w1 ⟨rfl, rfl⟩)))
  go_ret2
  exact ⟨rfl, F.below⟩
end Go.Proofs.Ytmacednkpjfokaa

/- Cells of slices that one may write. Nothing here names a program. -/
namespace Go.Fk
open Go Go.RowKit
theorem OwnS.form {w : World} {lo hi n : Nat} {s : Value} {x : Nat → Nat} (h : OwnS w lo hi s x n) (hn : 1 ≤ n) : ∃ b o cap, s = .slice (some ⟨b, o, none⟩) n cap ∧ n ≤ cap ∧ cap ≤ maxLen ∧ lo ≤ b ∧ b < hi := by
  rcases h with ⟨_, rfl⟩ | ⟨b, o, cap, cs, h1, h2, h3, h4, h5, _⟩
  · omega
  · exact ⟨b, o, cap, h1, h2, h3, h4, h5⟩
theorem OwnS.at {w : World} {lo hi b o n cap : Nat} {x : Nat → Nat} (h : OwnS w lo hi (.slice (some ⟨b, o, none⟩) n cap) x n) {i : Nat} (hi' : i < n) : ∃ y, w.cell? ⟨b, o + i, none⟩ = some (.float .f32 y) ∧ w.frozen? ⟨b, o + i, none⟩ = false ∧ fits .f32 y ∧ can .f32 y = x i := by
  rcases h with ⟨h0, _⟩ | ⟨b', o', cap', cs, h1, h2, h3, h4, h5, h6, h7⟩
  · cases h0
  · simp only [Value.slice.injEq, Option.some.injEq, Addr.mk.injEq, and_true, true_and] at h1
    obtain ⟨⟨rfl, rfl⟩, rfl⟩ := h1
    obtain ⟨y, e1, e2, e3⟩ := h7 i hi'
    exact ⟨y, (h6.cell? (o + i)).trans e1, h6.frozen (o + i), e2, e3⟩
theorem OwnS.set {w : World} {lo hi b o n cap : Nat} {x : Nat → Nat} (h : OwnS w lo hi (.slice (some ⟨b, o, none⟩) n cap) x n) {i a : Nat} (hi' : i < n) (ha : fits .f32 a) :
    OwnS (w.setCell ⟨b, o + i, none⟩ (.float .f32 a)) lo hi (.slice (some ⟨b, o, none⟩) n cap) (pushX x i a) n ∧ Chg (rng lo hi) w (w.setCell ⟨b, o + i, none⟩ (.float .f32 a)) := by
  rcases h with ⟨h0, _⟩ | ⟨b', o', cap', cs, h1, h2, h3, h4, h5, h6, h7⟩
  · cases h0
  · simp only [Value.slice.injEq, Option.some.injEq, Addr.mk.injEq, and_true, true_and] at h1
    obtain ⟨⟨rfl, rfl⟩, rfl⟩ := h1
    refine ⟨.inr ⟨b, o, cap, cs.setIfInBounds (o + i) (.float .f32 a), rfl, h2, h3, h4, h5, h6.set _ _, fun j hj => ?_⟩, (Chg.refl _ _).setCell (a := ⟨b, o + i, none⟩) ⟨h4, h5⟩ _⟩
    obtain ⟨y0, e0, _⟩ := h7 i hi'
    have hlt : o + i < cs.size := (Array.getElem?_eq_some_iff.1 e0).1
    by_cases e : j = i
    · subst e
      exact ⟨a, by simp [hlt], ha, by simp [pushX]⟩
    · obtain ⟨y, e1, e2, e3⟩ := h7 j hj
      exact ⟨y, by rw [Array.getElem?_setIfInBounds_ne (by omega)]; exact e1, e2, by simp [pushX, e, e3]⟩
namespace Frg
variable {w0 w w' : World}
theorem chg0 {e e' : Fact} {post : List Fact} (h : Frg w0 w (e :: post)) (k : Chg (rng e.lo e.hi) w w') (hp : e'.p w') (h1 : e'.lo = e.lo) (h2 : e'.hi = e.hi) : Frg w0 w' (e' :: post) := chg [] h k hp h1 h2
theorem chg1 {b0 e e' : Fact} {post : List Fact} (h : Frg w0 w (b0 :: e :: post)) (k : Chg (rng e.lo e.hi) w w') (hp : e'.p w') (h1 : e'.lo = e.lo) (h2 : e'.hi = e.hi) : Frg w0 w' (b0 :: e' :: post) := chg [b0] h k hp h1 h2
end Frg
/-- The first k samples are 0. -/
def zeroTo (k : Nat) (x : Nat → Nat) : Nat → Nat := fun i => if i < k then 0 else x i
theorem zeroTo_0 (x : Nat → Nat) : zeroTo 0 x = x := by funext i; simp [zeroTo]
theorem zeroTo_s (k : Nat) (x : Nat → Nat) : pushX (zeroTo k x) k 0 = zeroTo (k + 1) x := by
  funext i
  unfold pushX zeroTo
  by_cases e : i = k
  · subst e; simp; decide
  · by_cases l : i < k
    · simp [e, l, show i < k + 1 by omega]
    · simp [e, l, show ¬ i < k + 1 by omega]
end Go.Fk

/- 'StepsToSilence' of both. -/
namespace Go.Proofs.Ytmacednkpjfokaa
open Go.RowKit Go.Fk
theorem toSpB {w0 w : World} {g lo hi B' : Nat} {s : Value} {q : StS} {l : List Fact} (h : Frg w0 w (rowF g 48 #[s, .int .i64 (q.j : Nat), .int .i64 3, .float .f32 (q.ta), .float .f32 (q.tb), .float .f32 (q.tc), .float .f32 (q.tx), .float .f32 (q.ty), .int .i64 2, .float .f32 (q.da), .float .f32 (q.db), .float .f32 (q.dc), .float .f32 (q.dx), .float .f32 (q.dy), .float .f32 (q.l)] :: ownF lo hi s q.x q.n :: l)) (hn : 1 ≤ q.n) (h1 : ∀ e ∈ l, e.hi ≤ B') (h2 : w0.heap.size ≤ B') (h3 : B' ≤ lo) : Frg w0 w (spF B' (g + 1) g q :: l) := by
  have k := toSp h hn
  have f := k.facts (spF lo (g + 1) g q) (by simp)
  have a := List.pairwise_cons.1 k.apart
  refine ⟨k.below, fun e he => ?_, List.pairwise_cons.2 ⟨fun e he => h1 e he, a.2⟩⟩
  rcases List.mem_cons.1 he with rfl | he
  · obtain ⟨s', lo', hi', R, O, g1, g2, g3, g4, g5⟩ := f.2.2
    exact ⟨h2, f.2.1, ⟨s', lo', hi', R, O, Nat.le_trans h3 g1, g2, Nat.le_trans h3 g3, g4, g5⟩⟩
  · exact k.facts e (by simp [he])
theorem s_l03SilentSp (B C g : Nat) (q : StS) (w : World) (h : SpS w B C g q) (ok : q.Ok) :
    Calls Try.prog 82 #[.pointer (some ⟨g, 0, none⟩)] w fun e w' => e = .returned (.bool (silS q)) ∧ ∃ m, w' = w.drewN m := by
  obtain ⟨s', lo', hi', R, O, g1, g2, g3, g4, g5⟩ := h
  exact s_l03Silent hi' s' q g w O.rd R ok.n1 ok.n2
set_option maxRecDepth 100000 in
set_option maxHeartbeats 4000000 in
theorem i_leastStepsL (B C g : Nat) (q : StS) (K : Nat) (w : World) (hK : K ≤ 100000) (fit : q.Fit) (h : LpS w B C g q) :
    Calls Try.prog 59 #[.iface 110 (.pointer (some ⟨g, 0, none⟩)), .int .i64 K, .int .i64 100000] w fun e w' => ∃ n d, e = .returned (.tuple #[.int .i64 n, .int .i64 d]) ∧ ResSS q K n d ∧ Chg (rng B C) w w' := by
  have HO := hid (fun j => (fit.run (fun _ => 0) j).ok)
  have hK1 : (K : Int) ≤ 100000 := by omega
  have hK0 : 0 ≤ (K : Int) := by omega
  have HL := hid h; clear h fit
  go_enter Try.func59, Try.ntmps59
  go_wp2_with fail
  go_loopw [18] (fun i wr => ∃ j : Nat, j ≤ K + 1 ∧ i = .int .i64 j ∧ Hid (∀ m, m < j → silS (goS q (fun _ => 0) m) = false) ∧ Hid (LpS wr B C g (goS q (fun _ => 0) j)) ∧ Hid (Chg (rng B C) w wr)) (fun i _ => (K + 1) - (intOf i).toNat)
  case atStart => exact ⟨0, by omega, rfl, fun m hm => absurd hm (by omega), HL.out, Chg.refl _ w⟩
  case round =>
    obtain ⟨j, hj, rfl, HJ, RJ, UJ⟩ := hrel
    by_cases hlt : j < K + 1
    · have hlt' : (j : Int) < (K : Int) + 1 := by omega
      cases hs : silS (goS q (fun _ => 0) j)
      · have hS := hid (fun w' (h : LpS w' B C g (goS q (fun _ => 0) j)) => i_loopStill B C g _ w' h)
        rw [hs] at hS
        replace hs := hid hs
        go_wp2_with (first | (go_at_call 83; ((with_reducible refine (hS.out _ RJ.out).mono ?_); rintro e w3 ⟨rfl, rfl⟩)) | (go_at_call 78; ((with_reducible refine (i_loopStep _ _ _ _ 0 _ RJ.out (HO.out j) fits_zero).mono ?_); rintro e w4 ⟨r, rfl, hr, fr, hR, hU⟩; replace RJ := hid hR; replace UJ := hid (UJ.out.trans hU); clear hR hU hr fr)))
        go_roundw
        case rel => exact ⟨j + 1, by omega, by go_num, fun m hm => by rcases Nat.lt_or_ge m j with h | h; exact HJ.out m h; rw [show m = j by omega]; exact hs.out, RJ.out, UJ.out⟩
        case measure => simp [intOf]; omega
      · have hS := hid (fun w' (h : LpS w' B C g (goS q (fun _ => 0) j)) => i_loopStill B C g _ w' h)
        rw [hs] at hS
        replace hs := hid hs
        go_wp2_with (first | (go_at_call 83; ((with_reducible refine (hS.out _ RJ.out).mono ?_); rintro e w3 ⟨rfl, rfl⟩)))
        go_ret2
        exact ⟨_, _, rfl, .inl ⟨j, rfl, rfl, by omega, hs.out, HJ.out⟩, UJ.out⟩
    · have hlt' : ¬ (j : Int) < (K : Int) + 1 := by omega
      obtain rfl : j = K + 1 := by omega
      go_wp2
      go_ret2
      exact ⟨_, _, rfl, .inr ⟨rfl, rfl, fun i hi => HJ.out i (by omega)⟩, UJ.out⟩
set_option maxRecDepth 100000 in
set_option maxHeartbeats 4000000 in
theorem i_StepsToSilence_no (B : Nat) (s : Value) (x : Nat → Nat) (n : Nat) (k tk : Int) (ta tb tc tx ty : Nat) (dk : Int) (da db dc dx dy l : Nat) (m : Int) (w : World) (hs : RdS w B s x n) (hf : fits .f32 ta ∧ fits .f32 tb ∧ fits .f32 tc ∧ fits .f32 tx ∧ fits .f32 ty) (hg : fits .f32 da ∧ fits .f32 db ∧ fits .f32 dc ∧ fits .f32 dx ∧ fits .f32 dy) (hl2 : fits .f32 l) (hv : okStr n k tk ta tb tc tx ty dk da db dc dx dy l = false) :
    Calls Try.prog 46 #[.agg #[s, .int .i64 k, .int .i64 tk, .float .f32 ta, .float .f32 tb, .float .f32 tc, .float .f32 tx, .float .f32 ty, .int .i64 dk, .float .f32 da, .float .f32 db, .float .f32 dc, .float .f32 dx, .float .f32 dy, .float .f32 l], .int .i64 m] w (Out_ii 0 1 w) := by
  have HV := hid (fun (w' : World) (hl : le w w') => hv ▸ i_ValidStringR B s x n k tk ta tb tc tx ty dk da db dc dx dy l w' (hs.le hl) hf hg hl2)
  clear hs hv hf hg hl2
  have F := ((Frg.nil w).box 48 #[s, .int .i64 k, .int .i64 tk, .float .f32 ta, .float .f32 tb, .float .f32 tc, .float .f32 tx, .float .f32 ty, .int .i64 dk, .float .f32 da, .float .f32 db, .float .f32 dc, .float .f32 dx, .float .f32 dy, .float .f32 l])
  go_enter Try.func46, Try.ntmps46
  go_wp2_with (first | ((with_reducible refine at_loadU rfl rfl ?_); (with_reducible refine wpList_loadG F rfl rfl rfl (by first | exact m0 | exact m1 | exact m2 | exact m3 | exact m4 | exact m5) Try.underlying48 rfl infoStr rfl ?_)) | (go_at_call 66; ((with_reducible refine (HV.out _ F.below).mono ?_); rintro e w1 ⟨rfl, hl⟩; replace F := F.le hl; clear hl)))
  go_ret2
  first | exact ⟨rfl, F.below⟩ | exact ⟨rfl, by rw [← World.drewN_drewN]; exact F.below⟩
set_option maxRecDepth 100000 in
set_option maxHeartbeats 4000000 in
theorem i_StepsToSilence_out (B : Nat) (s : Value) (q : StS) (m : Int) (w : World) (hs : RdS w B s q.x q.n) (ok : q.Ok) (hv : okStr q.n (q.j : Nat) 3 q.ta q.tb q.tc q.tx q.ty 2 q.da q.db q.dc q.dx q.dy q.l = true) (hm : m < 0 ∨ 100000 < m) :
    Calls Try.prog 46 #[.agg #[s, .int .i64 (q.j : Nat), .int .i64 3, .float .f32 (q.ta), .float .f32 (q.tb), .float .f32 (q.tc), .float .f32 (q.tx), .float .f32 (q.ty), .int .i64 2, .float .f32 (q.da), .float .f32 (q.db), .float .f32 (q.dc), .float .f32 (q.dx), .float .f32 (q.dy), .float .f32 (q.l)], .int .i64 m] w (Out_ii 0 2 w) := by
  have HV := hid (fun (w' : World) (hl : le w w') => hv ▸ i_ValidStringR B s q.x q.n (q.j : Nat) 3 q.ta q.tb q.tc q.tx q.ty 2 q.da q.db q.dc q.dx q.dy q.l w' (hs.le hl) ⟨ok.fta, ok.ftb, ok.ftc, ok.ftx, ok.fty⟩ ⟨ok.fda, ok.fdb, ok.fdc, ok.fdx, ok.fdy⟩ ok.fl)
  have HN := hid (fun (w' : World) (hl : le w w') => i_newLoop B s q w' (hs.le hl) ok)
  have HL := hid (fun (v : Value) (w : World) => i_leastSteps_out v m w hm)
  clear hs hv ok hm
  have F := ((Frg.nil w).box 48 #[s, .int .i64 (q.j : Nat), .int .i64 3, .float .f32 (q.ta), .float .f32 (q.tb), .float .f32 (q.tc), .float .f32 (q.tx), .float .f32 (q.ty), .int .i64 2, .float .f32 (q.da), .float .f32 (q.db), .float .f32 (q.dc), .float .f32 (q.dx), .float .f32 (q.dy), .float .f32 (q.l)])
  go_enter Try.func46, Try.ntmps46
  go_wp2_with (first | ((with_reducible refine at_loadU rfl rfl ?_); (with_reducible refine wpList_loadG F rfl rfl rfl (by first | exact m0 | exact m1 | exact m2 | exact m3 | exact m4 | exact m5) Try.underlying48 rfl infoStr rfl ?_)) | (go_at_call 66; ((with_reducible refine (HV.out _ F.below).mono ?_); rintro e w1 ⟨rfl, hl⟩; replace F := F.le hl; clear hl)) | (go_at_call 77; ((with_reducible refine (HN.out _ F.below).mono ?_); rintro e w2 ⟨g, rfl, hlp, hl⟩; replace F := F.push (e := lpF _ _ g q) hl hlp (Nat.le_refl _) (Nat.le_refl _); clear hlp hl)) | (go_at_call 59; ((with_reducible refine (HL.out _ _).mono ?_); rintro e w3 ⟨rfl, rfl⟩)))
  go_ret2
  first | exact ⟨rfl, F.below⟩ | exact ⟨rfl, by rw [← World.drewN_drewN]; exact F.below⟩
set_option maxRecDepth 100000 in
set_option maxHeartbeats 4000000 in
theorem i_StepsToSilence_yes (B : Nat) (s : Value) (q : StS) (K : Nat) (w : World) (hs : RdS w B s q.x q.n) (ok : q.Ok) (hv : okStr q.n (q.j : Nat) 3 q.ta q.tb q.tc q.tx q.ty 2 q.da q.db q.dc q.dx q.dy q.l = true) (hK : K ≤ 100000) :
    Calls Try.prog 46 #[.agg #[s, .int .i64 (q.j : Nat), .int .i64 3, .float .f32 (q.ta), .float .f32 (q.tb), .float .f32 (q.tc), .float .f32 (q.tx), .float .f32 (q.ty), .int .i64 2, .float .f32 (q.da), .float .f32 (q.db), .float .f32 (q.dc), .float .f32 (q.dx), .float .f32 (q.dy), .float .f32 (q.l)], .int .i64 K] w fun e w' => ∃ n d, e = .returned (.tuple #[.int .i64 n, .int .i64 d]) ∧ ResSS q K n d ∧ le w w' := by
  have HV := hid (fun (w' : World) (hl : le w w') => hv ▸ i_ValidStringR B s q.x q.n (q.j : Nat) 3 q.ta q.tb q.tc q.tx q.ty 2 q.da q.db q.dc q.dx q.dy q.l w' (hs.le hl) ⟨ok.fta, ok.ftb, ok.ftc, ok.ftx, ok.fty⟩ ⟨ok.fda, ok.fdb, ok.fdc, ok.fdx, ok.fdy⟩ ok.fl)
  have HN := hid (fun (w' : World) (hl : le w w') => i_newLoop B s q w' (hs.le hl) ok)
  have HL := hid (fun (B' C' g : Nat) (w' : World) (h : LpS w' B' C' g q) => i_leastStepsL B' C' g q K w' hK ⟨ok, hs.fit⟩ h)
  clear hs hv ok
  have F := ((Frg.nil w).box 48 #[s, .int .i64 (q.j : Nat), .int .i64 3, .float .f32 (q.ta), .float .f32 (q.tb), .float .f32 (q.tc), .float .f32 (q.tx), .float .f32 (q.ty), .int .i64 2, .float .f32 (q.da), .float .f32 (q.db), .float .f32 (q.dc), .float .f32 (q.dx), .float .f32 (q.dy), .float .f32 (q.l)])
  go_enter Try.func46, Try.ntmps46
  go_wp2_with (first | ((with_reducible refine at_loadU rfl rfl ?_); (with_reducible refine wpList_loadG F rfl rfl rfl (by first | exact m0 | exact m1 | exact m2 | exact m3 | exact m4 | exact m5) Try.underlying48 rfl infoStr rfl ?_)) | (go_at_call 66; ((with_reducible refine (HV.out _ F.below).mono ?_); rintro e w1 ⟨rfl, hl⟩; replace F := F.le hl; clear hl)) | (go_at_call 77; ((with_reducible refine (HN.out _ F.below).mono ?_); rintro e w2 ⟨g, rfl, hlp, hl⟩; replace F := F.push (e := lpF _ _ g q) hl hlp (Nat.le_refl _) (Nat.le_refl _); clear hlp hl)) | (go_at_call 59; ((with_reducible refine (HL.out _ _ _ _ (Frg.lp F m0)).mono ?_); rintro e w3 ⟨n, d, rfl, hres, hU⟩; replace hres := hid hres; have FL := hid (F.below.trans (hU.below (fun i hi => Nat.le_trans (F.facts (lpF _ _ _ q) m0).1 hi.1) F.size)); clear hU)))
  go_ret2
  exact ⟨_, _, rfl, hres.out, FL.out⟩
set_option maxRecDepth 100000 in
set_option maxHeartbeats 4000000 in
theorem s_StepsToSilence_no (B : Nat) (s : Value) (x : Nat → Nat) (n : Nat) (k tk : Int) (ta tb tc tx ty : Nat) (dk : Int) (da db dc dx dy l : Nat) (m : Int) (w : World) (hs : RdS w B s x n) (hk : (Lit.int .i64 k).wf = true) (hv : okStr n k tk ta tb tc tx ty dk da db dc dx dy l = false) :
    Calls Try.prog 45 #[.agg #[s, .int .i64 k, .int .i64 tk, .float .f32 ta, .float .f32 tb, .float .f32 tc, .float .f32 tx, .float .f32 ty, .int .i64 dk, .float .f32 da, .float .f32 db, .float .f32 dc, .float .f32 dx, .float .f32 dy, .float .f32 l], .int .i64 m] w (Out_ii 0 1 w) := by
  have HV := hid (fun (w' : World) (g : Nat) (hl : le w w') (R : Row w' g 48 #[s, .int .i64 k, .int .i64 tk, .float .f32 ta, .float .f32 tb, .float .f32 tc, .float .f32 tx, .float .f32 ty, .int .i64 dk, .float .f32 da, .float .f32 db, .float .f32 dc, .float .f32 dx, .float .f32 dy, .float .f32 l]) => hv ▸ s_l03Ok B s x n k tk ta tb tc tx ty dk da db dc dx dy l g w' (hs.le hl) R hk)
  clear hs hk hv
  have F := ((Frg.nil w).box 48 #[s, .int .i64 k, .int .i64 tk, .float .f32 ta, .float .f32 tb, .float .f32 tc, .float .f32 tx, .float .f32 ty, .int .i64 dk, .float .f32 da, .float .f32 db, .float .f32 dc, .float .f32 dx, .float .f32 dy, .float .f32 l])
  go_enter Try.func45, Try.ntmps45
  go_wp2_with (first | (go_at_call 61; ((with_reducible refine (HV.out _ _ F.below (F.row (by first | exact m0 | exact m1 | exact m2 | exact m3 | exact m4 | exact m5))).mono ?_); rintro e w1 ⟨rfl, m, rfl⟩; replace F := F.drewN m)))
  go_ret2
  first | exact ⟨rfl, F.below⟩ | exact ⟨rfl, by rw [← World.drewN_drewN]; exact F.below⟩
set_option maxRecDepth 100000 in
set_option maxHeartbeats 4000000 in
theorem s_StepsToSilence_out (B : Nat) (s : Value) (q : StS) (m : Int) (w : World) (hs : RdS w B s q.x q.n) (ok : q.Ok) (hk : (Lit.int .i64 (q.j : Nat)).wf = true) (hv : okStr q.n (q.j : Nat) 3 q.ta q.tb q.tc q.tx q.ty 2 q.da q.db q.dc q.dx q.dy q.l = true) (hm : m < 0 ∨ 100000 < m) :
    Calls Try.prog 45 #[.agg #[s, .int .i64 (q.j : Nat), .int .i64 3, .float .f32 (q.ta), .float .f32 (q.tb), .float .f32 (q.tc), .float .f32 (q.tx), .float .f32 (q.ty), .int .i64 2, .float .f32 (q.da), .float .f32 (q.db), .float .f32 (q.dc), .float .f32 (q.dx), .float .f32 (q.dy), .float .f32 (q.l)], .int .i64 m] w (Out_ii 0 2 w) := by
  have HV := hid (fun (w' : World) (g : Nat) (hl : le w w') (R : Row w' g 48 #[s, .int .i64 (q.j : Nat), .int .i64 3, .float .f32 (q.ta), .float .f32 (q.tb), .float .f32 (q.tc), .float .f32 (q.tx), .float .f32 (q.ty), .int .i64 2, .float .f32 (q.da), .float .f32 (q.db), .float .f32 (q.dc), .float .f32 (q.dx), .float .f32 (q.dy), .float .f32 (q.l)]) => hv ▸ s_l03Ok B s q.x q.n (q.j : Nat) 3 q.ta q.tb q.tc q.tx q.ty 2 q.da q.db q.dc q.dx q.dy q.l g w' (hs.le hl) R hk)
  have hIn : Hid (∀ w, Calls Try.prog 56 #[.int .i64 m, .int .i64 0, .int .i64 100000] w fun e w' => e = .returned (.bool false) ∧ w = w') := fun w => by
    have h := s_In m 0 100000 w
    rwa [show (decide ((0 : Int) ≤ m) && decide (m ≤ 100000)) = false by rcases hm with h | h; (rw [decide_eq_false (by omega)]; rfl); (rw [Bool.and_eq_false_iff]; exact .inr (decide_eq_false (by omega)))] at h
  clear hs hk hv ok hm
  have F := ((Frg.nil w).box 48 #[s, .int .i64 (q.j : Nat), .int .i64 3, .float .f32 (q.ta), .float .f32 (q.tb), .float .f32 (q.tc), .float .f32 (q.tx), .float .f32 (q.ty), .int .i64 2, .float .f32 (q.da), .float .f32 (q.db), .float .f32 (q.dc), .float .f32 (q.dx), .float .f32 (q.dy), .float .f32 (q.l)])
  go_enter Try.func45, Try.ntmps45
  go_wp2_with (first | (go_at_call 61; ((with_reducible refine (HV.out _ _ F.below (F.row (by first | exact m0 | exact m1 | exact m2 | exact m3 | exact m4 | exact m5))).mono ?_); rintro e w1 ⟨rfl, m, rfl⟩; replace F := F.drewN m)) | (go_at_call 56; ((with_reducible refine (hIn.out _).mono ?_); rintro e w1 ⟨rfl, rfl⟩)))
  go_ret2
  first | exact ⟨rfl, F.below⟩ | exact ⟨rfl, by rw [← World.drewN_drewN]; exact F.below⟩
set_option maxRecDepth 100000 in
set_option maxHeartbeats 4000000 in
theorem s_StepsToSilence_yes (B : Nat) (s : Value) (q : StS) (K : Nat) (w : World) (hs : RdS w B s q.x q.n) (ok : q.Ok) (hk : (Lit.int .i64 (q.j : Nat)).wf = true) (hv : okStr q.n (q.j : Nat) 3 q.ta q.tb q.tc q.tx q.ty 2 q.da q.db q.dc q.dx q.dy q.l = true) (hK : K ≤ 100000) :
    Calls Try.prog 45 #[.agg #[s, .int .i64 (q.j : Nat), .int .i64 3, .float .f32 (q.ta), .float .f32 (q.tb), .float .f32 (q.tc), .float .f32 (q.tx), .float .f32 (q.ty), .int .i64 2, .float .f32 (q.da), .float .f32 (q.db), .float .f32 (q.dc), .float .f32 (q.dx), .float .f32 (q.dy), .float .f32 (q.l)], .int .i64 K] w fun e w' => ∃ n d, e = .returned (.tuple #[.int .i64 n, .int .i64 d]) ∧ ResSS q K n d ∧ le w w' := by
  have HV := hid (fun (w' : World) (g : Nat) (hl : le w w') (R : Row w' g 48 #[s, .int .i64 (q.j : Nat), .int .i64 3, .float .f32 (q.ta), .float .f32 (q.tb), .float .f32 (q.tc), .float .f32 (q.tx), .float .f32 (q.ty), .int .i64 2, .float .f32 (q.da), .float .f32 (q.db), .float .f32 (q.dc), .float .f32 (q.dx), .float .f32 (q.dy), .float .f32 (q.l)]) => hv ▸ s_l03Ok B s q.x q.n (q.j : Nat) 3 q.ta q.tb q.tc q.tx q.ty 2 q.da q.db q.dc q.dx q.dy q.l g w' (hs.le hl) R hk)
  have HCP := hid (fun (w' : World) (g : Nat) (hl : le w w') (R : Row w' g 48 #[s, .int .i64 (q.j : Nat), .int .i64 3, .float .f32 (q.ta), .float .f32 (q.tb), .float .f32 (q.tc), .float .f32 (q.tx), .float .f32 (q.ty), .int .i64 2, .float .f32 (q.da), .float .f32 (q.db), .float .f32 (q.dc), .float .f32 (q.dx), .float .f32 (q.dy), .float .f32 (q.l)]) => s_l03Copy B s q.x q.n (q.j : Nat) 3 q.ta q.tb q.tc q.tx q.ty 2 q.da q.db q.dc q.dx q.dy q.l g w' (hs.le hl) R ok.n1 ok.n2)
  have HO := hid (fun j => ((show q.Fit from ⟨ok, hs.fit⟩).run (fun _ => 0) j).ok)
  have n1 := ok.n1
  have hK1 : (K : Int) ≤ 100000 := by omega
  have hK0 : 0 ≤ (K : Int) := by omega
  have hIn : Hid (∀ w, Calls Try.prog 56 #[.int .i64 K, .int .i64 0, .int .i64 100000] w fun e w' => e = .returned (.bool true) ∧ w = w') := fun w => by
    have h := s_In K 0 100000 w
    rwa [show (decide ((0 : Int) ≤ K) && decide ((K : Int) ≤ 100000)) = true by simp only [Bool.and_eq_true, decide_eq_true_eq]; omega] at h
  clear hs hk hv ok
  have F := ((Frg.nil w).box 48 #[s, .int .i64 (q.j : Nat), .int .i64 3, .float .f32 (q.ta), .float .f32 (q.tb), .float .f32 (q.tc), .float .f32 (q.tx), .float .f32 (q.ty), .int .i64 2, .float .f32 (q.da), .float .f32 (q.db), .float .f32 (q.dc), .float .f32 (q.dx), .float .f32 (q.dy), .float .f32 (q.l)])
  go_enter Try.func45, Try.ntmps45
  go_wp2_with (first | (go_at_call 61; ((with_reducible refine (HV.out _ _ F.below (F.row (by first | exact m0 | exact m1 | exact m2 | exact m3 | exact m4 | exact m5))).mono ?_); rintro e w1 ⟨rfl, m, rfl⟩; replace F := F.drewN m)) | (go_at_call 56; ((with_reducible refine (hIn.out _).mono ?_); rintro e w1 ⟨rfl, rfl⟩)) | (go_at_call 63; ((with_reducible refine (HCP.out _ _ F.below (F.row (by first | exact m0 | exact m1 | exact m2 | exact m3 | exact m4 | exact m5))).mono ?_); rintro e w2 ⟨s', rfl, ho, hl⟩; have OC := hid (OwnS.one ho); replace F := F.own1 hl ho; clear ho hl)) | (refine wpList_storeG F rfl rfl rfl rfl rfl infoStr rfl (one_head OC.out rfl) ?_; clear F; intro W3 F zW; clear zW; replace F := hid (toSpB (B' := w.heap.size + 1) F n1 (by simp [rowF]) (by omega) (by simp))))
  go_loopw [7] (fun i wr => ∃ j : Nat, j ≤ K + 1 ∧ i = .int .i64 j ∧ Hid (∀ m, m < j → silS (goS q (fun _ => 0) m) = false) ∧ Hid (Frg w wr [spF (w.heap.size + 1) (w2.heap.size + 1) w2.heap.size (goS q (fun _ => 0) j), rowF w.heap.size 48 #[s, .int .i64 (q.j : Nat), .int .i64 3, .float .f32 (q.ta), .float .f32 (q.tb), .float .f32 (q.tc), .float .f32 (q.tx), .float .f32 (q.ty), .int .i64 2, .float .f32 (q.da), .float .f32 (q.db), .float .f32 (q.dc), .float .f32 (q.dx), .float .f32 (q.dy), .float .f32 (q.l)]])) (fun i _ => (K + 1) - (intOf i).toNat)
  case atStart => exact ⟨0, by omega, rfl, fun m hm => absurd hm (by omega), F.out⟩
  case round =>
    obtain ⟨j, hj, rfl, HJ, FJ⟩ := hrel
    clear F
    by_cases hlt : j ≤ K
    · have hjK : (j : Int) ≤ K := by omega
      cases hs : silS (goS q (fun _ => 0) j)
      · have hS := hid (fun B' C' g w' (h : SpS w' B' C' g (goS q (fun _ => 0) j)) => s_l03SilentSp B' C' g _ w' h (HO.out j))
        rw [hs] at hS
        replace hs := hid hs
        go_wp2_with (first | (go_at_call 82; ((with_reducible refine (hS.out _ _ _ _ (Frg.sp FJ.out m0)).mono ?_); rintro e w3 ⟨rfl, m3, rfl⟩; replace FJ := hid (FJ.out.drewN m3))) | (go_at_call 76; ((with_reducible refine (s_l03Step _ _ _ _ 0 _ (Frg.sp FJ.out m0) (HO.out j) fits_zero).mono ?_); rintro e w4 ⟨o4, rfl, ho4, fo4, hsp, hch⟩; replace FJ := hid (FJ.out.chg0 (e' := spF _ _ _ (stepS (goS q (fun _ => 0) j) 0)) hch hsp rfl rfl); clear hsp hch ho4 fo4)))
        go_roundw
        case rel => exact ⟨j + 1, by omega, by go_num, fun m hm => by rcases Nat.lt_or_ge m j with h | h; exact HJ.out m h; rw [show m = j by omega]; exact hs.out, FJ⟩
        case measure => simp [intOf]; omega
      · have hS := hid (fun B' C' g w' (h : SpS w' B' C' g (goS q (fun _ => 0) j)) => s_l03SilentSp B' C' g _ w' h (HO.out j))
        rw [hs] at hS
        replace hs := hid hs
        go_wp2_with (first | (go_at_call 82; ((with_reducible refine (hS.out _ _ _ _ (Frg.sp FJ.out m0)).mono ?_); rintro e w3 ⟨rfl, m3, rfl⟩; replace FJ := hid (FJ.out.drewN m3))))
        go_ret2
        exact ⟨_, _, rfl, .inl ⟨j, rfl, rfl, by omega, hs.out, HJ.out⟩, FJ.out.below⟩
    · have hjK : ¬ (j : Int) ≤ K := by omega
      obtain rfl : j = K + 1 := by omega
      go_wp2
      go_ret2
      exact ⟨_, _, rfl, .inr ⟨rfl, rfl, fun i hi => HJ.out i (by omega)⟩, FJ.out.below⟩
theorem both_StepsToSilence (x : Nat → Nat) (n : Nat) (k tk : Int) (ta tb tc tx ty : Nat) (dk : Int) (da db dc dx dy l : Nat) (m : Int) (hw : (Lit.int .i64 k).wf = true ∧ (Lit.int .i64 tk).wf = true ∧ fits .f32 ta ∧ fits .f32 tb ∧ fits .f32 tc ∧ fits .f32 tx ∧ fits .f32 ty ∧ (Lit.int .i64 dk).wf = true ∧ fits .f32 da ∧ fits .f32 db ∧ fits .f32 dc ∧ fits .f32 dx ∧ fits .f32 dy ∧ fits .f32 l) : ∃ (ar0 ar1 : Int), (∀ (w : World) (B : Nat) (u : Value), RdS w B u x n → Calls Try.prog 45 #[.agg #[u, .int .i64 k, .int .i64 tk, .float .f32 ta, .float .f32 tb, .float .f32 tc, .float .f32 tx, .float .f32 ty, .int .i64 dk, .float .f32 da, .float .f32 db, .float .f32 dc, .float .f32 dx, .float .f32 dy, .float .f32 l], .int .i64 m] w (Out_ii ar0 ar1 w)) ∧ (∀ (w : World) (B : Nat) (u : Value), RdS w B u x n → Calls Try.prog 46 #[.agg #[u, .int .i64 k, .int .i64 tk, .float .f32 ta, .float .f32 tb, .float .f32 tc, .float .f32 tx, .float .f32 ty, .int .i64 dk, .float .f32 da, .float .f32 db, .float .f32 dc, .float .f32 dx, .float .f32 dy, .float .f32 l], .int .i64 m] w (Out_ii ar0 ar1 w)) := by
  obtain ⟨hk, _, h1, h2, h3, h4, h5, _, g1, g2, g3, g4, g5, hl⟩ := hw
  cases hv : okStr n k tk ta tb tc tx ty dk da db dc dx dy l
  · exact ⟨0, 1, fun w B u h => s_StepsToSilence_no B u x n k tk ta tb tc tx ty dk da db dc dx dy l m w h hk hv, fun w B u h => i_StepsToSilence_no B u x n k tk ta tb tc tx ty dk da db dc dx dy l m w h ⟨h1, h2, h3, h4, h5⟩ ⟨g1, g2, g3, g4, g5⟩ hl hv⟩
  · obtain ⟨j, rfl, rfl, rfl, ok⟩ := okStr_q (x := x) hv ⟨h1, h2, h3, h4, h5⟩ ⟨g1, g2, g3, g4, g5⟩ hl
    by_cases hm : m < 0 ∨ 100000 < m
    · exact ⟨_, _, fun w B u h => s_StepsToSilence_out B u (⟨x, n, j, ta, tb, tc, tx, ty, da, db, dc, dx, dy, l⟩ : StS) m w h ok hk hv hm, fun w B u h => i_StepsToSilence_out B u (⟨x, n, j, ta, tb, tc, tx, ty, da, db, dc, dx, dy, l⟩ : StS) m w h ok hv hm⟩
    · obtain ⟨K, rfl⟩ : ∃ K : Nat, m = K := ⟨m.toNat, by omega⟩
      obtain ⟨n0, d0, hr⟩ := ResSS.ex (⟨x, n, j, ta, tb, tc, tx, ty, da, db, dc, dx, dy, l⟩ : StS) K
      refine ⟨n0, d0, fun w B u h => (s_StepsToSilence_yes B u (⟨x, n, j, ta, tb, tc, tx, ty, da, db, dc, dx, dy, l⟩ : StS) K w h ok hk hv (by omega)).mono ?_, fun w B u h => (i_StepsToSilence_yes B u (⟨x, n, j, ta, tb, tc, tx, ty, da, db, dc, dx, dy, l⟩ : StS) K w h ok hv (by omega)).mono ?_⟩
      all_goals
        rintro e w' ⟨n1, d1, rfl, hr1, hl1⟩
        obtain ⟨rfl, rfl⟩ := hr.one hr1
        exact ⟨rfl, hl1⟩
end Go.Proofs.Ytmacednkpjfokaa

/- What grows by append, beside facts of memory. Nothing here names a program. -/
namespace Go.Fk
open Go Go.RowKit
theorem ownsRow_chS {S : Nat → Prop} {w w' : World} {e : TypeId} {n B : Nat} {xs : List Value} {v : Value} (hw : Chg S w w') (h : w.ownsRow B e 1 v n xs) (hS : ∀ i, S i → i < B) : w'.ownsRow B e 1 v n xs := by
  obtain ⟨h1, h2⟩ := h
  refine ⟨h1, ?_⟩
  rcases h2 with h2 | ⟨q, cap, cur, e1, e2, e3, e4⟩
  · exact .inl h2
  · exact .inr ⟨q, cap, cur, e1, e2, by have := hw.row (g := q) (t := e) (cs := cur) e3 (fun hq => by have := hS q hq; omega); exact this, e4⟩
theorem ownBlock_ge {w : World} {B : Nat} {e : TypeId} {z : Nat} {v : Value} {n : Nat} {xs : List Value} (h : w.ownsRow B e z v n xs) : ∀ k, v.ownBlock = some k → B ≤ k := by
  rcases h.2 with ⟨rfl, _⟩ | ⟨q, cap, cur, rfl, hb, _⟩
  · intro k hk; cases hk
  · intro k hk; simp only [Value.ownBlock, Option.some.injEq] at hk; omega
theorem chg_grown {w w' : World} {row : Option Nat} {B : Nat} (h : w.grownBy w' row) (hr : ∀ k, row = some k → B ≤ k) : Chg (B ≤ ·) w w' :=
  ⟨h.os, h.tape, h.output, h.size, fun k hk hn => h.block k hk (fun e => hn (hr k e.symm))⟩
theorem Frg.up {w0 w w' : World} {L : List Fact} {B : Nat} (h : Frg w0 w L) (k : Chg (B ≤ ·) w w') (hB : ∀ e ∈ L, e.hi ≤ B) (h0 : w0.heap.size ≤ B) : Frg w0 w' L :=
  ⟨h.below.trans (k.below (fun i hi => Nat.le_trans h0 hi) h.size), fun e he => by
    obtain ⟨h1, h2, h3⟩ := h.facts e he
    exact ⟨h1, Nat.le_trans h2 k.size, e.ok w w' h3 (fun i _ hi => k.block i (by omega) (fun hb => by have := hB e he; omega))⟩, h.apart⟩
theorem flist_snoc (y : Nat → Nat) (n a : Nat) : flist y n ++ [.float .f32 a] = flist (fun j => if j = n then a else y j) (n + 1) := by
  have h := flist_app y (fun _ => a) n 1
  have h1 : flist (fun _ => a) 1 = [.float .f32 a] := by simp [flist]
  rw [h1] at h
  rw [h]
  apply List.ext_getElem?
  intro i
  by_cases hi : i < n + 1
  · rw [flist_get' _ hi, flist_get' _ hi]
    by_cases e : i = n
    · simp [e]
    · simp [e, show i < n by omega]
  · rw [List.getElem?_eq_none (by rw [flist_length]; omega), List.getElem?_eq_none (by rw [flist_length]; omega)]
theorem Frg.own2 {w0 w w' : World} {L : List Fact} {q n n' : Nat} {s s' : Value} {x x' : Nat → Nat} (h : Frg w0 w L) (k : Below w.heap.size w w') (h1 : w.heap.size ≤ q) (h2 : q ≤ w'.heap.size) (o1 : OwnS w' w.heap.size q s x n) (o2 : OwnS w' q w'.heap.size s' x' n') :
    Frg w0 w' (ownF q w'.heap.size s' x' n' :: ownF w.heap.size q s x n :: L) := by
  refine ⟨(h.le k).below, fun e he => ?_, .cons (fun e he => ?_) (.cons (fun e he => (h.facts e he).2.1) h.apart)⟩
  · rcases List.mem_cons.1 he with rfl | he
    · exact ⟨Nat.le_trans h.size h1, Nat.le_refl _, o2⟩
    · rcases List.mem_cons.1 he with rfl | he
      · exact ⟨h.size, h2, o1⟩
      · exact (h.le k).facts e he
  · rcases List.mem_cons.1 he with rfl | he
    · exact Nat.le_refl q
    · exact Nat.le_trans (h.facts e he).2.1 h1
theorem m12 {b0 b1 b2 b3 b4 b5 b6 b7 b8 b9 b10 b11 a : Fact} {l : List Fact} : a ∈ b0 :: b1 :: b2 :: b3 :: b4 :: b5 :: b6 :: b7 :: b8 :: b9 :: b10 :: b11 :: a :: l := List.mem_cons_of_mem _ (List.mem_cons_of_mem _ (List.mem_cons_of_mem _ (List.mem_cons_of_mem _ (List.mem_cons_of_mem _ (List.mem_cons_of_mem _ (List.mem_cons_of_mem _ (List.mem_cons_of_mem _ (List.mem_cons_of_mem _ (List.mem_cons_of_mem _ (List.mem_cons_of_mem _ (List.mem_cons_of_mem _ (List.mem_cons_self))))))))))))
theorem m13 {b0 b1 b2 b3 b4 b5 b6 b7 b8 b9 b10 b11 b12 a : Fact} {l : List Fact} : a ∈ b0 :: b1 :: b2 :: b3 :: b4 :: b5 :: b6 :: b7 :: b8 :: b9 :: b10 :: b11 :: b12 :: a :: l := List.mem_cons_of_mem _ (List.mem_cons_of_mem _ (List.mem_cons_of_mem _ (List.mem_cons_of_mem _ (List.mem_cons_of_mem _ (List.mem_cons_of_mem _ (List.mem_cons_of_mem _ (List.mem_cons_of_mem _ (List.mem_cons_of_mem _ (List.mem_cons_of_mem _ (List.mem_cons_of_mem _ (List.mem_cons_of_mem _ (List.mem_cons_of_mem _ (List.mem_cons_self)))))))))))))
theorem m14 {b0 b1 b2 b3 b4 b5 b6 b7 b8 b9 b10 b11 b12 b13 a : Fact} {l : List Fact} : a ∈ b0 :: b1 :: b2 :: b3 :: b4 :: b5 :: b6 :: b7 :: b8 :: b9 :: b10 :: b11 :: b12 :: b13 :: a :: l := List.mem_cons_of_mem _ (List.mem_cons_of_mem _ (List.mem_cons_of_mem _ (List.mem_cons_of_mem _ (List.mem_cons_of_mem _ (List.mem_cons_of_mem _ (List.mem_cons_of_mem _ (List.mem_cons_of_mem _ (List.mem_cons_of_mem _ (List.mem_cons_of_mem _ (List.mem_cons_of_mem _ (List.mem_cons_of_mem _ (List.mem_cons_of_mem _ (List.mem_cons_of_mem _ (List.mem_cons_self))))))))))))))
theorem m15 {b0 b1 b2 b3 b4 b5 b6 b7 b8 b9 b10 b11 b12 b13 b14 a : Fact} {l : List Fact} : a ∈ b0 :: b1 :: b2 :: b3 :: b4 :: b5 :: b6 :: b7 :: b8 :: b9 :: b10 :: b11 :: b12 :: b13 :: b14 :: a :: l := List.mem_cons_of_mem _ (List.mem_cons_of_mem _ (List.mem_cons_of_mem _ (List.mem_cons_of_mem _ (List.mem_cons_of_mem _ (List.mem_cons_of_mem _ (List.mem_cons_of_mem _ (List.mem_cons_of_mem _ (List.mem_cons_of_mem _ (List.mem_cons_of_mem _ (List.mem_cons_of_mem _ (List.mem_cons_of_mem _ (List.mem_cons_of_mem _ (List.mem_cons_of_mem _ (List.mem_cons_of_mem _ (List.mem_cons_self)))))))))))))))
theorem m16 {b0 b1 b2 b3 b4 b5 b6 b7 b8 b9 b10 b11 b12 b13 b14 b15 a : Fact} {l : List Fact} : a ∈ b0 :: b1 :: b2 :: b3 :: b4 :: b5 :: b6 :: b7 :: b8 :: b9 :: b10 :: b11 :: b12 :: b13 :: b14 :: b15 :: a :: l := List.mem_cons_of_mem _ (List.mem_cons_of_mem _ (List.mem_cons_of_mem _ (List.mem_cons_of_mem _ (List.mem_cons_of_mem _ (List.mem_cons_of_mem _ (List.mem_cons_of_mem _ (List.mem_cons_of_mem _ (List.mem_cons_of_mem _ (List.mem_cons_of_mem _ (List.mem_cons_of_mem _ (List.mem_cons_of_mem _ (List.mem_cons_of_mem _ (List.mem_cons_of_mem _ (List.mem_cons_of_mem _ (List.mem_cons_of_mem _ (List.mem_cons_self))))))))))))))))
theorem m17 {b0 b1 b2 b3 b4 b5 b6 b7 b8 b9 b10 b11 b12 b13 b14 b15 b16 a : Fact} {l : List Fact} : a ∈ b0 :: b1 :: b2 :: b3 :: b4 :: b5 :: b6 :: b7 :: b8 :: b9 :: b10 :: b11 :: b12 :: b13 :: b14 :: b15 :: b16 :: a :: l := List.mem_cons_of_mem _ (List.mem_cons_of_mem _ (List.mem_cons_of_mem _ (List.mem_cons_of_mem _ (List.mem_cons_of_mem _ (List.mem_cons_of_mem _ (List.mem_cons_of_mem _ (List.mem_cons_of_mem _ (List.mem_cons_of_mem _ (List.mem_cons_of_mem _ (List.mem_cons_of_mem _ (List.mem_cons_of_mem _ (List.mem_cons_of_mem _ (List.mem_cons_of_mem _ (List.mem_cons_of_mem _ (List.mem_cons_of_mem _ (List.mem_cons_of_mem _ (List.mem_cons_self)))))))))))))))))
theorem m18 {b0 b1 b2 b3 b4 b5 b6 b7 b8 b9 b10 b11 b12 b13 b14 b15 b16 b17 a : Fact} {l : List Fact} : a ∈ b0 :: b1 :: b2 :: b3 :: b4 :: b5 :: b6 :: b7 :: b8 :: b9 :: b10 :: b11 :: b12 :: b13 :: b14 :: b15 :: b16 :: b17 :: a :: l := List.mem_cons_of_mem _ (List.mem_cons_of_mem _ (List.mem_cons_of_mem _ (List.mem_cons_of_mem _ (List.mem_cons_of_mem _ (List.mem_cons_of_mem _ (List.mem_cons_of_mem _ (List.mem_cons_of_mem _ (List.mem_cons_of_mem _ (List.mem_cons_of_mem _ (List.mem_cons_of_mem _ (List.mem_cons_of_mem _ (List.mem_cons_of_mem _ (List.mem_cons_of_mem _ (List.mem_cons_of_mem _ (List.mem_cons_of_mem _ (List.mem_cons_of_mem _ (List.mem_cons_of_mem _ (List.mem_cons_self))))))))))))))))))
theorem m19 {b0 b1 b2 b3 b4 b5 b6 b7 b8 b9 b10 b11 b12 b13 b14 b15 b16 b17 b18 a : Fact} {l : List Fact} : a ∈ b0 :: b1 :: b2 :: b3 :: b4 :: b5 :: b6 :: b7 :: b8 :: b9 :: b10 :: b11 :: b12 :: b13 :: b14 :: b15 :: b16 :: b17 :: b18 :: a :: l := List.mem_cons_of_mem _ (List.mem_cons_of_mem _ (List.mem_cons_of_mem _ (List.mem_cons_of_mem _ (List.mem_cons_of_mem _ (List.mem_cons_of_mem _ (List.mem_cons_of_mem _ (List.mem_cons_of_mem _ (List.mem_cons_of_mem _ (List.mem_cons_of_mem _ (List.mem_cons_of_mem _ (List.mem_cons_of_mem _ (List.mem_cons_of_mem _ (List.mem_cons_of_mem _ (List.mem_cons_of_mem _ (List.mem_cons_of_mem _ (List.mem_cons_of_mem _ (List.mem_cons_of_mem _ (List.mem_cons_of_mem _ (List.mem_cons_self)))))))))))))))))))
theorem Frg.mark10 {w0 w w' : World} {lo hi n : Nat} {s : Value} {x x' : Nat → Nat} {l : List Fact} {b0 b1 b2 b3 b4 b5 b6 b7 b8 b9 : Fact} (h : Frg w0 w (b0 :: b1 :: b2 :: b3 :: b4 :: b5 :: b6 :: b7 :: b8 :: b9 :: ownF lo hi s x n :: l)) (hp : OwnS w' lo hi s x' n) (k : Chg (rng lo hi) w w') : Frg w0 w' (b0 :: b1 :: b2 :: b3 :: b4 :: b5 :: b6 :: b7 :: b8 :: b9 :: ownF lo hi s x' n :: l) :=
  Frg.chg [b0, b1, b2, b3, b4, b5, b6, b7, b8, b9] (e := ownF lo hi s x n) (e' := ownF lo hi s x' n) h k hp rfl rfl
theorem Frg.mark11 {w0 w w' : World} {lo hi n : Nat} {s : Value} {x x' : Nat → Nat} {l : List Fact} {b0 b1 b2 b3 b4 b5 b6 b7 b8 b9 b10 : Fact} (h : Frg w0 w (b0 :: b1 :: b2 :: b3 :: b4 :: b5 :: b6 :: b7 :: b8 :: b9 :: b10 :: ownF lo hi s x n :: l)) (hp : OwnS w' lo hi s x' n) (k : Chg (rng lo hi) w w') : Frg w0 w' (b0 :: b1 :: b2 :: b3 :: b4 :: b5 :: b6 :: b7 :: b8 :: b9 :: b10 :: ownF lo hi s x' n :: l) :=
  Frg.chg [b0, b1, b2, b3, b4, b5, b6, b7, b8, b9, b10] (e := ownF lo hi s x n) (e' := ownF lo hi s x' n) h k hp rfl rfl
theorem Frg.mark12 {w0 w w' : World} {lo hi n : Nat} {s : Value} {x x' : Nat → Nat} {l : List Fact} {b0 b1 b2 b3 b4 b5 b6 b7 b8 b9 b10 b11 : Fact} (h : Frg w0 w (b0 :: b1 :: b2 :: b3 :: b4 :: b5 :: b6 :: b7 :: b8 :: b9 :: b10 :: b11 :: ownF lo hi s x n :: l)) (hp : OwnS w' lo hi s x' n) (k : Chg (rng lo hi) w w') : Frg w0 w' (b0 :: b1 :: b2 :: b3 :: b4 :: b5 :: b6 :: b7 :: b8 :: b9 :: b10 :: b11 :: ownF lo hi s x' n :: l) :=
  Frg.chg [b0, b1, b2, b3, b4, b5, b6, b7, b8, b9, b10, b11] (e := ownF lo hi s x n) (e' := ownF lo hi s x' n) h k hp rfl rfl
theorem Frg.mark13 {w0 w w' : World} {lo hi n : Nat} {s : Value} {x x' : Nat → Nat} {l : List Fact} {b0 b1 b2 b3 b4 b5 b6 b7 b8 b9 b10 b11 b12 : Fact} (h : Frg w0 w (b0 :: b1 :: b2 :: b3 :: b4 :: b5 :: b6 :: b7 :: b8 :: b9 :: b10 :: b11 :: b12 :: ownF lo hi s x n :: l)) (hp : OwnS w' lo hi s x' n) (k : Chg (rng lo hi) w w') : Frg w0 w' (b0 :: b1 :: b2 :: b3 :: b4 :: b5 :: b6 :: b7 :: b8 :: b9 :: b10 :: b11 :: b12 :: ownF lo hi s x' n :: l) :=
  Frg.chg [b0, b1, b2, b3, b4, b5, b6, b7, b8, b9, b10, b11, b12] (e := ownF lo hi s x n) (e' := ownF lo hi s x' n) h k hp rfl rfl
theorem Frg.mark14 {w0 w w' : World} {lo hi n : Nat} {s : Value} {x x' : Nat → Nat} {l : List Fact} {b0 b1 b2 b3 b4 b5 b6 b7 b8 b9 b10 b11 b12 b13 : Fact} (h : Frg w0 w (b0 :: b1 :: b2 :: b3 :: b4 :: b5 :: b6 :: b7 :: b8 :: b9 :: b10 :: b11 :: b12 :: b13 :: ownF lo hi s x n :: l)) (hp : OwnS w' lo hi s x' n) (k : Chg (rng lo hi) w w') : Frg w0 w' (b0 :: b1 :: b2 :: b3 :: b4 :: b5 :: b6 :: b7 :: b8 :: b9 :: b10 :: b11 :: b12 :: b13 :: ownF lo hi s x' n :: l) :=
  Frg.chg [b0, b1, b2, b3, b4, b5, b6, b7, b8, b9, b10, b11, b12, b13] (e := ownF lo hi s x n) (e' := ownF lo hi s x' n) h k hp rfl rfl
theorem Frg.mark15 {w0 w w' : World} {lo hi n : Nat} {s : Value} {x x' : Nat → Nat} {l : List Fact} {b0 b1 b2 b3 b4 b5 b6 b7 b8 b9 b10 b11 b12 b13 b14 : Fact} (h : Frg w0 w (b0 :: b1 :: b2 :: b3 :: b4 :: b5 :: b6 :: b7 :: b8 :: b9 :: b10 :: b11 :: b12 :: b13 :: b14 :: ownF lo hi s x n :: l)) (hp : OwnS w' lo hi s x' n) (k : Chg (rng lo hi) w w') : Frg w0 w' (b0 :: b1 :: b2 :: b3 :: b4 :: b5 :: b6 :: b7 :: b8 :: b9 :: b10 :: b11 :: b12 :: b13 :: b14 :: ownF lo hi s x' n :: l) :=
  Frg.chg [b0, b1, b2, b3, b4, b5, b6, b7, b8, b9, b10, b11, b12, b13, b14] (e := ownF lo hi s x n) (e' := ownF lo hi s x' n) h k hp rfl rfl
theorem Frg.mark16 {w0 w w' : World} {lo hi n : Nat} {s : Value} {x x' : Nat → Nat} {l : List Fact} {b0 b1 b2 b3 b4 b5 b6 b7 b8 b9 b10 b11 b12 b13 b14 b15 : Fact} (h : Frg w0 w (b0 :: b1 :: b2 :: b3 :: b4 :: b5 :: b6 :: b7 :: b8 :: b9 :: b10 :: b11 :: b12 :: b13 :: b14 :: b15 :: ownF lo hi s x n :: l)) (hp : OwnS w' lo hi s x' n) (k : Chg (rng lo hi) w w') : Frg w0 w' (b0 :: b1 :: b2 :: b3 :: b4 :: b5 :: b6 :: b7 :: b8 :: b9 :: b10 :: b11 :: b12 :: b13 :: b14 :: b15 :: ownF lo hi s x' n :: l) :=
  Frg.chg [b0, b1, b2, b3, b4, b5, b6, b7, b8, b9, b10, b11, b12, b13, b14, b15] (e := ownF lo hi s x n) (e' := ownF lo hi s x' n) h k hp rfl rfl
end Go.Fk

/- Filling a list, one by one. Nothing here names a program. -/
namespace Go.Fk
open Go Go.RowKit
/-- So many outputs, then the inputs. -/
def upto (j : Nat) (h z : Nat → Nat) : Nat → Nat := fun i => if i < j then h i else z i
theorem upto_zero (h z : Nat → Nat) : upto 0 h z = z := by funext i; simp [upto]
theorem upto_set (j : Nat) (h z : Nat → Nat) (r : Nat) : (fun i => if i = j then r else upto j h z i) = upto (j + 1) (fun i => if i = j then r else h i) z := by
  funext i
  unfold upto
  by_cases e : i = j
  · subst e; simp
  · by_cases l : i < j
    · simp [e, l, show i < j + 1 by omega]
    · simp [e, l, show ¬ i < j + 1 by omega]
theorem upto_full (h z : Nat → Nat) : ftab .f32 (upto 16 h z) 16 = ftab .f32 h 16 := ftab_congr (fun j hj => if_pos hj)
end Go.Fk

/- stepsOf and blockOf over a loop. -/
namespace Go.Fk
open Go Go.RowKit
theorem flist_tabL (h : Nat → Nat) (n : Nat) : (flist h n).toArray = ftab .f32 h n := by
  apply Array.ext_getElem?
  intro i
  by_cases hi : i < n
  · rw [List.getElem?_toArray, flist_get' _ hi, get_ftab _ _ _ _ hi]
  · rw [Array.getElem?_eq_none (by simp [flist_length]; omega), Array.getElem?_eq_none (by rw [size_ftab]; omega)]
theorem one_flistL (h : Nat → Nat) (n : Nat) : (flist h n).toArray.all (·.oneCell') = true := by rw [flist_tabL]; exact one_ftab _ _ _
/-- The cells of a slice, as a list. -/
theorem rows_ofL {cs : Array Value} {o n : Nat} {x : Nat → Nat} (hx : ∀ i, i < n → ∃ y, cs[o + i]? = some (.float .f32 y) ∧ fits .f32 y ∧ can .f32 y = x i) : ∃ h : Nat → Nat, (∀ i, i < n → fits .f32 (h i) ∧ can .f32 (h i) = x i) ∧ ∀ j, j < (flist h n).length → cs[o + j]? = (flist h n)[j]? := by
  refine ⟨fun i => if hi : i < n then Classical.choose (hx i hi) else 0, fun i hi => ?_, fun j hj => ?_⟩
  · have := Classical.choose_spec (hx i hi)
    simp only [hi, dif_pos]; exact this.2
  · rw [flist_length] at hj
    rw [flist_get' _ hj]
    have := Classical.choose_spec (hx j hj)
    simp only [hj, dif_pos]; exact this.1
theorem Chg.setNewL {S : Nat → Prop} {w w' : World} (h : Chg S w w') {a : Addr} (h1 : w.heap.size ≤ a.block) (v : Value) : Chg S w (w'.setCell a v) :=
  ⟨h.os, h.tape, h.output, by simpa using h.size, fun i hi hn => (Below.heap_setCell _ _ _ _ (by intro e; omega)).trans (h.block i hi hn)⟩
theorem stepS_congr (q : StS) {a b : Nat} (h : can .f32 a = can .f32 b) : stepS q a = stepS q b := by
  have e : nextS q a = nextS q b := by rw [← nextS_can q a, h, nextS_can]
  unfold stepS
  rw [e]
theorem goS_congr {q : StS} {f f' : Nat → Nat} : ∀ {n : Nat}, (∀ i, i < n → can .f32 (f i) = can .f32 (f' i)) → goS q f n = goS q f' n
  | 0, _ => rfl
  | n + 1, h => by
    show stepS (goS q f n) (f n) = stepS (goS q f' n) (f' n)
    rw [goS_congr (fun i hi => h i (by omega)), stepS_congr _ (h n (by omega))]
theorem outS_congr {q : StS} {f f' : Nat → Nat} {n : Nat} (h : ∀ i, i < n → can .f32 (f i) = can .f32 (f' i)) : outS q f n = outS q f' n := by
  unfold outS; rw [goS_congr h]
end Go.Fk
namespace Go.Proofs.Ytmacednkpjfokaa
open Go.RowKit Go.Fk
theorem arr16L (a : Addr) (cap : Nat) (w : World) : (Instr.arrayAt 29 (.slice (some a) 16 cap)).run Try.prog w = .ok (.pointer (some a)) w := by
  unfold Instr.arrayAt
  rw [Sem.run_bind, run_underlying Try.underlying29 w]
  simp [Result.andThen]
theorem LpS.le {w w' : World} {B C g : Nat} {q : StS} (h : LpS w B C g q) (hl : Fk.le w w') (hC : C ≤ w.heap.size) : LpS w' B C g q := h.ok (fun k _ b => hl.block k (Nat.lt_of_lt_of_le b hC))
set_option maxRecDepth 100000 in
set_option maxHeartbeats 4000000 in
theorem i_stepsL (B C g D : Nat) (q : StS) (x : Nat → Nat) (n : Nat) (s : Value) (w : World) (hn : n ≤ 1048576) (h : LpS w B C g q) (fit : q.Fit) (hC : C ≤ w.heap.size) (hs : ∀ w', Chg (rng B C) w w' → RdS w' D s x n) :
    Calls Try.prog 80 #[.iface 110 (.pointer (some ⟨g, 0, none⟩)), s] w fun e w' => ∃ s', e = .returned s' ∧ OwnS w' w.heap.size w'.heap.size s' (outS q x) n ∧ LpS w' B C g (goS q x n) ∧ Chg (rng B C) w w' := by
  have HM := fun w => makeF n (by omega) w
  have Z := hid (hs w (Chg.refl _ w))
  have HS := hid hs
  have HL := hid h
  have FIT := hid fit
  clear hs h
  go_enter Try.func80, Try.ntmps80
  go_wp2_with (with_reducible refine wpList_lenR rfl rfl rfl Try.underlying40 Z.out ?_)
  go_loopw [13] (fun i wr => ∃ j : Nat, j ≤ n ∧ i = .int .i64 j ∧ ∃ y : Nat → Nat, Hid (∀ i, i < j → fits .f32 (y i) ∧ can .f32 (y i) = outS q x i) ∧ Hid (LpS wr B C g (goS q x j)) ∧ Hid (Row wr w.heap.size 22 (ftab .f32 (upto j y (fun _ => 0)) n)) ∧ Hid (Chg (rng B C) w wr)) (fun i _ => n - (intOf i).toNat)
  case atStart => exact ⟨0, by omega, rfl, fun _ => 0, fun m hm => absurd hm (by omega), LpS.le HL.out (le_alloc w _) hC, by rw [upto_zero]; exact Row.new w _ _, Chg.of_le (le_alloc w _)⟩
  case round =>
    obtain ⟨j, hj, rfl, y, HJ, HB, HR, HC⟩ := hrel
    clear HM
    by_cases hlt : j < n
    · rcases HS.out _ HC.out with ⟨_, h0⟩ | ⟨a, cap, rfl, hc, hm, hx⟩
      · omega
      obtain ⟨_, p, c1, fp, ep⟩ := hx j hlt
      have FP := hid fp
      have EP : Hid (can .f32 p = can .f32 (x j)) := by unfold Hid; rw [← ep, can_can]
      have OKJ := hid (fit.run x j).ok
      clear hx fp ep
      go_wp2_with (first | (go_at_call 78; ((with_reducible refine (i_loopStep _ _ _ _ p _ HB.out OKJ.out FP.out).mono ?_); rintro e w4 ⟨r, rfl, hr, fr, hlb, hch⟩; rw [stepS_congr _ EP.out] at hlb; have HB4 := hid hlb; have HR4 := hid (hch.row HR.out (fun e => by have := e.2; omega)); have HC4 := hid (HC.out.trans hch); have HRR := hid hr; have cc := HR4.out.ftab hlt; have ff := HR4.out.frozen j; clear hlb hch hr)))
      go_roundw
      case rel =>
        refine ⟨j + 1, by omega, by go_num, fun i => if i = j then r else y i, fill_step (p := fun i v => fits .f32 v ∧ can .f32 v = outS q x i) HJ.out ⟨fr, HRR.out⟩, LpS.ok HB4.out (fun k _ b => Below.heap_setCell _ _ _ _ (by intro e; have e' : k = w.heap.size := e; omega)), ?_, HC4.out.setNewL (Nat.le_refl _) _⟩
        have F4 := HR4.out.set j (.float .f32 r)
        rw [set_ftab, upto_set] at F4
        exact F4
      case measure => simp [intOf]; omega
    · obtain rfl : j = n := by omega
      rw [show (ftab .f32 (upto j y (fun _ => 0)) j) = ftab .f32 y j from ftab_congr (fun i hi => if_pos hi)] at HR
      go_wp2
      go_ret
      exact ⟨_, rfl, .inr ⟨w.heap.size, 0, j, _, rfl, Nat.le_refl _, by unfold maxLen; omega, Nat.le_refl _, HR.out.lt, HR.out, fun i hi => ⟨y i, by rw [Nat.zero_add]; exact get_ftab .f32 y j i hi, (HJ.out i hi).1, (HJ.out i hi).2⟩⟩, HB.out, HC.out⟩
set_option maxRecDepth 100000 in
set_option maxHeartbeats 4000000 in
theorem i_blockL (B C g : Nat) (q : StS) (z : Nat → Nat) (w : World) (h : LpS w B C g q) (fit : q.Fit) (hC : C ≤ w.heap.size) (hz : ∀ j, j < 16 → fits .f32 (z j)) :
    Calls Try.prog 53 #[.iface 110 (.pointer (some ⟨g, 0, none⟩)), .agg (ftab .f32 z 16)] w fun e w' => ∃ h' : Nat → Nat, e = .returned (.agg (ftab .f32 h' 16)) ∧ (∀ j, j < 16 → fits .f32 (h' j) ∧ can .f32 (h' j) = outS q (fun i => can .f32 (z i)) j) ∧ LpS w' B C g (goS q (fun i => can .f32 (z i)) 16) ∧ Chg (rng B C) w w' := by
  have F := ((Frg.nil w).box 29 (ftab .f32 z 16)).box 29 #[.float .f32 0, .float .f32 0, .float .f32 0, .float .f32 0, .float .f32 0, .float .f32 0, .float .f32 0, .float .f32 0, .float .f32 0, .float .f32 0, .float .f32 0, .float .f32 0, .float .f32 0, .float .f32 0, .float .f32 0, .float .f32 0]
  simp only [World.size_alloc] at F
  have HST := hid (fun (w1 : World) (hl : le w w1) (hr : Row w1 w.heap.size 29 (ftab .f32 z 16)) => i_stepsL B C g (w.heap.size + 1) q (fun i => can .f32 (z i)) 16 (.slice (some ⟨w.heap.size, 0, none⟩) 16 16) w1 (by omega) (LpS.le h hl hC) fit (Nat.le_trans hC hl.size) (fun w5 hc => .inr ⟨⟨w.heap.size, 0, none⟩, 16, rfl, Nat.le_refl _, by decide, fun i hi => ⟨Nat.lt_succ_self _, z i, by rw [add_none, Nat.zero_add]; exact (hc.row hr (fun e => by have := e.2; omega)).ftab hi, hz i hi, rfl⟩⟩))
  clear h hz
  go_enter Try.func53, Try.ntmps53
  go_wp2_with (first | (go_at_call 80; ((with_reducible refine (HST.out _ F.below (F.row m1)).mono ?_); rintro e w3 ⟨s3, rfl, ho3, hlb3, hch3⟩; rcases ho3 with ⟨_, h0⟩ | ⟨b9, o9, cap9, cs9, rfl, hc9, hm9, hb9, hb9', hr9, hx9⟩; (cases h0); obtain ⟨h', hh, hcs⟩ := rows_ofL hx9; have HAP := fun w => arr16L ⟨b9, o9, none⟩ cap9 w; have R1 := hid (hch3.row (F.row m0) (fun e => by have := e.2; omega)); have HL := hid hlb3; have HC3 := hid ((Chg.of_le F.below).trans hch3); have HR9 := hid hr9; have HH := hid hh; have HCS := hid hcs; clear hlb3 hch3 hr9 hx9 hh hcs)) | ((with_reducible refine at_loadU rfl rfl ?_); refine wpList_loadPR HR9.out rfl rfl rfl Try.underlying29 rfl (flist h' 16) HCS.out infoBlk (flist_length _ _) ?_) | (with_reducible refine stop_store rfl ?_))
  show wpList _ _ _ _ _ _
  refine wpList_storeD rfl rfl rfl (cells := (flist h' 16).toArray) rfl R1.out infoBlk rfl (one_flistL _ _) (fun w4 K => ?_)
  have R := hid K.row
  have kb := K.below w.heap.size w3 (Below.refl _ _) (by omega)
  have CC : Hid (Chg (rng B C) w w4) := ⟨kb.os.trans HC3.out.os, kb.tape.trans HC3.out.tape, kb.output.trans HC3.out.output, Nat.le_trans HC3.out.size kb.size, fun k hk hn => (kb.block k hk).trans (HC3.out.block k hk hn)⟩
  have LL := hid (LpS.ok HL.out (fun k _ b => K.block k (by omega)))
  clear K kb HL HC3 R1 HR9
  go_wp2
  exact bodyPost_ret (results_row1 rfl _ _ _ _ _ rfl R.out Try.underlying29 rfl infoBlk) rfl ⟨h', by rw [flist_tabL], HH.out, LL.out, CC.out⟩
end Go.Proofs.Ytmacednkpjfokaa
