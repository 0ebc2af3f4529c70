/- Texts of the walk, laid in one file. -/
import Derived.Test.YtmacednkpjfokaaMd
set_option linter.unusedVariables false
set_option linter.unusedSimpArgs false
/- Loops of the program: strings that go on. -/
namespace Go.Fk
open Go Go.RowKit
theorem qRing (s : Value) (q : StS) : ∀ j, j < [s, Value.int .i64 (q.j : Nat)].length → (#[s, .int .i64 (q.j : Nat), .int .i64 3, .float .f32 (q.ta), .float .f32 (q.tb), .float .f32 (q.tc), .float .f32 (q.tx), .float .f32 (q.ty), .int .i64 2, .float .f32 (q.da), .float .f32 (q.db), .float .f32 (q.dc), .float .f32 (q.dx), .float .f32 (q.dy), .float .f32 (q.l)] : Array Value)[0 + j]? = [s, Value.int .i64 (q.j : Nat)][j]? := part_at [] [s, .int .i64 (q.j : Nat)] _ 0 rfl
theorem qTune (s : Value) (q : StS) : ∀ j, j < [Value.int .i64 3, .float .f32 q.ta, .float .f32 q.tb, .float .f32 q.tc, .float .f32 q.tx, .float .f32 q.ty].length → (#[s, .int .i64 (q.j : Nat), .int .i64 3, .float .f32 (q.ta), .float .f32 (q.tb), .float .f32 (q.tc), .float .f32 (q.tx), .float .f32 (q.ty), .int .i64 2, .float .f32 (q.da), .float .f32 (q.db), .float .f32 (q.dc), .float .f32 (q.dx), .float .f32 (q.dy), .float .f32 (q.l)] : Array Value)[2 + j]? = [Value.int .i64 3, .float .f32 q.ta, .float .f32 q.tb, .float .f32 q.tc, .float .f32 q.tx, .float .f32 q.ty][j]? := part_at [s, .int .i64 (q.j : Nat)] _ _ 2 rfl
theorem qDamp (s : Value) (q : StS) : ∀ j, j < [Value.int .i64 2, .float .f32 q.da, .float .f32 q.db, .float .f32 q.dc, .float .f32 q.dx, .float .f32 q.dy].length → (#[s, .int .i64 (q.j : Nat), .int .i64 3, .float .f32 (q.ta), .float .f32 (q.tb), .float .f32 (q.tc), .float .f32 (q.tx), .float .f32 (q.ty), .int .i64 2, .float .f32 (q.da), .float .f32 (q.db), .float .f32 (q.dc), .float .f32 (q.dx), .float .f32 (q.dy), .float .f32 (q.l)] : Array Value)[8 + j]? = [Value.int .i64 2, .float .f32 q.da, .float .f32 q.db, .float .f32 q.dc, .float .f32 q.dx, .float .f32 q.dy][j]? := part_at [s, .int .i64 (q.j : Nat), .int .i64 3, .float .f32 q.ta, .float .f32 q.tb, .float .f32 q.tc, .float .f32 q.tx, .float .f32 q.ty] _ _ 8 rfl
end Go.Fk
namespace Go.Proofs.Ytmacednkpjfokaa
open Go.RowKit Go.Fk
/-- A loop: a string that goes on; all its blocks lie from B to C. -/
def LpS (w : World) (B C g : Nat) (q : StS) : Prop := ∃ (s : Value) (lo hi rt rd : Nat), Row w g 137 #[s, .int .i64 (q.j : Nat), .int .i64 (loudN q.x q.n : Nat), .pointer (some ⟨rt, 0, none⟩), .pointer (some ⟨rd, 0, none⟩), .float .f32 q.l] ∧ OwnS w lo hi s q.x q.n ∧ Row w rt 88 #[mdl 3 q.ta q.tb q.tc, .float .f32 (q.tx), .float .f32 (q.ty)] ∧ Row w rd 88 #[mdl 2 q.da q.db q.dc, .float .f32 (q.dx), .float .f32 (q.dy)] ∧
  (B ≤ g ∧ g < C ∧ B ≤ rt ∧ rt < C ∧ B ≤ rd ∧ rd < C ∧ B ≤ lo ∧ hi ≤ C) ∧ (g ≠ rt ∧ g ≠ rd ∧ rt ≠ rd ∧ ¬ (lo ≤ g ∧ g < hi) ∧ ¬ (lo ≤ rt ∧ rt < hi) ∧ ¬ (lo ≤ rd ∧ rd < hi))
def OutLS (B C g : Nat) (q : StS) (a : Nat) (w : World) (e : Ending) (w' : World) : Prop := ∃ o, e = .returned (.float .f32 o) ∧ can .f32 o = q.x q.j ∧ fits .f32 o ∧ LpS w' B C g (stepS q a) ∧ Chg (rng B C) w w'
theorem lpPart (s : Value) (q : StS) (rt rd : Nat) : ∀ j, j < [s, Value.int .i64 (q.j : Nat)].length → (#[s, .int .i64 (q.j : Nat), .int .i64 (loudN q.x q.n : Nat), .pointer (some ⟨rt, 0, none⟩), .pointer (some ⟨rd, 0, none⟩), .float .f32 q.l] : Array Value)[0 + j]? = [s, Value.int .i64 (q.j : Nat)][j]? := part_at [] [s, .int .i64 (q.j : Nat)] _ 0 rfl
set_option maxRecDepth 100000 in
set_option maxHeartbeats 4000000 in
theorem i_loopStep (B C g : Nat) (q : StS) (a : Nat) (w : World) (h : LpS w B C g q) (ok : q.Ok) (ha : fits .f32 a) :
    Calls Try.prog 78 #[.pointer (some ⟨g, 0, none⟩), .float .f32 a] w (OutLS B C g q a w) := by
  obtain ⟨s, lo, hi, rt, rd, R, O, RT, RD, ⟨b1, b2, b3, b4, b5, b6, b7, b8⟩, d1, d2, d3, d4, d5, d6⟩ := h
  have HO := hid (fun (w' : World) (hl : le w w') => i_oldest hi s q.x q.n q.j w' (O.rd.le hl) ok.j1 ok.n2)
  rcases O with ⟨rfl, h0⟩ | ⟨b, o, cap, ds, rfl, hc, hm, hb, hb', hrow, hx⟩
  · have := ok.n1; omega
  have OO : Hid (OwnS w lo hi (.slice (some ⟨b, o, none⟩) q.n cap) q.x q.n) := .inr ⟨b, o, cap, ds, rfl, hc, hm, hb, hb', hrow, hx⟩
  have j1 := ok.j1
  have n2 := ok.n2
  have OK := hid ok
  have HR := hid R; have HRT := hid RT; have HRD := hid RD
  clear R RT RD hrow hx ok
  unfold maxLen at hm
  go_enter Try.func78, Try.ntmps78
  go_wp2_with (first | ((with_reducible refine at_loadU rfl rfl ?_); (with_reducible refine wpList_loadPR HR.out rfl rfl rfl Try.underlying46 rfl [.slice (some ⟨b, o, none⟩) q.n cap, .int .i64 (q.j : Nat)] (lpPart _ q rt rd) infoRing rfl ?_)) | (go_at_call 99; ((with_reducible refine (HO.out _ (le_refl _)).mono ?_); rintro e w1 ⟨y, rfl, cy, fy, hl⟩; have HL1 := hid hl; have HC := hid cy; clear hl cy)))
  have R1 := hid (HR.out.le HL1.out)
  have R1d : Hid (Row w1.drew g 137 #[(.slice (some ⟨b, o, none⟩) q.n cap), .int .i64 (q.j : Nat), .int .i64 (loudN q.x q.n : Nat), .pointer (some ⟨rt, 0, none⟩), .pointer (some ⟨rd, 0, none⟩), .float .f32 q.l]) := R1.out.drewN 1
  have T1 : Hid (Row w1.drew rt 88 #[mdl 3 q.ta q.tb q.tc, .float .f32 (q.tx), .float .f32 (q.ty)]) := (HRT.out.le HL1.out).drewN 1
  have D1 : Hid (Row w1.drew rd 88 #[mdl 2 q.da q.db q.dc, .float .f32 (q.dx), .float .f32 (q.dy)]) := (HRD.out.le HL1.out).drewN 1
  have HCY : Hid (can .f32 y = can .f32 (q.x q.j)) := by unfold Hid; rw [← HC.out, can_can]
  have c2 := R1.out.cell? 3
  have c3 := R1.out.cell? 4
  go_region_with (go_at_call 100; first | ((with_reducible refine (i_step 3 q.ta q.tb q.tc q.tx q.ty y rt _ ⟨by decide, by decide⟩ T1.out OK.out.ftx fy).mono ?_); rintro e w2 ⟨r1, rfl, hr1, fr1, hR1, hU1⟩; rw [st0_congr HCY.out, st1_congr HCY.out] at hR1; have T2 := hid hR1; have HC1 : Hid (can .f32 r1 = can .f32 (y1S q)) := (hr1.trans ((outF_congr HCY.out).trans (can_outF _ _ _ _ _ _ _).symm)); have U1 := hid (chg_upd hU1); have D2 := hid (U1.out.row D1.out (Ne.symm d3)); have c3w := (U1.out.row R1d.out d1).cell? 4; clear hR1 hr1 hU1) | ((with_reducible refine (i_step 2 q.da q.db q.dc q.dx q.dy r1 rd _ ⟨by decide, by decide⟩ D2.out OK.out.fdx fr1).mono ?_); rintro e w3 ⟨r2, rfl, hr2, fr2, hR2, hU2⟩; rw [st0_congr HC1.out, st1_congr HC1.out] at hR2; have D3 := hid hR2; have HC2 : Hid (can .f32 r2 = y2S q) := (hr2.trans (outF_congr HC1.out)); have U2 := hid (chg_upd hU2); have T3 := hid (U2.out.row T2.out d3); clear hR2 hr2 hU2))
  all_goals
    go_simp
    have UU : Hid (Chg (fun i => i = rt ∨ i = rd) w w3) := (Chg.of_le (le_trans HL1.out (le_drewN w1 1))).trans ((U1.out.mono (fun i h => .inl h)).trans (U2.out.mono (fun i h => .inr h)))
    have R3 := hid (UU.out.row HR.out (by rintro (h | h); exact d1 h; exact d2 h))
    have O3 := hid (OwnS.chgS OO.out UU.out (fun i h1 h2 h3 => by rcases h3 with h3 | h3; (subst h3; exact d5 ⟨h1, h2⟩); (subst h3; exact d6 ⟨h1, h2⟩)))
    clear U1 U2 T1 D1 T2 D2 R1 R1d c3w HR HRT HRD OO HO c2 c3
    have c5 := R3.out.cell? 5
    have HN := hid (fun r2 p r => @next_of q a r2 p r)
    go_wp2_with fail
    refine wp_region_tail (fun _ _ _ => True) 11 (by kernel_rfl) (by kernel_rfl) ?_; simp only [List.take_succ_cons, List.take_zero, List.drop_succ_cons, List.drop_zero]
    repeat (first | (with_reducible refine wpLoose_farith rfl rfl rfl rfl rfl ?_; intro r hr hf; simp only [Act.put, List.setIfInBounds_toArray, List.set_cons_succ, List.set_cons_zero]) | (refine wpLoose_quiet rfl ?_; go_big_quiet_step (fail); refine wpQuiet_nil ?_) | (refine wpLoose_nilP rfl rfl rfl ?_; simp only [Act.put, List.setIfInBounds_toArray, List.set_cons_succ, List.set_cons_zero]))
    refine wpLoose_nil (fun m => ?_)
    clear c5
    go_wp2_with (go_at_call 101; ((with_reducible refine (i_come lo hi (.slice (some ⟨b, o, none⟩) q.n cap) q.x q.n q.j _ g 0 _ _ _ (O3.out.le (le_drewN _ _)) (R3.out.drewN _) rfl rfl rfl d4 j1 n2 hf.out).mono ?_); rintro e w5 ⟨⟨v5, rfl⟩, hR4, hO4, hU4⟩; replace hR4 := hid hR4; replace hO4 := hid hO4; replace hU4 := hid hU4))
    have HK : Hid (kept r = nextS q a) := HN.out _ _ _ HC2.out (Hid.out ‹Hid (can .f32 _ = fop .mul .f32 r2 q.l)›) hr.out
    have EX : comeX q.x q.j r = (stepS q a).x := by unfold comeX; rw [HK.out]; rfl
    go_ret
    replace hR4 := hR4.out
    replace hO4 := hO4.out
    rw [EX] at hR4 hO4
    refine ⟨y, rfl, HC.out, fy, ⟨(.slice (some ⟨b, o, none⟩) q.n cap), lo, hi, rt, rd, ?_, hO4, ?_, ?_, ⟨b1, b2, b3, b4, b5, b6, b7, b8⟩, d1, d2, d3, d4, d5, d6⟩, ?_⟩
    · simpa [stepS] using hR4
    · exact hU4.out.row (T3.out.drewN _) (by rintro (h | h); exact d1 h.symm; exact d5 h)
    · exact hU4.out.row (D3.out.drewN _) (by rintro (h | h); exact d2 h.symm; exact d6 h)
    · refine ((UU.out.le (le_drewN _ _)).mono (fun i hi' => ?_)).trans (hU4.out.mono (fun i hi' => ?_))
      · rcases hi' with h | h
        · subst h; exact ⟨b3, b4⟩
        · subst h; exact ⟨b5, b6⟩
      · rcases hi' with h | h
        · subst h; exact ⟨b1, b2⟩
        · exact ⟨by omega, by omega⟩
set_option maxRecDepth 100000 in
set_option maxHeartbeats 4000000 in
theorem i_newLoop (B : Nat) (s : Value) (q : StS) (w : World) (hs : RdS w B s q.x q.n) (ok : q.Ok) :
    Calls Try.prog 77 #[.agg #[s, .int .i64 (q.j : Nat), .int .i64 3, .float .f32 (q.ta), .float .f32 (q.tb), .float .f32 (q.tc), .float .f32 (q.tx), .float .f32 (q.ty), .int .i64 2, .float .f32 (q.da), .float .f32 (q.db), .float .f32 (q.dc), .float .f32 (q.dx), .float .f32 (q.dy), .float .f32 (q.l)]] w fun e w' => ∃ g, e = .returned (.pointer (some ⟨g, 0, none⟩)) ∧ LpS w' w.heap.size w'.heap.size g q ∧ le w w' := by
  have HS := hid hs; clear hs
  have n1 := ok.n1
  have n2 := ok.n2
  have OK := hid ok; clear ok
  have G := (Frg.nil w).box 48 #[s, .int .i64 (q.j : Nat), .int .i64 3, .float .f32 (q.ta), .float .f32 (q.tb), .float .f32 (q.tc), .float .f32 (q.tx), .float .f32 (q.ty), .int .i64 2, .float .f32 (q.da), .float .f32 (q.db), .float .f32 (q.dc), .float .f32 (q.dx), .float .f32 (q.dy), .float .f32 (q.l)]
  have F0 := (Frm.nil w).box 48 #[s, .int .i64 (q.j : Nat), .int .i64 3, .float .f32 (q.ta), .float .f32 (q.tb), .float .f32 (q.tc), .float .f32 (q.tx), .float .f32 (q.ty), .int .i64 2, .float .f32 (q.da), .float .f32 (q.db), .float .f32 (q.dc), .float .f32 (q.dx), .float .f32 (q.dy), .float .f32 (q.l)]
  go_enter Try.func77, Try.ntmps77
  go_wp2_with fail
  obtain ⟨W, hW⟩ : ∃ W, W = w.alloc (.cells #[s, .int .i64 (q.j : Nat), .int .i64 3, .float .f32 (q.ta), .float .f32 (q.tb), .float .f32 (q.tc), .float .f32 (q.tx), .float .f32 (q.ty), .int .i64 2, .float .f32 (q.da), .float .f32 (q.db), .float .f32 (q.dc), .float .f32 (q.dx), .float .f32 (q.dy), .float .f32 (q.l)] 48) := ⟨_, rfl⟩
  rw [← hW] at G F0 ⊢
  clear hW
  have F := F0.drewN 1
  have G1 := G.drewN 1
  refine region_tail (fun f args w' v => if f = 98 then (∃ q0 o0 cap cs, v = .agg #[.slice (some ⟨q0, o0, none⟩) q.n cap, .int .i64 (q.j : Nat), .int .i64 (loudN q.x q.n : Nat)] ∧ w.heap.size ≤ q0 ∧ Row w' q0 22 cs ∧ OwnS w' q0 (q0 + 1) (.slice (some ⟨q0, o0, none⟩) q.n cap) q.x q.n) else (∀ k a b c x y, args = #[(.agg #[.int .i64 k, .float .f32 a, .float .f32 b, .float .f32 c, .float .f32 x, .float .f32 y])] → ∃ b0, v = .pointer (some ⟨b0, 0, none⟩) ∧ w.heap.size ≤ b0 ∧ Row w' b0 88 #[mdl k a b c, .float .f32 x, .float .f32 y])) 12 (by kernel_rfl) (by kernel_rfl) ?_
  simp only [List.take_succ_cons, List.take_zero, List.drop_succ_cons, List.drop_zero]
  refine wpFree_one rfl (.pointer (some ⟨w.heap.size, 0, none⟩)) (fun w1 _ => by kernel_rfl) ?_
  simp only [Act.put, List.setIfInBounds_toArray, List.set_cons_succ, List.set_cons_zero]
  refine wpFree_loadPart F (n := 0) rfl rfl rfl rfl List.mem_cons_self Try.underlying46 rfl [s, .int .i64 (q.j : Nat)] (qRing s q) infoRing ?_
  simp only [Act.put, List.setIfInBounds_toArray, List.set_cons_succ, List.set_cons_zero]
  refine wpFree_call rfl rfl Try.func98 (by kernel_rfl) (by kernel_rfl) (args := #[.agg #[s, .int .i64 (q.j : Nat)]]) (by simp [Act.eval]) (fun v w1 w2 hw hv => by simp only [if_true] at hv ⊢; obtain ⟨q0, o0, cap, cs, e1, e2, e3, e4⟩ := hv; exact ⟨q0, o0, cap, cs, e1, e2, e3.le hw, e4.le hw⟩) (fun w1 hw1 => (i_newDelay B s q.x q.n _ w1 (HS.out.le (le_trans G1.below hw1)) n1 n2).mono ?_) ?_
  · rintro e w2 ⟨s', rfl, ho, hl⟩
    rcases ho with ⟨_, h0⟩ | ⟨q0, o0, cap, cs, rfl, hc, hm, hq, hq', hr, hx⟩
    · omega
    exact ⟨_, rfl, hl, by simp only [if_true]; exact ⟨q0, o0, cap, cs, rfl, Nat.le_trans G1.below.size (Nat.le_trans hw1.size hq), hr, .inr ⟨q0, o0, cap, cs, rfl, hc, hm, Nat.le_refl _, Nat.lt_succ_self _, hr, hx⟩⟩⟩
  rintro v ⟨_, _, hv⟩
  simp only [if_true] at hv
  obtain ⟨q0, o0, cap, cs, rfl, hq0, _⟩ := hv
  simp only [Act.put, List.setIfInBounds_toArray, List.set_cons_succ, List.set_cons_zero]
  refine wpFree_one rfl (.pointer (some ⟨w.heap.size, 2, none⟩)) (fun w1 _ => by kernel_rfl) ?_
  simp only [Act.put, List.setIfInBounds_toArray, List.set_cons_succ, List.set_cons_zero]
  refine wpFree_loadPart F (n := 0) rfl rfl rfl rfl List.mem_cons_self Try.underlying28 rfl [.int .i64 3, .float .f32 q.ta, .float .f32 q.tb, .float .f32 q.tc, .float .f32 q.tx, .float .f32 q.ty] (qTune s q) infoFil ?_
  simp only [Act.put, List.setIfInBounds_toArray, List.set_cons_succ, List.set_cons_zero]
  refine wpFree_call rfl rfl Try.func52 (by kernel_rfl) (by kernel_rfl) (args := #[(.agg #[.int .i64 3, .float .f32 q.ta, .float .f32 q.tb, .float .f32 q.tc, .float .f32 q.tx, .float .f32 q.ty])]) (by simp [Act.eval]) (fun v w1 w2 hw hv => by simp only [show ¬ (52 = 98) by decide, if_false] at hv ⊢; intro k a b c x y e; obtain ⟨b0, e1, e2, e3⟩ := hv k a b c x y e; exact ⟨b0, e1, e2, e3.le hw⟩) (fun w1 hw1 => (i_newRunner 3 q.ta q.tb q.tc q.tx q.ty w1 ⟨by decide, by decide⟩).mono ?_) ?_
  · rintro e w2 ⟨b0, rfl, hb, hr, hl⟩
    refine ⟨_, rfl, hl, ?_⟩
    simp only [show ¬ (52 = 98) by decide, if_false]
    intro k a b c x y e
    simp only [Array.mk.injEq, List.cons.injEq, Value.agg.injEq, Value.int.injEq, Value.float.injEq, true_and, and_true] at e
    obtain ⟨rfl, rfl, rfl, rfl, rfl, rfl⟩ := e
    exact ⟨b0, rfl, Nat.le_trans G1.below.size (Nat.le_trans hw1.size hb), hr⟩
  rintro v ⟨_, _, hv⟩
  simp only [show ¬ (52 = 98) by decide, if_false] at hv
  obtain ⟨rt, rfl, _⟩ := hv _ _ _ _ _ _ rfl
  simp only [Act.put, List.setIfInBounds_toArray, List.set_cons_succ, List.set_cons_zero]
  refine wpFree_one rfl (.pointer (some ⟨w.heap.size, 8, none⟩)) (fun w1 _ => by kernel_rfl) ?_
  simp only [Act.put, List.setIfInBounds_toArray, List.set_cons_succ, List.set_cons_zero]
  refine wpFree_loadPart F (n := 0) rfl rfl rfl rfl List.mem_cons_self Try.underlying28 rfl [.int .i64 2, .float .f32 q.da, .float .f32 q.db, .float .f32 q.dc, .float .f32 q.dx, .float .f32 q.dy] (qDamp s q) infoFil ?_
  simp only [Act.put, List.setIfInBounds_toArray, List.set_cons_succ, List.set_cons_zero]
  refine wpFree_call rfl rfl Try.func52 (by kernel_rfl) (by kernel_rfl) (args := #[(.agg #[.int .i64 2, .float .f32 q.da, .float .f32 q.db, .float .f32 q.dc, .float .f32 q.dx, .float .f32 q.dy])]) (by simp [Act.eval]) (fun v w1 w2 hw hv => by simp only [show ¬ (52 = 98) by decide, if_false] at hv ⊢; intro k a b c x y e; obtain ⟨b0, e1, e2, e3⟩ := hv k a b c x y e; exact ⟨b0, e1, e2, e3.le hw⟩) (fun w1 hw1 => (i_newRunner 2 q.da q.db q.dc q.dx q.dy w1 ⟨by decide, by decide⟩).mono ?_) ?_
  · rintro e w2 ⟨b0, rfl, hb, hr, hl⟩
    refine ⟨_, rfl, hl, ?_⟩
    simp only [show ¬ (52 = 98) by decide, if_false]
    intro k a b c x y e
    simp only [Array.mk.injEq, List.cons.injEq, Value.agg.injEq, Value.int.injEq, Value.float.injEq, true_and, and_true] at e
    obtain ⟨rfl, rfl, rfl, rfl, rfl, rfl⟩ := e
    exact ⟨b0, rfl, Nat.le_trans G1.below.size (Nat.le_trans hw1.size hb), hr⟩
  rintro v ⟨_, _, hv⟩
  simp only [show ¬ (52 = 98) by decide, if_false] at hv
  obtain ⟨rd, rfl, _⟩ := hv _ _ _ _ _ _ rfl
  simp only [Act.put, List.setIfInBounds_toArray, List.set_cons_succ, List.set_cons_zero]
  refine wpFree_one rfl (.pointer (some ⟨w.heap.size, 14, none⟩)) (fun w1 _ => by kernel_rfl) ?_
  simp only [Act.put, List.setIfInBounds_toArray, List.set_cons_succ, List.set_cons_zero]
  refine wpFree_loadF F (n := 0) rfl rfl rfl rfl List.mem_cons_self rfl Try.underlying22 ?_
  simp only [Act.put, List.setIfInBounds_toArray, List.set_cons_succ, List.set_cons_zero]
  refine wpFree_one rfl (.agg #[.slice (some ⟨q0, o0, none⟩) q.n cap, .int .i64 (q.j : Nat), .int .i64 (loudN q.x q.n : Nat), .pointer (some ⟨rt, 0, none⟩), .pointer (some ⟨rd, 0, none⟩), .float .f32 q.l]) (fun w1 _ => by kernel_rfl) ?_
  simp only [Act.put, List.setIfInBounds_toArray, List.set_cons_succ, List.set_cons_zero]
  refine wpFree_nil (fun w3 hw3 hF => ?_)
  obtain ⟨⟨⟨_, K1⟩, K2⟩, K3⟩ := hF
  simp only [if_true] at K1
  simp only [show ¬ (52 = 98) by decide, if_false] at K2 K3
  obtain ⟨q1, o1, cap1, cs1, e1, _, hr1, ho1⟩ := K1
  simp only [Value.agg.injEq, Array.mk.injEq, List.cons.injEq, Value.slice.injEq, Option.some.injEq, Addr.mk.injEq, and_true, true_and] at e1
  obtain ⟨⟨rfl, rfl⟩, rfl⟩ := e1
  obtain ⟨rt1, e2, hrt, hT⟩ := K2 _ _ _ _ _ _ rfl
  obtain rfl : rt = rt1 := by simpa using e2
  obtain ⟨rd1, e3, hrd, hD⟩ := K3 _ _ _ _ _ _ rfl
  obtain rfl : rd = rd1 := by simpa using e3
  have hle := hid (le_trans G1.below hw3)
  have ne1 : q0 ≠ rt := by intro e; subst e; unfold Row at hr1 hT; rw [hr1] at hT; simp at hT
  have ne2 : q0 ≠ rd := by intro e; subst e; unfold Row at hr1 hD; rw [hr1] at hD; simp at hD
  have ne3 : rt ≠ rd := by intro e; subst e; rw [mdl3] at hT; rw [mdl2] at hD; unfold Row at hT hD; rw [hT] at hD; simp at hD
  have x1 := hr1.lt; have x2 := hT.lt; have x3 := hD.lt
  have HO := hid ho1; have HT := hid hT; have HD := hid hD
  clear ho1 hT hD hr1 G G1 F F0 hw3 K2 K3
  go_wp2
  go_ret
  have hg : w.heap.size ≤ w3.heap.size := hle.out.size
  have hl4 := le_trans hle.out (le_alloc w3 (.cells #[.slice (some ⟨q0, o0, none⟩) q.n cap, .int .i64 (q.j : Nat), .int .i64 (loudN q.x q.n : Nat), .pointer (some ⟨rt, 0, none⟩), .pointer (some ⟨rd, 0, none⟩), .float .f32 q.l] 137))
  refine ⟨w3.heap.size, rfl, ⟨(.slice (some ⟨q0, o0, none⟩) q.n cap), q0, q0 + 1, rt, rd, Row.new _ _ _, HO.out.le (le_alloc w3 _), HT.out.le (le_alloc w3 _), HD.out.le (le_alloc w3 _), ⟨hg, by simp, hrt, by simp; omega, hrd, by simp; omega, hq0, by simp; omega⟩, by omega, by omega, ne3, by omega, by omega, by omega⟩, hl4⟩
theorem rPart (v0 v1 v2 : Value) : ∀ j, j < [v1, v2].length → (#[v0, v1, v2] : Array Value)[1 + j]? = [v1, v2][j]? := part12
set_option maxRecDepth 100000 in
set_option maxHeartbeats 2000000 in
theorem i_behind (B C g : Nat) (q : StS) (s0 : Value) (j0 : Int) (tx0 ty0 dx0 dy0 : Nat) (w : World) (h : LpS w B C g q) :
    Calls Try.prog 79 #[.pointer (some ⟨g, 0, none⟩), .agg #[s0, .int .i64 j0, .int .i64 3, .float .f32 q.ta, .float .f32 q.tb, .float .f32 q.tc, .float .f32 (tx0), .float .f32 (ty0), .int .i64 2, .float .f32 q.da, .float .f32 q.db, .float .f32 q.dc, .float .f32 (dx0), .float .f32 (dy0), .float .f32 q.l]] w fun e w' => ∃ s lo hi, e = .returned (.agg #[s, .int .i64 (q.j : Nat), .int .i64 3, .float .f32 (q.ta), .float .f32 (q.tb), .float .f32 (q.tc), .float .f32 (q.tx), .float .f32 (q.ty), .int .i64 2, .float .f32 (q.da), .float .f32 (q.db), .float .f32 (q.dc), .float .f32 (q.dx), .float .f32 (q.dy), .float .f32 (q.l)]) ∧ OwnS w' lo hi s q.x q.n ∧ B ≤ lo ∧ hi ≤ C ∧ le w w' := by
  obtain ⟨s, lo, hi, rt, rd, R, O, RT, RD, ⟨b1, b2, b3, b4, b5, b6, b7, b8⟩, d1, d2, d3, d4, d5, d6⟩ := h
  have OC := hid (OwnS.one O)
  have HR := hid R; have HRT := hid RT; have HRD := hid RD; have HO := hid O
  clear R RT RD O
  have F := ((Frg.nil w).box 48 #[s0, .int .i64 j0, .int .i64 3, .float .f32 q.ta, .float .f32 q.tb, .float .f32 q.tc, .float .f32 (tx0), .float .f32 (ty0), .int .i64 2, .float .f32 q.da, .float .f32 q.db, .float .f32 q.dc, .float .f32 (dx0), .float .f32 (dy0), .float .f32 q.l]).box 48 #[.slice none 0 0, .int .i64 0, .int .i64 0, .float .f32 0, .float .f32 0, .float .f32 0, .float .f32 (0), .float .f32 (0), .int .i64 0, .float .f32 0, .float .f32 0, .float .f32 0, .float .f32 (0), .float .f32 (0), .float .f32 0]
  simp only [World.size_alloc] at F
  go_enter Try.func79, Try.ntmps79
  go_wp2_with (first | ((with_reducible refine at_loadU rfl rfl ?_); (with_reducible refine wpList_loadPR (HR.out.le F.below) rfl rfl rfl Try.underlying46 rfl [s, .int .i64 (q.j : Nat)] (lpPart _ q rt rd) infoRing rfl ?_)) | ((with_reducible refine stop_store rfl ?_)))
  show wpList _ _ _ _ _ _
  refine wpList_storeP rfl rfl rfl (f := 0) (cells := [s, .int .i64 (q.j : Nat)]) rfl (F.row m1) infoRing (by simp) (one_head OC.out rfl) (fun w2 K => ?_)
  replace F := F.wr1 (cs' := #[s, .int .i64 (q.j : Nat), .int .i64 3, .float .f32 q.ta, .float .f32 q.tb, .float .f32 q.tc, .float .f32 (tx0), .float .f32 (ty0), .int .i64 2, .float .f32 q.da, .float .f32 q.db, .float .f32 q.dc, .float .f32 (dx0), .float .f32 (dy0), .float .f32 q.l]) K
  clear K
  have c2 := (HR.out.le F.below).cell? 3
  go_wp2_with (first | ((with_reducible refine at_loadU rfl rfl ?_); (with_reducible refine wpList_loadPR (HRT.out.le F.below) rfl rfl rfl Try.underlying24 rfl [.float .f32 q.tx, .float .f32 q.ty] (rPart _ _ _) info2 rfl ?_)) | ((with_reducible refine stop_store rfl ?_)))
  show wpList _ _ _ _ _ _
  refine wpList_storeP rfl rfl rfl (f := 6) (cells := [.float .f32 q.tx, .float .f32 q.ty]) rfl (F.row m1) info2 (by simp) (by simp [Value.oneCell']) (fun w3 K => ?_)
  replace F := F.wr1 (cs' := #[s, .int .i64 (q.j : Nat), .int .i64 3, .float .f32 q.ta, .float .f32 q.tb, .float .f32 q.tc, .float .f32 (q.tx), .float .f32 (q.ty), .int .i64 2, .float .f32 q.da, .float .f32 q.db, .float .f32 q.dc, .float .f32 (dx0), .float .f32 (dy0), .float .f32 q.l]) K
  clear K c2
  have c3 := (HR.out.le F.below).cell? 4
  go_wp2_with (first | ((with_reducible refine at_loadU rfl rfl ?_); (with_reducible refine wpList_loadPR (HRD.out.le F.below) rfl rfl rfl Try.underlying24 rfl [.float .f32 q.dx, .float .f32 q.dy] (rPart _ _ _) info2 rfl ?_)) | ((with_reducible refine stop_store rfl ?_)))
  show wpList _ _ _ _ _ _
  refine wpList_storeP rfl rfl rfl (f := 12) (cells := [.float .f32 q.dx, .float .f32 q.dy]) rfl (F.row m1) info2 (by simp) (by simp [Value.oneCell']) (fun w4 K => ?_)
  replace F := F.wr1 (cs' := #[s, .int .i64 (q.j : Nat), .int .i64 3, .float .f32 (q.ta), .float .f32 (q.tb), .float .f32 (q.tc), .float .f32 (q.tx), .float .f32 (q.ty), .int .i64 2, .float .f32 (q.da), .float .f32 (q.db), .float .f32 (q.dc), .float .f32 (q.dx), .float .f32 (q.dy), .float .f32 (q.l)]) K
  clear K c3
  go_wp2_with (first | ((with_reducible refine at_loadU rfl rfl ?_); (with_reducible refine wpList_loadG F rfl rfl rfl m1 Try.underlying48 rfl infoStr rfl ?_)) | ((with_reducible refine stop_store rfl ?_)))
  show wpList _ _ _ _ _ _
  refine wpList_storeD rfl rfl rfl (cells := #[s, .int .i64 (q.j : Nat), .int .i64 3, .float .f32 (q.ta), .float .f32 (q.tb), .float .f32 (q.tc), .float .f32 (q.tx), .float .f32 (q.ty), .int .i64 2, .float .f32 (q.da), .float .f32 (q.db), .float .f32 (q.dc), .float .f32 (q.dx), .float .f32 (q.dy), .float .f32 (q.l)]) rfl (F.row m0) infoStr rfl (one_head OC.out rfl) (fun w5 K => ?_)
  have RW := hid K.row
  have L := hid (F.wr0 K).below
  clear K F
  go_wp2
  exact bodyPost_ret (results_row1 rfl _ _ _ _ _ rfl RW.out Try.underlying48 rfl infoStr) rfl ⟨s, lo, hi, rfl, HO.out.le L.out, b7, b8, L.out⟩
set_option maxRecDepth 100000 in
theorem i_delaySilent (g f m : Nat) (t : TypeId) (cs : Array Value) (w : World) (R : Row w g t cs) (e : cs[f + 2]? = some (.int .i64 (m : Nat))) : Calls Try.prog 102 #[.pointer (some ⟨g, f, none⟩)] w fun e w' => e = .returned (.bool (decide (m = 0))) ∧ w = w' := by
  have c := (R.cell? (f + 2)).trans e
  by_cases h0 : m = 0
  · subst h0
    go_enter Try.func102, Try.ntmps102
    go_wp2
    go_ret
    exact ⟨rfl, rfl⟩
  · have E := hid (show decide (m = 0) = false from decide_eq_false h0)
    have h0' : ¬ ((m : Nat) : Int) = 0 := by omega
    rw [E.out]
    go_enter Try.func102, Try.ntmps102
    go_wp2
    go_ret
    exact ⟨ret_b (by simpa using h0), rfl⟩
set_option maxRecDepth 100000 in
set_option maxHeartbeats 2000000 in
theorem i_loopStill (B C g : Nat) (q : StS) (w : World) (h : LpS w B C g q) :
    Calls Try.prog 83 #[.pointer (some ⟨g, 0, none⟩)] w fun e w' => e = .returned (.bool (silS q)) ∧ w = w' := by
  obtain ⟨s, lo, hi, rt, rd, R, O, RT, RD, _, _⟩ := h
  have HT := hid (i_isStill _ _ _ _ _ RT)
  have HD := hid (i_isStill _ _ _ _ _ RD)
  have c3 := R.cell? 3
  have c4 := R.cell? 4
  have HSI := hid (i_delaySilent g 0 (loudN q.x q.n) _ _ w R rfl)
  clear R O RT RD
  have hs : silS q = (decide (loudN q.x q.n = 0) && (stillB q.tx q.ty && stillB q.dx q.dy)) := rfl
  rw [hs]
  by_cases h0 : loudN q.x q.n = 0
  · rw [decide_eq_true h0] at HSI
    cases h1 : stillB q.tx q.ty
    · rw [h1] at HT
      clear h1 HD hs
      go_enter Try.func83, Try.ntmps83
      go_wp2_with (first | (go_at_call 102; ((with_reducible refine (HSI.out).mono ?_); rintro e w' ⟨rfl, rfl⟩)) | (go_at_call 103; ((with_reducible refine (HT.out).mono ?_); rintro e w' ⟨rfl, rfl⟩)))
      go_ret
      exact ⟨ret_b (by simp), rfl⟩
    · rw [h1] at HT
      clear h1 hs
      go_enter Try.func83, Try.ntmps83
      go_wp2_with (first | (go_at_call 102; ((with_reducible refine (HSI.out).mono ?_); rintro e w' ⟨rfl, rfl⟩)) | (go_at_call 103; ((with_reducible refine (HT.out).mono ?_); rintro e w' ⟨rfl, rfl⟩)) | (go_at_call 103; ((with_reducible refine (HD.out).mono ?_); rintro e w' ⟨rfl, rfl⟩)))
      go_ret
      exact ⟨ret_b (by simp [h0]), rfl⟩
  · rw [decide_eq_false h0] at HSI
    clear hs HT HD
    go_enter Try.func83, Try.ntmps83
    go_wp2_with (first | (go_at_call 102; ((with_reducible refine (HSI.out).mono ?_); rintro e w' ⟨rfl, rfl⟩)))
    go_ret
    exact ⟨ret_b (by simp [h0]), rfl⟩
end Go.Proofs.Ytmacednkpjfokaa

/- 'ValidString' of both. -/
namespace Go.Fk
open Go Go.RowKit
/-- Is a string valid? -/
def okStr (n : Nat) (k tk : Int) (ta tb tc tx ty : Nat) (dk : Int) (da db dc dx dy l : Nat) : Bool := okRing n k && (okF tk ta tb tc tx ty && (decide (tk = 3) && (okF dk da db dc dx dy && (decide (dk = 2) && fin l))))
theorem inTune (s : Value) (k tk : Int) (ta tb tc tx ty : Nat) (dk : Int) (da db dc dx dy l : Nat) : FilIn #[s, .int .i64 k, .int .i64 tk, .float .f32 ta, .float .f32 tb, .float .f32 tc, .float .f32 tx, .float .f32 ty, .int .i64 dk, .float .f32 da, .float .f32 db, .float .f32 dc, .float .f32 dx, .float .f32 dy, .float .f32 l] 2 tk ta tb tc tx ty := ⟨rfl, rfl, rfl, rfl, rfl, rfl⟩
theorem inDamp (s : Value) (k tk : Int) (ta tb tc tx ty : Nat) (dk : Int) (da db dc dx dy l : Nat) : FilIn #[s, .int .i64 k, .int .i64 tk, .float .f32 ta, .float .f32 tb, .float .f32 tc, .float .f32 tx, .float .f32 ty, .int .i64 dk, .float .f32 da, .float .f32 db, .float .f32 dc, .float .f32 dx, .float .f32 dy, .float .f32 l] 8 dk da db dc dx dy := ⟨rfl, rfl, rfl, rfl, rfl, rfl⟩
end Go.Fk
namespace Go.Proofs.Ytmacednkpjfokaa
open Go.RowKit Go.Fk
set_option maxRecDepth 100000 in
set_option maxHeartbeats 2000000 in
theorem s_l03Ok (B : Nat) (s : Value) (x : Nat → Nat) (n : Nat) (k tk : Int) (ta tb tc tx ty : Nat) (dk : Int) (da db dc dx dy l : Nat) (g : Nat) (w : World) (hs : RdS w B s x n) (R : Row w g 48 #[s, .int .i64 k, .int .i64 tk, .float .f32 ta, .float .f32 tb, .float .f32 tc, .float .f32 tx, .float .f32 ty, .int .i64 dk, .float .f32 da, .float .f32 db, .float .f32 dc, .float .f32 dx, .float .f32 dy, .float .f32 l]) (hk : (Lit.int .i64 k).wf = true) :
    Calls Try.prog 61 #[.pointer (some ⟨g, 0, none⟩)] w fun e w' => e = .returned (.bool (okStr n k tk ta tb tc tx ty dk da db dc dx dy l)) ∧ ∃ m, w' = w.drewN m := by
  have G0 := s_l02RingR B s x n k g 0 w hs (R.cell? 0) (R.cell? 1) hk
  have G1 := fun (w1 : World) (R1 : Row w1 g 48 #[s, .int .i64 k, .int .i64 tk, .float .f32 ta, .float .f32 tb, .float .f32 tc, .float .f32 tx, .float .f32 ty, .int .i64 dk, .float .f32 da, .float .f32 db, .float .f32 dc, .float .f32 dx, .float .f32 dy, .float .f32 l]) => s_OkAt tk ta tb tc tx ty g 2 w1 ((inTune s k tk ta tb tc tx ty dk da db dc dx dy l).at R1)
  have G3 := fun (w1 : World) (R1 : Row w1 g 48 #[s, .int .i64 k, .int .i64 tk, .float .f32 ta, .float .f32 tb, .float .f32 tc, .float .f32 tx, .float .f32 ty, .int .i64 dk, .float .f32 da, .float .f32 db, .float .f32 dc, .float .f32 dx, .float .f32 dy, .float .f32 l]) => s_OkAt dk da db dc dx dy g 8 w1 ((inDamp s k tk ta tb tc tx ty dk da db dc dx dy l).at R1)
  have G5 := fun (w1 : World) => s_l01Finite l w1
  have c2 := R.cell? 2
  have c8 := R.cell? 8
  have c14 := R.cell? 14
  have RR := hid R
  clear hs R hk
  cases h1 : okRing n k
  · have HZ : Hid (okStr n k tk ta tb tc tx ty dk da db dc dx dy l = false) := by unfold Hid okStr; simp only [h1, Bool.and_true, Bool.and_false, Bool.true_and, Bool.false_and]
    rw [h1] at G0; have H0 := hid G0; clear G0
    clear h1
    clear G1
    clear G3
    clear G5
    go_enter Try.func61, Try.ntmps61
    go_wp2_with (first | (go_at_call 91; ((with_reducible refine (H0.out).mono ?_); rintro e w1 ⟨rfl, rfl⟩)) | (go_at_call 47; ((with_reducible refine (H1.out _ (by first | exact RR.out | exact RR.out.drewN _)).mono ?_); rintro e w1 ⟨rfl, n1, rfl⟩)) | (go_at_call 47; ((with_reducible refine (H3.out _ (by first | exact RR.out | exact RR.out.drewN _)).mono ?_); rintro e w1 ⟨rfl, n1, rfl⟩)) | (go_at_call 62; ((with_reducible refine (H5.out _).mono ?_); rintro e w1 ⟨rfl, n1, rfl⟩)))
    go_ret
    exact ⟨ret_b HZ.out.symm, by first | exact ⟨_, rfl⟩ | exact ⟨0, rfl⟩⟩
  · skip
    cases h2 : okF tk ta tb tc tx ty
    · have HZ : Hid (okStr n k tk ta tb tc tx ty dk da db dc dx dy l = false) := by unfold Hid okStr; simp only [h1, h2, Bool.and_true, Bool.and_false, Bool.true_and, Bool.false_and]
      rw [h1] at G0; have H0 := hid G0; clear G0
      rw [h2] at G1; have H1 := hid G1; clear G1
      clear h1 h2
      clear G3
      clear G5
      go_enter Try.func61, Try.ntmps61
      go_wp2_with (first | (go_at_call 91; ((with_reducible refine (H0.out).mono ?_); rintro e w1 ⟨rfl, rfl⟩)) | (go_at_call 47; ((with_reducible refine (H1.out _ (by first | exact RR.out | exact RR.out.drewN _)).mono ?_); rintro e w1 ⟨rfl, n1, rfl⟩)) | (go_at_call 47; ((with_reducible refine (H3.out _ (by first | exact RR.out | exact RR.out.drewN _)).mono ?_); rintro e w1 ⟨rfl, n1, rfl⟩)) | (go_at_call 62; ((with_reducible refine (H5.out _).mono ?_); rintro e w1 ⟨rfl, n1, rfl⟩)))
      go_ret
      exact ⟨ret_b HZ.out.symm, by first | exact ⟨_, rfl⟩ | exact ⟨0, rfl⟩⟩
    · skip
      cases h3 : decide (tk = 3)
      · have HZ : Hid (okStr n k tk ta tb tc tx ty dk da db dc dx dy l = false) := by unfold Hid okStr; simp only [h1, h2, h3, Bool.and_true, Bool.and_false, Bool.true_and, Bool.false_and]
        rw [h1] at G0; have H0 := hid G0; clear G0
        rw [h2] at G1; have H1 := hid G1; clear G1
        have e3 : ¬ tk = 3 := of_decide_eq_false h3
        clear h1 h2 h3
        clear G3
        clear G5
        go_enter Try.func61, Try.ntmps61
        go_wp2_with (first | (go_at_call 91; ((with_reducible refine (H0.out).mono ?_); rintro e w1 ⟨rfl, rfl⟩)) | (go_at_call 47; ((with_reducible refine (H1.out _ (by first | exact RR.out | exact RR.out.drewN _)).mono ?_); rintro e w1 ⟨rfl, n1, rfl⟩)) | (go_at_call 47; ((with_reducible refine (H3.out _ (by first | exact RR.out | exact RR.out.drewN _)).mono ?_); rintro e w1 ⟨rfl, n1, rfl⟩)) | (go_at_call 62; ((with_reducible refine (H5.out _).mono ?_); rintro e w1 ⟨rfl, n1, rfl⟩)))
        go_ret
        exact ⟨ret_b HZ.out.symm, by first | exact ⟨_, rfl⟩ | exact ⟨0, rfl⟩⟩
      · skip
        cases h4 : okF dk da db dc dx dy
        · have HZ : Hid (okStr n k tk ta tb tc tx ty dk da db dc dx dy l = false) := by unfold Hid okStr; simp only [h1, h2, h3, h4, Bool.and_true, Bool.and_false, Bool.true_and, Bool.false_and]
          rw [h1] at G0; have H0 := hid G0; clear G0
          rw [h2] at G1; have H1 := hid G1; clear G1
          have e3 : (tk == 3) = true := by simpa using h3
          rw [h4] at G3; have H3 := hid G3; clear G3
          clear h1 h2 h3 h4
          clear G5
          go_enter Try.func61, Try.ntmps61
          go_wp2_with (first | (go_at_call 91; ((with_reducible refine (H0.out).mono ?_); rintro e w1 ⟨rfl, rfl⟩)) | (go_at_call 47; ((with_reducible refine (H1.out _ (by first | exact RR.out | exact RR.out.drewN _)).mono ?_); rintro e w1 ⟨rfl, n1, rfl⟩)) | (go_at_call 47; ((with_reducible refine (H3.out _ (by first | exact RR.out | exact RR.out.drewN _)).mono ?_); rintro e w1 ⟨rfl, n1, rfl⟩)) | (go_at_call 62; ((with_reducible refine (H5.out _).mono ?_); rintro e w1 ⟨rfl, n1, rfl⟩)))
          go_ret
          exact ⟨ret_b HZ.out.symm, by first | exact ⟨_, rfl⟩ | exact ⟨0, rfl⟩⟩
        · skip
          cases h5 : decide (dk = 2)
          · have HZ : Hid (okStr n k tk ta tb tc tx ty dk da db dc dx dy l = false) := by unfold Hid okStr; simp only [h1, h2, h3, h4, h5, Bool.and_true, Bool.and_false, Bool.true_and, Bool.false_and]
            rw [h1] at G0; have H0 := hid G0; clear G0
            rw [h2] at G1; have H1 := hid G1; clear G1
            have e3 : (tk == 3) = true := by simpa using h3
            rw [h4] at G3; have H3 := hid G3; clear G3
            have e5 : ¬ dk = 2 := of_decide_eq_false h5
            clear h1 h2 h3 h4 h5
            clear G5
            go_enter Try.func61, Try.ntmps61
            go_wp2_with (first | (go_at_call 91; ((with_reducible refine (H0.out).mono ?_); rintro e w1 ⟨rfl, rfl⟩)) | (go_at_call 47; ((with_reducible refine (H1.out _ (by first | exact RR.out | exact RR.out.drewN _)).mono ?_); rintro e w1 ⟨rfl, n1, rfl⟩)) | (go_at_call 47; ((with_reducible refine (H3.out _ (by first | exact RR.out | exact RR.out.drewN _)).mono ?_); rintro e w1 ⟨rfl, n1, rfl⟩)) | (go_at_call 62; ((with_reducible refine (H5.out _).mono ?_); rintro e w1 ⟨rfl, n1, rfl⟩)))
            go_ret
            exact ⟨ret_b HZ.out.symm, by first | exact ⟨_, rfl⟩ | exact ⟨0, rfl⟩⟩
          · skip
            cases h6 : fin l
            · have HZ : Hid (okStr n k tk ta tb tc tx ty dk da db dc dx dy l = false) := by unfold Hid okStr; simp only [h1, h2, h3, h4, h5, h6, Bool.and_true, Bool.and_false, Bool.true_and, Bool.false_and]
              rw [h1] at G0; have H0 := hid G0; clear G0
              rw [h2] at G1; have H1 := hid G1; clear G1
              have e3 : (tk == 3) = true := by simpa using h3
              rw [h4] at G3; have H3 := hid G3; clear G3
              have e5 : (dk == 2) = true := by simpa using h5
              rw [h6] at G5; have H5 := hid G5; clear G5
              clear h1 h2 h3 h4 h5 h6
              go_enter Try.func61, Try.ntmps61
              go_wp2_with (first | (go_at_call 91; ((with_reducible refine (H0.out).mono ?_); rintro e w1 ⟨rfl, rfl⟩)) | (go_at_call 47; ((with_reducible refine (H1.out _ (by first | exact RR.out | exact RR.out.drewN _)).mono ?_); rintro e w1 ⟨rfl, n1, rfl⟩)) | (go_at_call 47; ((with_reducible refine (H3.out _ (by first | exact RR.out | exact RR.out.drewN _)).mono ?_); rintro e w1 ⟨rfl, n1, rfl⟩)) | (go_at_call 62; ((with_reducible refine (H5.out _).mono ?_); rintro e w1 ⟨rfl, n1, rfl⟩)))
              go_ret
              exact ⟨ret_b HZ.out.symm, by first | exact ⟨_, rfl⟩ | exact ⟨0, rfl⟩⟩
            · skip
              have HZ : Hid (okStr n k tk ta tb tc tx ty dk da db dc dx dy l = true) := by unfold Hid okStr; simp only [h1, h2, h3, h4, h5, h6, Bool.and_true, Bool.and_false, Bool.true_and, Bool.false_and]
              rw [h1] at G0; have H0 := hid G0; clear G0
              rw [h2] at G1; have H1 := hid G1; clear G1
              have e3 : (tk == 3) = true := by simpa using h3
              rw [h4] at G3; have H3 := hid G3; clear G3
              have e5 : (dk == 2) = true := by simpa using h5
              rw [h6] at G5; have H5 := hid G5; clear G5
              clear h1 h2 h3 h4 h5 h6
              go_enter Try.func61, Try.ntmps61
              go_wp2_with (first | (go_at_call 91; ((with_reducible refine (H0.out).mono ?_); rintro e w1 ⟨rfl, rfl⟩)) | (go_at_call 47; ((with_reducible refine (H1.out _ (by first | exact RR.out | exact RR.out.drewN _)).mono ?_); rintro e w1 ⟨rfl, n1, rfl⟩)) | (go_at_call 47; ((with_reducible refine (H3.out _ (by first | exact RR.out | exact RR.out.drewN _)).mono ?_); rintro e w1 ⟨rfl, n1, rfl⟩)) | (go_at_call 62; ((with_reducible refine (H5.out _).mono ?_); rintro e w1 ⟨rfl, n1, rfl⟩)))
              go_ret
              exact ⟨ret_b HZ.out.symm, by first | exact ⟨_, rfl⟩ | exact ⟨0, rfl⟩⟩
set_option maxRecDepth 100000 in
set_option maxHeartbeats 2000000 in
theorem i_ValidStringR (B : Nat) (s : Value) (x : Nat → Nat) (n : Nat) (k tk : Int) (ta tb tc tx ty : Nat) (dk : Int) (da db dc dx dy l : Nat) (w : World) (hs : RdS w B s x n) (hf : fits .f32 ta ∧ fits .f32 tb ∧ fits .f32 tc ∧ fits .f32 tx ∧ fits .f32 ty) (hg : fits .f32 da ∧ fits .f32 db ∧ fits .f32 dc ∧ fits .f32 dx ∧ fits .f32 dy) (hl : fits .f32 l) :
    Calls Try.prog 66 #[.agg #[s, .int .i64 k, .int .i64 tk, .float .f32 ta, .float .f32 tb, .float .f32 tc, .float .f32 tx, .float .f32 ty, .int .i64 dk, .float .f32 da, .float .f32 db, .float .f32 dc, .float .f32 dx, .float .f32 dy, .float .f32 l]] w (Out_b (okStr n k tk ta tb tc tx ty dk da db dc dx dy l) w) := by
  have G0 := fun (w1 : World) (h : le w w1) => i_ValidRingR B s x n k w1 (hs.le h)
  have G1 := fun (w1 : World) => i_ValidFilter tk ta tb tc tx ty w1 hf
  have G3 := fun (w1 : World) => i_ValidFilter dk da db dc dx dy w1 hg
  have G5 := fun (w1 : World) => i_isFinite l w1 hl
  have F := (Frg.nil w).box 48 #[s, .int .i64 k, .int .i64 tk, .float .f32 ta, .float .f32 tb, .float .f32 tc, .float .f32 tx, .float .f32 ty, .int .i64 dk, .float .f32 da, .float .f32 db, .float .f32 dc, .float .f32 dx, .float .f32 dy, .float .f32 l]
  clear hs hf hg hl
  cases h1 : okRing n k
  · have HZ : Hid (okStr n k tk ta tb tc tx ty dk da db dc dx dy l = false) := by unfold Hid okStr; simp only [h1, Bool.and_true, Bool.and_false, Bool.true_and, Bool.false_and]
    rw [h1] at G0; have H0 := hid G0; clear G0
    clear h1
    clear G1
    clear G3
    clear G5
    have c2 := (F.row m0).cell? 2; have c8 := (F.row m0).cell? 8; have c14 := (F.row m0).cell? 14
    go_enter Try.func66, Try.ntmps66
    go_wp2_with (first | ((with_reducible refine at_loadU rfl rfl ?_); first | (with_reducible refine wpList_loadGP F rfl rfl rfl m0 Try.underlying46 rfl [s, .int .i64 k] (strRing s k tk ta tb tc tx ty dk da db dc dx dy l) infoRing rfl ?_) | (with_reducible refine wpList_loadGP F rfl rfl rfl m0 Try.underlying28 rfl [.int .i64 tk, .float .f32 ta, .float .f32 tb, .float .f32 tc, .float .f32 tx, .float .f32 ty] (strTune s k tk ta tb tc tx ty dk da db dc dx dy l) infoFil rfl ?_) | (with_reducible refine wpList_loadGP F rfl rfl rfl m0 Try.underlying28 rfl [.int .i64 dk, .float .f32 da, .float .f32 db, .float .f32 dc, .float .f32 dx, .float .f32 dy] (strDamp s k tk ta tb tc tx ty dk da db dc dx dy l) infoFil rfl ?_)) | ((with_reducible refine at_loadV rfl rfl ?_); first | (with_reducible refine wpList_loadGPG F rfl rfl m0 Try.underlying46 rfl [s, .int .i64 k] (strRing s k tk ta tb tc tx ty dk da db dc dx dy l) infoRing rfl (by kernel_rfl) ?_) | (with_reducible refine wpList_loadGPG F rfl rfl m0 Try.underlying28 rfl [.int .i64 tk, .float .f32 ta, .float .f32 tb, .float .f32 tc, .float .f32 tx, .float .f32 ty] (strTune s k tk ta tb tc tx ty dk da db dc dx dy l) infoFil rfl (by kernel_rfl) ?_) | (with_reducible refine wpList_loadGPG F rfl rfl m0 Try.underlying28 rfl [.int .i64 dk, .float .f32 da, .float .f32 db, .float .f32 dc, .float .f32 dx, .float .f32 dy] (strDamp s k tk ta tb tc tx ty dk da db dc dx dy l) infoFil rfl (by kernel_rfl) ?_)) | (go_at_call 93; ((with_reducible refine (H0.out _ F.below).mono ?_); rintro e w1 ⟨rfl, hl⟩; replace F := F.le hl; clear hl; clear c2 c8 c14; have c2 := (F.row m0).cell? 2; have c8 := (F.row m0).cell? 8; have c14 := (F.row m0).cell? 14)) | (go_at_call 51; ((with_reducible refine (H1.out _).mono ?_); rintro e w1 ⟨rfl, hl⟩; replace F := F.le hl; clear hl; clear c2 c8 c14; have c2 := (F.row m0).cell? 2; have c8 := (F.row m0).cell? 8; have c14 := (F.row m0).cell? 14)) | (go_at_call 51; ((with_reducible refine (H3.out _).mono ?_); rintro e w1 ⟨rfl, hl⟩; replace F := F.le hl; clear hl; clear c2 c8 c14; have c2 := (F.row m0).cell? 2; have c8 := (F.row m0).cell? 8; have c14 := (F.row m0).cell? 14)) | (go_at_call 68; ((with_reducible refine (H5.out _).mono ?_); rintro e w1 ⟨rfl, rfl⟩)))
    go_ret
    exact ⟨ret_b HZ.out.symm, F.below⟩
  · skip
    cases h3 : decide (tk = 3)
    · have HZ : Hid (okStr n k tk ta tb tc tx ty dk da db dc dx dy l = false) := by unfold Hid okStr; simp only [h1, h3, Bool.and_true, Bool.and_false, Bool.true_and, Bool.false_and]
      rw [h1] at G0; have H0 := hid G0; clear G0
      have e3 : ¬ tk = 3 := of_decide_eq_false h3
      clear h1 h3
      clear G1
      clear G3
      clear G5
      have c2 := (F.row m0).cell? 2; have c8 := (F.row m0).cell? 8; have c14 := (F.row m0).cell? 14
      go_enter Try.func66, Try.ntmps66
      go_wp2_with (first | ((with_reducible refine at_loadU rfl rfl ?_); first | (with_reducible refine wpList_loadGP F rfl rfl rfl m0 Try.underlying46 rfl [s, .int .i64 k] (strRing s k tk ta tb tc tx ty dk da db dc dx dy l) infoRing rfl ?_) | (with_reducible refine wpList_loadGP F rfl rfl rfl m0 Try.underlying28 rfl [.int .i64 tk, .float .f32 ta, .float .f32 tb, .float .f32 tc, .float .f32 tx, .float .f32 ty] (strTune s k tk ta tb tc tx ty dk da db dc dx dy l) infoFil rfl ?_) | (with_reducible refine wpList_loadGP F rfl rfl rfl m0 Try.underlying28 rfl [.int .i64 dk, .float .f32 da, .float .f32 db, .float .f32 dc, .float .f32 dx, .float .f32 dy] (strDamp s k tk ta tb tc tx ty dk da db dc dx dy l) infoFil rfl ?_)) | ((with_reducible refine at_loadV rfl rfl ?_); first | (with_reducible refine wpList_loadGPG F rfl rfl m0 Try.underlying46 rfl [s, .int .i64 k] (strRing s k tk ta tb tc tx ty dk da db dc dx dy l) infoRing rfl (by kernel_rfl) ?_) | (with_reducible refine wpList_loadGPG F rfl rfl m0 Try.underlying28 rfl [.int .i64 tk, .float .f32 ta, .float .f32 tb, .float .f32 tc, .float .f32 tx, .float .f32 ty] (strTune s k tk ta tb tc tx ty dk da db dc dx dy l) infoFil rfl (by kernel_rfl) ?_) | (with_reducible refine wpList_loadGPG F rfl rfl m0 Try.underlying28 rfl [.int .i64 dk, .float .f32 da, .float .f32 db, .float .f32 dc, .float .f32 dx, .float .f32 dy] (strDamp s k tk ta tb tc tx ty dk da db dc dx dy l) infoFil rfl (by kernel_rfl) ?_)) | (go_at_call 93; ((with_reducible refine (H0.out _ F.below).mono ?_); rintro e w1 ⟨rfl, hl⟩; replace F := F.le hl; clear hl; clear c2 c8 c14; have c2 := (F.row m0).cell? 2; have c8 := (F.row m0).cell? 8; have c14 := (F.row m0).cell? 14)) | (go_at_call 51; ((with_reducible refine (H1.out _).mono ?_); rintro e w1 ⟨rfl, hl⟩; replace F := F.le hl; clear hl; clear c2 c8 c14; have c2 := (F.row m0).cell? 2; have c8 := (F.row m0).cell? 8; have c14 := (F.row m0).cell? 14)) | (go_at_call 51; ((with_reducible refine (H3.out _).mono ?_); rintro e w1 ⟨rfl, hl⟩; replace F := F.le hl; clear hl; clear c2 c8 c14; have c2 := (F.row m0).cell? 2; have c8 := (F.row m0).cell? 8; have c14 := (F.row m0).cell? 14)) | (go_at_call 68; ((with_reducible refine (H5.out _).mono ?_); rintro e w1 ⟨rfl, rfl⟩)))
      go_ret
      exact ⟨ret_b HZ.out.symm, F.below⟩
    · skip
      cases h2 : okF tk ta tb tc tx ty
      · have HZ : Hid (okStr n k tk ta tb tc tx ty dk da db dc dx dy l = false) := by unfold Hid okStr; simp only [h1, h3, h2, Bool.and_true, Bool.and_false, Bool.true_and, Bool.false_and]
        rw [h1] at G0; have H0 := hid G0; clear G0
        have e3 : (tk == 3) = true := by simpa using h3
        rw [h2] at G1; have H1 := hid G1; clear G1
        clear h1 h3 h2
        clear G3
        clear G5
        have c2 := (F.row m0).cell? 2; have c8 := (F.row m0).cell? 8; have c14 := (F.row m0).cell? 14
        go_enter Try.func66, Try.ntmps66
        go_wp2_with (first | ((with_reducible refine at_loadU rfl rfl ?_); first | (with_reducible refine wpList_loadGP F rfl rfl rfl m0 Try.underlying46 rfl [s, .int .i64 k] (strRing s k tk ta tb tc tx ty dk da db dc dx dy l) infoRing rfl ?_) | (with_reducible refine wpList_loadGP F rfl rfl rfl m0 Try.underlying28 rfl [.int .i64 tk, .float .f32 ta, .float .f32 tb, .float .f32 tc, .float .f32 tx, .float .f32 ty] (strTune s k tk ta tb tc tx ty dk da db dc dx dy l) infoFil rfl ?_) | (with_reducible refine wpList_loadGP F rfl rfl rfl m0 Try.underlying28 rfl [.int .i64 dk, .float .f32 da, .float .f32 db, .float .f32 dc, .float .f32 dx, .float .f32 dy] (strDamp s k tk ta tb tc tx ty dk da db dc dx dy l) infoFil rfl ?_)) | ((with_reducible refine at_loadV rfl rfl ?_); first | (with_reducible refine wpList_loadGPG F rfl rfl m0 Try.underlying46 rfl [s, .int .i64 k] (strRing s k tk ta tb tc tx ty dk da db dc dx dy l) infoRing rfl (by kernel_rfl) ?_) | (with_reducible refine wpList_loadGPG F rfl rfl m0 Try.underlying28 rfl [.int .i64 tk, .float .f32 ta, .float .f32 tb, .float .f32 tc, .float .f32 tx, .float .f32 ty] (strTune s k tk ta tb tc tx ty dk da db dc dx dy l) infoFil rfl (by kernel_rfl) ?_) | (with_reducible refine wpList_loadGPG F rfl rfl m0 Try.underlying28 rfl [.int .i64 dk, .float .f32 da, .float .f32 db, .float .f32 dc, .float .f32 dx, .float .f32 dy] (strDamp s k tk ta tb tc tx ty dk da db dc dx dy l) infoFil rfl (by kernel_rfl) ?_)) | (go_at_call 93; ((with_reducible refine (H0.out _ F.below).mono ?_); rintro e w1 ⟨rfl, hl⟩; replace F := F.le hl; clear hl; clear c2 c8 c14; have c2 := (F.row m0).cell? 2; have c8 := (F.row m0).cell? 8; have c14 := (F.row m0).cell? 14)) | (go_at_call 51; ((with_reducible refine (H1.out _).mono ?_); rintro e w1 ⟨rfl, hl⟩; replace F := F.le hl; clear hl; clear c2 c8 c14; have c2 := (F.row m0).cell? 2; have c8 := (F.row m0).cell? 8; have c14 := (F.row m0).cell? 14)) | (go_at_call 51; ((with_reducible refine (H3.out _).mono ?_); rintro e w1 ⟨rfl, hl⟩; replace F := F.le hl; clear hl; clear c2 c8 c14; have c2 := (F.row m0).cell? 2; have c8 := (F.row m0).cell? 8; have c14 := (F.row m0).cell? 14)) | (go_at_call 68; ((with_reducible refine (H5.out _).mono ?_); rintro e w1 ⟨rfl, rfl⟩)))
        go_ret
        exact ⟨ret_b HZ.out.symm, F.below⟩
      · skip
        cases h5 : decide (dk = 2)
        · have HZ : Hid (okStr n k tk ta tb tc tx ty dk da db dc dx dy l = false) := by unfold Hid okStr; simp only [h1, h3, h2, h5, Bool.and_true, Bool.and_false, Bool.true_and, Bool.false_and]
          rw [h1] at G0; have H0 := hid G0; clear G0
          have e3 : (tk == 3) = true := by simpa using h3
          rw [h2] at G1; have H1 := hid G1; clear G1
          have e5 : ¬ dk = 2 := of_decide_eq_false h5
          clear h1 h3 h2 h5
          clear G3
          clear G5
          have c2 := (F.row m0).cell? 2; have c8 := (F.row m0).cell? 8; have c14 := (F.row m0).cell? 14
          go_enter Try.func66, Try.ntmps66
          go_wp2_with (first | ((with_reducible refine at_loadU rfl rfl ?_); first | (with_reducible refine wpList_loadGP F rfl rfl rfl m0 Try.underlying46 rfl [s, .int .i64 k] (strRing s k tk ta tb tc tx ty dk da db dc dx dy l) infoRing rfl ?_) | (with_reducible refine wpList_loadGP F rfl rfl rfl m0 Try.underlying28 rfl [.int .i64 tk, .float .f32 ta, .float .f32 tb, .float .f32 tc, .float .f32 tx, .float .f32 ty] (strTune s k tk ta tb tc tx ty dk da db dc dx dy l) infoFil rfl ?_) | (with_reducible refine wpList_loadGP F rfl rfl rfl m0 Try.underlying28 rfl [.int .i64 dk, .float .f32 da, .float .f32 db, .float .f32 dc, .float .f32 dx, .float .f32 dy] (strDamp s k tk ta tb tc tx ty dk da db dc dx dy l) infoFil rfl ?_)) | ((with_reducible refine at_loadV rfl rfl ?_); first | (with_reducible refine wpList_loadGPG F rfl rfl m0 Try.underlying46 rfl [s, .int .i64 k] (strRing s k tk ta tb tc tx ty dk da db dc dx dy l) infoRing rfl (by kernel_rfl) ?_) | (with_reducible refine wpList_loadGPG F rfl rfl m0 Try.underlying28 rfl [.int .i64 tk, .float .f32 ta, .float .f32 tb, .float .f32 tc, .float .f32 tx, .float .f32 ty] (strTune s k tk ta tb tc tx ty dk da db dc dx dy l) infoFil rfl (by kernel_rfl) ?_) | (with_reducible refine wpList_loadGPG F rfl rfl m0 Try.underlying28 rfl [.int .i64 dk, .float .f32 da, .float .f32 db, .float .f32 dc, .float .f32 dx, .float .f32 dy] (strDamp s k tk ta tb tc tx ty dk da db dc dx dy l) infoFil rfl (by kernel_rfl) ?_)) | (go_at_call 93; ((with_reducible refine (H0.out _ F.below).mono ?_); rintro e w1 ⟨rfl, hl⟩; replace F := F.le hl; clear hl; clear c2 c8 c14; have c2 := (F.row m0).cell? 2; have c8 := (F.row m0).cell? 8; have c14 := (F.row m0).cell? 14)) | (go_at_call 51; ((with_reducible refine (H1.out _).mono ?_); rintro e w1 ⟨rfl, hl⟩; replace F := F.le hl; clear hl; clear c2 c8 c14; have c2 := (F.row m0).cell? 2; have c8 := (F.row m0).cell? 8; have c14 := (F.row m0).cell? 14)) | (go_at_call 51; ((with_reducible refine (H3.out _).mono ?_); rintro e w1 ⟨rfl, hl⟩; replace F := F.le hl; clear hl; clear c2 c8 c14; have c2 := (F.row m0).cell? 2; have c8 := (F.row m0).cell? 8; have c14 := (F.row m0).cell? 14)) | (go_at_call 68; ((with_reducible refine (H5.out _).mono ?_); rintro e w1 ⟨rfl, rfl⟩)))
          go_ret
          exact ⟨ret_b HZ.out.symm, F.below⟩
        · skip
          cases h4 : okF dk da db dc dx dy
          · have HZ : Hid (okStr n k tk ta tb tc tx ty dk da db dc dx dy l = false) := by unfold Hid okStr; simp only [h1, h3, h2, h5, h4, Bool.and_true, Bool.and_false, Bool.true_and, Bool.false_and]
            rw [h1] at G0; have H0 := hid G0; clear G0
            have e3 : (tk == 3) = true := by simpa using h3
            rw [h2] at G1; have H1 := hid G1; clear G1
            have e5 : (dk == 2) = true := by simpa using h5
            rw [h4] at G3; have H3 := hid G3; clear G3
            clear h1 h3 h2 h5 h4
            clear G5
            have c2 := (F.row m0).cell? 2; have c8 := (F.row m0).cell? 8; have c14 := (F.row m0).cell? 14
            go_enter Try.func66, Try.ntmps66
            go_wp2_with (first | ((with_reducible refine at_loadU rfl rfl ?_); first | (with_reducible refine wpList_loadGP F rfl rfl rfl m0 Try.underlying46 rfl [s, .int .i64 k] (strRing s k tk ta tb tc tx ty dk da db dc dx dy l) infoRing rfl ?_) | (with_reducible refine wpList_loadGP F rfl rfl rfl m0 Try.underlying28 rfl [.int .i64 tk, .float .f32 ta, .float .f32 tb, .float .f32 tc, .float .f32 tx, .float .f32 ty] (strTune s k tk ta tb tc tx ty dk da db dc dx dy l) infoFil rfl ?_) | (with_reducible refine wpList_loadGP F rfl rfl rfl m0 Try.underlying28 rfl [.int .i64 dk, .float .f32 da, .float .f32 db, .float .f32 dc, .float .f32 dx, .float .f32 dy] (strDamp s k tk ta tb tc tx ty dk da db dc dx dy l) infoFil rfl ?_)) | ((with_reducible refine at_loadV rfl rfl ?_); first | (with_reducible refine wpList_loadGPG F rfl rfl m0 Try.underlying46 rfl [s, .int .i64 k] (strRing s k tk ta tb tc tx ty dk da db dc dx dy l) infoRing rfl (by kernel_rfl) ?_) | (with_reducible refine wpList_loadGPG F rfl rfl m0 Try.underlying28 rfl [.int .i64 tk, .float .f32 ta, .float .f32 tb, .float .f32 tc, .float .f32 tx, .float .f32 ty] (strTune s k tk ta tb tc tx ty dk da db dc dx dy l) infoFil rfl (by kernel_rfl) ?_) | (with_reducible refine wpList_loadGPG F rfl rfl m0 Try.underlying28 rfl [.int .i64 dk, .float .f32 da, .float .f32 db, .float .f32 dc, .float .f32 dx, .float .f32 dy] (strDamp s k tk ta tb tc tx ty dk da db dc dx dy l) infoFil rfl (by kernel_rfl) ?_)) | (go_at_call 93; ((with_reducible refine (H0.out _ F.below).mono ?_); rintro e w1 ⟨rfl, hl⟩; replace F := F.le hl; clear hl; clear c2 c8 c14; have c2 := (F.row m0).cell? 2; have c8 := (F.row m0).cell? 8; have c14 := (F.row m0).cell? 14)) | (go_at_call 51; ((with_reducible refine (H1.out _).mono ?_); rintro e w1 ⟨rfl, hl⟩; replace F := F.le hl; clear hl; clear c2 c8 c14; have c2 := (F.row m0).cell? 2; have c8 := (F.row m0).cell? 8; have c14 := (F.row m0).cell? 14)) | (go_at_call 51; ((with_reducible refine (H3.out _).mono ?_); rintro e w1 ⟨rfl, hl⟩; replace F := F.le hl; clear hl; clear c2 c8 c14; have c2 := (F.row m0).cell? 2; have c8 := (F.row m0).cell? 8; have c14 := (F.row m0).cell? 14)) | (go_at_call 68; ((with_reducible refine (H5.out _).mono ?_); rintro e w1 ⟨rfl, rfl⟩)))
            go_ret
            exact ⟨ret_b HZ.out.symm, F.below⟩
          · skip
            cases h6 : fin l
            · have HZ : Hid (okStr n k tk ta tb tc tx ty dk da db dc dx dy l = false) := by unfold Hid okStr; simp only [h1, h3, h2, h5, h4, h6, Bool.and_true, Bool.and_false, Bool.true_and, Bool.false_and]
              rw [h1] at G0; have H0 := hid G0; clear G0
              have e3 : (tk == 3) = true := by simpa using h3
              rw [h2] at G1; have H1 := hid G1; clear G1
              have e5 : (dk == 2) = true := by simpa using h5
              rw [h4] at G3; have H3 := hid G3; clear G3
              rw [h6] at G5; have H5 := hid G5; clear G5
              clear h1 h3 h2 h5 h4 h6
              have c2 := (F.row m0).cell? 2; have c8 := (F.row m0).cell? 8; have c14 := (F.row m0).cell? 14
              go_enter Try.func66, Try.ntmps66
              go_wp2_with (first | ((with_reducible refine at_loadU rfl rfl ?_); first | (with_reducible refine wpList_loadGP F rfl rfl rfl m0 Try.underlying46 rfl [s, .int .i64 k] (strRing s k tk ta tb tc tx ty dk da db dc dx dy l) infoRing rfl ?_) | (with_reducible refine wpList_loadGP F rfl rfl rfl m0 Try.underlying28 rfl [.int .i64 tk, .float .f32 ta, .float .f32 tb, .float .f32 tc, .float .f32 tx, .float .f32 ty] (strTune s k tk ta tb tc tx ty dk da db dc dx dy l) infoFil rfl ?_) | (with_reducible refine wpList_loadGP F rfl rfl rfl m0 Try.underlying28 rfl [.int .i64 dk, .float .f32 da, .float .f32 db, .float .f32 dc, .float .f32 dx, .float .f32 dy] (strDamp s k tk ta tb tc tx ty dk da db dc dx dy l) infoFil rfl ?_)) | ((with_reducible refine at_loadV rfl rfl ?_); first | (with_reducible refine wpList_loadGPG F rfl rfl m0 Try.underlying46 rfl [s, .int .i64 k] (strRing s k tk ta tb tc tx ty dk da db dc dx dy l) infoRing rfl (by kernel_rfl) ?_) | (with_reducible refine wpList_loadGPG F rfl rfl m0 Try.underlying28 rfl [.int .i64 tk, .float .f32 ta, .float .f32 tb, .float .f32 tc, .float .f32 tx, .float .f32 ty] (strTune s k tk ta tb tc tx ty dk da db dc dx dy l) infoFil rfl (by kernel_rfl) ?_) | (with_reducible refine wpList_loadGPG F rfl rfl m0 Try.underlying28 rfl [.int .i64 dk, .float .f32 da, .float .f32 db, .float .f32 dc, .float .f32 dx, .float .f32 dy] (strDamp s k tk ta tb tc tx ty dk da db dc dx dy l) infoFil rfl (by kernel_rfl) ?_)) | (go_at_call 93; ((with_reducible refine (H0.out _ F.below).mono ?_); rintro e w1 ⟨rfl, hl⟩; replace F := F.le hl; clear hl; clear c2 c8 c14; have c2 := (F.row m0).cell? 2; have c8 := (F.row m0).cell? 8; have c14 := (F.row m0).cell? 14)) | (go_at_call 51; ((with_reducible refine (H1.out _).mono ?_); rintro e w1 ⟨rfl, hl⟩; replace F := F.le hl; clear hl; clear c2 c8 c14; have c2 := (F.row m0).cell? 2; have c8 := (F.row m0).cell? 8; have c14 := (F.row m0).cell? 14)) | (go_at_call 51; ((with_reducible refine (H3.out _).mono ?_); rintro e w1 ⟨rfl, hl⟩; replace F := F.le hl; clear hl; clear c2 c8 c14; have c2 := (F.row m0).cell? 2; have c8 := (F.row m0).cell? 8; have c14 := (F.row m0).cell? 14)) | (go_at_call 68; ((with_reducible refine (H5.out _).mono ?_); rintro e w1 ⟨rfl, rfl⟩)))
              go_ret
              exact ⟨ret_b HZ.out.symm, F.below⟩
            · skip
              have HZ : Hid (okStr n k tk ta tb tc tx ty dk da db dc dx dy l = true) := by unfold Hid okStr; simp only [h1, h3, h2, h5, h4, h6, Bool.and_true, Bool.and_false, Bool.true_and, Bool.false_and]
              rw [h1] at G0; have H0 := hid G0; clear G0
              have e3 : (tk == 3) = true := by simpa using h3
              rw [h2] at G1; have H1 := hid G1; clear G1
              have e5 : (dk == 2) = true := by simpa using h5
              rw [h4] at G3; have H3 := hid G3; clear G3
              rw [h6] at G5; have H5 := hid G5; clear G5
              clear h1 h3 h2 h5 h4 h6
              have c2 := (F.row m0).cell? 2; have c8 := (F.row m0).cell? 8; have c14 := (F.row m0).cell? 14
              go_enter Try.func66, Try.ntmps66
              go_wp2_with (first | ((with_reducible refine at_loadU rfl rfl ?_); first | (with_reducible refine wpList_loadGP F rfl rfl rfl m0 Try.underlying46 rfl [s, .int .i64 k] (strRing s k tk ta tb tc tx ty dk da db dc dx dy l) infoRing rfl ?_) | (with_reducible refine wpList_loadGP F rfl rfl rfl m0 Try.underlying28 rfl [.int .i64 tk, .float .f32 ta, .float .f32 tb, .float .f32 tc, .float .f32 tx, .float .f32 ty] (strTune s k tk ta tb tc tx ty dk da db dc dx dy l) infoFil rfl ?_) | (with_reducible refine wpList_loadGP F rfl rfl rfl m0 Try.underlying28 rfl [.int .i64 dk, .float .f32 da, .float .f32 db, .float .f32 dc, .float .f32 dx, .float .f32 dy] (strDamp s k tk ta tb tc tx ty dk da db dc dx dy l) infoFil rfl ?_)) | ((with_reducible refine at_loadV rfl rfl ?_); first | (with_reducible refine wpList_loadGPG F rfl rfl m0 Try.underlying46 rfl [s, .int .i64 k] (strRing s k tk ta tb tc tx ty dk da db dc dx dy l) infoRing rfl (by kernel_rfl) ?_) | (with_reducible refine wpList_loadGPG F rfl rfl m0 Try.underlying28 rfl [.int .i64 tk, .float .f32 ta, .float .f32 tb, .float .f32 tc, .float .f32 tx, .float .f32 ty] (strTune s k tk ta tb tc tx ty dk da db dc dx dy l) infoFil rfl (by kernel_rfl) ?_) | (with_reducible refine wpList_loadGPG F rfl rfl m0 Try.underlying28 rfl [.int .i64 dk, .float .f32 da, .float .f32 db, .float .f32 dc, .float .f32 dx, .float .f32 dy] (strDamp s k tk ta tb tc tx ty dk da db dc dx dy l) infoFil rfl (by kernel_rfl) ?_)) | (go_at_call 93; ((with_reducible refine (H0.out _ F.below).mono ?_); rintro e w1 ⟨rfl, hl⟩; replace F := F.le hl; clear hl; clear c2 c8 c14; have c2 := (F.row m0).cell? 2; have c8 := (F.row m0).cell? 8; have c14 := (F.row m0).cell? 14)) | (go_at_call 51; ((with_reducible refine (H1.out _).mono ?_); rintro e w1 ⟨rfl, hl⟩; replace F := F.le hl; clear hl; clear c2 c8 c14; have c2 := (F.row m0).cell? 2; have c8 := (F.row m0).cell? 8; have c14 := (F.row m0).cell? 14)) | (go_at_call 51; ((with_reducible refine (H3.out _).mono ?_); rintro e w1 ⟨rfl, hl⟩; replace F := F.le hl; clear hl; clear c2 c8 c14; have c2 := (F.row m0).cell? 2; have c8 := (F.row m0).cell? 8; have c14 := (F.row m0).cell? 14)) | (go_at_call 68; ((with_reducible refine (H5.out _).mono ?_); rintro e w1 ⟨rfl, rfl⟩)))
              go_ret
              exact ⟨ret_b HZ.out.symm, F.below⟩
end Go.Proofs.Ytmacednkpjfokaa

/- 'StepString' of both, and what such functions share. -/
namespace Go.Fk
open Go Go.RowKit
theorem okStr_q {x : Nat → Nat} {n : Nat} {k tk : Int} {ta tb tc tx ty : Nat} {dk : Int} {da db dc dx dy l : Nat} (h : okStr n k tk ta tb tc tx ty dk da db dc dx dy l = true) (hf : fits .f32 ta ∧ fits .f32 tb ∧ fits .f32 tc ∧ fits .f32 tx ∧ fits .f32 ty) (hg : fits .f32 da ∧ fits .f32 db ∧ fits .f32 dc ∧ fits .f32 dx ∧ fits .f32 dy) (hl : fits .f32 l) :
    ∃ j : Nat, k = j ∧ tk = 3 ∧ dk = 2 ∧ (⟨x, n, j, ta, tb, tc, tx, ty, da, db, dc, dx, dy, l⟩ : StS).Ok := by
  unfold okStr at h
  simp only [Bool.and_eq_true, decide_eq_true_eq] at h
  obtain ⟨h1, h2, rfl, h4, rfl, h6⟩ := h
  obtain ⟨e1, e2, j, rfl, ej⟩ := okRing_j h1
  obtain ⟨f1, f2, f3, f4, f5⟩ := hf
  obtain ⟨g1, g2, g3, g4, g5⟩ := hg
  exact ⟨j, rfl, rfl, rfl, ⟨e1, e2, ej, h2, h4, h6, f1, f2, f3, f4, f5, g1, g2, g3, g4, g5, hl⟩⟩
end Go.Fk
namespace Go.Proofs.Ytmacednkpjfokaa
open Go.RowKit Go.Fk
theorem SpS.ok {w w' : World} {B C g : Nat} {q : StS} (h : SpS w B C g q) (hk : ∀ k, B ≤ k → k < C → w'.heap[k]? = w.heap[k]?) : SpS w' B C g q := by
  obtain ⟨s, lo, hi, R, O, g1, g2, g3, g4, g5⟩ := h
  exact ⟨s, lo, hi, (rowF g _ _).ok w w' R (fun k a b => hk k (Nat.le_trans g1 a) (by have b' : k < g + 1 := b; omega)), (ownF lo hi s q.x q.n).ok w w' O (fun k a b => hk k (Nat.le_trans g3 a) (Nat.lt_of_lt_of_le b g4)), g1, g2, g3, g4, g5⟩
/-- A string of the model in memory. -/
def spF (B C g : Nat) (q : StS) : Fact := ⟨B, C, fun w => SpS w B C g q, fun _ _ h hk => SpS.ok h hk⟩
theorem toSp {w0 w : World} {g lo hi : Nat} {s : Value} {q : StS} {l : List Fact} (h : Frg w0 w (rowF g 48 #[s, .int .i64 (q.j : Nat), .int .i64 3, .float .f32 (q.ta), .float .f32 (q.tb), .float .f32 (q.tc), .float .f32 (q.tx), .float .f32 (q.ty), .int .i64 2, .float .f32 (q.da), .float .f32 (q.db), .float .f32 (q.dc), .float .f32 (q.dx), .float .f32 (q.dy), .float .f32 (q.l)] :: ownF lo hi s q.x q.n :: l)) (hn : 1 ≤ q.n) : Frg w0 w (spF lo (g + 1) g q :: l) := by
  have f1 := h.facts (rowF g 48 #[s, .int .i64 (q.j : Nat), .int .i64 3, .float .f32 (q.ta), .float .f32 (q.tb), .float .f32 (q.tc), .float .f32 (q.tx), .float .f32 (q.ty), .int .i64 2, .float .f32 (q.da), .float .f32 (q.db), .float .f32 (q.dc), .float .f32 (q.dx), .float .f32 (q.dy), .float .f32 (q.l)]) (by simp)
  have f2 := h.facts (ownF lo hi s q.x q.n) (by simp)
  have a1 := List.pairwise_cons.1 h.apart
  have a2 := List.pairwise_cons.1 a1.2
  have b12 : hi ≤ g := a1.1 (ownF lo hi s q.x q.n) (by simp)
  have hlo : lo < hi := by
    rcases f2.2.2 with ⟨_, h0⟩ | ⟨b, o, cap, cs, _, _, _, h4, h5, _⟩
    · omega
    · omega
  refine ⟨h.below, fun e he => ?_, List.pairwise_cons.2 ⟨fun e he => a2.1 e he, a2.2⟩⟩
  rcases List.mem_cons.1 he with rfl | he
  · exact ⟨f2.1, f1.2.1, ⟨s, lo, hi, f1.2.2, f2.2.2, by omega, by omega, Nat.le_refl _, by omega, by omega⟩⟩
  · exact h.facts e (by simp [he])
theorem LpS.ok {w w' : World} {B C g : Nat} {q : StS} (h : LpS w B C g q) (hk : ∀ k, B ≤ k → k < C → w'.heap[k]? = w.heap[k]?) : LpS w' B C g q := by
  obtain ⟨s, lo, hi, rt, rd, R, O, RT, RD, ⟨b1, b2, b3, b4, b5, b6, b7, b8⟩, d⟩ := h
  exact ⟨s, lo, hi, rt, rd, (rowF g _ _).ok w w' R (fun k a b => hk k (Nat.le_trans b1 a) (by have b' : k < g + 1 := b; omega)), (ownF lo hi s q.x q.n).ok w w' O (fun k a b => hk k (Nat.le_trans b7 a) (Nat.lt_of_lt_of_le b b8)), (rowF rt _ _).ok w w' RT (fun k a b => hk k (Nat.le_trans b3 a) (by have b' : k < rt + 1 := b; omega)), (rowF rd _ _).ok w w' RD (fun k a b => hk k (Nat.le_trans b5 a) (by have b' : k < rd + 1 := b; omega)), ⟨b1, b2, b3, b4, b5, b6, b7, b8⟩, d⟩
/-- A loop in memory. -/
def lpF (B C g : Nat) (q : StS) : Fact := ⟨B, C, fun w => LpS w B C g q, fun _ _ h hk => LpS.ok h hk⟩
theorem Frg.sp {w0 w : World} {L : List Fact} {B C g : Nat} {q : StS} (h : Frg w0 w L) (hm : spF B C g q ∈ L) : SpS w B C g q := (h.facts _ hm).2.2
theorem Frg.lp {w0 w : World} {L : List Fact} {B C g : Nat} {q : StS} (h : Frg w0 w L) (hm : lpF B C g q ∈ L) : LpS w B C g q := (h.facts _ hm).2.2
set_option maxRecDepth 100000 in
set_option maxHeartbeats 2000000 in
theorem s_StepString_no (B : Nat) (s : Value) (x : Nat → Nat) (n : Nat) (k tk : Int) (ta tb tc tx ty : Nat) (dk : Int) (da db dc dx dy l : Nat) (a : Nat) (w : World) (hs : RdS w B s x n) (hk : (Lit.int .i64 k).wf = true) (hv : okStr n k tk ta tb tc tx ty dk da db dc dx dy l = false) :
    Calls Try.prog 33 #[.agg #[s, .int .i64 k, .int .i64 tk, .float .f32 ta, .float .f32 tb, .float .f32 tc, .float .f32 tx, .float .f32 ty, .int .i64 dk, .float .f32 da, .float .f32 db, .float .f32 dc, .float .f32 dx, .float .f32 dy, .float .f32 l], .float .f32 a] w (Out_sfi (fun _ => 0) 0 0 0 0 0 0 0 0 0 0 0 0 0 0 0 0 1 w) := by
  have HV := hid (fun (w' : World) (g : Nat) (hl : le w w') (R : Row w' g 48 #[s, .int .i64 k, .int .i64 tk, .float .f32 ta, .float .f32 tb, .float .f32 tc, .float .f32 tx, .float .f32 ty, .int .i64 dk, .float .f32 da, .float .f32 db, .float .f32 dc, .float .f32 dx, .float .f32 dy, .float .f32 l]) => hv ▸ s_l03Ok B s x n k tk ta tb tc tx ty dk da db dc dx dy l g w' (hs.le hl) R hk)
  clear hs hk hv
  have F := ((Frg.nil w).box 48 #[s, .int .i64 k, .int .i64 tk, .float .f32 ta, .float .f32 tb, .float .f32 tc, .float .f32 tx, .float .f32 ty, .int .i64 dk, .float .f32 da, .float .f32 db, .float .f32 dc, .float .f32 dx, .float .f32 dy, .float .f32 l]).box 48 #[.slice none 0 0, .int .i64 0, .int .i64 0, .float .f32 0, .float .f32 0, .float .f32 0, .float .f32 0, .float .f32 0, .int .i64 0, .float .f32 0, .float .f32 0, .float .f32 0, .float .f32 0, .float .f32 0, .float .f32 0]
  simp only [World.size_alloc] at F
  go_enter Try.func33, Try.ntmps33
  go_wp2_with (first | (go_at_call 61; ((with_reducible refine (HV.out _ _ F.below (F.row m1)).mono ?_); rintro e w1 ⟨rfl, m, rfl⟩; replace F := F.drewN m)) | ((with_reducible refine stop_store rfl ?_)))
  show wpList _ _ _ _ _ _
  refine wpList_storeD rfl rfl rfl (cells := #[.slice none 0 0, .int .i64 0, .int .i64 0, .float .f32 0, .float .f32 0, .float .f32 0, .float .f32 0, .float .f32 0, .int .i64 0, .float .f32 0, .float .f32 0, .float .f32 0, .float .f32 0, .float .f32 0, .float .f32 0]) rfl (F.row m0) infoStr rfl (by simp [Value.oneCell']) (fun w4 K => ?_)
  have R := hid K.row
  have L := hid (F.wr0 K).below
  clear K F
  go_wp2
  exact bodyPost_ret (results_row3 rfl _ _ _ _ _ rfl R.out Try.underlying48 rfl infoStr) rfl ⟨_, _, rfl, .inl ⟨rfl, rfl⟩, by decide, L.out⟩
set_option maxRecDepth 100000 in
set_option maxHeartbeats 4000000 in
theorem s_StepString_yes (B : Nat) (s : Value) (q : StS) (a : Nat) (w : World) (hs : RdS w B s q.x q.n) (ok : q.Ok) (hk : (Lit.int .i64 (q.j : Nat)).wf = true) (hv : okStr q.n (q.j : Nat) 3 q.ta q.tb q.tc q.tx q.ty 2 q.da q.db q.dc q.dx q.dy q.l = true) (ha : fits .f32 a) :
    Calls Try.prog 33 #[.agg #[s, .int .i64 (q.j : Nat), .int .i64 3, .float .f32 (q.ta), .float .f32 (q.tb), .float .f32 (q.tc), .float .f32 (q.tx), .float .f32 (q.ty), .int .i64 2, .float .f32 (q.da), .float .f32 (q.db), .float .f32 (q.dc), .float .f32 (q.dx), .float .f32 (q.dy), .float .f32 (q.l)], .float .f32 a] w (Out_sfi (stepS q a).x (stepS q a).n ((stepS q a).j : Nat) 3 ((stepS q a).ta) ((stepS q a).tb) ((stepS q a).tc) ((stepS q a).tx) ((stepS q a).ty) 2 ((stepS q a).da) ((stepS q a).db) ((stepS q a).dc) ((stepS q a).dx) ((stepS q a).dy) (stepS q a).l (q.x q.j) 0 w) := by
  have HV := hid (fun (w' : World) (g : Nat) (hl : le w w') (R : Row w' g 48 #[s, .int .i64 (q.j : Nat), .int .i64 3, .float .f32 (q.ta), .float .f32 (q.tb), .float .f32 (q.tc), .float .f32 (q.tx), .float .f32 (q.ty), .int .i64 2, .float .f32 (q.da), .float .f32 (q.db), .float .f32 (q.dc), .float .f32 (q.dx), .float .f32 (q.dy), .float .f32 (q.l)]) => hv ▸ s_l03Ok B s q.x q.n (q.j : Nat) 3 q.ta q.tb q.tc q.tx q.ty 2 q.da q.db q.dc q.dx q.dy q.l g w' (hs.le hl) R hk)
  have HCP := hid (fun (w' : World) (g : Nat) (hl : le w w') (R : Row w' g 48 #[s, .int .i64 (q.j : Nat), .int .i64 3, .float .f32 (q.ta), .float .f32 (q.tb), .float .f32 (q.tc), .float .f32 (q.tx), .float .f32 (q.ty), .int .i64 2, .float .f32 (q.da), .float .f32 (q.db), .float .f32 (q.dc), .float .f32 (q.dx), .float .f32 (q.dy), .float .f32 (q.l)]) => s_l03Copy B s q.x q.n (q.j : Nat) 3 q.ta q.tb q.tc q.tx q.ty 2 q.da q.db q.dc q.dx q.dy q.l g w' (hs.le hl) R ok.n1 ok.n2)
  have OK := hid ok
  have n1 := ok.n1
  clear hs hk hv ok
  have F := ((Frg.nil w).box 48 #[s, .int .i64 (q.j : Nat), .int .i64 3, .float .f32 (q.ta), .float .f32 (q.tb), .float .f32 (q.tc), .float .f32 (q.tx), .float .f32 (q.ty), .int .i64 2, .float .f32 (q.da), .float .f32 (q.db), .float .f32 (q.dc), .float .f32 (q.dx), .float .f32 (q.dy), .float .f32 (q.l)]).box 48 #[.slice none 0 0, .int .i64 0, .int .i64 0, .float .f32 0, .float .f32 0, .float .f32 0, .float .f32 0, .float .f32 0, .int .i64 0, .float .f32 0, .float .f32 0, .float .f32 0, .float .f32 0, .float .f32 0, .float .f32 0]
  simp only [World.size_alloc] at F
  go_enter Try.func33, Try.ntmps33
  go_wp2_with (first | (go_at_call 61; ((with_reducible refine (HV.out _ _ F.below (F.row m1)).mono ?_); rintro e w1 ⟨rfl, m, rfl⟩; replace F := F.drewN m)) | (go_at_call 63; ((with_reducible refine (HCP.out _ _ F.below (F.row m1)).mono ?_); rintro e w2 ⟨s', rfl, ho, hl⟩; have OC := hid (OwnS.one ho); replace F := F.own1 hl ho; clear ho hl)) | (refine wpList_storeG F rfl rfl rfl rfl rfl infoStr rfl (one_head OC.out rfl) ?_; clear F; intro W3 F zW; clear zW; replace F := toSp F n1) | (go_at_call 76; ((with_reducible refine (s_l03Step _ _ _ q a _ (Frg.sp F m0) OK.out ha).mono ?_); rintro e w4 ⟨o4, rfl, ho4, fo4, hsp, hch⟩; replace F := F.chg [] (e' := spF _ _ _ (stepS q a)) hch hsp rfl rfl; have HO4 := hid ho4; obtain ⟨s5, lo5, hi5, R5, O5, b1, b2, b3, b4, b5⟩ := hsp; have R5 := hid R5; have O5 := hid O5; have OC5 := hid (OwnS.one O5.out); clear hch ho4)) | ((with_reducible refine at_loadU rfl rfl ?_); (with_reducible refine wpList_loadDR R5.out rfl rfl rfl Try.underlying48 rfl infoStr rfl ?_)) | ((with_reducible refine stop_store (ty := 48) rfl ?_)))
  show wpList _ _ _ _ _ _
  refine wpList_storeD rfl rfl rfl (cells := #[s5, .int .i64 ((stepS q a).j : Nat), .int .i64 3, .float .f32 ((stepS q a).ta), .float .f32 ((stepS q a).tb), .float .f32 ((stepS q a).tc), .float .f32 ((stepS q a).tx), .float .f32 ((stepS q a).ty), .int .i64 2, .float .f32 ((stepS q a).da), .float .f32 ((stepS q a).db), .float .f32 ((stepS q a).dc), .float .f32 ((stepS q a).dx), .float .f32 ((stepS q a).dy), .float .f32 ((stepS q a).l)]) rfl (F.row m1) infoStr rfl (one_head OC5.out rfl) (fun w6 K => ?_)
  have RW := hid K.row
  have f1 := F.facts (spF _ _ _ (stepS q a)) m0
  have f2 := F.facts (rowF (w.heap.size + 1) 48 #[.slice none 0 0, .int .i64 0, .int .i64 0, .float .f32 0, .float .f32 0, .float .f32 0, .float .f32 0, .float .f32 0, .int .i64 0, .float .f32 0, .float .f32 0, .float .f32 0, .float .f32 0, .float .f32 0, .float .f32 0]) m1
  have a1 := (List.pairwise_cons.1 F.apart).1 _ m0
  simp only [rowF, spF] at a1
  have hc : Chg (· = w.heap.size + 1) _ w6 := (Chg.refl _ _).wrote K rfl
  have L := hid (F.wr1 K).below
  have f1' := hid f1.2.1
  have O6 := hid ((OwnS.chgS O5.out hc (fun i h1 h2 h3 => by have h3' : i = w.heap.size + 1 := h3; omega)).mono (lo' := w.heap.size) (hi' := w6.heap.size) (by omega) (Nat.le_trans b4 (Nat.le_trans f1'.out hc.size)))
  clear f1 f2 hc K F
  go_wp2
  exact bodyPost_ret (results_row3 rfl _ _ _ _ _ rfl RW.out Try.underlying48 rfl infoStr) rfl ⟨_, _, rfl, O6.out, HO4.out, L.out⟩
end Go.Proofs.Ytmacednkpjfokaa

/- How an argument that is a struct of a ring, two filters and a float is opened. Nothing here names a program. -/
namespace Go.Fk
open Go Go.RowKit Go.ChangeShapes
section
variable {H : Type} {enc : TypeId × Value → H} {P : Program} {w : World} {base : Nat} {spare : Nat → Bool} {held : Bool}
theorem trod_ring {t t0 t1 e : TypeId} {f0 f1 : Field} {fuel : Nat} {cs : List Value} {x : DataW H × List MemPlace} (ht : P.underlying t = some (.struct #[f0, f1]))
    (e0 : (f0.type, f0.offset) = (t0, 0)) (e1 : (f1.type, f1.offset) = (t1, 1))
    (h0 : P.underlying t0 = some (.slice e)) (h1 : P.underlying t1 = some (.int .i64)) (he : P.underlying e = some (.float .f32))
    (c0 : P.cellsOf t0 = 1) (c1 : P.cellsOf t1 = 1) (ce : P.cellsOf e = 1) (ct : P.cellsOf t = 2) (hf : DataW.trod enc P w base spare held fuel t cs = some x) :
    ∃ (s : Value) (f : Nat → Nat) (n : Nat) (k : Int), cs = [s, .int .i64 k] ∧ (Lit.int .i64 k).wf = true ∧ SlIn w s f n := by
  obtain ⟨xs, m, _, _, hlen, hl, hi⟩ := DataW.trod_struct ht hf
  simp only [Prod.mk.injEq] at e0 e1
  have g0 := hi 0 f0 rfl
  have g1 := hi 1 f1 rfl
  rw [e0.1, e0.2, c0] at g0
  rw [e1.1, e1.2, c1] at g1
  rw [List.getElem?_eq_getElem (by simp_all)] at g0 g1
  have hlen : cs.length = 2 := hlen.trans ct
  match cs, hlen with
  | [v0, v1], _ =>
    simp only [List.drop_zero, List.drop_succ_cons, List.take_succ_cons, List.take_zero] at g0 g1
    obtain ⟨s, f, n, hs, hsl⟩ := trod_fslice h0 he ce g0
    obtain ⟨k, rfl, hk⟩ := trod_int_cell h1 g1
    simp only [List.cons.injEq, and_true] at hs
    subst hs
    exact ⟨_, f, n, k, rfl, hk, hsl⟩
theorem trod_filter {t t0 t1 t2 e : TypeId} {f0 f1 f2 : Field} {fuel : Nat} {cs : List Value} {x : DataW H × List MemPlace} (ht : P.underlying t = some (.struct #[f0, f1, f2]))
    (e0 : (f0.type, f0.offset) = (t0, 0)) (e1 : (f1.type, f1.offset) = (t1, 1)) (e2 : (f2.type, f2.offset) = (t2, 4))
    (h0 : P.underlying t0 = some (.int .i64)) (h1 : P.underlying t1 = some (.array 3 e)) (h2 : P.underlying t2 = some (.array 2 e)) (he : P.underlying e = some (.float .f32))
    (c0 : P.cellsOf t0 = 1) (c1 : P.cellsOf t1 = 3) (c2 : P.cellsOf t2 = 2) (ce : P.cellsOf e = 1) (ct : P.cellsOf t = 6) (hf : DataW.trod enc P w base spare held fuel t cs = some x) :
    ∃ (k : Int) (a b c x y : Nat), cs = [.int .i64 k, .float .f32 a, .float .f32 b, .float .f32 c, .float .f32 x, .float .f32 y] ∧ (Lit.int .i64 k).wf = true ∧ fits .f32 a ∧ fits .f32 b ∧ fits .f32 c ∧ fits .f32 x ∧ fits .f32 y := by
  obtain ⟨xs, m, _, _, hlen, hl, hi⟩ := DataW.trod_struct ht hf
  simp only [Prod.mk.injEq] at e0 e1 e2
  have g0 := hi 0 f0 rfl
  have g1 := hi 1 f1 rfl
  have g2 := hi 2 f2 rfl
  rw [e0.1, e0.2, c0] at g0
  rw [e1.1, e1.2, c1] at g1
  rw [e2.1, e2.2, c2] at g2
  rw [List.getElem?_eq_getElem (by simp_all)] at g0 g1 g2
  have hlen : cs.length = 6 := hlen.trans ct
  obtain ⟨l1, q1, n1, p1⟩ := trod_farr h1 he ce c1 g1
  obtain ⟨l2, q2, n2, p2⟩ := trod_farr h2 he ce c2 g2
  match cs, hlen, l1, n1, l2, n2 with
  | [v0, v1, v2, v3, v4, v5], _, [a, b, c], _, [x, y], _ =>
    simp only [List.drop_zero, List.drop_succ_cons, List.take_succ_cons, List.take_zero, List.map_cons, List.map_nil, List.cons.injEq, and_true] at q1 q2 g0
    obtain ⟨rfl, rfl, rfl⟩ := q1
    obtain ⟨rfl, rfl⟩ := q2
    obtain ⟨k, rfl, hk⟩ := trod_int_cell h0 g0
    exact ⟨k, a, b, c, x, y, rfl, hk, p1 _ (by simp), p1 _ (by simp), p1 _ (by simp), p2 _ (by simp), p2 _ (by simp)⟩
theorem open_str {r : Reach} {b0 : Nat} {t tr tf te : TypeId} {f0 f1 f2 f3 : Field} {v : Value} {d : DataW H} {ps : List MemPlace} (ht : P.underlying t = some (.struct #[f0, f1, f2, f3]))
    (e0 : (f0.type, f0.offset) = (tr, 0)) (e1 : (f1.type, f1.offset) = (tf, 2)) (e2 : (f2.type, f2.offset) = (tf, 8)) (e3 : (f3.type, f3.offset) = (te, 14))
    (hr : ∀ fuel cs (x : DataW H × List MemPlace), DataW.trod enc P w base spare held fuel tr cs = some x → ∃ (s : Value) (f : Nat → Nat) (n : Nat) (k : Int), cs = [s, .int .i64 k] ∧ (Lit.int .i64 k).wf = true ∧ SlIn w s f n)
    (hfil : ∀ fuel cs (x : DataW H × List MemPlace), DataW.trod enc P w base spare held fuel tf cs = some x → ∃ (k : Int) (a b c x y : Nat), cs = [.int .i64 k, .float .f32 a, .float .f32 b, .float .f32 c, .float .f32 x, .float .f32 y] ∧ (Lit.int .i64 k).wf = true ∧ fits .f32 a ∧ fits .f32 b ∧ fits .f32 c ∧ fits .f32 x ∧ fits .f32 y)
    (he : P.underlying te = some (.float .f32)) (cr : P.cellsOf tr = 2) (cf : P.cellsOf tf = 6) (ce : P.cellsOf te = 1) (ct : P.cellsOf t = 15)
    (hval : Value.okWide P w r b0 t v) (hd : DataW.Trod enc P w base spare held t v d ps) :
    ∃ (s : Value) (f : Nat → Nat) (n : Nat) (k tk : Int) (ta tb tc tx ty : Nat) (dk : Int) (da db dc dx dy l : Nat), v = .agg #[s, .int .i64 k, .int .i64 tk, .float .f32 ta, .float .f32 tb, .float .f32 tc, .float .f32 tx, .float .f32 ty, .int .i64 dk, .float .f32 da, .float .f32 db, .float .f32 dc, .float .f32 dx, .float .f32 dy, .float .f32 l] ∧
      ((Lit.int .i64 k).wf = true ∧ (Lit.int .i64 tk).wf = true ∧ fits .f32 ta ∧ fits .f32 tb ∧ fits .f32 tc ∧ fits .f32 tx ∧ fits .f32 ty ∧ (Lit.int .i64 dk).wf = true ∧ fits .f32 da ∧ fits .f32 db ∧ fits .f32 dc ∧ fits .f32 dx ∧ fits .f32 dy ∧ fits .f32 l) ∧ SlIn w s f n := by
  simp only [Value.okWide, ht] at hval
  obtain ⟨cs, rfl, hsz, _⟩ := hval
  obtain ⟨fuel, hf⟩ := hd
  simp only [Value.cells] at hf
  obtain ⟨xs, m, _, _, hlen, hl, hi⟩ := DataW.trod_struct ht hf
  simp only [Prod.mk.injEq] at e0 e1 e2 e3
  have g0 := hi 0 f0 rfl
  have g1 := hi 1 f1 rfl
  have g2 := hi 2 f2 rfl
  have g3 := hi 3 f3 rfl
  rw [e0.1, e0.2, cr] at g0
  rw [e1.1, e1.2, cf] at g1
  rw [e2.1, e2.2, cf] at g2
  rw [e3.1, e3.2, ce] at g3
  rw [List.getElem?_eq_getElem (by simp_all)] at g0 g1 g2 g3
  have hlen : cs.toList.length = 15 := hlen.trans ct
  obtain ⟨s, f, n, k, q0, w0, z0⟩ := hr _ _ _ g0
  obtain ⟨tk, ta, tb, tc, tx, ty, q1, w1⟩ := hfil _ _ _ g1
  obtain ⟨dk, da, db, dc, dx, dy, q2, w2⟩ := hfil _ _ _ g2
  obtain ⟨l⟩ := cs
  simp only at *
  match l, hlen with
  | [v0, v1, v2, v3, v4, v5, v6, v7, v8, v9, v10, v11, v12, v13, v14], _ =>
    simp only [List.drop_zero, List.drop_succ_cons, List.take_succ_cons, List.take_zero, List.cons.injEq, and_true] at q0 q1 q2 g3
    obtain ⟨rfl, rfl⟩ := q0
    obtain ⟨rfl, rfl, rfl, rfl, rfl, rfl⟩ := q1
    obtain ⟨rfl, rfl, rfl, rfl, rfl, rfl⟩ := q2
    obtain ⟨lo, rfl, hlo⟩ := trod_float_cell he g3
    exact ⟨_, f, n, k, tk, ta, tb, tc, tx, ty, dk, da, db, dc, dx, dy, lo, rfl, ⟨w0, w1.1, w1.2.1, w1.2.2.1, w1.2.2.2.1, w1.2.2.2.2.1, w1.2.2.2.2.2, w2.1, w2.2.1, w2.2.2.1, w2.2.2.2.1, w2.2.2.2.2.1, w2.2.2.2.2.2, hlo⟩, z0⟩
end
end Go.Fk

/- Laws for operations that are guarded and wanted. Nothing here names a program. -/
namespace Go.Fk
open Go Go.RowKit
section
variable {P : Program} {w : World} {ops : Array Oper} {rest : List Oper} {o : Oper} {a : Act} {Q : Exit → Act → World → Prop}
theorem wpList_wanted (hw : Region.wanted o (yielded ops a.tmps) = true) (h : ∀ K : Act → World → Prop, (∀ a w, wpList P ops Q rest a w → K a w) → o.wp P a w K Q) : wpList P ops Q (o :: rest) a w :=
  wpList_step fun K hK => by simp only [hw, if_true]; exact h K hK
theorem wpList_widenG {src dst : TypeId} {x : Operand} (hop : o.op = Op.convert src dst x) {b : Nat} (hx : a.eval x = .float .f32 b)
    (hs : P.underlying src = some (.float .f32)) (hd : P.underlying dst = some (.float .f64)) (hw : Region.wanted o (yielded ops a.tmps) = true)
    (hK : ∀ r n, Hid (can .f64 r = can .f64 (widen b)) → Hid (fits .f64 r) → wpList P ops Q rest (a.put o.dst (.float .f64 r)) (w.drewN n)) : wpList P ops Q (o :: rest) a w := by
  refine wpList_wanted hw fun K hK' => ?_
  obtain ⟨r, n, hrun, hr, hf⟩ := run_widen (P := P) w src dst b hs hd
  unfold Oper.wp
  simp [execOp, hop, hx, hrun, Result.andThen]
  exact hK' _ _ (hK r n hr hf)
end
end Go.Fk

/- Strings that go on, plainly. Nothing here names a program. -/
namespace Go.Fk
open Go Go.RowKit
/-- The string behind some steps, in which these samples come. -/
def goS (q : StS) (f : Nat → Nat) : Nat → StS
  | 0 => q
  | k + 1 => stepS (goS q f k) (f k)
/-- What the step with an index makes. -/
def outS (q : StS) (f : Nat → Nat) (k : Nat) : Nat := (goS q f k).x (goS q f k).j
/-- It is valid, and its samples fit. -/
structure StS.Fit (q : StS) : Prop where
  ok : q.Ok
  x : ∀ i, i < q.n → fits .f32 (q.x i)
theorem StS.Fit.j {q : StS} (h : q.Fit) : fits .f32 (q.x q.j) := h.x _ h.ok.j1
theorem StS.Fit.step {q : StS} (h : q.Fit) {a : Nat} : (stepS q a).Fit where
  ok := h.ok.step a h.j
  x := fun i hi => by
    show fits .f32 (pushX q.x q.j (nextS q a) i)
    unfold pushX
    split
    · exact fits_can (fits_nextS q a)
    · exact h.x i hi
theorem StS.Fit.run {q : StS} (h : q.Fit) (f : Nat → Nat) (k : Nat) : (goS q f k).Fit := by
  induction k with
  | zero => exact h
  | succ k ih => exact ih.step
section
variable (q : StS) (f : Nat → Nat) (k : Nat)
theorem goS_n : (goS q f k).n = q.n := by induction k with | zero => rfl | succ k ih => exact ih
theorem goS_ta : (goS q f k).ta = q.ta := by induction k with | zero => rfl | succ k ih => exact ih
theorem goS_tb : (goS q f k).tb = q.tb := by induction k with | zero => rfl | succ k ih => exact ih
theorem goS_tc : (goS q f k).tc = q.tc := by induction k with | zero => rfl | succ k ih => exact ih
theorem goS_da : (goS q f k).da = q.da := by induction k with | zero => rfl | succ k ih => exact ih
theorem goS_db : (goS q f k).db = q.db := by induction k with | zero => rfl | succ k ih => exact ih
theorem goS_dc : (goS q f k).dc = q.dc := by induction k with | zero => rfl | succ k ih => exact ih
theorem goS_l : (goS q f k).l = q.l := by induction k with | zero => rfl | succ k ih => exact ih
end
theorem RdS.fit {w : World} {B : Nat} {s : Value} {x : Nat → Nat} {n : Nat} (h : RdS w B s x n) : ∀ i, i < n → fits .f32 (x i) := by
  rcases h with ⟨_, rfl⟩ | ⟨a, cap, _, _, _, h5⟩
  · intro i hi; omega
  · intro i hi
    obtain ⟨_, y, _, h2, h3⟩ := h5 i hi
    rw [← h3]; exact fits_can h2
/-- The string with all samples and states 0. -/
def muteS (q : StS) : StS := { q with x := fun _ => 0, tx := 0, ty := 0, dx := 0, dy := 0 }
/-- Behind so many steps with 0 it is silent, and not before; or it is not behind K of them. -/
def ResSS (q : StS) (K : Nat) (n code : Int) : Prop :=
  (∃ m : Nat, n = m ∧ code = 0 ∧ m ≤ K ∧ silS (goS q (fun _ => 0) m) = true ∧ ∀ i, i < m → silS (goS q (fun _ => 0) i) = false) ∨ (n = 0 ∧ code = 7 ∧ ∀ i, i ≤ K → silS (goS q (fun _ => 0) i) = false)
theorem ResSS.one {q : StS} {K : Nat} {n d n' d' : Int} (h : ResSS q K n d) (h' : ResSS q K n' d') : n = n' ∧ d = d' := by
  rcases h with ⟨m, rfl, rfl, h1, h2, h3⟩ | ⟨rfl, rfl, h3⟩ <;> rcases h' with ⟨m', rfl, rfl, h1', h2', h3'⟩ | ⟨rfl, rfl, h3'⟩
  · rcases Nat.lt_trichotomy m m' with h | h | h
    · have := h3' m h; rw [h2] at this; cases this
    · subst h; exact ⟨rfl, rfl⟩
    · have := h3 m' h; rw [h2'] at this; cases this
  · have := h3' m h1; rw [h2] at this; cases this
  · have := h3 m' h1'; rw [h2'] at this; cases this
  · exact ⟨rfl, rfl⟩
theorem ResSS.ex (q : StS) (K : Nat) : ∃ n d, ResSS q K n d := by
  have key : (∃ m, m ≤ K ∧ silS (goS q (fun _ => 0) m) = true ∧ ∀ i, i < m → silS (goS q (fun _ => 0) i) = false) ∨ ∀ i, i ≤ K → silS (goS q (fun _ => 0) i) = false := by
    induction K with
    | zero =>
      cases h : silS (goS q (fun _ => 0) 0)
      · exact .inr (fun i hi => by obtain rfl : i = 0 := by omega
                                   exact h)
      · exact .inl ⟨0, Nat.le_refl _, h, fun i hi => absurd hi (by omega)⟩
    | succ K ih =>
      rcases ih with ⟨m, h1, h2, h3⟩ | h1
      · exact .inl ⟨m, by omega, h2, h3⟩
      · cases h : silS (goS q (fun _ => 0) (K + 1))
        · exact .inr (fun i hi => by
            rcases Nat.lt_or_ge i (K + 1) with h2 | h2
            · exact h1 i (by omega)
            · obtain rfl : i = K + 1 := by omega
              exact h)
        · exact .inl ⟨K + 1, Nat.le_refl _, h, fun i hi => h1 i (by omega)⟩
  rcases key with ⟨m, h1, h2, h3⟩ | h1
  · exact ⟨m, 0, .inl ⟨m, rfl, rfl, h1, h2, h3⟩⟩
  · exact ⟨0, 7, .inr ⟨rfl, rfl, h1⟩⟩
end Go.Fk

/- Cells of slices that one may write. Nothing here names a program. -/
namespace Go.Fk
open Go Go.RowKit
theorem OwnS.form {w : World} {lo hi n : Nat} {s : Value} {x : Nat → Nat} (h : OwnS w lo hi s x n) (hn : 1 ≤ n) : ∃ b o cap, s = .slice (some ⟨b, o, none⟩) n cap ∧ n ≤ cap ∧ cap ≤ maxLen ∧ lo ≤ b ∧ b < hi := by
  rcases h with ⟨_, rfl⟩ | ⟨b, o, cap, cs, h1, h2, h3, h4, h5, _⟩
  · omega
  · exact ⟨b, o, cap, h1, h2, h3, h4, h5⟩
theorem OwnS.at {w : World} {lo hi b o n cap : Nat} {x : Nat → Nat} (h : OwnS w lo hi (.slice (some ⟨b, o, none⟩) n cap) x n) {i : Nat} (hi' : i < n) : ∃ y, w.cell? ⟨b, o + i, none⟩ = some (.float .f32 y) ∧ w.frozen? ⟨b, o + i, none⟩ = false ∧ fits .f32 y ∧ can .f32 y = x i := by
  rcases h with ⟨h0, _⟩ | ⟨b', o', cap', cs, h1, h2, h3, h4, h5, h6, h7⟩
  · cases h0
  · simp only [Value.slice.injEq, Option.some.injEq, Addr.mk.injEq, and_true, true_and] at h1
    obtain ⟨⟨rfl, rfl⟩, rfl⟩ := h1
    obtain ⟨y, e1, e2, e3⟩ := h7 i hi'
    exact ⟨y, (h6.cell? (o + i)).trans e1, h6.frozen (o + i), e2, e3⟩
theorem OwnS.set {w : World} {lo hi b o n cap : Nat} {x : Nat → Nat} (h : OwnS w lo hi (.slice (some ⟨b, o, none⟩) n cap) x n) {i a : Nat} (hi' : i < n) (ha : fits .f32 a) :
    OwnS (w.setCell ⟨b, o + i, none⟩ (.float .f32 a)) lo hi (.slice (some ⟨b, o, none⟩) n cap) (pushX x i a) n ∧ Chg (rng lo hi) w (w.setCell ⟨b, o + i, none⟩ (.float .f32 a)) := by
  rcases h with ⟨h0, _⟩ | ⟨b', o', cap', cs, h1, h2, h3, h4, h5, h6, h7⟩
  · cases h0
  · simp only [Value.slice.injEq, Option.some.injEq, Addr.mk.injEq, and_true, true_and] at h1
    obtain ⟨⟨rfl, rfl⟩, rfl⟩ := h1
    refine ⟨.inr ⟨b, o, cap, cs.setIfInBounds (o + i) (.float .f32 a), rfl, h2, h3, h4, h5, h6.set _ _, fun j hj => ?_⟩, (Chg.refl _ _).setCell (a := ⟨b, o + i, none⟩) ⟨h4, h5⟩ _⟩
    obtain ⟨y0, e0, _⟩ := h7 i hi'
    have hlt : o + i < cs.size := (Array.getElem?_eq_some_iff.1 e0).1
    by_cases e : j = i
    · subst e
      exact ⟨a, by simp [hlt], ha, by simp [pushX]⟩
    · obtain ⟨y, e1, e2, e3⟩ := h7 j hj
      exact ⟨y, by rw [Array.getElem?_setIfInBounds_ne (by omega)]; exact e1, e2, by simp [pushX, e, e3]⟩
namespace Frg
variable {w0 w w' : World}
theorem chg0 {e e' : Fact} {post : List Fact} (h : Frg w0 w (e :: post)) (k : Chg (rng e.lo e.hi) w w') (hp : e'.p w') (h1 : e'.lo = e.lo) (h2 : e'.hi = e.hi) : Frg w0 w' (e' :: post) := chg [] h k hp h1 h2
theorem chg1 {b0 e e' : Fact} {post : List Fact} (h : Frg w0 w (b0 :: e :: post)) (k : Chg (rng e.lo e.hi) w w') (hp : e'.p w') (h1 : e'.lo = e.lo) (h2 : e'.hi = e.hi) : Frg w0 w' (b0 :: e' :: post) := chg [b0] h k hp h1 h2
end Frg
/-- The first k samples are 0. -/
def zeroTo (k : Nat) (x : Nat → Nat) : Nat → Nat := fun i => if i < k then 0 else x i
theorem zeroTo_0 (x : Nat → Nat) : zeroTo 0 x = x := by funext i; simp [zeroTo]
theorem zeroTo_s (k : Nat) (x : Nat → Nat) : pushX (zeroTo k x) k 0 = zeroTo (k + 1) x := by
  funext i
  unfold pushX zeroTo
  by_cases e : i = k
  · subst e; simp; decide
  · by_cases l : i < k
    · simp [e, l, show i < k + 1 by omega]
    · simp [e, l, show ¬ i < k + 1 by omega]
end Go.Fk

/- 'StepString' of the program, and of both. -/
namespace Go.Proofs.Ytmacednkpjfokaa
open Go.RowKit Go.Fk
set_option maxRecDepth 100000 in
set_option maxHeartbeats 4000000 in
theorem i_StepString_no (B : Nat) (s : Value) (x : Nat → Nat) (n : Nat) (k tk : Int) (ta tb tc tx ty : Nat) (dk : Int) (da db dc dx dy l : Nat) (a : Nat) (w : World) (hs : RdS w B s x n) (hf : fits .f32 ta ∧ fits .f32 tb ∧ fits .f32 tc ∧ fits .f32 tx ∧ fits .f32 ty) (hg : fits .f32 da ∧ fits .f32 db ∧ fits .f32 dc ∧ fits .f32 dx ∧ fits .f32 dy) (hl2 : fits .f32 l) (hv : okStr n k tk ta tb tc tx ty dk da db dc dx dy l = false) :
    Calls Try.prog 34 #[.agg #[s, .int .i64 k, .int .i64 tk, .float .f32 ta, .float .f32 tb, .float .f32 tc, .float .f32 tx, .float .f32 ty, .int .i64 dk, .float .f32 da, .float .f32 db, .float .f32 dc, .float .f32 dx, .float .f32 dy, .float .f32 l], .float .f32 a] w (Out_sfi (fun _ => 0) 0 0 0 0 0 0 0 0 0 0 0 0 0 0 0 0 1 w) := by
  have HV := hid (fun (w' : World) (hl : le w w') => hv ▸ i_ValidStringR B s x n k tk ta tb tc tx ty dk da db dc dx dy l w' (hs.le hl) hf hg hl2)
  clear hs hv hf hg hl2
  have F := (((Frg.nil w).box 48 #[s, .int .i64 k, .int .i64 tk, .float .f32 ta, .float .f32 tb, .float .f32 tc, .float .f32 tx, .float .f32 ty, .int .i64 dk, .float .f32 da, .float .f32 db, .float .f32 dc, .float .f32 dx, .float .f32 dy, .float .f32 l]).box 48 #[.slice none 0 0, .int .i64 0, .int .i64 0, .float .f32 0, .float .f32 0, .float .f32 0, .float .f32 0, .float .f32 0, .int .i64 0, .float .f32 0, .float .f32 0, .float .f32 0, .float .f32 0, .float .f32 0, .float .f32 0])
  simp only [World.size_alloc] at F
  go_enter Try.func34, Try.ntmps34
  go_wp2_with (first | ((with_reducible refine at_loadU rfl rfl ?_); (with_reducible refine wpList_loadG F rfl rfl rfl (by first | exact m0 | exact m1 | exact m2 | exact m3 | exact m4 | exact m5) Try.underlying48 rfl infoStr rfl ?_)) | (go_at_call 66; ((with_reducible refine (HV.out _ F.below).mono ?_); rintro e w1 ⟨rfl, hl⟩; replace F := F.le hl; clear hl)) | ((with_reducible refine stop_store rfl ?_)))
  show wpList _ _ _ _ _ _
  refine wpList_storeD rfl rfl rfl (cells := #[.slice none 0 0, .int .i64 0, .int .i64 0, .float .f32 0, .float .f32 0, .float .f32 0, .float .f32 0, .float .f32 0, .int .i64 0, .float .f32 0, .float .f32 0, .float .f32 0, .float .f32 0, .float .f32 0, .float .f32 0]) rfl (F.row m0) infoStr rfl (by simp [Value.oneCell']) (fun w4 K => ?_)
  have R := hid K.row
  have L := hid (F.wr0 K).below
  clear K F
  go_wp2
  exact bodyPost_ret (results_row3 rfl _ _ _ _ _ rfl R.out Try.underlying48 rfl infoStr) rfl ⟨_, _, rfl, .inl ⟨rfl, rfl⟩, by decide, L.out⟩
set_option maxRecDepth 100000 in
set_option maxHeartbeats 4000000 in
theorem i_StepString_yes (B : Nat) (s : Value) (q : StS) (a : Nat) (w : World) (hs : RdS w B s q.x q.n) (ok : q.Ok) (hv : okStr q.n (q.j : Nat) 3 q.ta q.tb q.tc q.tx q.ty 2 q.da q.db q.dc q.dx q.dy q.l = true) (ha : fits .f32 a) :
    Calls Try.prog 34 #[.agg #[s, .int .i64 (q.j : Nat), .int .i64 3, .float .f32 (q.ta), .float .f32 (q.tb), .float .f32 (q.tc), .float .f32 (q.tx), .float .f32 (q.ty), .int .i64 2, .float .f32 (q.da), .float .f32 (q.db), .float .f32 (q.dc), .float .f32 (q.dx), .float .f32 (q.dy), .float .f32 (q.l)], .float .f32 a] w (Out_sfi (stepS q a).x (stepS q a).n ((stepS q a).j : Nat) 3 ((stepS q a).ta) ((stepS q a).tb) ((stepS q a).tc) ((stepS q a).tx) ((stepS q a).ty) 2 ((stepS q a).da) ((stepS q a).db) ((stepS q a).dc) ((stepS q a).dx) ((stepS q a).dy) (stepS q a).l (q.x q.j) 0 w) := by
  have HV := hid (fun (w' : World) (hl : le w w') => hv ▸ i_ValidStringR B s q.x q.n (q.j : Nat) 3 q.ta q.tb q.tc q.tx q.ty 2 q.da q.db q.dc q.dx q.dy q.l w' (hs.le hl) ⟨ok.fta, ok.ftb, ok.ftc, ok.ftx, ok.fty⟩ ⟨ok.fda, ok.fdb, ok.fdc, ok.fdx, ok.fdy⟩ ok.fl)
  have HN := hid (fun (w' : World) (hl : le w w') => i_newLoop B s q w' (hs.le hl) ok)
  have HB := hid (fun (w' : World) (B' C' g : Nat) (h : LpS w' B' C' g (stepS q a)) => show Calls Try.prog 79 #[.pointer (some ⟨g, 0, none⟩), .agg #[s, .int .i64 (q.j : Nat), .int .i64 3, .float .f32 (q.ta), .float .f32 (q.tb), .float .f32 (q.tc), .float .f32 (q.tx), .float .f32 (q.ty), .int .i64 2, .float .f32 (q.da), .float .f32 (q.db), .float .f32 (q.dc), .float .f32 (q.dx), .float .f32 (q.dy), .float .f32 (q.l)]] w' fun e w'' => ∃ s' lo hi, e = .returned (.agg #[s', .int .i64 ((stepS q a).j : Nat), .int .i64 3, .float .f32 ((stepS q a).ta), .float .f32 ((stepS q a).tb), .float .f32 ((stepS q a).tc), .float .f32 ((stepS q a).tx), .float .f32 ((stepS q a).ty), .int .i64 2, .float .f32 ((stepS q a).da), .float .f32 ((stepS q a).db), .float .f32 ((stepS q a).dc), .float .f32 ((stepS q a).dx), .float .f32 ((stepS q a).dy), .float .f32 ((stepS q a).l)]) ∧ OwnS w'' lo hi s' (stepS q a).x (stepS q a).n ∧ B' ≤ lo ∧ hi ≤ C' ∧ le w' w'' from i_behind B' C' g (stepS q a) s (q.j : Nat) q.tx q.ty q.dx q.dy w' h)
  have OK := hid ok
  clear hs hv ok
  have F := (((Frg.nil w).box 48 #[s, .int .i64 (q.j : Nat), .int .i64 3, .float .f32 (q.ta), .float .f32 (q.tb), .float .f32 (q.tc), .float .f32 (q.tx), .float .f32 (q.ty), .int .i64 2, .float .f32 (q.da), .float .f32 (q.db), .float .f32 (q.dc), .float .f32 (q.dx), .float .f32 (q.dy), .float .f32 (q.l)]).box 48 #[.slice none 0 0, .int .i64 0, .int .i64 0, .float .f32 0, .float .f32 0, .float .f32 0, .float .f32 0, .float .f32 0, .int .i64 0, .float .f32 0, .float .f32 0, .float .f32 0, .float .f32 0, .float .f32 0, .float .f32 0])
  simp only [World.size_alloc] at F
  go_enter Try.func34, Try.ntmps34
  go_wp2_with (first | ((with_reducible refine at_loadU rfl rfl ?_); (with_reducible refine wpList_loadG F rfl rfl rfl (by first | exact m0 | exact m1 | exact m2 | exact m3 | exact m4 | exact m5) Try.underlying48 rfl infoStr rfl ?_)) | (go_at_call 66; ((with_reducible refine (HV.out _ F.below).mono ?_); rintro e w1 ⟨rfl, hl⟩; replace F := F.le hl; clear hl)) | (go_at_call 77; ((with_reducible refine (HN.out _ F.below).mono ?_); rintro e w2 ⟨g, rfl, hlp, hl⟩; replace F := F.push (e := lpF _ _ g q) hl hlp (Nat.le_refl _) (Nat.le_refl _); clear hlp hl)) | (go_at_call 78; ((with_reducible refine (i_loopStep _ _ _ (q) a _ (Frg.lp F m0) OK.out ha).mono ?_); rintro e w4 ⟨o4, rfl, ho4, fo4, hlp, hch⟩; replace F := F.chg0 (e' := lpF _ _ _ (stepS (q) a)) hch hlp rfl rfl; have HO4 := hid ho4; clear hlp hch ho4)) | (go_at_call 79; ((with_reducible refine (HB.out _ _ _ _ (Frg.lp F m0)).mono ?_); rintro e w5 ⟨s5, lo5, hi5, rfl, ho5, b1, b2, hl5⟩; have O5 := hid ho5; have OC5 := hid (OwnS.one ho5); replace F := F.le hl5; clear ho5 hl5)) | ((with_reducible refine stop_store rfl ?_)))
  show wpList _ _ _ _ _ _
  refine wpList_storeD rfl rfl rfl (cells := #[s5, .int .i64 ((stepS q a).j : Nat), .int .i64 3, .float .f32 ((stepS q a).ta), .float .f32 ((stepS q a).tb), .float .f32 ((stepS q a).tc), .float .f32 ((stepS q a).tx), .float .f32 ((stepS q a).ty), .int .i64 2, .float .f32 ((stepS q a).da), .float .f32 ((stepS q a).db), .float .f32 ((stepS q a).dc), .float .f32 ((stepS q a).dx), .float .f32 ((stepS q a).dy), .float .f32 ((stepS q a).l)]) rfl (F.row m1) infoStr rfl (one_head OC5.out rfl) (fun w6 K => ?_)
  have RW := hid K.row
  have f1 := F.facts (lpF _ _ _ (stepS q a)) m0
  have a1 := (List.pairwise_cons.1 F.apart).1 _ m0
  simp only [rowF, lpF] at a1
  have hc : Chg (· = w.heap.size + 1) _ w6 := (Chg.refl _ _).wrote K rfl
  have L := hid (F.wr1 K).below
  have f1' := hid f1.2.1
  have O6 := hid ((OwnS.chgS O5.out hc (fun i h1 h2 h3 => by have h3' : i = w.heap.size + 1 := h3; have := Nat.le_trans a1 b1; omega)).mono (lo' := w.heap.size) (hi' := w6.heap.size) (by have := Nat.le_trans a1 b1; omega) (Nat.le_trans b2 (Nat.le_trans f1'.out hc.size)))
  clear f1 hc K F
  go_wp2
  exact bodyPost_ret (results_row3 rfl _ _ _ _ _ rfl RW.out Try.underlying48 rfl infoStr) rfl ⟨_, _, rfl, O6.out, HO4.out, L.out⟩
theorem both_StepString (x : Nat → Nat) (n : Nat) (k tk : Int) (ta tb tc tx ty : Nat) (dk : Int) (da db dc dx dy l : Nat) (a : Nat) (hw : (Lit.int .i64 k).wf = true ∧ (Lit.int .i64 tk).wf = true ∧ fits .f32 ta ∧ fits .f32 tb ∧ fits .f32 tc ∧ fits .f32 tx ∧ fits .f32 ty ∧ (Lit.int .i64 dk).wf = true ∧ fits .f32 da ∧ fits .f32 db ∧ fits .f32 dc ∧ fits .f32 dx ∧ fits .f32 dy ∧ fits .f32 l) (ha : fits .f32 a) : ∃ (xr0 : Nat → Nat) (nr0 : Nat) (kr0 tkr0 : Int) (tar0 tbr0 tcr0 txr0 tyr0 : Nat) (dkr0 : Int) (dar0 dbr0 dcr0 dxr0 dyr0 lr0 : Nat) (ar1 : Nat) (ar2 : Int), nr0 ≤ 1048576 ∧ (∀ (w : World) (B : Nat) (u : Value), RdS w B u x n → Calls Try.prog 33 #[.agg #[u, .int .i64 k, .int .i64 tk, .float .f32 ta, .float .f32 tb, .float .f32 tc, .float .f32 tx, .float .f32 ty, .int .i64 dk, .float .f32 da, .float .f32 db, .float .f32 dc, .float .f32 dx, .float .f32 dy, .float .f32 l], .float .f32 a] w (Out_sfi xr0 nr0 kr0 tkr0 tar0 tbr0 tcr0 txr0 tyr0 dkr0 dar0 dbr0 dcr0 dxr0 dyr0 lr0 ar1 ar2 w)) ∧ (∀ (w : World) (B : Nat) (u : Value), RdS w B u x n → Calls Try.prog 34 #[.agg #[u, .int .i64 k, .int .i64 tk, .float .f32 ta, .float .f32 tb, .float .f32 tc, .float .f32 tx, .float .f32 ty, .int .i64 dk, .float .f32 da, .float .f32 db, .float .f32 dc, .float .f32 dx, .float .f32 dy, .float .f32 l], .float .f32 a] w (Out_sfi xr0 nr0 kr0 tkr0 tar0 tbr0 tcr0 txr0 tyr0 dkr0 dar0 dbr0 dcr0 dxr0 dyr0 lr0 ar1 ar2 w)) := by
  obtain ⟨hk, _, h1, h2, h3, h4, h5, _, g1, g2, g3, g4, g5, hl⟩ := hw
  cases hv : okStr n k tk ta tb tc tx ty dk da db dc dx dy l
  · exact ⟨(fun _ => 0), 0, 0, 0, 0, 0, 0, 0, 0, 0, 0, 0, 0, 0, 0, 0, 0, 1, by omega, fun w B u h => s_StepString_no B u x n k tk ta tb tc tx ty dk da db dc dx dy l a w h hk hv, fun w B u h => i_StepString_no B u x n k tk ta tb tc tx ty dk da db dc dx dy l a w h ⟨h1, h2, h3, h4, h5⟩ ⟨g1, g2, g3, g4, g5⟩ hl hv⟩
  · obtain ⟨j, rfl, rfl, rfl, ok⟩ := okStr_q (x := x) hv ⟨h1, h2, h3, h4, h5⟩ ⟨g1, g2, g3, g4, g5⟩ hl
    exact ⟨_, _, _, _, _, _, _, _, _, _, _, _, _, _, _, _, _, _, Nat.le_trans ok.n2 (by decide), fun w B u h => s_StepString_yes B u (⟨x, n, j, ta, tb, tc, tx, ty, da, db, dc, dx, dy, l⟩ : StS) a w h ok hk hv ha, fun w B u h => i_StepString_yes B u (⟨x, n, j, ta, tb, tc, tx, ty, da, db, dc, dx, dy, l⟩ : StS) a w h ok hv ha⟩
end Go.Proofs.Ytmacednkpjfokaa

/- The walk of 'FnExactStepString'. -/
namespace Go.Proofs.Ytmacednkpjfokaa.fnExactStepString
open Go.RowKit Go.Fk
set_option maxRecDepth 100000 in
set_option maxHeartbeats 4000000 in
theorem core (s0 : Value) (x0 : Nat → Nat) (n0 : Nat) (k0 : Int) (tk0 : Int) (ta0 : Nat) (tb0 : Nat) (tc0 : Nat) (tx0 : Nat) (ty0 : Nat) (dk0 : Int) (da0 : Nat) (db0 : Nat) (dc0 : Nat) (dx0 : Nat) (dy0 : Nat) (l0 : Nat) (a1 : Nat) (xr0 : Nat → Nat) (nr0 : Nat) (kr0 : Int) (tkr0 : Int) (tar0 : Nat) (tbr0 : Nat) (tcr0 : Nat) (txr0 : Nat) (tyr0 : Nat) (dkr0 : Int) (dar0 : Nat) (dbr0 : Nat) (dcr0 : Nat) (dxr0 : Nat) (dyr0 : Nat) (lr0 : Nat) (ar1 : Nat) (ar2 : Int) (w : World) (z0 : RdS w w.heap.size s0 x0 n0) (hn0 : n0 ≤ 1048576) (hr0 : nr0 ≤ 1048576)
    (hS : ∀ (w : World) (B0 : Nat) (u0 : Value), RdS w B0 u0 x0 n0 → Calls Try.prog 33 #[.agg #[u0, .int .i64 k0, .int .i64 tk0, .float .f32 ta0, .float .f32 tb0, .float .f32 tc0, .float .f32 tx0, .float .f32 ty0, .int .i64 dk0, .float .f32 da0, .float .f32 db0, .float .f32 dc0, .float .f32 dx0, .float .f32 dy0, .float .f32 l0], .float .f32 a1] w (Out_sfi xr0 nr0 kr0 tkr0 tar0 tbr0 tcr0 txr0 tyr0 dkr0 dar0 dbr0 dcr0 dxr0 dyr0 lr0 ar1 ar2 w))
    (hI : ∀ (w : World) (B0 : Nat) (u0 : Value), RdS w B0 u0 x0 n0 → Calls Try.prog 34 #[.agg #[u0, .int .i64 k0, .int .i64 tk0, .float .f32 ta0, .float .f32 tb0, .float .f32 tc0, .float .f32 tx0, .float .f32 ty0, .int .i64 dk0, .float .f32 da0, .float .f32 db0, .float .f32 dc0, .float .f32 dx0, .float .f32 dy0, .float .f32 l0], .float .f32 a1] w (Out_sfi xr0 nr0 kr0 tkr0 tar0 tbr0 tcr0 txr0 tyr0 dkr0 dar0 dbr0 dcr0 dxr0 dyr0 lr0 ar1 ar2 w)) :
    Calls Try.prog 7 #[.agg #[s0, .int .i64 k0, .int .i64 tk0, .float .f32 ta0, .float .f32 tb0, .float .f32 tc0, .float .f32 tx0, .float .f32 ty0, .int .i64 dk0, .float .f32 da0, .float .f32 db0, .float .f32 dc0, .float .f32 dx0, .float .f32 dy0, .float .f32 l0], .float .f32 a1] w fun e w' => e = .returned (.bool true) ∧ Below w.heap.size w w' := by
  have Z0 := hid z0; clear z0
  have hm0 : ¬ (1048576 : Int) - n0 < 0 := by omega
  have hq : decide ((1 : Int) + n0 < 0) = false := by simp; omega
  have HS := hid hS; have HI := hid hI; clear hS hI
  have F := Frg.nil w
  replace F := F.box 44 (#[s0, .int .i64 k0, .int .i64 tk0, .float .f32 ta0, .float .f32 tb0, .float .f32 tc0, .float .f32 tx0, .float .f32 ty0, .int .i64 dk0, .float .f32 da0, .float .f32 db0, .float .f32 dc0, .float .f32 dx0, .float .f32 dy0, .float .f32 l0])
  go_enter Try.func7, Try.ntmps7
  go_wp2_with (first | (((with_reducible refine listN F ?_); clear F; intro wN F)) | ((with_reducible refine at_loadU rfl rfl ?_); first | (with_reducible refine wpList_loadG F rfl rfl rfl (by first | exact m0 | exact m1 | exact m2 | exact m3 | exact m4 | exact m5 | exact m6 | exact m7 | exact m8) Try.underlying48 rfl infoStr (by first | rfl | simp [size_ftab]) ?_) | (with_reducible refine wpList_loadG F rfl rfl rfl (by first | exact m0 | exact m1 | exact m2 | exact m3 | exact m4 | exact m5 | exact m6 | exact m7 | exact m8) Try.underlying44 rfl infoStrL (by first | rfl | simp [size_ftab]) ?_)) | ((with_reducible refine at_loadV rfl rfl ?_); first | (with_reducible refine wpList_loadGG F rfl rfl (by first | exact m0 | exact m1 | exact m2 | exact m3 | exact m4 | exact m5 | exact m6 | exact m7 | exact m8) Try.underlying48 rfl infoStr (by first | rfl | simp [size_ftab]) (by kernel_rfl) ?_) | (with_reducible refine wpList_loadGG F rfl rfl (by first | exact m0 | exact m1 | exact m2 | exact m3 | exact m4 | exact m5 | exact m6 | exact m7 | exact m8) Try.underlying44 rfl infoStrL (by first | rfl | simp [size_ftab]) (by kernel_rfl) ?_)) | (go_at_call 21; ((with_reducible refine (szStringR_yes _ s0 x0 n0 k0 tk0 ta0 tb0 tc0 tx0 ty0 dk0 da0 db0 dc0 dx0 dy0 l0 _ (Z0.out.le (by first | exact F.below)) hn0).mono ?_); rintro e w1 ⟨rfl, hb1⟩; (replace F := F.le hb1))) | (go_at_call 23; ((with_reducible refine (toStringR _ s0 x0 n0 k0 tk0 ta0 tb0 tc0 tx0 ty0 dk0 da0 db0 dc0 dx0 dy0 l0 _ (Z0.out.le (by first | exact F.below)) hn0).mono ?_); rintro e w1 ⟨tA0, rfl, ho1, hl1⟩; have oc := hid (OwnS.one ho1); (first | replace F := F.own1 hl1 ho1); clear hl1 ho1)))
  first | ((with_reducible refine callAt0 F ?_); clear F; intro wN F) | ((with_reducible refine callAtN F ?_); clear F; intro wN F)
  refine (HS.out _ _ _ (by first | exact (F.own (by first | exact m0 | exact m1 | exact m2 | exact m3 | exact m4 | exact m5 | exact m6 | exact m7 | exact m8)).rd)).mono ?_
  rintro e wS ⟨vS0, vS1, rfl, oS0, cS1, hlS⟩
  replace cS1 := hid cS1
  have oc := hid (OwnS.one oS0); (first | replace F := F.own1 hlS oS0); clear hlS oS0
  go_wp2_with (first | (((with_reducible refine listN F ?_); clear F; intro wN F)) | ((with_reducible refine at_store rfl ?_); first | (refine wpList_storeG F rfl rfl rfl rfl rfl infoStr rfl (by first | exact one_head (Hid.out (by assumption)) rfl | (simp [Value.oneCell']; done)) ?_; clear F; intro W F zW; clear zW)) | ((with_reducible refine at_loadU rfl rfl ?_); first | (with_reducible refine wpList_loadG F rfl rfl rfl (by first | exact m0 | exact m1 | exact m2 | exact m3 | exact m4 | exact m5 | exact m6 | exact m7 | exact m8) Try.underlying48 rfl infoStr (by first | rfl | simp [size_ftab]) ?_) | (with_reducible refine wpList_loadG F rfl rfl rfl (by first | exact m0 | exact m1 | exact m2 | exact m3 | exact m4 | exact m5 | exact m6 | exact m7 | exact m8) Try.underlying44 rfl infoStrL (by first | rfl | simp [size_ftab]) ?_)) | ((with_reducible refine at_loadV rfl rfl ?_); first | (with_reducible refine wpList_loadGG F rfl rfl (by first | exact m0 | exact m1 | exact m2 | exact m3 | exact m4 | exact m5 | exact m6 | exact m7 | exact m8) Try.underlying48 rfl infoStr (by first | rfl | simp [size_ftab]) (by kernel_rfl) ?_) | (with_reducible refine wpList_loadGG F rfl rfl (by first | exact m0 | exact m1 | exact m2 | exact m3 | exact m4 | exact m5 | exact m6 | exact m7 | exact m8) Try.underlying44 rfl infoStrL (by first | rfl | simp [size_ftab]) (by kernel_rfl) ?_)) | (go_at_call 23; ((with_reducible refine (toStringR _ s0 x0 n0 k0 tk0 ta0 tb0 tc0 tx0 ty0 dk0 da0 db0 dc0 dx0 dy0 l0 _ (Z0.out.le (by first | exact F.below)) hn0).mono ?_); rintro e w1 ⟨tB0, rfl, ho1, hl1⟩; have oc := hid (OwnS.one ho1); (first | replace F := F.own1 hl1 ho1); clear hl1 ho1)))
  first | ((with_reducible refine callAt0 F ?_); clear F; intro wN F) | ((with_reducible refine callAtN F ?_); clear F; intro wN F)
  refine (HI.out _ _ _ (by first | exact (F.own (by first | exact m0 | exact m1 | exact m2 | exact m3 | exact m4 | exact m5 | exact m6 | exact m7 | exact m8)).rd)).mono ?_
  rintro e wI ⟨vI0, vI1, rfl, oI0, cI1, hlI⟩
  replace cI1 := hid cI1
  have oc := hid (OwnS.one oI0); (first | replace F := F.own1 hlI oI0); clear hlI oI0
  go_wp2_with (first | (((with_reducible refine listN F ?_); clear F; intro wN F)) | ((with_reducible refine at_store rfl ?_); first | (refine wpList_storeG F rfl rfl rfl rfl rfl infoStr rfl (by first | exact one_head (Hid.out (by assumption)) rfl | (simp [Value.oneCell']; done)) ?_; clear F; intro W F zW; clear zW)) | ((with_reducible refine at_loadU rfl rfl ?_); first | (with_reducible refine wpList_loadG F rfl rfl rfl (by first | exact m0 | exact m1 | exact m2 | exact m3 | exact m4 | exact m5 | exact m6 | exact m7 | exact m8) Try.underlying48 rfl infoStr (by first | rfl | simp [size_ftab]) ?_) | (with_reducible refine wpList_loadG F rfl rfl rfl (by first | exact m0 | exact m1 | exact m2 | exact m3 | exact m4 | exact m5 | exact m6 | exact m7 | exact m8) Try.underlying44 rfl infoStrL (by first | rfl | simp [size_ftab]) ?_)) | ((with_reducible refine at_loadV rfl rfl ?_); first | (with_reducible refine wpList_loadGG F rfl rfl (by first | exact m0 | exact m1 | exact m2 | exact m3 | exact m4 | exact m5 | exact m6 | exact m7 | exact m8) Try.underlying48 rfl infoStr (by first | rfl | simp [size_ftab]) (by kernel_rfl) ?_) | (with_reducible refine wpList_loadGG F rfl rfl (by first | exact m0 | exact m1 | exact m2 | exact m3 | exact m4 | exact m5 | exact m6 | exact m7 | exact m8) Try.underlying44 rfl infoStrL (by first | rfl | simp [size_ftab]) (by kernel_rfl) ?_)) | (go_at_call 25; ((with_reducible refine (eqStringR _ _ _ _ xr0 nr0 kr0 tkr0 tar0 tbr0 tcr0 txr0 tyr0 dkr0 dar0 dbr0 dcr0 dxr0 dyr0 lr0 _ hr0 (by first | exact (F.own (by first | exact m0 | exact m1 | exact m2 | exact m3 | exact m4 | exact m5 | exact m6 | exact m7 | exact m8)).rd) (by first | exact (F.own (by first | exact m0 | exact m1 | exact m2 | exact m3 | exact m4 | exact m5 | exact m6 | exact m7 | exact m8)).rd)).mono ?_); rintro e w7 ⟨rfl, hb7⟩; (replace F := F.le hb7))) | ((with_reducible refine at_convert rfl ?_); first | (with_reducible refine wpList_widen rfl rfl rfl Try.underlying22 Try.underlying63 ?_; intro s1 n1 h1 f1) | (with_reducible refine wpList_widenG rfl rfl Try.underlying22 Try.underlying63 (by kernel_rfl) ?_; intro s1 n1 h1 f1)) | (go_at_call 35; ((with_reducible refine (sameFloat_yes _ _ _ (by exact ((Hid.out ‹Hid (can .f64 _ = can .f64 (widen vI1))›).trans ((congrArg (can .f64) (widen_congr (cI1.out.trans cS1.out.symm))).trans (Hid.out ‹Hid (can .f64 _ = can .f64 (widen vS1))›).symm)))).mono ?_); rintro e w7 ⟨rfl, dq7, rfl⟩; skip)))
  first | (refine wpAt0 F ?_; clear F; intro wN F) | (refine wpAtN F ?_; clear F; intro wN F)
  refine region_freeD (E := leX) (fun f _ w v => if f = 23 then ∃ (s' : Value) (B : Nat), v = .agg #[s', .int .i64 k0, .int .i64 tk0, .float .f32 ta0, .float .f32 tb0, .float .f32 tc0, .float .f32 tx0, .float .f32 ty0, .int .i64 dk0, .float .f32 da0, .float .f32 db0, .float .f32 dc0, .float .f32 dx0, .float .f32 dy0, .float .f32 l0] ∧ RdS w B s' x0 n0 else v = .bool true) (by kernel_rfl) (by kernel_rfl) ?_
  refine wpFreeD_loadG F rfl rfl rfl rfl (by first | exact m0 | exact m1 | exact m2 | exact m3 | exact m4 | exact m5 | exact m6 | exact m7 | exact m8) Try.underlying48 rfl infoStr rfl ?_
  simp only [Act.put, List.setIfInBounds_toArray, List.set_cons_succ, List.set_cons_zero]
  refine wpFreeD_loadG F rfl rfl rfl rfl (by first | exact m0 | exact m1 | exact m2 | exact m3 | exact m4 | exact m5 | exact m6 | exact m7 | exact m8) Try.underlying44 rfl infoStrL rfl ?_
  simp only [Act.put, List.setIfInBounds_toArray, List.set_cons_succ, List.set_cons_zero]
  refine wpFreeD_callB rfl rfl Try.func23 (by kernel_rfl) (by kernel_rfl) (args := #[.agg #[s0, .int .i64 k0, .int .i64 tk0, .float .f32 ta0, .float .f32 tb0, .float .f32 tc0, .float .f32 tx0, .float .f32 ty0, .int .i64 dk0, .float .f32 da0, .float .f32 db0, .float .f32 dc0, .float .f32 dx0, .float .f32 dy0, .float .f32 l0]]) (by simp [Act.eval]) (fun v w1 w2 hw hv => by simp only [if_true] at hv ⊢; obtain ⟨u, B, h1, h2⟩ := hv; exact ⟨u, B, h1, h2.le hw⟩) (fun w1 hw1 _ => (toStringR _ s0 x0 n0 k0 tk0 ta0 tb0 tc0 tx0 ty0 dk0 da0 db0 dc0 dx0 dy0 l0 w1 (Z0.out.le (le_trans (F.drewN _).below hw1)) hn0).mono ?_) ?_
  · rintro e w2 ⟨u, rfl, ho, hl⟩
    exact ⟨_, rfl, hl, by simp only [if_true]; exact ⟨u, _, rfl, ho.rd⟩⟩
  rintro v ⟨_, _, _, hv⟩
  simp only [if_true] at hv
  obtain ⟨u0, Bu0, rfl, _⟩ := hv
  simp only [Act.put, List.setIfInBounds_toArray, List.set_cons_succ, List.set_cons_zero]
  refine wpFreeD_callB rfl rfl Try.func25 (by kernel_rfl) (by kernel_rfl) (args := #[.agg #[tB0, .int .i64 k0, .int .i64 tk0, .float .f32 ta0, .float .f32 tb0, .float .f32 tc0, .float .f32 tx0, .float .f32 ty0, .int .i64 dk0, .float .f32 da0, .float .f32 db0, .float .f32 dc0, .float .f32 dx0, .float .f32 dy0, .float .f32 l0], .agg #[u0, .int .i64 k0, .int .i64 tk0, .float .f32 ta0, .float .f32 tb0, .float .f32 tc0, .float .f32 tx0, .float .f32 ty0, .int .i64 dk0, .float .f32 da0, .float .f32 db0, .float .f32 dc0, .float .f32 dx0, .float .f32 dy0, .float .f32 l0]]) (by simp [Act.eval]) (fun v w1 w2 hw hv => by simp only [show ¬ (25 = 23) by decide, if_false] at hv ⊢; exact hv) (fun w1 hw1 hbe => ?_) ?_
  · have hk := (hbe ⟨2, Ground.data⟩ (by simp) (by kernel_rfl)).2 rfl
    simp only [if_true] at hk
    obtain ⟨u', B', he, hr⟩ := hk
    obtain rfl : u0 = u' := by simpa using he
    refine (eqStringR _ _ _ _ x0 n0 k0 tk0 ta0 tb0 tc0 tx0 ty0 dk0 da0 db0 dc0 dx0 dy0 l0 _ hn0 (((F.drewN 1).le hw1).own (by first | exact m0 | exact m1 | exact m2 | exact m3 | exact m4 | exact m5 | exact m6 | exact m7 | exact m8)).rd hr).mono ?_
    rintro e w2 ⟨rfl, hl⟩
    exact ⟨_, rfl, hl, by simp only [show ¬ (25 = 23) by decide, if_false]⟩
  rintro v ⟨_, _, _, hv⟩
  simp only [show ¬ (25 = 23) by decide, if_false] at hv
  subst hv
  simp only [Act.put, List.setIfInBounds_toArray, List.set_cons_succ, List.set_cons_zero]
  refine wpFreeD_one rfl (.bool false) (fun w1 _ => by kernel_rfl) ?_
  simp only [Act.put, List.setIfInBounds_toArray, List.set_cons_succ, List.set_cons_zero]
  refine wpFreeD_nil (fun wR hwR _ => ?_)
  replace F := (F.drewN 1).le hwR
  clear hwR
  go_wp2_with (first | (((with_reducible refine listN F ?_); clear F; intro wN F)) | ((with_reducible refine at_loadU rfl rfl ?_); first | (with_reducible refine wpList_loadG F rfl rfl rfl (by first | exact m0 | exact m1 | exact m2 | exact m3 | exact m4 | exact m5 | exact m6 | exact m7 | exact m8) Try.underlying48 rfl infoStr (by first | rfl | simp [size_ftab]) ?_) | (with_reducible refine wpList_loadG F rfl rfl rfl (by first | exact m0 | exact m1 | exact m2 | exact m3 | exact m4 | exact m5 | exact m6 | exact m7 | exact m8) Try.underlying44 rfl infoStrL (by first | rfl | simp [size_ftab]) ?_)) | ((with_reducible refine at_loadV rfl rfl ?_); first | (with_reducible refine wpList_loadGG F rfl rfl (by first | exact m0 | exact m1 | exact m2 | exact m3 | exact m4 | exact m5 | exact m6 | exact m7 | exact m8) Try.underlying48 rfl infoStr (by first | rfl | simp [size_ftab]) (by kernel_rfl) ?_) | (with_reducible refine wpList_loadGG F rfl rfl (by first | exact m0 | exact m1 | exact m2 | exact m3 | exact m4 | exact m5 | exact m6 | exact m7 | exact m8) Try.underlying44 rfl infoStrL (by first | rfl | simp [size_ftab]) (by kernel_rfl) ?_)))
  first | ((with_reducible refine callAt0 F ?_); clear F; intro wN F) | ((with_reducible refine callAtN F ?_); clear F; intro wN F)
  refine (markStringR _ _ _ x0 n0 k0 tk0 ta0 tb0 tc0 tx0 ty0 dk0 da0 db0 dc0 dx0 dy0 l0 1 _ hn0 (by omega) (by omega) (F.own (by first | exact m0 | exact m1 | exact m2 | exact m3 | exact m4 | exact m5 | exact m6 | exact m7 | exact m8))).mono ?_
  rintro e w4 ⟨rfl, hR, hU⟩
  (first | replace F := F.mark0 hR hU | replace F := F.mark1 hR hU | replace F := F.mark2 hR hU | replace F := F.mark3 hR hU | replace F := F.mark4 hR hU | replace F := F.mark5 hR hU | replace F := F.mark6 hR hU | replace F := F.mark7 hR hU | replace F := F.mark8 hR hU | replace F := F.mark9 hR hU); clear hR hU
  go_wp2_with (first | (((with_reducible refine listN F ?_); clear F; intro wN F)) | ((with_reducible refine at_store rfl ?_); first | (refine wpList_storeG F rfl rfl rfl rfl rfl infoStr rfl (by first | exact one_head (Hid.out (by assumption)) rfl | (simp [Value.oneCell']; done)) ?_; clear F; intro W F zW; clear zW)) | ((with_reducible refine at_loadU rfl rfl ?_); first | (with_reducible refine wpList_loadG F rfl rfl rfl (by first | exact m0 | exact m1 | exact m2 | exact m3 | exact m4 | exact m5 | exact m6 | exact m7 | exact m8) Try.underlying48 rfl infoStr (by first | rfl | simp [size_ftab]) ?_) | (with_reducible refine wpList_loadG F rfl rfl rfl (by first | exact m0 | exact m1 | exact m2 | exact m3 | exact m4 | exact m5 | exact m6 | exact m7 | exact m8) Try.underlying44 rfl infoStrL (by first | rfl | simp [size_ftab]) ?_)) | ((with_reducible refine at_loadV rfl rfl ?_); first | (with_reducible refine wpList_loadGG F rfl rfl (by first | exact m0 | exact m1 | exact m2 | exact m3 | exact m4 | exact m5 | exact m6 | exact m7 | exact m8) Try.underlying48 rfl infoStr (by first | rfl | simp [size_ftab]) (by kernel_rfl) ?_) | (with_reducible refine wpList_loadGG F rfl rfl (by first | exact m0 | exact m1 | exact m2 | exact m3 | exact m4 | exact m5 | exact m6 | exact m7 | exact m8) Try.underlying44 rfl infoStrL (by first | rfl | simp [size_ftab]) (by kernel_rfl) ?_)) | (go_at_call 25; ((with_reducible refine (eqStringR _ _ _ _ xr0 nr0 kr0 tkr0 tar0 tbr0 tcr0 txr0 tyr0 dkr0 dar0 dbr0 dcr0 dxr0 dyr0 lr0 _ hr0 (by first | exact (F.own (by first | exact m0 | exact m1 | exact m2 | exact m3 | exact m4 | exact m5 | exact m6 | exact m7 | exact m8)).rd) (by first | exact (F.own (by first | exact m0 | exact m1 | exact m2 | exact m3 | exact m4 | exact m5 | exact m6 | exact m7 | exact m8)).rd)).mono ?_); rintro e w7 ⟨rfl, hb7⟩; (replace F := F.le hb7))) | ((with_reducible refine at_convert rfl ?_); first | (with_reducible refine wpList_widen rfl rfl rfl Try.underlying22 Try.underlying63 ?_; intro s1 n1 h1 f1) | (with_reducible refine wpList_widenG rfl rfl Try.underlying22 Try.underlying63 (by kernel_rfl) ?_; intro s1 n1 h1 f1)) | (go_at_call 35; ((with_reducible refine (sameFloat_yes _ _ _ (by exact ((Hid.out ‹Hid (can .f64 _ = can .f64 (widen vI1))›).trans ((congrArg (can .f64) (widen_congr (cI1.out.trans cS1.out.symm))).trans (Hid.out ‹Hid (can .f64 _ = can .f64 (widen vS1))›).symm)))).mono ?_); rintro e w7 ⟨rfl, dq7, rfl⟩; skip)))
  first | ((with_reducible refine callAt0 F ?_); clear F; intro wN F) | ((with_reducible refine callAtN F ?_); clear F; intro wN F)
  refine (markStringR _ _ _ xr0 nr0 kr0 tkr0 tar0 tbr0 tcr0 txr0 tyr0 dkr0 dar0 dbr0 dcr0 dxr0 dyr0 lr0 1 _ hr0 (by omega) (by omega) (F.own (by first | exact m0 | exact m1 | exact m2 | exact m3 | exact m4 | exact m5 | exact m6 | exact m7 | exact m8))).mono ?_
  rintro e w5 ⟨rfl, hR, hU⟩
  (first | replace F := F.mark0 hR hU | replace F := F.mark1 hR hU | replace F := F.mark2 hR hU | replace F := F.mark3 hR hU | replace F := F.mark4 hR hU | replace F := F.mark5 hR hU | replace F := F.mark6 hR hU | replace F := F.mark7 hR hU | replace F := F.mark8 hR hU | replace F := F.mark9 hR hU); clear hR hU
  go_wp2_with (first | (((with_reducible refine listN F ?_); clear F; intro wN F)) | ((with_reducible refine at_loadU rfl rfl ?_); first | (with_reducible refine wpList_loadG F rfl rfl rfl (by first | exact m0 | exact m1 | exact m2 | exact m3 | exact m4 | exact m5 | exact m6 | exact m7 | exact m8) Try.underlying48 rfl infoStr (by first | rfl | simp [size_ftab]) ?_) | (with_reducible refine wpList_loadG F rfl rfl rfl (by first | exact m0 | exact m1 | exact m2 | exact m3 | exact m4 | exact m5 | exact m6 | exact m7 | exact m8) Try.underlying44 rfl infoStrL (by first | rfl | simp [size_ftab]) ?_)) | ((with_reducible refine at_loadV rfl rfl ?_); first | (with_reducible refine wpList_loadGG F rfl rfl (by first | exact m0 | exact m1 | exact m2 | exact m3 | exact m4 | exact m5 | exact m6 | exact m7 | exact m8) Try.underlying48 rfl infoStr (by first | rfl | simp [size_ftab]) (by kernel_rfl) ?_) | (with_reducible refine wpList_loadGG F rfl rfl (by first | exact m0 | exact m1 | exact m2 | exact m3 | exact m4 | exact m5 | exact m6 | exact m7 | exact m8) Try.underlying44 rfl infoStrL (by first | rfl | simp [size_ftab]) (by kernel_rfl) ?_)) | (go_at_call 27; ((with_reducible refine (heldStringR _ _ nr0 kr0 tkr0 tar0 tbr0 tcr0 txr0 tyr0 dkr0 dar0 dbr0 dcr0 dxr0 dyr0 lr0 1 _ hr0 (by omega) (by omega) (F.own (by first | exact m0 | exact m1 | exact m2 | exact m3 | exact m4 | exact m5 | exact m6 | exact m7 | exact m8)).rd).mono ?_); rintro e w6 ⟨rfl, hb6⟩; (replace F := F.le hb6))) | (go_at_call 23; ((with_reducible refine (toStringR _ s0 x0 n0 k0 tk0 ta0 tb0 tc0 tx0 ty0 dk0 da0 db0 dc0 dx0 dy0 l0 _ (Z0.out.le (by first | exact F.below)) hn0).mono ?_); rintro e w1 ⟨tC0, rfl, ho1, hl1⟩; have oc := hid (OwnS.one ho1); (first | replace F := F.own1 hl1 ho1); clear hl1 ho1)))
  first | ((with_reducible refine callAt0 F ?_); clear F; intro wN F) | ((with_reducible refine callAtN F ?_); clear F; intro wN F)
  refine (HI.out _ _ _ (by first | exact (F.own (by first | exact m0 | exact m1 | exact m2 | exact m3 | exact m4 | exact m5 | exact m6 | exact m7 | exact m8)).rd)).mono ?_
  rintro e wH ⟨vH0, vH1, rfl, oH0, cH1, hlH⟩
  replace cH1 := hid cH1
  have oc := hid (OwnS.one oH0); (first | replace F := F.own1 hlH oH0); clear hlH oH0
  go_wp2_with (first | (((with_reducible refine listN F ?_); clear F; intro wN F)) | ((with_reducible refine at_store rfl ?_); first | (refine wpList_storeG F rfl rfl rfl rfl rfl infoStr rfl (by first | exact one_head (Hid.out (by assumption)) rfl | (simp [Value.oneCell']; done)) ?_; clear F; intro W F zW; clear zW)) | ((with_reducible refine at_loadU rfl rfl ?_); first | (with_reducible refine wpList_loadG F rfl rfl rfl (by first | exact m0 | exact m1 | exact m2 | exact m3 | exact m4 | exact m5 | exact m6 | exact m7 | exact m8) Try.underlying48 rfl infoStr (by first | rfl | simp [size_ftab]) ?_) | (with_reducible refine wpList_loadG F rfl rfl rfl (by first | exact m0 | exact m1 | exact m2 | exact m3 | exact m4 | exact m5 | exact m6 | exact m7 | exact m8) Try.underlying44 rfl infoStrL (by first | rfl | simp [size_ftab]) ?_)) | ((with_reducible refine at_loadV rfl rfl ?_); first | (with_reducible refine wpList_loadGG F rfl rfl (by first | exact m0 | exact m1 | exact m2 | exact m3 | exact m4 | exact m5 | exact m6 | exact m7 | exact m8) Try.underlying48 rfl infoStr (by first | rfl | simp [size_ftab]) (by kernel_rfl) ?_) | (with_reducible refine wpList_loadGG F rfl rfl (by first | exact m0 | exact m1 | exact m2 | exact m3 | exact m4 | exact m5 | exact m6 | exact m7 | exact m8) Try.underlying44 rfl infoStrL (by first | rfl | simp [size_ftab]) (by kernel_rfl) ?_)) | (go_at_call 25; ((with_reducible refine (eqStringR _ _ _ _ xr0 nr0 kr0 tkr0 tar0 tbr0 tcr0 txr0 tyr0 dkr0 dar0 dbr0 dcr0 dxr0 dyr0 lr0 _ hr0 (by first | exact (F.own (by first | exact m0 | exact m1 | exact m2 | exact m3 | exact m4 | exact m5 | exact m6 | exact m7 | exact m8)).rd) (by first | exact (F.own (by first | exact m0 | exact m1 | exact m2 | exact m3 | exact m4 | exact m5 | exact m6 | exact m7 | exact m8)).rd)).mono ?_); rintro e w7 ⟨rfl, hb7⟩; (replace F := F.le hb7))) | ((with_reducible refine at_convert rfl ?_); first | (with_reducible refine wpList_widen rfl rfl rfl Try.underlying22 Try.underlying63 ?_; intro s1 n1 h1 f1) | (with_reducible refine wpList_widenG rfl rfl Try.underlying22 Try.underlying63 (by kernel_rfl) ?_; intro s1 n1 h1 f1)) | (go_at_call 35; ((with_reducible refine (sameFloat_yes _ _ _ (by exact ((Hid.out ‹Hid (can .f64 _ = can .f64 (widen vH1))›).trans ((congrArg (can .f64) (widen_congr (cH1.out.trans cS1.out.symm))).trans (Hid.out ‹Hid (can .f64 _ = can .f64 (widen vS1))›).symm)))).mono ?_); rintro e w7 ⟨rfl, dq7, rfl⟩; skip)) | (go_at_call 27; ((with_reducible refine (heldStringR _ _ nr0 kr0 tkr0 tar0 tbr0 tcr0 txr0 tyr0 dkr0 dar0 dbr0 dcr0 dxr0 dyr0 lr0 1 _ hr0 (by omega) (by omega) (F.own (by first | exact m0 | exact m1 | exact m2 | exact m3 | exact m4 | exact m5 | exact m6 | exact m7 | exact m8)).rd).mono ?_); rintro e w6 ⟨rfl, hb6⟩; (replace F := F.le hb6))))
  go_ret
  first | exact ⟨rfl, F.below⟩ | exact ⟨rfl, below_drewN F.below _⟩
set_option maxRecDepth 100000 in
set_option maxHeartbeats 2000000 in
theorem large0 (s0 : Value) (x0 : Nat → Nat) (n0 : Nat) (k0 : Int) (tk0 : Int) (ta0 : Nat) (tb0 : Nat) (tc0 : Nat) (tx0 : Nat) (ty0 : Nat) (dk0 : Int) (da0 : Nat) (db0 : Nat) (dc0 : Nat) (dx0 : Nat) (dy0 : Nat) (l0 : Nat) (a1 : Nat) (w : World) (z0 : RdS w w.heap.size s0 x0 n0)  (hl : ¬ n0 ≤ 1048576) :
    Calls Try.prog 7 #[.agg #[s0, .int .i64 k0, .int .i64 tk0, .float .f32 ta0, .float .f32 tb0, .float .f32 tc0, .float .f32 tx0, .float .f32 ty0, .int .i64 dk0, .float .f32 da0, .float .f32 db0, .float .f32 dc0, .float .f32 dx0, .float .f32 dy0, .float .f32 l0], .float .f32 a1] w fun e w' => e = .returned (.bool true) ∧ Below w.heap.size w w' := by
  have Z0 := hid z0; have hs0 := z0.small; clear z0
  have F := Frg.nil w
  replace F := F.box 44 (#[s0, .int .i64 k0, .int .i64 tk0, .float .f32 ta0, .float .f32 tb0, .float .f32 tc0, .float .f32 tx0, .float .f32 ty0, .int .i64 dk0, .float .f32 da0, .float .f32 db0, .float .f32 dc0, .float .f32 dx0, .float .f32 dy0, .float .f32 l0])
  go_enter Try.func7, Try.ntmps7
  go_wp2_with (first | (((with_reducible refine listN F ?_); clear F; intro wN F)) | ((with_reducible refine at_loadU rfl rfl ?_); first | (with_reducible refine wpList_loadG F rfl rfl rfl (by first | exact m0 | exact m1 | exact m2 | exact m3 | exact m4 | exact m5 | exact m6 | exact m7 | exact m8) Try.underlying48 rfl infoStr (by first | rfl | simp [size_ftab]) ?_) | (with_reducible refine wpList_loadG F rfl rfl rfl (by first | exact m0 | exact m1 | exact m2 | exact m3 | exact m4 | exact m5 | exact m6 | exact m7 | exact m8) Try.underlying44 rfl infoStrL (by first | rfl | simp [size_ftab]) ?_)) | ((with_reducible refine at_loadV rfl rfl ?_); first | (with_reducible refine wpList_loadGG F rfl rfl (by first | exact m0 | exact m1 | exact m2 | exact m3 | exact m4 | exact m5 | exact m6 | exact m7 | exact m8) Try.underlying48 rfl infoStr (by first | rfl | simp [size_ftab]) (by kernel_rfl) ?_) | (with_reducible refine wpList_loadGG F rfl rfl (by first | exact m0 | exact m1 | exact m2 | exact m3 | exact m4 | exact m5 | exact m6 | exact m7 | exact m8) Try.underlying44 rfl infoStrL (by first | rfl | simp [size_ftab]) (by kernel_rfl) ?_)) | (go_at_call 21; ((with_reducible refine (szStringRM_no _ s0 x0 n0 k0 tk0 ta0 tb0 tc0 tx0 ty0 dk0 da0 db0 dc0 dx0 dy0 l0 (1048576 : Int) _ (Z0.out.le (by first | exact F.below)) (by omega) (by omega) (by omega)).mono ?_); rintro e w1 ⟨rfl, hb1⟩; (replace F := F.le hb1))))
  go_ret
  first | exact ⟨rfl, F.below⟩ | exact ⟨rfl, below_drewN F.below _⟩
theorem walk (s0 : Value) (y0 : Nat → Nat) (n0 : Nat) (k0 : Int) (tk0 : Int) (ta0 : Nat) (tb0 : Nat) (tc0 : Nat) (tx0 : Nat) (ty0 : Nat) (dk0 : Int) (da0 : Nat) (db0 : Nat) (dc0 : Nat) (dx0 : Nat) (dy0 : Nat) (l0 : Nat) (a1 : Nat) (w : World) (w0 : (Lit.int .i64 k0).wf = true ∧ (Lit.int .i64 tk0).wf = true ∧ fits .f32 ta0 ∧ fits .f32 tb0 ∧ fits .f32 tc0 ∧ fits .f32 tx0 ∧ fits .f32 ty0 ∧ (Lit.int .i64 dk0).wf = true ∧ fits .f32 da0 ∧ fits .f32 db0 ∧ fits .f32 dc0 ∧ fits .f32 dx0 ∧ fits .f32 dy0 ∧ fits .f32 l0) (z0 : SlIn w s0 y0 n0) (w1 : fits .f32 a1) :
    Calls Try.prog 7 #[.agg #[s0, .int .i64 k0, .int .i64 tk0, .float .f32 ta0, .float .f32 tb0, .float .f32 tc0, .float .f32 tx0, .float .f32 ty0, .int .i64 dk0, .float .f32 da0, .float .f32 db0, .float .f32 dc0, .float .f32 dx0, .float .f32 dy0, .float .f32 l0], .float .f32 a1] w fun e w' => e = .returned (.bool true) ∧ Below w.heap.size w w' := by
  by_cases h0 : n0 ≤ 1048576
  · skip
    obtain ⟨xr0, nr0, kr0, tkr0, tar0, tbr0, tcr0, txr0, tyr0, dkr0, dar0, dbr0, dcr0, dxr0, dyr0, lr0, ar1, ar2, hr0, hS, hI⟩ := both_StepString (fun i => can .f32 (y0 i)) n0 k0 tk0 ta0 tb0 tc0 tx0 ty0 dk0 da0 db0 dc0 dx0 dy0 l0 a1 w0 w1
    exact core s0 (fun i => can .f32 (y0 i)) n0 k0 tk0 ta0 tb0 tc0 tx0 ty0 dk0 da0 db0 dc0 dx0 dy0 l0 a1 xr0 nr0 kr0 tkr0 tar0 tbr0 tcr0 txr0 tyr0 dkr0 dar0 dbr0 dcr0 dxr0 dyr0 lr0 ar1 ar2 w z0.rd (by omega) hr0 hS hI
  · exact large0 s0 (fun i => can .f32 (y0 i)) n0 k0 tk0 ta0 tb0 tc0 tx0 ty0 dk0 da0 db0 dc0 dx0 dy0 l0 a1 w z0.rd  h0
end Go.Proofs.Ytmacednkpjfokaa.fnExactStepString
