/- Texts of the walk, laid in one file. -/
import Derived.OwnWalk
import Derived.Test.YtaenbpkcehenkacMd
set_option linter.unusedVariables false
set_option linter.unusedSimpArgs false
/- Loops of the program: strings that go on. -/
namespace Go.Fk
open Go Go.RowKit
theorem qRing (s : Value) (q : StS) : ∀ j, j < [s, Value.int .i64 (q.j : Nat)].length → (#[s, .int .i64 (q.j : Nat), .int .i64 3, .float .f32 (q.ta), .float .f32 (q.tb), .float .f32 (q.tc), .float .f32 (q.tx), .float .f32 (q.ty), .int .i64 2, .float .f32 (q.da), .float .f32 (q.db), .float .f32 (q.dc), .float .f32 (q.dx), .float .f32 (q.dy), .float .f32 (q.l)] : Array Value)[0 + j]? = [s, Value.int .i64 (q.j : Nat)][j]? := part_at [] [s, .int .i64 (q.j : Nat)] _ 0 rfl
theorem qTune (s : Value) (q : StS) : ∀ j, j < [Value.int .i64 3, .float .f32 q.ta, .float .f32 q.tb, .float .f32 q.tc, .float .f32 q.tx, .float .f32 q.ty].length → (#[s, .int .i64 (q.j : Nat), .int .i64 3, .float .f32 (q.ta), .float .f32 (q.tb), .float .f32 (q.tc), .float .f32 (q.tx), .float .f32 (q.ty), .int .i64 2, .float .f32 (q.da), .float .f32 (q.db), .float .f32 (q.dc), .float .f32 (q.dx), .float .f32 (q.dy), .float .f32 (q.l)] : Array Value)[2 + j]? = [Value.int .i64 3, .float .f32 q.ta, .float .f32 q.tb, .float .f32 q.tc, .float .f32 q.tx, .float .f32 q.ty][j]? := part_at [s, .int .i64 (q.j : Nat)] _ _ 2 rfl
theorem qDamp (s : Value) (q : StS) : ∀ j, j < [Value.int .i64 2, .float .f32 q.da, .float .f32 q.db, .float .f32 q.dc, .float .f32 q.dx, .float .f32 q.dy].length → (#[s, .int .i64 (q.j : Nat), .int .i64 3, .float .f32 (q.ta), .float .f32 (q.tb), .float .f32 (q.tc), .float .f32 (q.tx), .float .f32 (q.ty), .int .i64 2, .float .f32 (q.da), .float .f32 (q.db), .float .f32 (q.dc), .float .f32 (q.dx), .float .f32 (q.dy), .float .f32 (q.l)] : Array Value)[8 + j]? = [Value.int .i64 2, .float .f32 q.da, .float .f32 q.db, .float .f32 q.dc, .float .f32 q.dx, .float .f32 q.dy][j]? := part_at [s, .int .i64 (q.j : Nat), .int .i64 3, .float .f32 q.ta, .float .f32 q.tb, .float .f32 q.tc, .float .f32 q.tx, .float .f32 q.ty] _ _ 8 rfl
end Go.Fk
namespace Go.Proofs.Ytaenbpkcehenkac
open Go.RowKit Go.Fk
/-- A loop: a string that goes on; all its blocks lie from B to C. -/
def LpS (w : World) (B C g : Nat) (q : StS) : Prop := ∃ (s : Value) (lo hi rt rd : Nat), Row w g 136 #[s, .int .i64 (q.j : Nat), .pointer (some ⟨rt, 0, none⟩), .pointer (some ⟨rd, 0, none⟩), .float .f32 q.l, .int .i64 (loudN q.x q.n : Nat)] ∧ OwnS w lo hi s q.x q.n ∧ Row w rt 140 #[mdl 3 q.ta q.tb q.tc, .float .f32 (q.tx), .float .f32 (q.ty)] ∧ Row w rd 140 #[mdl 2 q.da q.db q.dc, .float .f32 (q.dx), .float .f32 (q.dy)] ∧
  (B ≤ g ∧ g < C ∧ B ≤ rt ∧ rt < C ∧ B ≤ rd ∧ rd < C ∧ B ≤ lo ∧ hi ≤ C) ∧ (g ≠ rt ∧ g ≠ rd ∧ rt ≠ rd ∧ ¬ (lo ≤ g ∧ g < hi) ∧ ¬ (lo ≤ rt ∧ rt < hi) ∧ ¬ (lo ≤ rd ∧ rd < hi))
def OutLS (B C g : Nat) (q : StS) (a : Nat) (w : World) (e : Ending) (w' : World) : Prop := ∃ o, e = .returned (.float .f32 o) ∧ can .f32 o = q.x q.j ∧ fits .f32 o ∧ LpS w' B C g (stepS q a) ∧ Chg (rng B C) w w'
theorem lpPart (s : Value) (q : StS) (rt rd : Nat) : ∀ j, j < [s, Value.int .i64 (q.j : Nat)].length → (#[s, .int .i64 (q.j : Nat), .pointer (some ⟨rt, 0, none⟩), .pointer (some ⟨rd, 0, none⟩), .float .f32 q.l, .int .i64 (loudN q.x q.n : Nat)] : Array Value)[0 + j]? = [s, Value.int .i64 (q.j : Nat)][j]? := part_at [] [s, .int .i64 (q.j : Nat)] _ 0 rfl
theorem i_loudness (x : Nat) (w : World) : Calls Try.prog 116 #[.float .f32 x] w fun e w' => e = .returned (.int .i64 (loudB x : Nat)) ∧ w = w' := by
  cases h : zeroF x
  · have HZ : Hid (loudB x = 1) := by unfold Hid loudB; rw [if_neg (by rw [h]; decide)]
    unfold zeroF at h
    have h2 : (FloatKind.f32.format.order x 0 != some .eq) = !(FloatKind.f32.format.order x 0 == some .eq) := rfl
    rw [h] at h2
    replace h2 := h2.trans (show _ = true from rfl)
    go_enter Try.func116, Try.ntmps116
    go_wp2
    go_ret
    exact ⟨by rw [HZ.out]; rfl, rfl⟩
  · have HZ : Hid (loudB x = 0) := by unfold Hid loudB; rw [if_pos h]
    unfold zeroF at h
    have h2 : (FloatKind.f32.format.order x 0 != some .eq) = !(FloatKind.f32.format.order x 0 == some .eq) := rfl
    rw [h] at h2
    replace h2 := h2.trans (show _ = false from rfl)
    go_enter Try.func116, Try.ntmps116
    go_wp2
    go_ret
    exact ⟨by rw [HZ.out]; rfl, rfl⟩
def loudK (_ : FuncId) (args : Array Value) (v : Value) : Prop := ∃ p, args = #[.float .f32 p] ∧ v = .int .i64 (loudB p : Nat)
theorem loudK_v {f : FuncId} {p : Nat} {v : Value} (h : loudK f #[.float .f32 p] v) : v = .int .i64 (loudB p : Nat) := by
  obtain ⟨p', h, rfl⟩ := h
  simp at h
  subst h
  rfl
theorem loud_call {p N : Nat} {w : World} : Calls Try.prog 116 #[.float .f32 p] (w.drewN N) fun e w'' => ∃ u, e = .returned u ∧ loudK 116 #[.float .f32 p] u ∧ ∃ m, w'' = w.drewN m :=
  (i_loudness p (w.drewN N)).mono fun _ _ ⟨he, hw⟩ => ⟨_, he, ⟨p, rfl, rfl⟩, N, hw.symm⟩
set_option maxRecDepth 100000 in
set_option maxHeartbeats 4000000 in
theorem i_loopStep (B C g : Nat) (q : StS) (a : Nat) (w : World) (h : LpS w B C g q) (ok : q.Ok) (ha : fits .f32 a) :
    Calls Try.prog 88 #[.pointer (some ⟨g, 0, none⟩), .float .f32 a] w (OutLS B C g q a w) := by
  obtain ⟨s, lo, hi, rt, rd, R, O, RT, RD, ⟨b1, b2, b3, b4, b5, b6, b7, b8⟩, d1, d2, d3, d4, d5, d6⟩ := h
  have HO := hid (fun (w' : World) (hl : le w w') => i_oldest hi s q.x q.n q.j w' (O.rd.le hl) ok.j1 ok.n2)
  rcases O with ⟨rfl, h0⟩ | ⟨b, o, cap, t', ds, rfl, hc, hm, hb, hb', hrow, hx⟩
  · have := ok.n1; omega
  have OO : Hid (OwnS w lo hi (.slice (some ⟨b, o, none⟩) q.n cap) q.x q.n) := .inr ⟨b, o, cap, t', ds, rfl, hc, hm, hb, hb', hrow, hx⟩
  have j1 := ok.j1
  have n2 := ok.n2
  have OK := hid ok
  have HR := hid R; have HRT := hid RT; have HRD := hid RD
  clear R RT RD hrow hx ok
  unfold maxLen at hm
  go_enter Try.func88, Try.ntmps88
  go_wp2_with (first | ((with_reducible refine at_loadU rfl rfl ?_); (with_reducible refine wpList_loadPR HR.out rfl rfl rfl Try.underlying25 rfl [.slice (some ⟨b, o, none⟩) q.n cap, .int .i64 (q.j : Nat)] (lpPart _ q rt rd) infoRing rfl ?_)) | (go_at_call 117; ((with_reducible refine (HO.out _ (le_refl _)).mono ?_); rintro e w1 ⟨y, rfl, cy, fy, hl⟩; have HL1 := hid hl; have HC := hid cy; clear hl cy)))
  have R1 := hid (HR.out.le HL1.out)
  have R1d : Hid (Row w1.drew g 136 #[(.slice (some ⟨b, o, none⟩) q.n cap), .int .i64 (q.j : Nat), .pointer (some ⟨rt, 0, none⟩), .pointer (some ⟨rd, 0, none⟩), .float .f32 q.l, .int .i64 (loudN q.x q.n : Nat)]) := R1.out.drewN 1
  have T1 : Hid (Row w1.drew rt 140 #[mdl 3 q.ta q.tb q.tc, .float .f32 (q.tx), .float .f32 (q.ty)]) := (HRT.out.le HL1.out).drewN 1
  have D1 : Hid (Row w1.drew rd 140 #[mdl 2 q.da q.db q.dc, .float .f32 (q.dx), .float .f32 (q.dy)]) := (HRD.out.le HL1.out).drewN 1
  have HCY : Hid (can .f32 y = can .f32 (q.x q.j)) := by unfold Hid; rw [← HC.out, can_can]
  have c2 := R1.out.cell? 2
  have c3 := R1.out.cell? 3
  go_region_with (go_at_call 118; first | ((with_reducible refine (i_step 3 q.ta q.tb q.tc q.tx q.ty y rt _ ⟨by decide, by decide⟩ T1.out OK.out.ftx fy).mono ?_); rintro e w2 ⟨r1, rfl, hr1, fr1, hR1, hU1⟩; rw [st0_congr HCY.out, st1_congr HCY.out] at hR1; have T2 := hid hR1; have HC1 : Hid (can .f32 r1 = can .f32 (y1S q)) := (hr1.trans ((outF_congr HCY.out).trans (can_outF _ _ _ _ _ _ _).symm)); have U1 := hid (chg_upd hU1); have D2 := hid (U1.out.row D1.out (Ne.symm d3)); have c3w := (U1.out.row R1d.out d1).cell? 3; clear hR1 hr1 hU1) | ((with_reducible refine (i_step 2 q.da q.db q.dc q.dx q.dy r1 rd _ ⟨by decide, by decide⟩ D2.out OK.out.fdx fr1).mono ?_); rintro e w3 ⟨r2, rfl, hr2, fr2, hR2, hU2⟩; rw [st0_congr HC1.out, st1_congr HC1.out] at hR2; have D3 := hid hR2; have HC2 : Hid (can .f32 r2 = y2S q) := (hr2.trans (outF_congr HC1.out)); have U2 := hid (chg_upd hU2); have T3 := hid (U2.out.row T2.out d3); clear hR2 hr2 hU2))
  all_goals
    go_simp
    have UU : Hid (Chg (fun i => i = rt ∨ i = rd) w w3) := (Chg.of_le (le_trans HL1.out (le_drewN w1 1))).trans ((U1.out.mono (fun i h => .inl h)).trans (U2.out.mono (fun i h => .inr h)))
    have R3 := hid (UU.out.row HR.out (by rintro (h | h); exact d1 h; exact d2 h))
    have O3 := hid (OwnS.chgS OO.out UU.out (fun i h1 h2 h3 => by rcases h3 with h3 | h3; (subst h3; exact d5 ⟨h1, h2⟩); (subst h3; exact d6 ⟨h1, h2⟩)))
    clear U1 U2 T1 D1 T2 D2 R1 R1d c3w HR HRT HRD OO HO c2 c3
    have c4 := R3.out.cell? 4
    have HN := hid (fun r2 p r => @next_of q a r2 p r)
    go_wp2_with (first | (with_reducible refine wpList_farith rfl rfl rfl rfl rfl ?_; intro r nn hr hf) | (go_at_call 119; ((with_reducible refine (i_kept _ _ hf.out).mono ?_); rintro e w4 ⟨rfl, rfl⟩)) | (go_at_call 120; ((with_reducible refine (i_push lo hi (.slice (some ⟨b, o, none⟩) q.n cap) q.x q.n q.j _ g 0 _ _ _ (O3.out.le (le_drewN _ _)) (R3.out.drewN _) rfl rfl d4 j1 n2 (fits_kept hf.out)).mono ?_); rintro e w5 ⟨o4, rfl, ho4, fo4, hR4, hO4, hU4⟩)))
    have HK : Hid (kept r = nextS q a) := HN.out _ _ _ HC2.out (Hid.out ‹Hid (can .f32 _ = fop .mul .f32 r2 q.l)›) hr.out
    generalize hkr : kept r = kr at *
    have R5 := hid hR4; have O5 := hid hO4; have U5 := hid hU4
    clear hR4 hO4 hU4
    have c5 : w5.cell? ⟨g, 5, none⟩ = some (.int .i64 (loudN q.x q.n : Nat)) := R5.out.cell? 5
    have f5 := R5.out.frozen 5
    have l1 : loudN q.x q.n ≤ 1024 := Nat.le_trans (loudN_le _ _) n2
    have l2 : loudB kr ≤ 1 := by unfold loudB; split <;> omega
    have l3 : loudB y ≤ 1 := by unfold loudB; split <;> omega
    refine wp_region_tail (loudK) 12 (by kernel_rfl) (by kernel_rfl) ?_; simp only [List.take_succ_cons, List.take_zero, List.drop_succ_cons, List.drop_zero]
    repeat (first | (refine wpLoose_quiet rfl ?_; go_big_quiet_step (fail); refine wpQuiet_nil ?_) | (refine wpLoose_nilP rfl rfl rfl ?_; simp only [Act.put, List.setIfInBounds_toArray, List.set_cons_succ, List.set_cons_zero]))
    refine wpLoose_any rfl (· = .int .i64 (loudB kr : Nat)) (fun m0 => ?_) ?_
    · go_simp
      exact ⟨loud_call, fun v hv => loudK_v hv⟩
    rintro v rfl
    simp only [Act.put, List.setIfInBounds_toArray, List.set_cons_succ, List.set_cons_zero]
    repeat (first | (refine wpLoose_quiet rfl ?_; go_big_quiet_step (fail); refine wpQuiet_nil ?_) | (refine wpLoose_nilP rfl rfl rfl ?_; simp only [Act.put, List.setIfInBounds_toArray, List.set_cons_succ, List.set_cons_zero]))
    refine wpLoose_any rfl (· = .int .i64 (loudB y : Nat)) (fun m0 => ?_) ?_
    · go_simp
      exact ⟨loud_call, fun v hv => loudK_v hv⟩
    rintro v rfl
    simp only [Act.put, List.setIfInBounds_toArray, List.set_cons_succ, List.set_cons_zero]
    repeat (first | (refine wpLoose_quiet rfl ?_; go_big_quiet_step (fail); refine wpQuiet_nil ?_) | (refine wpLoose_nilP rfl rfl rfl ?_; simp only [Act.put, List.setIfInBounds_toArray, List.set_cons_succ, List.set_cons_zero]))
    refine wpLoose_nil (fun m => ?_)
    go_wp2
    go_ret
    have e1 : loudB y = loudB (q.x q.j) := by rw [← loudB_can y, HCY.out, loudB_can]
    have e2 := loudN_push (x := q.x) (a := kr) j1
    have e3 : ((loudN (stepS q a).x q.n : Nat) : Int) = (loudN q.x q.n : Nat) + ((loudB kr : Nat) - (loudB y : Nat) : Int) := by
      show ((loudN (pushX q.x q.j (nextS q a)) q.n : Nat) : Int) = _
      rw [← HK.out, e1]; omega
    rw [HK.out] at O5
    have w5g := R5.out.lt
    refine ⟨y, rfl, HC.out, fy, ⟨(.slice (some ⟨b, o, none⟩) q.n cap), lo, hi, rt, rd, ?_, ?_, ?_, ?_, ⟨b1, b2, b3, b4, b5, b6, b7, b8⟩, d1, d2, d3, d4, d5, d6⟩, ?_⟩
    · rw [show (stepS q a).n = q.n from rfl, e3]
      have := (R5.out.drewN m).set 5 (.int .i64 ((loudN q.x q.n : Nat) + ((loudB kr : Nat) - (loudB y : Nat) : Int)))
      simpa [stepS] using this
    · exact OwnS.chgS O5.out (Chg.setCell (S := (· = g)) (Chg.of_le (le_drewN w5 m)) rfl _) (fun i h1 h2 h3 => d4 (by have h3' : i = g := h3; subst h3'; exact ⟨h1, h2⟩))
    · exact ((U5.out.row (T3.out.drewN _) (by rintro (h | h); exact d1 h.symm; exact d5 h)).drewN m).other ⟨g, 5, none⟩ _ (Ne.symm d1)
    · exact ((U5.out.row (D3.out.drewN _) (by rintro (h | h); exact d2 h.symm; exact d6 h)).drewN m).other ⟨g, 5, none⟩ _ (Ne.symm d2)
    · refine ((UU.out.le (le_drewN _ _)).mono (fun i hi' => ?_)).trans ((Chg.setCell ((U5.out.mono (fun i hi' => ?_)).le (le_drewN _ m)) ⟨b1, b2⟩ _))
      · rcases hi' with h | h
        · subst h; exact ⟨b3, b4⟩
        · subst h; exact ⟨b5, b6⟩
      · rcases hi' with h | h
        · subst h; exact ⟨b1, b2⟩
        · exact ⟨by omega, by omega⟩
set_option maxRecDepth 100000 in
set_option maxHeartbeats 4000000 in
theorem i_newLoop (B : Nat) (s : Value) (q : StS) (w : World) (hs : RdS w B s q.x q.n) (ok : q.Ok) :
    Calls Try.prog 87 #[.agg #[s, .int .i64 (q.j : Nat), .int .i64 3, .float .f32 (q.ta), .float .f32 (q.tb), .float .f32 (q.tc), .float .f32 (q.tx), .float .f32 (q.ty), .int .i64 2, .float .f32 (q.da), .float .f32 (q.db), .float .f32 (q.dc), .float .f32 (q.dx), .float .f32 (q.dy), .float .f32 (q.l)]] w fun e w' => ∃ g, e = .returned (.pointer (some ⟨g, 0, none⟩)) ∧ LpS w' w.heap.size w'.heap.size g q ∧ le w w' := by
  have HS := hid hs; clear hs
  have n1 := ok.n1
  have n2 := ok.n2
  have OK := hid ok; clear ok
  have G := (Frg.nil w).box 31 #[s, .int .i64 (q.j : Nat), .int .i64 3, .float .f32 (q.ta), .float .f32 (q.tb), .float .f32 (q.tc), .float .f32 (q.tx), .float .f32 (q.ty), .int .i64 2, .float .f32 (q.da), .float .f32 (q.db), .float .f32 (q.dc), .float .f32 (q.dx), .float .f32 (q.dy), .float .f32 (q.l)]
  have F0 := (Frm.nil w).box 31 #[s, .int .i64 (q.j : Nat), .int .i64 3, .float .f32 (q.ta), .float .f32 (q.tb), .float .f32 (q.tc), .float .f32 (q.tx), .float .f32 (q.ty), .int .i64 2, .float .f32 (q.da), .float .f32 (q.db), .float .f32 (q.dc), .float .f32 (q.dx), .float .f32 (q.dy), .float .f32 (q.l)]
  go_enter Try.func87, Try.ntmps87
  go_wp2_with fail
  obtain ⟨W, hW⟩ : ∃ W, W = w.alloc (.cells #[s, .int .i64 (q.j : Nat), .int .i64 3, .float .f32 (q.ta), .float .f32 (q.tb), .float .f32 (q.tc), .float .f32 (q.tx), .float .f32 (q.ty), .int .i64 2, .float .f32 (q.da), .float .f32 (q.db), .float .f32 (q.dc), .float .f32 (q.dx), .float .f32 (q.dy), .float .f32 (q.l)] 31) := ⟨_, rfl⟩
  rw [← hW] at G F0 ⊢
  clear hW
  have F := F0.drewN 1
  have G1 := G.drewN 1
  refine region_tail (fun f args w' v => if f = 110 then (∃ q0 cap cs, v = .agg #[.slice (some ⟨q0, 0, none⟩) q.n cap, .int .i64 (q.j : Nat)] ∧ w.heap.size ≤ q0 ∧ Row w' q0 22 cs ∧ OwnS w' q0 (q0 + 1) (.slice (some ⟨q0, 0, none⟩) q.n cap) q.x q.n) else (∀ k a b c x y, args = #[(.agg #[.int .i64 k, .float .f32 a, .float .f32 b, .float .f32 c, .float .f32 x, .float .f32 y])] → ∃ b0, v = .pointer (some ⟨b0, 0, none⟩) ∧ w.heap.size ≤ b0 ∧ Row w' b0 140 #[mdl k a b c, .float .f32 x, .float .f32 y])) 12 (by kernel_rfl) (by kernel_rfl) ?_
  simp only [List.take_succ_cons, List.take_zero, List.drop_succ_cons, List.drop_zero]
  refine wpFree_one rfl (.pointer (some ⟨w.heap.size, 0, none⟩)) (fun w1 _ => by kernel_rfl) ?_
  simp only [Act.put, List.setIfInBounds_toArray, List.set_cons_succ, List.set_cons_zero]
  refine wpFree_loadPart F (n := 0) rfl rfl rfl rfl List.mem_cons_self Try.underlying25 rfl [s, .int .i64 (q.j : Nat)] (qRing s q) infoRing ?_
  simp only [Act.put, List.setIfInBounds_toArray, List.set_cons_succ, List.set_cons_zero]
  refine wpFree_call rfl rfl Try.func110 (by kernel_rfl) (by kernel_rfl) (args := #[.agg #[s, .int .i64 (q.j : Nat)]]) (by simp [Act.eval]) (fun v w1 w2 hw hv => by simp only [if_true] at hv ⊢; obtain ⟨q0, cap, cs, e1, e2, e3, e4⟩ := hv; exact ⟨q0, cap, cs, e1, e2, e3.le hw, e4.le hw⟩) (fun w1 hw1 => (i_copiedT B s q.x q.n _ w1 (HS.out.le (le_trans G1.below hw1)) n1 n2).mono ?_) ?_
  · rintro e w2 ⟨q0, cap, cs, rfl, hq, hr, ho, hl⟩
    exact ⟨_, rfl, hl, by simp only [if_true]; exact ⟨q0, cap, cs, rfl, Nat.le_trans G1.below.size (Nat.le_trans hw1.size hq), hr, ho⟩⟩
  rintro v ⟨_, _, hv⟩
  simp only [if_true] at hv
  obtain ⟨q0, cap, cs, rfl, hq0, _⟩ := hv
  simp only [Act.put, List.setIfInBounds_toArray, List.set_cons_succ, List.set_cons_zero]
  refine wpFree_one rfl (.pointer (some ⟨w.heap.size, 2, none⟩)) (fun w1 _ => by kernel_rfl) ?_
  simp only [Act.put, List.setIfInBounds_toArray, List.set_cons_succ, List.set_cons_zero]
  refine wpFree_loadPart F (n := 0) rfl rfl rfl rfl List.mem_cons_self Try.underlying29 rfl [.int .i64 3, .float .f32 q.ta, .float .f32 q.tb, .float .f32 q.tc, .float .f32 q.tx, .float .f32 q.ty] (qTune s q) infoFil ?_
  simp only [Act.put, List.setIfInBounds_toArray, List.set_cons_succ, List.set_cons_zero]
  refine wpFree_call rfl rfl Try.func115 (by kernel_rfl) (by kernel_rfl) (args := #[(.agg #[.int .i64 3, .float .f32 q.ta, .float .f32 q.tb, .float .f32 q.tc, .float .f32 q.tx, .float .f32 q.ty])]) (by simp [Act.eval]) (fun v w1 w2 hw hv => by simp only [show ¬ (115 = 110) by decide, if_false] at hv ⊢; intro k a b c x y e; obtain ⟨b0, e1, e2, e3⟩ := hv k a b c x y e; exact ⟨b0, e1, e2, e3.le hw⟩) (fun w1 hw1 => (i_newRunner 3 q.ta q.tb q.tc q.tx q.ty w1 ⟨by decide, by decide⟩).mono ?_) ?_
  · rintro e w2 ⟨b0, rfl, hb, hr, hl⟩
    refine ⟨_, rfl, hl, ?_⟩
    simp only [show ¬ (115 = 110) by decide, if_false]
    intro k a b c x y e
    simp only [Array.mk.injEq, List.cons.injEq, Value.agg.injEq, Value.int.injEq, Value.float.injEq, true_and, and_true] at e
    obtain ⟨rfl, rfl, rfl, rfl, rfl, rfl⟩ := e
    exact ⟨b0, rfl, Nat.le_trans G1.below.size (Nat.le_trans hw1.size hb), hr⟩
  rintro v ⟨_, _, hv⟩
  simp only [show ¬ (115 = 110) by decide, if_false] at hv
  obtain ⟨rt, rfl, _⟩ := hv _ _ _ _ _ _ rfl
  simp only [Act.put, List.setIfInBounds_toArray, List.set_cons_succ, List.set_cons_zero]
  refine wpFree_one rfl (.pointer (some ⟨w.heap.size, 8, none⟩)) (fun w1 _ => by kernel_rfl) ?_
  simp only [Act.put, List.setIfInBounds_toArray, List.set_cons_succ, List.set_cons_zero]
  refine wpFree_loadPart F (n := 0) rfl rfl rfl rfl List.mem_cons_self Try.underlying29 rfl [.int .i64 2, .float .f32 q.da, .float .f32 q.db, .float .f32 q.dc, .float .f32 q.dx, .float .f32 q.dy] (qDamp s q) infoFil ?_
  simp only [Act.put, List.setIfInBounds_toArray, List.set_cons_succ, List.set_cons_zero]
  refine wpFree_call rfl rfl Try.func115 (by kernel_rfl) (by kernel_rfl) (args := #[(.agg #[.int .i64 2, .float .f32 q.da, .float .f32 q.db, .float .f32 q.dc, .float .f32 q.dx, .float .f32 q.dy])]) (by simp [Act.eval]) (fun v w1 w2 hw hv => by simp only [show ¬ (115 = 110) by decide, if_false] at hv ⊢; intro k a b c x y e; obtain ⟨b0, e1, e2, e3⟩ := hv k a b c x y e; exact ⟨b0, e1, e2, e3.le hw⟩) (fun w1 hw1 => (i_newRunner 2 q.da q.db q.dc q.dx q.dy w1 ⟨by decide, by decide⟩).mono ?_) ?_
  · rintro e w2 ⟨b0, rfl, hb, hr, hl⟩
    refine ⟨_, rfl, hl, ?_⟩
    simp only [show ¬ (115 = 110) by decide, if_false]
    intro k a b c x y e
    simp only [Array.mk.injEq, List.cons.injEq, Value.agg.injEq, Value.int.injEq, Value.float.injEq, true_and, and_true] at e
    obtain ⟨rfl, rfl, rfl, rfl, rfl, rfl⟩ := e
    exact ⟨b0, rfl, Nat.le_trans G1.below.size (Nat.le_trans hw1.size hb), hr⟩
  rintro v ⟨_, _, hv⟩
  simp only [show ¬ (115 = 110) by decide, if_false] at hv
  obtain ⟨rd, rfl, _⟩ := hv _ _ _ _ _ _ rfl
  simp only [Act.put, List.setIfInBounds_toArray, List.set_cons_succ, List.set_cons_zero]
  refine wpFree_one rfl (.pointer (some ⟨w.heap.size, 14, none⟩)) (fun w1 _ => by kernel_rfl) ?_
  simp only [Act.put, List.setIfInBounds_toArray, List.set_cons_succ, List.set_cons_zero]
  refine wpFree_loadF F (n := 0) rfl rfl rfl rfl List.mem_cons_self rfl Try.underlying22 ?_
  simp only [Act.put, List.setIfInBounds_toArray, List.set_cons_succ, List.set_cons_zero]
  refine wpFree_one rfl (.agg #[.slice (some ⟨q0, 0, none⟩) q.n cap, .int .i64 (q.j : Nat), .pointer (some ⟨rt, 0, none⟩), .pointer (some ⟨rd, 0, none⟩), .float .f32 q.l, .int .i64 0]) (fun w1 _ => by kernel_rfl) ?_
  simp only [Act.put, List.setIfInBounds_toArray, List.set_cons_succ, List.set_cons_zero]
  refine wpFree_nil (fun w3 hw3 hF => ?_)
  obtain ⟨⟨⟨_, K1⟩, K2⟩, K3⟩ := hF
  simp only [if_true] at K1
  simp only [show ¬ (115 = 110) by decide, if_false] at K2 K3
  obtain ⟨q1, cap1, cs1, e1, _, hr1, ho1⟩ := K1
  simp only [Value.agg.injEq, Array.mk.injEq, List.cons.injEq, Value.slice.injEq, Option.some.injEq, Addr.mk.injEq, and_true, true_and] at e1
  obtain ⟨rfl, rfl⟩ := e1
  obtain ⟨rt1, e2, hrt, hT⟩ := K2 _ _ _ _ _ _ rfl
  obtain rfl : rt = rt1 := by simpa using e2
  obtain ⟨rd1, e3, hrd, hD⟩ := K3 _ _ _ _ _ _ rfl
  obtain rfl : rd = rd1 := by simpa using e3
  have hle := hid (le_trans G1.below hw3)
  have ne1 : q0 ≠ rt := by intro e; subst e; unfold Row at hr1 hT; rw [hr1] at hT; simp at hT
  have ne2 : q0 ≠ rd := by intro e; subst e; unfold Row at hr1 hD; rw [hr1] at hD; simp at hD
  have ne3 : rt ≠ rd := by intro e; subst e; rw [mdl3] at hT; rw [mdl2] at hD; unfold Row at hT hD; rw [hT] at hD; simp at hD
  have x1 := hr1.lt; have x2 := hT.lt; have x3 := hD.lt
  have HO := hid ho1; have HT := hid hT; have HD := hid hD
  clear ho1 hT hD hr1 G G1 F F0 hw3 K2 K3
  go_wp2
  go_loopw [25] (fun i wr => ∃ k : Nat, k ≤ q.n ∧ i = .int .i64 k ∧ Hid (Row wr w3.heap.size 136 #[.slice (some ⟨q0, 0, none⟩) q.n cap, .int .i64 (q.j : Nat), .pointer (some ⟨rt, 0, none⟩), .pointer (some ⟨rd, 0, none⟩), .float .f32 q.l, .int .i64 (loudN q.x k : Nat)]) ∧ Hid (Chg (· = w3.heap.size) (w3.alloc (.cells #[.slice (some ⟨q0, 0, none⟩) q.n cap, .int .i64 (q.j : Nat), .pointer (some ⟨rt, 0, none⟩), .pointer (some ⟨rd, 0, none⟩), .float .f32 q.l, .int .i64 0] 136)) wr)) (fun i _ => q.n - (intOf i).toNat)
  case atStart => exact ⟨0, by omega, rfl, Row.new _ _ _, Chg.refl _ _⟩
  case round =>
    obtain ⟨k, hk, rfl, RK, UK⟩ := hrel
    by_cases hlt : k < q.n
    · rename_i wr _
      obtain ⟨y, cy, fy, ey⟩ := (OwnS.chgS (HO.out.le (le_alloc w3 _)) UK.out (fun i h1 h2 h3 => by have h3' : i = w3.heap.size := h3; omega)).get hlt
      have HEY := hid ey
      clear ey
      have c5 : wr.cell? ⟨w3.heap.size, 5, none⟩ = some (.int .i64 (loudN q.x k : Nat)) := RK.out.cell? 5
      have f5 := RK.out.frozen 5
      have l1 : loudN q.x k ≤ 1024 := Nat.le_trans (loudN_le _ _) (by omega)
      have l2 : loudB y ≤ 1 := by unfold loudB; split <;> omega
      go_wp2_with fail
      refine wp_region_tail (loudK) 9 (by kernel_rfl) (by kernel_rfl) ?_; simp only [List.take_succ_cons, List.take_zero, List.drop_succ_cons, List.drop_zero]
      repeat (first | (refine wpLoose_quiet rfl ?_; go_big_quiet_step (fail); refine wpQuiet_nil ?_) | (refine wpLoose_nilP rfl rfl rfl ?_; simp only [Act.put, List.setIfInBounds_toArray, List.set_cons_succ, List.set_cons_zero]))
      refine wpLoose_any rfl (· = .int .i64 (loudB y : Nat)) (fun m0 => ?_) ?_
      · go_simp
        exact ⟨loud_call, fun v hv => loudK_v hv⟩
      rintro v rfl
      simp only [Act.put, List.setIfInBounds_toArray, List.set_cons_succ, List.set_cons_zero]
      repeat (first | (refine wpLoose_quiet rfl ?_; go_big_quiet_step (fail); refine wpQuiet_nil ?_) | (refine wpLoose_nilP rfl rfl rfl ?_; simp only [Act.put, List.setIfInBounds_toArray, List.set_cons_succ, List.set_cons_zero]))
      refine wpLoose_nil (fun m => ?_)
      go_wp2
      go_roundw
      case rel =>
        have e3 : ((loudN q.x (k + 1) : Nat) : Int) = (loudN q.x k : Nat) + (loudB y : Nat) := by
          have : loudB (q.x k) = loudB y := by rw [← HEY.out, loudB_can]
          simp only [loudN]; omega
        refine ⟨k + 1, by omega, by go_num, ?_, ?_⟩
        · have := (RK.out.drewN m).set 5 (.int .i64 ((loudN q.x k : Nat) + (loudB y : Nat) : Int))
          show Row _ _ _ _
          rw [e3]
          simpa using this
        · exact Chg.setCell (UK.out.le (le_drewN _ m)) rfl _
      case measure => simp [intOf]; omega
    · obtain rfl : k = q.n := by omega
      go_wp2
      go_ret
      have hl4 := le_trans hle.out (le_alloc w3 (.cells #[.slice (some ⟨q0, 0, none⟩) q.n cap, .int .i64 (q.j : Nat), .pointer (some ⟨rt, 0, none⟩), .pointer (some ⟨rd, 0, none⟩), .float .f32 q.l, .int .i64 0] 136))
      have hg : w.heap.size ≤ w3.heap.size := hle.out.size
      have hsz := UK.out.size
      simp only [World.size_alloc] at hsz
      refine ⟨w3.heap.size, rfl, ⟨(.slice (some ⟨q0, 0, none⟩) q.n cap), q0, q0 + 1, rt, rd, RK.out, ?_, ?_, ?_, ⟨hg, by omega, hrt, by omega, hrd, by omega, hq0, by omega⟩, by omega, by omega, ne3, by omega, by omega, by omega⟩, ?_⟩
      · exact OwnS.chgS (HO.out.le (le_alloc w3 _)) UK.out (fun i h1 h2 h3 => by have h3' : i = w3.heap.size := h3; omega)
      · exact UK.out.row (HT.out.le (le_alloc w3 _)) (by intro h; have h' : rt = w3.heap.size := h; omega)
      · exact UK.out.row (HD.out.le (le_alloc w3 _)) (by intro h; have h' : rd = w3.heap.size := h; omega)
      · exact Below.trans hl4 (UK.out.below (fun i h => by have h' : i = w3.heap.size := h; omega) (by rw [World.size_alloc]; omega))
theorem rPart (v0 v1 v2 : Value) : ∀ j, j < [v1, v2].length → (#[v0, v1, v2] : Array Value)[1 + j]? = [v1, v2][j]? := part12
set_option maxRecDepth 100000 in
set_option maxHeartbeats 2000000 in
theorem i_behind (B C g : Nat) (q : StS) (s0 : Value) (j0 : Int) (tx0 ty0 dx0 dy0 : Nat) (w : World) (h : LpS w B C g q) :
    Calls Try.prog 89 #[.pointer (some ⟨g, 0, none⟩), .agg #[s0, .int .i64 j0, .int .i64 3, .float .f32 q.ta, .float .f32 q.tb, .float .f32 q.tc, .float .f32 (tx0), .float .f32 (ty0), .int .i64 2, .float .f32 q.da, .float .f32 q.db, .float .f32 q.dc, .float .f32 (dx0), .float .f32 (dy0), .float .f32 q.l]] w fun e w' => ∃ s lo hi, e = .returned (.agg #[s, .int .i64 (q.j : Nat), .int .i64 3, .float .f32 (q.ta), .float .f32 (q.tb), .float .f32 (q.tc), .float .f32 (q.tx), .float .f32 (q.ty), .int .i64 2, .float .f32 (q.da), .float .f32 (q.db), .float .f32 (q.dc), .float .f32 (q.dx), .float .f32 (q.dy), .float .f32 (q.l)]) ∧ OwnS w' lo hi s q.x q.n ∧ B ≤ lo ∧ hi ≤ C ∧ le w w' := by
  obtain ⟨s, lo, hi, rt, rd, R, O, RT, RD, ⟨b1, b2, b3, b4, b5, b6, b7, b8⟩, d1, d2, d3, d4, d5, d6⟩ := h
  have OC := hid (OwnS.one O)
  have HR := hid R; have HRT := hid RT; have HRD := hid RD; have HO := hid O
  clear R RT RD O
  have F := ((Frg.nil w).box 31 #[s0, .int .i64 j0, .int .i64 3, .float .f32 q.ta, .float .f32 q.tb, .float .f32 q.tc, .float .f32 (tx0), .float .f32 (ty0), .int .i64 2, .float .f32 q.da, .float .f32 q.db, .float .f32 q.dc, .float .f32 (dx0), .float .f32 (dy0), .float .f32 q.l]).box 31 #[.slice none 0 0, .int .i64 0, .int .i64 0, .float .f32 0, .float .f32 0, .float .f32 0, .float .f32 (0), .float .f32 (0), .int .i64 0, .float .f32 0, .float .f32 0, .float .f32 0, .float .f32 (0), .float .f32 (0), .float .f32 0]
  simp only [World.size_alloc] at F
  go_enter Try.func89, Try.ntmps89
  go_wp2_with (first | ((with_reducible refine at_loadU rfl rfl ?_); (with_reducible refine wpList_loadPR (HR.out.le F.below) rfl rfl rfl Try.underlying25 rfl [s, .int .i64 (q.j : Nat)] (lpPart _ q rt rd) infoRing rfl ?_)) | ((with_reducible refine stop_store rfl ?_)))
  show wpList _ _ _ _ _ _
  refine wpList_storeP rfl rfl rfl (f := 0) (cells := [s, .int .i64 (q.j : Nat)]) rfl (F.row m1) infoRing (by simp) (one_head OC.out rfl) (fun w2 K => ?_)
  replace F := F.wr1 (cs' := #[s, .int .i64 (q.j : Nat), .int .i64 3, .float .f32 q.ta, .float .f32 q.tb, .float .f32 q.tc, .float .f32 (tx0), .float .f32 (ty0), .int .i64 2, .float .f32 q.da, .float .f32 q.db, .float .f32 q.dc, .float .f32 (dx0), .float .f32 (dy0), .float .f32 q.l]) K
  clear K
  have c2 := (HR.out.le F.below).cell? 2
  go_wp2_with (first | ((with_reducible refine at_loadU rfl rfl ?_); (with_reducible refine wpList_loadPR (HRT.out.le F.below) rfl rfl rfl Try.underlying27 rfl [.float .f32 q.tx, .float .f32 q.ty] (rPart _ _ _) info2 rfl ?_)) | ((with_reducible refine stop_store rfl ?_)))
  show wpList _ _ _ _ _ _
  refine wpList_storeP rfl rfl rfl (f := 6) (cells := [.float .f32 q.tx, .float .f32 q.ty]) rfl (F.row m1) info2 (by simp) (by simp [Value.oneCell']) (fun w3 K => ?_)
  replace F := F.wr1 (cs' := #[s, .int .i64 (q.j : Nat), .int .i64 3, .float .f32 q.ta, .float .f32 q.tb, .float .f32 q.tc, .float .f32 (q.tx), .float .f32 (q.ty), .int .i64 2, .float .f32 q.da, .float .f32 q.db, .float .f32 q.dc, .float .f32 (dx0), .float .f32 (dy0), .float .f32 q.l]) K
  clear K c2
  have c3 := (HR.out.le F.below).cell? 3
  go_wp2_with (first | ((with_reducible refine at_loadU rfl rfl ?_); (with_reducible refine wpList_loadPR (HRD.out.le F.below) rfl rfl rfl Try.underlying27 rfl [.float .f32 q.dx, .float .f32 q.dy] (rPart _ _ _) info2 rfl ?_)) | ((with_reducible refine stop_store rfl ?_)))
  show wpList _ _ _ _ _ _
  refine wpList_storeP rfl rfl rfl (f := 12) (cells := [.float .f32 q.dx, .float .f32 q.dy]) rfl (F.row m1) info2 (by simp) (by simp [Value.oneCell']) (fun w4 K => ?_)
  replace F := F.wr1 (cs' := #[s, .int .i64 (q.j : Nat), .int .i64 3, .float .f32 (q.ta), .float .f32 (q.tb), .float .f32 (q.tc), .float .f32 (q.tx), .float .f32 (q.ty), .int .i64 2, .float .f32 (q.da), .float .f32 (q.db), .float .f32 (q.dc), .float .f32 (q.dx), .float .f32 (q.dy), .float .f32 (q.l)]) K
  clear K c3
  go_wp2_with (first | ((with_reducible refine at_loadU rfl rfl ?_); (with_reducible refine wpList_loadG F rfl rfl rfl m1 Try.underlying31 rfl infoStr rfl ?_)) | ((with_reducible refine stop_store rfl ?_)))
  show wpList _ _ _ _ _ _
  refine wpList_storeD rfl rfl rfl (cells := #[s, .int .i64 (q.j : Nat), .int .i64 3, .float .f32 (q.ta), .float .f32 (q.tb), .float .f32 (q.tc), .float .f32 (q.tx), .float .f32 (q.ty), .int .i64 2, .float .f32 (q.da), .float .f32 (q.db), .float .f32 (q.dc), .float .f32 (q.dx), .float .f32 (q.dy), .float .f32 (q.l)]) rfl (F.row m0) infoStr rfl (one_head OC.out rfl) (fun w5 K => ?_)
  have RW := hid K.row
  have L := hid (F.wr0 K).below
  clear K F
  go_wp2
  exact bodyPost_ret (results_row1 rfl _ _ _ _ _ rfl RW.out Try.underlying31 rfl infoStr) rfl ⟨s, lo, hi, rfl, HO.out.le L.out, b7, b8, L.out⟩
set_option maxRecDepth 100000 in
set_option maxHeartbeats 2000000 in
theorem i_loopStill (B C g : Nat) (q : StS) (w : World) (h : LpS w B C g q) :
    Calls Try.prog 92 #[.pointer (some ⟨g, 0, none⟩)] w fun e w' => e = .returned (.bool (silS q)) ∧ w = w' := by
  obtain ⟨s, lo, hi, rt, rd, R, O, RT, RD, _, _⟩ := h
  have HT := hid (i_isStill _ _ _ _ _ RT)
  have HD := hid (i_isStill _ _ _ _ _ RD)
  have c5 := R.cell? 5
  have c2 := R.cell? 2
  have c3 := R.cell? 3
  clear R O RT RD
  have hs : silS q = (decide (loudN q.x q.n = 0) && (stillB q.tx q.ty && stillB q.dx q.dy)) := rfl
  rw [hs]
  by_cases h0 : loudN q.x q.n = 0
  · have h0' : ((loudN q.x q.n : Nat) : Int) = 0 := by omega
    cases h1 : stillB q.tx q.ty
    · rw [h1] at HT
      clear h1 HD hs
      go_enter Try.func92, Try.ntmps92
      go_wp2_with (first | (go_at_call 122; ((with_reducible refine (HT.out).mono ?_); rintro e w' ⟨rfl, rfl⟩)))
      go_ret
      exact ⟨ret_b (by simp), rfl⟩
    · rw [h1] at HT
      clear h1 hs
      go_enter Try.func92, Try.ntmps92
      go_wp2_with (first | (go_at_call 122; ((with_reducible refine (HT.out).mono ?_); rintro e w' ⟨rfl, rfl⟩)) | (go_at_call 122; ((with_reducible refine (HD.out).mono ?_); rintro e w' ⟨rfl, rfl⟩)))
      go_ret
      exact ⟨ret_b (by simp [h0]), rfl⟩
  · have h0' : ¬ ((loudN q.x q.n : Nat) : Int) = 0 := by omega
    clear hs HT HD
    go_enter Try.func92, Try.ntmps92
    go_wp2
    go_ret
    exact ⟨ret_b (by simp [h0]), rfl⟩
end Go.Proofs.Ytaenbpkcehenkac

/- 'StepString' of both, and what such functions share. -/
namespace Go.Fk
open Go Go.RowKit
theorem okStr_q {x : Nat → Nat} {n : Nat} {k tk : Int} {ta tb tc tx ty : Nat} {dk : Int} {da db dc dx dy l : Nat} (h : okStr n k tk ta tb tc tx ty dk da db dc dx dy l = true) (hf : fits .f32 ta ∧ fits .f32 tb ∧ fits .f32 tc ∧ fits .f32 tx ∧ fits .f32 ty) (hg : fits .f32 da ∧ fits .f32 db ∧ fits .f32 dc ∧ fits .f32 dx ∧ fits .f32 dy) (hl : fits .f32 l) :
    ∃ j : Nat, k = j ∧ tk = 3 ∧ dk = 2 ∧ (⟨x, n, j, ta, tb, tc, tx, ty, da, db, dc, dx, dy, l⟩ : StS).Ok := by
  unfold okStr at h
  simp only [Bool.and_eq_true, decide_eq_true_eq] at h
  obtain ⟨h1, h2, rfl, h4, rfl, h6⟩ := h
  obtain ⟨e1, e2, j, rfl, ej⟩ := okRing_j h1
  obtain ⟨f1, f2, f3, f4, f5⟩ := hf
  obtain ⟨g1, g2, g3, g4, g5⟩ := hg
  exact ⟨j, rfl, rfl, rfl, ⟨e1, e2, ej, h2, h4, h6, f1, f2, f3, f4, f5, g1, g2, g3, g4, g5, hl⟩⟩
end Go.Fk
namespace Go.Proofs.Ytaenbpkcehenkac
open Go.RowKit Go.Fk
theorem SpS.ok {w w' : World} {B C g : Nat} {q : StS} (h : SpS w B C g q) (hk : ∀ k, B ≤ k → k < C → w'.heap[k]? = w.heap[k]?) : SpS w' B C g q := by
  obtain ⟨s, lo, hi, R, O, g1, g2, g3, g4, g5⟩ := h
  exact ⟨s, lo, hi, (rowF g _ _).ok w w' R (fun k a b => hk k (Nat.le_trans g1 a) (by have b' : k < g + 1 := b; omega)), (ownF lo hi s q.x q.n).ok w w' O (fun k a b => hk k (Nat.le_trans g3 a) (Nat.lt_of_lt_of_le b g4)), g1, g2, g3, g4, g5⟩
/-- A string of the model in memory. -/
def spF (B C g : Nat) (q : StS) : Fact := ⟨B, C, fun w => SpS w B C g q, fun _ _ h hk => SpS.ok h hk⟩
theorem toSp {w0 w : World} {g lo hi : Nat} {s : Value} {q : StS} {l : List Fact} (h : Frg w0 w (rowF g 31 #[s, .int .i64 (q.j : Nat), .int .i64 3, .float .f32 (q.ta), .float .f32 (q.tb), .float .f32 (q.tc), .float .f32 (q.tx), .float .f32 (q.ty), .int .i64 2, .float .f32 (q.da), .float .f32 (q.db), .float .f32 (q.dc), .float .f32 (q.dx), .float .f32 (q.dy), .float .f32 (q.l)] :: ownF lo hi s q.x q.n :: l)) (hn : 1 ≤ q.n) : Frg w0 w (spF lo (g + 1) g q :: l) := by
  have f1 := h.facts (rowF g 31 #[s, .int .i64 (q.j : Nat), .int .i64 3, .float .f32 (q.ta), .float .f32 (q.tb), .float .f32 (q.tc), .float .f32 (q.tx), .float .f32 (q.ty), .int .i64 2, .float .f32 (q.da), .float .f32 (q.db), .float .f32 (q.dc), .float .f32 (q.dx), .float .f32 (q.dy), .float .f32 (q.l)]) (by simp)
  have f2 := h.facts (ownF lo hi s q.x q.n) (by simp)
  have a1 := List.pairwise_cons.1 h.apart
  have a2 := List.pairwise_cons.1 a1.2
  have b12 : hi ≤ g := a1.1 (ownF lo hi s q.x q.n) (by simp)
  have hlo : lo < hi := by
    rcases f2.2.2 with ⟨_, h0⟩ | ⟨b, o, cap, t, cs, _, _, _, h4, h5, _⟩
    · omega
    · omega
  refine ⟨h.below, fun e he => ?_, List.pairwise_cons.2 ⟨fun e he => a2.1 e he, a2.2⟩⟩
  rcases List.mem_cons.1 he with rfl | he
  · exact ⟨f2.1, f1.2.1, ⟨s, lo, hi, f1.2.2, f2.2.2, by omega, by omega, Nat.le_refl _, by omega, by omega⟩⟩
  · exact h.facts e (by simp [he])
theorem LpS.ok {w w' : World} {B C g : Nat} {q : StS} (h : LpS w B C g q) (hk : ∀ k, B ≤ k → k < C → w'.heap[k]? = w.heap[k]?) : LpS w' B C g q := by
  obtain ⟨s, lo, hi, rt, rd, R, O, RT, RD, ⟨b1, b2, b3, b4, b5, b6, b7, b8⟩, d⟩ := h
  exact ⟨s, lo, hi, rt, rd, (rowF g _ _).ok w w' R (fun k a b => hk k (Nat.le_trans b1 a) (by have b' : k < g + 1 := b; omega)), (ownF lo hi s q.x q.n).ok w w' O (fun k a b => hk k (Nat.le_trans b7 a) (Nat.lt_of_lt_of_le b b8)), (rowF rt _ _).ok w w' RT (fun k a b => hk k (Nat.le_trans b3 a) (by have b' : k < rt + 1 := b; omega)), (rowF rd _ _).ok w w' RD (fun k a b => hk k (Nat.le_trans b5 a) (by have b' : k < rd + 1 := b; omega)), ⟨b1, b2, b3, b4, b5, b6, b7, b8⟩, d⟩
/-- A loop in memory. -/
def lpF (B C g : Nat) (q : StS) : Fact := ⟨B, C, fun w => LpS w B C g q, fun _ _ h hk => LpS.ok h hk⟩
theorem Frg.sp {w0 w : World} {L : List Fact} {B C g : Nat} {q : StS} (h : Frg w0 w L) (hm : spF B C g q ∈ L) : SpS w B C g q := (h.facts _ hm).2.2
theorem Frg.lp {w0 w : World} {L : List Fact} {B C g : Nat} {q : StS} (h : Frg w0 w L) (hm : lpF B C g q ∈ L) : LpS w B C g q := (h.facts _ hm).2.2
set_option maxRecDepth 100000 in
set_option maxHeartbeats 2000000 in
theorem s_StepString_no (B : Nat) (s : Value) (x : Nat → Nat) (n : Nat) (k tk : Int) (ta tb tc tx ty : Nat) (dk : Int) (da db dc dx dy l : Nat) (a : Nat) (w : World) (hs : RdS w B s x n) (hk : (Lit.int .i64 k).wf = true) (hv : okStr n k tk ta tb tc tx ty dk da db dc dx dy l = false) :
    Calls Try.prog 35 #[.agg #[s, .int .i64 k, .int .i64 tk, .float .f32 ta, .float .f32 tb, .float .f32 tc, .float .f32 tx, .float .f32 ty, .int .i64 dk, .float .f32 da, .float .f32 db, .float .f32 dc, .float .f32 dx, .float .f32 dy, .float .f32 l], .float .f32 a] w (Out_sfi (fun _ => 0) 0 0 0 0 0 0 0 0 0 0 0 0 0 0 0 0 1 w) := by
  have HV := hid (fun (w' : World) (g : Nat) (hl : le w w') (R : Row w' g 31 #[s, .int .i64 k, .int .i64 tk, .float .f32 ta, .float .f32 tb, .float .f32 tc, .float .f32 tx, .float .f32 ty, .int .i64 dk, .float .f32 da, .float .f32 db, .float .f32 dc, .float .f32 dx, .float .f32 dy, .float .f32 l]) => hv ▸ s_l03Ok B s x n k tk ta tb tc tx ty dk da db dc dx dy l g w' (hs.le hl) R hk)
  clear hs hk hv
  have F := ((Frg.nil w).box 31 #[s, .int .i64 k, .int .i64 tk, .float .f32 ta, .float .f32 tb, .float .f32 tc, .float .f32 tx, .float .f32 ty, .int .i64 dk, .float .f32 da, .float .f32 db, .float .f32 dc, .float .f32 dx, .float .f32 dy, .float .f32 l]).box 31 #[.slice none 0 0, .int .i64 0, .int .i64 0, .float .f32 0, .float .f32 0, .float .f32 0, .float .f32 0, .float .f32 0, .int .i64 0, .float .f32 0, .float .f32 0, .float .f32 0, .float .f32 0, .float .f32 0, .float .f32 0]
  simp only [World.size_alloc] at F
  go_enter Try.func35, Try.ntmps35
  go_wp2_with (first | (go_at_call 63; ((with_reducible refine (HV.out _ _ F.below (F.row m1)).mono ?_); rintro e w1 ⟨rfl, m, rfl⟩; replace F := F.drewN m)) | ((with_reducible refine stop_store rfl ?_)))
  show wpList _ _ _ _ _ _
  refine wpList_storeD rfl rfl rfl (cells := #[.slice none 0 0, .int .i64 0, .int .i64 0, .float .f32 0, .float .f32 0, .float .f32 0, .float .f32 0, .float .f32 0, .int .i64 0, .float .f32 0, .float .f32 0, .float .f32 0, .float .f32 0, .float .f32 0, .float .f32 0]) rfl (F.row m0) infoStr rfl (by simp [Value.oneCell']) (fun w4 K => ?_)
  have R := hid K.row
  have L := hid (F.wr0 K).below
  clear K F
  go_wp2
  exact bodyPost_ret (results_row3 rfl _ _ _ _ _ rfl R.out Try.underlying31 rfl infoStr) rfl ⟨_, _, rfl, .inl ⟨rfl, rfl⟩, by decide, L.out⟩
set_option maxRecDepth 100000 in
set_option maxHeartbeats 4000000 in
theorem s_StepString_yes (B : Nat) (s : Value) (q : StS) (a : Nat) (w : World) (hs : RdS w B s q.x q.n) (ok : q.Ok) (hk : (Lit.int .i64 (q.j : Nat)).wf = true) (hv : okStr q.n (q.j : Nat) 3 q.ta q.tb q.tc q.tx q.ty 2 q.da q.db q.dc q.dx q.dy q.l = true) (ha : fits .f32 a) :
    Calls Try.prog 35 #[.agg #[s, .int .i64 (q.j : Nat), .int .i64 3, .float .f32 (q.ta), .float .f32 (q.tb), .float .f32 (q.tc), .float .f32 (q.tx), .float .f32 (q.ty), .int .i64 2, .float .f32 (q.da), .float .f32 (q.db), .float .f32 (q.dc), .float .f32 (q.dx), .float .f32 (q.dy), .float .f32 (q.l)], .float .f32 a] w (Out_sfi (stepS q a).x (stepS q a).n ((stepS q a).j : Nat) 3 ((stepS q a).ta) ((stepS q a).tb) ((stepS q a).tc) ((stepS q a).tx) ((stepS q a).ty) 2 ((stepS q a).da) ((stepS q a).db) ((stepS q a).dc) ((stepS q a).dx) ((stepS q a).dy) (stepS q a).l (q.x q.j) 0 w) := by
  have HV := hid (fun (w' : World) (g : Nat) (hl : le w w') (R : Row w' g 31 #[s, .int .i64 (q.j : Nat), .int .i64 3, .float .f32 (q.ta), .float .f32 (q.tb), .float .f32 (q.tc), .float .f32 (q.tx), .float .f32 (q.ty), .int .i64 2, .float .f32 (q.da), .float .f32 (q.db), .float .f32 (q.dc), .float .f32 (q.dx), .float .f32 (q.dy), .float .f32 (q.l)]) => hv ▸ s_l03Ok B s q.x q.n (q.j : Nat) 3 q.ta q.tb q.tc q.tx q.ty 2 q.da q.db q.dc q.dx q.dy q.l g w' (hs.le hl) R hk)
  have HCP := hid (fun (w' : World) (g : Nat) (hl : le w w') (R : Row w' g 31 #[s, .int .i64 (q.j : Nat), .int .i64 3, .float .f32 (q.ta), .float .f32 (q.tb), .float .f32 (q.tc), .float .f32 (q.tx), .float .f32 (q.ty), .int .i64 2, .float .f32 (q.da), .float .f32 (q.db), .float .f32 (q.dc), .float .f32 (q.dx), .float .f32 (q.dy), .float .f32 (q.l)]) => s_l03Copy B s q.x q.n (q.j : Nat) 3 q.ta q.tb q.tc q.tx q.ty 2 q.da q.db q.dc q.dx q.dy q.l g w' (hs.le hl) R ok.n1 ok.n2)
  have OK := hid ok
  have n1 := ok.n1
  clear hs hk hv ok
  have F := ((Frg.nil w).box 31 #[s, .int .i64 (q.j : Nat), .int .i64 3, .float .f32 (q.ta), .float .f32 (q.tb), .float .f32 (q.tc), .float .f32 (q.tx), .float .f32 (q.ty), .int .i64 2, .float .f32 (q.da), .float .f32 (q.db), .float .f32 (q.dc), .float .f32 (q.dx), .float .f32 (q.dy), .float .f32 (q.l)]).box 31 #[.slice none 0 0, .int .i64 0, .int .i64 0, .float .f32 0, .float .f32 0, .float .f32 0, .float .f32 0, .float .f32 0, .int .i64 0, .float .f32 0, .float .f32 0, .float .f32 0, .float .f32 0, .float .f32 0, .float .f32 0]
  simp only [World.size_alloc] at F
  go_enter Try.func35, Try.ntmps35
  go_wp2_with (first | (go_at_call 63; ((with_reducible refine (HV.out _ _ F.below (F.row m1)).mono ?_); rintro e w1 ⟨rfl, m, rfl⟩; replace F := F.drewN m)) | (go_at_call 76; ((with_reducible refine (HCP.out _ _ F.below (F.row m1)).mono ?_); rintro e w2 ⟨s', rfl, ho, hl⟩; have OC := hid (OwnS.one ho); replace F := F.own1 hl ho; clear ho hl)) | (refine wpList_storeG F rfl rfl rfl rfl rfl infoStr rfl (one_head OC.out rfl) ?_; clear F; intro W3 F zW; clear zW; replace F := toSp F n1) | (go_at_call 86; ((with_reducible refine (s_l03Step _ _ _ q a _ (Frg.sp F m0) OK.out ha).mono ?_); rintro e w4 ⟨o4, rfl, ho4, fo4, hsp, hch⟩; replace F := F.chg [] (e' := spF _ _ _ (stepS q a)) hch hsp rfl rfl; have HO4 := hid ho4; obtain ⟨s5, lo5, hi5, R5, O5, b1, b2, b3, b4, b5⟩ := hsp; have R5 := hid R5; have O5 := hid O5; have OC5 := hid (OwnS.one O5.out); clear hch ho4)) | ((with_reducible refine at_loadU rfl rfl ?_); (with_reducible refine wpList_loadDR R5.out rfl rfl rfl Try.underlying31 rfl infoStr rfl ?_)) | ((with_reducible refine stop_store (ty := 31) rfl ?_)))
  show wpList _ _ _ _ _ _
  refine wpList_storeD rfl rfl rfl (cells := #[s5, .int .i64 ((stepS q a).j : Nat), .int .i64 3, .float .f32 ((stepS q a).ta), .float .f32 ((stepS q a).tb), .float .f32 ((stepS q a).tc), .float .f32 ((stepS q a).tx), .float .f32 ((stepS q a).ty), .int .i64 2, .float .f32 ((stepS q a).da), .float .f32 ((stepS q a).db), .float .f32 ((stepS q a).dc), .float .f32 ((stepS q a).dx), .float .f32 ((stepS q a).dy), .float .f32 ((stepS q a).l)]) rfl (F.row m1) infoStr rfl (one_head OC5.out rfl) (fun w6 K => ?_)
  have RW := hid K.row
  have f1 := F.facts (spF _ _ _ (stepS q a)) m0
  have f2 := F.facts (rowF (w.heap.size + 1) 31 #[.slice none 0 0, .int .i64 0, .int .i64 0, .float .f32 0, .float .f32 0, .float .f32 0, .float .f32 0, .float .f32 0, .int .i64 0, .float .f32 0, .float .f32 0, .float .f32 0, .float .f32 0, .float .f32 0, .float .f32 0]) m1
  have a1 := (List.pairwise_cons.1 F.apart).1 _ m0
  simp only [rowF, spF] at a1
  have hc : Chg (· = w.heap.size + 1) _ w6 := (Chg.refl _ _).wrote K rfl
  have L := hid (F.wr1 K).below
  have f1' := hid f1.2.1
  have O6 := hid ((OwnS.chgS O5.out hc (fun i h1 h2 h3 => by have h3' : i = w.heap.size + 1 := h3; omega)).mono (lo' := w.heap.size) (hi' := w6.heap.size) (by omega) (Nat.le_trans b4 (Nat.le_trans f1'.out hc.size)))
  clear f1 f2 hc K F
  go_wp2
  exact bodyPost_ret (results_row3 rfl _ _ _ _ _ rfl RW.out Try.underlying31 rfl infoStr) rfl ⟨_, _, rfl, O6.out, HO4.out, L.out⟩
end Go.Proofs.Ytaenbpkcehenkac

/- Strings that go on, plainly. Nothing here names a program. -/
namespace Go.Fk
open Go Go.RowKit
/-- The string behind some steps, in which these samples come. -/
def goS (q : StS) (f : Nat → Nat) : Nat → StS
  | 0 => q
  | k + 1 => stepS (goS q f k) (f k)
/-- What the step with an index makes. -/
def outS (q : StS) (f : Nat → Nat) (k : Nat) : Nat := (goS q f k).x (goS q f k).j
/-- It is valid, and its samples fit. -/
structure StS.Fit (q : StS) : Prop where
  ok : q.Ok
  x : ∀ i, i < q.n → fits .f32 (q.x i)
theorem StS.Fit.j {q : StS} (h : q.Fit) : fits .f32 (q.x q.j) := h.x _ h.ok.j1
theorem StS.Fit.step {q : StS} (h : q.Fit) {a : Nat} : (stepS q a).Fit where
  ok := h.ok.step a h.j
  x := fun i hi => by
    show fits .f32 (pushX q.x q.j (nextS q a) i)
    unfold pushX
    split
    · exact fits_can (fits_nextS q a)
    · exact h.x i hi
theorem StS.Fit.run {q : StS} (h : q.Fit) (f : Nat → Nat) (k : Nat) : (goS q f k).Fit := by
  induction k with
  | zero => exact h
  | succ k ih => exact ih.step
section
variable (q : StS) (f : Nat → Nat) (k : Nat)
theorem goS_n : (goS q f k).n = q.n := by induction k with | zero => rfl | succ k ih => exact ih
theorem goS_ta : (goS q f k).ta = q.ta := by induction k with | zero => rfl | succ k ih => exact ih
theorem goS_tb : (goS q f k).tb = q.tb := by induction k with | zero => rfl | succ k ih => exact ih
theorem goS_tc : (goS q f k).tc = q.tc := by induction k with | zero => rfl | succ k ih => exact ih
theorem goS_da : (goS q f k).da = q.da := by induction k with | zero => rfl | succ k ih => exact ih
theorem goS_db : (goS q f k).db = q.db := by induction k with | zero => rfl | succ k ih => exact ih
theorem goS_dc : (goS q f k).dc = q.dc := by induction k with | zero => rfl | succ k ih => exact ih
theorem goS_l : (goS q f k).l = q.l := by induction k with | zero => rfl | succ k ih => exact ih
end
theorem RdS.fit {w : World} {B : Nat} {s : Value} {x : Nat → Nat} {n : Nat} (h : RdS w B s x n) : ∀ i, i < n → fits .f32 (x i) := by
  rcases h with ⟨_, rfl⟩ | ⟨a, cap, _, _, _, h5⟩
  · intro i hi; omega
  · intro i hi
    obtain ⟨_, y, _, h2, h3⟩ := h5 i hi
    rw [← h3]; exact fits_can h2
/-- The string with all samples and states 0. -/
def muteS (q : StS) : StS := { q with x := fun _ => 0, tx := 0, ty := 0, dx := 0, dy := 0 }
/-- Behind so many steps with 0 it is silent, and not before; or it is not behind K of them. -/
def ResSS (q : StS) (K : Nat) (n code : Int) : Prop :=
  (∃ m : Nat, n = m ∧ code = 0 ∧ m ≤ K ∧ silS (goS q (fun _ => 0) m) = true ∧ ∀ i, i < m → silS (goS q (fun _ => 0) i) = false) ∨ (n = 0 ∧ code = 7 ∧ ∀ i, i ≤ K → silS (goS q (fun _ => 0) i) = false)
theorem ResSS.one {q : StS} {K : Nat} {n d n' d' : Int} (h : ResSS q K n d) (h' : ResSS q K n' d') : n = n' ∧ d = d' := by
  rcases h with ⟨m, rfl, rfl, h1, h2, h3⟩ | ⟨rfl, rfl, h3⟩ <;> rcases h' with ⟨m', rfl, rfl, h1', h2', h3'⟩ | ⟨rfl, rfl, h3'⟩
  · rcases Nat.lt_trichotomy m m' with h | h | h
    · have := h3' m h; rw [h2] at this; cases this
    · subst h; exact ⟨rfl, rfl⟩
    · have := h3 m' h; rw [h2'] at this; cases this
  · have := h3' m h1; rw [h2] at this; cases this
  · have := h3 m' h1'; rw [h2'] at this; cases this
  · exact ⟨rfl, rfl⟩
theorem ResSS.ex (q : StS) (K : Nat) : ∃ n d, ResSS q K n d := by
  have key : (∃ m, m ≤ K ∧ silS (goS q (fun _ => 0) m) = true ∧ ∀ i, i < m → silS (goS q (fun _ => 0) i) = false) ∨ ∀ i, i ≤ K → silS (goS q (fun _ => 0) i) = false := by
    induction K with
    | zero =>
      cases h : silS (goS q (fun _ => 0) 0)
      · exact .inr (fun i hi => by obtain rfl : i = 0 := by omega
                                   exact h)
      · exact .inl ⟨0, Nat.le_refl _, h, fun i hi => absurd hi (by omega)⟩
    | succ K ih =>
      rcases ih with ⟨m, h1, h2, h3⟩ | h1
      · exact .inl ⟨m, by omega, h2, h3⟩
      · cases h : silS (goS q (fun _ => 0) (K + 1))
        · exact .inr (fun i hi => by
            rcases Nat.lt_or_ge i (K + 1) with h2 | h2
            · exact h1 i (by omega)
            · obtain rfl : i = K + 1 := by omega
              exact h)
        · exact .inl ⟨K + 1, Nat.le_refl _, h, fun i hi => h1 i (by omega)⟩
  rcases key with ⟨m, h1, h2, h3⟩ | h1
  · exact ⟨m, 0, .inl ⟨m, rfl, rfl, h1, h2, h3⟩⟩
  · exact ⟨0, 7, .inr ⟨rfl, rfl, h1⟩⟩
end Go.Fk

/- 'IsSilentString' of both. -/
namespace Go.Proofs.Ytaenbpkcehenkac
open Go.RowKit Go.Fk
set_option maxRecDepth 100000 in
set_option maxHeartbeats 4000000 in
theorem s_l03Silent (B : Nat) (s : Value) (q : StS) (g : Nat) (w : World) (hs : RdS w B s q.x q.n) (R : Row w g 31 #[s, .int .i64 (q.j : Nat), .int .i64 3, .float .f32 (q.ta), .float .f32 (q.tb), .float .f32 (q.tc), .float .f32 (q.tx), .float .f32 (q.ty), .int .i64 2, .float .f32 (q.da), .float .f32 (q.db), .float .f32 (q.dc), .float .f32 (q.dx), .float .f32 (q.dy), .float .f32 (q.l)]) (n1 : 1 ≤ q.n) (n2 : q.n ≤ 1024) :
    Calls Try.prog 91 #[.pointer (some ⟨g, 0, none⟩)] w fun e w' => e = .returned (.bool (silS q)) ∧ ∃ m, w' = w.drewN m := by
  obtain ⟨a, cap, y, rfl, hc, hm, hx⟩ := hs.raw n1
  unfold maxLen at hm
  have HX := hid hx
  clear hx hs
  have c0 := R.cell? 0
  have HT := hid (fun m => s_l02StillAt q.tx q.ty g 2 (w.drewN m) ((R.drewN m).cell? 6) ((R.drewN m).cell? 7))
  have HD := hid (fun m => s_l02StillAt q.dx q.dy g 8 (w.drewN m) ((R.drewN m).cell? 12) ((R.drewN m).cell? 13))
  have hs : silS q = (decide (loudN q.x q.n = 0) && (stillB q.tx q.ty && stillB q.dx q.dy)) := rfl
  rw [hs]
  go_enter Try.func91, Try.ntmps91
  go_wp2
  go_loopw [3] (fun i wr => ∃ k : Nat, k ≤ q.n ∧ i = .int .i64 k ∧ (∃ m, wr = w.drewN m) ∧ Hid (∀ i, i < k → zeroF (q.x i) = true)) (fun i _ => q.n - (intOf i).toNat)
  case atStart => exact ⟨0, by omega, rfl, ⟨0, rfl⟩, fun i hi => absurd hi (by omega)⟩
  case round =>
    obtain ⟨k, hk, rfl, ⟨m, rfl⟩, HK⟩ := hrel
    by_cases hlt : k < q.n
    · obtain ⟨ck, fk, ek⟩ := HX.out k hlt
      have HZ : Hid (zeroF (y k) = zeroF (q.x k)) := by unfold Hid; rw [← ek, zeroF_can]
      clear ek
      cases hz : zeroF (y k)
      · have HN : Hid (loudN q.x q.n ≠ 0) := by
          intro h
          have := loudN_zero.1 h k hlt
          rw [← HZ.out, hz] at this; cases this
        unfold zeroF at hz
        have h2 : (FloatKind.f32.format.order (y k) 0 != some .eq) = !(FloatKind.f32.format.order (y k) 0 == some .eq) := rfl
        rw [hz] at h2
        replace h2 := h2.trans (show _ = true from rfl)
        go_wp2
        go_ret
        exact ⟨ret_b (by simp [HN.out]), _, rfl⟩
      · have HZ2 : Hid (zeroF (q.x k) = true) := HZ.out.symm.trans hz
        unfold zeroF at hz
        have h2 : (FloatKind.f32.format.order (y k) 0 != some .eq) = !(FloatKind.f32.format.order (y k) 0 == some .eq) := rfl
        rw [hz] at h2
        replace h2 := h2.trans (show _ = false from rfl)
        go_wp2
        go_roundw
        case rel => exact ⟨k + 1, by omega, by go_num, ⟨_, rfl⟩, all_step (p := fun j => zeroF (q.x j) = true) HK.out HZ2.out⟩
        case measure => simp [intOf]; omega
    · obtain rfl : k = q.n := by omega
      have h0 : loudN q.x q.n = 0 := loudN_zero.2 HK.out
      replace h0 := hid h0
      cases h1 : stillB q.tx q.ty
      · rw [h1] at HT
        replace h1 := hid h1
        clear HD hs
        go_wp2_with (first | (go_at_call 121; ((with_reducible refine (HT.out _).mono ?_); rintro e w' ⟨rfl, rfl⟩)))
        go_ret
        exact ⟨ret_b (by simp [h1.out]), _, rfl⟩
      · rw [h1] at HT
        replace h1 := hid h1
        clear hs
        go_wp2_with (first | (go_at_call 121; first | ((with_reducible refine (HT.out _).mono ?_); rintro e w' ⟨rfl, rfl⟩) | ((with_reducible refine (HD.out _).mono ?_); rintro e w' ⟨rfl, rfl⟩)))
        go_ret
        exact ⟨ret_b (by simp [h0.out, h1.out]), _, rfl⟩
set_option maxRecDepth 100000 in
set_option maxHeartbeats 4000000 in
theorem s_IsSilentString_no (B : Nat) (s : Value) (x : Nat → Nat) (n : Nat) (k tk : Int) (ta tb tc tx ty : Nat) (dk : Int) (da db dc dx dy l : Nat) (w : World) (hs : RdS w B s x n) (hk : (Lit.int .i64 k).wf = true) (hv : okStr n k tk ta tb tc tx ty dk da db dc dx dy l = false) :
    Calls Try.prog 47 #[.agg #[s, .int .i64 k, .int .i64 tk, .float .f32 ta, .float .f32 tb, .float .f32 tc, .float .f32 tx, .float .f32 ty, .int .i64 dk, .float .f32 da, .float .f32 db, .float .f32 dc, .float .f32 dx, .float .f32 dy, .float .f32 l]] w (Out_bi false 1 w) := by
  have HV := hid (fun (w' : World) (g : Nat) (hl : le w w') (R : Row w' g 31 #[s, .int .i64 k, .int .i64 tk, .float .f32 ta, .float .f32 tb, .float .f32 tc, .float .f32 tx, .float .f32 ty, .int .i64 dk, .float .f32 da, .float .f32 db, .float .f32 dc, .float .f32 dx, .float .f32 dy, .float .f32 l]) => hv ▸ s_l03Ok B s x n k tk ta tb tc tx ty dk da db dc dx dy l g w' (hs.le hl) R hk)
  clear hs hk hv
  have F := ((Frg.nil w).box 31 #[s, .int .i64 k, .int .i64 tk, .float .f32 ta, .float .f32 tb, .float .f32 tc, .float .f32 tx, .float .f32 ty, .int .i64 dk, .float .f32 da, .float .f32 db, .float .f32 dc, .float .f32 dx, .float .f32 dy, .float .f32 l])
  go_enter Try.func47, Try.ntmps47
  go_wp2_with (first | (go_at_call 63; ((with_reducible refine (HV.out _ _ F.below (F.row (by first | exact m0 | exact m1 | exact m2 | exact m3 | exact m4 | exact m5))).mono ?_); rintro e w1 ⟨rfl, m, rfl⟩; replace F := F.drewN m)))
  go_ret2
  first | exact ⟨rfl, F.below⟩ | exact ⟨rfl, by rw [← World.drewN_drewN]; exact F.below⟩
set_option maxRecDepth 100000 in
set_option maxHeartbeats 4000000 in
theorem s_IsSilentString_yes (B : Nat) (s : Value) (q : StS) (w : World) (hs : RdS w B s q.x q.n) (ok : q.Ok) (hk : (Lit.int .i64 (q.j : Nat)).wf = true) (hv : okStr q.n (q.j : Nat) 3 q.ta q.tb q.tc q.tx q.ty 2 q.da q.db q.dc q.dx q.dy q.l = true) :
    Calls Try.prog 47 #[.agg #[s, .int .i64 (q.j : Nat), .int .i64 3, .float .f32 (q.ta), .float .f32 (q.tb), .float .f32 (q.tc), .float .f32 (q.tx), .float .f32 (q.ty), .int .i64 2, .float .f32 (q.da), .float .f32 (q.db), .float .f32 (q.dc), .float .f32 (q.dx), .float .f32 (q.dy), .float .f32 (q.l)]] w (Out_bi (silS q) 0 w) := by
  have HV := hid (fun (w' : World) (g : Nat) (hl : le w w') (R : Row w' g 31 #[s, .int .i64 (q.j : Nat), .int .i64 3, .float .f32 (q.ta), .float .f32 (q.tb), .float .f32 (q.tc), .float .f32 (q.tx), .float .f32 (q.ty), .int .i64 2, .float .f32 (q.da), .float .f32 (q.db), .float .f32 (q.dc), .float .f32 (q.dx), .float .f32 (q.dy), .float .f32 (q.l)]) => hv ▸ s_l03Ok B s q.x q.n (q.j : Nat) 3 q.ta q.tb q.tc q.tx q.ty 2 q.da q.db q.dc q.dx q.dy q.l g w' (hs.le hl) R hk)
  have HSL := hid (fun (w' : World) (g : Nat) (hl : le w w') (R : Row w' g 31 #[s, .int .i64 (q.j : Nat), .int .i64 3, .float .f32 (q.ta), .float .f32 (q.tb), .float .f32 (q.tc), .float .f32 (q.tx), .float .f32 (q.ty), .int .i64 2, .float .f32 (q.da), .float .f32 (q.db), .float .f32 (q.dc), .float .f32 (q.dx), .float .f32 (q.dy), .float .f32 (q.l)]) => s_l03Silent B s q g w' (hs.le hl) R ok.n1 ok.n2)
  clear hs hk hv ok
  have F := ((Frg.nil w).box 31 #[s, .int .i64 (q.j : Nat), .int .i64 3, .float .f32 (q.ta), .float .f32 (q.tb), .float .f32 (q.tc), .float .f32 (q.tx), .float .f32 (q.ty), .int .i64 2, .float .f32 (q.da), .float .f32 (q.db), .float .f32 (q.dc), .float .f32 (q.dx), .float .f32 (q.dy), .float .f32 (q.l)])
  go_enter Try.func47, Try.ntmps47
  go_wp2_with (first | (go_at_call 63; ((with_reducible refine (HV.out _ _ F.below (F.row (by first | exact m0 | exact m1 | exact m2 | exact m3 | exact m4 | exact m5))).mono ?_); rintro e w1 ⟨rfl, m, rfl⟩; replace F := F.drewN m)) | (go_at_call 91; ((with_reducible refine (HSL.out _ _ F.below (F.row (by first | exact m0 | exact m1 | exact m2 | exact m3 | exact m4 | exact m5))).mono ?_); rintro e w2 ⟨rfl, m2, rfl⟩; replace F := F.drewN m2)))
  go_ret2
  first | exact ⟨rfl, F.below⟩ | exact ⟨rfl, by rw [← World.drewN_drewN]; exact F.below⟩
set_option maxRecDepth 100000 in
set_option maxHeartbeats 4000000 in
theorem i_IsSilentString_no (B : Nat) (s : Value) (x : Nat → Nat) (n : Nat) (k tk : Int) (ta tb tc tx ty : Nat) (dk : Int) (da db dc dx dy l : Nat) (w : World) (hs : RdS w B s x n) (hf : fits .f32 ta ∧ fits .f32 tb ∧ fits .f32 tc ∧ fits .f32 tx ∧ fits .f32 ty) (hg : fits .f32 da ∧ fits .f32 db ∧ fits .f32 dc ∧ fits .f32 dx ∧ fits .f32 dy) (hl2 : fits .f32 l) (hv : okStr n k tk ta tb tc tx ty dk da db dc dx dy l = false) :
    Calls Try.prog 48 #[.agg #[s, .int .i64 k, .int .i64 tk, .float .f32 ta, .float .f32 tb, .float .f32 tc, .float .f32 tx, .float .f32 ty, .int .i64 dk, .float .f32 da, .float .f32 db, .float .f32 dc, .float .f32 dx, .float .f32 dy, .float .f32 l]] w (Out_bi false 1 w) := by
  have HV := hid (fun (w' : World) (hl : le w w') => hv ▸ i_ValidStringR B s x n k tk ta tb tc tx ty dk da db dc dx dy l w' (hs.le hl) hf hg hl2)
  clear hs hv hf hg hl2
  have F := ((Frg.nil w).box 31 #[s, .int .i64 k, .int .i64 tk, .float .f32 ta, .float .f32 tb, .float .f32 tc, .float .f32 tx, .float .f32 ty, .int .i64 dk, .float .f32 da, .float .f32 db, .float .f32 dc, .float .f32 dx, .float .f32 dy, .float .f32 l])
  go_enter Try.func48, Try.ntmps48
  go_wp2_with (first | ((with_reducible refine at_loadU rfl rfl ?_); (with_reducible refine wpList_loadG F rfl rfl rfl (by first | exact m0 | exact m1 | exact m2 | exact m3 | exact m4 | exact m5) Try.underlying31 rfl infoStr rfl ?_)) | (go_at_call 23; ((with_reducible refine (HV.out _ F.below).mono ?_); rintro e w1 ⟨rfl, hl⟩; replace F := F.le hl; clear hl)))
  go_ret2
  first | exact ⟨rfl, F.below⟩ | exact ⟨rfl, by rw [← World.drewN_drewN]; exact F.below⟩
set_option maxRecDepth 100000 in
set_option maxHeartbeats 4000000 in
theorem i_IsSilentString_yes (B : Nat) (s : Value) (q : StS) (w : World) (hs : RdS w B s q.x q.n) (ok : q.Ok) (hv : okStr q.n (q.j : Nat) 3 q.ta q.tb q.tc q.tx q.ty 2 q.da q.db q.dc q.dx q.dy q.l = true) :
    Calls Try.prog 48 #[.agg #[s, .int .i64 (q.j : Nat), .int .i64 3, .float .f32 (q.ta), .float .f32 (q.tb), .float .f32 (q.tc), .float .f32 (q.tx), .float .f32 (q.ty), .int .i64 2, .float .f32 (q.da), .float .f32 (q.db), .float .f32 (q.dc), .float .f32 (q.dx), .float .f32 (q.dy), .float .f32 (q.l)]] w (Out_bi (silS q) 0 w) := by
  have HV := hid (fun (w' : World) (hl : le w w') => hv ▸ i_ValidStringR B s q.x q.n (q.j : Nat) 3 q.ta q.tb q.tc q.tx q.ty 2 q.da q.db q.dc q.dx q.dy q.l w' (hs.le hl) ⟨ok.fta, ok.ftb, ok.ftc, ok.ftx, ok.fty⟩ ⟨ok.fda, ok.fdb, ok.fdc, ok.fdx, ok.fdy⟩ ok.fl)
  have HN := hid (fun (w' : World) (hl : le w w') => i_newLoop B s q w' (hs.le hl) ok)
  clear hs hv ok
  have F := ((Frg.nil w).box 31 #[s, .int .i64 (q.j : Nat), .int .i64 3, .float .f32 (q.ta), .float .f32 (q.tb), .float .f32 (q.tc), .float .f32 (q.tx), .float .f32 (q.ty), .int .i64 2, .float .f32 (q.da), .float .f32 (q.db), .float .f32 (q.dc), .float .f32 (q.dx), .float .f32 (q.dy), .float .f32 (q.l)])
  go_enter Try.func48, Try.ntmps48
  go_wp2_with (first | ((with_reducible refine at_loadU rfl rfl ?_); (with_reducible refine wpList_loadG F rfl rfl rfl (by first | exact m0 | exact m1 | exact m2 | exact m3 | exact m4 | exact m5) Try.underlying31 rfl infoStr rfl ?_)) | (go_at_call 23; ((with_reducible refine (HV.out _ F.below).mono ?_); rintro e w1 ⟨rfl, hl⟩; replace F := F.le hl; clear hl)) | (go_at_call 87; ((with_reducible refine (HN.out _ F.below).mono ?_); rintro e w2 ⟨g, rfl, hlp, hl⟩; replace F := F.push (e := lpF _ _ g q) hl hlp (Nat.le_refl _) (Nat.le_refl _); clear hlp hl)) | (go_at_call 92; ((with_reducible refine (i_loopStill _ _ _ q _ (Frg.lp F m0)).mono ?_); rintro e w4 ⟨rfl, rfl⟩)))
  go_ret2
  first | exact ⟨rfl, F.below⟩ | exact ⟨rfl, by rw [← World.drewN_drewN]; exact F.below⟩
theorem both_IsSilentString (x : Nat → Nat) (n : Nat) (k tk : Int) (ta tb tc tx ty : Nat) (dk : Int) (da db dc dx dy l : Nat) (hw : (Lit.int .i64 k).wf = true ∧ (Lit.int .i64 tk).wf = true ∧ fits .f32 ta ∧ fits .f32 tb ∧ fits .f32 tc ∧ fits .f32 tx ∧ fits .f32 ty ∧ (Lit.int .i64 dk).wf = true ∧ fits .f32 da ∧ fits .f32 db ∧ fits .f32 dc ∧ fits .f32 dx ∧ fits .f32 dy ∧ fits .f32 l) : ∃ (ar0 : Bool) (ar1 : Int), (∀ (w : World) (B : Nat) (u : Value), RdS w B u x n → Calls Try.prog 47 #[.agg #[u, .int .i64 k, .int .i64 tk, .float .f32 ta, .float .f32 tb, .float .f32 tc, .float .f32 tx, .float .f32 ty, .int .i64 dk, .float .f32 da, .float .f32 db, .float .f32 dc, .float .f32 dx, .float .f32 dy, .float .f32 l]] w (Out_bi ar0 ar1 w)) ∧ (∀ (w : World) (B : Nat) (u : Value), RdS w B u x n → Calls Try.prog 48 #[.agg #[u, .int .i64 k, .int .i64 tk, .float .f32 ta, .float .f32 tb, .float .f32 tc, .float .f32 tx, .float .f32 ty, .int .i64 dk, .float .f32 da, .float .f32 db, .float .f32 dc, .float .f32 dx, .float .f32 dy, .float .f32 l]] w (Out_bi ar0 ar1 w)) := by
  obtain ⟨hk, _, h1, h2, h3, h4, h5, _, g1, g2, g3, g4, g5, hl⟩ := hw
  cases hv : okStr n k tk ta tb tc tx ty dk da db dc dx dy l
  · exact ⟨false, 1, fun w B u h => s_IsSilentString_no B u x n k tk ta tb tc tx ty dk da db dc dx dy l w h hk hv, fun w B u h => i_IsSilentString_no B u x n k tk ta tb tc tx ty dk da db dc dx dy l w h ⟨h1, h2, h3, h4, h5⟩ ⟨g1, g2, g3, g4, g5⟩ hl hv⟩
  · obtain ⟨j, rfl, rfl, rfl, ok⟩ := okStr_q (x := x) hv ⟨h1, h2, h3, h4, h5⟩ ⟨g1, g2, g3, g4, g5⟩ hl
    exact ⟨_, _, fun w B u h => s_IsSilentString_yes B u (⟨x, n, j, ta, tb, tc, tx, ty, da, db, dc, dx, dy, l⟩ : StS) w h ok hk hv, fun w B u h => i_IsSilentString_yes B u (⟨x, n, j, ta, tb, tc, tx, ty, da, db, dc, dx, dy, l⟩ : StS) w h ok hv⟩
end Go.Proofs.Ytaenbpkcehenkac

/- 'StepsToStill' of both. -/
namespace Go.Proofs.Ytaenbpkcehenkac
open Go.RowKit Go.Fk
set_option maxHeartbeats 2000000 in
theorem i_leastSteps (k : Int) (a b c x y K g : Nat) (w : World) (hk : 1 ≤ k ∧ k ≤ 5) (hK : K ≤ 100000) (hx : fits .f32 x) (hy : fits .f32 y) (R : Row w g 140 #[mdl k a b c, .float .f32 x, .float .f32 y]) :
    Calls Try.prog 93 #[.iface 133 (.pointer (some ⟨g, 0, none⟩)), .int .i64 K, .int .i64 100000] w fun e w' => ∃ n d, e = .returned (.tuple #[.int .i64 n, .int .i64 d]) ∧ ResST k a b c x y K n d ∧ Upd g w w' := by
  have HK := hid hk
  have HN := hid (fun n => fits_stN (k := k) (a := a) (b := b) (c := c) hx hy n)
  have hK1 : (K : Int) ≤ 100000 := by omega
  have hK0 : 0 ≤ (K : Int) := by omega
  have HR := hid R; clear R hx hy hk
  go_enter Try.func93, Try.ntmps93
  go_wp2_with fail
  go_loopw [18] (fun i wr => ∃ j : Nat, j ≤ K + 1 ∧ i = .int .i64 j ∧ Hid (∀ m, m < j → stillN k a b c x y m = false) ∧ Hid (Row wr g 140 #[mdl k a b c, .float .f32 (stN k a b c x y j).1, .float .f32 (stN k a b c x y j).2]) ∧ Hid (Upd g w wr)) (fun i _ => (K + 1) - (intOf i).toNat)
  case atStart => exact ⟨0, by omega, rfl, fun m hm => absurd hm (by omega), HR.out, Upd.refl g w⟩
  case round =>
    obtain ⟨j, hj, rfl, HJ, RJ, UJ⟩ := hrel
    by_cases hlt : j < K + 1
    · have hlt' : (j : Int) < (K : Int) + 1 := by omega
      cases hs : stillB (stN k a b c x y j).1 (stN k a b c x y j).2
      · have hS := hid (fun w R => i_isStill (mdl k a b c) (stN k a b c x y j).1 (stN k a b c x y j).2 g w R)
        rw [hs] at hS
        replace hs := hid hs
        go_wp2_with (first | (go_at_call 122; ((with_reducible refine (hS.out _ RJ.out).mono ?_); rintro e w3 ⟨rfl, rfl⟩)) | (go_at_call 118; ((with_reducible refine (i_step _ _ _ _ _ _ _ _ _ HK.out RJ.out (HN.out _).1 fits_zero).mono ?_); rintro e w4 ⟨r, rfl, hr, fr, hR, hU⟩; replace RJ := hid hR; replace UJ := hid (UJ.out.trans hU); clear hR hU hr fr)))
        go_roundw
        case rel => exact ⟨j + 1, by omega, by go_num, fun m hm => by rcases Nat.lt_or_ge m j with h | h; exact HJ.out m h; rw [show m = j by omega]; exact hs.out, RJ.out, UJ.out⟩
        case measure => simp [intOf]; omega
      · have hS := hid (fun w R => i_isStill (mdl k a b c) (stN k a b c x y j).1 (stN k a b c x y j).2 g w R)
        rw [hs] at hS
        replace hs := hid hs
        go_wp2_with (first | (go_at_call 122; ((with_reducible refine (hS.out _ RJ.out).mono ?_); rintro e w3 ⟨rfl, rfl⟩)))
        go_ret2
        exact ⟨_, _, rfl, .inl ⟨rfl, j, rfl, by omega, hs.out, HJ.out⟩, UJ.out⟩
    · have hlt' : ¬ (j : Int) < (K : Int) + 1 := by omega
      obtain rfl : j = K + 1 := by omega
      go_wp2
      go_ret2
      exact ⟨_, _, rfl, .inr ⟨rfl, rfl, fun i hi => HJ.out i (by omega)⟩, UJ.out⟩
theorem i_leastSteps_out (v : Value) (m : Int) (w : World) (hm : m < 0 ∨ 100000 < m) :
    Calls Try.prog 93 #[v, .int .i64 m, .int .i64 100000] w fun e w' => e = .returned (.tuple #[.int .i64 0, .int .i64 2]) ∧ w = w' := by
  rcases (show m < 0 ∨ (¬ m < 0 ∧ 100000 < m) by omega) with h | ⟨h, h'⟩
  all_goals
    clear hm
    go_enter Try.func93, Try.ntmps93
    go_wp2
    go_ret2
    exact ⟨rfl, rfl⟩
end Go.Proofs.Ytaenbpkcehenkac

/- Cells of slices that one may write. Nothing here names a program. -/
namespace Go.Fk
open Go Go.RowKit
theorem OwnS.form {w : World} {lo hi n : Nat} {s : Value} {x : Nat → Nat} (h : OwnS w lo hi s x n) (hn : 1 ≤ n) : ∃ b o cap, s = .slice (some ⟨b, o, none⟩) n cap ∧ n ≤ cap ∧ cap ≤ maxLen ∧ lo ≤ b ∧ b < hi := by
  rcases h with ⟨_, rfl⟩ | ⟨b, o, cap, t, cs, h1, h2, h3, h4, h5, _⟩
  · omega
  · exact ⟨b, o, cap, h1, h2, h3, h4, h5⟩
theorem OwnS.at {w : World} {lo hi b o n cap : Nat} {x : Nat → Nat} (h : OwnS w lo hi (.slice (some ⟨b, o, none⟩) n cap) x n) {i : Nat} (hi' : i < n) : ∃ y, w.cell? ⟨b, o + i, none⟩ = some (.float .f32 y) ∧ w.frozen? ⟨b, o + i, none⟩ = false ∧ fits .f32 y ∧ can .f32 y = x i := by
  rcases h with ⟨h0, _⟩ | ⟨b', o', cap', t, cs, h1, h2, h3, h4, h5, h6, h7⟩
  · cases h0
  · simp only [Value.slice.injEq, Option.some.injEq, Addr.mk.injEq, and_true, true_and] at h1
    obtain ⟨⟨rfl, rfl⟩, rfl⟩ := h1
    obtain ⟨y, e1, e2, e3⟩ := h7 i hi'
    exact ⟨y, (h6.cell? (o + i)).trans e1, h6.frozen (o + i), e2, e3⟩
theorem OwnS.set {w : World} {lo hi b o n cap : Nat} {x : Nat → Nat} (h : OwnS w lo hi (.slice (some ⟨b, o, none⟩) n cap) x n) {i a : Nat} (hi' : i < n) (ha : fits .f32 a) :
    OwnS (w.setCell ⟨b, o + i, none⟩ (.float .f32 a)) lo hi (.slice (some ⟨b, o, none⟩) n cap) (pushX x i a) n ∧ Chg (rng lo hi) w (w.setCell ⟨b, o + i, none⟩ (.float .f32 a)) := by
  rcases h with ⟨h0, _⟩ | ⟨b', o', cap', t, cs, h1, h2, h3, h4, h5, h6, h7⟩
  · cases h0
  · simp only [Value.slice.injEq, Option.some.injEq, Addr.mk.injEq, and_true, true_and] at h1
    obtain ⟨⟨rfl, rfl⟩, rfl⟩ := h1
    refine ⟨.inr ⟨b, o, cap, t, cs.setIfInBounds (o + i) (.float .f32 a), rfl, h2, h3, h4, h5, h6.set _ _, fun j hj => ?_⟩, (Chg.refl _ _).setCell (a := ⟨b, o + i, none⟩) ⟨h4, h5⟩ _⟩
    obtain ⟨y0, e0, _⟩ := h7 i hi'
    have hlt : o + i < cs.size := (Array.getElem?_eq_some_iff.1 e0).1
    by_cases e : j = i
    · subst e
      exact ⟨a, by simp [hlt], ha, by simp [pushX]⟩
    · obtain ⟨y, e1, e2, e3⟩ := h7 j hj
      exact ⟨y, by rw [Array.getElem?_setIfInBounds_ne (by omega)]; exact e1, e2, by simp [pushX, e, e3]⟩
namespace Frg
variable {w0 w w' : World}
theorem chg0 {e e' : Fact} {post : List Fact} (h : Frg w0 w (e :: post)) (k : Chg (rng e.lo e.hi) w w') (hp : e'.p w') (h1 : e'.lo = e.lo) (h2 : e'.hi = e.hi) : Frg w0 w' (e' :: post) := chg [] h k hp h1 h2
theorem chg1 {b0 e e' : Fact} {post : List Fact} (h : Frg w0 w (b0 :: e :: post)) (k : Chg (rng e.lo e.hi) w w') (hp : e'.p w') (h1 : e'.lo = e.lo) (h2 : e'.hi = e.hi) : Frg w0 w' (b0 :: e' :: post) := chg [b0] h k hp h1 h2
end Frg
/-- The first k samples are 0. -/
def zeroTo (k : Nat) (x : Nat → Nat) : Nat → Nat := fun i => if i < k then 0 else x i
theorem zeroTo_0 (x : Nat → Nat) : zeroTo 0 x = x := by funext i; simp [zeroTo]
theorem zeroTo_s (k : Nat) (x : Nat → Nat) : pushX (zeroTo k x) k 0 = zeroTo (k + 1) x := by
  funext i
  unfold pushX zeroTo
  by_cases e : i = k
  · subst e; simp; decide
  · by_cases l : i < k
    · simp [e, l, show i < k + 1 by omega]
    · simp [e, l, show ¬ i < k + 1 by omega]
end Go.Fk

/- 'StepsToSilence' of both. -/
namespace Go.Proofs.Ytaenbpkcehenkac
open Go.RowKit Go.Fk
theorem toSpB {w0 w : World} {g lo hi B' : Nat} {s : Value} {q : StS} {l : List Fact} (h : Frg w0 w (rowF g 31 #[s, .int .i64 (q.j : Nat), .int .i64 3, .float .f32 (q.ta), .float .f32 (q.tb), .float .f32 (q.tc), .float .f32 (q.tx), .float .f32 (q.ty), .int .i64 2, .float .f32 (q.da), .float .f32 (q.db), .float .f32 (q.dc), .float .f32 (q.dx), .float .f32 (q.dy), .float .f32 (q.l)] :: ownF lo hi s q.x q.n :: l)) (hn : 1 ≤ q.n) (h1 : ∀ e ∈ l, e.hi ≤ B') (h2 : w0.heap.size ≤ B') (h3 : B' ≤ lo) : Frg w0 w (spF B' (g + 1) g q :: l) := by
  have k := toSp h hn
  have f := k.facts (spF lo (g + 1) g q) (by simp)
  have a := List.pairwise_cons.1 k.apart
  refine ⟨k.below, fun e he => ?_, List.pairwise_cons.2 ⟨fun e he => h1 e he, a.2⟩⟩
  rcases List.mem_cons.1 he with rfl | he
  · obtain ⟨s', lo', hi', R, O, g1, g2, g3, g4, g5⟩ := f.2.2
    exact ⟨h2, f.2.1, ⟨s', lo', hi', R, O, Nat.le_trans h3 g1, g2, Nat.le_trans h3 g3, g4, g5⟩⟩
  · exact k.facts e (by simp [he])
theorem s_l03SilentSp (B C g : Nat) (q : StS) (w : World) (h : SpS w B C g q) (ok : q.Ok) :
    Calls Try.prog 91 #[.pointer (some ⟨g, 0, none⟩)] w fun e w' => e = .returned (.bool (silS q)) ∧ ∃ m, w' = w.drewN m := by
  obtain ⟨s', lo', hi', R, O, g1, g2, g3, g4, g5⟩ := h
  exact s_l03Silent hi' s' q g w O.rd R ok.n1 ok.n2
set_option maxRecDepth 100000 in
set_option maxHeartbeats 4000000 in
theorem i_leastStepsL (B C g : Nat) (q : StS) (K : Nat) (w : World) (hK : K ≤ 100000) (fit : q.Fit) (h : LpS w B C g q) :
    Calls Try.prog 93 #[.iface 108 (.pointer (some ⟨g, 0, none⟩)), .int .i64 K, .int .i64 100000] w fun e w' => ∃ n d, e = .returned (.tuple #[.int .i64 n, .int .i64 d]) ∧ ResSS q K n d ∧ Chg (rng B C) w w' := by
  have HO := hid (fun j => (fit.run (fun _ => 0) j).ok)
  have hK1 : (K : Int) ≤ 100000 := by omega
  have hK0 : 0 ≤ (K : Int) := by omega
  have HL := hid h; clear h fit
  go_enter Try.func93, Try.ntmps93
  go_wp2_with fail
  go_loopw [18] (fun i wr => ∃ j : Nat, j ≤ K + 1 ∧ i = .int .i64 j ∧ Hid (∀ m, m < j → silS (goS q (fun _ => 0) m) = false) ∧ Hid (LpS wr B C g (goS q (fun _ => 0) j)) ∧ Hid (Chg (rng B C) w wr)) (fun i _ => (K + 1) - (intOf i).toNat)
  case atStart => exact ⟨0, by omega, rfl, fun m hm => absurd hm (by omega), HL.out, Chg.refl _ w⟩
  case round =>
    obtain ⟨j, hj, rfl, HJ, RJ, UJ⟩ := hrel
    by_cases hlt : j < K + 1
    · have hlt' : (j : Int) < (K : Int) + 1 := by omega
      cases hs : silS (goS q (fun _ => 0) j)
      · have hS := hid (fun w' (h : LpS w' B C g (goS q (fun _ => 0) j)) => i_loopStill B C g _ w' h)
        rw [hs] at hS
        replace hs := hid hs
        go_wp2_with (first | (go_at_call 92; ((with_reducible refine (hS.out _ RJ.out).mono ?_); rintro e w3 ⟨rfl, rfl⟩)) | (go_at_call 88; ((with_reducible refine (i_loopStep _ _ _ _ 0 _ RJ.out (HO.out j) fits_zero).mono ?_); rintro e w4 ⟨r, rfl, hr, fr, hR, hU⟩; replace RJ := hid hR; replace UJ := hid (UJ.out.trans hU); clear hR hU hr fr)))
        go_roundw
        case rel => exact ⟨j + 1, by omega, by go_num, fun m hm => by rcases Nat.lt_or_ge m j with h | h; exact HJ.out m h; rw [show m = j by omega]; exact hs.out, RJ.out, UJ.out⟩
        case measure => simp [intOf]; omega
      · have hS := hid (fun w' (h : LpS w' B C g (goS q (fun _ => 0) j)) => i_loopStill B C g _ w' h)
        rw [hs] at hS
        replace hs := hid hs
        go_wp2_with (first | (go_at_call 92; ((with_reducible refine (hS.out _ RJ.out).mono ?_); rintro e w3 ⟨rfl, rfl⟩)))
        go_ret2
        exact ⟨_, _, rfl, .inl ⟨j, rfl, rfl, by omega, hs.out, HJ.out⟩, UJ.out⟩
    · have hlt' : ¬ (j : Int) < (K : Int) + 1 := by omega
      obtain rfl : j = K + 1 := by omega
      go_wp2
      go_ret2
      exact ⟨_, _, rfl, .inr ⟨rfl, rfl, fun i hi => HJ.out i (by omega)⟩, UJ.out⟩
set_option maxRecDepth 100000 in
set_option maxHeartbeats 4000000 in
theorem i_StepsToSilence_no (B : Nat) (s : Value) (x : Nat → Nat) (n : Nat) (k tk : Int) (ta tb tc tx ty : Nat) (dk : Int) (da db dc dx dy l : Nat) (m : Int) (w : World) (hs : RdS w B s x n) (hf : fits .f32 ta ∧ fits .f32 tb ∧ fits .f32 tc ∧ fits .f32 tx ∧ fits .f32 ty) (hg : fits .f32 da ∧ fits .f32 db ∧ fits .f32 dc ∧ fits .f32 dx ∧ fits .f32 dy) (hl2 : fits .f32 l) (hv : okStr n k tk ta tb tc tx ty dk da db dc dx dy l = false) :
    Calls Try.prog 50 #[.agg #[s, .int .i64 k, .int .i64 tk, .float .f32 ta, .float .f32 tb, .float .f32 tc, .float .f32 tx, .float .f32 ty, .int .i64 dk, .float .f32 da, .float .f32 db, .float .f32 dc, .float .f32 dx, .float .f32 dy, .float .f32 l], .int .i64 m] w (Out_ii 0 1 w) := by
  have HV := hid (fun (w' : World) (hl : le w w') => hv ▸ i_ValidStringR B s x n k tk ta tb tc tx ty dk da db dc dx dy l w' (hs.le hl) hf hg hl2)
  clear hs hv hf hg hl2
  have F := ((Frg.nil w).box 31 #[s, .int .i64 k, .int .i64 tk, .float .f32 ta, .float .f32 tb, .float .f32 tc, .float .f32 tx, .float .f32 ty, .int .i64 dk, .float .f32 da, .float .f32 db, .float .f32 dc, .float .f32 dx, .float .f32 dy, .float .f32 l])
  go_enter Try.func50, Try.ntmps50
  go_wp2_with (first | ((with_reducible refine at_loadU rfl rfl ?_); (with_reducible refine wpList_loadG F rfl rfl rfl (by first | exact m0 | exact m1 | exact m2 | exact m3 | exact m4 | exact m5) Try.underlying31 rfl infoStr rfl ?_)) | (go_at_call 23; ((with_reducible refine (HV.out _ F.below).mono ?_); rintro e w1 ⟨rfl, hl⟩; replace F := F.le hl; clear hl)))
  go_ret2
  first | exact ⟨rfl, F.below⟩ | exact ⟨rfl, by rw [← World.drewN_drewN]; exact F.below⟩
set_option maxRecDepth 100000 in
set_option maxHeartbeats 4000000 in
theorem i_StepsToSilence_out (B : Nat) (s : Value) (q : StS) (m : Int) (w : World) (hs : RdS w B s q.x q.n) (ok : q.Ok) (hv : okStr q.n (q.j : Nat) 3 q.ta q.tb q.tc q.tx q.ty 2 q.da q.db q.dc q.dx q.dy q.l = true) (hm : m < 0 ∨ 100000 < m) :
    Calls Try.prog 50 #[.agg #[s, .int .i64 (q.j : Nat), .int .i64 3, .float .f32 (q.ta), .float .f32 (q.tb), .float .f32 (q.tc), .float .f32 (q.tx), .float .f32 (q.ty), .int .i64 2, .float .f32 (q.da), .float .f32 (q.db), .float .f32 (q.dc), .float .f32 (q.dx), .float .f32 (q.dy), .float .f32 (q.l)], .int .i64 m] w (Out_ii 0 2 w) := by
  have HV := hid (fun (w' : World) (hl : le w w') => hv ▸ i_ValidStringR B s q.x q.n (q.j : Nat) 3 q.ta q.tb q.tc q.tx q.ty 2 q.da q.db q.dc q.dx q.dy q.l w' (hs.le hl) ⟨ok.fta, ok.ftb, ok.ftc, ok.ftx, ok.fty⟩ ⟨ok.fda, ok.fdb, ok.fdc, ok.fdx, ok.fdy⟩ ok.fl)
  have HN := hid (fun (w' : World) (hl : le w w') => i_newLoop B s q w' (hs.le hl) ok)
  have HL := hid (fun (v : Value) (w : World) => i_leastSteps_out v m w hm)
  clear hs hv ok hm
  have F := ((Frg.nil w).box 31 #[s, .int .i64 (q.j : Nat), .int .i64 3, .float .f32 (q.ta), .float .f32 (q.tb), .float .f32 (q.tc), .float .f32 (q.tx), .float .f32 (q.ty), .int .i64 2, .float .f32 (q.da), .float .f32 (q.db), .float .f32 (q.dc), .float .f32 (q.dx), .float .f32 (q.dy), .float .f32 (q.l)])
  go_enter Try.func50, Try.ntmps50
  go_wp2_with (first | ((with_reducible refine at_loadU rfl rfl ?_); (with_reducible refine wpList_loadG F rfl rfl rfl (by first | exact m0 | exact m1 | exact m2 | exact m3 | exact m4 | exact m5) Try.underlying31 rfl infoStr rfl ?_)) | (go_at_call 23; ((with_reducible refine (HV.out _ F.below).mono ?_); rintro e w1 ⟨rfl, hl⟩; replace F := F.le hl; clear hl)) | (go_at_call 87; ((with_reducible refine (HN.out _ F.below).mono ?_); rintro e w2 ⟨g, rfl, hlp, hl⟩; replace F := F.push (e := lpF _ _ g q) hl hlp (Nat.le_refl _) (Nat.le_refl _); clear hlp hl)) | (go_at_call 93; ((with_reducible refine (HL.out _ _).mono ?_); rintro e w3 ⟨rfl, rfl⟩)))
  go_ret2
  first | exact ⟨rfl, F.below⟩ | exact ⟨rfl, by rw [← World.drewN_drewN]; exact F.below⟩
set_option maxRecDepth 100000 in
set_option maxHeartbeats 4000000 in
theorem i_StepsToSilence_yes (B : Nat) (s : Value) (q : StS) (K : Nat) (w : World) (hs : RdS w B s q.x q.n) (ok : q.Ok) (hv : okStr q.n (q.j : Nat) 3 q.ta q.tb q.tc q.tx q.ty 2 q.da q.db q.dc q.dx q.dy q.l = true) (hK : K ≤ 100000) :
    Calls Try.prog 50 #[.agg #[s, .int .i64 (q.j : Nat), .int .i64 3, .float .f32 (q.ta), .float .f32 (q.tb), .float .f32 (q.tc), .float .f32 (q.tx), .float .f32 (q.ty), .int .i64 2, .float .f32 (q.da), .float .f32 (q.db), .float .f32 (q.dc), .float .f32 (q.dx), .float .f32 (q.dy), .float .f32 (q.l)], .int .i64 K] w fun e w' => ∃ n d, e = .returned (.tuple #[.int .i64 n, .int .i64 d]) ∧ ResSS q K n d ∧ le w w' := by
  have HV := hid (fun (w' : World) (hl : le w w') => hv ▸ i_ValidStringR B s q.x q.n (q.j : Nat) 3 q.ta q.tb q.tc q.tx q.ty 2 q.da q.db q.dc q.dx q.dy q.l w' (hs.le hl) ⟨ok.fta, ok.ftb, ok.ftc, ok.ftx, ok.fty⟩ ⟨ok.fda, ok.fdb, ok.fdc, ok.fdx, ok.fdy⟩ ok.fl)
  have HN := hid (fun (w' : World) (hl : le w w') => i_newLoop B s q w' (hs.le hl) ok)
  have HL := hid (fun (B' C' g : Nat) (w' : World) (h : LpS w' B' C' g q) => i_leastStepsL B' C' g q K w' hK ⟨ok, hs.fit⟩ h)
  clear hs hv ok
  have F := ((Frg.nil w).box 31 #[s, .int .i64 (q.j : Nat), .int .i64 3, .float .f32 (q.ta), .float .f32 (q.tb), .float .f32 (q.tc), .float .f32 (q.tx), .float .f32 (q.ty), .int .i64 2, .float .f32 (q.da), .float .f32 (q.db), .float .f32 (q.dc), .float .f32 (q.dx), .float .f32 (q.dy), .float .f32 (q.l)])
  go_enter Try.func50, Try.ntmps50
  go_wp2_with (first | ((with_reducible refine at_loadU rfl rfl ?_); (with_reducible refine wpList_loadG F rfl rfl rfl (by first | exact m0 | exact m1 | exact m2 | exact m3 | exact m4 | exact m5) Try.underlying31 rfl infoStr rfl ?_)) | (go_at_call 23; ((with_reducible refine (HV.out _ F.below).mono ?_); rintro e w1 ⟨rfl, hl⟩; replace F := F.le hl; clear hl)) | (go_at_call 87; ((with_reducible refine (HN.out _ F.below).mono ?_); rintro e w2 ⟨g, rfl, hlp, hl⟩; replace F := F.push (e := lpF _ _ g q) hl hlp (Nat.le_refl _) (Nat.le_refl _); clear hlp hl)) | (go_at_call 93; ((with_reducible refine (HL.out _ _ _ _ (Frg.lp F m0)).mono ?_); rintro e w3 ⟨n, d, rfl, hres, hU⟩; replace hres := hid hres; have FL := hid (F.below.trans (hU.below (fun i hi => Nat.le_trans (F.facts (lpF _ _ _ q) m0).1 hi.1) F.size)); clear hU)))
  go_ret2
  exact ⟨_, _, rfl, hres.out, FL.out⟩
set_option maxRecDepth 100000 in
set_option maxHeartbeats 4000000 in
theorem s_StepsToSilence_no (B : Nat) (s : Value) (x : Nat → Nat) (n : Nat) (k tk : Int) (ta tb tc tx ty : Nat) (dk : Int) (da db dc dx dy l : Nat) (m : Int) (w : World) (hs : RdS w B s x n) (hk : (Lit.int .i64 k).wf = true) (hv : okStr n k tk ta tb tc tx ty dk da db dc dx dy l = false) :
    Calls Try.prog 49 #[.agg #[s, .int .i64 k, .int .i64 tk, .float .f32 ta, .float .f32 tb, .float .f32 tc, .float .f32 tx, .float .f32 ty, .int .i64 dk, .float .f32 da, .float .f32 db, .float .f32 dc, .float .f32 dx, .float .f32 dy, .float .f32 l], .int .i64 m] w (Out_ii 0 1 w) := by
  have HV := hid (fun (w' : World) (g : Nat) (hl : le w w') (R : Row w' g 31 #[s, .int .i64 k, .int .i64 tk, .float .f32 ta, .float .f32 tb, .float .f32 tc, .float .f32 tx, .float .f32 ty, .int .i64 dk, .float .f32 da, .float .f32 db, .float .f32 dc, .float .f32 dx, .float .f32 dy, .float .f32 l]) => hv ▸ s_l03Ok B s x n k tk ta tb tc tx ty dk da db dc dx dy l g w' (hs.le hl) R hk)
  clear hs hk hv
  have F := ((Frg.nil w).box 31 #[s, .int .i64 k, .int .i64 tk, .float .f32 ta, .float .f32 tb, .float .f32 tc, .float .f32 tx, .float .f32 ty, .int .i64 dk, .float .f32 da, .float .f32 db, .float .f32 dc, .float .f32 dx, .float .f32 dy, .float .f32 l])
  go_enter Try.func49, Try.ntmps49
  go_wp2_with (first | (go_at_call 63; ((with_reducible refine (HV.out _ _ F.below (F.row (by first | exact m0 | exact m1 | exact m2 | exact m3 | exact m4 | exact m5))).mono ?_); rintro e w1 ⟨rfl, m, rfl⟩; replace F := F.drewN m)))
  go_ret2
  first | exact ⟨rfl, F.below⟩ | exact ⟨rfl, by rw [← World.drewN_drewN]; exact F.below⟩
set_option maxRecDepth 100000 in
set_option maxHeartbeats 4000000 in
theorem s_StepsToSilence_out (B : Nat) (s : Value) (q : StS) (m : Int) (w : World) (hs : RdS w B s q.x q.n) (ok : q.Ok) (hk : (Lit.int .i64 (q.j : Nat)).wf = true) (hv : okStr q.n (q.j : Nat) 3 q.ta q.tb q.tc q.tx q.ty 2 q.da q.db q.dc q.dx q.dy q.l = true) (hm : m < 0 ∨ 100000 < m) :
    Calls Try.prog 49 #[.agg #[s, .int .i64 (q.j : Nat), .int .i64 3, .float .f32 (q.ta), .float .f32 (q.tb), .float .f32 (q.tc), .float .f32 (q.tx), .float .f32 (q.ty), .int .i64 2, .float .f32 (q.da), .float .f32 (q.db), .float .f32 (q.dc), .float .f32 (q.dx), .float .f32 (q.dy), .float .f32 (q.l)], .int .i64 m] w (Out_ii 0 2 w) := by
  have HV := hid (fun (w' : World) (g : Nat) (hl : le w w') (R : Row w' g 31 #[s, .int .i64 (q.j : Nat), .int .i64 3, .float .f32 (q.ta), .float .f32 (q.tb), .float .f32 (q.tc), .float .f32 (q.tx), .float .f32 (q.ty), .int .i64 2, .float .f32 (q.da), .float .f32 (q.db), .float .f32 (q.dc), .float .f32 (q.dx), .float .f32 (q.dy), .float .f32 (q.l)]) => hv ▸ s_l03Ok B s q.x q.n (q.j : Nat) 3 q.ta q.tb q.tc q.tx q.ty 2 q.da q.db q.dc q.dx q.dy q.l g w' (hs.le hl) R hk)
  have hIn : Hid (∀ w, Calls Try.prog 90 #[.int .i64 m, .int .i64 0, .int .i64 100000] w fun e w' => e = .returned (.bool false) ∧ w = w') := fun w => by
    have h := s_In m 0 100000 w
    rwa [show (decide ((0 : Int) ≤ m) && decide (m ≤ 100000)) = false by rcases hm with h | h; (rw [decide_eq_false (by omega)]; rfl); (rw [Bool.and_eq_false_iff]; exact .inr (decide_eq_false (by omega)))] at h
  clear hs hk hv ok hm
  have F := ((Frg.nil w).box 31 #[s, .int .i64 (q.j : Nat), .int .i64 3, .float .f32 (q.ta), .float .f32 (q.tb), .float .f32 (q.tc), .float .f32 (q.tx), .float .f32 (q.ty), .int .i64 2, .float .f32 (q.da), .float .f32 (q.db), .float .f32 (q.dc), .float .f32 (q.dx), .float .f32 (q.dy), .float .f32 (q.l)])
  go_enter Try.func49, Try.ntmps49
  go_wp2_with (first | (go_at_call 63; ((with_reducible refine (HV.out _ _ F.below (F.row (by first | exact m0 | exact m1 | exact m2 | exact m3 | exact m4 | exact m5))).mono ?_); rintro e w1 ⟨rfl, m, rfl⟩; replace F := F.drewN m)) | (go_at_call 90; ((with_reducible refine (hIn.out _).mono ?_); rintro e w1 ⟨rfl, rfl⟩)))
  go_ret2
  first | exact ⟨rfl, F.below⟩ | exact ⟨rfl, by rw [← World.drewN_drewN]; exact F.below⟩
set_option maxRecDepth 100000 in
set_option maxHeartbeats 4000000 in
theorem s_StepsToSilence_yes (B : Nat) (s : Value) (q : StS) (K : Nat) (w : World) (hs : RdS w B s q.x q.n) (ok : q.Ok) (hk : (Lit.int .i64 (q.j : Nat)).wf = true) (hv : okStr q.n (q.j : Nat) 3 q.ta q.tb q.tc q.tx q.ty 2 q.da q.db q.dc q.dx q.dy q.l = true) (hK : K ≤ 100000) :
    Calls Try.prog 49 #[.agg #[s, .int .i64 (q.j : Nat), .int .i64 3, .float .f32 (q.ta), .float .f32 (q.tb), .float .f32 (q.tc), .float .f32 (q.tx), .float .f32 (q.ty), .int .i64 2, .float .f32 (q.da), .float .f32 (q.db), .float .f32 (q.dc), .float .f32 (q.dx), .float .f32 (q.dy), .float .f32 (q.l)], .int .i64 K] w fun e w' => ∃ n d, e = .returned (.tuple #[.int .i64 n, .int .i64 d]) ∧ ResSS q K n d ∧ le w w' := by
  have HV := hid (fun (w' : World) (g : Nat) (hl : le w w') (R : Row w' g 31 #[s, .int .i64 (q.j : Nat), .int .i64 3, .float .f32 (q.ta), .float .f32 (q.tb), .float .f32 (q.tc), .float .f32 (q.tx), .float .f32 (q.ty), .int .i64 2, .float .f32 (q.da), .float .f32 (q.db), .float .f32 (q.dc), .float .f32 (q.dx), .float .f32 (q.dy), .float .f32 (q.l)]) => hv ▸ s_l03Ok B s q.x q.n (q.j : Nat) 3 q.ta q.tb q.tc q.tx q.ty 2 q.da q.db q.dc q.dx q.dy q.l g w' (hs.le hl) R hk)
  have HCP := hid (fun (w' : World) (g : Nat) (hl : le w w') (R : Row w' g 31 #[s, .int .i64 (q.j : Nat), .int .i64 3, .float .f32 (q.ta), .float .f32 (q.tb), .float .f32 (q.tc), .float .f32 (q.tx), .float .f32 (q.ty), .int .i64 2, .float .f32 (q.da), .float .f32 (q.db), .float .f32 (q.dc), .float .f32 (q.dx), .float .f32 (q.dy), .float .f32 (q.l)]) => s_l03Copy B s q.x q.n (q.j : Nat) 3 q.ta q.tb q.tc q.tx q.ty 2 q.da q.db q.dc q.dx q.dy q.l g w' (hs.le hl) R ok.n1 ok.n2)
  have HO := hid (fun j => ((show q.Fit from ⟨ok, hs.fit⟩).run (fun _ => 0) j).ok)
  have n1 := ok.n1
  have hK1 : (K : Int) ≤ 100000 := by omega
  have hK0 : 0 ≤ (K : Int) := by omega
  have hIn : Hid (∀ w, Calls Try.prog 90 #[.int .i64 K, .int .i64 0, .int .i64 100000] w fun e w' => e = .returned (.bool true) ∧ w = w') := fun w => by
    have h := s_In K 0 100000 w
    rwa [show (decide ((0 : Int) ≤ K) && decide ((K : Int) ≤ 100000)) = true by simp only [Bool.and_eq_true, decide_eq_true_eq]; omega] at h
  clear hs hk hv ok
  have F := ((Frg.nil w).box 31 #[s, .int .i64 (q.j : Nat), .int .i64 3, .float .f32 (q.ta), .float .f32 (q.tb), .float .f32 (q.tc), .float .f32 (q.tx), .float .f32 (q.ty), .int .i64 2, .float .f32 (q.da), .float .f32 (q.db), .float .f32 (q.dc), .float .f32 (q.dx), .float .f32 (q.dy), .float .f32 (q.l)])
  go_enter Try.func49, Try.ntmps49
  go_wp2_with (first | (go_at_call 63; ((with_reducible refine (HV.out _ _ F.below (F.row (by first | exact m0 | exact m1 | exact m2 | exact m3 | exact m4 | exact m5))).mono ?_); rintro e w1 ⟨rfl, m, rfl⟩; replace F := F.drewN m)) | (go_at_call 90; ((with_reducible refine (hIn.out _).mono ?_); rintro e w1 ⟨rfl, rfl⟩)) | (go_at_call 76; ((with_reducible refine (HCP.out _ _ F.below (F.row (by first | exact m0 | exact m1 | exact m2 | exact m3 | exact m4 | exact m5))).mono ?_); rintro e w2 ⟨s', rfl, ho, hl⟩; have OC := hid (OwnS.one ho); replace F := F.own1 hl ho; clear ho hl)) | (refine wpList_storeG F rfl rfl rfl rfl rfl infoStr rfl (one_head OC.out rfl) ?_; clear F; intro W3 F zW; clear zW; replace F := hid (toSpB (B' := w.heap.size + 1) F n1 (by simp [rowF]) (by omega) (by simp))))
  go_loopw [7] (fun i wr => ∃ j : Nat, j ≤ K + 1 ∧ i = .int .i64 j ∧ Hid (∀ m, m < j → silS (goS q (fun _ => 0) m) = false) ∧ Hid (Frg w wr [spF (w.heap.size + 1) (w2.heap.size + 1) w2.heap.size (goS q (fun _ => 0) j), rowF w.heap.size 31 #[s, .int .i64 (q.j : Nat), .int .i64 3, .float .f32 (q.ta), .float .f32 (q.tb), .float .f32 (q.tc), .float .f32 (q.tx), .float .f32 (q.ty), .int .i64 2, .float .f32 (q.da), .float .f32 (q.db), .float .f32 (q.dc), .float .f32 (q.dx), .float .f32 (q.dy), .float .f32 (q.l)]])) (fun i _ => (K + 1) - (intOf i).toNat)
  case atStart => exact ⟨0, by omega, rfl, fun m hm => absurd hm (by omega), F.out⟩
  case round =>
    obtain ⟨j, hj, rfl, HJ, FJ⟩ := hrel
    clear F
    by_cases hlt : j ≤ K
    · have hjK : (j : Int) ≤ K := by omega
      cases hs : silS (goS q (fun _ => 0) j)
      · have hS := hid (fun B' C' g w' (h : SpS w' B' C' g (goS q (fun _ => 0) j)) => s_l03SilentSp B' C' g _ w' h (HO.out j))
        rw [hs] at hS
        replace hs := hid hs
        go_wp2_with (first | (go_at_call 91; ((with_reducible refine (hS.out _ _ _ _ (Frg.sp FJ.out m0)).mono ?_); rintro e w3 ⟨rfl, m3, rfl⟩; replace FJ := hid (FJ.out.drewN m3))) | (go_at_call 86; ((with_reducible refine (s_l03Step _ _ _ _ 0 _ (Frg.sp FJ.out m0) (HO.out j) fits_zero).mono ?_); rintro e w4 ⟨o4, rfl, ho4, fo4, hsp, hch⟩; replace FJ := hid (FJ.out.chg0 (e' := spF _ _ _ (stepS (goS q (fun _ => 0) j) 0)) hch hsp rfl rfl); clear hsp hch ho4 fo4)))
        go_roundw
        case rel => exact ⟨j + 1, by omega, by go_num, fun m hm => by rcases Nat.lt_or_ge m j with h | h; exact HJ.out m h; rw [show m = j by omega]; exact hs.out, FJ⟩
        case measure => simp [intOf]; omega
      · have hS := hid (fun B' C' g w' (h : SpS w' B' C' g (goS q (fun _ => 0) j)) => s_l03SilentSp B' C' g _ w' h (HO.out j))
        rw [hs] at hS
        replace hs := hid hs
        go_wp2_with (first | (go_at_call 91; ((with_reducible refine (hS.out _ _ _ _ (Frg.sp FJ.out m0)).mono ?_); rintro e w3 ⟨rfl, m3, rfl⟩; replace FJ := hid (FJ.out.drewN m3))))
        go_ret2
        exact ⟨_, _, rfl, .inl ⟨j, rfl, rfl, by omega, hs.out, HJ.out⟩, FJ.out.below⟩
    · have hjK : ¬ (j : Int) ≤ K := by omega
      obtain rfl : j = K + 1 := by omega
      go_wp2
      go_ret2
      exact ⟨_, _, rfl, .inr ⟨rfl, rfl, fun i hi => HJ.out i (by omega)⟩, FJ.out.below⟩
theorem both_StepsToSilence (x : Nat → Nat) (n : Nat) (k tk : Int) (ta tb tc tx ty : Nat) (dk : Int) (da db dc dx dy l : Nat) (m : Int) (hw : (Lit.int .i64 k).wf = true ∧ (Lit.int .i64 tk).wf = true ∧ fits .f32 ta ∧ fits .f32 tb ∧ fits .f32 tc ∧ fits .f32 tx ∧ fits .f32 ty ∧ (Lit.int .i64 dk).wf = true ∧ fits .f32 da ∧ fits .f32 db ∧ fits .f32 dc ∧ fits .f32 dx ∧ fits .f32 dy ∧ fits .f32 l) : ∃ (ar0 ar1 : Int), (∀ (w : World) (B : Nat) (u : Value), RdS w B u x n → Calls Try.prog 49 #[.agg #[u, .int .i64 k, .int .i64 tk, .float .f32 ta, .float .f32 tb, .float .f32 tc, .float .f32 tx, .float .f32 ty, .int .i64 dk, .float .f32 da, .float .f32 db, .float .f32 dc, .float .f32 dx, .float .f32 dy, .float .f32 l], .int .i64 m] w (Out_ii ar0 ar1 w)) ∧ (∀ (w : World) (B : Nat) (u : Value), RdS w B u x n → Calls Try.prog 50 #[.agg #[u, .int .i64 k, .int .i64 tk, .float .f32 ta, .float .f32 tb, .float .f32 tc, .float .f32 tx, .float .f32 ty, .int .i64 dk, .float .f32 da, .float .f32 db, .float .f32 dc, .float .f32 dx, .float .f32 dy, .float .f32 l], .int .i64 m] w (Out_ii ar0 ar1 w)) := by
  obtain ⟨hk, _, h1, h2, h3, h4, h5, _, g1, g2, g3, g4, g5, hl⟩ := hw
  cases hv : okStr n k tk ta tb tc tx ty dk da db dc dx dy l
  · exact ⟨0, 1, fun w B u h => s_StepsToSilence_no B u x n k tk ta tb tc tx ty dk da db dc dx dy l m w h hk hv, fun w B u h => i_StepsToSilence_no B u x n k tk ta tb tc tx ty dk da db dc dx dy l m w h ⟨h1, h2, h3, h4, h5⟩ ⟨g1, g2, g3, g4, g5⟩ hl hv⟩
  · obtain ⟨j, rfl, rfl, rfl, ok⟩ := okStr_q (x := x) hv ⟨h1, h2, h3, h4, h5⟩ ⟨g1, g2, g3, g4, g5⟩ hl
    by_cases hm : m < 0 ∨ 100000 < m
    · exact ⟨_, _, fun w B u h => s_StepsToSilence_out B u (⟨x, n, j, ta, tb, tc, tx, ty, da, db, dc, dx, dy, l⟩ : StS) m w h ok hk hv hm, fun w B u h => i_StepsToSilence_out B u (⟨x, n, j, ta, tb, tc, tx, ty, da, db, dc, dx, dy, l⟩ : StS) m w h ok hv hm⟩
    · obtain ⟨K, rfl⟩ : ∃ K : Nat, m = K := ⟨m.toNat, by omega⟩
      obtain ⟨n0, d0, hr⟩ := ResSS.ex (⟨x, n, j, ta, tb, tc, tx, ty, da, db, dc, dx, dy, l⟩ : StS) K
      refine ⟨n0, d0, fun w B u h => (s_StepsToSilence_yes B u (⟨x, n, j, ta, tb, tc, tx, ty, da, db, dc, dx, dy, l⟩ : StS) K w h ok hk hv (by omega)).mono ?_, fun w B u h => (i_StepsToSilence_yes B u (⟨x, n, j, ta, tb, tc, tx, ty, da, db, dc, dx, dy, l⟩ : StS) K w h ok hv (by omega)).mono ?_⟩
      all_goals
        rintro e w' ⟨n1, d1, rfl, hr1, hl1⟩
        obtain ⟨rfl, rfl⟩ := hr.one hr1
        exact ⟨rfl, hl1⟩
end Go.Proofs.Ytaenbpkcehenkac

/- What grows by append, beside facts of memory. Nothing here names a program. -/
namespace Go.Fk
open Go Go.RowKit
theorem ownsRow_chS {S : Nat → Prop} {w w' : World} {e : TypeId} {n B : Nat} {xs : List Value} {v : Value} (hw : Chg S w w') (h : w.ownsRow B e 1 v n xs) (hS : ∀ i, S i → i < B) : w'.ownsRow B e 1 v n xs := by
  obtain ⟨h1, h2⟩ := h
  refine ⟨h1, ?_⟩
  rcases h2 with h2 | ⟨q, cap, cur, e1, e2, e3, e4⟩
  · exact .inl h2
  · exact .inr ⟨q, cap, cur, e1, e2, by have := hw.row (g := q) (t := e) (cs := cur) e3 (fun hq => by have := hS q hq; omega); exact this, e4⟩
theorem ownBlock_ge {w : World} {B : Nat} {e : TypeId} {z : Nat} {v : Value} {n : Nat} {xs : List Value} (h : w.ownsRow B e z v n xs) : ∀ k, v.ownBlock = some k → B ≤ k := by
  rcases h.2 with ⟨rfl, _⟩ | ⟨q, cap, cur, rfl, hb, _⟩
  · intro k hk; cases hk
  · intro k hk; simp only [Value.ownBlock, Option.some.injEq] at hk; omega
theorem chg_grown {w w' : World} {row : Option Nat} {B : Nat} (h : w.grownBy w' row) (hr : ∀ k, row = some k → B ≤ k) : Chg (B ≤ ·) w w' :=
  ⟨h.os, h.tape, h.output, h.size, fun k hk hn => h.block k hk (fun e => hn (hr k e.symm))⟩
theorem Frg.up {w0 w w' : World} {L : List Fact} {B : Nat} (h : Frg w0 w L) (k : Chg (B ≤ ·) w w') (hB : ∀ e ∈ L, e.hi ≤ B) (h0 : w0.heap.size ≤ B) : Frg w0 w' L :=
  ⟨h.below.trans (k.below (fun i hi => Nat.le_trans h0 hi) h.size), fun e he => by
    obtain ⟨h1, h2, h3⟩ := h.facts e he
    exact ⟨h1, Nat.le_trans h2 k.size, e.ok w w' h3 (fun i _ hi => k.block i (by omega) (fun hb => by have := hB e he; omega))⟩, h.apart⟩
theorem flist_snoc (y : Nat → Nat) (n a : Nat) : flist y n ++ [.float .f32 a] = flist (fun j => if j = n then a else y j) (n + 1) := by
  have h := flist_app y (fun _ => a) n 1
  have h1 : flist (fun _ => a) 1 = [.float .f32 a] := by simp [flist]
  rw [h1] at h
  rw [h]
  apply List.ext_getElem?
  intro i
  by_cases hi : i < n + 1
  · rw [flist_get' _ hi, flist_get' _ hi]
    by_cases e : i = n
    · simp [e]
    · simp [e, show i < n by omega]
  · rw [List.getElem?_eq_none (by rw [flist_length]; omega), List.getElem?_eq_none (by rw [flist_length]; omega)]
theorem Frg.own2 {w0 w w' : World} {L : List Fact} {q n n' : Nat} {s s' : Value} {x x' : Nat → Nat} (h : Frg w0 w L) (k : Below w.heap.size w w') (h1 : w.heap.size ≤ q) (h2 : q ≤ w'.heap.size) (o1 : OwnS w' w.heap.size q s x n) (o2 : OwnS w' q w'.heap.size s' x' n') :
    Frg w0 w' (ownF q w'.heap.size s' x' n' :: ownF w.heap.size q s x n :: L) := by
  refine ⟨(h.le k).below, fun e he => ?_, .cons (fun e he => ?_) (.cons (fun e he => (h.facts e he).2.1) h.apart)⟩
  · rcases List.mem_cons.1 he with rfl | he
    · exact ⟨Nat.le_trans h.size h1, Nat.le_refl _, o2⟩
    · rcases List.mem_cons.1 he with rfl | he
      · exact ⟨h.size, h2, o1⟩
      · exact (h.le k).facts e he
  · rcases List.mem_cons.1 he with rfl | he
    · exact Nat.le_refl q
    · exact Nat.le_trans (h.facts e he).2.1 h1
theorem m12 {b0 b1 b2 b3 b4 b5 b6 b7 b8 b9 b10 b11 a : Fact} {l : List Fact} : a ∈ b0 :: b1 :: b2 :: b3 :: b4 :: b5 :: b6 :: b7 :: b8 :: b9 :: b10 :: b11 :: a :: l := List.mem_cons_of_mem _ (List.mem_cons_of_mem _ (List.mem_cons_of_mem _ (List.mem_cons_of_mem _ (List.mem_cons_of_mem _ (List.mem_cons_of_mem _ (List.mem_cons_of_mem _ (List.mem_cons_of_mem _ (List.mem_cons_of_mem _ (List.mem_cons_of_mem _ (List.mem_cons_of_mem _ (List.mem_cons_of_mem _ (List.mem_cons_self))))))))))))
theorem m13 {b0 b1 b2 b3 b4 b5 b6 b7 b8 b9 b10 b11 b12 a : Fact} {l : List Fact} : a ∈ b0 :: b1 :: b2 :: b3 :: b4 :: b5 :: b6 :: b7 :: b8 :: b9 :: b10 :: b11 :: b12 :: a :: l := List.mem_cons_of_mem _ (List.mem_cons_of_mem _ (List.mem_cons_of_mem _ (List.mem_cons_of_mem _ (List.mem_cons_of_mem _ (List.mem_cons_of_mem _ (List.mem_cons_of_mem _ (List.mem_cons_of_mem _ (List.mem_cons_of_mem _ (List.mem_cons_of_mem _ (List.mem_cons_of_mem _ (List.mem_cons_of_mem _ (List.mem_cons_of_mem _ (List.mem_cons_self)))))))))))))
theorem m14 {b0 b1 b2 b3 b4 b5 b6 b7 b8 b9 b10 b11 b12 b13 a : Fact} {l : List Fact} : a ∈ b0 :: b1 :: b2 :: b3 :: b4 :: b5 :: b6 :: b7 :: b8 :: b9 :: b10 :: b11 :: b12 :: b13 :: a :: l := List.mem_cons_of_mem _ (List.mem_cons_of_mem _ (List.mem_cons_of_mem _ (List.mem_cons_of_mem _ (List.mem_cons_of_mem _ (List.mem_cons_of_mem _ (List.mem_cons_of_mem _ (List.mem_cons_of_mem _ (List.mem_cons_of_mem _ (List.mem_cons_of_mem _ (List.mem_cons_of_mem _ (List.mem_cons_of_mem _ (List.mem_cons_of_mem _ (List.mem_cons_of_mem _ (List.mem_cons_self))))))))))))))
theorem m15 {b0 b1 b2 b3 b4 b5 b6 b7 b8 b9 b10 b11 b12 b13 b14 a : Fact} {l : List Fact} : a ∈ b0 :: b1 :: b2 :: b3 :: b4 :: b5 :: b6 :: b7 :: b8 :: b9 :: b10 :: b11 :: b12 :: b13 :: b14 :: a :: l := List.mem_cons_of_mem _ (List.mem_cons_of_mem _ (List.mem_cons_of_mem _ (List.mem_cons_of_mem _ (List.mem_cons_of_mem _ (List.mem_cons_of_mem _ (List.mem_cons_of_mem _ (List.mem_cons_of_mem _ (List.mem_cons_of_mem _ (List.mem_cons_of_mem _ (List.mem_cons_of_mem _ (List.mem_cons_of_mem _ (List.mem_cons_of_mem _ (List.mem_cons_of_mem _ (List.mem_cons_of_mem _ (List.mem_cons_self)))))))))))))))
theorem m16 {b0 b1 b2 b3 b4 b5 b6 b7 b8 b9 b10 b11 b12 b13 b14 b15 a : Fact} {l : List Fact} : a ∈ b0 :: b1 :: b2 :: b3 :: b4 :: b5 :: b6 :: b7 :: b8 :: b9 :: b10 :: b11 :: b12 :: b13 :: b14 :: b15 :: a :: l := List.mem_cons_of_mem _ (List.mem_cons_of_mem _ (List.mem_cons_of_mem _ (List.mem_cons_of_mem _ (List.mem_cons_of_mem _ (List.mem_cons_of_mem _ (List.mem_cons_of_mem _ (List.mem_cons_of_mem _ (List.mem_cons_of_mem _ (List.mem_cons_of_mem _ (List.mem_cons_of_mem _ (List.mem_cons_of_mem _ (List.mem_cons_of_mem _ (List.mem_cons_of_mem _ (List.mem_cons_of_mem _ (List.mem_cons_of_mem _ (List.mem_cons_self))))))))))))))))
theorem m17 {b0 b1 b2 b3 b4 b5 b6 b7 b8 b9 b10 b11 b12 b13 b14 b15 b16 a : Fact} {l : List Fact} : a ∈ b0 :: b1 :: b2 :: b3 :: b4 :: b5 :: b6 :: b7 :: b8 :: b9 :: b10 :: b11 :: b12 :: b13 :: b14 :: b15 :: b16 :: a :: l := List.mem_cons_of_mem _ (List.mem_cons_of_mem _ (List.mem_cons_of_mem _ (List.mem_cons_of_mem _ (List.mem_cons_of_mem _ (List.mem_cons_of_mem _ (List.mem_cons_of_mem _ (List.mem_cons_of_mem _ (List.mem_cons_of_mem _ (List.mem_cons_of_mem _ (List.mem_cons_of_mem _ (List.mem_cons_of_mem _ (List.mem_cons_of_mem _ (List.mem_cons_of_mem _ (List.mem_cons_of_mem _ (List.mem_cons_of_mem _ (List.mem_cons_of_mem _ (List.mem_cons_self)))))))))))))))))
theorem m18 {b0 b1 b2 b3 b4 b5 b6 b7 b8 b9 b10 b11 b12 b13 b14 b15 b16 b17 a : Fact} {l : List Fact} : a ∈ b0 :: b1 :: b2 :: b3 :: b4 :: b5 :: b6 :: b7 :: b8 :: b9 :: b10 :: b11 :: b12 :: b13 :: b14 :: b15 :: b16 :: b17 :: a :: l := List.mem_cons_of_mem _ (List.mem_cons_of_mem _ (List.mem_cons_of_mem _ (List.mem_cons_of_mem _ (List.mem_cons_of_mem _ (List.mem_cons_of_mem _ (List.mem_cons_of_mem _ (List.mem_cons_of_mem _ (List.mem_cons_of_mem _ (List.mem_cons_of_mem _ (List.mem_cons_of_mem _ (List.mem_cons_of_mem _ (List.mem_cons_of_mem _ (List.mem_cons_of_mem _ (List.mem_cons_of_mem _ (List.mem_cons_of_mem _ (List.mem_cons_of_mem _ (List.mem_cons_of_mem _ (List.mem_cons_self))))))))))))))))))
theorem m19 {b0 b1 b2 b3 b4 b5 b6 b7 b8 b9 b10 b11 b12 b13 b14 b15 b16 b17 b18 a : Fact} {l : List Fact} : a ∈ b0 :: b1 :: b2 :: b3 :: b4 :: b5 :: b6 :: b7 :: b8 :: b9 :: b10 :: b11 :: b12 :: b13 :: b14 :: b15 :: b16 :: b17 :: b18 :: a :: l := List.mem_cons_of_mem _ (List.mem_cons_of_mem _ (List.mem_cons_of_mem _ (List.mem_cons_of_mem _ (List.mem_cons_of_mem _ (List.mem_cons_of_mem _ (List.mem_cons_of_mem _ (List.mem_cons_of_mem _ (List.mem_cons_of_mem _ (List.mem_cons_of_mem _ (List.mem_cons_of_mem _ (List.mem_cons_of_mem _ (List.mem_cons_of_mem _ (List.mem_cons_of_mem _ (List.mem_cons_of_mem _ (List.mem_cons_of_mem _ (List.mem_cons_of_mem _ (List.mem_cons_of_mem _ (List.mem_cons_of_mem _ (List.mem_cons_self)))))))))))))))))))
theorem Frg.mark10 {w0 w w' : World} {lo hi n : Nat} {s : Value} {x x' : Nat → Nat} {l : List Fact} {b0 b1 b2 b3 b4 b5 b6 b7 b8 b9 : Fact} (h : Frg w0 w (b0 :: b1 :: b2 :: b3 :: b4 :: b5 :: b6 :: b7 :: b8 :: b9 :: ownF lo hi s x n :: l)) (hp : OwnS w' lo hi s x' n) (k : Chg (rng lo hi) w w') : Frg w0 w' (b0 :: b1 :: b2 :: b3 :: b4 :: b5 :: b6 :: b7 :: b8 :: b9 :: ownF lo hi s x' n :: l) :=
  Frg.chg [b0, b1, b2, b3, b4, b5, b6, b7, b8, b9] (e := ownF lo hi s x n) (e' := ownF lo hi s x' n) h k hp rfl rfl
theorem Frg.mark11 {w0 w w' : World} {lo hi n : Nat} {s : Value} {x x' : Nat → Nat} {l : List Fact} {b0 b1 b2 b3 b4 b5 b6 b7 b8 b9 b10 : Fact} (h : Frg w0 w (b0 :: b1 :: b2 :: b3 :: b4 :: b5 :: b6 :: b7 :: b8 :: b9 :: b10 :: ownF lo hi s x n :: l)) (hp : OwnS w' lo hi s x' n) (k : Chg (rng lo hi) w w') : Frg w0 w' (b0 :: b1 :: b2 :: b3 :: b4 :: b5 :: b6 :: b7 :: b8 :: b9 :: b10 :: ownF lo hi s x' n :: l) :=
  Frg.chg [b0, b1, b2, b3, b4, b5, b6, b7, b8, b9, b10] (e := ownF lo hi s x n) (e' := ownF lo hi s x' n) h k hp rfl rfl
theorem Frg.mark12 {w0 w w' : World} {lo hi n : Nat} {s : Value} {x x' : Nat → Nat} {l : List Fact} {b0 b1 b2 b3 b4 b5 b6 b7 b8 b9 b10 b11 : Fact} (h : Frg w0 w (b0 :: b1 :: b2 :: b3 :: b4 :: b5 :: b6 :: b7 :: b8 :: b9 :: b10 :: b11 :: ownF lo hi s x n :: l)) (hp : OwnS w' lo hi s x' n) (k : Chg (rng lo hi) w w') : Frg w0 w' (b0 :: b1 :: b2 :: b3 :: b4 :: b5 :: b6 :: b7 :: b8 :: b9 :: b10 :: b11 :: ownF lo hi s x' n :: l) :=
  Frg.chg [b0, b1, b2, b3, b4, b5, b6, b7, b8, b9, b10, b11] (e := ownF lo hi s x n) (e' := ownF lo hi s x' n) h k hp rfl rfl
theorem Frg.mark13 {w0 w w' : World} {lo hi n : Nat} {s : Value} {x x' : Nat → Nat} {l : List Fact} {b0 b1 b2 b3 b4 b5 b6 b7 b8 b9 b10 b11 b12 : Fact} (h : Frg w0 w (b0 :: b1 :: b2 :: b3 :: b4 :: b5 :: b6 :: b7 :: b8 :: b9 :: b10 :: b11 :: b12 :: ownF lo hi s x n :: l)) (hp : OwnS w' lo hi s x' n) (k : Chg (rng lo hi) w w') : Frg w0 w' (b0 :: b1 :: b2 :: b3 :: b4 :: b5 :: b6 :: b7 :: b8 :: b9 :: b10 :: b11 :: b12 :: ownF lo hi s x' n :: l) :=
  Frg.chg [b0, b1, b2, b3, b4, b5, b6, b7, b8, b9, b10, b11, b12] (e := ownF lo hi s x n) (e' := ownF lo hi s x' n) h k hp rfl rfl
theorem Frg.mark14 {w0 w w' : World} {lo hi n : Nat} {s : Value} {x x' : Nat → Nat} {l : List Fact} {b0 b1 b2 b3 b4 b5 b6 b7 b8 b9 b10 b11 b12 b13 : Fact} (h : Frg w0 w (b0 :: b1 :: b2 :: b3 :: b4 :: b5 :: b6 :: b7 :: b8 :: b9 :: b10 :: b11 :: b12 :: b13 :: ownF lo hi s x n :: l)) (hp : OwnS w' lo hi s x' n) (k : Chg (rng lo hi) w w') : Frg w0 w' (b0 :: b1 :: b2 :: b3 :: b4 :: b5 :: b6 :: b7 :: b8 :: b9 :: b10 :: b11 :: b12 :: b13 :: ownF lo hi s x' n :: l) :=
  Frg.chg [b0, b1, b2, b3, b4, b5, b6, b7, b8, b9, b10, b11, b12, b13] (e := ownF lo hi s x n) (e' := ownF lo hi s x' n) h k hp rfl rfl
theorem Frg.mark15 {w0 w w' : World} {lo hi n : Nat} {s : Value} {x x' : Nat → Nat} {l : List Fact} {b0 b1 b2 b3 b4 b5 b6 b7 b8 b9 b10 b11 b12 b13 b14 : Fact} (h : Frg w0 w (b0 :: b1 :: b2 :: b3 :: b4 :: b5 :: b6 :: b7 :: b8 :: b9 :: b10 :: b11 :: b12 :: b13 :: b14 :: ownF lo hi s x n :: l)) (hp : OwnS w' lo hi s x' n) (k : Chg (rng lo hi) w w') : Frg w0 w' (b0 :: b1 :: b2 :: b3 :: b4 :: b5 :: b6 :: b7 :: b8 :: b9 :: b10 :: b11 :: b12 :: b13 :: b14 :: ownF lo hi s x' n :: l) :=
  Frg.chg [b0, b1, b2, b3, b4, b5, b6, b7, b8, b9, b10, b11, b12, b13, b14] (e := ownF lo hi s x n) (e' := ownF lo hi s x' n) h k hp rfl rfl
theorem Frg.mark16 {w0 w w' : World} {lo hi n : Nat} {s : Value} {x x' : Nat → Nat} {l : List Fact} {b0 b1 b2 b3 b4 b5 b6 b7 b8 b9 b10 b11 b12 b13 b14 b15 : Fact} (h : Frg w0 w (b0 :: b1 :: b2 :: b3 :: b4 :: b5 :: b6 :: b7 :: b8 :: b9 :: b10 :: b11 :: b12 :: b13 :: b14 :: b15 :: ownF lo hi s x n :: l)) (hp : OwnS w' lo hi s x' n) (k : Chg (rng lo hi) w w') : Frg w0 w' (b0 :: b1 :: b2 :: b3 :: b4 :: b5 :: b6 :: b7 :: b8 :: b9 :: b10 :: b11 :: b12 :: b13 :: b14 :: b15 :: ownF lo hi s x' n :: l) :=
  Frg.chg [b0, b1, b2, b3, b4, b5, b6, b7, b8, b9, b10, b11, b12, b13, b14, b15] (e := ownF lo hi s x n) (e' := ownF lo hi s x' n) h k hp rfl rfl
end Go.Fk

/- 'RunFilter' of both. -/
namespace Go.Fk
open Go Go.RowKit
/-- The states of a filter that gets samples. -/
def runS (k : Int) (a b c x y : Nat) (z : Nat → Nat) : Nat → Nat × Nat
  | 0 => (x, y)
  | n + 1 => (st0 k a b c (runS k a b c x y z n).1 (runS k a b c x y z n).2 (z n), st1 k a b c (runS k a b c x y z n).1 (runS k a b c x y z n).2 (z n))
theorem okF_runS {k : Int} {a b c x y : Nat} (z : Nat → Nat) (h : okF k a b c x y = true) (n : Nat) : okF k a b c (runS k a b c x y z n).1 (runS k a b c x y z n).2 = true := by
  induction n with
  | zero => exact h
  | succ n ih => exact okF_step ih
theorem fits_runS {k : Int} {a b c x y : Nat} {z : Nat → Nat} {N : Nat} (hx : fits .f32 x) (hy : fits .f32 y) (hz : ∀ j, j < N → fits .f32 (z j)) (n : Nat) (hn : n ≤ N) : fits .f32 (runS k a b c x y z n).1 ∧ fits .f32 (runS k a b c x y z n).2 := by
  induction n with
  | zero => exact ⟨hx, hy⟩
  | succ n ih => exact ⟨fits_st0 (hz n (by omega)) (fits_outF _ _ _ _ _ _ _), fits_st1 (ih (by omega)).1⟩
/-- What a filter makes of the n-th sample. -/
def runO (k : Int) (a b c x y : Nat) (z : Nat → Nat) (n : Nat) : Nat := outF k a b c (runS k a b c x y z n).1 (runS k a b c x y z n).2 (z n)
def OutRF (k : Int) (a b c x y : Nat) (z : Nat → Nat) (w : World) (e : Ending) (w' : World) : Prop := ∃ h : Nat → Nat, e = .returned (.tuple #[(.agg #[.int .i64 k, .float .f32 a, .float .f32 b, .float .f32 c, .float .f32 (runS k a b c x y z 16).1, .float .f32 (runS k a b c x y z 16).2]), .agg (ftab .f32 h 16), .int .i64 0]) ∧ (∀ j, j < 16 → can .f32 (h j) = runO k a b c x y z j) ∧ le w w'
/-- So many outputs, then the inputs. -/
def upto (j : Nat) (h z : Nat → Nat) : Nat → Nat := fun i => if i < j then h i else z i
theorem upto_zero (h z : Nat → Nat) : upto 0 h z = z := by funext i; simp [upto]
theorem upto_set (j : Nat) (h z : Nat → Nat) (r : Nat) : (fun i => if i = j then r else upto j h z i) = upto (j + 1) (fun i => if i = j then r else h i) z := by
  funext i
  unfold upto
  by_cases e : i = j
  · subst e; simp
  · by_cases l : i < j
    · simp [e, l, show i < j + 1 by omega]
    · simp [e, l, show ¬ i < j + 1 by omega]
theorem upto_full (h z : Nat → Nat) : ftab .f32 (upto 16 h z) 16 = ftab .f32 h 16 := ftab_congr (fun j hj => if_pos hj)
end Go.Fk
namespace Go.Proofs.Ytaenbpkcehenkac
open Go.RowKit Go.Fk
end Go.Proofs.Ytaenbpkcehenkac

/- 'PlayString' of both. -/
namespace Go.Proofs.Ytaenbpkcehenkac
open Go.RowKit Go.Fk
set_option maxRecDepth 100000 in
set_option maxHeartbeats 4000000 in
theorem i_PlayString_no (B : Nat) (s : Value) (x : Nat → Nat) (n : Nat) (k tk : Int) (ta tb tc tx ty : Nat) (dk : Int) (da db dc dx dy l : Nat) (m : Int) (w : World) (hs : RdS w B s x n) (hf : fits .f32 ta ∧ fits .f32 tb ∧ fits .f32 tc ∧ fits .f32 tx ∧ fits .f32 ty) (hg : fits .f32 da ∧ fits .f32 db ∧ fits .f32 dc ∧ fits .f32 dx ∧ fits .f32 dy) (hl2 : fits .f32 l) (hv : okStr n k tk ta tb tc tx ty dk da db dc dx dy l = false) :
    Calls Try.prog 39 #[.agg #[s, .int .i64 k, .int .i64 tk, .float .f32 ta, .float .f32 tb, .float .f32 tc, .float .f32 tx, .float .f32 ty, .int .i64 dk, .float .f32 da, .float .f32 db, .float .f32 dc, .float .f32 dx, .float .f32 dy, .float .f32 l], .int .i64 m] w (Out_sli (fun _ => 0) 0 0 0 0 0 0 0 0 0 0 0 0 0 0 0 (fun _ => 0) 0 1 w) := by
  have HV := hid (fun (w' : World) (hl : le w w') => hv ▸ i_ValidStringR B s x n k tk ta tb tc tx ty dk da db dc dx dy l w' (hs.le hl) hf hg hl2)
  clear hs hv hf hg hl2
  have F := (((Frg.nil w).box 31 #[s, .int .i64 k, .int .i64 tk, .float .f32 ta, .float .f32 tb, .float .f32 tc, .float .f32 tx, .float .f32 ty, .int .i64 dk, .float .f32 da, .float .f32 db, .float .f32 dc, .float .f32 dx, .float .f32 dy, .float .f32 l]).box 31 #[.slice none 0 0, .int .i64 0, .int .i64 0, .float .f32 0, .float .f32 0, .float .f32 0, .float .f32 0, .float .f32 0, .int .i64 0, .float .f32 0, .float .f32 0, .float .f32 0, .float .f32 0, .float .f32 0, .float .f32 0])
  simp only [World.size_alloc] at F
  go_enter Try.func39, Try.ntmps39
  go_wp2_with (first | ((with_reducible refine at_loadU rfl rfl ?_); (with_reducible refine wpList_loadG F rfl rfl rfl (by first | exact m0 | exact m1 | exact m2 | exact m3 | exact m4 | exact m5) Try.underlying31 rfl infoStr rfl ?_)) | (go_at_call 23; ((with_reducible refine (HV.out _ F.below).mono ?_); rintro e w1 ⟨rfl, hl⟩; replace F := F.le hl; clear hl)) | ((with_reducible refine stop_store rfl ?_)))
  show wpList _ _ _ _ _ _
  refine wpList_storeD rfl rfl rfl (cells := #[.slice none 0 0, .int .i64 0, .int .i64 0, .float .f32 0, .float .f32 0, .float .f32 0, .float .f32 0, .float .f32 0, .int .i64 0, .float .f32 0, .float .f32 0, .float .f32 0, .float .f32 0, .float .f32 0, .float .f32 0]) rfl (F.row m0) infoStr rfl (by simp [Value.oneCell']) (fun w4 K => ?_)
  have R := hid K.row
  have L := hid (F.wr0 K).below
  clear K F
  go_wp2
  exact bodyPost_ret (results_row3 rfl _ _ _ _ _ rfl R.out Try.underlying31 rfl infoStr) rfl ⟨_, _, w4.heap.size, rfl, .inl ⟨rfl, rfl⟩, .inl ⟨rfl, rfl⟩, L.out.size, Nat.le_refl _, L.out⟩
set_option maxRecDepth 100000 in
set_option maxHeartbeats 4000000 in
theorem i_PlayString_out (B : Nat) (s : Value) (q : StS) (m : Int) (w : World) (hs : RdS w B s q.x q.n) (ok : q.Ok) (hv : okStr q.n (q.j : Nat) 3 q.ta q.tb q.tc q.tx q.ty 2 q.da q.db q.dc q.dx q.dy q.l = true) (hm : m < 0 ∨ 4096 < m) :
    Calls Try.prog 39 #[.agg #[s, .int .i64 (q.j : Nat), .int .i64 3, .float .f32 (q.ta), .float .f32 (q.tb), .float .f32 (q.tc), .float .f32 (q.tx), .float .f32 (q.ty), .int .i64 2, .float .f32 (q.da), .float .f32 (q.db), .float .f32 (q.dc), .float .f32 (q.dx), .float .f32 (q.dy), .float .f32 (q.l)], .int .i64 m] w (Out_sli (fun _ => 0) 0 0 0 0 0 0 0 0 0 0 0 0 0 0 0 (fun _ => 0) 0 2 w) := by
  have HV := hid (fun (w' : World) (hl : le w w') => hv ▸ i_ValidStringR B s q.x q.n (q.j : Nat) 3 q.ta q.tb q.tc q.tx q.ty 2 q.da q.db q.dc q.dx q.dy q.l w' (hs.le hl) ⟨ok.fta, ok.ftb, ok.ftc, ok.ftx, ok.fty⟩ ⟨ok.fda, ok.fdb, ok.fdc, ok.fdx, ok.fdy⟩ ok.fl)
  clear hs hv ok
  rcases (show m < 0 ∨ (¬ m < 0 ∧ 4096 < m) by omega) with h | ⟨h, h'⟩
  all_goals
    clear hm
    have F := (((Frg.nil w).box 31 #[s, .int .i64 (q.j : Nat), .int .i64 3, .float .f32 (q.ta), .float .f32 (q.tb), .float .f32 (q.tc), .float .f32 (q.tx), .float .f32 (q.ty), .int .i64 2, .float .f32 (q.da), .float .f32 (q.db), .float .f32 (q.dc), .float .f32 (q.dx), .float .f32 (q.dy), .float .f32 (q.l)]).box 31 #[.slice none 0 0, .int .i64 0, .int .i64 0, .float .f32 0, .float .f32 0, .float .f32 0, .float .f32 0, .float .f32 0, .int .i64 0, .float .f32 0, .float .f32 0, .float .f32 0, .float .f32 0, .float .f32 0, .float .f32 0])
    simp only [World.size_alloc] at F
    go_enter Try.func39, Try.ntmps39
    go_wp2_with (first | ((with_reducible refine at_loadU rfl rfl ?_); (with_reducible refine wpList_loadG F rfl rfl rfl (by first | exact m0 | exact m1 | exact m2 | exact m3 | exact m4 | exact m5) Try.underlying31 rfl infoStr rfl ?_)) | (go_at_call 23; ((with_reducible refine (HV.out _ F.below).mono ?_); rintro e w1 ⟨rfl, hl⟩; replace F := F.le hl; clear hl)) | ((with_reducible refine stop_store rfl ?_)))
    show wpList _ _ _ _ _ _
    refine wpList_storeD rfl rfl rfl (cells := #[.slice none 0 0, .int .i64 0, .int .i64 0, .float .f32 0, .float .f32 0, .float .f32 0, .float .f32 0, .float .f32 0, .int .i64 0, .float .f32 0, .float .f32 0, .float .f32 0, .float .f32 0, .float .f32 0, .float .f32 0]) rfl (F.row m0) infoStr rfl (by simp [Value.oneCell']) (fun w4 K => ?_)
    have R := hid K.row
    have L := hid (F.wr0 K).below
    clear K F
    go_wp2
    exact bodyPost_ret (results_row3 rfl _ _ _ _ _ rfl R.out Try.underlying31 rfl infoStr) rfl ⟨_, _, w4.heap.size, rfl, .inl ⟨rfl, rfl⟩, .inl ⟨rfl, rfl⟩, L.out.size, Nat.le_refl _, L.out⟩
set_option maxRecDepth 100000 in
set_option maxHeartbeats 4000000 in
theorem i_PlayString_yes (B : Nat) (s : Value) (q : StS) (K : Nat) (w : World) (hs : RdS w B s q.x q.n) (ok : q.Ok) (hv : okStr q.n (q.j : Nat) 3 q.ta q.tb q.tc q.tx q.ty 2 q.da q.db q.dc q.dx q.dy q.l = true) (hK : K ≤ 4096) :
    Calls Try.prog 39 #[.agg #[s, .int .i64 (q.j : Nat), .int .i64 3, .float .f32 (q.ta), .float .f32 (q.tb), .float .f32 (q.tc), .float .f32 (q.tx), .float .f32 (q.ty), .int .i64 2, .float .f32 (q.da), .float .f32 (q.db), .float .f32 (q.dc), .float .f32 (q.dx), .float .f32 (q.dy), .float .f32 (q.l)], .int .i64 (K : Int)] w (Out_sli ((goS q (fun _ => 0) K)).x ((goS q (fun _ => 0) K)).n (((goS q (fun _ => 0) K)).j : Nat) 3 (((goS q (fun _ => 0) K)).ta) (((goS q (fun _ => 0) K)).tb) (((goS q (fun _ => 0) K)).tc) (((goS q (fun _ => 0) K)).tx) (((goS q (fun _ => 0) K)).ty) 2 (((goS q (fun _ => 0) K)).da) (((goS q (fun _ => 0) K)).db) (((goS q (fun _ => 0) K)).dc) (((goS q (fun _ => 0) K)).dx) (((goS q (fun _ => 0) K)).dy) ((goS q (fun _ => 0) K)).l (outS q (fun _ => 0)) K 0 w) := by
  have HV := hid (fun (w' : World) (hl : le w w') => hv ▸ i_ValidStringR B s q.x q.n (q.j : Nat) 3 q.ta q.tb q.tc q.tx q.ty 2 q.da q.db q.dc q.dx q.dy q.l w' (hs.le hl) ⟨ok.fta, ok.ftb, ok.ftc, ok.ftx, ok.fty⟩ ⟨ok.fda, ok.fdb, ok.fdc, ok.fdx, ok.fdy⟩ ok.fl)
  have HN := hid (fun (w' : World) (hl : le w w') => i_newLoop B s q w' (hs.le hl) ok)
  have HB := hid (fun (w' : World) (B' C' g : Nat) (h : LpS w' B' C' g (goS q (fun _ => 0) K)) => show Calls Try.prog 89 #[.pointer (some ⟨g, 0, none⟩), .agg #[s, .int .i64 (q.j : Nat), .int .i64 3, .float .f32 (q.ta), .float .f32 (q.tb), .float .f32 (q.tc), .float .f32 (q.tx), .float .f32 (q.ty), .int .i64 2, .float .f32 (q.da), .float .f32 (q.db), .float .f32 (q.dc), .float .f32 (q.dx), .float .f32 (q.dy), .float .f32 (q.l)]] w' fun e w'' => ∃ s' lo hi, e = .returned (.agg #[s', .int .i64 ((goS q (fun _ => 0) K).j : Nat), .int .i64 3, .float .f32 ((goS q (fun _ => 0) K).ta), .float .f32 ((goS q (fun _ => 0) K).tb), .float .f32 ((goS q (fun _ => 0) K).tc), .float .f32 ((goS q (fun _ => 0) K).tx), .float .f32 ((goS q (fun _ => 0) K).ty), .int .i64 2, .float .f32 ((goS q (fun _ => 0) K).da), .float .f32 ((goS q (fun _ => 0) K).db), .float .f32 ((goS q (fun _ => 0) K).dc), .float .f32 ((goS q (fun _ => 0) K).dx), .float .f32 ((goS q (fun _ => 0) K).dy), .float .f32 ((goS q (fun _ => 0) K).l)]) ∧ OwnS w'' lo hi s' (goS q (fun _ => 0) K).x (goS q (fun _ => 0) K).n ∧ B' ≤ lo ∧ hi ≤ C' ∧ le w' w'' from by
    have hb := i_behind B' C' g (goS q (fun _ => 0) K) s (q.j : Nat) q.tx q.ty q.dx q.dy w' h
    rw [goS_ta, goS_tb, goS_tc, goS_da, goS_db, goS_dc, goS_l] at hb
    rw [goS_ta, goS_tb, goS_tc, goS_da, goS_db, goS_dc, goS_l]
    exact hb)
  have HO := hid (fun j => ((show q.Fit from ⟨ok, hs.fit⟩).run (fun _ => 0) j).ok)
  have HM := fun w => makeF K (by omega) w
  have hK1 : (K : Int) ≤ 4096 := by omega
  have hK0 : 0 ≤ (K : Int) := by omega
  clear hs hv ok
  have F := (((Frg.nil w).box 31 #[s, .int .i64 (q.j : Nat), .int .i64 3, .float .f32 (q.ta), .float .f32 (q.tb), .float .f32 (q.tc), .float .f32 (q.tx), .float .f32 (q.ty), .int .i64 2, .float .f32 (q.da), .float .f32 (q.db), .float .f32 (q.dc), .float .f32 (q.dx), .float .f32 (q.dy), .float .f32 (q.l)]).box 31 #[.slice none 0 0, .int .i64 0, .int .i64 0, .float .f32 0, .float .f32 0, .float .f32 0, .float .f32 0, .float .f32 0, .int .i64 0, .float .f32 0, .float .f32 0, .float .f32 0, .float .f32 0, .float .f32 0, .float .f32 0])
  simp only [World.size_alloc] at F
  go_enter Try.func39, Try.ntmps39
  go_wp2_with (first | ((with_reducible refine at_loadU rfl rfl ?_); (with_reducible refine wpList_loadG F rfl rfl rfl (by first | exact m0 | exact m1 | exact m2 | exact m3 | exact m4 | exact m5) Try.underlying31 rfl infoStr rfl ?_)) | (go_at_call 23; ((with_reducible refine (HV.out _ F.below).mono ?_); rintro e w1 ⟨rfl, hl⟩; replace F := F.le hl; clear hl)) | (go_at_call 87; ((with_reducible refine (HN.out _ F.below).mono ?_); rintro e w2 ⟨g, rfl, hlp, hl⟩; replace F := F.push (e := lpF _ _ g q) hl hlp (Nat.le_refl _) (Nat.le_refl _); clear hlp hl)))
  replace F := hid (F.box 22 (ftab .f32 (fun _ => 0) K))
  go_loopw [27] (fun i wr => ∃ j : Nat, j ≤ K ∧ i = .int .i64 j ∧ ∃ y : Nat → Nat, Hid (∀ i, i < j → fits .f32 (y i) ∧ can .f32 (y i) = outS q (fun _ => 0) i) ∧ Hid (Frg w wr [rowF w2.heap.size 22 (ftab .f32 (upto j y (fun _ => 0)) K), lpF w1.heap.size w2.heap.size g (goS q (fun _ => 0) j), rowF (w.heap.size + 1) 31 #[.slice none 0 0, .int .i64 0, .int .i64 0, .float .f32 0, .float .f32 0, .float .f32 0, .float .f32 0, .float .f32 0, .int .i64 0, .float .f32 0, .float .f32 0, .float .f32 0, .float .f32 0, .float .f32 0, .float .f32 0], rowF w.heap.size 31 #[s, .int .i64 (q.j : Nat), .int .i64 3, .float .f32 (q.ta), .float .f32 (q.tb), .float .f32 (q.tc), .float .f32 (q.tx), .float .f32 (q.ty), .int .i64 2, .float .f32 (q.da), .float .f32 (q.db), .float .f32 (q.dc), .float .f32 (q.dx), .float .f32 (q.dy), .float .f32 (q.l)]])) (fun i _ => K - (intOf i).toNat)
  case atStart => exact ⟨0, by omega, rfl, fun _ => 0, fun m hm => absurd hm (by omega), by rw [upto_zero]; exact F⟩
  case round =>
    obtain ⟨j, hj, rfl, y, HJ, FJ⟩ := hrel
    clear F
    by_cases hlt : j < K
    · go_wp2_with (first | (go_at_call 88; ((with_reducible refine (i_loopStep _ _ _ _ 0 _ (Frg.lp FJ.out m1) (HO.out j) fits_zero).mono ?_); rintro e w4 ⟨r, rfl, hr, fr, hlp, hch⟩; replace FJ := hid (FJ.out.chg1 (e' := lpF _ _ _ (stepS (goS q (fun _ => 0) j) 0)) hch hlp rfl rfl); have HR := hid hr; have cc := (FJ.out.row m0).ftab hlt; have ff := (FJ.out.row m0).frozen j; clear hlp hch hr)))
      go_roundw
      case rel =>
        refine ⟨j + 1, by omega, by go_num, fun i => if i = j then r else y i, fill_step (p := fun i v => fits .f32 v ∧ can .f32 v = outS q (fun _ => 0) i) HJ.out ⟨fr, HR.out⟩, ?_⟩
        have F4 := FJ.out.set0 j (.float .f32 r)
        rw [set_ftab, upto_set] at F4
        exact F4
      case measure => simp [intOf]; omega
    · obtain rfl : j = K := by omega
      rw [show (ftab .f32 (upto j y (fun _ => 0)) j) = ftab .f32 y j from ftab_congr (fun i hi => if_pos hi)] at FJ
      replace FJ := FJ.out
      go_wp2_with (first | ((with_reducible refine at_loadU rfl rfl ?_); (with_reducible refine wpList_loadG FJ rfl rfl rfl (by first | exact m0 | exact m1 | exact m2 | exact m3 | exact m4 | exact m5) Try.underlying31 rfl infoStr rfl ?_)) | (go_at_call 89; ((with_reducible refine (HB.out _ _ _ _ (Frg.lp FJ m1)).mono ?_); rintro e w5 ⟨s5, lo5, hi5, rfl, ho5, b1, b2, hl5⟩; have O5 := hid ho5; have OC5 := hid (OwnS.one ho5); replace FJ := FJ.le hl5; clear ho5 hl5)) | ((with_reducible refine stop_store rfl ?_)))
      show wpList _ _ _ _ _ _
      refine wpList_storeD rfl rfl rfl (cells := #[s5, .int .i64 ((goS q (fun _ => 0) j).j : Nat), .int .i64 3, .float .f32 ((goS q (fun _ => 0) j).ta), .float .f32 ((goS q (fun _ => 0) j).tb), .float .f32 ((goS q (fun _ => 0) j).tc), .float .f32 ((goS q (fun _ => 0) j).tx), .float .f32 ((goS q (fun _ => 0) j).ty), .int .i64 2, .float .f32 ((goS q (fun _ => 0) j).da), .float .f32 ((goS q (fun _ => 0) j).db), .float .f32 ((goS q (fun _ => 0) j).dc), .float .f32 ((goS q (fun _ => 0) j).dx), .float .f32 ((goS q (fun _ => 0) j).dy), .float .f32 ((goS q (fun _ => 0) j).l)]) rfl (FJ.row (g := w.heap.size + 1) m2) infoStr rfl (one_head OC5.out rfl) (fun w6 KK => ?_)
      have RW := hid KK.row
      have f1 := FJ.facts (lpF _ _ _ (goS q (fun _ => 0) j)) m1
      have a1 := (List.pairwise_cons.1 (List.pairwise_cons.1 FJ.apart).2).1 _ m0
      have F6 := FJ.wr2 KK
      have hc : Chg (· = w.heap.size + 1) _ w6 := (Chg.refl _ _).wrote KK rfl
      have O6 := hid ((OwnS.chgS O5.out hc (fun i h1 h2 h3 => by have h3' : i = w.heap.size + 1 := h3; have := Nat.le_trans a1 b1; simp only [rowF] at this; omega)).mono (lo' := w.heap.size) (hi' := w2.heap.size) (by have := Nat.le_trans a1 b1; simp only [rowF] at this; omega) b2)
      have R7 := hid (F6.row m0)
      have f7 := hid (F6.facts (rowF w2.heap.size 22 (ftab .f32 y j)) m0)
      have L := hid F6.below
      have hw2 : w.heap.size ≤ w2.heap.size := f7.out.1
      have hw6 : w2.heap.size + 1 ≤ w6.heap.size := f7.out.2.1
      clear f1 hc KK FJ F6
      go_wp2
      exact bodyPost_ret (results_row3 rfl _ _ _ _ _ rfl RW.out Try.underlying31 rfl infoStr) rfl ⟨_, _, w2.heap.size, rfl, O6.out, .inr ⟨w2.heap.size, 0, j, _, _, rfl, Nat.le_refl _, by unfold maxLen; omega, Nat.le_refl _, by omega, R7.out, fun i hi => ⟨y i, by rw [Nat.zero_add]; exact get_ftab .f32 y j i hi, (HJ.out i hi).1, (HJ.out i hi).2⟩⟩, hw2, by omega, L.out⟩
set_option maxRecDepth 100000 in
set_option maxHeartbeats 4000000 in
theorem s_PlayString_no (B : Nat) (s : Value) (x : Nat → Nat) (n : Nat) (k tk : Int) (ta tb tc tx ty : Nat) (dk : Int) (da db dc dx dy l : Nat) (m : Int) (w : World) (hs : RdS w B s x n) (hk : (Lit.int .i64 k).wf = true) (hv : okStr n k tk ta tb tc tx ty dk da db dc dx dy l = false) :
    Calls Try.prog 38 #[.agg #[s, .int .i64 k, .int .i64 tk, .float .f32 ta, .float .f32 tb, .float .f32 tc, .float .f32 tx, .float .f32 ty, .int .i64 dk, .float .f32 da, .float .f32 db, .float .f32 dc, .float .f32 dx, .float .f32 dy, .float .f32 l], .int .i64 m] w (Out_sli (fun _ => 0) 0 0 0 0 0 0 0 0 0 0 0 0 0 0 0 (fun _ => 0) 0 1 w) := by
  have HV := hid (fun (w' : World) (g : Nat) (hl : le w w') (R : Row w' g 31 #[s, .int .i64 k, .int .i64 tk, .float .f32 ta, .float .f32 tb, .float .f32 tc, .float .f32 tx, .float .f32 ty, .int .i64 dk, .float .f32 da, .float .f32 db, .float .f32 dc, .float .f32 dx, .float .f32 dy, .float .f32 l]) => hv ▸ s_l03Ok B s x n k tk ta tb tc tx ty dk da db dc dx dy l g w' (hs.le hl) R hk)
  clear hs hk hv
  have F := (((Frg.nil w).box 31 #[s, .int .i64 k, .int .i64 tk, .float .f32 ta, .float .f32 tb, .float .f32 tc, .float .f32 tx, .float .f32 ty, .int .i64 dk, .float .f32 da, .float .f32 db, .float .f32 dc, .float .f32 dx, .float .f32 dy, .float .f32 l]).box 31 #[.slice none 0 0, .int .i64 0, .int .i64 0, .float .f32 0, .float .f32 0, .float .f32 0, .float .f32 0, .float .f32 0, .int .i64 0, .float .f32 0, .float .f32 0, .float .f32 0, .float .f32 0, .float .f32 0, .float .f32 0])
  simp only [World.size_alloc] at F
  go_enter Try.func38, Try.ntmps38
  go_wp2_with (first | (go_at_call 63; ((with_reducible refine (HV.out _ _ F.below (F.row (by first | exact m0 | exact m1 | exact m2 | exact m3 | exact m4 | exact m5))).mono ?_); rintro e w1 ⟨rfl, m, rfl⟩; replace F := F.drewN m)) | ((with_reducible refine stop_store rfl ?_)))
  show wpList _ _ _ _ _ _
  replace F := F.box 22 #[]
  refine wpList_storeD rfl rfl rfl (cells := #[.slice none 0 0, .int .i64 0, .int .i64 0, .float .f32 0, .float .f32 0, .float .f32 0, .float .f32 0, .float .f32 0, .int .i64 0, .float .f32 0, .float .f32 0, .float .f32 0, .float .f32 0, .float .f32 0, .float .f32 0]) rfl (F.row m1) infoStr rfl (by simp [Value.oneCell']) (fun w4 K => ?_)
  have R := hid K.row
  replace F := F.wr1 K
  have R1 := F.facts _ m0
  simp only [rowF, World.heap_drewN, World.size_alloc] at R1
  have R2 : Hid (OwnS w4 w.heap.size w4.heap.size (.slice (some ⟨w.heap.size + 1 + 1, 0, none⟩) 0 0) (fun _ => 0) 0) := .inr ⟨w.heap.size + 1 + 1, 0, 0, _, _, rfl, Nat.le_refl _, by decide, R1.1, R1.2.1, R1.2.2, fun i hi => absurd hi (by omega)⟩
  have L := hid F.below
  clear K F R1
  go_wp2
  exact bodyPost_ret (results_row3 rfl _ _ _ _ _ rfl R.out Try.underlying31 rfl infoStr) rfl ⟨_, _, w.heap.size, rfl, .inl ⟨rfl, rfl⟩, R2.out, Nat.le_refl _, L.out.size, L.out⟩
set_option maxRecDepth 100000 in
set_option maxHeartbeats 4000000 in
theorem s_PlayString_out (B : Nat) (s : Value) (q : StS) (m : Int) (w : World) (hs : RdS w B s q.x q.n) (ok : q.Ok) (hk : (Lit.int .i64 (q.j : Nat)).wf = true) (hv : okStr q.n (q.j : Nat) 3 q.ta q.tb q.tc q.tx q.ty 2 q.da q.db q.dc q.dx q.dy q.l = true) (hm : m < 0 ∨ 4096 < m) :
    Calls Try.prog 38 #[.agg #[s, .int .i64 (q.j : Nat), .int .i64 3, .float .f32 (q.ta), .float .f32 (q.tb), .float .f32 (q.tc), .float .f32 (q.tx), .float .f32 (q.ty), .int .i64 2, .float .f32 (q.da), .float .f32 (q.db), .float .f32 (q.dc), .float .f32 (q.dx), .float .f32 (q.dy), .float .f32 (q.l)], .int .i64 m] w (Out_sli (fun _ => 0) 0 0 0 0 0 0 0 0 0 0 0 0 0 0 0 (fun _ => 0) 0 2 w) := by
  have HV := hid (fun (w' : World) (g : Nat) (hl : le w w') (R : Row w' g 31 #[s, .int .i64 (q.j : Nat), .int .i64 3, .float .f32 (q.ta), .float .f32 (q.tb), .float .f32 (q.tc), .float .f32 (q.tx), .float .f32 (q.ty), .int .i64 2, .float .f32 (q.da), .float .f32 (q.db), .float .f32 (q.dc), .float .f32 (q.dx), .float .f32 (q.dy), .float .f32 (q.l)]) => hv ▸ s_l03Ok B s q.x q.n (q.j : Nat) 3 q.ta q.tb q.tc q.tx q.ty 2 q.da q.db q.dc q.dx q.dy q.l g w' (hs.le hl) R hk)
  have hIn : Hid (∀ w, Calls Try.prog 90 #[.int .i64 m, .int .i64 0, .int .i64 4096] w fun e w' => e = .returned (.bool false) ∧ w = w') := fun w => by
    have h := s_In m 0 4096 w
    rwa [show (decide ((0 : Int) ≤ m) && decide (m ≤ 4096)) = false by rcases hm with h | h; (rw [decide_eq_false (by omega)]; rfl); (rw [Bool.and_eq_false_iff]; exact .inr (decide_eq_false (by omega)))] at h
  clear hs hk hv ok hm
  have F := (((Frg.nil w).box 31 #[s, .int .i64 (q.j : Nat), .int .i64 3, .float .f32 (q.ta), .float .f32 (q.tb), .float .f32 (q.tc), .float .f32 (q.tx), .float .f32 (q.ty), .int .i64 2, .float .f32 (q.da), .float .f32 (q.db), .float .f32 (q.dc), .float .f32 (q.dx), .float .f32 (q.dy), .float .f32 (q.l)]).box 31 #[.slice none 0 0, .int .i64 0, .int .i64 0, .float .f32 0, .float .f32 0, .float .f32 0, .float .f32 0, .float .f32 0, .int .i64 0, .float .f32 0, .float .f32 0, .float .f32 0, .float .f32 0, .float .f32 0, .float .f32 0])
  simp only [World.size_alloc] at F
  go_enter Try.func38, Try.ntmps38
  go_wp2_with (first | (go_at_call 63; ((with_reducible refine (HV.out _ _ F.below (F.row (by first | exact m0 | exact m1 | exact m2 | exact m3 | exact m4 | exact m5))).mono ?_); rintro e w1 ⟨rfl, m, rfl⟩; replace F := F.drewN m)) | (go_at_call 90; ((with_reducible refine (hIn.out _).mono ?_); rintro e w1 ⟨rfl, rfl⟩)) | ((with_reducible refine stop_store rfl ?_)))
  show wpList _ _ _ _ _ _
  replace F := F.box 22 #[]
  refine wpList_storeD rfl rfl rfl (cells := #[.slice none 0 0, .int .i64 0, .int .i64 0, .float .f32 0, .float .f32 0, .float .f32 0, .float .f32 0, .float .f32 0, .int .i64 0, .float .f32 0, .float .f32 0, .float .f32 0, .float .f32 0, .float .f32 0, .float .f32 0]) rfl (F.row m1) infoStr rfl (by simp [Value.oneCell']) (fun w4 K => ?_)
  have R := hid K.row
  replace F := F.wr1 K
  have R1 := F.facts _ m0
  simp only [rowF, World.heap_drewN, World.size_alloc] at R1
  have R2 : Hid (OwnS w4 w.heap.size w4.heap.size (.slice (some ⟨w.heap.size + 1 + 1, 0, none⟩) 0 0) (fun _ => 0) 0) := .inr ⟨w.heap.size + 1 + 1, 0, 0, _, _, rfl, Nat.le_refl _, by decide, R1.1, R1.2.1, R1.2.2, fun i hi => absurd hi (by omega)⟩
  have L := hid F.below
  clear K F R1
  go_wp2
  exact bodyPost_ret (results_row3 rfl _ _ _ _ _ rfl R.out Try.underlying31 rfl infoStr) rfl ⟨_, _, w.heap.size, rfl, .inl ⟨rfl, rfl⟩, R2.out, Nat.le_refl _, L.out.size, L.out⟩
set_option maxRecDepth 100000 in
set_option maxHeartbeats 4000000 in
theorem s_PlayString_yes (B : Nat) (s : Value) (q : StS) (K : Nat) (w : World) (hs : RdS w B s q.x q.n) (ok : q.Ok) (hk : (Lit.int .i64 (q.j : Nat)).wf = true) (hv : okStr q.n (q.j : Nat) 3 q.ta q.tb q.tc q.tx q.ty 2 q.da q.db q.dc q.dx q.dy q.l = true) (hK : K ≤ 4096) :
    Calls Try.prog 38 #[.agg #[s, .int .i64 (q.j : Nat), .int .i64 3, .float .f32 (q.ta), .float .f32 (q.tb), .float .f32 (q.tc), .float .f32 (q.tx), .float .f32 (q.ty), .int .i64 2, .float .f32 (q.da), .float .f32 (q.db), .float .f32 (q.dc), .float .f32 (q.dx), .float .f32 (q.dy), .float .f32 (q.l)], .int .i64 (K : Int)] w (Out_sli ((goS q (fun _ => 0) K)).x ((goS q (fun _ => 0) K)).n (((goS q (fun _ => 0) K)).j : Nat) 3 (((goS q (fun _ => 0) K)).ta) (((goS q (fun _ => 0) K)).tb) (((goS q (fun _ => 0) K)).tc) (((goS q (fun _ => 0) K)).tx) (((goS q (fun _ => 0) K)).ty) 2 (((goS q (fun _ => 0) K)).da) (((goS q (fun _ => 0) K)).db) (((goS q (fun _ => 0) K)).dc) (((goS q (fun _ => 0) K)).dx) (((goS q (fun _ => 0) K)).dy) ((goS q (fun _ => 0) K)).l (outS q (fun _ => 0)) K 0 w) := by
  have HV := hid (fun (w' : World) (g : Nat) (hl : le w w') (R : Row w' g 31 #[s, .int .i64 (q.j : Nat), .int .i64 3, .float .f32 (q.ta), .float .f32 (q.tb), .float .f32 (q.tc), .float .f32 (q.tx), .float .f32 (q.ty), .int .i64 2, .float .f32 (q.da), .float .f32 (q.db), .float .f32 (q.dc), .float .f32 (q.dx), .float .f32 (q.dy), .float .f32 (q.l)]) => hv ▸ s_l03Ok B s q.x q.n (q.j : Nat) 3 q.ta q.tb q.tc q.tx q.ty 2 q.da q.db q.dc q.dx q.dy q.l g w' (hs.le hl) R hk)
  have HCP := hid (fun (w' : World) (g : Nat) (hl : le w w') (R : Row w' g 31 #[s, .int .i64 (q.j : Nat), .int .i64 3, .float .f32 (q.ta), .float .f32 (q.tb), .float .f32 (q.tc), .float .f32 (q.tx), .float .f32 (q.ty), .int .i64 2, .float .f32 (q.da), .float .f32 (q.db), .float .f32 (q.dc), .float .f32 (q.dx), .float .f32 (q.dy), .float .f32 (q.l)]) => s_l03Copy B s q.x q.n (q.j : Nat) 3 q.ta q.tb q.tc q.tx q.ty 2 q.da q.db q.dc q.dx q.dy q.l g w' (hs.le hl) R ok.n1 ok.n2)
  have hIn : Hid (∀ w, Calls Try.prog 90 #[.int .i64 (K : Int), .int .i64 0, .int .i64 4096] w fun e w' => e = .returned (.bool true) ∧ w = w') := fun w => by
    have h := s_In K 0 4096 w
    rwa [show (decide ((0 : Int) ≤ (K : Int)) && decide ((K : Int) ≤ 4096)) = true by simp only [Bool.and_eq_true, decide_eq_true_eq]; omega] at h
  have HO := hid (fun j => ((show q.Fit from ⟨ok, hs.fit⟩).run (fun _ => 0) j).ok)
  have n1 := ok.n1
  have hK1 : (K : Int) ≤ 4096 := by omega
  have hK0 : 0 ≤ (K : Int) := by omega
  have HI : Hid (∃ i, Try.prog.info? 22 = some i ∧ i.zero = some (.float .f32 0) ∧ i.size = 1 ∧ i.bytes = 4) := info36
  obtain ⟨i0, HI⟩ := HI
  replace HI := hid HI
  clear hs hk hv ok
  have F := (((Frg.nil w).box 31 #[s, .int .i64 (q.j : Nat), .int .i64 3, .float .f32 (q.ta), .float .f32 (q.tb), .float .f32 (q.tc), .float .f32 (q.tx), .float .f32 (q.ty), .int .i64 2, .float .f32 (q.da), .float .f32 (q.db), .float .f32 (q.dc), .float .f32 (q.dx), .float .f32 (q.dy), .float .f32 (q.l)]).box 31 #[.slice none 0 0, .int .i64 0, .int .i64 0, .float .f32 0, .float .f32 0, .float .f32 0, .float .f32 0, .float .f32 0, .int .i64 0, .float .f32 0, .float .f32 0, .float .f32 0, .float .f32 0, .float .f32 0, .float .f32 0])
  simp only [World.size_alloc] at F
  go_enter Try.func38, Try.ntmps38
  go_wp2_with (first | (go_at_call 63; ((with_reducible refine (HV.out _ _ F.below (F.row (by first | exact m0 | exact m1 | exact m2 | exact m3 | exact m4 | exact m5))).mono ?_); rintro e w1 ⟨rfl, m, rfl⟩; replace F := F.drewN m)) | (go_at_call 90; ((with_reducible refine (hIn.out _).mono ?_); rintro e w1 ⟨rfl, rfl⟩)) | (go_at_call 76; ((with_reducible refine (HCP.out _ _ F.below (F.row (by first | exact m0 | exact m1 | exact m2 | exact m3 | exact m4 | exact m5))).mono ?_); rintro e w2 ⟨s', rfl, ho, hl⟩; have OC := hid (OwnS.one ho); replace F := F.own1 hl ho; clear ho hl)) | (refine wpList_storeG F rfl rfl rfl rfl rfl infoStr rfl (one_head OC.out rfl) ?_; clear F; intro W3 F zW; replace zW := hid zW; replace F := hid (toSpB (B' := w.heap.size + 1 + 1) F n1 (by simp [rowF]) (by omega) (by simp))))
  have hz : W3.heap.size = w2.heap.size + 1 := by have := zW.out; simpa using this
  replace hz := hid hz
  have OR : Hid ((W3.alloc (.cells #[] 22)).ownsRow (w2.heap.size + 1) 22 1 (.slice (some ⟨W3.heap.size, 0, none⟩) 0 0) 0 (flist (fun _ => 0) 0)) := ⟨rfl, .inr ⟨W3.heap.size, 0, #[], rfl, Nat.le_of_eq hz.out.symm, by have := Row.new W3 22 #[]; exact this, Nat.le_refl _, by decide, rfl, rfl⟩⟩
  go_loopw [8, 9] (fun v i wr => ∃ j : Nat, j ≤ K ∧ i = .int .i64 j ∧ ∃ y : Nat → Nat, Hid (∀ i, i < j → fits .f32 (y i) ∧ can .f32 (y i) = outS q (fun _ => 0) i) ∧ Hid (wr.ownsRow (w2.heap.size + 1) 22 1 v j (flist y j)) ∧ Hid (w2.heap.size + 1 ≤ wr.heap.size) ∧ Hid (Frg w wr [spF (w.heap.size + 1 + 1) (w2.heap.size + 1) w2.heap.size (goS q (fun _ => 0) j), rowF (w.heap.size + 1) 31 #[.slice none 0 0, .int .i64 0, .int .i64 0, .float .f32 0, .float .f32 0, .float .f32 0, .float .f32 0, .float .f32 0, .int .i64 0, .float .f32 0, .float .f32 0, .float .f32 0, .float .f32 0, .float .f32 0, .float .f32 0], rowF w.heap.size 31 #[s, .int .i64 (q.j : Nat), .int .i64 3, .float .f32 (q.ta), .float .f32 (q.tb), .float .f32 (q.tc), .float .f32 (q.tx), .float .f32 (q.ty), .int .i64 2, .float .f32 (q.da), .float .f32 (q.db), .float .f32 (q.dc), .float .f32 (q.dx), .float .f32 (q.dy), .float .f32 (q.l)]])) (fun _ i _ => K - (intOf i).toNat)
  case atStart => exact ⟨0, by omega, rfl, fun _ => 0, fun m hm => absurd hm (by omega), OR.out, by have := hz.out; show w2.heap.size + 1 ≤ (W3.alloc _).heap.size; rw [World.size_alloc]; omega, F.out.alloc _⟩
  case round =>
    obtain ⟨j, hj, rfl, y, HJ, HW, HS, FJ⟩ := hrel
    clear F OR
    by_cases hlt : j < K
    · have hjK : (j : Int) < (K : Int) := by omega
      go_wp2_with (first | (go_at_call 86; ((with_reducible refine (s_l03Step _ _ _ _ 0 _ (Frg.sp FJ.out m0) (HO.out j) fits_zero).mono ?_); rintro e w4 ⟨r, rfl, hr, fr, hsp, hch⟩; replace FJ := hid (FJ.out.chg0 (e' := spF _ _ _ (stepS (goS q (fun _ => 0) j) 0)) hch hsp rfl rfl); replace HW := hid (ownsRow_chS hch HW.out (fun i hi => hi.2)); replace HS := hid (Nat.le_trans HS.out hch.size); have HR := hid hr; clear hsp hch hr)) | (at_builtin; refine wpList_append_own _ rfl _ _ 23 rfl (w2.heap.size + 1) 22 i0 (.float .f32 0) 1 4 Try.underlying23 HI.out.1 HI.out.2.1 HI.out.2.2.1 HI.out.2.2.2 rfl (by decide) _ _ _ rfl (HW.out.alloc _) ⟨w4.heap.size, 0, none⟩ 1 1 [.float .f32 r] rfl rfl (fun j u hj => by match j, hj with | 0, hj => simp at hj; subst hj; simp [Addr.add]) (fun u hu => by simp at hu; subst hu; rfl) (by unfold maxLen; omega) (by omega) (by have := HS.out; simp; omega) ?_; intro v' w5 hown hgr _; have HOWN := hid hown; have HGR := hid hgr; clear hown hgr))
      go_roundw
      case rel =>
        have hch : Chg (w2.heap.size + 1 ≤ ·) w4 w5 := (Chg.of_le (le_alloc w4 _)).trans (chg_grown HGR.out (ownBlock_ge HW.out))
        refine ⟨j + 1, by omega, by go_num, fun i => if i = j then r else y i, fill_step (p := fun i v => fits .f32 v ∧ can .f32 v = outS q (fun _ => 0) i) HJ.out ⟨fr, HR.out⟩, ?_, Nat.le_trans HS.out hch.size, ?_⟩
        · have := HOWN.out
          rw [flist_snoc] at this
          exact this
        · obtain ⟨_, _, _, _, _, g1, _⟩ := Frg.sp FJ.out m0
          exact FJ.out.up hch (by simp [spF, rowF]; omega) (by omega)
      case measure => simp [intOf]; omega
    · obtain rfl : j = K := by omega
      replace FJ := FJ.out
      obtain ⟨s5, lo5, hi5, R5, O5, b1, b2, b3, b4, b5⟩ := Frg.sp FJ m0
      have R5 := hid R5; have O5 := hid O5; have OC5 := hid (OwnS.one O5.out)
      go_wp2_with (first | ((with_reducible refine at_loadU rfl rfl ?_); (with_reducible refine wpList_loadDR R5.out rfl rfl rfl Try.underlying31 rfl infoStr rfl ?_)) | ((with_reducible refine stop_store (ty := 31) rfl ?_)))
      show wpList _ _ _ _ _ _
      refine wpList_storeD rfl rfl rfl (cells := #[s5, .int .i64 ((goS q (fun _ => 0) j).j : Nat), .int .i64 3, .float .f32 ((goS q (fun _ => 0) j).ta), .float .f32 ((goS q (fun _ => 0) j).tb), .float .f32 ((goS q (fun _ => 0) j).tc), .float .f32 ((goS q (fun _ => 0) j).tx), .float .f32 ((goS q (fun _ => 0) j).ty), .int .i64 2, .float .f32 ((goS q (fun _ => 0) j).da), .float .f32 ((goS q (fun _ => 0) j).db), .float .f32 ((goS q (fun _ => 0) j).dc), .float .f32 ((goS q (fun _ => 0) j).dx), .float .f32 ((goS q (fun _ => 0) j).dy), .float .f32 ((goS q (fun _ => 0) j).l)]) rfl (FJ.row m1) infoStr rfl (one_head OC5.out rfl) (fun w6 KK => ?_)
      have RW := hid KK.row
      have F6 := FJ.wr1 KK
      have hc : Chg (· = w.heap.size + 1) _ w6 := (Chg.refl _ _).wrote KK rfl
      have O6 := hid ((OwnS.chgS O5.out hc (fun i h1 h2 h3 => by have h3' : i = w.heap.size + 1 := h3; omega)).mono (lo' := w.heap.size) (hi' := w2.heap.size + 1) (by omega) b4)
      have OW := hid (own_of_row (ownsRow_ch hc HW.out (by omega)) HJ.out)
      have L := hid F6.below
      have hs6 := hid (Nat.le_trans HS.out hc.size)
      clear hc KK FJ F6
      go_wp2
      exact bodyPost_ret (results_row3 rfl _ _ _ _ _ rfl RW.out Try.underlying31 rfl infoStr) rfl ⟨_, _, w2.heap.size + 1, rfl, O6.out, OW.out, by omega, hs6.out, L.out⟩
theorem both_PlayString (x : Nat → Nat) (n : Nat) (k tk : Int) (ta tb tc tx ty : Nat) (dk : Int) (da db dc dx dy l : Nat) (m : Int) (hw : (Lit.int .i64 k).wf = true ∧ (Lit.int .i64 tk).wf = true ∧ fits .f32 ta ∧ fits .f32 tb ∧ fits .f32 tc ∧ fits .f32 tx ∧ fits .f32 ty ∧ (Lit.int .i64 dk).wf = true ∧ fits .f32 da ∧ fits .f32 db ∧ fits .f32 dc ∧ fits .f32 dx ∧ fits .f32 dy ∧ fits .f32 l) : ∃ (xr0 : Nat → Nat) (nr0 : Nat) (kr0 tkr0 : Int) (tar0 tbr0 tcr0 txr0 tyr0 : Nat) (dkr0 : Int) (dar0 dbr0 dcr0 dxr0 dyr0 lr0 : Nat) (xr1 : Nat → Nat) (nr1 : Nat) (ar2 : Int), nr0 ≤ 1048576 ∧ nr1 ≤ 1048576 ∧ (∀ (w : World) (B : Nat) (u : Value), RdS w B u x n → Calls Try.prog 38 #[.agg #[u, .int .i64 k, .int .i64 tk, .float .f32 ta, .float .f32 tb, .float .f32 tc, .float .f32 tx, .float .f32 ty, .int .i64 dk, .float .f32 da, .float .f32 db, .float .f32 dc, .float .f32 dx, .float .f32 dy, .float .f32 l], .int .i64 m] w (Out_sli xr0 nr0 kr0 tkr0 tar0 tbr0 tcr0 txr0 tyr0 dkr0 dar0 dbr0 dcr0 dxr0 dyr0 lr0 xr1 nr1 ar2 w)) ∧ (∀ (w : World) (B : Nat) (u : Value), RdS w B u x n → Calls Try.prog 39 #[.agg #[u, .int .i64 k, .int .i64 tk, .float .f32 ta, .float .f32 tb, .float .f32 tc, .float .f32 tx, .float .f32 ty, .int .i64 dk, .float .f32 da, .float .f32 db, .float .f32 dc, .float .f32 dx, .float .f32 dy, .float .f32 l], .int .i64 m] w (Out_sli xr0 nr0 kr0 tkr0 tar0 tbr0 tcr0 txr0 tyr0 dkr0 dar0 dbr0 dcr0 dxr0 dyr0 lr0 xr1 nr1 ar2 w)) := by
  obtain ⟨hk, _, h1, h2, h3, h4, h5, _, g1, g2, g3, g4, g5, hl⟩ := hw
  cases hv : okStr n k tk ta tb tc tx ty dk da db dc dx dy l
  · exact ⟨(fun _ => 0), 0, 0, 0, 0, 0, 0, 0, 0, 0, 0, 0, 0, 0, 0, 0, fun _ => 0, 0, 1, by omega, by omega, fun w B u h => s_PlayString_no B u x n k tk ta tb tc tx ty dk da db dc dx dy l m w h hk hv, fun w B u h => i_PlayString_no B u x n k tk ta tb tc tx ty dk da db dc dx dy l m w h ⟨h1, h2, h3, h4, h5⟩ ⟨g1, g2, g3, g4, g5⟩ hl hv⟩
  · obtain ⟨j, rfl, rfl, rfl, ok⟩ := okStr_q (x := x) hv ⟨h1, h2, h3, h4, h5⟩ ⟨g1, g2, g3, g4, g5⟩ hl
    by_cases hm : m < 0 ∨ 4096 < m
    · exact ⟨(fun _ => 0), 0, 0, 0, 0, 0, 0, 0, 0, 0, 0, 0, 0, 0, 0, 0, fun _ => 0, 0, 2, by omega, by omega, fun w B u h => s_PlayString_out B u (⟨x, n, j, ta, tb, tc, tx, ty, da, db, dc, dx, dy, l⟩ : StS) m w h ok hk hv hm, fun w B u h => i_PlayString_out B u (⟨x, n, j, ta, tb, tc, tx, ty, da, db, dc, dx, dy, l⟩ : StS) m w h ok hv hm⟩
    · obtain ⟨K, rfl⟩ : ∃ K : Nat, m = K := ⟨m.toNat, by omega⟩
      refine ⟨_, _, _, _, _, _, _, _, _, _, _, _, _, _, _, _, _, _, _, ?_, ?_, fun w B u h => s_PlayString_yes B u (⟨x, n, j, ta, tb, tc, tx, ty, da, db, dc, dx, dy, l⟩ : StS) K w h ok hk hv (by omega), fun w B u h => i_PlayString_yes B u (⟨x, n, j, ta, tb, tc, tx, ty, da, db, dc, dx, dy, l⟩ : StS) K w h ok hv (by omega)⟩
      · rw [goS_n]; exact Nat.le_trans ok.n2 (by decide)
      · omega
end Go.Proofs.Ytaenbpkcehenkac

/- The walk of 'FnExactPlayString'. -/
namespace Go.Proofs.Ytaenbpkcehenkac.fnExactPlayString
open Go.RowKit Go.Fk
set_option maxRecDepth 100000 in
set_option maxHeartbeats 4000000 in
theorem core (s0 : Value) (x0 : Nat → Nat) (n0 : Nat) (k0 : Int) (tk0 : Int) (ta0 : Nat) (tb0 : Nat) (tc0 : Nat) (tx0 : Nat) (ty0 : Nat) (dk0 : Int) (da0 : Nat) (db0 : Nat) (dc0 : Nat) (dx0 : Nat) (dy0 : Nat) (l0 : Nat) (a1 : Int) (xr0 : Nat → Nat) (nr0 : Nat) (kr0 : Int) (tkr0 : Int) (tar0 : Nat) (tbr0 : Nat) (tcr0 : Nat) (txr0 : Nat) (tyr0 : Nat) (dkr0 : Int) (dar0 : Nat) (dbr0 : Nat) (dcr0 : Nat) (dxr0 : Nat) (dyr0 : Nat) (lr0 : Nat) (xr1 : Nat → Nat) (nr1 : Nat) (ar2 : Int) (w : World) (z0 : RdS w w.heap.size s0 x0 n0) (hn0 : n0 ≤ 1048576) (hr0 : nr0 ≤ 1048576) (hr1 : nr1 ≤ 1048576)
    (hS : ∀ (w : World) (B0 : Nat) (u0 : Value), RdS w B0 u0 x0 n0 → Calls Try.prog 38 #[.agg #[u0, .int .i64 k0, .int .i64 tk0, .float .f32 ta0, .float .f32 tb0, .float .f32 tc0, .float .f32 tx0, .float .f32 ty0, .int .i64 dk0, .float .f32 da0, .float .f32 db0, .float .f32 dc0, .float .f32 dx0, .float .f32 dy0, .float .f32 l0], .int .i64 a1] w (Out_sli xr0 nr0 kr0 tkr0 tar0 tbr0 tcr0 txr0 tyr0 dkr0 dar0 dbr0 dcr0 dxr0 dyr0 lr0 xr1 nr1 ar2 w))
    (hI : ∀ (w : World) (B0 : Nat) (u0 : Value), RdS w B0 u0 x0 n0 → Calls Try.prog 39 #[.agg #[u0, .int .i64 k0, .int .i64 tk0, .float .f32 ta0, .float .f32 tb0, .float .f32 tc0, .float .f32 tx0, .float .f32 ty0, .int .i64 dk0, .float .f32 da0, .float .f32 db0, .float .f32 dc0, .float .f32 dx0, .float .f32 dy0, .float .f32 l0], .int .i64 a1] w (Out_sli xr0 nr0 kr0 tkr0 tar0 tbr0 tcr0 txr0 tyr0 dkr0 dar0 dbr0 dcr0 dxr0 dyr0 lr0 xr1 nr1 ar2 w)) :
    Calls Try.prog 10 #[.agg #[s0, .int .i64 k0, .int .i64 tk0, .float .f32 ta0, .float .f32 tb0, .float .f32 tc0, .float .f32 tx0, .float .f32 ty0, .int .i64 dk0, .float .f32 da0, .float .f32 db0, .float .f32 dc0, .float .f32 dx0, .float .f32 dy0, .float .f32 l0], .int .i64 a1] w fun e w' => e = .returned (.bool true) ∧ Below w.heap.size w w' := by
  have Z0 := hid z0; clear z0
  have hm0 : ¬ (1048576 : Int) - n0 < 0 := by omega
  have hq : decide ((1 : Int) + n0 < 0) = false := by simp; omega
  have HS := hid hS; have HI := hid hI; clear hS hI
  have F := Frg.nil w
  replace F := F.box 40 (#[s0, .int .i64 k0, .int .i64 tk0, .float .f32 ta0, .float .f32 tb0, .float .f32 tc0, .float .f32 tx0, .float .f32 ty0, .int .i64 dk0, .float .f32 da0, .float .f32 db0, .float .f32 dc0, .float .f32 dx0, .float .f32 dy0, .float .f32 l0])
  go_enter Try.func10, Try.ntmps10
  go_wp2_with (first | (((with_reducible refine listN F ?_); clear F; intro wN F)) | ((with_reducible refine at_loadU rfl rfl ?_); first | (with_reducible refine wpList_loadG F rfl rfl rfl (by first | exact m0 | exact m1 | exact m2 | exact m3 | exact m4 | exact m5 | exact m6 | exact m7 | exact m8 | exact m9 | exact m10 | exact m11 | exact m12 | exact m13 | exact m14 | exact m15 | exact m16 | exact m17 | exact m18 | exact m19) Try.underlying31 rfl infoStr (by first | rfl | simp [size_ftab]) ?_) | (with_reducible refine wpList_loadG F rfl rfl rfl (by first | exact m0 | exact m1 | exact m2 | exact m3 | exact m4 | exact m5 | exact m6 | exact m7 | exact m8 | exact m9 | exact m10 | exact m11 | exact m12 | exact m13 | exact m14 | exact m15 | exact m16 | exact m17 | exact m18 | exact m19) Try.underlying40 rfl infoStrL (by first | rfl | simp [size_ftab]) ?_)) | ((with_reducible refine at_loadV rfl rfl ?_); first | (with_reducible refine wpList_loadGG F rfl rfl (by first | exact m0 | exact m1 | exact m2 | exact m3 | exact m4 | exact m5 | exact m6 | exact m7 | exact m8 | exact m9 | exact m10 | exact m11 | exact m12 | exact m13 | exact m14 | exact m15 | exact m16 | exact m17 | exact m18 | exact m19) Try.underlying31 rfl infoStr (by first | rfl | simp [size_ftab]) (by kernel_rfl) ?_) | (with_reducible refine wpList_loadGG F rfl rfl (by first | exact m0 | exact m1 | exact m2 | exact m3 | exact m4 | exact m5 | exact m6 | exact m7 | exact m8 | exact m9 | exact m10 | exact m11 | exact m12 | exact m13 | exact m14 | exact m15 | exact m16 | exact m17 | exact m18 | exact m19) Try.underlying40 rfl infoStrL (by first | rfl | simp [size_ftab]) (by kernel_rfl) ?_)) | (go_at_call 20; ((with_reducible refine (szStringR_yes _ s0 x0 n0 k0 tk0 ta0 tb0 tc0 tx0 ty0 dk0 da0 db0 dc0 dx0 dy0 l0 _ (Z0.out.le (by first | exact F.below)) hn0).mono ?_); rintro e w1 ⟨rfl, hb1⟩; (replace F := F.le hb1))) | (go_at_call 22; ((with_reducible refine (toStringR _ s0 x0 n0 k0 tk0 ta0 tb0 tc0 tx0 ty0 dk0 da0 db0 dc0 dx0 dy0 l0 _ (Z0.out.le (by first | exact F.below)) hn0).mono ?_); rintro e w1 ⟨tA0, rfl, ho1, hl1⟩; have oc := hid (OwnS.one ho1); (first | replace F := F.own1 hl1 ho1); clear hl1 ho1)))
  first | ((with_reducible refine callAt0 F ?_); clear F; intro wN F) | ((with_reducible refine callAtN F ?_); clear F; intro wN F)
  refine (HS.out _ _ _ (by first | exact (F.own (by first | exact m0 | exact m1 | exact m2 | exact m3 | exact m4 | exact m5 | exact m6 | exact m7 | exact m8 | exact m9 | exact m10 | exact m11 | exact m12 | exact m13 | exact m14 | exact m15 | exact m16 | exact m17 | exact m18 | exact m19)).rd)).mono ?_
  rintro e wS ⟨vS0, vS1, qS, rfl, oS0, oS1, gS1, gS2, hlS⟩
  have oc := hid (OwnS.one oS0)
  (first | replace F := F.own2 hlS gS1 gS2 oS0 oS1); clear hlS oS0 oS1
  go_wp2_with (first | (((with_reducible refine listN F ?_); clear F; intro wN F)) | ((with_reducible refine at_store rfl ?_); first | (refine wpList_storeG F rfl rfl rfl rfl rfl infoStr rfl (by first | exact one_head (Hid.out (by assumption)) rfl | (simp [Value.oneCell']; done)) ?_; clear F; intro W F zW; clear zW)) | ((with_reducible refine at_loadU rfl rfl ?_); first | (with_reducible refine wpList_loadG F rfl rfl rfl (by first | exact m0 | exact m1 | exact m2 | exact m3 | exact m4 | exact m5 | exact m6 | exact m7 | exact m8 | exact m9 | exact m10 | exact m11 | exact m12 | exact m13 | exact m14 | exact m15 | exact m16 | exact m17 | exact m18 | exact m19) Try.underlying31 rfl infoStr (by first | rfl | simp [size_ftab]) ?_) | (with_reducible refine wpList_loadG F rfl rfl rfl (by first | exact m0 | exact m1 | exact m2 | exact m3 | exact m4 | exact m5 | exact m6 | exact m7 | exact m8 | exact m9 | exact m10 | exact m11 | exact m12 | exact m13 | exact m14 | exact m15 | exact m16 | exact m17 | exact m18 | exact m19) Try.underlying40 rfl infoStrL (by first | rfl | simp [size_ftab]) ?_)) | ((with_reducible refine at_loadV rfl rfl ?_); first | (with_reducible refine wpList_loadGG F rfl rfl (by first | exact m0 | exact m1 | exact m2 | exact m3 | exact m4 | exact m5 | exact m6 | exact m7 | exact m8 | exact m9 | exact m10 | exact m11 | exact m12 | exact m13 | exact m14 | exact m15 | exact m16 | exact m17 | exact m18 | exact m19) Try.underlying31 rfl infoStr (by first | rfl | simp [size_ftab]) (by kernel_rfl) ?_) | (with_reducible refine wpList_loadGG F rfl rfl (by first | exact m0 | exact m1 | exact m2 | exact m3 | exact m4 | exact m5 | exact m6 | exact m7 | exact m8 | exact m9 | exact m10 | exact m11 | exact m12 | exact m13 | exact m14 | exact m15 | exact m16 | exact m17 | exact m18 | exact m19) Try.underlying40 rfl infoStrL (by first | rfl | simp [size_ftab]) (by kernel_rfl) ?_)) | (go_at_call 22; ((with_reducible refine (toStringR _ s0 x0 n0 k0 tk0 ta0 tb0 tc0 tx0 ty0 dk0 da0 db0 dc0 dx0 dy0 l0 _ (Z0.out.le (by first | exact F.below)) hn0).mono ?_); rintro e w1 ⟨tB0, rfl, ho1, hl1⟩; have oc := hid (OwnS.one ho1); (first | replace F := F.own1 hl1 ho1); clear hl1 ho1)))
  first | ((with_reducible refine callAt0 F ?_); clear F; intro wN F) | ((with_reducible refine callAtN F ?_); clear F; intro wN F)
  refine (HI.out _ _ _ (by first | exact (F.own (by first | exact m0 | exact m1 | exact m2 | exact m3 | exact m4 | exact m5 | exact m6 | exact m7 | exact m8 | exact m9 | exact m10 | exact m11 | exact m12 | exact m13 | exact m14 | exact m15 | exact m16 | exact m17 | exact m18 | exact m19)).rd)).mono ?_
  rintro e wI ⟨vI0, vI1, qI, rfl, oI0, oI1, gI1, gI2, hlI⟩
  have oc := hid (OwnS.one oI0)
  (first | replace F := F.own2 hlI gI1 gI2 oI0 oI1); clear hlI oI0 oI1
  go_wp2_with (first | (((with_reducible refine listN F ?_); clear F; intro wN F)) | ((with_reducible refine at_store rfl ?_); first | (refine wpList_storeG F rfl rfl rfl rfl rfl infoStr rfl (by first | exact one_head (Hid.out (by assumption)) rfl | (simp [Value.oneCell']; done)) ?_; clear F; intro W F zW; clear zW)) | ((with_reducible refine at_loadU rfl rfl ?_); first | (with_reducible refine wpList_loadG F rfl rfl rfl (by first | exact m0 | exact m1 | exact m2 | exact m3 | exact m4 | exact m5 | exact m6 | exact m7 | exact m8 | exact m9 | exact m10 | exact m11 | exact m12 | exact m13 | exact m14 | exact m15 | exact m16 | exact m17 | exact m18 | exact m19) Try.underlying31 rfl infoStr (by first | rfl | simp [size_ftab]) ?_) | (with_reducible refine wpList_loadG F rfl rfl rfl (by first | exact m0 | exact m1 | exact m2 | exact m3 | exact m4 | exact m5 | exact m6 | exact m7 | exact m8 | exact m9 | exact m10 | exact m11 | exact m12 | exact m13 | exact m14 | exact m15 | exact m16 | exact m17 | exact m18 | exact m19) Try.underlying40 rfl infoStrL (by first | rfl | simp [size_ftab]) ?_)) | ((with_reducible refine at_loadV rfl rfl ?_); first | (with_reducible refine wpList_loadGG F rfl rfl (by first | exact m0 | exact m1 | exact m2 | exact m3 | exact m4 | exact m5 | exact m6 | exact m7 | exact m8 | exact m9 | exact m10 | exact m11 | exact m12 | exact m13 | exact m14 | exact m15 | exact m16 | exact m17 | exact m18 | exact m19) Try.underlying31 rfl infoStr (by first | rfl | simp [size_ftab]) (by kernel_rfl) ?_) | (with_reducible refine wpList_loadGG F rfl rfl (by first | exact m0 | exact m1 | exact m2 | exact m3 | exact m4 | exact m5 | exact m6 | exact m7 | exact m8 | exact m9 | exact m10 | exact m11 | exact m12 | exact m13 | exact m14 | exact m15 | exact m16 | exact m17 | exact m18 | exact m19) Try.underlying40 rfl infoStrL (by first | rfl | simp [size_ftab]) (by kernel_rfl) ?_)) | (go_at_call 17; ((with_reducible refine (eqStringR _ _ _ _ xr0 nr0 kr0 tkr0 tar0 tbr0 tcr0 txr0 tyr0 dkr0 dar0 dbr0 dcr0 dxr0 dyr0 lr0 _ hr0 (by first | exact (F.own (by first | exact m0 | exact m1 | exact m2 | exact m3 | exact m4 | exact m5 | exact m6 | exact m7 | exact m8 | exact m9 | exact m10 | exact m11 | exact m12 | exact m13 | exact m14 | exact m15 | exact m16 | exact m17 | exact m18 | exact m19)).rd) (by first | exact (F.own (by first | exact m0 | exact m1 | exact m2 | exact m3 | exact m4 | exact m5 | exact m6 | exact m7 | exact m8 | exact m9 | exact m10 | exact m11 | exact m12 | exact m13 | exact m14 | exact m15 | exact m16 | exact m17 | exact m18 | exact m19)).rd)).mono ?_); rintro e w7 ⟨rfl, hb7⟩; (replace F := F.le hb7))) | (go_at_call 31; ((with_reducible refine (eqR _ _ _ _ xr1 nr1 _ hr1 (by first | exact (F.own (by first | exact m0 | exact m1 | exact m2 | exact m3 | exact m4 | exact m5 | exact m6 | exact m7 | exact m8 | exact m9 | exact m10 | exact m11 | exact m12 | exact m13 | exact m14 | exact m15 | exact m16 | exact m17 | exact m18 | exact m19)).rd) (by first | exact (F.own (by first | exact m0 | exact m1 | exact m2 | exact m3 | exact m4 | exact m5 | exact m6 | exact m7 | exact m8 | exact m9 | exact m10 | exact m11 | exact m12 | exact m13 | exact m14 | exact m15 | exact m16 | exact m17 | exact m18 | exact m19)).rd)).mono ?_); rintro e w7 ⟨rfl, dq7, rfl⟩; replace F := F.drewN dq7)))
  first | (refine wpAt0 F ?_; clear F; intro wN F) | (refine wpAtN F ?_; clear F; intro wN F)
  refine region_freeD (E := leX) (fun f _ w v => if f = 22 then ∃ (s' : Value) (B : Nat), v = .agg #[s', .int .i64 k0, .int .i64 tk0, .float .f32 ta0, .float .f32 tb0, .float .f32 tc0, .float .f32 tx0, .float .f32 ty0, .int .i64 dk0, .float .f32 da0, .float .f32 db0, .float .f32 dc0, .float .f32 dx0, .float .f32 dy0, .float .f32 l0] ∧ RdS w B s' x0 n0 else v = .bool true) (by kernel_rfl) (by kernel_rfl) ?_
  refine wpFreeD_loadG F rfl rfl rfl rfl (by first | exact m0 | exact m1 | exact m2 | exact m3 | exact m4 | exact m5 | exact m6 | exact m7 | exact m8 | exact m9 | exact m10 | exact m11 | exact m12 | exact m13 | exact m14 | exact m15 | exact m16 | exact m17 | exact m18 | exact m19) Try.underlying31 rfl infoStr rfl ?_
  simp only [Act.put, List.setIfInBounds_toArray, List.set_cons_succ, List.set_cons_zero]
  refine wpFreeD_loadG F rfl rfl rfl rfl (by first | exact m0 | exact m1 | exact m2 | exact m3 | exact m4 | exact m5 | exact m6 | exact m7 | exact m8 | exact m9 | exact m10 | exact m11 | exact m12 | exact m13 | exact m14 | exact m15 | exact m16 | exact m17 | exact m18 | exact m19) Try.underlying40 rfl infoStrL rfl ?_
  simp only [Act.put, List.setIfInBounds_toArray, List.set_cons_succ, List.set_cons_zero]
  refine wpFreeD_callB rfl rfl Try.func22 (by kernel_rfl) (by kernel_rfl) (args := #[.agg #[s0, .int .i64 k0, .int .i64 tk0, .float .f32 ta0, .float .f32 tb0, .float .f32 tc0, .float .f32 tx0, .float .f32 ty0, .int .i64 dk0, .float .f32 da0, .float .f32 db0, .float .f32 dc0, .float .f32 dx0, .float .f32 dy0, .float .f32 l0]]) (by simp [Act.eval]) (fun v w1 w2 hw hv => by simp only [if_true] at hv ⊢; obtain ⟨u, B, h1, h2⟩ := hv; exact ⟨u, B, h1, h2.le hw⟩) (fun w1 hw1 _ => (toStringR _ s0 x0 n0 k0 tk0 ta0 tb0 tc0 tx0 ty0 dk0 da0 db0 dc0 dx0 dy0 l0 w1 (Z0.out.le (le_trans (F.drewN _).below hw1)) hn0).mono ?_) ?_
  · rintro e w2 ⟨u, rfl, ho, hl⟩
    exact ⟨_, rfl, hl, by simp only [if_true]; exact ⟨u, _, rfl, ho.rd⟩⟩
  rintro v ⟨_, _, _, hv⟩
  simp only [if_true] at hv
  obtain ⟨u0, Bu0, rfl, _⟩ := hv
  simp only [Act.put, List.setIfInBounds_toArray, List.set_cons_succ, List.set_cons_zero]
  refine wpFreeD_callB rfl rfl Try.func17 (by kernel_rfl) (by kernel_rfl) (args := #[.agg #[tB0, .int .i64 k0, .int .i64 tk0, .float .f32 ta0, .float .f32 tb0, .float .f32 tc0, .float .f32 tx0, .float .f32 ty0, .int .i64 dk0, .float .f32 da0, .float .f32 db0, .float .f32 dc0, .float .f32 dx0, .float .f32 dy0, .float .f32 l0], .agg #[u0, .int .i64 k0, .int .i64 tk0, .float .f32 ta0, .float .f32 tb0, .float .f32 tc0, .float .f32 tx0, .float .f32 ty0, .int .i64 dk0, .float .f32 da0, .float .f32 db0, .float .f32 dc0, .float .f32 dx0, .float .f32 dy0, .float .f32 l0]]) (by simp [Act.eval]) (fun v w1 w2 hw hv => by simp only [show ¬ (17 = 22) by decide, if_false] at hv ⊢; exact hv) (fun w1 hw1 hbe => ?_) ?_
  · have hk := (hbe ⟨2, Ground.data⟩ (by simp) (by kernel_rfl)).2 rfl
    simp only [if_true] at hk
    obtain ⟨u', B', he, hr⟩ := hk
    obtain rfl : u0 = u' := by simpa using he
    refine (eqStringR _ _ _ _ x0 n0 k0 tk0 ta0 tb0 tc0 tx0 ty0 dk0 da0 db0 dc0 dx0 dy0 l0 _ hn0 (((F.drewN 1).le hw1).own (by first | exact m0 | exact m1 | exact m2 | exact m3 | exact m4 | exact m5 | exact m6 | exact m7 | exact m8 | exact m9 | exact m10 | exact m11 | exact m12 | exact m13 | exact m14 | exact m15 | exact m16 | exact m17 | exact m18 | exact m19)).rd hr).mono ?_
    rintro e w2 ⟨rfl, hl⟩
    exact ⟨_, rfl, hl, by simp only [show ¬ (17 = 22) by decide, if_false]⟩
  rintro v ⟨_, _, _, hv⟩
  simp only [show ¬ (17 = 22) by decide, if_false] at hv
  subst hv
  simp only [Act.put, List.setIfInBounds_toArray, List.set_cons_succ, List.set_cons_zero]
  refine wpFreeD_one rfl (.bool false) (fun w1 _ => by kernel_rfl) ?_
  simp only [Act.put, List.setIfInBounds_toArray, List.set_cons_succ, List.set_cons_zero]
  refine wpFreeD_nil (fun wR hwR _ => ?_)
  replace F := (F.drewN 1).le hwR
  clear hwR
  go_wp2_with (first | (((with_reducible refine listN F ?_); clear F; intro wN F)) | ((with_reducible refine at_loadU rfl rfl ?_); first | (with_reducible refine wpList_loadG F rfl rfl rfl (by first | exact m0 | exact m1 | exact m2 | exact m3 | exact m4 | exact m5 | exact m6 | exact m7 | exact m8 | exact m9 | exact m10 | exact m11 | exact m12 | exact m13 | exact m14 | exact m15 | exact m16 | exact m17 | exact m18 | exact m19) Try.underlying31 rfl infoStr (by first | rfl | simp [size_ftab]) ?_) | (with_reducible refine wpList_loadG F rfl rfl rfl (by first | exact m0 | exact m1 | exact m2 | exact m3 | exact m4 | exact m5 | exact m6 | exact m7 | exact m8 | exact m9 | exact m10 | exact m11 | exact m12 | exact m13 | exact m14 | exact m15 | exact m16 | exact m17 | exact m18 | exact m19) Try.underlying40 rfl infoStrL (by first | rfl | simp [size_ftab]) ?_)) | ((with_reducible refine at_loadV rfl rfl ?_); first | (with_reducible refine wpList_loadGG F rfl rfl (by first | exact m0 | exact m1 | exact m2 | exact m3 | exact m4 | exact m5 | exact m6 | exact m7 | exact m8 | exact m9 | exact m10 | exact m11 | exact m12 | exact m13 | exact m14 | exact m15 | exact m16 | exact m17 | exact m18 | exact m19) Try.underlying31 rfl infoStr (by first | rfl | simp [size_ftab]) (by kernel_rfl) ?_) | (with_reducible refine wpList_loadGG F rfl rfl (by first | exact m0 | exact m1 | exact m2 | exact m3 | exact m4 | exact m5 | exact m6 | exact m7 | exact m8 | exact m9 | exact m10 | exact m11 | exact m12 | exact m13 | exact m14 | exact m15 | exact m16 | exact m17 | exact m18 | exact m19) Try.underlying40 rfl infoStrL (by first | rfl | simp [size_ftab]) (by kernel_rfl) ?_)))
  first | ((with_reducible refine callAt0 F ?_); clear F; intro wN F) | ((with_reducible refine callAtN F ?_); clear F; intro wN F)
  refine (markStringR _ _ _ x0 n0 k0 tk0 ta0 tb0 tc0 tx0 ty0 dk0 da0 db0 dc0 dx0 dy0 l0 1 _ hn0 (by omega) (by omega) (F.own (by first | exact m0 | exact m1 | exact m2 | exact m3 | exact m4 | exact m5 | exact m6 | exact m7 | exact m8 | exact m9 | exact m10 | exact m11 | exact m12 | exact m13 | exact m14 | exact m15 | exact m16 | exact m17 | exact m18 | exact m19))).mono ?_
  rintro e w4 ⟨rfl, hR, hU⟩
  (first | replace F := F.mark0 hR hU | replace F := F.mark1 hR hU | replace F := F.mark2 hR hU | replace F := F.mark3 hR hU | replace F := F.mark4 hR hU | replace F := F.mark5 hR hU | replace F := F.mark6 hR hU | replace F := F.mark7 hR hU | replace F := F.mark8 hR hU | replace F := F.mark9 hR hU | replace F := F.mark10 hR hU | replace F := F.mark11 hR hU | replace F := F.mark12 hR hU | replace F := F.mark13 hR hU | replace F := F.mark14 hR hU | replace F := F.mark15 hR hU | replace F := F.mark16 hR hU); clear hR hU
  go_wp2_with (first | (((with_reducible refine listN F ?_); clear F; intro wN F)) | ((with_reducible refine at_store rfl ?_); first | (refine wpList_storeG F rfl rfl rfl rfl rfl infoStr rfl (by first | exact one_head (Hid.out (by assumption)) rfl | (simp [Value.oneCell']; done)) ?_; clear F; intro W F zW; clear zW)) | ((with_reducible refine at_loadU rfl rfl ?_); first | (with_reducible refine wpList_loadG F rfl rfl rfl (by first | exact m0 | exact m1 | exact m2 | exact m3 | exact m4 | exact m5 | exact m6 | exact m7 | exact m8 | exact m9 | exact m10 | exact m11 | exact m12 | exact m13 | exact m14 | exact m15 | exact m16 | exact m17 | exact m18 | exact m19) Try.underlying31 rfl infoStr (by first | rfl | simp [size_ftab]) ?_) | (with_reducible refine wpList_loadG F rfl rfl rfl (by first | exact m0 | exact m1 | exact m2 | exact m3 | exact m4 | exact m5 | exact m6 | exact m7 | exact m8 | exact m9 | exact m10 | exact m11 | exact m12 | exact m13 | exact m14 | exact m15 | exact m16 | exact m17 | exact m18 | exact m19) Try.underlying40 rfl infoStrL (by first | rfl | simp [size_ftab]) ?_)) | ((with_reducible refine at_loadV rfl rfl ?_); first | (with_reducible refine wpList_loadGG F rfl rfl (by first | exact m0 | exact m1 | exact m2 | exact m3 | exact m4 | exact m5 | exact m6 | exact m7 | exact m8 | exact m9 | exact m10 | exact m11 | exact m12 | exact m13 | exact m14 | exact m15 | exact m16 | exact m17 | exact m18 | exact m19) Try.underlying31 rfl infoStr (by first | rfl | simp [size_ftab]) (by kernel_rfl) ?_) | (with_reducible refine wpList_loadGG F rfl rfl (by first | exact m0 | exact m1 | exact m2 | exact m3 | exact m4 | exact m5 | exact m6 | exact m7 | exact m8 | exact m9 | exact m10 | exact m11 | exact m12 | exact m13 | exact m14 | exact m15 | exact m16 | exact m17 | exact m18 | exact m19) Try.underlying40 rfl infoStrL (by first | rfl | simp [size_ftab]) (by kernel_rfl) ?_)) | (go_at_call 17; ((with_reducible refine (eqStringR _ _ _ _ xr0 nr0 kr0 tkr0 tar0 tbr0 tcr0 txr0 tyr0 dkr0 dar0 dbr0 dcr0 dxr0 dyr0 lr0 _ hr0 (by first | exact (F.own (by first | exact m0 | exact m1 | exact m2 | exact m3 | exact m4 | exact m5 | exact m6 | exact m7 | exact m8 | exact m9 | exact m10 | exact m11 | exact m12 | exact m13 | exact m14 | exact m15 | exact m16 | exact m17 | exact m18 | exact m19)).rd) (by first | exact (F.own (by first | exact m0 | exact m1 | exact m2 | exact m3 | exact m4 | exact m5 | exact m6 | exact m7 | exact m8 | exact m9 | exact m10 | exact m11 | exact m12 | exact m13 | exact m14 | exact m15 | exact m16 | exact m17 | exact m18 | exact m19)).rd)).mono ?_); rintro e w7 ⟨rfl, hb7⟩; (replace F := F.le hb7))) | (go_at_call 31; ((with_reducible refine (eqR _ _ _ _ xr1 nr1 _ hr1 (by first | exact (F.own (by first | exact m0 | exact m1 | exact m2 | exact m3 | exact m4 | exact m5 | exact m6 | exact m7 | exact m8 | exact m9 | exact m10 | exact m11 | exact m12 | exact m13 | exact m14 | exact m15 | exact m16 | exact m17 | exact m18 | exact m19)).rd) (by first | exact (F.own (by first | exact m0 | exact m1 | exact m2 | exact m3 | exact m4 | exact m5 | exact m6 | exact m7 | exact m8 | exact m9 | exact m10 | exact m11 | exact m12 | exact m13 | exact m14 | exact m15 | exact m16 | exact m17 | exact m18 | exact m19)).rd)).mono ?_); rintro e w7 ⟨rfl, dq7, rfl⟩; replace F := F.drewN dq7)))
  first | ((with_reducible refine callAt0 F ?_); clear F; intro wN F) | ((with_reducible refine callAtN F ?_); clear F; intro wN F)
  refine (markStringR _ _ _ xr0 nr0 kr0 tkr0 tar0 tbr0 tcr0 txr0 tyr0 dkr0 dar0 dbr0 dcr0 dxr0 dyr0 lr0 1 _ hr0 (by omega) (by omega) (F.own (by first | exact m0 | exact m1 | exact m2 | exact m3 | exact m4 | exact m5 | exact m6 | exact m7 | exact m8 | exact m9 | exact m10 | exact m11 | exact m12 | exact m13 | exact m14 | exact m15 | exact m16 | exact m17 | exact m18 | exact m19))).mono ?_
  rintro e w5 ⟨rfl, hR, hU⟩
  (first | replace F := F.mark0 hR hU | replace F := F.mark1 hR hU | replace F := F.mark2 hR hU | replace F := F.mark3 hR hU | replace F := F.mark4 hR hU | replace F := F.mark5 hR hU | replace F := F.mark6 hR hU | replace F := F.mark7 hR hU | replace F := F.mark8 hR hU | replace F := F.mark9 hR hU | replace F := F.mark10 hR hU | replace F := F.mark11 hR hU | replace F := F.mark12 hR hU | replace F := F.mark13 hR hU | replace F := F.mark14 hR hU | replace F := F.mark15 hR hU | replace F := F.mark16 hR hU); clear hR hU
  go_wp2_with (first | (((with_reducible refine listN F ?_); clear F; intro wN F)) | ((with_reducible refine at_loadU rfl rfl ?_); first | (with_reducible refine wpList_loadG F rfl rfl rfl (by first | exact m0 | exact m1 | exact m2 | exact m3 | exact m4 | exact m5 | exact m6 | exact m7 | exact m8 | exact m9 | exact m10 | exact m11 | exact m12 | exact m13 | exact m14 | exact m15 | exact m16 | exact m17 | exact m18 | exact m19) Try.underlying31 rfl infoStr (by first | rfl | simp [size_ftab]) ?_) | (with_reducible refine wpList_loadG F rfl rfl rfl (by first | exact m0 | exact m1 | exact m2 | exact m3 | exact m4 | exact m5 | exact m6 | exact m7 | exact m8 | exact m9 | exact m10 | exact m11 | exact m12 | exact m13 | exact m14 | exact m15 | exact m16 | exact m17 | exact m18 | exact m19) Try.underlying40 rfl infoStrL (by first | rfl | simp [size_ftab]) ?_)) | ((with_reducible refine at_loadV rfl rfl ?_); first | (with_reducible refine wpList_loadGG F rfl rfl (by first | exact m0 | exact m1 | exact m2 | exact m3 | exact m4 | exact m5 | exact m6 | exact m7 | exact m8 | exact m9 | exact m10 | exact m11 | exact m12 | exact m13 | exact m14 | exact m15 | exact m16 | exact m17 | exact m18 | exact m19) Try.underlying31 rfl infoStr (by first | rfl | simp [size_ftab]) (by kernel_rfl) ?_) | (with_reducible refine wpList_loadGG F rfl rfl (by first | exact m0 | exact m1 | exact m2 | exact m3 | exact m4 | exact m5 | exact m6 | exact m7 | exact m8 | exact m9 | exact m10 | exact m11 | exact m12 | exact m13 | exact m14 | exact m15 | exact m16 | exact m17 | exact m18 | exact m19) Try.underlying40 rfl infoStrL (by first | rfl | simp [size_ftab]) (by kernel_rfl) ?_)))
  first | ((with_reducible refine callAt0 F ?_); clear F; intro wN F) | ((with_reducible refine callAtN F ?_); clear F; intro wN F)
  refine (markR _ _ _ xr1 nr1 (1 + nr0) _ hr1 (by omega) (by omega) (F.own (by first | exact m0 | exact m1 | exact m2 | exact m3 | exact m4 | exact m5 | exact m6 | exact m7 | exact m8 | exact m9 | exact m10 | exact m11 | exact m12 | exact m13 | exact m14 | exact m15 | exact m16 | exact m17 | exact m18 | exact m19))).mono ?_
  rintro e w5 ⟨rfl, hR, hU, _⟩
  (first | replace F := F.mark0 hR hU | replace F := F.mark1 hR hU | replace F := F.mark2 hR hU | replace F := F.mark3 hR hU | replace F := F.mark4 hR hU | replace F := F.mark5 hR hU | replace F := F.mark6 hR hU | replace F := F.mark7 hR hU | replace F := F.mark8 hR hU | replace F := F.mark9 hR hU | replace F := F.mark10 hR hU | replace F := F.mark11 hR hU | replace F := F.mark12 hR hU | replace F := F.mark13 hR hU | replace F := F.mark14 hR hU | replace F := F.mark15 hR hU | replace F := F.mark16 hR hU); clear hR hU
  go_wp2_with (first | (((with_reducible refine listN F ?_); clear F; intro wN F)) | ((with_reducible refine at_loadU rfl rfl ?_); first | (with_reducible refine wpList_loadG F rfl rfl rfl (by first | exact m0 | exact m1 | exact m2 | exact m3 | exact m4 | exact m5 | exact m6 | exact m7 | exact m8 | exact m9 | exact m10 | exact m11 | exact m12 | exact m13 | exact m14 | exact m15 | exact m16 | exact m17 | exact m18 | exact m19) Try.underlying31 rfl infoStr (by first | rfl | simp [size_ftab]) ?_) | (with_reducible refine wpList_loadG F rfl rfl rfl (by first | exact m0 | exact m1 | exact m2 | exact m3 | exact m4 | exact m5 | exact m6 | exact m7 | exact m8 | exact m9 | exact m10 | exact m11 | exact m12 | exact m13 | exact m14 | exact m15 | exact m16 | exact m17 | exact m18 | exact m19) Try.underlying40 rfl infoStrL (by first | rfl | simp [size_ftab]) ?_)) | ((with_reducible refine at_loadV rfl rfl ?_); first | (with_reducible refine wpList_loadGG F rfl rfl (by first | exact m0 | exact m1 | exact m2 | exact m3 | exact m4 | exact m5 | exact m6 | exact m7 | exact m8 | exact m9 | exact m10 | exact m11 | exact m12 | exact m13 | exact m14 | exact m15 | exact m16 | exact m17 | exact m18 | exact m19) Try.underlying31 rfl infoStr (by first | rfl | simp [size_ftab]) (by kernel_rfl) ?_) | (with_reducible refine wpList_loadGG F rfl rfl (by first | exact m0 | exact m1 | exact m2 | exact m3 | exact m4 | exact m5 | exact m6 | exact m7 | exact m8 | exact m9 | exact m10 | exact m11 | exact m12 | exact m13 | exact m14 | exact m15 | exact m16 | exact m17 | exact m18 | exact m19) Try.underlying40 rfl infoStrL (by first | rfl | simp [size_ftab]) (by kernel_rfl) ?_)) | (go_at_call 19; ((with_reducible refine (heldStringR _ _ nr0 kr0 tkr0 tar0 tbr0 tcr0 txr0 tyr0 dkr0 dar0 dbr0 dcr0 dxr0 dyr0 lr0 1 _ hr0 (by omega) (by omega) (F.own (by first | exact m0 | exact m1 | exact m2 | exact m3 | exact m4 | exact m5 | exact m6 | exact m7 | exact m8 | exact m9 | exact m10 | exact m11 | exact m12 | exact m13 | exact m14 | exact m15 | exact m16 | exact m17 | exact m18 | exact m19)).rd).mono ?_); rintro e w6 ⟨rfl, hb6⟩; (replace F := F.le hb6))) | (go_at_call 40; ((with_reducible refine (heldR _ _ nr1 (1 + nr0) _ hr1 (by omega) (by omega) (F.own (by first | exact m0 | exact m1 | exact m2 | exact m3 | exact m4 | exact m5 | exact m6 | exact m7 | exact m8 | exact m9 | exact m10 | exact m11 | exact m12 | exact m13 | exact m14 | exact m15 | exact m16 | exact m17 | exact m18 | exact m19)).rd).mono ?_); rintro e w6 ⟨rfl, rfl⟩; skip)) | (go_at_call 22; ((with_reducible refine (toStringR _ s0 x0 n0 k0 tk0 ta0 tb0 tc0 tx0 ty0 dk0 da0 db0 dc0 dx0 dy0 l0 _ (Z0.out.le (by first | exact F.below)) hn0).mono ?_); rintro e w1 ⟨tC0, rfl, ho1, hl1⟩; have oc := hid (OwnS.one ho1); (first | replace F := F.own1 hl1 ho1); clear hl1 ho1)))
  first | ((with_reducible refine callAt0 F ?_); clear F; intro wN F) | ((with_reducible refine callAtN F ?_); clear F; intro wN F)
  refine (HI.out _ _ _ (by first | exact (F.own (by first | exact m0 | exact m1 | exact m2 | exact m3 | exact m4 | exact m5 | exact m6 | exact m7 | exact m8 | exact m9 | exact m10 | exact m11 | exact m12 | exact m13 | exact m14 | exact m15 | exact m16 | exact m17 | exact m18 | exact m19)).rd)).mono ?_
  rintro e wH ⟨vH0, vH1, qH, rfl, oH0, oH1, gH1, gH2, hlH⟩
  have oc := hid (OwnS.one oH0)
  (first | replace F := F.own2 hlH gH1 gH2 oH0 oH1); clear hlH oH0 oH1
  go_wp2_with (first | (((with_reducible refine listN F ?_); clear F; intro wN F)) | ((with_reducible refine at_store rfl ?_); first | (refine wpList_storeG F rfl rfl rfl rfl rfl infoStr rfl (by first | exact one_head (Hid.out (by assumption)) rfl | (simp [Value.oneCell']; done)) ?_; clear F; intro W F zW; clear zW)) | ((with_reducible refine at_loadU rfl rfl ?_); first | (with_reducible refine wpList_loadG F rfl rfl rfl (by first | exact m0 | exact m1 | exact m2 | exact m3 | exact m4 | exact m5 | exact m6 | exact m7 | exact m8 | exact m9 | exact m10 | exact m11 | exact m12 | exact m13 | exact m14 | exact m15 | exact m16 | exact m17 | exact m18 | exact m19) Try.underlying31 rfl infoStr (by first | rfl | simp [size_ftab]) ?_) | (with_reducible refine wpList_loadG F rfl rfl rfl (by first | exact m0 | exact m1 | exact m2 | exact m3 | exact m4 | exact m5 | exact m6 | exact m7 | exact m8 | exact m9 | exact m10 | exact m11 | exact m12 | exact m13 | exact m14 | exact m15 | exact m16 | exact m17 | exact m18 | exact m19) Try.underlying40 rfl infoStrL (by first | rfl | simp [size_ftab]) ?_)) | ((with_reducible refine at_loadV rfl rfl ?_); first | (with_reducible refine wpList_loadGG F rfl rfl (by first | exact m0 | exact m1 | exact m2 | exact m3 | exact m4 | exact m5 | exact m6 | exact m7 | exact m8 | exact m9 | exact m10 | exact m11 | exact m12 | exact m13 | exact m14 | exact m15 | exact m16 | exact m17 | exact m18 | exact m19) Try.underlying31 rfl infoStr (by first | rfl | simp [size_ftab]) (by kernel_rfl) ?_) | (with_reducible refine wpList_loadGG F rfl rfl (by first | exact m0 | exact m1 | exact m2 | exact m3 | exact m4 | exact m5 | exact m6 | exact m7 | exact m8 | exact m9 | exact m10 | exact m11 | exact m12 | exact m13 | exact m14 | exact m15 | exact m16 | exact m17 | exact m18 | exact m19) Try.underlying40 rfl infoStrL (by first | rfl | simp [size_ftab]) (by kernel_rfl) ?_)) | (go_at_call 17; ((with_reducible refine (eqStringR _ _ _ _ xr0 nr0 kr0 tkr0 tar0 tbr0 tcr0 txr0 tyr0 dkr0 dar0 dbr0 dcr0 dxr0 dyr0 lr0 _ hr0 (by first | exact (F.own (by first | exact m0 | exact m1 | exact m2 | exact m3 | exact m4 | exact m5 | exact m6 | exact m7 | exact m8 | exact m9 | exact m10 | exact m11 | exact m12 | exact m13 | exact m14 | exact m15 | exact m16 | exact m17 | exact m18 | exact m19)).rd) (by first | exact (F.own (by first | exact m0 | exact m1 | exact m2 | exact m3 | exact m4 | exact m5 | exact m6 | exact m7 | exact m8 | exact m9 | exact m10 | exact m11 | exact m12 | exact m13 | exact m14 | exact m15 | exact m16 | exact m17 | exact m18 | exact m19)).rd)).mono ?_); rintro e w7 ⟨rfl, hb7⟩; (replace F := F.le hb7))) | (go_at_call 31; ((with_reducible refine (eqR _ _ _ _ xr1 nr1 _ hr1 (by first | exact (F.own (by first | exact m0 | exact m1 | exact m2 | exact m3 | exact m4 | exact m5 | exact m6 | exact m7 | exact m8 | exact m9 | exact m10 | exact m11 | exact m12 | exact m13 | exact m14 | exact m15 | exact m16 | exact m17 | exact m18 | exact m19)).rd) (by first | exact (F.own (by first | exact m0 | exact m1 | exact m2 | exact m3 | exact m4 | exact m5 | exact m6 | exact m7 | exact m8 | exact m9 | exact m10 | exact m11 | exact m12 | exact m13 | exact m14 | exact m15 | exact m16 | exact m17 | exact m18 | exact m19)).rd)).mono ?_); rintro e w7 ⟨rfl, dq7, rfl⟩; replace F := F.drewN dq7)) | (go_at_call 19; ((with_reducible refine (heldStringR _ _ nr0 kr0 tkr0 tar0 tbr0 tcr0 txr0 tyr0 dkr0 dar0 dbr0 dcr0 dxr0 dyr0 lr0 1 _ hr0 (by omega) (by omega) (F.own (by first | exact m0 | exact m1 | exact m2 | exact m3 | exact m4 | exact m5 | exact m6 | exact m7 | exact m8 | exact m9 | exact m10 | exact m11 | exact m12 | exact m13 | exact m14 | exact m15 | exact m16 | exact m17 | exact m18 | exact m19)).rd).mono ?_); rintro e w6 ⟨rfl, hb6⟩; (replace F := F.le hb6))) | (go_at_call 40; ((with_reducible refine (heldR _ _ nr1 (1 + nr0) _ hr1 (by omega) (by omega) (F.own (by first | exact m0 | exact m1 | exact m2 | exact m3 | exact m4 | exact m5 | exact m6 | exact m7 | exact m8 | exact m9 | exact m10 | exact m11 | exact m12 | exact m13 | exact m14 | exact m15 | exact m16 | exact m17 | exact m18 | exact m19)).rd).mono ?_); rintro e w6 ⟨rfl, rfl⟩; skip)))
  go_ret
  first | exact ⟨rfl, F.below⟩ | exact ⟨rfl, below_drewN F.below _⟩
set_option maxRecDepth 100000 in
set_option maxHeartbeats 2000000 in
theorem large0 (s0 : Value) (x0 : Nat → Nat) (n0 : Nat) (k0 : Int) (tk0 : Int) (ta0 : Nat) (tb0 : Nat) (tc0 : Nat) (tx0 : Nat) (ty0 : Nat) (dk0 : Int) (da0 : Nat) (db0 : Nat) (dc0 : Nat) (dx0 : Nat) (dy0 : Nat) (l0 : Nat) (a1 : Int) (w : World) (z0 : RdS w w.heap.size s0 x0 n0)  (hl : ¬ n0 ≤ 1048576) :
    Calls Try.prog 10 #[.agg #[s0, .int .i64 k0, .int .i64 tk0, .float .f32 ta0, .float .f32 tb0, .float .f32 tc0, .float .f32 tx0, .float .f32 ty0, .int .i64 dk0, .float .f32 da0, .float .f32 db0, .float .f32 dc0, .float .f32 dx0, .float .f32 dy0, .float .f32 l0], .int .i64 a1] w fun e w' => e = .returned (.bool true) ∧ Below w.heap.size w w' := by
  have Z0 := hid z0; have hs0 := z0.small; clear z0
  have F := Frg.nil w
  replace F := F.box 40 (#[s0, .int .i64 k0, .int .i64 tk0, .float .f32 ta0, .float .f32 tb0, .float .f32 tc0, .float .f32 tx0, .float .f32 ty0, .int .i64 dk0, .float .f32 da0, .float .f32 db0, .float .f32 dc0, .float .f32 dx0, .float .f32 dy0, .float .f32 l0])
  go_enter Try.func10, Try.ntmps10
  go_wp2_with (first | (((with_reducible refine listN F ?_); clear F; intro wN F)) | ((with_reducible refine at_loadU rfl rfl ?_); first | (with_reducible refine wpList_loadG F rfl rfl rfl (by first | exact m0 | exact m1 | exact m2 | exact m3 | exact m4 | exact m5 | exact m6 | exact m7 | exact m8 | exact m9 | exact m10 | exact m11 | exact m12 | exact m13 | exact m14 | exact m15 | exact m16 | exact m17 | exact m18 | exact m19) Try.underlying31 rfl infoStr (by first | rfl | simp [size_ftab]) ?_) | (with_reducible refine wpList_loadG F rfl rfl rfl (by first | exact m0 | exact m1 | exact m2 | exact m3 | exact m4 | exact m5 | exact m6 | exact m7 | exact m8 | exact m9 | exact m10 | exact m11 | exact m12 | exact m13 | exact m14 | exact m15 | exact m16 | exact m17 | exact m18 | exact m19) Try.underlying40 rfl infoStrL (by first | rfl | simp [size_ftab]) ?_)) | ((with_reducible refine at_loadV rfl rfl ?_); first | (with_reducible refine wpList_loadGG F rfl rfl (by first | exact m0 | exact m1 | exact m2 | exact m3 | exact m4 | exact m5 | exact m6 | exact m7 | exact m8 | exact m9 | exact m10 | exact m11 | exact m12 | exact m13 | exact m14 | exact m15 | exact m16 | exact m17 | exact m18 | exact m19) Try.underlying31 rfl infoStr (by first | rfl | simp [size_ftab]) (by kernel_rfl) ?_) | (with_reducible refine wpList_loadGG F rfl rfl (by first | exact m0 | exact m1 | exact m2 | exact m3 | exact m4 | exact m5 | exact m6 | exact m7 | exact m8 | exact m9 | exact m10 | exact m11 | exact m12 | exact m13 | exact m14 | exact m15 | exact m16 | exact m17 | exact m18 | exact m19) Try.underlying40 rfl infoStrL (by first | rfl | simp [size_ftab]) (by kernel_rfl) ?_)) | (go_at_call 20; ((with_reducible refine (szStringRM_no _ s0 x0 n0 k0 tk0 ta0 tb0 tc0 tx0 ty0 dk0 da0 db0 dc0 dx0 dy0 l0 (1048576 : Int) _ (Z0.out.le (by first | exact F.below)) (by omega) (by omega) (by omega)).mono ?_); rintro e w1 ⟨rfl, hb1⟩; (replace F := F.le hb1))))
  go_ret
  first | exact ⟨rfl, F.below⟩ | exact ⟨rfl, below_drewN F.below _⟩
theorem walk (s0 : Value) (y0 : Nat → Nat) (n0 : Nat) (k0 : Int) (tk0 : Int) (ta0 : Nat) (tb0 : Nat) (tc0 : Nat) (tx0 : Nat) (ty0 : Nat) (dk0 : Int) (da0 : Nat) (db0 : Nat) (dc0 : Nat) (dx0 : Nat) (dy0 : Nat) (l0 : Nat) (a1 : Int) (w : World) (w0 : (Lit.int .i64 k0).wf = true ∧ (Lit.int .i64 tk0).wf = true ∧ fits .f32 ta0 ∧ fits .f32 tb0 ∧ fits .f32 tc0 ∧ fits .f32 tx0 ∧ fits .f32 ty0 ∧ (Lit.int .i64 dk0).wf = true ∧ fits .f32 da0 ∧ fits .f32 db0 ∧ fits .f32 dc0 ∧ fits .f32 dx0 ∧ fits .f32 dy0 ∧ fits .f32 l0) (z0 : SlIn w s0 y0 n0) (w1 : (Lit.int .i64 a1).wf = true) :
    Calls Try.prog 10 #[.agg #[s0, .int .i64 k0, .int .i64 tk0, .float .f32 ta0, .float .f32 tb0, .float .f32 tc0, .float .f32 tx0, .float .f32 ty0, .int .i64 dk0, .float .f32 da0, .float .f32 db0, .float .f32 dc0, .float .f32 dx0, .float .f32 dy0, .float .f32 l0], .int .i64 a1] w fun e w' => e = .returned (.bool true) ∧ Below w.heap.size w w' := by
  by_cases h0 : n0 ≤ 1048576
  · skip
    obtain ⟨xr0, nr0, kr0, tkr0, tar0, tbr0, tcr0, txr0, tyr0, dkr0, dar0, dbr0, dcr0, dxr0, dyr0, lr0, xr1, nr1, ar2, hr0, hr1, hS, hI⟩ := both_PlayString (fun i => can .f32 (y0 i)) n0 k0 tk0 ta0 tb0 tc0 tx0 ty0 dk0 da0 db0 dc0 dx0 dy0 l0 a1 w0
    exact core s0 (fun i => can .f32 (y0 i)) n0 k0 tk0 ta0 tb0 tc0 tx0 ty0 dk0 da0 db0 dc0 dx0 dy0 l0 a1 xr0 nr0 kr0 tkr0 tar0 tbr0 tcr0 txr0 tyr0 dkr0 dar0 dbr0 dcr0 dxr0 dyr0 lr0 xr1 nr1 ar2 w z0.rd (by omega) hr0 hr1 hS hI
  · exact large0 s0 (fun i => can .f32 (y0 i)) n0 k0 tk0 ta0 tb0 tc0 tx0 ty0 dk0 da0 db0 dc0 dx0 dy0 l0 a1 w z0.rd  h0
end Go.Proofs.Ytaenbpkcehenkac.fnExactPlayString
