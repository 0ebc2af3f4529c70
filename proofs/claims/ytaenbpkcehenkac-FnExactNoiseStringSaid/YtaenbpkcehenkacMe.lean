/- Texts of the walk, laid in one file. -/
import Derived.Deep.RegionWith
import Derived.Test.YtaenbpkcehenkacMd
set_option linter.unusedVariables false
set_option linter.unusedSimpArgs false
/- Strings of the model. -/
namespace Go.Fk
open Go Go.RowKit
theorem inTuneQ (s : Value) (q : StS) : FilIn #[s, .int .i64 (q.j : Nat), .int .i64 3, .float .f32 (q.ta), .float .f32 (q.tb), .float .f32 (q.tc), .float .f32 (q.tx), .float .f32 (q.ty), .int .i64 2, .float .f32 (q.da), .float .f32 (q.db), .float .f32 (q.dc), .float .f32 (q.dx), .float .f32 (q.dy), .float .f32 (q.l)] 2 3 q.ta q.tb q.tc q.tx q.ty := ⟨rfl, rfl, rfl, rfl, rfl, rfl⟩
theorem inDampQ (s : Value) (q : StS) : FilIn #[s, .int .i64 (q.j : Nat), .int .i64 3, .float .f32 (q.ta), .float .f32 (q.tb), .float .f32 (q.tc), .float .f32 (q.tx), .float .f32 (q.ty), .int .i64 2, .float .f32 (q.da), .float .f32 (q.db), .float .f32 (q.dc), .float .f32 (q.dx), .float .f32 (q.dy), .float .f32 (q.l)] 8 2 q.da q.db q.dc q.dx q.dy := ⟨rfl, rfl, rfl, rfl, rfl, rfl⟩
theorem can_y2 (q : StS) : can .f32 (y2S q) = y2S q := can_outF _ _ _ _ _ _ _
theorem chg_upd {g : Nat} {w w' : World} (h : Upd g w w') : Chg (· = g) w w' := ⟨h.os, h.tape, h.output, h.size, fun k hk hn => h.block k hk hn⟩
theorem next_of {q : StS} {a r2 p r : Nat} (h2 : can .f32 r2 = y2S q) (hp : can .f32 p = fop .mul .f32 r2 q.l) (hr : can .f32 r = fop .add .f32 p a) : kept r = nextS q a := by
  unfold nextS
  refine kept_can (hr.trans ?_)
  rw [can_fop]
  exact fop_congr (hp.trans ((fop_congr (by rw [h2]; exact (can_y2 q).symm) rfl).trans (can_fop _ _ _ _).symm)) rfl
end Go.Fk
namespace Go.Proofs.Ytaenbpkcehenkac
open Go.RowKit Go.Fk
/-- A string in a block of its own; all its blocks lie from B to C. -/
def SpS (w : World) (B C g : Nat) (q : StS) : Prop := ∃ (s : Value) (lo hi : Nat), Row w g 31 #[s, .int .i64 (q.j : Nat), .int .i64 3, .float .f32 (q.ta), .float .f32 (q.tb), .float .f32 (q.tc), .float .f32 (q.tx), .float .f32 (q.ty), .int .i64 2, .float .f32 (q.da), .float .f32 (q.db), .float .f32 (q.dc), .float .f32 (q.dx), .float .f32 (q.dy), .float .f32 (q.l)] ∧ OwnS w lo hi s q.x q.n ∧ B ≤ g ∧ g < C ∧ B ≤ lo ∧ hi ≤ C ∧ ¬ (lo ≤ g ∧ g < hi)
def OutSS (B C g : Nat) (q : StS) (a : Nat) (w : World) (e : Ending) (w' : World) : Prop := ∃ o, e = .returned (.float .f32 o) ∧ can .f32 o = q.x q.j ∧ fits .f32 o ∧ SpS w' B C g (stepS q a) ∧ Chg (rng B C) w w'
set_option maxRecDepth 100000 in
set_option maxHeartbeats 2000000 in
theorem s_l03Copy (B : Nat) (s : Value) (x : Nat → Nat) (n : Nat) (k tk : Int) (ta tb tc tx ty : Nat) (dk : Int) (da db dc dx dy l : Nat) (g : Nat) (w : World) (hs : RdS w B s x n) (R : Row w g 31 #[s, .int .i64 k, .int .i64 tk, .float .f32 ta, .float .f32 tb, .float .f32 tc, .float .f32 tx, .float .f32 ty, .int .i64 dk, .float .f32 da, .float .f32 db, .float .f32 dc, .float .f32 dx, .float .f32 dy, .float .f32 l]) (h1 : 1 ≤ n) (h2 : n ≤ 1024) :
    Calls Try.prog 76 #[.pointer (some ⟨g, 0, none⟩)] w fun e w' => ∃ s', e = .returned (.agg #[s', .int .i64 k, .int .i64 tk, .float .f32 ta, .float .f32 tb, .float .f32 tc, .float .f32 tx, .float .f32 ty, .int .i64 dk, .float .f32 da, .float .f32 db, .float .f32 dc, .float .f32 dx, .float .f32 dy, .float .f32 l]) ∧ OwnS w' w.heap.size w'.heap.size s' x n ∧ le w w' := by
  have HS := hid hs; have HRW := hid R; clear hs
  have hgw : g < w.heap.size := R.lt
  clear R
  have G := (Frg.nil w).box 31 #[.slice none 0 0, .int .i64 0, .int .i64 0, .float .f32 0, .float .f32 0, .float .f32 0, .float .f32 0, .float .f32 0, .int .i64 0, .float .f32 0, .float .f32 0, .float .f32 0, .float .f32 0, .float .f32 0, .float .f32 0]
  go_enter Try.func76, Try.ntmps76
  go_wp2_with fail
  obtain ⟨W, hW⟩ : ∃ W, W = w.alloc (.cells #[.slice none 0 0, .int .i64 0, .int .i64 0, .float .f32 0, .float .f32 0, .float .f32 0, .float .f32 0, .float .f32 0, .int .i64 0, .float .f32 0, .float .f32 0, .float .f32 0, .float .f32 0, .float .f32 0, .float .f32 0] 31) := ⟨_, rfl⟩
  rw [← hW] at G ⊢
  clear hW
  have F := (Frm.one (HRW.out.le G.below)).drewN 1
  have G1 := G.drewN 1
  refine region_tail (fun _ _ w' v => ∃ s', v = .agg #[s', .int .i64 k] ∧ OwnS w' (W.drewN 1).heap.size w'.heap.size s' x n) 17 (by kernel_rfl) (by kernel_rfl) ?_
  simp only [List.take_succ_cons, List.take_zero, List.drop_succ_cons, List.drop_zero]
  refine wpFree_one rfl (.pointer (some ⟨g, 0, none⟩)) (fun w1 _ => by kernel_rfl) ?_
  simp only [Act.put, List.setIfInBounds_toArray, List.set_cons_succ, List.set_cons_zero]
  refine wpFree_one rfl (.pointer (some ⟨g, 0, none⟩)) (fun w1 _ => by kernel_rfl) ?_
  simp only [Act.put, List.setIfInBounds_toArray, List.set_cons_succ, List.set_cons_zero]
  refine wpFree_one rfl (.pointer (some ⟨g, 0, none⟩)) (fun w1 _ => by kernel_rfl) ?_
  simp only [Act.put, List.setIfInBounds_toArray, List.set_cons_succ, List.set_cons_zero]
  refine wpFree_call rfl rfl Try.func109 (by kernel_rfl) (by kernel_rfl) (args := #[.pointer (some ⟨g, 0, none⟩)]) (by simp [Act.eval]) (fun v w1 w2 hw hv => by obtain ⟨s', e1, e2⟩ := hv; exact ⟨s', e1, (e2.le hw).mono (Nat.le_refl _) hw.size⟩) (fun w1 hw1 => (s_l02Copy B s x n k g 0 w1 (HS.out.le (le_trans G1.below hw1)) ((HRW.out.le (le_trans G1.below hw1)).cell? 0) ((HRW.out.le (le_trans G1.below hw1)).cell? 1) h1 h2).mono ?_) ?_
  · rintro e w2 ⟨s', rfl, ho, hl⟩
    exact ⟨_, rfl, hl, s', rfl, ho.mono hw1.size (Nat.le_refl _)⟩
  rintro v ⟨_, _, s', rfl, _⟩
  simp only [Act.put, List.setIfInBounds_toArray, List.set_cons_succ, List.set_cons_zero]
  refine wpFree_one rfl (.pointer (some ⟨g, 0, none⟩)) (fun w1 _ => by kernel_rfl) ?_
  simp only [Act.put, List.setIfInBounds_toArray, List.set_cons_succ, List.set_cons_zero]
  refine wpFree_one rfl (.pointer (some ⟨g, 0, none⟩)) (fun w1 _ => by kernel_rfl) ?_
  simp only [Act.put, List.setIfInBounds_toArray, List.set_cons_succ, List.set_cons_zero]
  refine wpFree_one rfl (.pointer (some ⟨g, 2, none⟩)) (fun w1 _ => by kernel_rfl) ?_
  simp only [Act.put, List.setIfInBounds_toArray, List.set_cons_succ, List.set_cons_zero]
  refine wpFree_loadPart F (n := 0) rfl rfl rfl rfl List.mem_cons_self Try.underlying29 rfl [.int .i64 tk, .float .f32 ta, .float .f32 tb, .float .f32 tc, .float .f32 tx, .float .f32 ty] (strTune s k tk ta tb tc tx ty dk da db dc dx dy l) infoFil ?_
  simp only [Act.put, List.setIfInBounds_toArray, List.set_cons_succ, List.set_cons_zero]
  refine wpFree_one rfl (.pointer (some ⟨g, 0, none⟩)) (fun w1 _ => by kernel_rfl) ?_
  simp only [Act.put, List.setIfInBounds_toArray, List.set_cons_succ, List.set_cons_zero]
  refine wpFree_one rfl (.pointer (some ⟨g, 0, none⟩)) (fun w1 _ => by kernel_rfl) ?_
  simp only [Act.put, List.setIfInBounds_toArray, List.set_cons_succ, List.set_cons_zero]
  refine wpFree_one rfl (.pointer (some ⟨g, 8, none⟩)) (fun w1 _ => by kernel_rfl) ?_
  simp only [Act.put, List.setIfInBounds_toArray, List.set_cons_succ, List.set_cons_zero]
  refine wpFree_loadPart F (n := 0) rfl rfl rfl rfl List.mem_cons_self Try.underlying29 rfl [.int .i64 dk, .float .f32 da, .float .f32 db, .float .f32 dc, .float .f32 dx, .float .f32 dy] (strDamp s k tk ta tb tc tx ty dk da db dc dx dy l) infoFil ?_
  simp only [Act.put, List.setIfInBounds_toArray, List.set_cons_succ, List.set_cons_zero]
  refine wpFree_one rfl (.pointer (some ⟨g, 0, none⟩)) (fun w1 _ => by kernel_rfl) ?_
  simp only [Act.put, List.setIfInBounds_toArray, List.set_cons_succ, List.set_cons_zero]
  refine wpFree_one rfl (.pointer (some ⟨g, 0, none⟩)) (fun w1 _ => by kernel_rfl) ?_
  simp only [Act.put, List.setIfInBounds_toArray, List.set_cons_succ, List.set_cons_zero]
  refine wpFree_one rfl (.pointer (some ⟨g, 14, none⟩)) (fun w1 _ => by kernel_rfl) ?_
  simp only [Act.put, List.setIfInBounds_toArray, List.set_cons_succ, List.set_cons_zero]
  refine wpFree_loadF F (n := 0) rfl rfl rfl rfl List.mem_cons_self rfl Try.underlying22 ?_
  simp only [Act.put, List.setIfInBounds_toArray, List.set_cons_succ, List.set_cons_zero]
  refine wpFree_one rfl (.agg #[s', .int .i64 k, .int .i64 tk, .float .f32 ta, .float .f32 tb, .float .f32 tc, .float .f32 tx, .float .f32 ty, .int .i64 dk, .float .f32 da, .float .f32 db, .float .f32 dc, .float .f32 dx, .float .f32 dy, .float .f32 l]) (fun w1 _ => by kernel_rfl) ?_
  simp only [Act.put, List.setIfInBounds_toArray, List.set_cons_succ, List.set_cons_zero]
  refine wpFree_nil (fun w3 hw3 hF => ?_)
  obtain ⟨_, s2, hs2, ho⟩ := hF
  obtain rfl : s' = s2 := by simpa using hs2
  have G3 := G1.own1 hw3 ho
  have OC := hid (OwnS.one ho)
  refine wpList_storeD rfl rfl rfl (cells := #[s', .int .i64 k, .int .i64 tk, .float .f32 ta, .float .f32 tb, .float .f32 tc, .float .f32 tx, .float .f32 ty, .int .i64 dk, .float .f32 da, .float .f32 db, .float .f32 dc, .float .f32 dx, .float .f32 dy, .float .f32 l]) rfl (G3.row m1) infoStr rfl (one_head OC.out rfl) (fun w4 KW => ?_)
  have RW := hid KW.row
  have L := hid (G3.fin0 KW)
  clear KW G3 G1 G F
  go_wp2
  exact bodyPost_ret (results_row1 rfl _ _ _ _ _ rfl RW.out Try.underlying31 rfl infoStr) rfl ⟨_, rfl, L.out.1, L.out.2⟩
set_option maxRecDepth 100000 in
set_option maxHeartbeats 4000000 in
theorem s_l03Step (B C g : Nat) (q : StS) (a : Nat) (w : World) (h : SpS w B C g q) (ok : q.Ok) (ha : fits .f32 a) :
    Calls Try.prog 86 #[.pointer (some ⟨g, 0, none⟩), .float .f32 a] w (OutSS B C g q a w) := by
  obtain ⟨s, lo, hi, R, O, g1, g2, g3, g4, g5⟩ := h
  rcases O with ⟨rfl, h0⟩ | ⟨b, o, cap, ds, rfl, hc, hm, hb, hb', hrow, hx⟩
  · have := ok.n1; omega
  obtain ⟨y, ey, fy, cy⟩ := hx q.j ok.j1
  have c0 := R.cell? 0
  have c1 := R.cell? 1
  have cb : w.cell? ⟨b, o + q.j, none⟩ = some (.float .f32 y) := (hrow.cell? (o + q.j)).trans ey
  have j1 := ok.j1
  have n2 := ok.n2
  have RR := hid R; have HROW := hid hrow; have HX := hid hx; have HY := hid ey; have HC := hid cy; have HM := hid hm; have OK := hid ok
  clear R hrow hx ey cy ok
  unfold maxLen at hm
  go_enter Try.func86, Try.ntmps86
  go_wp2_with fail
  refine wp_region_loose (fun _ _ _ => True) (by kernel_rfl) (by kernel_rfl) ?_
  repeat (first | (refine wpLoose_quiet rfl ?_; go_big_quiet_step (fail); refine wpQuiet_nil ?_) | (refine wpLoose_nilP rfl rfl rfl ?_; simp only [Act.put, List.setIfInBounds_toArray, List.set_cons_succ, List.set_cons_zero]))
  refine wpLoose_nil (fun m1 => ?_)
  go_wp2_with fail
  clear c0 c1 cb
  have HCY : Hid (can .f32 y = can .f32 (q.x q.j)) := by unfold Hid; rw [← HC.out, can_can]
  have HN := hid (fun r2 p r => @next_of q a r2 p r)
  go_region_with (go_at_call 112; first | ((with_reducible refine (s_StepAt3 q.ta q.tb q.tc q.tx q.ty y g 2 _ _ _ (RR.out.drewN _) (inTuneQ _ q) OK.out.ftx fy).mono ?_); rintro e w1 ⟨r1, rfl, hr1, fr1, hR1, hU1⟩; rw [st0_congr HCY.out, st1_congr HCY.out] at hR1; have R1 := hid (show Row w1 g 31 #[(.slice (some ⟨b, o, none⟩) q.n cap), .int .i64 (q.j : Nat), .int .i64 3, .float .f32 (q.ta), .float .f32 (q.tb), .float .f32 (q.tc), .float .f32 (st0 3 q.ta q.tb q.tc q.tx q.ty (q.x q.j)), .float .f32 (st1 3 q.ta q.tb q.tc q.tx q.ty (q.x q.j)), .int .i64 2, .float .f32 (q.da), .float .f32 (q.db), .float .f32 (q.dc), .float .f32 (q.dx), .float .f32 (q.dy), .float .f32 (q.l)] from by simpa using hR1); have HC1 : Hid (can .f32 r1 = can .f32 (y1S q)) := (hr1.trans ((outF_congr HCY.out).trans (can_outF _ _ _ _ _ _ _).symm)); have U1 := hid (chg_upd hU1); clear hR1 hr1 hU1) | ((with_reducible refine (s_StepAt2 q.da q.db q.dc q.dx q.dy r1 g 8 _ _ _ R1.out ⟨rfl, rfl, rfl, rfl, rfl, rfl⟩ OK.out.fdx fr1 (okF_y OK.out.d (.inr rfl))).mono ?_); rintro e w2 ⟨r2, rfl, hr2, fr2, hR2, hU2⟩; rw [st0_congr HC1.out, st1_congr HC1.out] at hR2; have R2 := hid (show Row w2 g 31 #[(.slice (some ⟨b, o, none⟩) q.n cap), .int .i64 (q.j : Nat), .int .i64 3, .float .f32 (q.ta), .float .f32 (q.tb), .float .f32 (q.tc), .float .f32 (st0 3 q.ta q.tb q.tc q.tx q.ty (q.x q.j)), .float .f32 (st1 3 q.ta q.tb q.tc q.tx q.ty (q.x q.j)), .int .i64 2, .float .f32 (q.da), .float .f32 (q.db), .float .f32 (q.dc), .float .f32 (st0 2 q.da q.db q.dc q.dx q.dy (y1S q)), .float .f32 (st1 2 q.da q.db q.dc q.dx q.dy (y1S q)), .float .f32 (q.l)] from by simpa using hR2); have HC2 : Hid (can .f32 r2 = y2S q) := (hr2.trans (outF_congr HC1.out)); have U2 := hid (chg_upd hU2); clear hR2 hr2 hU2))
  go_simp
  have c14 := R2.out.cell? 14
  have UU := hid (((Chg.of_le (le_drewN w (m1 + 1))).trans U1.out).trans U2.out)
  have OW : Hid (OwnS w2 lo hi (.slice (some ⟨b, o, none⟩) q.n cap) q.x q.n) := OwnS.chgS (.inr ⟨b, o, cap, ds, rfl, hc, HM.out, hb, hb', HROW.out, HX.out⟩) UU.out (fun i h1 h2 h3 => g5 (by have h3' : i = g := h3; subst h3'; exact ⟨h1, h2⟩))
  go_wp2_with fail
  refine wp_region_tail (fun _ _ v => v = .float .f32 (nextS q a)) 12 (by kernel_rfl) (by kernel_rfl) ?_; simp only [List.take_succ_cons, List.take_zero, List.drop_succ_cons, List.drop_zero]
  repeat (first | (with_reducible refine wpLoose_farith rfl rfl rfl rfl rfl ?_; intro r hr hf; simp only [Act.put, List.setIfInBounds_toArray, List.set_cons_succ, List.set_cons_zero]) | (refine wpLoose_quiet rfl ?_; go_big_quiet_step (fail); refine wpQuiet_nil ?_) | (refine wpLoose_nilP rfl rfl rfl ?_; simp only [Act.put, List.setIfInBounds_toArray, List.set_cons_succ, List.set_cons_zero]))
  refine wpLoose_any rfl (· = .float .f32 (nextS q a)) (fun m0 => ?_) ?_
  · go_simp
    refine (s_Kept _ _ hf.out).mono ?_
    rintro e w3 ⟨rfl, m2, rfl⟩
    exact ⟨_, rfl, by rw [HN.out _ _ _ HC2.out (Hid.out ‹Hid (can .f32 _ = fop .mul .f32 r2 q.l)›) hr.out], m0 + m2, by first | (go_simp; done) | (go_simp; rw [Nat.add_assoc])⟩
  · rintro v rfl
    simp only [Act.put, List.setIfInBounds_toArray, List.set_cons_succ, List.set_cons_zero]
    repeat (refine wpLoose_quiet rfl ?_; go_big_quiet_step (fail); refine wpQuiet_nil ?_)
    refine wpLoose_nil (fun m3 => ?_)
    go_wp2_with (go_at_call 113; ((with_reducible refine (s_l02Push lo hi _ q.x q.n q.j (nextS q a) g 0 _ _ _ (OW.out.le (le_drewN _ _)) (R2.out.drewN _) rfl rfl g5 j1 n2 (fits_nextS q a)).mono ?_); rintro e w4 ⟨o4, rfl, ho4, fo4, hR4, hO4, hU4⟩))
    go_ret
    refine ⟨y, rfl, HC.out, fy, ⟨_, lo, hi, by simpa [stepS] using hR4, hO4, g1, g2, g3, g4, g5⟩, ?_⟩
    refine ((UU.out.le (le_drewN _ _)).mono (fun i hi' => ?_)).trans (hU4.mono (fun i hi' => ?_))
    · have hi2 : i = g := hi'
      subst hi2; exact ⟨g1, g2⟩
    · rcases hi' with hi2 | hi2
      · subst hi2; exact ⟨g1, g2⟩
      · exact ⟨by omega, by omega⟩
end Go.Proofs.Ytaenbpkcehenkac

/- Loops of the program: strings that go on. -/
namespace Go.Fk
open Go Go.RowKit
theorem qRing (s : Value) (q : StS) : ∀ j, j < [s, Value.int .i64 (q.j : Nat)].length → (#[s, .int .i64 (q.j : Nat), .int .i64 3, .float .f32 (q.ta), .float .f32 (q.tb), .float .f32 (q.tc), .float .f32 (q.tx), .float .f32 (q.ty), .int .i64 2, .float .f32 (q.da), .float .f32 (q.db), .float .f32 (q.dc), .float .f32 (q.dx), .float .f32 (q.dy), .float .f32 (q.l)] : Array Value)[0 + j]? = [s, Value.int .i64 (q.j : Nat)][j]? := part_at [] [s, .int .i64 (q.j : Nat)] _ 0 rfl
theorem qTune (s : Value) (q : StS) : ∀ j, j < [Value.int .i64 3, .float .f32 q.ta, .float .f32 q.tb, .float .f32 q.tc, .float .f32 q.tx, .float .f32 q.ty].length → (#[s, .int .i64 (q.j : Nat), .int .i64 3, .float .f32 (q.ta), .float .f32 (q.tb), .float .f32 (q.tc), .float .f32 (q.tx), .float .f32 (q.ty), .int .i64 2, .float .f32 (q.da), .float .f32 (q.db), .float .f32 (q.dc), .float .f32 (q.dx), .float .f32 (q.dy), .float .f32 (q.l)] : Array Value)[2 + j]? = [Value.int .i64 3, .float .f32 q.ta, .float .f32 q.tb, .float .f32 q.tc, .float .f32 q.tx, .float .f32 q.ty][j]? := part_at [s, .int .i64 (q.j : Nat)] _ _ 2 rfl
theorem qDamp (s : Value) (q : StS) : ∀ j, j < [Value.int .i64 2, .float .f32 q.da, .float .f32 q.db, .float .f32 q.dc, .float .f32 q.dx, .float .f32 q.dy].length → (#[s, .int .i64 (q.j : Nat), .int .i64 3, .float .f32 (q.ta), .float .f32 (q.tb), .float .f32 (q.tc), .float .f32 (q.tx), .float .f32 (q.ty), .int .i64 2, .float .f32 (q.da), .float .f32 (q.db), .float .f32 (q.dc), .float .f32 (q.dx), .float .f32 (q.dy), .float .f32 (q.l)] : Array Value)[8 + j]? = [Value.int .i64 2, .float .f32 q.da, .float .f32 q.db, .float .f32 q.dc, .float .f32 q.dx, .float .f32 q.dy][j]? := part_at [s, .int .i64 (q.j : Nat), .int .i64 3, .float .f32 q.ta, .float .f32 q.tb, .float .f32 q.tc, .float .f32 q.tx, .float .f32 q.ty] _ _ 8 rfl
end Go.Fk
namespace Go.Proofs.Ytaenbpkcehenkac
open Go.RowKit Go.Fk
/-- A loop: a string that goes on; all its blocks lie from B to C. -/
def LpS (w : World) (B C g : Nat) (q : StS) : Prop := ∃ (s : Value) (lo hi rt rd : Nat), Row w g 136 #[s, .int .i64 (q.j : Nat), .pointer (some ⟨rt, 0, none⟩), .pointer (some ⟨rd, 0, none⟩), .float .f32 q.l, .int .i64 (loudN q.x q.n : Nat)] ∧ OwnS w lo hi s q.x q.n ∧ Row w rt 140 #[mdl 3 q.ta q.tb q.tc, .float .f32 (q.tx), .float .f32 (q.ty)] ∧ Row w rd 140 #[mdl 2 q.da q.db q.dc, .float .f32 (q.dx), .float .f32 (q.dy)] ∧
  (B ≤ g ∧ g < C ∧ B ≤ rt ∧ rt < C ∧ B ≤ rd ∧ rd < C ∧ B ≤ lo ∧ hi ≤ C) ∧ (g ≠ rt ∧ g ≠ rd ∧ rt ≠ rd ∧ ¬ (lo ≤ g ∧ g < hi) ∧ ¬ (lo ≤ rt ∧ rt < hi) ∧ ¬ (lo ≤ rd ∧ rd < hi))
def OutLS (B C g : Nat) (q : StS) (a : Nat) (w : World) (e : Ending) (w' : World) : Prop := ∃ o, e = .returned (.float .f32 o) ∧ can .f32 o = q.x q.j ∧ fits .f32 o ∧ LpS w' B C g (stepS q a) ∧ Chg (rng B C) w w'
theorem lpPart (s : Value) (q : StS) (rt rd : Nat) : ∀ j, j < [s, Value.int .i64 (q.j : Nat)].length → (#[s, .int .i64 (q.j : Nat), .pointer (some ⟨rt, 0, none⟩), .pointer (some ⟨rd, 0, none⟩), .float .f32 q.l, .int .i64 (loudN q.x q.n : Nat)] : Array Value)[0 + j]? = [s, Value.int .i64 (q.j : Nat)][j]? := part_at [] [s, .int .i64 (q.j : Nat)] _ 0 rfl
theorem i_loudness (x : Nat) (w : World) : Calls Try.prog 116 #[.float .f32 x] w fun e w' => e = .returned (.int .i64 (loudB x : Nat)) ∧ w = w' := by
  cases h : zeroF x
  · have HZ : Hid (loudB x = 1) := by unfold Hid loudB; rw [if_neg (by rw [h]; decide)]
    unfold zeroF at h
    have h2 : (FloatKind.f32.format.order x 0 != some .eq) = !(FloatKind.f32.format.order x 0 == some .eq) := rfl
    rw [h] at h2
    replace h2 := h2.trans (show _ = true from rfl)
    go_enter Try.func116, Try.ntmps116
    go_wp2
    go_ret
    exact ⟨by rw [HZ.out]; rfl, rfl⟩
  · have HZ : Hid (loudB x = 0) := by unfold Hid loudB; rw [if_pos h]
    unfold zeroF at h
    have h2 : (FloatKind.f32.format.order x 0 != some .eq) = !(FloatKind.f32.format.order x 0 == some .eq) := rfl
    rw [h] at h2
    replace h2 := h2.trans (show _ = false from rfl)
    go_enter Try.func116, Try.ntmps116
    go_wp2
    go_ret
    exact ⟨by rw [HZ.out]; rfl, rfl⟩
def loudK (_ : FuncId) (args : Array Value) (v : Value) : Prop := ∃ p, args = #[.float .f32 p] ∧ v = .int .i64 (loudB p : Nat)
theorem loudK_v {f : FuncId} {p : Nat} {v : Value} (h : loudK f #[.float .f32 p] v) : v = .int .i64 (loudB p : Nat) := by
  obtain ⟨p', h, rfl⟩ := h
  simp at h
  subst h
  rfl
theorem loud_call {p N : Nat} {w : World} : Calls Try.prog 116 #[.float .f32 p] (w.drewN N) fun e w'' => ∃ u, e = .returned u ∧ loudK 116 #[.float .f32 p] u ∧ ∃ m, w'' = w.drewN m :=
  (i_loudness p (w.drewN N)).mono fun _ _ ⟨he, hw⟩ => ⟨_, he, ⟨p, rfl, rfl⟩, N, hw.symm⟩
set_option maxRecDepth 100000 in
set_option maxHeartbeats 4000000 in
theorem i_loopStep (B C g : Nat) (q : StS) (a : Nat) (w : World) (h : LpS w B C g q) (ok : q.Ok) (ha : fits .f32 a) :
    Calls Try.prog 88 #[.pointer (some ⟨g, 0, none⟩), .float .f32 a] w (OutLS B C g q a w) := by
  obtain ⟨s, lo, hi, rt, rd, R, O, RT, RD, ⟨b1, b2, b3, b4, b5, b6, b7, b8⟩, d1, d2, d3, d4, d5, d6⟩ := h
  have HO := hid (fun (w' : World) (hl : le w w') => i_oldest hi s q.x q.n q.j w' (O.rd.le hl) ok.j1 ok.n2)
  rcases O with ⟨rfl, h0⟩ | ⟨b, o, cap, ds, rfl, hc, hm, hb, hb', hrow, hx⟩
  · have := ok.n1; omega
  have OO : Hid (OwnS w lo hi (.slice (some ⟨b, o, none⟩) q.n cap) q.x q.n) := .inr ⟨b, o, cap, ds, rfl, hc, hm, hb, hb', hrow, hx⟩
  have j1 := ok.j1
  have n2 := ok.n2
  have OK := hid ok
  have HR := hid R; have HRT := hid RT; have HRD := hid RD
  clear R RT RD hrow hx ok
  unfold maxLen at hm
  go_enter Try.func88, Try.ntmps88
  go_wp2_with (first | ((with_reducible refine at_loadU rfl rfl ?_); (with_reducible refine wpList_loadPR HR.out rfl rfl rfl Try.underlying25 rfl [.slice (some ⟨b, o, none⟩) q.n cap, .int .i64 (q.j : Nat)] (lpPart _ q rt rd) infoRing rfl ?_)) | (go_at_call 117; ((with_reducible refine (HO.out _ (le_refl _)).mono ?_); rintro e w1 ⟨y, rfl, cy, fy, hl⟩; have HL1 := hid hl; have HC := hid cy; clear hl cy)))
  have R1 := hid (HR.out.le HL1.out)
  have R1d : Hid (Row w1.drew g 136 #[(.slice (some ⟨b, o, none⟩) q.n cap), .int .i64 (q.j : Nat), .pointer (some ⟨rt, 0, none⟩), .pointer (some ⟨rd, 0, none⟩), .float .f32 q.l, .int .i64 (loudN q.x q.n : Nat)]) := R1.out.drewN 1
  have T1 : Hid (Row w1.drew rt 140 #[mdl 3 q.ta q.tb q.tc, .float .f32 (q.tx), .float .f32 (q.ty)]) := (HRT.out.le HL1.out).drewN 1
  have D1 : Hid (Row w1.drew rd 140 #[mdl 2 q.da q.db q.dc, .float .f32 (q.dx), .float .f32 (q.dy)]) := (HRD.out.le HL1.out).drewN 1
  have HCY : Hid (can .f32 y = can .f32 (q.x q.j)) := by unfold Hid; rw [← HC.out, can_can]
  have c2 := R1.out.cell? 2
  have c3 := R1.out.cell? 3
  go_region_with (go_at_call 118; first | ((with_reducible refine (i_step 3 q.ta q.tb q.tc q.tx q.ty y rt _ ⟨by decide, by decide⟩ T1.out OK.out.ftx fy).mono ?_); rintro e w2 ⟨r1, rfl, hr1, fr1, hR1, hU1⟩; rw [st0_congr HCY.out, st1_congr HCY.out] at hR1; have T2 := hid hR1; have HC1 : Hid (can .f32 r1 = can .f32 (y1S q)) := (hr1.trans ((outF_congr HCY.out).trans (can_outF _ _ _ _ _ _ _).symm)); have U1 := hid (chg_upd hU1); have D2 := hid (U1.out.row D1.out (Ne.symm d3)); have c3w := (U1.out.row R1d.out d1).cell? 3; clear hR1 hr1 hU1) | ((with_reducible refine (i_step 2 q.da q.db q.dc q.dx q.dy r1 rd _ ⟨by decide, by decide⟩ D2.out OK.out.fdx fr1).mono ?_); rintro e w3 ⟨r2, rfl, hr2, fr2, hR2, hU2⟩; rw [st0_congr HC1.out, st1_congr HC1.out] at hR2; have D3 := hid hR2; have HC2 : Hid (can .f32 r2 = y2S q) := (hr2.trans (outF_congr HC1.out)); have U2 := hid (chg_upd hU2); have T3 := hid (U2.out.row T2.out d3); clear hR2 hr2 hU2))
  all_goals
    go_simp
    have UU : Hid (Chg (fun i => i = rt ∨ i = rd) w w3) := (Chg.of_le (le_trans HL1.out (le_drewN w1 1))).trans ((U1.out.mono (fun i h => .inl h)).trans (U2.out.mono (fun i h => .inr h)))
    have R3 := hid (UU.out.row HR.out (by rintro (h | h); exact d1 h; exact d2 h))
    have O3 := hid (OwnS.chgS OO.out UU.out (fun i h1 h2 h3 => by rcases h3 with h3 | h3; (subst h3; exact d5 ⟨h1, h2⟩); (subst h3; exact d6 ⟨h1, h2⟩)))
    clear U1 U2 T1 D1 T2 D2 R1 R1d c3w HR HRT HRD OO HO c2 c3
    have c4 := R3.out.cell? 4
    have HN := hid (fun r2 p r => @next_of q a r2 p r)
    go_wp2_with (first | (with_reducible refine wpList_farith rfl rfl rfl rfl rfl ?_; intro r nn hr hf) | (go_at_call 119; ((with_reducible refine (i_kept _ _ hf.out).mono ?_); rintro e w4 ⟨rfl, rfl⟩)) | (go_at_call 120; ((with_reducible refine (i_push lo hi (.slice (some ⟨b, o, none⟩) q.n cap) q.x q.n q.j _ g 0 _ _ _ (O3.out.le (le_drewN _ _)) (R3.out.drewN _) rfl rfl d4 j1 n2 (fits_kept hf.out)).mono ?_); rintro e w5 ⟨o4, rfl, ho4, fo4, hR4, hO4, hU4⟩)))
    have HK : Hid (kept r = nextS q a) := HN.out _ _ _ HC2.out (Hid.out ‹Hid (can .f32 _ = fop .mul .f32 r2 q.l)›) hr.out
    generalize hkr : kept r = kr at *
    have R5 := hid hR4; have O5 := hid hO4; have U5 := hid hU4
    clear hR4 hO4 hU4
    have c5 : w5.cell? ⟨g, 5, none⟩ = some (.int .i64 (loudN q.x q.n : Nat)) := R5.out.cell? 5
    have f5 := R5.out.frozen 5
    have l1 : loudN q.x q.n ≤ 1024 := Nat.le_trans (loudN_le _ _) n2
    have l2 : loudB kr ≤ 1 := by unfold loudB; split <;> omega
    have l3 : loudB y ≤ 1 := by unfold loudB; split <;> omega
    refine wp_region_tail (loudK) 12 (by kernel_rfl) (by kernel_rfl) ?_; simp only [List.take_succ_cons, List.take_zero, List.drop_succ_cons, List.drop_zero]
    repeat (first | (refine wpLoose_quiet rfl ?_; go_big_quiet_step (fail); refine wpQuiet_nil ?_) | (refine wpLoose_nilP rfl rfl rfl ?_; simp only [Act.put, List.setIfInBounds_toArray, List.set_cons_succ, List.set_cons_zero]))
    refine wpLoose_any rfl (· = .int .i64 (loudB kr : Nat)) (fun m0 => ?_) ?_
    · go_simp
      exact ⟨loud_call, fun v hv => loudK_v hv⟩
    rintro v rfl
    simp only [Act.put, List.setIfInBounds_toArray, List.set_cons_succ, List.set_cons_zero]
    repeat (first | (refine wpLoose_quiet rfl ?_; go_big_quiet_step (fail); refine wpQuiet_nil ?_) | (refine wpLoose_nilP rfl rfl rfl ?_; simp only [Act.put, List.setIfInBounds_toArray, List.set_cons_succ, List.set_cons_zero]))
    refine wpLoose_any rfl (· = .int .i64 (loudB y : Nat)) (fun m0 => ?_) ?_
    · go_simp
      exact ⟨loud_call, fun v hv => loudK_v hv⟩
    rintro v rfl
    simp only [Act.put, List.setIfInBounds_toArray, List.set_cons_succ, List.set_cons_zero]
    repeat (first | (refine wpLoose_quiet rfl ?_; go_big_quiet_step (fail); refine wpQuiet_nil ?_) | (refine wpLoose_nilP rfl rfl rfl ?_; simp only [Act.put, List.setIfInBounds_toArray, List.set_cons_succ, List.set_cons_zero]))
    refine wpLoose_nil (fun m => ?_)
    go_wp2
    go_ret
    have e1 : loudB y = loudB (q.x q.j) := by rw [← loudB_can y, HCY.out, loudB_can]
    have e2 := loudN_push (x := q.x) (a := kr) j1
    have e3 : ((loudN (stepS q a).x q.n : Nat) : Int) = (loudN q.x q.n : Nat) + ((loudB kr : Nat) - (loudB y : Nat) : Int) := by
      show ((loudN (pushX q.x q.j (nextS q a)) q.n : Nat) : Int) = _
      rw [← HK.out, e1]; omega
    rw [HK.out] at O5
    have w5g := R5.out.lt
    refine ⟨y, rfl, HC.out, fy, ⟨(.slice (some ⟨b, o, none⟩) q.n cap), lo, hi, rt, rd, ?_, ?_, ?_, ?_, ⟨b1, b2, b3, b4, b5, b6, b7, b8⟩, d1, d2, d3, d4, d5, d6⟩, ?_⟩
    · rw [show (stepS q a).n = q.n from rfl, e3]
      have := (R5.out.drewN m).set 5 (.int .i64 ((loudN q.x q.n : Nat) + ((loudB kr : Nat) - (loudB y : Nat) : Int)))
      simpa [stepS] using this
    · exact OwnS.chgS O5.out (Chg.setCell (S := (· = g)) (Chg.of_le (le_drewN w5 m)) rfl _) (fun i h1 h2 h3 => d4 (by have h3' : i = g := h3; subst h3'; exact ⟨h1, h2⟩))
    · exact ((U5.out.row (T3.out.drewN _) (by rintro (h | h); exact d1 h.symm; exact d5 h)).drewN m).other ⟨g, 5, none⟩ _ (Ne.symm d1)
    · exact ((U5.out.row (D3.out.drewN _) (by rintro (h | h); exact d2 h.symm; exact d6 h)).drewN m).other ⟨g, 5, none⟩ _ (Ne.symm d2)
    · refine ((UU.out.le (le_drewN _ _)).mono (fun i hi' => ?_)).trans ((Chg.setCell ((U5.out.mono (fun i hi' => ?_)).le (le_drewN _ m)) ⟨b1, b2⟩ _))
      · rcases hi' with h | h
        · subst h; exact ⟨b3, b4⟩
        · subst h; exact ⟨b5, b6⟩
      · rcases hi' with h | h
        · subst h; exact ⟨b1, b2⟩
        · exact ⟨by omega, by omega⟩
set_option maxRecDepth 100000 in
set_option maxHeartbeats 4000000 in
theorem i_newLoop (B : Nat) (s : Value) (q : StS) (w : World) (hs : RdS w B s q.x q.n) (ok : q.Ok) :
    Calls Try.prog 87 #[.agg #[s, .int .i64 (q.j : Nat), .int .i64 3, .float .f32 (q.ta), .float .f32 (q.tb), .float .f32 (q.tc), .float .f32 (q.tx), .float .f32 (q.ty), .int .i64 2, .float .f32 (q.da), .float .f32 (q.db), .float .f32 (q.dc), .float .f32 (q.dx), .float .f32 (q.dy), .float .f32 (q.l)]] w fun e w' => ∃ g, e = .returned (.pointer (some ⟨g, 0, none⟩)) ∧ LpS w' w.heap.size w'.heap.size g q ∧ le w w' := by
  have HS := hid hs; clear hs
  have n1 := ok.n1
  have n2 := ok.n2
  have OK := hid ok; clear ok
  have G := (Frg.nil w).box 31 #[s, .int .i64 (q.j : Nat), .int .i64 3, .float .f32 (q.ta), .float .f32 (q.tb), .float .f32 (q.tc), .float .f32 (q.tx), .float .f32 (q.ty), .int .i64 2, .float .f32 (q.da), .float .f32 (q.db), .float .f32 (q.dc), .float .f32 (q.dx), .float .f32 (q.dy), .float .f32 (q.l)]
  have F0 := (Frm.nil w).box 31 #[s, .int .i64 (q.j : Nat), .int .i64 3, .float .f32 (q.ta), .float .f32 (q.tb), .float .f32 (q.tc), .float .f32 (q.tx), .float .f32 (q.ty), .int .i64 2, .float .f32 (q.da), .float .f32 (q.db), .float .f32 (q.dc), .float .f32 (q.dx), .float .f32 (q.dy), .float .f32 (q.l)]
  go_enter Try.func87, Try.ntmps87
  go_wp2_with fail
  obtain ⟨W, hW⟩ : ∃ W, W = w.alloc (.cells #[s, .int .i64 (q.j : Nat), .int .i64 3, .float .f32 (q.ta), .float .f32 (q.tb), .float .f32 (q.tc), .float .f32 (q.tx), .float .f32 (q.ty), .int .i64 2, .float .f32 (q.da), .float .f32 (q.db), .float .f32 (q.dc), .float .f32 (q.dx), .float .f32 (q.dy), .float .f32 (q.l)] 31) := ⟨_, rfl⟩
  rw [← hW] at G F0 ⊢
  clear hW
  have F := F0.drewN 1
  have G1 := G.drewN 1
  refine region_tail (fun f args w' v => if f = 110 then (∃ q0 cap cs, v = .agg #[.slice (some ⟨q0, 0, none⟩) q.n cap, .int .i64 (q.j : Nat)] ∧ w.heap.size ≤ q0 ∧ Row w' q0 22 cs ∧ OwnS w' q0 (q0 + 1) (.slice (some ⟨q0, 0, none⟩) q.n cap) q.x q.n) else (∀ k a b c x y, args = #[(.agg #[.int .i64 k, .float .f32 a, .float .f32 b, .float .f32 c, .float .f32 x, .float .f32 y])] → ∃ b0, v = .pointer (some ⟨b0, 0, none⟩) ∧ w.heap.size ≤ b0 ∧ Row w' b0 140 #[mdl k a b c, .float .f32 x, .float .f32 y])) 12 (by kernel_rfl) (by kernel_rfl) ?_
  simp only [List.take_succ_cons, List.take_zero, List.drop_succ_cons, List.drop_zero]
  refine wpFree_one rfl (.pointer (some ⟨w.heap.size, 0, none⟩)) (fun w1 _ => by kernel_rfl) ?_
  simp only [Act.put, List.setIfInBounds_toArray, List.set_cons_succ, List.set_cons_zero]
  refine wpFree_loadPart F (n := 0) rfl rfl rfl rfl List.mem_cons_self Try.underlying25 rfl [s, .int .i64 (q.j : Nat)] (qRing s q) infoRing ?_
  simp only [Act.put, List.setIfInBounds_toArray, List.set_cons_succ, List.set_cons_zero]
  refine wpFree_call rfl rfl Try.func110 (by kernel_rfl) (by kernel_rfl) (args := #[.agg #[s, .int .i64 (q.j : Nat)]]) (by simp [Act.eval]) (fun v w1 w2 hw hv => by simp only [if_true] at hv ⊢; obtain ⟨q0, cap, cs, e1, e2, e3, e4⟩ := hv; exact ⟨q0, cap, cs, e1, e2, e3.le hw, e4.le hw⟩) (fun w1 hw1 => (i_copiedT B s q.x q.n _ w1 (HS.out.le (le_trans G1.below hw1)) n1 n2).mono ?_) ?_
  · rintro e w2 ⟨q0, cap, cs, rfl, hq, hr, ho, hl⟩
    exact ⟨_, rfl, hl, by simp only [if_true]; exact ⟨q0, cap, cs, rfl, Nat.le_trans G1.below.size (Nat.le_trans hw1.size hq), hr, ho⟩⟩
  rintro v ⟨_, _, hv⟩
  simp only [if_true] at hv
  obtain ⟨q0, cap, cs, rfl, hq0, _⟩ := hv
  simp only [Act.put, List.setIfInBounds_toArray, List.set_cons_succ, List.set_cons_zero]
  refine wpFree_one rfl (.pointer (some ⟨w.heap.size, 2, none⟩)) (fun w1 _ => by kernel_rfl) ?_
  simp only [Act.put, List.setIfInBounds_toArray, List.set_cons_succ, List.set_cons_zero]
  refine wpFree_loadPart F (n := 0) rfl rfl rfl rfl List.mem_cons_self Try.underlying29 rfl [.int .i64 3, .float .f32 q.ta, .float .f32 q.tb, .float .f32 q.tc, .float .f32 q.tx, .float .f32 q.ty] (qTune s q) infoFil ?_
  simp only [Act.put, List.setIfInBounds_toArray, List.set_cons_succ, List.set_cons_zero]
  refine wpFree_call rfl rfl Try.func115 (by kernel_rfl) (by kernel_rfl) (args := #[(.agg #[.int .i64 3, .float .f32 q.ta, .float .f32 q.tb, .float .f32 q.tc, .float .f32 q.tx, .float .f32 q.ty])]) (by simp [Act.eval]) (fun v w1 w2 hw hv => by simp only [show ¬ (115 = 110) by decide, if_false] at hv ⊢; intro k a b c x y e; obtain ⟨b0, e1, e2, e3⟩ := hv k a b c x y e; exact ⟨b0, e1, e2, e3.le hw⟩) (fun w1 hw1 => (i_newRunner 3 q.ta q.tb q.tc q.tx q.ty w1 ⟨by decide, by decide⟩).mono ?_) ?_
  · rintro e w2 ⟨b0, rfl, hb, hr, hl⟩
    refine ⟨_, rfl, hl, ?_⟩
    simp only [show ¬ (115 = 110) by decide, if_false]
    intro k a b c x y e
    simp only [Array.mk.injEq, List.cons.injEq, Value.agg.injEq, Value.int.injEq, Value.float.injEq, true_and, and_true] at e
    obtain ⟨rfl, rfl, rfl, rfl, rfl, rfl⟩ := e
    exact ⟨b0, rfl, Nat.le_trans G1.below.size (Nat.le_trans hw1.size hb), hr⟩
  rintro v ⟨_, _, hv⟩
  simp only [show ¬ (115 = 110) by decide, if_false] at hv
  obtain ⟨rt, rfl, _⟩ := hv _ _ _ _ _ _ rfl
  simp only [Act.put, List.setIfInBounds_toArray, List.set_cons_succ, List.set_cons_zero]
  refine wpFree_one rfl (.pointer (some ⟨w.heap.size, 8, none⟩)) (fun w1 _ => by kernel_rfl) ?_
  simp only [Act.put, List.setIfInBounds_toArray, List.set_cons_succ, List.set_cons_zero]
  refine wpFree_loadPart F (n := 0) rfl rfl rfl rfl List.mem_cons_self Try.underlying29 rfl [.int .i64 2, .float .f32 q.da, .float .f32 q.db, .float .f32 q.dc, .float .f32 q.dx, .float .f32 q.dy] (qDamp s q) infoFil ?_
  simp only [Act.put, List.setIfInBounds_toArray, List.set_cons_succ, List.set_cons_zero]
  refine wpFree_call rfl rfl Try.func115 (by kernel_rfl) (by kernel_rfl) (args := #[(.agg #[.int .i64 2, .float .f32 q.da, .float .f32 q.db, .float .f32 q.dc, .float .f32 q.dx, .float .f32 q.dy])]) (by simp [Act.eval]) (fun v w1 w2 hw hv => by simp only [show ¬ (115 = 110) by decide, if_false] at hv ⊢; intro k a b c x y e; obtain ⟨b0, e1, e2, e3⟩ := hv k a b c x y e; exact ⟨b0, e1, e2, e3.le hw⟩) (fun w1 hw1 => (i_newRunner 2 q.da q.db q.dc q.dx q.dy w1 ⟨by decide, by decide⟩).mono ?_) ?_
  · rintro e w2 ⟨b0, rfl, hb, hr, hl⟩
    refine ⟨_, rfl, hl, ?_⟩
    simp only [show ¬ (115 = 110) by decide, if_false]
    intro k a b c x y e
    simp only [Array.mk.injEq, List.cons.injEq, Value.agg.injEq, Value.int.injEq, Value.float.injEq, true_and, and_true] at e
    obtain ⟨rfl, rfl, rfl, rfl, rfl, rfl⟩ := e
    exact ⟨b0, rfl, Nat.le_trans G1.below.size (Nat.le_trans hw1.size hb), hr⟩
  rintro v ⟨_, _, hv⟩
  simp only [show ¬ (115 = 110) by decide, if_false] at hv
  obtain ⟨rd, rfl, _⟩ := hv _ _ _ _ _ _ rfl
  simp only [Act.put, List.setIfInBounds_toArray, List.set_cons_succ, List.set_cons_zero]
  refine wpFree_one rfl (.pointer (some ⟨w.heap.size, 14, none⟩)) (fun w1 _ => by kernel_rfl) ?_
  simp only [Act.put, List.setIfInBounds_toArray, List.set_cons_succ, List.set_cons_zero]
  refine wpFree_loadF F (n := 0) rfl rfl rfl rfl List.mem_cons_self rfl Try.underlying22 ?_
  simp only [Act.put, List.setIfInBounds_toArray, List.set_cons_succ, List.set_cons_zero]
  refine wpFree_one rfl (.agg #[.slice (some ⟨q0, 0, none⟩) q.n cap, .int .i64 (q.j : Nat), .pointer (some ⟨rt, 0, none⟩), .pointer (some ⟨rd, 0, none⟩), .float .f32 q.l, .int .i64 0]) (fun w1 _ => by kernel_rfl) ?_
  simp only [Act.put, List.setIfInBounds_toArray, List.set_cons_succ, List.set_cons_zero]
  refine wpFree_nil (fun w3 hw3 hF => ?_)
  obtain ⟨⟨⟨_, K1⟩, K2⟩, K3⟩ := hF
  simp only [if_true] at K1
  simp only [show ¬ (115 = 110) by decide, if_false] at K2 K3
  obtain ⟨q1, cap1, cs1, e1, _, hr1, ho1⟩ := K1
  simp only [Value.agg.injEq, Array.mk.injEq, List.cons.injEq, Value.slice.injEq, Option.some.injEq, Addr.mk.injEq, and_true, true_and] at e1
  obtain ⟨rfl, rfl⟩ := e1
  obtain ⟨rt1, e2, hrt, hT⟩ := K2 _ _ _ _ _ _ rfl
  obtain rfl : rt = rt1 := by simpa using e2
  obtain ⟨rd1, e3, hrd, hD⟩ := K3 _ _ _ _ _ _ rfl
  obtain rfl : rd = rd1 := by simpa using e3
  have hle := hid (le_trans G1.below hw3)
  have ne1 : q0 ≠ rt := by intro e; subst e; unfold Row at hr1 hT; rw [hr1] at hT; simp at hT
  have ne2 : q0 ≠ rd := by intro e; subst e; unfold Row at hr1 hD; rw [hr1] at hD; simp at hD
  have ne3 : rt ≠ rd := by intro e; subst e; rw [mdl3] at hT; rw [mdl2] at hD; unfold Row at hT hD; rw [hT] at hD; simp at hD
  have x1 := hr1.lt; have x2 := hT.lt; have x3 := hD.lt
  have HO := hid ho1; have HT := hid hT; have HD := hid hD
  clear ho1 hT hD hr1 G G1 F F0 hw3 K2 K3
  go_wp2
  go_loopw [25] (fun i wr => ∃ k : Nat, k ≤ q.n ∧ i = .int .i64 k ∧ Hid (Row wr w3.heap.size 136 #[.slice (some ⟨q0, 0, none⟩) q.n cap, .int .i64 (q.j : Nat), .pointer (some ⟨rt, 0, none⟩), .pointer (some ⟨rd, 0, none⟩), .float .f32 q.l, .int .i64 (loudN q.x k : Nat)]) ∧ Hid (Chg (· = w3.heap.size) (w3.alloc (.cells #[.slice (some ⟨q0, 0, none⟩) q.n cap, .int .i64 (q.j : Nat), .pointer (some ⟨rt, 0, none⟩), .pointer (some ⟨rd, 0, none⟩), .float .f32 q.l, .int .i64 0] 136)) wr)) (fun i _ => q.n - (intOf i).toNat)
  case atStart => exact ⟨0, by omega, rfl, Row.new _ _ _, Chg.refl _ _⟩
  case round =>
    obtain ⟨k, hk, rfl, RK, UK⟩ := hrel
    by_cases hlt : k < q.n
    · rename_i wr _
      obtain ⟨y, cy, fy, ey⟩ := (OwnS.chgS (HO.out.le (le_alloc w3 _)) UK.out (fun i h1 h2 h3 => by have h3' : i = w3.heap.size := h3; omega)).get hlt
      have HEY := hid ey
      clear ey
      have c5 : wr.cell? ⟨w3.heap.size, 5, none⟩ = some (.int .i64 (loudN q.x k : Nat)) := RK.out.cell? 5
      have f5 := RK.out.frozen 5
      have l1 : loudN q.x k ≤ 1024 := Nat.le_trans (loudN_le _ _) (by omega)
      have l2 : loudB y ≤ 1 := by unfold loudB; split <;> omega
      go_wp2_with fail
      refine wp_region_tail (loudK) 9 (by kernel_rfl) (by kernel_rfl) ?_; simp only [List.take_succ_cons, List.take_zero, List.drop_succ_cons, List.drop_zero]
      repeat (first | (refine wpLoose_quiet rfl ?_; go_big_quiet_step (fail); refine wpQuiet_nil ?_) | (refine wpLoose_nilP rfl rfl rfl ?_; simp only [Act.put, List.setIfInBounds_toArray, List.set_cons_succ, List.set_cons_zero]))
      refine wpLoose_any rfl (· = .int .i64 (loudB y : Nat)) (fun m0 => ?_) ?_
      · go_simp
        exact ⟨loud_call, fun v hv => loudK_v hv⟩
      rintro v rfl
      simp only [Act.put, List.setIfInBounds_toArray, List.set_cons_succ, List.set_cons_zero]
      repeat (first | (refine wpLoose_quiet rfl ?_; go_big_quiet_step (fail); refine wpQuiet_nil ?_) | (refine wpLoose_nilP rfl rfl rfl ?_; simp only [Act.put, List.setIfInBounds_toArray, List.set_cons_succ, List.set_cons_zero]))
      refine wpLoose_nil (fun m => ?_)
      go_wp2
      go_roundw
      case rel =>
        have e3 : ((loudN q.x (k + 1) : Nat) : Int) = (loudN q.x k : Nat) + (loudB y : Nat) := by
          have : loudB (q.x k) = loudB y := by rw [← HEY.out, loudB_can]
          simp only [loudN]; omega
        refine ⟨k + 1, by omega, by go_num, ?_, ?_⟩
        · have := (RK.out.drewN m).set 5 (.int .i64 ((loudN q.x k : Nat) + (loudB y : Nat) : Int))
          show Row _ _ _ _
          rw [e3]
          simpa using this
        · exact Chg.setCell (UK.out.le (le_drewN _ m)) rfl _
      case measure => simp [intOf]; omega
    · obtain rfl : k = q.n := by omega
      go_wp2
      go_ret
      have hl4 := le_trans hle.out (le_alloc w3 (.cells #[.slice (some ⟨q0, 0, none⟩) q.n cap, .int .i64 (q.j : Nat), .pointer (some ⟨rt, 0, none⟩), .pointer (some ⟨rd, 0, none⟩), .float .f32 q.l, .int .i64 0] 136))
      have hg : w.heap.size ≤ w3.heap.size := hle.out.size
      have hsz := UK.out.size
      simp only [World.size_alloc] at hsz
      refine ⟨w3.heap.size, rfl, ⟨(.slice (some ⟨q0, 0, none⟩) q.n cap), q0, q0 + 1, rt, rd, RK.out, ?_, ?_, ?_, ⟨hg, by omega, hrt, by omega, hrd, by omega, hq0, by omega⟩, by omega, by omega, ne3, by omega, by omega, by omega⟩, ?_⟩
      · exact OwnS.chgS (HO.out.le (le_alloc w3 _)) UK.out (fun i h1 h2 h3 => by have h3' : i = w3.heap.size := h3; omega)
      · exact UK.out.row (HT.out.le (le_alloc w3 _)) (by intro h; have h' : rt = w3.heap.size := h; omega)
      · exact UK.out.row (HD.out.le (le_alloc w3 _)) (by intro h; have h' : rd = w3.heap.size := h; omega)
      · exact Below.trans hl4 (UK.out.below (fun i h => by have h' : i = w3.heap.size := h; omega) (by rw [World.size_alloc]; omega))
theorem rPart (v0 v1 v2 : Value) : ∀ j, j < [v1, v2].length → (#[v0, v1, v2] : Array Value)[1 + j]? = [v1, v2][j]? := part12
set_option maxRecDepth 100000 in
set_option maxHeartbeats 2000000 in
theorem i_behind (B C g : Nat) (q : StS) (s0 : Value) (j0 : Int) (tx0 ty0 dx0 dy0 : Nat) (w : World) (h : LpS w B C g q) :
    Calls Try.prog 89 #[.pointer (some ⟨g, 0, none⟩), .agg #[s0, .int .i64 j0, .int .i64 3, .float .f32 q.ta, .float .f32 q.tb, .float .f32 q.tc, .float .f32 (tx0), .float .f32 (ty0), .int .i64 2, .float .f32 q.da, .float .f32 q.db, .float .f32 q.dc, .float .f32 (dx0), .float .f32 (dy0), .float .f32 q.l]] w fun e w' => ∃ s lo hi, e = .returned (.agg #[s, .int .i64 (q.j : Nat), .int .i64 3, .float .f32 (q.ta), .float .f32 (q.tb), .float .f32 (q.tc), .float .f32 (q.tx), .float .f32 (q.ty), .int .i64 2, .float .f32 (q.da), .float .f32 (q.db), .float .f32 (q.dc), .float .f32 (q.dx), .float .f32 (q.dy), .float .f32 (q.l)]) ∧ OwnS w' lo hi s q.x q.n ∧ B ≤ lo ∧ hi ≤ C ∧ le w w' := by
  obtain ⟨s, lo, hi, rt, rd, R, O, RT, RD, ⟨b1, b2, b3, b4, b5, b6, b7, b8⟩, d1, d2, d3, d4, d5, d6⟩ := h
  have OC := hid (OwnS.one O)
  have HR := hid R; have HRT := hid RT; have HRD := hid RD; have HO := hid O
  clear R RT RD O
  have F := ((Frg.nil w).box 31 #[s0, .int .i64 j0, .int .i64 3, .float .f32 q.ta, .float .f32 q.tb, .float .f32 q.tc, .float .f32 (tx0), .float .f32 (ty0), .int .i64 2, .float .f32 q.da, .float .f32 q.db, .float .f32 q.dc, .float .f32 (dx0), .float .f32 (dy0), .float .f32 q.l]).box 31 #[.slice none 0 0, .int .i64 0, .int .i64 0, .float .f32 0, .float .f32 0, .float .f32 0, .float .f32 (0), .float .f32 (0), .int .i64 0, .float .f32 0, .float .f32 0, .float .f32 0, .float .f32 (0), .float .f32 (0), .float .f32 0]
  simp only [World.size_alloc] at F
  go_enter Try.func89, Try.ntmps89
  go_wp2_with (first | ((with_reducible refine at_loadU rfl rfl ?_); (with_reducible refine wpList_loadPR (HR.out.le F.below) rfl rfl rfl Try.underlying25 rfl [s, .int .i64 (q.j : Nat)] (lpPart _ q rt rd) infoRing rfl ?_)) | ((with_reducible refine stop_store rfl ?_)))
  show wpList _ _ _ _ _ _
  refine wpList_storeP rfl rfl rfl (f := 0) (cells := [s, .int .i64 (q.j : Nat)]) rfl (F.row m1) infoRing (by simp) (one_head OC.out rfl) (fun w2 K => ?_)
  replace F := F.wr1 (cs' := #[s, .int .i64 (q.j : Nat), .int .i64 3, .float .f32 q.ta, .float .f32 q.tb, .float .f32 q.tc, .float .f32 (tx0), .float .f32 (ty0), .int .i64 2, .float .f32 q.da, .float .f32 q.db, .float .f32 q.dc, .float .f32 (dx0), .float .f32 (dy0), .float .f32 q.l]) K
  clear K
  have c2 := (HR.out.le F.below).cell? 2
  go_wp2_with (first | ((with_reducible refine at_loadU rfl rfl ?_); (with_reducible refine wpList_loadPR (HRT.out.le F.below) rfl rfl rfl Try.underlying27 rfl [.float .f32 q.tx, .float .f32 q.ty] (rPart _ _ _) info2 rfl ?_)) | ((with_reducible refine stop_store rfl ?_)))
  show wpList _ _ _ _ _ _
  refine wpList_storeP rfl rfl rfl (f := 6) (cells := [.float .f32 q.tx, .float .f32 q.ty]) rfl (F.row m1) info2 (by simp) (by simp [Value.oneCell']) (fun w3 K => ?_)
  replace F := F.wr1 (cs' := #[s, .int .i64 (q.j : Nat), .int .i64 3, .float .f32 q.ta, .float .f32 q.tb, .float .f32 q.tc, .float .f32 (q.tx), .float .f32 (q.ty), .int .i64 2, .float .f32 q.da, .float .f32 q.db, .float .f32 q.dc, .float .f32 (dx0), .float .f32 (dy0), .float .f32 q.l]) K
  clear K c2
  have c3 := (HR.out.le F.below).cell? 3
  go_wp2_with (first | ((with_reducible refine at_loadU rfl rfl ?_); (with_reducible refine wpList_loadPR (HRD.out.le F.below) rfl rfl rfl Try.underlying27 rfl [.float .f32 q.dx, .float .f32 q.dy] (rPart _ _ _) info2 rfl ?_)) | ((with_reducible refine stop_store rfl ?_)))
  show wpList _ _ _ _ _ _
  refine wpList_storeP rfl rfl rfl (f := 12) (cells := [.float .f32 q.dx, .float .f32 q.dy]) rfl (F.row m1) info2 (by simp) (by simp [Value.oneCell']) (fun w4 K => ?_)
  replace F := F.wr1 (cs' := #[s, .int .i64 (q.j : Nat), .int .i64 3, .float .f32 (q.ta), .float .f32 (q.tb), .float .f32 (q.tc), .float .f32 (q.tx), .float .f32 (q.ty), .int .i64 2, .float .f32 (q.da), .float .f32 (q.db), .float .f32 (q.dc), .float .f32 (q.dx), .float .f32 (q.dy), .float .f32 (q.l)]) K
  clear K c3
  go_wp2_with (first | ((with_reducible refine at_loadU rfl rfl ?_); (with_reducible refine wpList_loadG F rfl rfl rfl m1 Try.underlying31 rfl infoStr rfl ?_)) | ((with_reducible refine stop_store rfl ?_)))
  show wpList _ _ _ _ _ _
  refine wpList_storeD rfl rfl rfl (cells := #[s, .int .i64 (q.j : Nat), .int .i64 3, .float .f32 (q.ta), .float .f32 (q.tb), .float .f32 (q.tc), .float .f32 (q.tx), .float .f32 (q.ty), .int .i64 2, .float .f32 (q.da), .float .f32 (q.db), .float .f32 (q.dc), .float .f32 (q.dx), .float .f32 (q.dy), .float .f32 (q.l)]) rfl (F.row m0) infoStr rfl (one_head OC.out rfl) (fun w5 K => ?_)
  have RW := hid K.row
  have L := hid (F.wr0 K).below
  clear K F
  go_wp2
  exact bodyPost_ret (results_row1 rfl _ _ _ _ _ rfl RW.out Try.underlying31 rfl infoStr) rfl ⟨s, lo, hi, rfl, HO.out.le L.out, b7, b8, L.out⟩
set_option maxRecDepth 100000 in
set_option maxHeartbeats 2000000 in
theorem i_loopStill (B C g : Nat) (q : StS) (w : World) (h : LpS w B C g q) :
    Calls Try.prog 92 #[.pointer (some ⟨g, 0, none⟩)] w fun e w' => e = .returned (.bool (silS q)) ∧ w = w' := by
  obtain ⟨s, lo, hi, rt, rd, R, O, RT, RD, _, _⟩ := h
  have HT := hid (i_isStill _ _ _ _ _ RT)
  have HD := hid (i_isStill _ _ _ _ _ RD)
  have c5 := R.cell? 5
  have c2 := R.cell? 2
  have c3 := R.cell? 3
  clear R O RT RD
  have hs : silS q = (decide (loudN q.x q.n = 0) && (stillB q.tx q.ty && stillB q.dx q.dy)) := rfl
  rw [hs]
  by_cases h0 : loudN q.x q.n = 0
  · have h0' : ((loudN q.x q.n : Nat) : Int) = 0 := by omega
    cases h1 : stillB q.tx q.ty
    · rw [h1] at HT
      clear h1 HD hs
      go_enter Try.func92, Try.ntmps92
      go_wp2_with (first | (go_at_call 122; ((with_reducible refine (HT.out).mono ?_); rintro e w' ⟨rfl, rfl⟩)))
      go_ret
      exact ⟨ret_b (by simp), rfl⟩
    · rw [h1] at HT
      clear h1 hs
      go_enter Try.func92, Try.ntmps92
      go_wp2_with (first | (go_at_call 122; ((with_reducible refine (HT.out).mono ?_); rintro e w' ⟨rfl, rfl⟩)) | (go_at_call 122; ((with_reducible refine (HD.out).mono ?_); rintro e w' ⟨rfl, rfl⟩)))
      go_ret
      exact ⟨ret_b (by simp [h0]), rfl⟩
  · have h0' : ¬ ((loudN q.x q.n : Nat) : Int) = 0 := by omega
    clear hs HT HD
    go_enter Try.func92, Try.ntmps92
    go_wp2
    go_ret
    exact ⟨ret_b (by simp [h0]), rfl⟩
end Go.Proofs.Ytaenbpkcehenkac

/- 'ValidString' of both. -/
namespace Go.Fk
open Go Go.RowKit
/-- Is a string valid? -/
def okStr (n : Nat) (k tk : Int) (ta tb tc tx ty : Nat) (dk : Int) (da db dc dx dy l : Nat) : Bool := okRing n k && (okF tk ta tb tc tx ty && (decide (tk = 3) && (okF dk da db dc dx dy && (decide (dk = 2) && fin l))))
theorem inTune (s : Value) (k tk : Int) (ta tb tc tx ty : Nat) (dk : Int) (da db dc dx dy l : Nat) : FilIn #[s, .int .i64 k, .int .i64 tk, .float .f32 ta, .float .f32 tb, .float .f32 tc, .float .f32 tx, .float .f32 ty, .int .i64 dk, .float .f32 da, .float .f32 db, .float .f32 dc, .float .f32 dx, .float .f32 dy, .float .f32 l] 2 tk ta tb tc tx ty := ⟨rfl, rfl, rfl, rfl, rfl, rfl⟩
theorem inDamp (s : Value) (k tk : Int) (ta tb tc tx ty : Nat) (dk : Int) (da db dc dx dy l : Nat) : FilIn #[s, .int .i64 k, .int .i64 tk, .float .f32 ta, .float .f32 tb, .float .f32 tc, .float .f32 tx, .float .f32 ty, .int .i64 dk, .float .f32 da, .float .f32 db, .float .f32 dc, .float .f32 dx, .float .f32 dy, .float .f32 l] 8 dk da db dc dx dy := ⟨rfl, rfl, rfl, rfl, rfl, rfl⟩
end Go.Fk
namespace Go.Proofs.Ytaenbpkcehenkac
open Go.RowKit Go.Fk
set_option maxRecDepth 100000 in
set_option maxHeartbeats 2000000 in
theorem s_l03Ok (B : Nat) (s : Value) (x : Nat → Nat) (n : Nat) (k tk : Int) (ta tb tc tx ty : Nat) (dk : Int) (da db dc dx dy l : Nat) (g : Nat) (w : World) (hs : RdS w B s x n) (R : Row w g 31 #[s, .int .i64 k, .int .i64 tk, .float .f32 ta, .float .f32 tb, .float .f32 tc, .float .f32 tx, .float .f32 ty, .int .i64 dk, .float .f32 da, .float .f32 db, .float .f32 dc, .float .f32 dx, .float .f32 dy, .float .f32 l]) (hk : (Lit.int .i64 k).wf = true) :
    Calls Try.prog 63 #[.pointer (some ⟨g, 0, none⟩)] w fun e w' => e = .returned (.bool (okStr n k tk ta tb tc tx ty dk da db dc dx dy l)) ∧ ∃ m, w' = w.drewN m := by
  have G0 := s_l02RingR B s x n k g 0 w hs (R.cell? 0) (R.cell? 1) hk
  have G1 := fun (w1 : World) (R1 : Row w1 g 31 #[s, .int .i64 k, .int .i64 tk, .float .f32 ta, .float .f32 tb, .float .f32 tc, .float .f32 tx, .float .f32 ty, .int .i64 dk, .float .f32 da, .float .f32 db, .float .f32 dc, .float .f32 dx, .float .f32 dy, .float .f32 l]) => s_OkAt tk ta tb tc tx ty g 2 w1 ((inTune s k tk ta tb tc tx ty dk da db dc dx dy l).at R1)
  have G3 := fun (w1 : World) (R1 : Row w1 g 31 #[s, .int .i64 k, .int .i64 tk, .float .f32 ta, .float .f32 tb, .float .f32 tc, .float .f32 tx, .float .f32 ty, .int .i64 dk, .float .f32 da, .float .f32 db, .float .f32 dc, .float .f32 dx, .float .f32 dy, .float .f32 l]) => s_OkAt dk da db dc dx dy g 8 w1 ((inDamp s k tk ta tb tc tx ty dk da db dc dx dy l).at R1)
  have G5 := fun (w1 : World) => s_l01Finite l w1
  have c2 := R.cell? 2
  have c8 := R.cell? 8
  have c14 := R.cell? 14
  have RR := hid R
  clear hs R hk
  cases h1 : okRing n k
  · have HZ : Hid (okStr n k tk ta tb tc tx ty dk da db dc dx dy l = false) := by unfold Hid okStr; simp only [h1, Bool.and_true, Bool.and_false, Bool.true_and, Bool.false_and]
    rw [h1] at G0; have H0 := hid G0; clear G0
    clear h1
    clear G1
    clear G3
    clear G5
    go_enter Try.func63, Try.ntmps63
    go_wp2_with (first | (go_at_call 97; ((with_reducible refine (H0.out).mono ?_); rintro e w1 ⟨rfl, rfl⟩)) | (go_at_call 98; ((with_reducible refine (H1.out _ (by first | exact RR.out | exact RR.out.drewN _)).mono ?_); rintro e w1 ⟨rfl, n1, rfl⟩)) | (go_at_call 98; ((with_reducible refine (H3.out _ (by first | exact RR.out | exact RR.out.drewN _)).mono ?_); rintro e w1 ⟨rfl, n1, rfl⟩)) | (go_at_call 75; ((with_reducible refine (H5.out _).mono ?_); rintro e w1 ⟨rfl, n1, rfl⟩)))
    go_ret
    exact ⟨ret_b HZ.out.symm, by first | exact ⟨_, rfl⟩ | exact ⟨0, rfl⟩⟩
  · skip
    cases h2 : okF tk ta tb tc tx ty
    · have HZ : Hid (okStr n k tk ta tb tc tx ty dk da db dc dx dy l = false) := by unfold Hid okStr; simp only [h1, h2, Bool.and_true, Bool.and_false, Bool.true_and, Bool.false_and]
      rw [h1] at G0; have H0 := hid G0; clear G0
      rw [h2] at G1; have H1 := hid G1; clear G1
      clear h1 h2
      clear G3
      clear G5
      go_enter Try.func63, Try.ntmps63
      go_wp2_with (first | (go_at_call 97; ((with_reducible refine (H0.out).mono ?_); rintro e w1 ⟨rfl, rfl⟩)) | (go_at_call 98; ((with_reducible refine (H1.out _ (by first | exact RR.out | exact RR.out.drewN _)).mono ?_); rintro e w1 ⟨rfl, n1, rfl⟩)) | (go_at_call 98; ((with_reducible refine (H3.out _ (by first | exact RR.out | exact RR.out.drewN _)).mono ?_); rintro e w1 ⟨rfl, n1, rfl⟩)) | (go_at_call 75; ((with_reducible refine (H5.out _).mono ?_); rintro e w1 ⟨rfl, n1, rfl⟩)))
      go_ret
      exact ⟨ret_b HZ.out.symm, by first | exact ⟨_, rfl⟩ | exact ⟨0, rfl⟩⟩
    · skip
      cases h3 : decide (tk = 3)
      · have HZ : Hid (okStr n k tk ta tb tc tx ty dk da db dc dx dy l = false) := by unfold Hid okStr; simp only [h1, h2, h3, Bool.and_true, Bool.and_false, Bool.true_and, Bool.false_and]
        rw [h1] at G0; have H0 := hid G0; clear G0
        rw [h2] at G1; have H1 := hid G1; clear G1
        have e3 : ¬ tk = 3 := of_decide_eq_false h3
        clear h1 h2 h3
        clear G3
        clear G5
        go_enter Try.func63, Try.ntmps63
        go_wp2_with (first | (go_at_call 97; ((with_reducible refine (H0.out).mono ?_); rintro e w1 ⟨rfl, rfl⟩)) | (go_at_call 98; ((with_reducible refine (H1.out _ (by first | exact RR.out | exact RR.out.drewN _)).mono ?_); rintro e w1 ⟨rfl, n1, rfl⟩)) | (go_at_call 98; ((with_reducible refine (H3.out _ (by first | exact RR.out | exact RR.out.drewN _)).mono ?_); rintro e w1 ⟨rfl, n1, rfl⟩)) | (go_at_call 75; ((with_reducible refine (H5.out _).mono ?_); rintro e w1 ⟨rfl, n1, rfl⟩)))
        go_ret
        exact ⟨ret_b HZ.out.symm, by first | exact ⟨_, rfl⟩ | exact ⟨0, rfl⟩⟩
      · skip
        cases h4 : okF dk da db dc dx dy
        · have HZ : Hid (okStr n k tk ta tb tc tx ty dk da db dc dx dy l = false) := by unfold Hid okStr; simp only [h1, h2, h3, h4, Bool.and_true, Bool.and_false, Bool.true_and, Bool.false_and]
          rw [h1] at G0; have H0 := hid G0; clear G0
          rw [h2] at G1; have H1 := hid G1; clear G1
          have e3 : (tk == 3) = true := by simpa using h3
          rw [h4] at G3; have H3 := hid G3; clear G3
          clear h1 h2 h3 h4
          clear G5
          go_enter Try.func63, Try.ntmps63
          go_wp2_with (first | (go_at_call 97; ((with_reducible refine (H0.out).mono ?_); rintro e w1 ⟨rfl, rfl⟩)) | (go_at_call 98; ((with_reducible refine (H1.out _ (by first | exact RR.out | exact RR.out.drewN _)).mono ?_); rintro e w1 ⟨rfl, n1, rfl⟩)) | (go_at_call 98; ((with_reducible refine (H3.out _ (by first | exact RR.out | exact RR.out.drewN _)).mono ?_); rintro e w1 ⟨rfl, n1, rfl⟩)) | (go_at_call 75; ((with_reducible refine (H5.out _).mono ?_); rintro e w1 ⟨rfl, n1, rfl⟩)))
          go_ret
          exact ⟨ret_b HZ.out.symm, by first | exact ⟨_, rfl⟩ | exact ⟨0, rfl⟩⟩
        · skip
          cases h5 : decide (dk = 2)
          · have HZ : Hid (okStr n k tk ta tb tc tx ty dk da db dc dx dy l = false) := by unfold Hid okStr; simp only [h1, h2, h3, h4, h5, Bool.and_true, Bool.and_false, Bool.true_and, Bool.false_and]
            rw [h1] at G0; have H0 := hid G0; clear G0
            rw [h2] at G1; have H1 := hid G1; clear G1
            have e3 : (tk == 3) = true := by simpa using h3
            rw [h4] at G3; have H3 := hid G3; clear G3
            have e5 : ¬ dk = 2 := of_decide_eq_false h5
            clear h1 h2 h3 h4 h5
            clear G5
            go_enter Try.func63, Try.ntmps63
            go_wp2_with (first | (go_at_call 97; ((with_reducible refine (H0.out).mono ?_); rintro e w1 ⟨rfl, rfl⟩)) | (go_at_call 98; ((with_reducible refine (H1.out _ (by first | exact RR.out | exact RR.out.drewN _)).mono ?_); rintro e w1 ⟨rfl, n1, rfl⟩)) | (go_at_call 98; ((with_reducible refine (H3.out _ (by first | exact RR.out | exact RR.out.drewN _)).mono ?_); rintro e w1 ⟨rfl, n1, rfl⟩)) | (go_at_call 75; ((with_reducible refine (H5.out _).mono ?_); rintro e w1 ⟨rfl, n1, rfl⟩)))
            go_ret
            exact ⟨ret_b HZ.out.symm, by first | exact ⟨_, rfl⟩ | exact ⟨0, rfl⟩⟩
          · skip
            cases h6 : fin l
            · have HZ : Hid (okStr n k tk ta tb tc tx ty dk da db dc dx dy l = false) := by unfold Hid okStr; simp only [h1, h2, h3, h4, h5, h6, Bool.and_true, Bool.and_false, Bool.true_and, Bool.false_and]
              rw [h1] at G0; have H0 := hid G0; clear G0
              rw [h2] at G1; have H1 := hid G1; clear G1
              have e3 : (tk == 3) = true := by simpa using h3
              rw [h4] at G3; have H3 := hid G3; clear G3
              have e5 : (dk == 2) = true := by simpa using h5
              rw [h6] at G5; have H5 := hid G5; clear G5
              clear h1 h2 h3 h4 h5 h6
              go_enter Try.func63, Try.ntmps63
              go_wp2_with (first | (go_at_call 97; ((with_reducible refine (H0.out).mono ?_); rintro e w1 ⟨rfl, rfl⟩)) | (go_at_call 98; ((with_reducible refine (H1.out _ (by first | exact RR.out | exact RR.out.drewN _)).mono ?_); rintro e w1 ⟨rfl, n1, rfl⟩)) | (go_at_call 98; ((with_reducible refine (H3.out _ (by first | exact RR.out | exact RR.out.drewN _)).mono ?_); rintro e w1 ⟨rfl, n1, rfl⟩)) | (go_at_call 75; ((with_reducible refine (H5.out _).mono ?_); rintro e w1 ⟨rfl, n1, rfl⟩)))
              go_ret
              exact ⟨ret_b HZ.out.symm, by first | exact ⟨_, rfl⟩ | exact ⟨0, rfl⟩⟩
            · skip
              have HZ : Hid (okStr n k tk ta tb tc tx ty dk da db dc dx dy l = true) := by unfold Hid okStr; simp only [h1, h2, h3, h4, h5, h6, Bool.and_true, Bool.and_false, Bool.true_and, Bool.false_and]
              rw [h1] at G0; have H0 := hid G0; clear G0
              rw [h2] at G1; have H1 := hid G1; clear G1
              have e3 : (tk == 3) = true := by simpa using h3
              rw [h4] at G3; have H3 := hid G3; clear G3
              have e5 : (dk == 2) = true := by simpa using h5
              rw [h6] at G5; have H5 := hid G5; clear G5
              clear h1 h2 h3 h4 h5 h6
              go_enter Try.func63, Try.ntmps63
              go_wp2_with (first | (go_at_call 97; ((with_reducible refine (H0.out).mono ?_); rintro e w1 ⟨rfl, rfl⟩)) | (go_at_call 98; ((with_reducible refine (H1.out _ (by first | exact RR.out | exact RR.out.drewN _)).mono ?_); rintro e w1 ⟨rfl, n1, rfl⟩)) | (go_at_call 98; ((with_reducible refine (H3.out _ (by first | exact RR.out | exact RR.out.drewN _)).mono ?_); rintro e w1 ⟨rfl, n1, rfl⟩)) | (go_at_call 75; ((with_reducible refine (H5.out _).mono ?_); rintro e w1 ⟨rfl, n1, rfl⟩)))
              go_ret
              exact ⟨ret_b HZ.out.symm, by first | exact ⟨_, rfl⟩ | exact ⟨0, rfl⟩⟩
set_option maxRecDepth 100000 in
theorem s_ValidStringR (B : Nat) (s : Value) (x : Nat → Nat) (n : Nat) (k tk : Int) (ta tb tc tx ty : Nat) (dk : Int) (da db dc dx dy l : Nat) (w : World) (hs : RdS w B s x n) (hk : (Lit.int .i64 k).wf = true) :
    Calls Try.prog 21 #[.agg #[s, .int .i64 k, .int .i64 tk, .float .f32 ta, .float .f32 tb, .float .f32 tc, .float .f32 tx, .float .f32 ty, .int .i64 dk, .float .f32 da, .float .f32 db, .float .f32 dc, .float .f32 dx, .float .f32 dy, .float .f32 l]] w (Out_b (okStr n k tk ta tb tc tx ty dk da db dc dx dy l) w) := by
  have F := (Frg.nil w).box 31 #[s, .int .i64 k, .int .i64 tk, .float .f32 ta, .float .f32 tb, .float .f32 tc, .float .f32 tx, .float .f32 ty, .int .i64 dk, .float .f32 da, .float .f32 db, .float .f32 dc, .float .f32 dx, .float .f32 dy, .float .f32 l]
  have HS := hid hs; have HK := hid hk; clear hs hk
  go_enter Try.func21, Try.ntmps21
  go_wp2_with (go_at_call 63; ((with_reducible refine (s_l03Ok B s x n k tk ta tb tc tx ty dk da db dc dx dy l _ _ (HS.out.le F.below) (F.row m0) HK.out).mono ?_); rintro e w1 ⟨rfl, m, rfl⟩))
  go_ret
  exact ⟨rfl, (F.drewN _).below⟩
set_option maxRecDepth 100000 in
set_option maxHeartbeats 2000000 in
theorem i_ValidStringR (B : Nat) (s : Value) (x : Nat → Nat) (n : Nat) (k tk : Int) (ta tb tc tx ty : Nat) (dk : Int) (da db dc dx dy l : Nat) (w : World) (hs : RdS w B s x n) (hf : fits .f32 ta ∧ fits .f32 tb ∧ fits .f32 tc ∧ fits .f32 tx ∧ fits .f32 ty) (hg : fits .f32 da ∧ fits .f32 db ∧ fits .f32 dc ∧ fits .f32 dx ∧ fits .f32 dy) (hl : fits .f32 l) :
    Calls Try.prog 23 #[.agg #[s, .int .i64 k, .int .i64 tk, .float .f32 ta, .float .f32 tb, .float .f32 tc, .float .f32 tx, .float .f32 ty, .int .i64 dk, .float .f32 da, .float .f32 db, .float .f32 dc, .float .f32 dx, .float .f32 dy, .float .f32 l]] w (Out_b (okStr n k tk ta tb tc tx ty dk da db dc dx dy l) w) := by
  have G0 := fun (w1 : World) (h : le w w1) => i_ValidRingR B s x n k w1 (hs.le h)
  have G1 := fun (w1 : World) => i_ValidFilter tk ta tb tc tx ty w1 hf
  have G3 := fun (w1 : World) => i_ValidFilter dk da db dc dx dy w1 hg
  have G5 := fun (w1 : World) => i_isFinite l w1 hl
  have F := (Frg.nil w).box 31 #[s, .int .i64 k, .int .i64 tk, .float .f32 ta, .float .f32 tb, .float .f32 tc, .float .f32 tx, .float .f32 ty, .int .i64 dk, .float .f32 da, .float .f32 db, .float .f32 dc, .float .f32 dx, .float .f32 dy, .float .f32 l]
  clear hs hf hg hl
  cases h1 : okRing n k
  · have HZ : Hid (okStr n k tk ta tb tc tx ty dk da db dc dx dy l = false) := by unfold Hid okStr; simp only [h1, Bool.and_true, Bool.and_false, Bool.true_and, Bool.false_and]
    rw [h1] at G0; have H0 := hid G0; clear G0
    clear h1
    clear G1
    clear G3
    clear G5
    have c2 := (F.row m0).cell? 2; have c8 := (F.row m0).cell? 8; have c14 := (F.row m0).cell? 14
    go_enter Try.func23, Try.ntmps23
    go_wp2_with (first | ((with_reducible refine at_loadU rfl rfl ?_); first | (with_reducible refine wpList_loadGP F rfl rfl rfl m0 Try.underlying25 rfl [s, .int .i64 k] (strRing s k tk ta tb tc tx ty dk da db dc dx dy l) infoRing rfl ?_) | (with_reducible refine wpList_loadGP F rfl rfl rfl m0 Try.underlying29 rfl [.int .i64 tk, .float .f32 ta, .float .f32 tb, .float .f32 tc, .float .f32 tx, .float .f32 ty] (strTune s k tk ta tb tc tx ty dk da db dc dx dy l) infoFil rfl ?_) | (with_reducible refine wpList_loadGP F rfl rfl rfl m0 Try.underlying29 rfl [.int .i64 dk, .float .f32 da, .float .f32 db, .float .f32 dc, .float .f32 dx, .float .f32 dy] (strDamp s k tk ta tb tc tx ty dk da db dc dx dy l) infoFil rfl ?_)) | ((with_reducible refine at_loadV rfl rfl ?_); first | (with_reducible refine wpList_loadGPG F rfl rfl m0 Try.underlying25 rfl [s, .int .i64 k] (strRing s k tk ta tb tc tx ty dk da db dc dx dy l) infoRing rfl (by kernel_rfl) ?_) | (with_reducible refine wpList_loadGPG F rfl rfl m0 Try.underlying29 rfl [.int .i64 tk, .float .f32 ta, .float .f32 tb, .float .f32 tc, .float .f32 tx, .float .f32 ty] (strTune s k tk ta tb tc tx ty dk da db dc dx dy l) infoFil rfl (by kernel_rfl) ?_) | (with_reducible refine wpList_loadGPG F rfl rfl m0 Try.underlying29 rfl [.int .i64 dk, .float .f32 da, .float .f32 db, .float .f32 dc, .float .f32 dx, .float .f32 dy] (strDamp s k tk ta tb tc tx ty dk da db dc dx dy l) infoFil rfl (by kernel_rfl) ?_)) | (go_at_call 66; ((with_reducible refine (H0.out _ F.below).mono ?_); rintro e w1 ⟨rfl, hl⟩; replace F := F.le hl; clear hl; clear c2 c8 c14; have c2 := (F.row m0).cell? 2; have c8 := (F.row m0).cell? 8; have c14 := (F.row m0).cell? 14)) | (go_at_call 67; ((with_reducible refine (H1.out _).mono ?_); rintro e w1 ⟨rfl, hl⟩; replace F := F.le hl; clear hl; clear c2 c8 c14; have c2 := (F.row m0).cell? 2; have c8 := (F.row m0).cell? 8; have c14 := (F.row m0).cell? 14)) | (go_at_call 67; ((with_reducible refine (H3.out _).mono ?_); rintro e w1 ⟨rfl, hl⟩; replace F := F.le hl; clear hl; clear c2 c8 c14; have c2 := (F.row m0).cell? 2; have c8 := (F.row m0).cell? 8; have c14 := (F.row m0).cell? 14)) | (go_at_call 68; ((with_reducible refine (H5.out _).mono ?_); rintro e w1 ⟨rfl, rfl⟩)))
    go_ret
    exact ⟨ret_b HZ.out.symm, F.below⟩
  · skip
    cases h3 : decide (tk = 3)
    · have HZ : Hid (okStr n k tk ta tb tc tx ty dk da db dc dx dy l = false) := by unfold Hid okStr; simp only [h1, h3, Bool.and_true, Bool.and_false, Bool.true_and, Bool.false_and]
      rw [h1] at G0; have H0 := hid G0; clear G0
      have e3 : ¬ tk = 3 := of_decide_eq_false h3
      clear h1 h3
      clear G1
      clear G3
      clear G5
      have c2 := (F.row m0).cell? 2; have c8 := (F.row m0).cell? 8; have c14 := (F.row m0).cell? 14
      go_enter Try.func23, Try.ntmps23
      go_wp2_with (first | ((with_reducible refine at_loadU rfl rfl ?_); first | (with_reducible refine wpList_loadGP F rfl rfl rfl m0 Try.underlying25 rfl [s, .int .i64 k] (strRing s k tk ta tb tc tx ty dk da db dc dx dy l) infoRing rfl ?_) | (with_reducible refine wpList_loadGP F rfl rfl rfl m0 Try.underlying29 rfl [.int .i64 tk, .float .f32 ta, .float .f32 tb, .float .f32 tc, .float .f32 tx, .float .f32 ty] (strTune s k tk ta tb tc tx ty dk da db dc dx dy l) infoFil rfl ?_) | (with_reducible refine wpList_loadGP F rfl rfl rfl m0 Try.underlying29 rfl [.int .i64 dk, .float .f32 da, .float .f32 db, .float .f32 dc, .float .f32 dx, .float .f32 dy] (strDamp s k tk ta tb tc tx ty dk da db dc dx dy l) infoFil rfl ?_)) | ((with_reducible refine at_loadV rfl rfl ?_); first | (with_reducible refine wpList_loadGPG F rfl rfl m0 Try.underlying25 rfl [s, .int .i64 k] (strRing s k tk ta tb tc tx ty dk da db dc dx dy l) infoRing rfl (by kernel_rfl) ?_) | (with_reducible refine wpList_loadGPG F rfl rfl m0 Try.underlying29 rfl [.int .i64 tk, .float .f32 ta, .float .f32 tb, .float .f32 tc, .float .f32 tx, .float .f32 ty] (strTune s k tk ta tb tc tx ty dk da db dc dx dy l) infoFil rfl (by kernel_rfl) ?_) | (with_reducible refine wpList_loadGPG F rfl rfl m0 Try.underlying29 rfl [.int .i64 dk, .float .f32 da, .float .f32 db, .float .f32 dc, .float .f32 dx, .float .f32 dy] (strDamp s k tk ta tb tc tx ty dk da db dc dx dy l) infoFil rfl (by kernel_rfl) ?_)) | (go_at_call 66; ((with_reducible refine (H0.out _ F.below).mono ?_); rintro e w1 ⟨rfl, hl⟩; replace F := F.le hl; clear hl; clear c2 c8 c14; have c2 := (F.row m0).cell? 2; have c8 := (F.row m0).cell? 8; have c14 := (F.row m0).cell? 14)) | (go_at_call 67; ((with_reducible refine (H1.out _).mono ?_); rintro e w1 ⟨rfl, hl⟩; replace F := F.le hl; clear hl; clear c2 c8 c14; have c2 := (F.row m0).cell? 2; have c8 := (F.row m0).cell? 8; have c14 := (F.row m0).cell? 14)) | (go_at_call 67; ((with_reducible refine (H3.out _).mono ?_); rintro e w1 ⟨rfl, hl⟩; replace F := F.le hl; clear hl; clear c2 c8 c14; have c2 := (F.row m0).cell? 2; have c8 := (F.row m0).cell? 8; have c14 := (F.row m0).cell? 14)) | (go_at_call 68; ((with_reducible refine (H5.out _).mono ?_); rintro e w1 ⟨rfl, rfl⟩)))
      go_ret
      exact ⟨ret_b HZ.out.symm, F.below⟩
    · skip
      cases h2 : okF tk ta tb tc tx ty
      · have HZ : Hid (okStr n k tk ta tb tc tx ty dk da db dc dx dy l = false) := by unfold Hid okStr; simp only [h1, h3, h2, Bool.and_true, Bool.and_false, Bool.true_and, Bool.false_and]
        rw [h1] at G0; have H0 := hid G0; clear G0
        have e3 : (tk == 3) = true := by simpa using h3
        rw [h2] at G1; have H1 := hid G1; clear G1
        clear h1 h3 h2
        clear G3
        clear G5
        have c2 := (F.row m0).cell? 2; have c8 := (F.row m0).cell? 8; have c14 := (F.row m0).cell? 14
        go_enter Try.func23, Try.ntmps23
        go_wp2_with (first | ((with_reducible refine at_loadU rfl rfl ?_); first | (with_reducible refine wpList_loadGP F rfl rfl rfl m0 Try.underlying25 rfl [s, .int .i64 k] (strRing s k tk ta tb tc tx ty dk da db dc dx dy l) infoRing rfl ?_) | (with_reducible refine wpList_loadGP F rfl rfl rfl m0 Try.underlying29 rfl [.int .i64 tk, .float .f32 ta, .float .f32 tb, .float .f32 tc, .float .f32 tx, .float .f32 ty] (strTune s k tk ta tb tc tx ty dk da db dc dx dy l) infoFil rfl ?_) | (with_reducible refine wpList_loadGP F rfl rfl rfl m0 Try.underlying29 rfl [.int .i64 dk, .float .f32 da, .float .f32 db, .float .f32 dc, .float .f32 dx, .float .f32 dy] (strDamp s k tk ta tb tc tx ty dk da db dc dx dy l) infoFil rfl ?_)) | ((with_reducible refine at_loadV rfl rfl ?_); first | (with_reducible refine wpList_loadGPG F rfl rfl m0 Try.underlying25 rfl [s, .int .i64 k] (strRing s k tk ta tb tc tx ty dk da db dc dx dy l) infoRing rfl (by kernel_rfl) ?_) | (with_reducible refine wpList_loadGPG F rfl rfl m0 Try.underlying29 rfl [.int .i64 tk, .float .f32 ta, .float .f32 tb, .float .f32 tc, .float .f32 tx, .float .f32 ty] (strTune s k tk ta tb tc tx ty dk da db dc dx dy l) infoFil rfl (by kernel_rfl) ?_) | (with_reducible refine wpList_loadGPG F rfl rfl m0 Try.underlying29 rfl [.int .i64 dk, .float .f32 da, .float .f32 db, .float .f32 dc, .float .f32 dx, .float .f32 dy] (strDamp s k tk ta tb tc tx ty dk da db dc dx dy l) infoFil rfl (by kernel_rfl) ?_)) | (go_at_call 66; ((with_reducible refine (H0.out _ F.below).mono ?_); rintro e w1 ⟨rfl, hl⟩; replace F := F.le hl; clear hl; clear c2 c8 c14; have c2 := (F.row m0).cell? 2; have c8 := (F.row m0).cell? 8; have c14 := (F.row m0).cell? 14)) | (go_at_call 67; ((with_reducible refine (H1.out _).mono ?_); rintro e w1 ⟨rfl, hl⟩; replace F := F.le hl; clear hl; clear c2 c8 c14; have c2 := (F.row m0).cell? 2; have c8 := (F.row m0).cell? 8; have c14 := (F.row m0).cell? 14)) | (go_at_call 67; ((with_reducible refine (H3.out _).mono ?_); rintro e w1 ⟨rfl, hl⟩; replace F := F.le hl; clear hl; clear c2 c8 c14; have c2 := (F.row m0).cell? 2; have c8 := (F.row m0).cell? 8; have c14 := (F.row m0).cell? 14)) | (go_at_call 68; ((with_reducible refine (H5.out _).mono ?_); rintro e w1 ⟨rfl, rfl⟩)))
        go_ret
        exact ⟨ret_b HZ.out.symm, F.below⟩
      · skip
        cases h5 : decide (dk = 2)
        · have HZ : Hid (okStr n k tk ta tb tc tx ty dk da db dc dx dy l = false) := by unfold Hid okStr; simp only [h1, h3, h2, h5, Bool.and_true, Bool.and_false, Bool.true_and, Bool.false_and]
          rw [h1] at G0; have H0 := hid G0; clear G0
          have e3 : (tk == 3) = true := by simpa using h3
          rw [h2] at G1; have H1 := hid G1; clear G1
          have e5 : ¬ dk = 2 := of_decide_eq_false h5
          clear h1 h3 h2 h5
          clear G3
          clear G5
          have c2 := (F.row m0).cell? 2; have c8 := (F.row m0).cell? 8; have c14 := (F.row m0).cell? 14
          go_enter Try.func23, Try.ntmps23
          go_wp2_with (first | ((with_reducible refine at_loadU rfl rfl ?_); first | (with_reducible refine wpList_loadGP F rfl rfl rfl m0 Try.underlying25 rfl [s, .int .i64 k] (strRing s k tk ta tb tc tx ty dk da db dc dx dy l) infoRing rfl ?_) | (with_reducible refine wpList_loadGP F rfl rfl rfl m0 Try.underlying29 rfl [.int .i64 tk, .float .f32 ta, .float .f32 tb, .float .f32 tc, .float .f32 tx, .float .f32 ty] (strTune s k tk ta tb tc tx ty dk da db dc dx dy l) infoFil rfl ?_) | (with_reducible refine wpList_loadGP F rfl rfl rfl m0 Try.underlying29 rfl [.int .i64 dk, .float .f32 da, .float .f32 db, .float .f32 dc, .float .f32 dx, .float .f32 dy] (strDamp s k tk ta tb tc tx ty dk da db dc dx dy l) infoFil rfl ?_)) | ((with_reducible refine at_loadV rfl rfl ?_); first | (with_reducible refine wpList_loadGPG F rfl rfl m0 Try.underlying25 rfl [s, .int .i64 k] (strRing s k tk ta tb tc tx ty dk da db dc dx dy l) infoRing rfl (by kernel_rfl) ?_) | (with_reducible refine wpList_loadGPG F rfl rfl m0 Try.underlying29 rfl [.int .i64 tk, .float .f32 ta, .float .f32 tb, .float .f32 tc, .float .f32 tx, .float .f32 ty] (strTune s k tk ta tb tc tx ty dk da db dc dx dy l) infoFil rfl (by kernel_rfl) ?_) | (with_reducible refine wpList_loadGPG F rfl rfl m0 Try.underlying29 rfl [.int .i64 dk, .float .f32 da, .float .f32 db, .float .f32 dc, .float .f32 dx, .float .f32 dy] (strDamp s k tk ta tb tc tx ty dk da db dc dx dy l) infoFil rfl (by kernel_rfl) ?_)) | (go_at_call 66; ((with_reducible refine (H0.out _ F.below).mono ?_); rintro e w1 ⟨rfl, hl⟩; replace F := F.le hl; clear hl; clear c2 c8 c14; have c2 := (F.row m0).cell? 2; have c8 := (F.row m0).cell? 8; have c14 := (F.row m0).cell? 14)) | (go_at_call 67; ((with_reducible refine (H1.out _).mono ?_); rintro e w1 ⟨rfl, hl⟩; replace F := F.le hl; clear hl; clear c2 c8 c14; have c2 := (F.row m0).cell? 2; have c8 := (F.row m0).cell? 8; have c14 := (F.row m0).cell? 14)) | (go_at_call 67; ((with_reducible refine (H3.out _).mono ?_); rintro e w1 ⟨rfl, hl⟩; replace F := F.le hl; clear hl; clear c2 c8 c14; have c2 := (F.row m0).cell? 2; have c8 := (F.row m0).cell? 8; have c14 := (F.row m0).cell? 14)) | (go_at_call 68; ((with_reducible refine (H5.out _).mono ?_); rintro e w1 ⟨rfl, rfl⟩)))
          go_ret
          exact ⟨ret_b HZ.out.symm, F.below⟩
        · skip
          cases h4 : okF dk da db dc dx dy
          · have HZ : Hid (okStr n k tk ta tb tc tx ty dk da db dc dx dy l = false) := by unfold Hid okStr; simp only [h1, h3, h2, h5, h4, Bool.and_true, Bool.and_false, Bool.true_and, Bool.false_and]
            rw [h1] at G0; have H0 := hid G0; clear G0
            have e3 : (tk == 3) = true := by simpa using h3
            rw [h2] at G1; have H1 := hid G1; clear G1
            have e5 : (dk == 2) = true := by simpa using h5
            rw [h4] at G3; have H3 := hid G3; clear G3
            clear h1 h3 h2 h5 h4
            clear G5
            have c2 := (F.row m0).cell? 2; have c8 := (F.row m0).cell? 8; have c14 := (F.row m0).cell? 14
            go_enter Try.func23, Try.ntmps23
            go_wp2_with (first | ((with_reducible refine at_loadU rfl rfl ?_); first | (with_reducible refine wpList_loadGP F rfl rfl rfl m0 Try.underlying25 rfl [s, .int .i64 k] (strRing s k tk ta tb tc tx ty dk da db dc dx dy l) infoRing rfl ?_) | (with_reducible refine wpList_loadGP F rfl rfl rfl m0 Try.underlying29 rfl [.int .i64 tk, .float .f32 ta, .float .f32 tb, .float .f32 tc, .float .f32 tx, .float .f32 ty] (strTune s k tk ta tb tc tx ty dk da db dc dx dy l) infoFil rfl ?_) | (with_reducible refine wpList_loadGP F rfl rfl rfl m0 Try.underlying29 rfl [.int .i64 dk, .float .f32 da, .float .f32 db, .float .f32 dc, .float .f32 dx, .float .f32 dy] (strDamp s k tk ta tb tc tx ty dk da db dc dx dy l) infoFil rfl ?_)) | ((with_reducible refine at_loadV rfl rfl ?_); first | (with_reducible refine wpList_loadGPG F rfl rfl m0 Try.underlying25 rfl [s, .int .i64 k] (strRing s k tk ta tb tc tx ty dk da db dc dx dy l) infoRing rfl (by kernel_rfl) ?_) | (with_reducible refine wpList_loadGPG F rfl rfl m0 Try.underlying29 rfl [.int .i64 tk, .float .f32 ta, .float .f32 tb, .float .f32 tc, .float .f32 tx, .float .f32 ty] (strTune s k tk ta tb tc tx ty dk da db dc dx dy l) infoFil rfl (by kernel_rfl) ?_) | (with_reducible refine wpList_loadGPG F rfl rfl m0 Try.underlying29 rfl [.int .i64 dk, .float .f32 da, .float .f32 db, .float .f32 dc, .float .f32 dx, .float .f32 dy] (strDamp s k tk ta tb tc tx ty dk da db dc dx dy l) infoFil rfl (by kernel_rfl) ?_)) | (go_at_call 66; ((with_reducible refine (H0.out _ F.below).mono ?_); rintro e w1 ⟨rfl, hl⟩; replace F := F.le hl; clear hl; clear c2 c8 c14; have c2 := (F.row m0).cell? 2; have c8 := (F.row m0).cell? 8; have c14 := (F.row m0).cell? 14)) | (go_at_call 67; ((with_reducible refine (H1.out _).mono ?_); rintro e w1 ⟨rfl, hl⟩; replace F := F.le hl; clear hl; clear c2 c8 c14; have c2 := (F.row m0).cell? 2; have c8 := (F.row m0).cell? 8; have c14 := (F.row m0).cell? 14)) | (go_at_call 67; ((with_reducible refine (H3.out _).mono ?_); rintro e w1 ⟨rfl, hl⟩; replace F := F.le hl; clear hl; clear c2 c8 c14; have c2 := (F.row m0).cell? 2; have c8 := (F.row m0).cell? 8; have c14 := (F.row m0).cell? 14)) | (go_at_call 68; ((with_reducible refine (H5.out _).mono ?_); rintro e w1 ⟨rfl, rfl⟩)))
            go_ret
            exact ⟨ret_b HZ.out.symm, F.below⟩
          · skip
            cases h6 : fin l
            · have HZ : Hid (okStr n k tk ta tb tc tx ty dk da db dc dx dy l = false) := by unfold Hid okStr; simp only [h1, h3, h2, h5, h4, h6, Bool.and_true, Bool.and_false, Bool.true_and, Bool.false_and]
              rw [h1] at G0; have H0 := hid G0; clear G0
              have e3 : (tk == 3) = true := by simpa using h3
              rw [h2] at G1; have H1 := hid G1; clear G1
              have e5 : (dk == 2) = true := by simpa using h5
              rw [h4] at G3; have H3 := hid G3; clear G3
              rw [h6] at G5; have H5 := hid G5; clear G5
              clear h1 h3 h2 h5 h4 h6
              have c2 := (F.row m0).cell? 2; have c8 := (F.row m0).cell? 8; have c14 := (F.row m0).cell? 14
              go_enter Try.func23, Try.ntmps23
              go_wp2_with (first | ((with_reducible refine at_loadU rfl rfl ?_); first | (with_reducible refine wpList_loadGP F rfl rfl rfl m0 Try.underlying25 rfl [s, .int .i64 k] (strRing s k tk ta tb tc tx ty dk da db dc dx dy l) infoRing rfl ?_) | (with_reducible refine wpList_loadGP F rfl rfl rfl m0 Try.underlying29 rfl [.int .i64 tk, .float .f32 ta, .float .f32 tb, .float .f32 tc, .float .f32 tx, .float .f32 ty] (strTune s k tk ta tb tc tx ty dk da db dc dx dy l) infoFil rfl ?_) | (with_reducible refine wpList_loadGP F rfl rfl rfl m0 Try.underlying29 rfl [.int .i64 dk, .float .f32 da, .float .f32 db, .float .f32 dc, .float .f32 dx, .float .f32 dy] (strDamp s k tk ta tb tc tx ty dk da db dc dx dy l) infoFil rfl ?_)) | ((with_reducible refine at_loadV rfl rfl ?_); first | (with_reducible refine wpList_loadGPG F rfl rfl m0 Try.underlying25 rfl [s, .int .i64 k] (strRing s k tk ta tb tc tx ty dk da db dc dx dy l) infoRing rfl (by kernel_rfl) ?_) | (with_reducible refine wpList_loadGPG F rfl rfl m0 Try.underlying29 rfl [.int .i64 tk, .float .f32 ta, .float .f32 tb, .float .f32 tc, .float .f32 tx, .float .f32 ty] (strTune s k tk ta tb tc tx ty dk da db dc dx dy l) infoFil rfl (by kernel_rfl) ?_) | (with_reducible refine wpList_loadGPG F rfl rfl m0 Try.underlying29 rfl [.int .i64 dk, .float .f32 da, .float .f32 db, .float .f32 dc, .float .f32 dx, .float .f32 dy] (strDamp s k tk ta tb tc tx ty dk da db dc dx dy l) infoFil rfl (by kernel_rfl) ?_)) | (go_at_call 66; ((with_reducible refine (H0.out _ F.below).mono ?_); rintro e w1 ⟨rfl, hl⟩; replace F := F.le hl; clear hl; clear c2 c8 c14; have c2 := (F.row m0).cell? 2; have c8 := (F.row m0).cell? 8; have c14 := (F.row m0).cell? 14)) | (go_at_call 67; ((with_reducible refine (H1.out _).mono ?_); rintro e w1 ⟨rfl, hl⟩; replace F := F.le hl; clear hl; clear c2 c8 c14; have c2 := (F.row m0).cell? 2; have c8 := (F.row m0).cell? 8; have c14 := (F.row m0).cell? 14)) | (go_at_call 67; ((with_reducible refine (H3.out _).mono ?_); rintro e w1 ⟨rfl, hl⟩; replace F := F.le hl; clear hl; clear c2 c8 c14; have c2 := (F.row m0).cell? 2; have c8 := (F.row m0).cell? 8; have c14 := (F.row m0).cell? 14)) | (go_at_call 68; ((with_reducible refine (H5.out _).mono ?_); rintro e w1 ⟨rfl, rfl⟩)))
              go_ret
              exact ⟨ret_b HZ.out.symm, F.below⟩
            · skip
              have HZ : Hid (okStr n k tk ta tb tc tx ty dk da db dc dx dy l = true) := by unfold Hid okStr; simp only [h1, h3, h2, h5, h4, h6, Bool.and_true, Bool.and_false, Bool.true_and, Bool.false_and]
              rw [h1] at G0; have H0 := hid G0; clear G0
              have e3 : (tk == 3) = true := by simpa using h3
              rw [h2] at G1; have H1 := hid G1; clear G1
              have e5 : (dk == 2) = true := by simpa using h5
              rw [h4] at G3; have H3 := hid G3; clear G3
              rw [h6] at G5; have H5 := hid G5; clear G5
              clear h1 h3 h2 h5 h4 h6
              have c2 := (F.row m0).cell? 2; have c8 := (F.row m0).cell? 8; have c14 := (F.row m0).cell? 14
              go_enter Try.func23, Try.ntmps23
              go_wp2_with (first | ((with_reducible refine at_loadU rfl rfl ?_); first | (with_reducible refine wpList_loadGP F rfl rfl rfl m0 Try.underlying25 rfl [s, .int .i64 k] (strRing s k tk ta tb tc tx ty dk da db dc dx dy l) infoRing rfl ?_) | (with_reducible refine wpList_loadGP F rfl rfl rfl m0 Try.underlying29 rfl [.int .i64 tk, .float .f32 ta, .float .f32 tb, .float .f32 tc, .float .f32 tx, .float .f32 ty] (strTune s k tk ta tb tc tx ty dk da db dc dx dy l) infoFil rfl ?_) | (with_reducible refine wpList_loadGP F rfl rfl rfl m0 Try.underlying29 rfl [.int .i64 dk, .float .f32 da, .float .f32 db, .float .f32 dc, .float .f32 dx, .float .f32 dy] (strDamp s k tk ta tb tc tx ty dk da db dc dx dy l) infoFil rfl ?_)) | ((with_reducible refine at_loadV rfl rfl ?_); first | (with_reducible refine wpList_loadGPG F rfl rfl m0 Try.underlying25 rfl [s, .int .i64 k] (strRing s k tk ta tb tc tx ty dk da db dc dx dy l) infoRing rfl (by kernel_rfl) ?_) | (with_reducible refine wpList_loadGPG F rfl rfl m0 Try.underlying29 rfl [.int .i64 tk, .float .f32 ta, .float .f32 tb, .float .f32 tc, .float .f32 tx, .float .f32 ty] (strTune s k tk ta tb tc tx ty dk da db dc dx dy l) infoFil rfl (by kernel_rfl) ?_) | (with_reducible refine wpList_loadGPG F rfl rfl m0 Try.underlying29 rfl [.int .i64 dk, .float .f32 da, .float .f32 db, .float .f32 dc, .float .f32 dx, .float .f32 dy] (strDamp s k tk ta tb tc tx ty dk da db dc dx dy l) infoFil rfl (by kernel_rfl) ?_)) | (go_at_call 66; ((with_reducible refine (H0.out _ F.below).mono ?_); rintro e w1 ⟨rfl, hl⟩; replace F := F.le hl; clear hl; clear c2 c8 c14; have c2 := (F.row m0).cell? 2; have c8 := (F.row m0).cell? 8; have c14 := (F.row m0).cell? 14)) | (go_at_call 67; ((with_reducible refine (H1.out _).mono ?_); rintro e w1 ⟨rfl, hl⟩; replace F := F.le hl; clear hl; clear c2 c8 c14; have c2 := (F.row m0).cell? 2; have c8 := (F.row m0).cell? 8; have c14 := (F.row m0).cell? 14)) | (go_at_call 67; ((with_reducible refine (H3.out _).mono ?_); rintro e w1 ⟨rfl, hl⟩; replace F := F.le hl; clear hl; clear c2 c8 c14; have c2 := (F.row m0).cell? 2; have c8 := (F.row m0).cell? 8; have c14 := (F.row m0).cell? 14)) | (go_at_call 68; ((with_reducible refine (H5.out _).mono ?_); rintro e w1 ⟨rfl, rfl⟩)))
              go_ret
              exact ⟨ret_b HZ.out.symm, F.below⟩
theorem both_ValidString (x : Nat → Nat) (n : Nat) (k tk : Int) (ta tb tc tx ty : Nat) (dk : Int) (da db dc dx dy l : Nat) (hw : (Lit.int .i64 k).wf = true ∧ (Lit.int .i64 tk).wf = true ∧ fits .f32 ta ∧ fits .f32 tb ∧ fits .f32 tc ∧ fits .f32 tx ∧ fits .f32 ty ∧ (Lit.int .i64 dk).wf = true ∧ fits .f32 da ∧ fits .f32 db ∧ fits .f32 dc ∧ fits .f32 dx ∧ fits .f32 dy ∧ fits .f32 l) : ∃ r : Bool, (∀ (w : World) (B : Nat) (u : Value), RdS w B u x n → Calls Try.prog 21 #[.agg #[u, .int .i64 k, .int .i64 tk, .float .f32 ta, .float .f32 tb, .float .f32 tc, .float .f32 tx, .float .f32 ty, .int .i64 dk, .float .f32 da, .float .f32 db, .float .f32 dc, .float .f32 dx, .float .f32 dy, .float .f32 l]] w (Out_b r w)) ∧ (∀ (w : World) (B : Nat) (u : Value), RdS w B u x n → Calls Try.prog 23 #[.agg #[u, .int .i64 k, .int .i64 tk, .float .f32 ta, .float .f32 tb, .float .f32 tc, .float .f32 tx, .float .f32 ty, .int .i64 dk, .float .f32 da, .float .f32 db, .float .f32 dc, .float .f32 dx, .float .f32 dy, .float .f32 l]] w (Out_b r w)) := by
  obtain ⟨hk, _, h1, h2, h3, h4, h5, _, g1, g2, g3, g4, g5, hl⟩ := hw
  exact ⟨_, fun w B u h => s_ValidStringR B u x n k tk ta tb tc tx ty dk da db dc dx dy l w h hk, fun w B u h => i_ValidStringR B u x n k tk ta tb tc tx ty dk da db dc dx dy l w h ⟨h1, h2, h3, h4, h5⟩ ⟨g1, g2, g3, g4, g5⟩ hl⟩
end Go.Proofs.Ytaenbpkcehenkac

/- 'StepString' of both, and what such functions share. -/
namespace Go.Fk
open Go Go.RowKit
theorem okStr_q {x : Nat → Nat} {n : Nat} {k tk : Int} {ta tb tc tx ty : Nat} {dk : Int} {da db dc dx dy l : Nat} (h : okStr n k tk ta tb tc tx ty dk da db dc dx dy l = true) (hf : fits .f32 ta ∧ fits .f32 tb ∧ fits .f32 tc ∧ fits .f32 tx ∧ fits .f32 ty) (hg : fits .f32 da ∧ fits .f32 db ∧ fits .f32 dc ∧ fits .f32 dx ∧ fits .f32 dy) (hl : fits .f32 l) :
    ∃ j : Nat, k = j ∧ tk = 3 ∧ dk = 2 ∧ (⟨x, n, j, ta, tb, tc, tx, ty, da, db, dc, dx, dy, l⟩ : StS).Ok := by
  unfold okStr at h
  simp only [Bool.and_eq_true, decide_eq_true_eq] at h
  obtain ⟨h1, h2, rfl, h4, rfl, h6⟩ := h
  obtain ⟨e1, e2, j, rfl, ej⟩ := okRing_j h1
  obtain ⟨f1, f2, f3, f4, f5⟩ := hf
  obtain ⟨g1, g2, g3, g4, g5⟩ := hg
  exact ⟨j, rfl, rfl, rfl, ⟨e1, e2, ej, h2, h4, h6, f1, f2, f3, f4, f5, g1, g2, g3, g4, g5, hl⟩⟩
end Go.Fk
namespace Go.Proofs.Ytaenbpkcehenkac
open Go.RowKit Go.Fk
theorem SpS.ok {w w' : World} {B C g : Nat} {q : StS} (h : SpS w B C g q) (hk : ∀ k, B ≤ k → k < C → w'.heap[k]? = w.heap[k]?) : SpS w' B C g q := by
  obtain ⟨s, lo, hi, R, O, g1, g2, g3, g4, g5⟩ := h
  exact ⟨s, lo, hi, (rowF g _ _).ok w w' R (fun k a b => hk k (Nat.le_trans g1 a) (by have b' : k < g + 1 := b; omega)), (ownF lo hi s q.x q.n).ok w w' O (fun k a b => hk k (Nat.le_trans g3 a) (Nat.lt_of_lt_of_le b g4)), g1, g2, g3, g4, g5⟩
/-- A string of the model in memory. -/
def spF (B C g : Nat) (q : StS) : Fact := ⟨B, C, fun w => SpS w B C g q, fun _ _ h hk => SpS.ok h hk⟩
theorem toSp {w0 w : World} {g lo hi : Nat} {s : Value} {q : StS} {l : List Fact} (h : Frg w0 w (rowF g 31 #[s, .int .i64 (q.j : Nat), .int .i64 3, .float .f32 (q.ta), .float .f32 (q.tb), .float .f32 (q.tc), .float .f32 (q.tx), .float .f32 (q.ty), .int .i64 2, .float .f32 (q.da), .float .f32 (q.db), .float .f32 (q.dc), .float .f32 (q.dx), .float .f32 (q.dy), .float .f32 (q.l)] :: ownF lo hi s q.x q.n :: l)) (hn : 1 ≤ q.n) : Frg w0 w (spF lo (g + 1) g q :: l) := by
  have f1 := h.facts (rowF g 31 #[s, .int .i64 (q.j : Nat), .int .i64 3, .float .f32 (q.ta), .float .f32 (q.tb), .float .f32 (q.tc), .float .f32 (q.tx), .float .f32 (q.ty), .int .i64 2, .float .f32 (q.da), .float .f32 (q.db), .float .f32 (q.dc), .float .f32 (q.dx), .float .f32 (q.dy), .float .f32 (q.l)]) (by simp)
  have f2 := h.facts (ownF lo hi s q.x q.n) (by simp)
  have a1 := List.pairwise_cons.1 h.apart
  have a2 := List.pairwise_cons.1 a1.2
  have b12 : hi ≤ g := a1.1 (ownF lo hi s q.x q.n) (by simp)
  have hlo : lo < hi := by
    rcases f2.2.2 with ⟨_, h0⟩ | ⟨b, o, cap, cs, _, _, _, h4, h5, _⟩
    · omega
    · omega
  refine ⟨h.below, fun e he => ?_, List.pairwise_cons.2 ⟨fun e he => a2.1 e he, a2.2⟩⟩
  rcases List.mem_cons.1 he with rfl | he
  · exact ⟨f2.1, f1.2.1, ⟨s, lo, hi, f1.2.2, f2.2.2, by omega, by omega, Nat.le_refl _, by omega, by omega⟩⟩
  · exact h.facts e (by simp [he])
theorem LpS.ok {w w' : World} {B C g : Nat} {q : StS} (h : LpS w B C g q) (hk : ∀ k, B ≤ k → k < C → w'.heap[k]? = w.heap[k]?) : LpS w' B C g q := by
  obtain ⟨s, lo, hi, rt, rd, R, O, RT, RD, ⟨b1, b2, b3, b4, b5, b6, b7, b8⟩, d⟩ := h
  exact ⟨s, lo, hi, rt, rd, (rowF g _ _).ok w w' R (fun k a b => hk k (Nat.le_trans b1 a) (by have b' : k < g + 1 := b; omega)), (ownF lo hi s q.x q.n).ok w w' O (fun k a b => hk k (Nat.le_trans b7 a) (Nat.lt_of_lt_of_le b b8)), (rowF rt _ _).ok w w' RT (fun k a b => hk k (Nat.le_trans b3 a) (by have b' : k < rt + 1 := b; omega)), (rowF rd _ _).ok w w' RD (fun k a b => hk k (Nat.le_trans b5 a) (by have b' : k < rd + 1 := b; omega)), ⟨b1, b2, b3, b4, b5, b6, b7, b8⟩, d⟩
/-- A loop in memory. -/
def lpF (B C g : Nat) (q : StS) : Fact := ⟨B, C, fun w => LpS w B C g q, fun _ _ h hk => LpS.ok h hk⟩
theorem Frg.sp {w0 w : World} {L : List Fact} {B C g : Nat} {q : StS} (h : Frg w0 w L) (hm : spF B C g q ∈ L) : SpS w B C g q := (h.facts _ hm).2.2
theorem Frg.lp {w0 w : World} {L : List Fact} {B C g : Nat} {q : StS} (h : Frg w0 w L) (hm : lpF B C g q ∈ L) : LpS w B C g q := (h.facts _ hm).2.2
set_option maxRecDepth 100000 in
set_option maxHeartbeats 2000000 in
theorem s_StepString_no (B : Nat) (s : Value) (x : Nat → Nat) (n : Nat) (k tk : Int) (ta tb tc tx ty : Nat) (dk : Int) (da db dc dx dy l : Nat) (a : Nat) (w : World) (hs : RdS w B s x n) (hk : (Lit.int .i64 k).wf = true) (hv : okStr n k tk ta tb tc tx ty dk da db dc dx dy l = false) :
    Calls Try.prog 35 #[.agg #[s, .int .i64 k, .int .i64 tk, .float .f32 ta, .float .f32 tb, .float .f32 tc, .float .f32 tx, .float .f32 ty, .int .i64 dk, .float .f32 da, .float .f32 db, .float .f32 dc, .float .f32 dx, .float .f32 dy, .float .f32 l], .float .f32 a] w (Out_sfi (fun _ => 0) 0 0 0 0 0 0 0 0 0 0 0 0 0 0 0 0 1 w) := by
  have HV := hid (fun (w' : World) (g : Nat) (hl : le w w') (R : Row w' g 31 #[s, .int .i64 k, .int .i64 tk, .float .f32 ta, .float .f32 tb, .float .f32 tc, .float .f32 tx, .float .f32 ty, .int .i64 dk, .float .f32 da, .float .f32 db, .float .f32 dc, .float .f32 dx, .float .f32 dy, .float .f32 l]) => hv ▸ s_l03Ok B s x n k tk ta tb tc tx ty dk da db dc dx dy l g w' (hs.le hl) R hk)
  clear hs hk hv
  have F := ((Frg.nil w).box 31 #[s, .int .i64 k, .int .i64 tk, .float .f32 ta, .float .f32 tb, .float .f32 tc, .float .f32 tx, .float .f32 ty, .int .i64 dk, .float .f32 da, .float .f32 db, .float .f32 dc, .float .f32 dx, .float .f32 dy, .float .f32 l]).box 31 #[.slice none 0 0, .int .i64 0, .int .i64 0, .float .f32 0, .float .f32 0, .float .f32 0, .float .f32 0, .float .f32 0, .int .i64 0, .float .f32 0, .float .f32 0, .float .f32 0, .float .f32 0, .float .f32 0, .float .f32 0]
  simp only [World.size_alloc] at F
  go_enter Try.func35, Try.ntmps35
  go_wp2_with (first | (go_at_call 63; ((with_reducible refine (HV.out _ _ F.below (F.row m1)).mono ?_); rintro e w1 ⟨rfl, m, rfl⟩; replace F := F.drewN m)) | ((with_reducible refine stop_store rfl ?_)))
  show wpList _ _ _ _ _ _
  refine wpList_storeD rfl rfl rfl (cells := #[.slice none 0 0, .int .i64 0, .int .i64 0, .float .f32 0, .float .f32 0, .float .f32 0, .float .f32 0, .float .f32 0, .int .i64 0, .float .f32 0, .float .f32 0, .float .f32 0, .float .f32 0, .float .f32 0, .float .f32 0]) rfl (F.row m0) infoStr rfl (by simp [Value.oneCell']) (fun w4 K => ?_)
  have R := hid K.row
  have L := hid (F.wr0 K).below
  clear K F
  go_wp2
  exact bodyPost_ret (results_row3 rfl _ _ _ _ _ rfl R.out Try.underlying31 rfl infoStr) rfl ⟨_, _, rfl, .inl ⟨rfl, rfl⟩, by decide, L.out⟩
set_option maxRecDepth 100000 in
set_option maxHeartbeats 4000000 in
theorem s_StepString_yes (B : Nat) (s : Value) (q : StS) (a : Nat) (w : World) (hs : RdS w B s q.x q.n) (ok : q.Ok) (hk : (Lit.int .i64 (q.j : Nat)).wf = true) (hv : okStr q.n (q.j : Nat) 3 q.ta q.tb q.tc q.tx q.ty 2 q.da q.db q.dc q.dx q.dy q.l = true) (ha : fits .f32 a) :
    Calls Try.prog 35 #[.agg #[s, .int .i64 (q.j : Nat), .int .i64 3, .float .f32 (q.ta), .float .f32 (q.tb), .float .f32 (q.tc), .float .f32 (q.tx), .float .f32 (q.ty), .int .i64 2, .float .f32 (q.da), .float .f32 (q.db), .float .f32 (q.dc), .float .f32 (q.dx), .float .f32 (q.dy), .float .f32 (q.l)], .float .f32 a] w (Out_sfi (stepS q a).x (stepS q a).n ((stepS q a).j : Nat) 3 ((stepS q a).ta) ((stepS q a).tb) ((stepS q a).tc) ((stepS q a).tx) ((stepS q a).ty) 2 ((stepS q a).da) ((stepS q a).db) ((stepS q a).dc) ((stepS q a).dx) ((stepS q a).dy) (stepS q a).l (q.x q.j) 0 w) := by
  have HV := hid (fun (w' : World) (g : Nat) (hl : le w w') (R : Row w' g 31 #[s, .int .i64 (q.j : Nat), .int .i64 3, .float .f32 (q.ta), .float .f32 (q.tb), .float .f32 (q.tc), .float .f32 (q.tx), .float .f32 (q.ty), .int .i64 2, .float .f32 (q.da), .float .f32 (q.db), .float .f32 (q.dc), .float .f32 (q.dx), .float .f32 (q.dy), .float .f32 (q.l)]) => hv ▸ s_l03Ok B s q.x q.n (q.j : Nat) 3 q.ta q.tb q.tc q.tx q.ty 2 q.da q.db q.dc q.dx q.dy q.l g w' (hs.le hl) R hk)
  have HCP := hid (fun (w' : World) (g : Nat) (hl : le w w') (R : Row w' g 31 #[s, .int .i64 (q.j : Nat), .int .i64 3, .float .f32 (q.ta), .float .f32 (q.tb), .float .f32 (q.tc), .float .f32 (q.tx), .float .f32 (q.ty), .int .i64 2, .float .f32 (q.da), .float .f32 (q.db), .float .f32 (q.dc), .float .f32 (q.dx), .float .f32 (q.dy), .float .f32 (q.l)]) => s_l03Copy B s q.x q.n (q.j : Nat) 3 q.ta q.tb q.tc q.tx q.ty 2 q.da q.db q.dc q.dx q.dy q.l g w' (hs.le hl) R ok.n1 ok.n2)
  have OK := hid ok
  have n1 := ok.n1
  clear hs hk hv ok
  have F := ((Frg.nil w).box 31 #[s, .int .i64 (q.j : Nat), .int .i64 3, .float .f32 (q.ta), .float .f32 (q.tb), .float .f32 (q.tc), .float .f32 (q.tx), .float .f32 (q.ty), .int .i64 2, .float .f32 (q.da), .float .f32 (q.db), .float .f32 (q.dc), .float .f32 (q.dx), .float .f32 (q.dy), .float .f32 (q.l)]).box 31 #[.slice none 0 0, .int .i64 0, .int .i64 0, .float .f32 0, .float .f32 0, .float .f32 0, .float .f32 0, .float .f32 0, .int .i64 0, .float .f32 0, .float .f32 0, .float .f32 0, .float .f32 0, .float .f32 0, .float .f32 0]
  simp only [World.size_alloc] at F
  go_enter Try.func35, Try.ntmps35
  go_wp2_with (first | (go_at_call 63; ((with_reducible refine (HV.out _ _ F.below (F.row m1)).mono ?_); rintro e w1 ⟨rfl, m, rfl⟩; replace F := F.drewN m)) | (go_at_call 76; ((with_reducible refine (HCP.out _ _ F.below (F.row m1)).mono ?_); rintro e w2 ⟨s', rfl, ho, hl⟩; have OC := hid (OwnS.one ho); replace F := F.own1 hl ho; clear ho hl)) | (refine wpList_storeG F rfl rfl rfl rfl rfl infoStr rfl (one_head OC.out rfl) ?_; clear F; intro W3 F zW; clear zW; replace F := toSp F n1) | (go_at_call 86; ((with_reducible refine (s_l03Step _ _ _ q a _ (Frg.sp F m0) OK.out ha).mono ?_); rintro e w4 ⟨o4, rfl, ho4, fo4, hsp, hch⟩; replace F := F.chg [] (e' := spF _ _ _ (stepS q a)) hch hsp rfl rfl; have HO4 := hid ho4; obtain ⟨s5, lo5, hi5, R5, O5, b1, b2, b3, b4, b5⟩ := hsp; have R5 := hid R5; have O5 := hid O5; have OC5 := hid (OwnS.one O5.out); clear hch ho4)) | ((with_reducible refine at_loadU rfl rfl ?_); (with_reducible refine wpList_loadDR R5.out rfl rfl rfl Try.underlying31 rfl infoStr rfl ?_)) | ((with_reducible refine stop_store (ty := 31) rfl ?_)))
  show wpList _ _ _ _ _ _
  refine wpList_storeD rfl rfl rfl (cells := #[s5, .int .i64 ((stepS q a).j : Nat), .int .i64 3, .float .f32 ((stepS q a).ta), .float .f32 ((stepS q a).tb), .float .f32 ((stepS q a).tc), .float .f32 ((stepS q a).tx), .float .f32 ((stepS q a).ty), .int .i64 2, .float .f32 ((stepS q a).da), .float .f32 ((stepS q a).db), .float .f32 ((stepS q a).dc), .float .f32 ((stepS q a).dx), .float .f32 ((stepS q a).dy), .float .f32 ((stepS q a).l)]) rfl (F.row m1) infoStr rfl (one_head OC5.out rfl) (fun w6 K => ?_)
  have RW := hid K.row
  have f1 := F.facts (spF _ _ _ (stepS q a)) m0
  have f2 := F.facts (rowF (w.heap.size + 1) 31 #[.slice none 0 0, .int .i64 0, .int .i64 0, .float .f32 0, .float .f32 0, .float .f32 0, .float .f32 0, .float .f32 0, .int .i64 0, .float .f32 0, .float .f32 0, .float .f32 0, .float .f32 0, .float .f32 0, .float .f32 0]) m1
  have a1 := (List.pairwise_cons.1 F.apart).1 _ m0
  simp only [rowF, spF] at a1
  have hc : Chg (· = w.heap.size + 1) _ w6 := (Chg.refl _ _).wrote K rfl
  have L := hid (F.wr1 K).below
  have f1' := hid f1.2.1
  have O6 := hid ((OwnS.chgS O5.out hc (fun i h1 h2 h3 => by have h3' : i = w.heap.size + 1 := h3; omega)).mono (lo' := w.heap.size) (hi' := w6.heap.size) (by omega) (Nat.le_trans b4 (Nat.le_trans f1'.out hc.size)))
  clear f1 f2 hc K F
  go_wp2
  exact bodyPost_ret (results_row3 rfl _ _ _ _ _ rfl RW.out Try.underlying31 rfl infoStr) rfl ⟨_, _, rfl, O6.out, HO4.out, L.out⟩
end Go.Proofs.Ytaenbpkcehenkac

/- Strings that go on, plainly. Nothing here names a program. -/
namespace Go.Fk
open Go Go.RowKit
/-- The string behind some steps, in which these samples come. -/
def goS (q : StS) (f : Nat → Nat) : Nat → StS
  | 0 => q
  | k + 1 => stepS (goS q f k) (f k)
/-- What the step with an index makes. -/
def outS (q : StS) (f : Nat → Nat) (k : Nat) : Nat := (goS q f k).x (goS q f k).j
/-- It is valid, and its samples fit. -/
structure StS.Fit (q : StS) : Prop where
  ok : q.Ok
  x : ∀ i, i < q.n → fits .f32 (q.x i)
theorem StS.Fit.j {q : StS} (h : q.Fit) : fits .f32 (q.x q.j) := h.x _ h.ok.j1
theorem StS.Fit.step {q : StS} (h : q.Fit) {a : Nat} : (stepS q a).Fit where
  ok := h.ok.step a h.j
  x := fun i hi => by
    show fits .f32 (pushX q.x q.j (nextS q a) i)
    unfold pushX
    split
    · exact fits_can (fits_nextS q a)
    · exact h.x i hi
theorem StS.Fit.run {q : StS} (h : q.Fit) (f : Nat → Nat) (k : Nat) : (goS q f k).Fit := by
  induction k with
  | zero => exact h
  | succ k ih => exact ih.step
section
variable (q : StS) (f : Nat → Nat) (k : Nat)
theorem goS_n : (goS q f k).n = q.n := by induction k with | zero => rfl | succ k ih => exact ih
theorem goS_ta : (goS q f k).ta = q.ta := by induction k with | zero => rfl | succ k ih => exact ih
theorem goS_tb : (goS q f k).tb = q.tb := by induction k with | zero => rfl | succ k ih => exact ih
theorem goS_tc : (goS q f k).tc = q.tc := by induction k with | zero => rfl | succ k ih => exact ih
theorem goS_da : (goS q f k).da = q.da := by induction k with | zero => rfl | succ k ih => exact ih
theorem goS_db : (goS q f k).db = q.db := by induction k with | zero => rfl | succ k ih => exact ih
theorem goS_dc : (goS q f k).dc = q.dc := by induction k with | zero => rfl | succ k ih => exact ih
theorem goS_l : (goS q f k).l = q.l := by induction k with | zero => rfl | succ k ih => exact ih
end
theorem RdS.fit {w : World} {B : Nat} {s : Value} {x : Nat → Nat} {n : Nat} (h : RdS w B s x n) : ∀ i, i < n → fits .f32 (x i) := by
  rcases h with ⟨_, rfl⟩ | ⟨a, cap, _, _, _, h5⟩
  · intro i hi; omega
  · intro i hi
    obtain ⟨_, y, _, h2, h3⟩ := h5 i hi
    rw [← h3]; exact fits_can h2
/-- The string with all samples and states 0. -/
def muteS (q : StS) : StS := { q with x := fun _ => 0, tx := 0, ty := 0, dx := 0, dy := 0 }
/-- Behind so many steps with 0 it is silent, and not before; or it is not behind K of them. -/
def ResSS (q : StS) (K : Nat) (n code : Int) : Prop :=
  (∃ m : Nat, n = m ∧ code = 0 ∧ m ≤ K ∧ silS (goS q (fun _ => 0) m) = true ∧ ∀ i, i < m → silS (goS q (fun _ => 0) i) = false) ∨ (n = 0 ∧ code = 7 ∧ ∀ i, i ≤ K → silS (goS q (fun _ => 0) i) = false)
theorem ResSS.one {q : StS} {K : Nat} {n d n' d' : Int} (h : ResSS q K n d) (h' : ResSS q K n' d') : n = n' ∧ d = d' := by
  rcases h with ⟨m, rfl, rfl, h1, h2, h3⟩ | ⟨rfl, rfl, h3⟩ <;> rcases h' with ⟨m', rfl, rfl, h1', h2', h3'⟩ | ⟨rfl, rfl, h3'⟩
  · rcases Nat.lt_trichotomy m m' with h | h | h
    · have := h3' m h; rw [h2] at this; cases this
    · subst h; exact ⟨rfl, rfl⟩
    · have := h3 m' h; rw [h2'] at this; cases this
  · have := h3' m h1; rw [h2] at this; cases this
  · have := h3 m' h1'; rw [h2'] at this; cases this
  · exact ⟨rfl, rfl⟩
theorem ResSS.ex (q : StS) (K : Nat) : ∃ n d, ResSS q K n d := by
  have key : (∃ m, m ≤ K ∧ silS (goS q (fun _ => 0) m) = true ∧ ∀ i, i < m → silS (goS q (fun _ => 0) i) = false) ∨ ∀ i, i ≤ K → silS (goS q (fun _ => 0) i) = false := by
    induction K with
    | zero =>
      cases h : silS (goS q (fun _ => 0) 0)
      · exact .inr (fun i hi => by obtain rfl : i = 0 := by omega
                                   exact h)
      · exact .inl ⟨0, Nat.le_refl _, h, fun i hi => absurd hi (by omega)⟩
    | succ K ih =>
      rcases ih with ⟨m, h1, h2, h3⟩ | h1
      · exact .inl ⟨m, by omega, h2, h3⟩
      · cases h : silS (goS q (fun _ => 0) (K + 1))
        · exact .inr (fun i hi => by
            rcases Nat.lt_or_ge i (K + 1) with h2 | h2
            · exact h1 i (by omega)
            · obtain rfl : i = K + 1 := by omega
              exact h)
        · exact .inl ⟨K + 1, Nat.le_refl _, h, fun i hi => h1 i (by omega)⟩
  rcases key with ⟨m, h1, h2, h3⟩ | h1
  · exact ⟨m, 0, .inl ⟨m, rfl, rfl, h1, h2, h3⟩⟩
  · exact ⟨0, 7, .inr ⟨rfl, rfl, h1⟩⟩
end Go.Fk

/- Cells of slices that one may write. Nothing here names a program. -/
namespace Go.Fk
open Go Go.RowKit
theorem OwnS.form {w : World} {lo hi n : Nat} {s : Value} {x : Nat → Nat} (h : OwnS w lo hi s x n) (hn : 1 ≤ n) : ∃ b o cap, s = .slice (some ⟨b, o, none⟩) n cap ∧ n ≤ cap ∧ cap ≤ maxLen ∧ lo ≤ b ∧ b < hi := by
  rcases h with ⟨_, rfl⟩ | ⟨b, o, cap, cs, h1, h2, h3, h4, h5, _⟩
  · omega
  · exact ⟨b, o, cap, h1, h2, h3, h4, h5⟩
theorem OwnS.at {w : World} {lo hi b o n cap : Nat} {x : Nat → Nat} (h : OwnS w lo hi (.slice (some ⟨b, o, none⟩) n cap) x n) {i : Nat} (hi' : i < n) : ∃ y, w.cell? ⟨b, o + i, none⟩ = some (.float .f32 y) ∧ w.frozen? ⟨b, o + i, none⟩ = false ∧ fits .f32 y ∧ can .f32 y = x i := by
  rcases h with ⟨h0, _⟩ | ⟨b', o', cap', cs, h1, h2, h3, h4, h5, h6, h7⟩
  · cases h0
  · simp only [Value.slice.injEq, Option.some.injEq, Addr.mk.injEq, and_true, true_and] at h1
    obtain ⟨⟨rfl, rfl⟩, rfl⟩ := h1
    obtain ⟨y, e1, e2, e3⟩ := h7 i hi'
    exact ⟨y, (h6.cell? (o + i)).trans e1, h6.frozen (o + i), e2, e3⟩
theorem OwnS.set {w : World} {lo hi b o n cap : Nat} {x : Nat → Nat} (h : OwnS w lo hi (.slice (some ⟨b, o, none⟩) n cap) x n) {i a : Nat} (hi' : i < n) (ha : fits .f32 a) :
    OwnS (w.setCell ⟨b, o + i, none⟩ (.float .f32 a)) lo hi (.slice (some ⟨b, o, none⟩) n cap) (pushX x i a) n ∧ Chg (rng lo hi) w (w.setCell ⟨b, o + i, none⟩ (.float .f32 a)) := by
  rcases h with ⟨h0, _⟩ | ⟨b', o', cap', cs, h1, h2, h3, h4, h5, h6, h7⟩
  · cases h0
  · simp only [Value.slice.injEq, Option.some.injEq, Addr.mk.injEq, and_true, true_and] at h1
    obtain ⟨⟨rfl, rfl⟩, rfl⟩ := h1
    refine ⟨.inr ⟨b, o, cap, cs.setIfInBounds (o + i) (.float .f32 a), rfl, h2, h3, h4, h5, h6.set _ _, fun j hj => ?_⟩, (Chg.refl _ _).setCell (a := ⟨b, o + i, none⟩) ⟨h4, h5⟩ _⟩
    obtain ⟨y0, e0, _⟩ := h7 i hi'
    have hlt : o + i < cs.size := (Array.getElem?_eq_some_iff.1 e0).1
    by_cases e : j = i
    · subst e
      exact ⟨a, by simp [hlt], ha, by simp [pushX]⟩
    · obtain ⟨y, e1, e2, e3⟩ := h7 j hj
      exact ⟨y, by rw [Array.getElem?_setIfInBounds_ne (by omega)]; exact e1, e2, by simp [pushX, e, e3]⟩
namespace Frg
variable {w0 w w' : World}
theorem chg0 {e e' : Fact} {post : List Fact} (h : Frg w0 w (e :: post)) (k : Chg (rng e.lo e.hi) w w') (hp : e'.p w') (h1 : e'.lo = e.lo) (h2 : e'.hi = e.hi) : Frg w0 w' (e' :: post) := chg [] h k hp h1 h2
theorem chg1 {b0 e e' : Fact} {post : List Fact} (h : Frg w0 w (b0 :: e :: post)) (k : Chg (rng e.lo e.hi) w w') (hp : e'.p w') (h1 : e'.lo = e.lo) (h2 : e'.hi = e.hi) : Frg w0 w' (b0 :: e' :: post) := chg [b0] h k hp h1 h2
end Frg
/-- The first k samples are 0. -/
def zeroTo (k : Nat) (x : Nat → Nat) : Nat → Nat := fun i => if i < k then 0 else x i
theorem zeroTo_0 (x : Nat → Nat) : zeroTo 0 x = x := by funext i; simp [zeroTo]
theorem zeroTo_s (k : Nat) (x : Nat → Nat) : pushX (zeroTo k x) k 0 = zeroTo (k + 1) x := by
  funext i
  unfold pushX zeroTo
  by_cases e : i = k
  · subst e; simp; decide
  · by_cases l : i < k
    · simp [e, l, show i < k + 1 by omega]
    · simp [e, l, show ¬ i < k + 1 by omega]
end Go.Fk

/- Regions that draw: a new row, the length of a slice. Nothing here names a program. -/
namespace Go.Fk
open Go Go.RowKit
section
variable {P : Program} {ops : Array Oper} {W : World} {K : FuncId → Array Value → World → Value → Prop} {Q : Act → World → Prop} {F : World → Prop} {o : Oper} {rest : List Oper} {a : Act}
/-- A new row is made. -/
theorem wpFree_made (hg : o.guard = none) (f : Nat → Value) (t : TypeId) (cs : Array Value)
    (hr : ∀ w, (execOp a.eval o).run P w = .ok (.value (f w.heap.size)) (w.alloc (.cells cs t)))
    (h : ∀ b, W.heap.size ≤ b → wpFree P ops W K Q rest (a.put o.dst (f b)) (fun w => F w ∧ ∃ b', f b = f b' ∧ W.heap.size ≤ b' ∧ Row w b' t cs)) : wpFree P ops W K Q (o :: rest) a F := by
  refine ⟨fun w v => ∃ b, v = f b ∧ W.heap.size ≤ b ∧ Row w b t cs, ⟨fun v w w' hl h => ?_, .inl ⟨by simp [Region.wanted, hg], fun w hw => ?_⟩⟩, fun v hv => ?_⟩
  · obtain ⟨b, e, h1, h2⟩ := h; exact ⟨b, e, h1, h2.le hl⟩
  · rw [hr]
    exact ⟨le_alloc w _, w.heap.size, rfl, Below.size hw, Row.new w t cs⟩
  · obtain ⟨w, _, b, rfl, hb, _⟩ := hv
    exact h b hb
theorem wpFree_len (hg : o.guard = none) {x : Operand} {t : TypeId} (hop : o.op = Op.call { callee := Callee.builtin Builtin.len, args := #[x], argTypes := #[t] }) {e : TypeId} (hu : P.underlying t = some (.slice e)) {ao : Option Addr} {n c : Nat} (hx : a.eval x = .slice ao n c)
    (h : wpFree P ops W K Q rest (a.put o.dst (.int .i64 n)) F) : wpFree P ops W K Q (o :: rest) a F := by
  refine wpFree_one hg (.int .i64 n) (fun w _ => ?_) h
  simp [execOp, hop, hx, Result.andThen, resolve, invoke, builtin, Builtin.len_, run_underlying hu]
  rfl
end
end Go.Fk

/- Numbers that are added to the samples of a ring: 'l03Add'. -/
namespace Go.Fk
open Go Go.RowKit
/-- A ring's samples behind a number that is added to the one with the index j. -/
def addX (x : Nat → Nat) (j a : Nat) : Nat → Nat := fun i => if i = j then fop .add .f32 (x i) a else x i
theorem addX_of {x : Nat → Nat} {j a y r : Nat} (hy : can .f32 y = x j) (hr : can .f32 r = fop .add .f32 y a) : pushX x j r = addX x j a := by
  funext i
  unfold pushX addX
  by_cases e : i = j
  · subst e
    rw [if_pos rfl, if_pos rfl, hr, ← hy, fop_can_l]
  · rw [if_neg e, if_neg e]
theorem addX_can {x : Nat → Nat} {j a b : Nat} (h : can .f32 a = can .f32 b) : addX x j a = addX x j b := by
  funext i
  unfold addX
  split
  · rw [← fop_can_r, h, fop_can_r]
  · rfl
/-- Some numbers are added, from the oldest sample but 'fr' on. -/
def addN (x : Nat → Nat) (n j : Nat) (v : Nat → Nat) (fr : Nat) : Nat → (Nat → Nat)
  | 0 => x
  | k + 1 => addX (addN x n j v fr k) ((j + (fr + k)) % n) (v (fr + k))
theorem addN_congr {x : Nat → Nat} {n j fr : Nat} {v v' : Nat → Nat} {k : Nat} (h : ∀ i, i < k → can .f32 (v (fr + i)) = can .f32 (v' (fr + i))) : addN x n j v fr k = addN x n j v' fr k := by
  induction k with
  | zero => rfl
  | succ k ih =>
    unfold addN
    rw [ih (fun i hi => h i (by omega))]
    funext i
    unfold addX
    split
    · rw [← fop_can_r, h k (by omega), fop_can_r]
    · rfl
end Go.Fk
namespace Go.Proofs.Ytaenbpkcehenkac
open Go.RowKit Go.Fk
set_option maxRecDepth 100000 in
set_option maxHeartbeats 2000000 in
theorem s_l03Add (lo hi : Nat) (s : Value) (x : Nat → Nat) (n j k a g f : Nat) (t : TypeId) (cs : Array Value) (w : World) (hs : OwnS w lo hi s x n) (hr : Row w g t cs) (e0 : cs[f]? = some s) (e1 : cs[f + 1]? = some (.int .i64 j)) (hg : ¬ (lo ≤ g ∧ g < hi)) (hj : j < n) (hk : k < n) (hn : n ≤ 1024) (ha : fits .f32 a) :
    Calls Try.prog 77 #[.pointer (some ⟨g, f, none⟩), .int .i64 k, .float .f32 a] w fun e w' => e = .returned (.tuple #[]) ∧ Row w' g t cs ∧ OwnS w' lo hi s (addX x ((j + k) % n) a) n ∧ Chg (rng lo hi) w w' := by
  obtain ⟨b, o, cap, rfl, hc, hm, hb, hb'⟩ := hs.form (by omega)
  have hm2 : (j + k) % n < n := Nat.mod_lt _ (by omega)
  obtain ⟨y, cy, fy, fity, ey⟩ := hs.at hm2
  have c0 : w.cell? ⟨g, f, none⟩ = some (.slice (some ⟨b, o, none⟩) n cap) := (hr.cell? f).trans e0
  have c1 : w.cell? ⟨g, f + 1, none⟩ = some (.int .i64 j) := (hr.cell? (f + 1)).trans e1
  have HE1 : Hid (((j : Int) + k) % n = (((j + k) % n : Nat) : Int)) := by unfold Hid; rw [Int.natCast_emod]; rfl
  have HS := hid (fun (w' : World) (hl : le w w') (r : Nat) (fr : fits .f32 r) => (hs.le hl).set hm2 fr)
  have HR := hid hr; have HY := hid ey; have HM := hid hm2
  clear hs hr e0 e1 ey fity
  unfold maxLen at hm
  generalize hJ : (j + k) % n = J at *
  clear hJ
  go_enter Try.func77, Try.ntmps77
  go_wp2_with fail
  refine wp_region_loose (fun _ _ _ => True) (by kernel_rfl) (by kernel_rfl) ?_
  repeat (first | (refine wpLoose_quiet rfl ?_; go_big_quiet_step (fail); refine wpQuiet_nil ?_) | (refine wpLoose_nilP rfl rfl rfl ?_; simp only [Act.put, List.setIfInBounds_toArray, List.set_cons_succ, List.set_cons_zero]) | (refine wpLoose_len rfl rfl Try.underlying23 rfl ?_; simp only [Act.put, List.setIfInBounds_toArray, List.set_cons_succ, List.set_cons_zero]))
  refine wpLoose_nil (fun m1 => ?_)
  rw [HE1.out]
  go_wp2_with fail
  have hJn := HM.out
  refine wp_region_tail (fun _ _ _ => True) 15 (by kernel_rfl) (by kernel_rfl) ?_; simp only [List.take_succ_cons, List.take_zero, List.drop_succ_cons, List.drop_zero]
  repeat (first | (with_reducible refine wpLoose_farith rfl rfl rfl rfl rfl ?_; intro r hrr hf; simp only [Act.put, List.setIfInBounds_toArray, List.set_cons_succ, List.set_cons_zero]) | (refine wpLoose_quiet rfl ?_; go_big_quiet_step (fail); refine wpQuiet_nil ?_) | (refine wpLoose_nilP rfl rfl rfl ?_; simp only [Act.put, List.setIfInBounds_toArray, List.set_cons_succ, List.set_cons_zero]))
  refine wpLoose_nil (fun m2 => ?_)
  go_wp2
  refine bodyPost_end (results_none rfl _ _ _) rfl ?_
  have h := HS.out (w.drewN (m1 + m2)) (le_drewN _ _) r hf.out
  rw [addX_of HY.out hrr.out] at h
  exact ⟨rfl, ((HR.out.drewN _).other ⟨b, o + J, none⟩ _ (by intro e; exact hg (e ▸ ⟨hb, hb'⟩))), h.1, (Chg.of_le (le_drewN _ _)).trans h.2⟩
end Go.Proofs.Ytaenbpkcehenkac

/- How an argument that is a struct of a ring, two filters and a float is opened. Nothing here names a program. -/
namespace Go.Fk
open Go Go.RowKit Go.ChangeShapes
section
variable {H : Type} {enc : TypeId × Value → H} {P : Program} {w : World} {base : Nat} {spare : Nat → Bool} {held : Bool}
theorem trod_ring {t t0 t1 e : TypeId} {f0 f1 : Field} {fuel : Nat} {cs : List Value} {x : DataW H × List MemPlace} (ht : P.underlying t = some (.struct #[f0, f1]))
    (e0 : (f0.type, f0.offset) = (t0, 0)) (e1 : (f1.type, f1.offset) = (t1, 1))
    (h0 : P.underlying t0 = some (.slice e)) (h1 : P.underlying t1 = some (.int .i64)) (he : P.underlying e = some (.float .f32))
    (c0 : P.cellsOf t0 = 1) (c1 : P.cellsOf t1 = 1) (ce : P.cellsOf e = 1) (ct : P.cellsOf t = 2) (hf : DataW.trod enc P w base spare held fuel t cs = some x) :
    ∃ (s : Value) (f : Nat → Nat) (n : Nat) (k : Int), cs = [s, .int .i64 k] ∧ (Lit.int .i64 k).wf = true ∧ SlIn w s f n := by
  obtain ⟨xs, m, _, _, hlen, hl, hi⟩ := DataW.trod_struct ht hf
  simp only [Prod.mk.injEq] at e0 e1
  have g0 := hi 0 f0 rfl
  have g1 := hi 1 f1 rfl
  rw [e0.1, e0.2, c0] at g0
  rw [e1.1, e1.2, c1] at g1
  rw [List.getElem?_eq_getElem (by simp_all)] at g0 g1
  have hlen : cs.length = 2 := hlen.trans ct
  match cs, hlen with
  | [v0, v1], _ =>
    simp only [List.drop_zero, List.drop_succ_cons, List.take_succ_cons, List.take_zero] at g0 g1
    obtain ⟨s, f, n, hs, hsl⟩ := trod_fslice h0 he ce g0
    obtain ⟨k, rfl, hk⟩ := trod_int_cell h1 g1
    simp only [List.cons.injEq, and_true] at hs
    subst hs
    exact ⟨_, f, n, k, rfl, hk, hsl⟩
theorem trod_filter {t t0 t1 t2 e : TypeId} {f0 f1 f2 : Field} {fuel : Nat} {cs : List Value} {x : DataW H × List MemPlace} (ht : P.underlying t = some (.struct #[f0, f1, f2]))
    (e0 : (f0.type, f0.offset) = (t0, 0)) (e1 : (f1.type, f1.offset) = (t1, 1)) (e2 : (f2.type, f2.offset) = (t2, 4))
    (h0 : P.underlying t0 = some (.int .i64)) (h1 : P.underlying t1 = some (.array 3 e)) (h2 : P.underlying t2 = some (.array 2 e)) (he : P.underlying e = some (.float .f32))
    (c0 : P.cellsOf t0 = 1) (c1 : P.cellsOf t1 = 3) (c2 : P.cellsOf t2 = 2) (ce : P.cellsOf e = 1) (ct : P.cellsOf t = 6) (hf : DataW.trod enc P w base spare held fuel t cs = some x) :
    ∃ (k : Int) (a b c x y : Nat), cs = [.int .i64 k, .float .f32 a, .float .f32 b, .float .f32 c, .float .f32 x, .float .f32 y] ∧ (Lit.int .i64 k).wf = true ∧ fits .f32 a ∧ fits .f32 b ∧ fits .f32 c ∧ fits .f32 x ∧ fits .f32 y := by
  obtain ⟨xs, m, _, _, hlen, hl, hi⟩ := DataW.trod_struct ht hf
  simp only [Prod.mk.injEq] at e0 e1 e2
  have g0 := hi 0 f0 rfl
  have g1 := hi 1 f1 rfl
  have g2 := hi 2 f2 rfl
  rw [e0.1, e0.2, c0] at g0
  rw [e1.1, e1.2, c1] at g1
  rw [e2.1, e2.2, c2] at g2
  rw [List.getElem?_eq_getElem (by simp_all)] at g0 g1 g2
  have hlen : cs.length = 6 := hlen.trans ct
  obtain ⟨l1, q1, n1, p1⟩ := trod_farr h1 he ce c1 g1
  obtain ⟨l2, q2, n2, p2⟩ := trod_farr h2 he ce c2 g2
  match cs, hlen, l1, n1, l2, n2 with
  | [v0, v1, v2, v3, v4, v5], _, [a, b, c], _, [x, y], _ =>
    simp only [List.drop_zero, List.drop_succ_cons, List.take_succ_cons, List.take_zero, List.map_cons, List.map_nil, List.cons.injEq, and_true] at q1 q2 g0
    obtain ⟨rfl, rfl, rfl⟩ := q1
    obtain ⟨rfl, rfl⟩ := q2
    obtain ⟨k, rfl, hk⟩ := trod_int_cell h0 g0
    exact ⟨k, a, b, c, x, y, rfl, hk, p1 _ (by simp), p1 _ (by simp), p1 _ (by simp), p2 _ (by simp), p2 _ (by simp)⟩
theorem open_str {r : Reach} {b0 : Nat} {t tr tf te : TypeId} {f0 f1 f2 f3 : Field} {v : Value} {d : DataW H} {ps : List MemPlace} (ht : P.underlying t = some (.struct #[f0, f1, f2, f3]))
    (e0 : (f0.type, f0.offset) = (tr, 0)) (e1 : (f1.type, f1.offset) = (tf, 2)) (e2 : (f2.type, f2.offset) = (tf, 8)) (e3 : (f3.type, f3.offset) = (te, 14))
    (hr : ∀ fuel cs (x : DataW H × List MemPlace), DataW.trod enc P w base spare held fuel tr cs = some x → ∃ (s : Value) (f : Nat → Nat) (n : Nat) (k : Int), cs = [s, .int .i64 k] ∧ (Lit.int .i64 k).wf = true ∧ SlIn w s f n)
    (hfil : ∀ fuel cs (x : DataW H × List MemPlace), DataW.trod enc P w base spare held fuel tf cs = some x → ∃ (k : Int) (a b c x y : Nat), cs = [.int .i64 k, .float .f32 a, .float .f32 b, .float .f32 c, .float .f32 x, .float .f32 y] ∧ (Lit.int .i64 k).wf = true ∧ fits .f32 a ∧ fits .f32 b ∧ fits .f32 c ∧ fits .f32 x ∧ fits .f32 y)
    (he : P.underlying te = some (.float .f32)) (cr : P.cellsOf tr = 2) (cf : P.cellsOf tf = 6) (ce : P.cellsOf te = 1) (ct : P.cellsOf t = 15)
    (hval : Value.okWide P w r b0 t v) (hd : DataW.Trod enc P w base spare held t v d ps) :
    ∃ (s : Value) (f : Nat → Nat) (n : Nat) (k tk : Int) (ta tb tc tx ty : Nat) (dk : Int) (da db dc dx dy l : Nat), v = .agg #[s, .int .i64 k, .int .i64 tk, .float .f32 ta, .float .f32 tb, .float .f32 tc, .float .f32 tx, .float .f32 ty, .int .i64 dk, .float .f32 da, .float .f32 db, .float .f32 dc, .float .f32 dx, .float .f32 dy, .float .f32 l] ∧
      ((Lit.int .i64 k).wf = true ∧ (Lit.int .i64 tk).wf = true ∧ fits .f32 ta ∧ fits .f32 tb ∧ fits .f32 tc ∧ fits .f32 tx ∧ fits .f32 ty ∧ (Lit.int .i64 dk).wf = true ∧ fits .f32 da ∧ fits .f32 db ∧ fits .f32 dc ∧ fits .f32 dx ∧ fits .f32 dy ∧ fits .f32 l) ∧ SlIn w s f n := by
  simp only [Value.okWide, ht] at hval
  obtain ⟨cs, rfl, hsz, _⟩ := hval
  obtain ⟨fuel, hf⟩ := hd
  simp only [Value.cells] at hf
  obtain ⟨xs, m, _, _, hlen, hl, hi⟩ := DataW.trod_struct ht hf
  simp only [Prod.mk.injEq] at e0 e1 e2 e3
  have g0 := hi 0 f0 rfl
  have g1 := hi 1 f1 rfl
  have g2 := hi 2 f2 rfl
  have g3 := hi 3 f3 rfl
  rw [e0.1, e0.2, cr] at g0
  rw [e1.1, e1.2, cf] at g1
  rw [e2.1, e2.2, cf] at g2
  rw [e3.1, e3.2, ce] at g3
  rw [List.getElem?_eq_getElem (by simp_all)] at g0 g1 g2 g3
  have hlen : cs.toList.length = 15 := hlen.trans ct
  obtain ⟨s, f, n, k, q0, w0, z0⟩ := hr _ _ _ g0
  obtain ⟨tk, ta, tb, tc, tx, ty, q1, w1⟩ := hfil _ _ _ g1
  obtain ⟨dk, da, db, dc, dx, dy, q2, w2⟩ := hfil _ _ _ g2
  obtain ⟨l⟩ := cs
  simp only at *
  match l, hlen with
  | [v0, v1, v2, v3, v4, v5, v6, v7, v8, v9, v10, v11, v12, v13, v14], _ =>
    simp only [List.drop_zero, List.drop_succ_cons, List.take_succ_cons, List.take_zero, List.cons.injEq, and_true] at q0 q1 q2 g3
    obtain ⟨rfl, rfl⟩ := q0
    obtain ⟨rfl, rfl, rfl, rfl, rfl, rfl⟩ := q1
    obtain ⟨rfl, rfl, rfl, rfl, rfl, rfl⟩ := q2
    obtain ⟨lo, rfl, hlo⟩ := trod_float_cell he g3
    exact ⟨_, f, n, k, tk, ta, tb, tc, tx, ty, dk, da, db, dc, dx, dy, lo, rfl, ⟨w0, w1.1, w1.2.1, w1.2.2.1, w1.2.2.2.1, w1.2.2.2.2.1, w1.2.2.2.2.2, w2.1, w2.2.1, w2.2.2.1, w2.2.2.2.1, w2.2.2.2.2.1, w2.2.2.2.2.2, hlo⟩, z0⟩
end
end Go.Fk

/- Laws for operations that are guarded and wanted. Nothing here names a program. -/
namespace Go.Fk
open Go Go.RowKit
section
variable {P : Program} {w : World} {ops : Array Oper} {rest : List Oper} {o : Oper} {a : Act} {Q : Exit → Act → World → Prop}
theorem wpList_wanted (hw : Region.wanted o (yielded ops a.tmps) = true) (h : ∀ K : Act → World → Prop, (∀ a w, wpList P ops Q rest a w → K a w) → o.wp P a w K Q) : wpList P ops Q (o :: rest) a w :=
  wpList_step fun K hK => by simp only [hw, if_true]; exact h K hK
theorem wpList_widenG {src dst : TypeId} {x : Operand} (hop : o.op = Op.convert src dst x) {b : Nat} (hx : a.eval x = .float .f32 b)
    (hs : P.underlying src = some (.float .f32)) (hd : P.underlying dst = some (.float .f64)) (hw : Region.wanted o (yielded ops a.tmps) = true)
    (hK : ∀ r n, Hid (can .f64 r = can .f64 (widen b)) → Hid (fits .f64 r) → wpList P ops Q rest (a.put o.dst (.float .f64 r)) (w.drewN n)) : wpList P ops Q (o :: rest) a w := by
  refine wpList_wanted hw fun K hK' => ?_
  obtain ⟨r, n, hrun, hr, hf⟩ := run_widen (P := P) w src dst b hs hd
  unfold Oper.wp
  simp [execOp, hop, hx, hrun, Result.andThen]
  exact hK' _ _ (hK r n hr hf)
end
end Go.Fk

/- 'IsSilentString' of both. -/
namespace Go.Proofs.Ytaenbpkcehenkac
open Go.RowKit Go.Fk
set_option maxRecDepth 100000 in
set_option maxHeartbeats 4000000 in
theorem s_l03Silent (B : Nat) (s : Value) (q : StS) (g : Nat) (w : World) (hs : RdS w B s q.x q.n) (R : Row w g 31 #[s, .int .i64 (q.j : Nat), .int .i64 3, .float .f32 (q.ta), .float .f32 (q.tb), .float .f32 (q.tc), .float .f32 (q.tx), .float .f32 (q.ty), .int .i64 2, .float .f32 (q.da), .float .f32 (q.db), .float .f32 (q.dc), .float .f32 (q.dx), .float .f32 (q.dy), .float .f32 (q.l)]) (n1 : 1 ≤ q.n) (n2 : q.n ≤ 1024) :
    Calls Try.prog 91 #[.pointer (some ⟨g, 0, none⟩)] w fun e w' => e = .returned (.bool (silS q)) ∧ ∃ m, w' = w.drewN m := by
  obtain ⟨a, cap, y, rfl, hc, hm, hx⟩ := hs.raw n1
  unfold maxLen at hm
  have HX := hid hx
  clear hx hs
  have c0 := R.cell? 0
  have HT := hid (fun m => s_l02StillAt q.tx q.ty g 2 (w.drewN m) ((R.drewN m).cell? 6) ((R.drewN m).cell? 7))
  have HD := hid (fun m => s_l02StillAt q.dx q.dy g 8 (w.drewN m) ((R.drewN m).cell? 12) ((R.drewN m).cell? 13))
  have hs : silS q = (decide (loudN q.x q.n = 0) && (stillB q.tx q.ty && stillB q.dx q.dy)) := rfl
  rw [hs]
  go_enter Try.func91, Try.ntmps91
  go_wp2
  go_loopw [3] (fun i wr => ∃ k : Nat, k ≤ q.n ∧ i = .int .i64 k ∧ (∃ m, wr = w.drewN m) ∧ Hid (∀ i, i < k → zeroF (q.x i) = true)) (fun i _ => q.n - (intOf i).toNat)
  case atStart => exact ⟨0, by omega, rfl, ⟨0, rfl⟩, fun i hi => absurd hi (by omega)⟩
  case round =>
    obtain ⟨k, hk, rfl, ⟨m, rfl⟩, HK⟩ := hrel
    by_cases hlt : k < q.n
    · obtain ⟨ck, fk, ek⟩ := HX.out k hlt
      have HZ : Hid (zeroF (y k) = zeroF (q.x k)) := by unfold Hid; rw [← ek, zeroF_can]
      clear ek
      cases hz : zeroF (y k)
      · have HN : Hid (loudN q.x q.n ≠ 0) := by
          intro h
          have := loudN_zero.1 h k hlt
          rw [← HZ.out, hz] at this; cases this
        unfold zeroF at hz
        have h2 : (FloatKind.f32.format.order (y k) 0 != some .eq) = !(FloatKind.f32.format.order (y k) 0 == some .eq) := rfl
        rw [hz] at h2
        replace h2 := h2.trans (show _ = true from rfl)
        go_wp2
        go_ret
        exact ⟨ret_b (by simp [HN.out]), _, rfl⟩
      · have HZ2 : Hid (zeroF (q.x k) = true) := HZ.out.symm.trans hz
        unfold zeroF at hz
        have h2 : (FloatKind.f32.format.order (y k) 0 != some .eq) = !(FloatKind.f32.format.order (y k) 0 == some .eq) := rfl
        rw [hz] at h2
        replace h2 := h2.trans (show _ = false from rfl)
        go_wp2
        go_roundw
        case rel => exact ⟨k + 1, by omega, by go_num, ⟨_, rfl⟩, all_step (p := fun j => zeroF (q.x j) = true) HK.out HZ2.out⟩
        case measure => simp [intOf]; omega
    · obtain rfl : k = q.n := by omega
      have h0 : loudN q.x q.n = 0 := loudN_zero.2 HK.out
      replace h0 := hid h0
      cases h1 : stillB q.tx q.ty
      · rw [h1] at HT
        replace h1 := hid h1
        clear HD hs
        go_wp2_with (first | (go_at_call 121; ((with_reducible refine (HT.out _).mono ?_); rintro e w' ⟨rfl, rfl⟩)))
        go_ret
        exact ⟨ret_b (by simp [h1.out]), _, rfl⟩
      · rw [h1] at HT
        replace h1 := hid h1
        clear hs
        go_wp2_with (first | (go_at_call 121; first | ((with_reducible refine (HT.out _).mono ?_); rintro e w' ⟨rfl, rfl⟩) | ((with_reducible refine (HD.out _).mono ?_); rintro e w' ⟨rfl, rfl⟩)))
        go_ret
        exact ⟨ret_b (by simp [h0.out, h1.out]), _, rfl⟩
set_option maxRecDepth 100000 in
set_option maxHeartbeats 4000000 in
theorem s_IsSilentString_no (B : Nat) (s : Value) (x : Nat → Nat) (n : Nat) (k tk : Int) (ta tb tc tx ty : Nat) (dk : Int) (da db dc dx dy l : Nat) (w : World) (hs : RdS w B s x n) (hk : (Lit.int .i64 k).wf = true) (hv : okStr n k tk ta tb tc tx ty dk da db dc dx dy l = false) :
    Calls Try.prog 47 #[.agg #[s, .int .i64 k, .int .i64 tk, .float .f32 ta, .float .f32 tb, .float .f32 tc, .float .f32 tx, .float .f32 ty, .int .i64 dk, .float .f32 da, .float .f32 db, .float .f32 dc, .float .f32 dx, .float .f32 dy, .float .f32 l]] w (Out_bi false 1 w) := by
  have HV := hid (fun (w' : World) (g : Nat) (hl : le w w') (R : Row w' g 31 #[s, .int .i64 k, .int .i64 tk, .float .f32 ta, .float .f32 tb, .float .f32 tc, .float .f32 tx, .float .f32 ty, .int .i64 dk, .float .f32 da, .float .f32 db, .float .f32 dc, .float .f32 dx, .float .f32 dy, .float .f32 l]) => hv ▸ s_l03Ok B s x n k tk ta tb tc tx ty dk da db dc dx dy l g w' (hs.le hl) R hk)
  clear hs hk hv
  have F := ((Frg.nil w).box 31 #[s, .int .i64 k, .int .i64 tk, .float .f32 ta, .float .f32 tb, .float .f32 tc, .float .f32 tx, .float .f32 ty, .int .i64 dk, .float .f32 da, .float .f32 db, .float .f32 dc, .float .f32 dx, .float .f32 dy, .float .f32 l])
  go_enter Try.func47, Try.ntmps47
  go_wp2_with (first | (go_at_call 63; ((with_reducible refine (HV.out _ _ F.below (F.row (by first | exact m0 | exact m1 | exact m2 | exact m3 | exact m4 | exact m5))).mono ?_); rintro e w1 ⟨rfl, m, rfl⟩; replace F := F.drewN m)))
  go_ret2
  first | exact ⟨rfl, F.below⟩ | exact ⟨rfl, by rw [← World.drewN_drewN]; exact F.below⟩
set_option maxRecDepth 100000 in
set_option maxHeartbeats 4000000 in
theorem s_IsSilentString_yes (B : Nat) (s : Value) (q : StS) (w : World) (hs : RdS w B s q.x q.n) (ok : q.Ok) (hk : (Lit.int .i64 (q.j : Nat)).wf = true) (hv : okStr q.n (q.j : Nat) 3 q.ta q.tb q.tc q.tx q.ty 2 q.da q.db q.dc q.dx q.dy q.l = true) :
    Calls Try.prog 47 #[.agg #[s, .int .i64 (q.j : Nat), .int .i64 3, .float .f32 (q.ta), .float .f32 (q.tb), .float .f32 (q.tc), .float .f32 (q.tx), .float .f32 (q.ty), .int .i64 2, .float .f32 (q.da), .float .f32 (q.db), .float .f32 (q.dc), .float .f32 (q.dx), .float .f32 (q.dy), .float .f32 (q.l)]] w (Out_bi (silS q) 0 w) := by
  have HV := hid (fun (w' : World) (g : Nat) (hl : le w w') (R : Row w' g 31 #[s, .int .i64 (q.j : Nat), .int .i64 3, .float .f32 (q.ta), .float .f32 (q.tb), .float .f32 (q.tc), .float .f32 (q.tx), .float .f32 (q.ty), .int .i64 2, .float .f32 (q.da), .float .f32 (q.db), .float .f32 (q.dc), .float .f32 (q.dx), .float .f32 (q.dy), .float .f32 (q.l)]) => hv ▸ s_l03Ok B s q.x q.n (q.j : Nat) 3 q.ta q.tb q.tc q.tx q.ty 2 q.da q.db q.dc q.dx q.dy q.l g w' (hs.le hl) R hk)
  have HSL := hid (fun (w' : World) (g : Nat) (hl : le w w') (R : Row w' g 31 #[s, .int .i64 (q.j : Nat), .int .i64 3, .float .f32 (q.ta), .float .f32 (q.tb), .float .f32 (q.tc), .float .f32 (q.tx), .float .f32 (q.ty), .int .i64 2, .float .f32 (q.da), .float .f32 (q.db), .float .f32 (q.dc), .float .f32 (q.dx), .float .f32 (q.dy), .float .f32 (q.l)]) => s_l03Silent B s q g w' (hs.le hl) R ok.n1 ok.n2)
  clear hs hk hv ok
  have F := ((Frg.nil w).box 31 #[s, .int .i64 (q.j : Nat), .int .i64 3, .float .f32 (q.ta), .float .f32 (q.tb), .float .f32 (q.tc), .float .f32 (q.tx), .float .f32 (q.ty), .int .i64 2, .float .f32 (q.da), .float .f32 (q.db), .float .f32 (q.dc), .float .f32 (q.dx), .float .f32 (q.dy), .float .f32 (q.l)])
  go_enter Try.func47, Try.ntmps47
  go_wp2_with (first | (go_at_call 63; ((with_reducible refine (HV.out _ _ F.below (F.row (by first | exact m0 | exact m1 | exact m2 | exact m3 | exact m4 | exact m5))).mono ?_); rintro e w1 ⟨rfl, m, rfl⟩; replace F := F.drewN m)) | (go_at_call 91; ((with_reducible refine (HSL.out _ _ F.below (F.row (by first | exact m0 | exact m1 | exact m2 | exact m3 | exact m4 | exact m5))).mono ?_); rintro e w2 ⟨rfl, m2, rfl⟩; replace F := F.drewN m2)))
  go_ret2
  first | exact ⟨rfl, F.below⟩ | exact ⟨rfl, by rw [← World.drewN_drewN]; exact F.below⟩
set_option maxRecDepth 100000 in
set_option maxHeartbeats 4000000 in
theorem i_IsSilentString_no (B : Nat) (s : Value) (x : Nat → Nat) (n : Nat) (k tk : Int) (ta tb tc tx ty : Nat) (dk : Int) (da db dc dx dy l : Nat) (w : World) (hs : RdS w B s x n) (hf : fits .f32 ta ∧ fits .f32 tb ∧ fits .f32 tc ∧ fits .f32 tx ∧ fits .f32 ty) (hg : fits .f32 da ∧ fits .f32 db ∧ fits .f32 dc ∧ fits .f32 dx ∧ fits .f32 dy) (hl2 : fits .f32 l) (hv : okStr n k tk ta tb tc tx ty dk da db dc dx dy l = false) :
    Calls Try.prog 48 #[.agg #[s, .int .i64 k, .int .i64 tk, .float .f32 ta, .float .f32 tb, .float .f32 tc, .float .f32 tx, .float .f32 ty, .int .i64 dk, .float .f32 da, .float .f32 db, .float .f32 dc, .float .f32 dx, .float .f32 dy, .float .f32 l]] w (Out_bi false 1 w) := by
  have HV := hid (fun (w' : World) (hl : le w w') => hv ▸ i_ValidStringR B s x n k tk ta tb tc tx ty dk da db dc dx dy l w' (hs.le hl) hf hg hl2)
  clear hs hv hf hg hl2
  have F := ((Frg.nil w).box 31 #[s, .int .i64 k, .int .i64 tk, .float .f32 ta, .float .f32 tb, .float .f32 tc, .float .f32 tx, .float .f32 ty, .int .i64 dk, .float .f32 da, .float .f32 db, .float .f32 dc, .float .f32 dx, .float .f32 dy, .float .f32 l])
  go_enter Try.func48, Try.ntmps48
  go_wp2_with (first | ((with_reducible refine at_loadU rfl rfl ?_); (with_reducible refine wpList_loadG F rfl rfl rfl (by first | exact m0 | exact m1 | exact m2 | exact m3 | exact m4 | exact m5) Try.underlying31 rfl infoStr rfl ?_)) | (go_at_call 23; ((with_reducible refine (HV.out _ F.below).mono ?_); rintro e w1 ⟨rfl, hl⟩; replace F := F.le hl; clear hl)))
  go_ret2
  first | exact ⟨rfl, F.below⟩ | exact ⟨rfl, by rw [← World.drewN_drewN]; exact F.below⟩
set_option maxRecDepth 100000 in
set_option maxHeartbeats 4000000 in
theorem i_IsSilentString_yes (B : Nat) (s : Value) (q : StS) (w : World) (hs : RdS w B s q.x q.n) (ok : q.Ok) (hv : okStr q.n (q.j : Nat) 3 q.ta q.tb q.tc q.tx q.ty 2 q.da q.db q.dc q.dx q.dy q.l = true) :
    Calls Try.prog 48 #[.agg #[s, .int .i64 (q.j : Nat), .int .i64 3, .float .f32 (q.ta), .float .f32 (q.tb), .float .f32 (q.tc), .float .f32 (q.tx), .float .f32 (q.ty), .int .i64 2, .float .f32 (q.da), .float .f32 (q.db), .float .f32 (q.dc), .float .f32 (q.dx), .float .f32 (q.dy), .float .f32 (q.l)]] w (Out_bi (silS q) 0 w) := by
  have HV := hid (fun (w' : World) (hl : le w w') => hv ▸ i_ValidStringR B s q.x q.n (q.j : Nat) 3 q.ta q.tb q.tc q.tx q.ty 2 q.da q.db q.dc q.dx q.dy q.l w' (hs.le hl) ⟨ok.fta, ok.ftb, ok.ftc, ok.ftx, ok.fty⟩ ⟨ok.fda, ok.fdb, ok.fdc, ok.fdx, ok.fdy⟩ ok.fl)
  have HN := hid (fun (w' : World) (hl : le w w') => i_newLoop B s q w' (hs.le hl) ok)
  clear hs hv ok
  have F := ((Frg.nil w).box 31 #[s, .int .i64 (q.j : Nat), .int .i64 3, .float .f32 (q.ta), .float .f32 (q.tb), .float .f32 (q.tc), .float .f32 (q.tx), .float .f32 (q.ty), .int .i64 2, .float .f32 (q.da), .float .f32 (q.db), .float .f32 (q.dc), .float .f32 (q.dx), .float .f32 (q.dy), .float .f32 (q.l)])
  go_enter Try.func48, Try.ntmps48
  go_wp2_with (first | ((with_reducible refine at_loadU rfl rfl ?_); (with_reducible refine wpList_loadG F rfl rfl rfl (by first | exact m0 | exact m1 | exact m2 | exact m3 | exact m4 | exact m5) Try.underlying31 rfl infoStr rfl ?_)) | (go_at_call 23; ((with_reducible refine (HV.out _ F.below).mono ?_); rintro e w1 ⟨rfl, hl⟩; replace F := F.le hl; clear hl)) | (go_at_call 87; ((with_reducible refine (HN.out _ F.below).mono ?_); rintro e w2 ⟨g, rfl, hlp, hl⟩; replace F := F.push (e := lpF _ _ g q) hl hlp (Nat.le_refl _) (Nat.le_refl _); clear hlp hl)) | (go_at_call 92; ((with_reducible refine (i_loopStill _ _ _ q _ (Frg.lp F m0)).mono ?_); rintro e w4 ⟨rfl, rfl⟩)))
  go_ret2
  first | exact ⟨rfl, F.below⟩ | exact ⟨rfl, by rw [← World.drewN_drewN]; exact F.below⟩
theorem both_IsSilentString (x : Nat → Nat) (n : Nat) (k tk : Int) (ta tb tc tx ty : Nat) (dk : Int) (da db dc dx dy l : Nat) (hw : (Lit.int .i64 k).wf = true ∧ (Lit.int .i64 tk).wf = true ∧ fits .f32 ta ∧ fits .f32 tb ∧ fits .f32 tc ∧ fits .f32 tx ∧ fits .f32 ty ∧ (Lit.int .i64 dk).wf = true ∧ fits .f32 da ∧ fits .f32 db ∧ fits .f32 dc ∧ fits .f32 dx ∧ fits .f32 dy ∧ fits .f32 l) : ∃ (ar0 : Bool) (ar1 : Int), (∀ (w : World) (B : Nat) (u : Value), RdS w B u x n → Calls Try.prog 47 #[.agg #[u, .int .i64 k, .int .i64 tk, .float .f32 ta, .float .f32 tb, .float .f32 tc, .float .f32 tx, .float .f32 ty, .int .i64 dk, .float .f32 da, .float .f32 db, .float .f32 dc, .float .f32 dx, .float .f32 dy, .float .f32 l]] w (Out_bi ar0 ar1 w)) ∧ (∀ (w : World) (B : Nat) (u : Value), RdS w B u x n → Calls Try.prog 48 #[.agg #[u, .int .i64 k, .int .i64 tk, .float .f32 ta, .float .f32 tb, .float .f32 tc, .float .f32 tx, .float .f32 ty, .int .i64 dk, .float .f32 da, .float .f32 db, .float .f32 dc, .float .f32 dx, .float .f32 dy, .float .f32 l]] w (Out_bi ar0 ar1 w)) := by
  obtain ⟨hk, _, h1, h2, h3, h4, h5, _, g1, g2, g3, g4, g5, hl⟩ := hw
  cases hv : okStr n k tk ta tb tc tx ty dk da db dc dx dy l
  · exact ⟨false, 1, fun w B u h => s_IsSilentString_no B u x n k tk ta tb tc tx ty dk da db dc dx dy l w h hk hv, fun w B u h => i_IsSilentString_no B u x n k tk ta tb tc tx ty dk da db dc dx dy l w h ⟨h1, h2, h3, h4, h5⟩ ⟨g1, g2, g3, g4, g5⟩ hl hv⟩
  · obtain ⟨j, rfl, rfl, rfl, ok⟩ := okStr_q (x := x) hv ⟨h1, h2, h3, h4, h5⟩ ⟨g1, g2, g3, g4, g5⟩ hl
    exact ⟨_, _, fun w B u h => s_IsSilentString_yes B u (⟨x, n, j, ta, tb, tc, tx, ty, da, db, dc, dx, dy, l⟩ : StS) w h ok hk hv, fun w B u h => i_IsSilentString_yes B u (⟨x, n, j, ta, tb, tc, tx, ty, da, db, dc, dx, dy, l⟩ : StS) w h ok hv⟩
end Go.Proofs.Ytaenbpkcehenkac

/- 'StepsToStill' of both. -/
namespace Go.Proofs.Ytaenbpkcehenkac
open Go.RowKit Go.Fk
set_option maxHeartbeats 2000000 in
theorem i_leastSteps (k : Int) (a b c x y K g : Nat) (w : World) (hk : 1 ≤ k ∧ k ≤ 5) (hK : K ≤ 100000) (hx : fits .f32 x) (hy : fits .f32 y) (R : Row w g 140 #[mdl k a b c, .float .f32 x, .float .f32 y]) :
    Calls Try.prog 93 #[.iface 133 (.pointer (some ⟨g, 0, none⟩)), .int .i64 K, .int .i64 100000] w fun e w' => ∃ n d, e = .returned (.tuple #[.int .i64 n, .int .i64 d]) ∧ ResST k a b c x y K n d ∧ Upd g w w' := by
  have HK := hid hk
  have HN := hid (fun n => fits_stN (k := k) (a := a) (b := b) (c := c) hx hy n)
  have hK1 : (K : Int) ≤ 100000 := by omega
  have hK0 : 0 ≤ (K : Int) := by omega
  have HR := hid R; clear R hx hy hk
  go_enter Try.func93, Try.ntmps93
  go_wp2_with fail
  go_loopw [18] (fun i wr => ∃ j : Nat, j ≤ K + 1 ∧ i = .int .i64 j ∧ Hid (∀ m, m < j → stillN k a b c x y m = false) ∧ Hid (Row wr g 140 #[mdl k a b c, .float .f32 (stN k a b c x y j).1, .float .f32 (stN k a b c x y j).2]) ∧ Hid (Upd g w wr)) (fun i _ => (K + 1) - (intOf i).toNat)
  case atStart => exact ⟨0, by omega, rfl, fun m hm => absurd hm (by omega), HR.out, Upd.refl g w⟩
  case round =>
    obtain ⟨j, hj, rfl, HJ, RJ, UJ⟩ := hrel
    by_cases hlt : j < K + 1
    · have hlt' : (j : Int) < (K : Int) + 1 := by omega
      cases hs : stillB (stN k a b c x y j).1 (stN k a b c x y j).2
      · have hS := hid (fun w R => i_isStill (mdl k a b c) (stN k a b c x y j).1 (stN k a b c x y j).2 g w R)
        rw [hs] at hS
        replace hs := hid hs
        go_wp2_with (first | (go_at_call 122; ((with_reducible refine (hS.out _ RJ.out).mono ?_); rintro e w3 ⟨rfl, rfl⟩)) | (go_at_call 118; ((with_reducible refine (i_step _ _ _ _ _ _ _ _ _ HK.out RJ.out (HN.out _).1 fits_zero).mono ?_); rintro e w4 ⟨r, rfl, hr, fr, hR, hU⟩; replace RJ := hid hR; replace UJ := hid (UJ.out.trans hU); clear hR hU hr fr)))
        go_roundw
        case rel => exact ⟨j + 1, by omega, by go_num, fun m hm => by rcases Nat.lt_or_ge m j with h | h; exact HJ.out m h; rw [show m = j by omega]; exact hs.out, RJ.out, UJ.out⟩
        case measure => simp [intOf]; omega
      · have hS := hid (fun w R => i_isStill (mdl k a b c) (stN k a b c x y j).1 (stN k a b c x y j).2 g w R)
        rw [hs] at hS
        replace hs := hid hs
        go_wp2_with (first | (go_at_call 122; ((with_reducible refine (hS.out _ RJ.out).mono ?_); rintro e w3 ⟨rfl, rfl⟩)))
        go_ret2
        exact ⟨_, _, rfl, .inl ⟨rfl, j, rfl, by omega, hs.out, HJ.out⟩, UJ.out⟩
    · have hlt' : ¬ (j : Int) < (K : Int) + 1 := by omega
      obtain rfl : j = K + 1 := by omega
      go_wp2
      go_ret2
      exact ⟨_, _, rfl, .inr ⟨rfl, rfl, fun i hi => HJ.out i (by omega)⟩, UJ.out⟩
theorem i_leastSteps_out (v : Value) (m : Int) (w : World) (hm : m < 0 ∨ 100000 < m) :
    Calls Try.prog 93 #[v, .int .i64 m, .int .i64 100000] w fun e w' => e = .returned (.tuple #[.int .i64 0, .int .i64 2]) ∧ w = w' := by
  rcases (show m < 0 ∨ (¬ m < 0 ∧ 100000 < m) by omega) with h | ⟨h, h'⟩
  all_goals
    clear hm
    go_enter Try.func93, Try.ntmps93
    go_wp2
    go_ret2
    exact ⟨rfl, rfl⟩
end Go.Proofs.Ytaenbpkcehenkac

/- 'StepsToSilence' of both. -/
namespace Go.Proofs.Ytaenbpkcehenkac
open Go.RowKit Go.Fk
theorem toSpB {w0 w : World} {g lo hi B' : Nat} {s : Value} {q : StS} {l : List Fact} (h : Frg w0 w (rowF g 31 #[s, .int .i64 (q.j : Nat), .int .i64 3, .float .f32 (q.ta), .float .f32 (q.tb), .float .f32 (q.tc), .float .f32 (q.tx), .float .f32 (q.ty), .int .i64 2, .float .f32 (q.da), .float .f32 (q.db), .float .f32 (q.dc), .float .f32 (q.dx), .float .f32 (q.dy), .float .f32 (q.l)] :: ownF lo hi s q.x q.n :: l)) (hn : 1 ≤ q.n) (h1 : ∀ e ∈ l, e.hi ≤ B') (h2 : w0.heap.size ≤ B') (h3 : B' ≤ lo) : Frg w0 w (spF B' (g + 1) g q :: l) := by
  have k := toSp h hn
  have f := k.facts (spF lo (g + 1) g q) (by simp)
  have a := List.pairwise_cons.1 k.apart
  refine ⟨k.below, fun e he => ?_, List.pairwise_cons.2 ⟨fun e he => h1 e he, a.2⟩⟩
  rcases List.mem_cons.1 he with rfl | he
  · obtain ⟨s', lo', hi', R, O, g1, g2, g3, g4, g5⟩ := f.2.2
    exact ⟨h2, f.2.1, ⟨s', lo', hi', R, O, Nat.le_trans h3 g1, g2, Nat.le_trans h3 g3, g4, g5⟩⟩
  · exact k.facts e (by simp [he])
theorem s_l03SilentSp (B C g : Nat) (q : StS) (w : World) (h : SpS w B C g q) (ok : q.Ok) :
    Calls Try.prog 91 #[.pointer (some ⟨g, 0, none⟩)] w fun e w' => e = .returned (.bool (silS q)) ∧ ∃ m, w' = w.drewN m := by
  obtain ⟨s', lo', hi', R, O, g1, g2, g3, g4, g5⟩ := h
  exact s_l03Silent hi' s' q g w O.rd R ok.n1 ok.n2
set_option maxRecDepth 100000 in
set_option maxHeartbeats 4000000 in
theorem i_leastStepsL (B C g : Nat) (q : StS) (K : Nat) (w : World) (hK : K ≤ 100000) (fit : q.Fit) (h : LpS w B C g q) :
    Calls Try.prog 93 #[.iface 108 (.pointer (some ⟨g, 0, none⟩)), .int .i64 K, .int .i64 100000] w fun e w' => ∃ n d, e = .returned (.tuple #[.int .i64 n, .int .i64 d]) ∧ ResSS q K n d ∧ Chg (rng B C) w w' := by
  have HO := hid (fun j => (fit.run (fun _ => 0) j).ok)
  have hK1 : (K : Int) ≤ 100000 := by omega
  have hK0 : 0 ≤ (K : Int) := by omega
  have HL := hid h; clear h fit
  go_enter Try.func93, Try.ntmps93
  go_wp2_with fail
  go_loopw [18] (fun i wr => ∃ j : Nat, j ≤ K + 1 ∧ i = .int .i64 j ∧ Hid (∀ m, m < j → silS (goS q (fun _ => 0) m) = false) ∧ Hid (LpS wr B C g (goS q (fun _ => 0) j)) ∧ Hid (Chg (rng B C) w wr)) (fun i _ => (K + 1) - (intOf i).toNat)
  case atStart => exact ⟨0, by omega, rfl, fun m hm => absurd hm (by omega), HL.out, Chg.refl _ w⟩
  case round =>
    obtain ⟨j, hj, rfl, HJ, RJ, UJ⟩ := hrel
    by_cases hlt : j < K + 1
    · have hlt' : (j : Int) < (K : Int) + 1 := by omega
      cases hs : silS (goS q (fun _ => 0) j)
      · have hS := hid (fun w' (h : LpS w' B C g (goS q (fun _ => 0) j)) => i_loopStill B C g _ w' h)
        rw [hs] at hS
        replace hs := hid hs
        go_wp2_with (first | (go_at_call 92; ((with_reducible refine (hS.out _ RJ.out).mono ?_); rintro e w3 ⟨rfl, rfl⟩)) | (go_at_call 88; ((with_reducible refine (i_loopStep _ _ _ _ 0 _ RJ.out (HO.out j) fits_zero).mono ?_); rintro e w4 ⟨r, rfl, hr, fr, hR, hU⟩; replace RJ := hid hR; replace UJ := hid (UJ.out.trans hU); clear hR hU hr fr)))
        go_roundw
        case rel => exact ⟨j + 1, by omega, by go_num, fun m hm => by rcases Nat.lt_or_ge m j with h | h; exact HJ.out m h; rw [show m = j by omega]; exact hs.out, RJ.out, UJ.out⟩
        case measure => simp [intOf]; omega
      · have hS := hid (fun w' (h : LpS w' B C g (goS q (fun _ => 0) j)) => i_loopStill B C g _ w' h)
        rw [hs] at hS
        replace hs := hid hs
        go_wp2_with (first | (go_at_call 92; ((with_reducible refine (hS.out _ RJ.out).mono ?_); rintro e w3 ⟨rfl, rfl⟩)))
        go_ret2
        exact ⟨_, _, rfl, .inl ⟨j, rfl, rfl, by omega, hs.out, HJ.out⟩, UJ.out⟩
    · have hlt' : ¬ (j : Int) < (K : Int) + 1 := by omega
      obtain rfl : j = K + 1 := by omega
      go_wp2
      go_ret2
      exact ⟨_, _, rfl, .inr ⟨rfl, rfl, fun i hi => HJ.out i (by omega)⟩, UJ.out⟩
set_option maxRecDepth 100000 in
set_option maxHeartbeats 4000000 in
theorem i_StepsToSilence_no (B : Nat) (s : Value) (x : Nat → Nat) (n : Nat) (k tk : Int) (ta tb tc tx ty : Nat) (dk : Int) (da db dc dx dy l : Nat) (m : Int) (w : World) (hs : RdS w B s x n) (hf : fits .f32 ta ∧ fits .f32 tb ∧ fits .f32 tc ∧ fits .f32 tx ∧ fits .f32 ty) (hg : fits .f32 da ∧ fits .f32 db ∧ fits .f32 dc ∧ fits .f32 dx ∧ fits .f32 dy) (hl2 : fits .f32 l) (hv : okStr n k tk ta tb tc tx ty dk da db dc dx dy l = false) :
    Calls Try.prog 50 #[.agg #[s, .int .i64 k, .int .i64 tk, .float .f32 ta, .float .f32 tb, .float .f32 tc, .float .f32 tx, .float .f32 ty, .int .i64 dk, .float .f32 da, .float .f32 db, .float .f32 dc, .float .f32 dx, .float .f32 dy, .float .f32 l], .int .i64 m] w (Out_ii 0 1 w) := by
  have HV := hid (fun (w' : World) (hl : le w w') => hv ▸ i_ValidStringR B s x n k tk ta tb tc tx ty dk da db dc dx dy l w' (hs.le hl) hf hg hl2)
  clear hs hv hf hg hl2
  have F := ((Frg.nil w).box 31 #[s, .int .i64 k, .int .i64 tk, .float .f32 ta, .float .f32 tb, .float .f32 tc, .float .f32 tx, .float .f32 ty, .int .i64 dk, .float .f32 da, .float .f32 db, .float .f32 dc, .float .f32 dx, .float .f32 dy, .float .f32 l])
  go_enter Try.func50, Try.ntmps50
  go_wp2_with (first | ((with_reducible refine at_loadU rfl rfl ?_); (with_reducible refine wpList_loadG F rfl rfl rfl (by first | exact m0 | exact m1 | exact m2 | exact m3 | exact m4 | exact m5) Try.underlying31 rfl infoStr rfl ?_)) | (go_at_call 23; ((with_reducible refine (HV.out _ F.below).mono ?_); rintro e w1 ⟨rfl, hl⟩; replace F := F.le hl; clear hl)))
  go_ret2
  first | exact ⟨rfl, F.below⟩ | exact ⟨rfl, by rw [← World.drewN_drewN]; exact F.below⟩
set_option maxRecDepth 100000 in
set_option maxHeartbeats 4000000 in
theorem i_StepsToSilence_out (B : Nat) (s : Value) (q : StS) (m : Int) (w : World) (hs : RdS w B s q.x q.n) (ok : q.Ok) (hv : okStr q.n (q.j : Nat) 3 q.ta q.tb q.tc q.tx q.ty 2 q.da q.db q.dc q.dx q.dy q.l = true) (hm : m < 0 ∨ 100000 < m) :
    Calls Try.prog 50 #[.agg #[s, .int .i64 (q.j : Nat), .int .i64 3, .float .f32 (q.ta), .float .f32 (q.tb), .float .f32 (q.tc), .float .f32 (q.tx), .float .f32 (q.ty), .int .i64 2, .float .f32 (q.da), .float .f32 (q.db), .float .f32 (q.dc), .float .f32 (q.dx), .float .f32 (q.dy), .float .f32 (q.l)], .int .i64 m] w (Out_ii 0 2 w) := by
  have HV := hid (fun (w' : World) (hl : le w w') => hv ▸ i_ValidStringR B s q.x q.n (q.j : Nat) 3 q.ta q.tb q.tc q.tx q.ty 2 q.da q.db q.dc q.dx q.dy q.l w' (hs.le hl) ⟨ok.fta, ok.ftb, ok.ftc, ok.ftx, ok.fty⟩ ⟨ok.fda, ok.fdb, ok.fdc, ok.fdx, ok.fdy⟩ ok.fl)
  have HN := hid (fun (w' : World) (hl : le w w') => i_newLoop B s q w' (hs.le hl) ok)
  have HL := hid (fun (v : Value) (w : World) => i_leastSteps_out v m w hm)
  clear hs hv ok hm
  have F := ((Frg.nil w).box 31 #[s, .int .i64 (q.j : Nat), .int .i64 3, .float .f32 (q.ta), .float .f32 (q.tb), .float .f32 (q.tc), .float .f32 (q.tx), .float .f32 (q.ty), .int .i64 2, .float .f32 (q.da), .float .f32 (q.db), .float .f32 (q.dc), .float .f32 (q.dx), .float .f32 (q.dy), .float .f32 (q.l)])
  go_enter Try.func50, Try.ntmps50
  go_wp2_with (first | ((with_reducible refine at_loadU rfl rfl ?_); (with_reducible refine wpList_loadG F rfl rfl rfl (by first | exact m0 | exact m1 | exact m2 | exact m3 | exact m4 | exact m5) Try.underlying31 rfl infoStr rfl ?_)) | (go_at_call 23; ((with_reducible refine (HV.out _ F.below).mono ?_); rintro e w1 ⟨rfl, hl⟩; replace F := F.le hl; clear hl)) | (go_at_call 87; ((with_reducible refine (HN.out _ F.below).mono ?_); rintro e w2 ⟨g, rfl, hlp, hl⟩; replace F := F.push (e := lpF _ _ g q) hl hlp (Nat.le_refl _) (Nat.le_refl _); clear hlp hl)) | (go_at_call 93; ((with_reducible refine (HL.out _ _).mono ?_); rintro e w3 ⟨rfl, rfl⟩)))
  go_ret2
  first | exact ⟨rfl, F.below⟩ | exact ⟨rfl, by rw [← World.drewN_drewN]; exact F.below⟩
set_option maxRecDepth 100000 in
set_option maxHeartbeats 4000000 in
theorem i_StepsToSilence_yes (B : Nat) (s : Value) (q : StS) (K : Nat) (w : World) (hs : RdS w B s q.x q.n) (ok : q.Ok) (hv : okStr q.n (q.j : Nat) 3 q.ta q.tb q.tc q.tx q.ty 2 q.da q.db q.dc q.dx q.dy q.l = true) (hK : K ≤ 100000) :
    Calls Try.prog 50 #[.agg #[s, .int .i64 (q.j : Nat), .int .i64 3, .float .f32 (q.ta), .float .f32 (q.tb), .float .f32 (q.tc), .float .f32 (q.tx), .float .f32 (q.ty), .int .i64 2, .float .f32 (q.da), .float .f32 (q.db), .float .f32 (q.dc), .float .f32 (q.dx), .float .f32 (q.dy), .float .f32 (q.l)], .int .i64 K] w fun e w' => ∃ n d, e = .returned (.tuple #[.int .i64 n, .int .i64 d]) ∧ ResSS q K n d ∧ le w w' := by
  have HV := hid (fun (w' : World) (hl : le w w') => hv ▸ i_ValidStringR B s q.x q.n (q.j : Nat) 3 q.ta q.tb q.tc q.tx q.ty 2 q.da q.db q.dc q.dx q.dy q.l w' (hs.le hl) ⟨ok.fta, ok.ftb, ok.ftc, ok.ftx, ok.fty⟩ ⟨ok.fda, ok.fdb, ok.fdc, ok.fdx, ok.fdy⟩ ok.fl)
  have HN := hid (fun (w' : World) (hl : le w w') => i_newLoop B s q w' (hs.le hl) ok)
  have HL := hid (fun (B' C' g : Nat) (w' : World) (h : LpS w' B' C' g q) => i_leastStepsL B' C' g q K w' hK ⟨ok, hs.fit⟩ h)
  clear hs hv ok
  have F := ((Frg.nil w).box 31 #[s, .int .i64 (q.j : Nat), .int .i64 3, .float .f32 (q.ta), .float .f32 (q.tb), .float .f32 (q.tc), .float .f32 (q.tx), .float .f32 (q.ty), .int .i64 2, .float .f32 (q.da), .float .f32 (q.db), .float .f32 (q.dc), .float .f32 (q.dx), .float .f32 (q.dy), .float .f32 (q.l)])
  go_enter Try.func50, Try.ntmps50
  go_wp2_with (first | ((with_reducible refine at_loadU rfl rfl ?_); (with_reducible refine wpList_loadG F rfl rfl rfl (by first | exact m0 | exact m1 | exact m2 | exact m3 | exact m4 | exact m5) Try.underlying31 rfl infoStr rfl ?_)) | (go_at_call 23; ((with_reducible refine (HV.out _ F.below).mono ?_); rintro e w1 ⟨rfl, hl⟩; replace F := F.le hl; clear hl)) | (go_at_call 87; ((with_reducible refine (HN.out _ F.below).mono ?_); rintro e w2 ⟨g, rfl, hlp, hl⟩; replace F := F.push (e := lpF _ _ g q) hl hlp (Nat.le_refl _) (Nat.le_refl _); clear hlp hl)) | (go_at_call 93; ((with_reducible refine (HL.out _ _ _ _ (Frg.lp F m0)).mono ?_); rintro e w3 ⟨n, d, rfl, hres, hU⟩; replace hres := hid hres; have FL := hid (F.below.trans (hU.below (fun i hi => Nat.le_trans (F.facts (lpF _ _ _ q) m0).1 hi.1) F.size)); clear hU)))
  go_ret2
  exact ⟨_, _, rfl, hres.out, FL.out⟩
set_option maxRecDepth 100000 in
set_option maxHeartbeats 4000000 in
theorem s_StepsToSilence_no (B : Nat) (s : Value) (x : Nat → Nat) (n : Nat) (k tk : Int) (ta tb tc tx ty : Nat) (dk : Int) (da db dc dx dy l : Nat) (m : Int) (w : World) (hs : RdS w B s x n) (hk : (Lit.int .i64 k).wf = true) (hv : okStr n k tk ta tb tc tx ty dk da db dc dx dy l = false) :
    Calls Try.prog 49 #[.agg #[s, .int .i64 k, .int .i64 tk, .float .f32 ta, .float .f32 tb, .float .f32 tc, .float .f32 tx, .float .f32 ty, .int .i64 dk, .float .f32 da, .float .f32 db, .float .f32 dc, .float .f32 dx, .float .f32 dy, .float .f32 l], .int .i64 m] w (Out_ii 0 1 w) := by
  have HV := hid (fun (w' : World) (g : Nat) (hl : le w w') (R : Row w' g 31 #[s, .int .i64 k, .int .i64 tk, .float .f32 ta, .float .f32 tb, .float .f32 tc, .float .f32 tx, .float .f32 ty, .int .i64 dk, .float .f32 da, .float .f32 db, .float .f32 dc, .float .f32 dx, .float .f32 dy, .float .f32 l]) => hv ▸ s_l03Ok B s x n k tk ta tb tc tx ty dk da db dc dx dy l g w' (hs.le hl) R hk)
  clear hs hk hv
  have F := ((Frg.nil w).box 31 #[s, .int .i64 k, .int .i64 tk, .float .f32 ta, .float .f32 tb, .float .f32 tc, .float .f32 tx, .float .f32 ty, .int .i64 dk, .float .f32 da, .float .f32 db, .float .f32 dc, .float .f32 dx, .float .f32 dy, .float .f32 l])
  go_enter Try.func49, Try.ntmps49
  go_wp2_with (first | (go_at_call 63; ((with_reducible refine (HV.out _ _ F.below (F.row (by first | exact m0 | exact m1 | exact m2 | exact m3 | exact m4 | exact m5))).mono ?_); rintro e w1 ⟨rfl, m, rfl⟩; replace F := F.drewN m)))
  go_ret2
  first | exact ⟨rfl, F.below⟩ | exact ⟨rfl, by rw [← World.drewN_drewN]; exact F.below⟩
set_option maxRecDepth 100000 in
set_option maxHeartbeats 4000000 in
theorem s_StepsToSilence_out (B : Nat) (s : Value) (q : StS) (m : Int) (w : World) (hs : RdS w B s q.x q.n) (ok : q.Ok) (hk : (Lit.int .i64 (q.j : Nat)).wf = true) (hv : okStr q.n (q.j : Nat) 3 q.ta q.tb q.tc q.tx q.ty 2 q.da q.db q.dc q.dx q.dy q.l = true) (hm : m < 0 ∨ 100000 < m) :
    Calls Try.prog 49 #[.agg #[s, .int .i64 (q.j : Nat), .int .i64 3, .float .f32 (q.ta), .float .f32 (q.tb), .float .f32 (q.tc), .float .f32 (q.tx), .float .f32 (q.ty), .int .i64 2, .float .f32 (q.da), .float .f32 (q.db), .float .f32 (q.dc), .float .f32 (q.dx), .float .f32 (q.dy), .float .f32 (q.l)], .int .i64 m] w (Out_ii 0 2 w) := by
  have HV := hid (fun (w' : World) (g : Nat) (hl : le w w') (R : Row w' g 31 #[s, .int .i64 (q.j : Nat), .int .i64 3, .float .f32 (q.ta), .float .f32 (q.tb), .float .f32 (q.tc), .float .f32 (q.tx), .float .f32 (q.ty), .int .i64 2, .float .f32 (q.da), .float .f32 (q.db), .float .f32 (q.dc), .float .f32 (q.dx), .float .f32 (q.dy), .float .f32 (q.l)]) => hv ▸ s_l03Ok B s q.x q.n (q.j : Nat) 3 q.ta q.tb q.tc q.tx q.ty 2 q.da q.db q.dc q.dx q.dy q.l g w' (hs.le hl) R hk)
  have hIn : Hid (∀ w, Calls Try.prog 90 #[.int .i64 m, .int .i64 0, .int .i64 100000] w fun e w' => e = .returned (.bool false) ∧ w = w') := fun w => by
    have h := s_In m 0 100000 w
    rwa [show (decide ((0 : Int) ≤ m) && decide (m ≤ 100000)) = false by rcases hm with h | h; (rw [decide_eq_false (by omega)]; rfl); (rw [Bool.and_eq_false_iff]; exact .inr (decide_eq_false (by omega)))] at h
  clear hs hk hv ok hm
  have F := ((Frg.nil w).box 31 #[s, .int .i64 (q.j : Nat), .int .i64 3, .float .f32 (q.ta), .float .f32 (q.tb), .float .f32 (q.tc), .float .f32 (q.tx), .float .f32 (q.ty), .int .i64 2, .float .f32 (q.da), .float .f32 (q.db), .float .f32 (q.dc), .float .f32 (q.dx), .float .f32 (q.dy), .float .f32 (q.l)])
  go_enter Try.func49, Try.ntmps49
  go_wp2_with (first | (go_at_call 63; ((with_reducible refine (HV.out _ _ F.below (F.row (by first | exact m0 | exact m1 | exact m2 | exact m3 | exact m4 | exact m5))).mono ?_); rintro e w1 ⟨rfl, m, rfl⟩; replace F := F.drewN m)) | (go_at_call 90; ((with_reducible refine (hIn.out _).mono ?_); rintro e w1 ⟨rfl, rfl⟩)))
  go_ret2
  first | exact ⟨rfl, F.below⟩ | exact ⟨rfl, by rw [← World.drewN_drewN]; exact F.below⟩
set_option maxRecDepth 100000 in
set_option maxHeartbeats 4000000 in
theorem s_StepsToSilence_yes (B : Nat) (s : Value) (q : StS) (K : Nat) (w : World) (hs : RdS w B s q.x q.n) (ok : q.Ok) (hk : (Lit.int .i64 (q.j : Nat)).wf = true) (hv : okStr q.n (q.j : Nat) 3 q.ta q.tb q.tc q.tx q.ty 2 q.da q.db q.dc q.dx q.dy q.l = true) (hK : K ≤ 100000) :
    Calls Try.prog 49 #[.agg #[s, .int .i64 (q.j : Nat), .int .i64 3, .float .f32 (q.ta), .float .f32 (q.tb), .float .f32 (q.tc), .float .f32 (q.tx), .float .f32 (q.ty), .int .i64 2, .float .f32 (q.da), .float .f32 (q.db), .float .f32 (q.dc), .float .f32 (q.dx), .float .f32 (q.dy), .float .f32 (q.l)], .int .i64 K] w fun e w' => ∃ n d, e = .returned (.tuple #[.int .i64 n, .int .i64 d]) ∧ ResSS q K n d ∧ le w w' := by
  have HV := hid (fun (w' : World) (g : Nat) (hl : le w w') (R : Row w' g 31 #[s, .int .i64 (q.j : Nat), .int .i64 3, .float .f32 (q.ta), .float .f32 (q.tb), .float .f32 (q.tc), .float .f32 (q.tx), .float .f32 (q.ty), .int .i64 2, .float .f32 (q.da), .float .f32 (q.db), .float .f32 (q.dc), .float .f32 (q.dx), .float .f32 (q.dy), .float .f32 (q.l)]) => hv ▸ s_l03Ok B s q.x q.n (q.j : Nat) 3 q.ta q.tb q.tc q.tx q.ty 2 q.da q.db q.dc q.dx q.dy q.l g w' (hs.le hl) R hk)
  have HCP := hid (fun (w' : World) (g : Nat) (hl : le w w') (R : Row w' g 31 #[s, .int .i64 (q.j : Nat), .int .i64 3, .float .f32 (q.ta), .float .f32 (q.tb), .float .f32 (q.tc), .float .f32 (q.tx), .float .f32 (q.ty), .int .i64 2, .float .f32 (q.da), .float .f32 (q.db), .float .f32 (q.dc), .float .f32 (q.dx), .float .f32 (q.dy), .float .f32 (q.l)]) => s_l03Copy B s q.x q.n (q.j : Nat) 3 q.ta q.tb q.tc q.tx q.ty 2 q.da q.db q.dc q.dx q.dy q.l g w' (hs.le hl) R ok.n1 ok.n2)
  have HO := hid (fun j => ((show q.Fit from ⟨ok, hs.fit⟩).run (fun _ => 0) j).ok)
  have n1 := ok.n1
  have hK1 : (K : Int) ≤ 100000 := by omega
  have hK0 : 0 ≤ (K : Int) := by omega
  have hIn : Hid (∀ w, Calls Try.prog 90 #[.int .i64 K, .int .i64 0, .int .i64 100000] w fun e w' => e = .returned (.bool true) ∧ w = w') := fun w => by
    have h := s_In K 0 100000 w
    rwa [show (decide ((0 : Int) ≤ K) && decide ((K : Int) ≤ 100000)) = true by simp only [Bool.and_eq_true, decide_eq_true_eq]; omega] at h
  clear hs hk hv ok
  have F := ((Frg.nil w).box 31 #[s, .int .i64 (q.j : Nat), .int .i64 3, .float .f32 (q.ta), .float .f32 (q.tb), .float .f32 (q.tc), .float .f32 (q.tx), .float .f32 (q.ty), .int .i64 2, .float .f32 (q.da), .float .f32 (q.db), .float .f32 (q.dc), .float .f32 (q.dx), .float .f32 (q.dy), .float .f32 (q.l)])
  go_enter Try.func49, Try.ntmps49
  go_wp2_with (first | (go_at_call 63; ((with_reducible refine (HV.out _ _ F.below (F.row (by first | exact m0 | exact m1 | exact m2 | exact m3 | exact m4 | exact m5))).mono ?_); rintro e w1 ⟨rfl, m, rfl⟩; replace F := F.drewN m)) | (go_at_call 90; ((with_reducible refine (hIn.out _).mono ?_); rintro e w1 ⟨rfl, rfl⟩)) | (go_at_call 76; ((with_reducible refine (HCP.out _ _ F.below (F.row (by first | exact m0 | exact m1 | exact m2 | exact m3 | exact m4 | exact m5))).mono ?_); rintro e w2 ⟨s', rfl, ho, hl⟩; have OC := hid (OwnS.one ho); replace F := F.own1 hl ho; clear ho hl)) | (refine wpList_storeG F rfl rfl rfl rfl rfl infoStr rfl (one_head OC.out rfl) ?_; clear F; intro W3 F zW; clear zW; replace F := hid (toSpB (B' := w.heap.size + 1) F n1 (by simp [rowF]) (by omega) (by simp))))
  go_loopw [7] (fun i wr => ∃ j : Nat, j ≤ K + 1 ∧ i = .int .i64 j ∧ Hid (∀ m, m < j → silS (goS q (fun _ => 0) m) = false) ∧ Hid (Frg w wr [spF (w.heap.size + 1) (w2.heap.size + 1) w2.heap.size (goS q (fun _ => 0) j), rowF w.heap.size 31 #[s, .int .i64 (q.j : Nat), .int .i64 3, .float .f32 (q.ta), .float .f32 (q.tb), .float .f32 (q.tc), .float .f32 (q.tx), .float .f32 (q.ty), .int .i64 2, .float .f32 (q.da), .float .f32 (q.db), .float .f32 (q.dc), .float .f32 (q.dx), .float .f32 (q.dy), .float .f32 (q.l)]])) (fun i _ => (K + 1) - (intOf i).toNat)
  case atStart => exact ⟨0, by omega, rfl, fun m hm => absurd hm (by omega), F.out⟩
  case round =>
    obtain ⟨j, hj, rfl, HJ, FJ⟩ := hrel
    clear F
    by_cases hlt : j ≤ K
    · have hjK : (j : Int) ≤ K := by omega
      cases hs : silS (goS q (fun _ => 0) j)
      · have hS := hid (fun B' C' g w' (h : SpS w' B' C' g (goS q (fun _ => 0) j)) => s_l03SilentSp B' C' g _ w' h (HO.out j))
        rw [hs] at hS
        replace hs := hid hs
        go_wp2_with (first | (go_at_call 91; ((with_reducible refine (hS.out _ _ _ _ (Frg.sp FJ.out m0)).mono ?_); rintro e w3 ⟨rfl, m3, rfl⟩; replace FJ := hid (FJ.out.drewN m3))) | (go_at_call 86; ((with_reducible refine (s_l03Step _ _ _ _ 0 _ (Frg.sp FJ.out m0) (HO.out j) fits_zero).mono ?_); rintro e w4 ⟨o4, rfl, ho4, fo4, hsp, hch⟩; replace FJ := hid (FJ.out.chg0 (e' := spF _ _ _ (stepS (goS q (fun _ => 0) j) 0)) hch hsp rfl rfl); clear hsp hch ho4 fo4)))
        go_roundw
        case rel => exact ⟨j + 1, by omega, by go_num, fun m hm => by rcases Nat.lt_or_ge m j with h | h; exact HJ.out m h; rw [show m = j by omega]; exact hs.out, FJ⟩
        case measure => simp [intOf]; omega
      · have hS := hid (fun B' C' g w' (h : SpS w' B' C' g (goS q (fun _ => 0) j)) => s_l03SilentSp B' C' g _ w' h (HO.out j))
        rw [hs] at hS
        replace hs := hid hs
        go_wp2_with (first | (go_at_call 91; ((with_reducible refine (hS.out _ _ _ _ (Frg.sp FJ.out m0)).mono ?_); rintro e w3 ⟨rfl, m3, rfl⟩; replace FJ := hid (FJ.out.drewN m3))))
        go_ret2
        exact ⟨_, _, rfl, .inl ⟨j, rfl, rfl, by omega, hs.out, HJ.out⟩, FJ.out.below⟩
    · have hjK : ¬ (j : Int) ≤ K := by omega
      obtain rfl : j = K + 1 := by omega
      go_wp2
      go_ret2
      exact ⟨_, _, rfl, .inr ⟨rfl, rfl, fun i hi => HJ.out i (by omega)⟩, FJ.out.below⟩
theorem both_StepsToSilence (x : Nat → Nat) (n : Nat) (k tk : Int) (ta tb tc tx ty : Nat) (dk : Int) (da db dc dx dy l : Nat) (m : Int) (hw : (Lit.int .i64 k).wf = true ∧ (Lit.int .i64 tk).wf = true ∧ fits .f32 ta ∧ fits .f32 tb ∧ fits .f32 tc ∧ fits .f32 tx ∧ fits .f32 ty ∧ (Lit.int .i64 dk).wf = true ∧ fits .f32 da ∧ fits .f32 db ∧ fits .f32 dc ∧ fits .f32 dx ∧ fits .f32 dy ∧ fits .f32 l) : ∃ (ar0 ar1 : Int), (∀ (w : World) (B : Nat) (u : Value), RdS w B u x n → Calls Try.prog 49 #[.agg #[u, .int .i64 k, .int .i64 tk, .float .f32 ta, .float .f32 tb, .float .f32 tc, .float .f32 tx, .float .f32 ty, .int .i64 dk, .float .f32 da, .float .f32 db, .float .f32 dc, .float .f32 dx, .float .f32 dy, .float .f32 l], .int .i64 m] w (Out_ii ar0 ar1 w)) ∧ (∀ (w : World) (B : Nat) (u : Value), RdS w B u x n → Calls Try.prog 50 #[.agg #[u, .int .i64 k, .int .i64 tk, .float .f32 ta, .float .f32 tb, .float .f32 tc, .float .f32 tx, .float .f32 ty, .int .i64 dk, .float .f32 da, .float .f32 db, .float .f32 dc, .float .f32 dx, .float .f32 dy, .float .f32 l], .int .i64 m] w (Out_ii ar0 ar1 w)) := by
  obtain ⟨hk, _, h1, h2, h3, h4, h5, _, g1, g2, g3, g4, g5, hl⟩ := hw
  cases hv : okStr n k tk ta tb tc tx ty dk da db dc dx dy l
  · exact ⟨0, 1, fun w B u h => s_StepsToSilence_no B u x n k tk ta tb tc tx ty dk da db dc dx dy l m w h hk hv, fun w B u h => i_StepsToSilence_no B u x n k tk ta tb tc tx ty dk da db dc dx dy l m w h ⟨h1, h2, h3, h4, h5⟩ ⟨g1, g2, g3, g4, g5⟩ hl hv⟩
  · obtain ⟨j, rfl, rfl, rfl, ok⟩ := okStr_q (x := x) hv ⟨h1, h2, h3, h4, h5⟩ ⟨g1, g2, g3, g4, g5⟩ hl
    by_cases hm : m < 0 ∨ 100000 < m
    · exact ⟨_, _, fun w B u h => s_StepsToSilence_out B u (⟨x, n, j, ta, tb, tc, tx, ty, da, db, dc, dx, dy, l⟩ : StS) m w h ok hk hv hm, fun w B u h => i_StepsToSilence_out B u (⟨x, n, j, ta, tb, tc, tx, ty, da, db, dc, dx, dy, l⟩ : StS) m w h ok hv hm⟩
    · obtain ⟨K, rfl⟩ : ∃ K : Nat, m = K := ⟨m.toNat, by omega⟩
      obtain ⟨n0, d0, hr⟩ := ResSS.ex (⟨x, n, j, ta, tb, tc, tx, ty, da, db, dc, dx, dy, l⟩ : StS) K
      refine ⟨n0, d0, fun w B u h => (s_StepsToSilence_yes B u (⟨x, n, j, ta, tb, tc, tx, ty, da, db, dc, dx, dy, l⟩ : StS) K w h ok hk hv (by omega)).mono ?_, fun w B u h => (i_StepsToSilence_yes B u (⟨x, n, j, ta, tb, tc, tx, ty, da, db, dc, dx, dy, l⟩ : StS) K w h ok hv (by omega)).mono ?_⟩
      all_goals
        rintro e w' ⟨n1, d1, rfl, hr1, hl1⟩
        obtain ⟨rfl, rfl⟩ := hr.one hr1
        exact ⟨rfl, hl1⟩
end Go.Proofs.Ytaenbpkcehenkac

/- As FreeD, where one operation (with the index c) may write what all others leave as it is: it comes up but once. Nothing here names a program. -/
namespace Go.Fk
open Go Go.RowKit
section
variable (E0 E1 : Ext) (c : Nat) (Vc : World → Value → Prop) (P : Program) (ops : Array Oper) (md : Region.Mode) (W : World) (K : FuncId → Array Value → World → Value → Prop)
def preE (i : Nat) : Ext := if i = c then E0 else E1
def stepE (i : Nat) : Ext := if i = c then E1 else E0
def YieldsP (i : Nat) (o : Oper) (a : Act) (F : Facts) (V : World → Value → Prop) : Prop :=
  MonoT E1 V ∧ (i = c → V = Vc) ∧ ((Region.wanted o (yielded ops a.tmps) = true ∧ ∀ w, (preE E0 E1 c i).R W w → behind md o F w → insideT (stepE E0 E1 c i) P K w V ((execOp a.eval o).run P w)) ∨ (i ≠ c ∧ Region.wanted o (yielded ops a.tmps) = false ∧ ∀ w, E1.R W w → behind md o F w → V w undef))
def wpFreeP (Q : Act → World → Prop) : List Oper → Nat → Act → Facts → Prop
  | [], _, a, F => ∀ w, E1.R W w → (∀ e, F e w) → Q a w
  | o :: rest, k, a, F => ∃ V, YieldsP E0 E1 c Vc P ops md W K k o a F V ∧ ∀ v, met E1 W F (fun w => V w v) → wpFreeP Q rest (k + 1) (a.put o.dst v) (F.with k (fun w => V w v))
def anyFreeP (n : Nat) (L : Array Bool → Act → Facts → Prop) : Nat → Array Bool → Act → Facts → Prop
  | 0, listed, a, F => L listed a F
  | f + 1, listed, a, F => Region.ready md ops listed ≠ [] ∧
      ∀ i ∈ Region.ready md ops listed, i < n ∧ ∀ o, ops[i]? = some o → ∃ V, YieldsP E0 E1 c Vc P ops md W K i o a F V ∧ ∀ v, met E1 W F (fun w => V w v) → anyFreeP n L f (listed.setIfInBounds i true) (a.put o.dst v) (F.with i (fun w => V w v))
end
section
variable {E0 E1 : Ext} {c : Nat} {Vc : World → Value → Prop} {P : Program} {ops : Array Oper} {md : Region.Mode} {W : World} {K : FuncId → Array Value → World → Value → Prop}
theorem stepE_sub (hs : ∀ w w', E0.R w w' → E1.R w w') {i : Nat} {w w' : World} (h : (stepE E0 E1 c i).R w w') : E1.R w w' := by
  unfold stepE at h
  split at h
  · exact h
  · exact hs _ _ h
theorem YieldsP.some (hs : ∀ w w', E0.R w w' → E1.R w w') (hVc : ∀ w, E1.R W w → ∃ v w', E1.R w w' ∧ Vc w' v) {i : Nat} {o : Oper} {a : Act} {F : Facts} {V : World → Value → Prop} (hm : FMono E1 F) (hx : met E1 W F (fun _ => True)) (h : YieldsP E0 E1 c Vc P ops md W K i o a F V) : ∃ v, met E1 W F (fun w => V w v) := by
  obtain ⟨w, hw, hF, _⟩ := hx
  by_cases e : i = c
  · obtain ⟨v, w', hl, hv⟩ := hVc w hw
    exact ⟨v, w', E1.trans hw hl, hm w w' hl hF, by rw [h.2.1 e]; exact hv⟩
  · rcases h.2.2 with ⟨_, h⟩ | ⟨_, _, h⟩
    · obtain ⟨v, w', hl, hv⟩ := insideT_some (h w (by unfold preE; rw [if_neg e]; exact hw) (fun e _ _ => hF e.on))
      have hl' := stepE_sub hs hl
      exact ⟨v, w', E1.trans hw hl', hm w w' hl' hF, hv⟩
    · exact ⟨undef, w, hw, hF, h w hw (fun e _ _ => hF e.on)⟩
theorem YieldsP.same {i : Nat} {o : Oper} {a a' : Act} {F : Facts} {V : World → Value → Prop} (he : execOp a'.eval o = execOp a.eval o) (hw : Region.wanted o (yielded ops a'.tmps) = Region.wanted o (yielded ops a.tmps))
    (h : YieldsP E0 E1 c Vc P ops md W K i o a F V) : YieldsP E0 E1 c Vc P ops md W K i o a' F V := by
  unfold YieldsP at *; rw [he, hw]; exact h
theorem YieldsP.less {j : Nat} {o : Oper} {a : Act} {F : Facts} {i : Nat} {X : World → Prop} {V : World → Value → Prop} (hn : ∀ e ∈ o.after, Region.binds md e = true → e.on ≠ i) (h : YieldsP E0 E1 c Vc P ops md W K j o a (F.with i X) V) : YieldsP E0 E1 c Vc P ops md W K j o a F V := by
  have key : ∀ w, behind md o F w → behind md o (F.with i X) w := fun w hw e he hb => ⟨hw e he hb, fun h => absurd h (hn e he hb)⟩
  refine ⟨h.1, h.2.1, ?_⟩
  rcases h.2.2 with ⟨h1, h2⟩ | ⟨h0, h1, h2⟩
  · exact .inl ⟨h1, fun w hw hb => h2 w hw (key w hb)⟩
  · exact .inr ⟨h0, h1, fun w hw hb => h2 w hw (key w hb)⟩
theorem YieldsP.stronger {j : Nat} {o : Oper} {a : Act} {F F' : Facts} {V : World → Value → Prop} (hF : ∀ e w, F' e w → F e w) (h : YieldsP E0 E1 c Vc P ops md W K j o a F V) : YieldsP E0 E1 c Vc P ops md W K j o a F' V := by
  have key : ∀ w, behind md o F' w → behind md o F w := fun w hw e he hb => hF _ _ (hw e he hb)
  refine ⟨h.1, h.2.1, ?_⟩
  rcases h.2.2 with ⟨h1, h2⟩ | ⟨h0, h1, h2⟩
  · exact .inl ⟨h1, fun w hw hb => h2 w hw (key w hb)⟩
  · exact .inr ⟨h0, h1, fun w hw hb => h2 w hw (key w hb)⟩
theorem YieldsP.more {j : Nat} {o : Oper} {a : Act} {F : Facts} {i : Nat} {X : World → Prop} {V : World → Value → Prop} (h : YieldsP E0 E1 c Vc P ops md W K j o a F V) : YieldsP E0 E1 c Vc P ops md W K j o a (F.with i X) V := h.stronger (fun _ _ h => h.1)
theorem insideT_mono {E E' : Ext} (hE : ∀ w w', E.R w w' → E'.R w w') {V : World → Value → Prop} {w : World} {r : Result Next} (h : insideT E P K w V r) : insideT E' P K w V r := by
  cases r with
  | ok n w' =>
    cases n <;> simp only [insideT] at h ⊢
    case value u => exact ⟨hE _ _ h.1, h.2⟩
    case skip => exact ⟨hE _ _ h.1, h.2⟩
    case enter f args => exact ⟨hE _ _ h.1, h.2.1.mono (fun e w'' ⟨v, e1, e2, e3⟩ => ⟨v, e1, hE _ _ e2, e3⟩), h.2.2⟩
  | halt x w' => simp only [insideT] at h
theorem wpOp_yieldsP {i : Nat} {o : Oper} {a : Act} {w : World} {F : Facts} {V : World → Value → Prop} {next : Act → World → Prop} {Q' : Exit → Act → World → Prop} (ho : ops[i]? = some o) (hw1 : E1.R W w) (hw : (preE E0 E1 c i).R W w) (hF : ∀ e, F e w) (hg : YieldsP E0 E1 c Vc P ops md W K i o a F V)
    (hn : ∀ v w', (stepE E0 E1 c i).R w w' → V w' v → next (a.put o.dst v) w') : wpOp P ops Q' i next a w := by
  unfold wpOp
  simp only [ho]
  rcases hg.2.2 with ⟨hwant, hv⟩ | ⟨_, hwant, hv⟩
  · rw [if_pos hwant]
    left
    have h3 := hv w hw (fun e _ _ => hF e.on)
    unfold Oper.wp
    generalize (execOp a.eval o).run P w = r at h3
    cases r with
    | ok x w' =>
      cases x <;> simp only [insideT] at h3 <;> simp only [Oper.upon]
      case value u => exact hn u _ h3.1 h3.2
      case skip => exact hn undef _ h3.1 h3.2
      case enter f args =>
        refine h3.2.1.mono fun e w'' he => ?_
        obtain ⟨v, rfl, hl, hk⟩ := he
        exact hn v _ ((stepE E0 E1 c i).trans h3.1 hl) (h3.2.2 w'' v hk)
    | halt x w' => simp only [insideT] at h3
  · rw [if_neg (by simp [hwant])]
    exact hn undef _ ((stepE E0 E1 c i).refl w) (hv w hw1 (fun e _ _ => hF e.on))
theorem anyFreeP_sound (hs : ∀ w w', E0.R w w' → E1.R w w') {n g : Nat} {L : Array Bool → Act → Facts → Prop} {Q' : Exit → Act → World → Prop} (hL : ∀ listed a F w, E1.R W w → (∀ e, F e w) → L listed a F → wpAny P md ops Q' g listed a w) :
    ∀ (f : Nat) (listed : Array Bool) (a : Act) (F : Facts) (w : World), FMono E1 F → E1.R W w → (listed.getD c true = false → E0.R W w) → (∀ e, F e w) → anyFreeP E0 E1 c Vc P ops md W K n L f listed a F → wpAny P md ops Q' (f + g) listed a w := by
  intro f
  induction f with
  | zero => intro listed a F w _ hw _ hF h; rw [Nat.zero_add]; exact hL _ _ _ _ hw hF h
  | succ f ih =>
    intro listed a F w hm hw hph hF h
    rw [show f + 1 + g = (f + g) + 1 by omega]
    refine ⟨fun h0 => absurd h0 h.1, fun i hi => ?_⟩
    obtain ⟨hun, o, ho, _⟩ := mem_ready.1 hi
    obtain ⟨V, hg, hn⟩ := (h.2 i hi).2 o ho
    have hpre : (preE E0 E1 c i).R W w := by
      unfold preE
      split
      · next e => subst e; exact hph hun
      · exact hw
    refine wpOp_yieldsP ho hw hpre hF hg (fun v w' hl hv => ih _ _ _ _ (hm.with hg.1 i v) (E1.trans hw (stepE_sub hs hl)) (fun hc => ?_) (Facts.with_mk (hm w w' (stepE_sub hs hl) hF) hv) (hn v ⟨w', E1.trans hw (stepE_sub hs hl), hm w w' (stepE_sub hs hl) hF, hv⟩))
    by_cases e : i = c
    · subst e
      have hlt : i < listed.size := by
        apply Nat.lt_of_not_le
        intro hle
        simp [Array.getD, Nat.not_lt.2 hle] at hun
      simp [Array.getD, hlt] at hc
    · rw [getD_set_ne true e] at hc
      unfold stepE at hl
      rw [if_neg e] at hl
      exact E0.trans (hph hc) hl
theorem anyFreeP_weaken {n : Nat} {L : Array Bool → Act → Facts → Prop} (hLm : ∀ listed a F F', (∀ e w, F' e w → F e w) → L listed a F → L listed a F') :
    ∀ (f : Nat) (listed : Array Bool) (a : Act) (F F' : Facts), (∀ e w, F' e w → F e w) → anyFreeP E0 E1 c Vc P ops md W K n L f listed a F → anyFreeP E0 E1 c Vc P ops md W K n L f listed a F' := by
  intro f
  induction f with
  | zero => intro listed a F F' h hh; exact hLm _ _ _ _ h hh
  | succ f ih =>
    intro listed a F F' h hh
    refine ⟨hh.1, fun i hi => ⟨(hh.2 i hi).1, fun o ho => ?_⟩⟩
    obtain ⟨V, hg, hn⟩ := (hh.2 i hi).2 o ho
    exact ⟨V, hg.stronger h, fun v hv => ih _ _ _ _ (fun e w hw => ⟨h e w hw.1, hw.2⟩) (hn v (hv.weaken (fun w hw e => h e w (hw e))))⟩
theorem anyFreeP_first (hs : ∀ w w', E0.R w w' → E1.R w w') (hVc : ∀ w, E1.R W w → ∃ v w', E1.R w w' ∧ Vc w' v) {n i : Nat} {oi : Oper} {V : World → Value → Prop} {L : Array Bool → Act → Facts → Prop} (hi : ops[i]? = some oi) (hsel : ∀ (j : Nat) (o : Oper) cs b, ops[j]? = some o → o.op ≠ .select cs b)
    (hbound : ∀ listed i, HeadInv md ops n listed → i < n → listed.getD i true = false → ∀ j ∈ Region.ready md ops listed, j < n) (hin : i < n)
    (hdone : ∀ listed a F, L listed a F → ∀ j ∈ Region.ready md ops listed, n ≤ j) (hLm : ∀ listed a F F', (∀ e w, F' e w → F e w) → L listed a F → L listed a F') :
    ∀ (f : Nat) (listed : Array Bool) (a : Act) (F : Facts), HeadInv md ops n listed →
      (∀ j oj, ops[j]? = some oj → j ≠ i → listed.getD j true = false → (∀ e ∈ oj.after, Region.binds md e = true → e.on ≠ i) → oi.apart ops oj = true) →
      i ∈ Region.ready md ops listed → FMono E1 F → met E1 W F (fun _ => True) → YieldsP E0 E1 c Vc P ops md W K i oi a F V →
      (∀ v, met E1 W F (fun w => V w v) → anyFreeP E0 E1 c Vc P ops md W K n L f (listed.setIfInBounds i true) (a.put oi.dst v) (F.with i (fun w => V w v))) → anyFreeP E0 E1 c Vc P ops md W K n L (f + 1) listed a F := by
  intro f
  induction f with
  | zero =>
    intro listed a F inv _ hr hm hx hg H
    have hun := (mem_ready.1 hr).1
    refine ⟨fun h => (by rw [h] at hr; cases hr), fun j hj => ?_⟩
    have hjn := hbound listed i inv hin hun j hj
    refine ⟨hjn, fun o ho => ?_⟩
    by_cases hji : j = i
    · subst hji
      rw [hi] at ho; cases ho
      exact ⟨V, hg, H⟩
    · obtain ⟨v, hv⟩ := hg.some hs hVc hm hx
      have := hdone _ _ _ (H v hv) j (ready_mono hj hji)
      omega
  | succ f ih =>
    intro listed a F inv hfree hr hm hx hg H
    have hun := (mem_ready.1 hr).1
    refine ⟨fun h => (by rw [h] at hr; cases hr), fun j hj => ?_⟩
    have hjn := hbound listed i inv hin hun j hj
    refine ⟨hjn, fun o ho => ?_⟩
    by_cases hji : j = i
    · subst hji
      rw [hi] at ho; cases ho
      exact ⟨V, hg, H⟩
    · obtain ⟨hjun, oj, hoj, hall⟩ := mem_ready.1 hj
      rw [ho] at hoj; cases hoj
      have hnot : ∀ e ∈ o.after, Region.binds md e = true → e.on ≠ i := fun e he hb heq => by
        have h1 := hall e he hb
        rw [heq, getD_both hun] at h1
        cases h1
      have hap := hfree j o ho hji hjun hnot
      obtain ⟨a1, a2, a3⟩ := Oper.apart_spec hap
      have hsi := fun cs b => hsel i oi cs b hi
      have hsj := fun cs b => hsel j o cs b ho
      have hU : ∀ v : {v // met E1 W F (fun w => V w v)}, ∃ U, YieldsP E0 E1 c Vc P ops md W K j o (a.put oi.dst v.1) (F.with i (fun w => V w v.1)) U ∧ ∀ u, met E1 W (F.with i (fun w => V w v.1)) (fun w => U w u) →
          anyFreeP E0 E1 c Vc P ops md W K n L f ((listed.setIfInBounds i true).setIfInBounds j true) ((a.put oi.dst v.1).put o.dst u) ((F.with i (fun w => V w v.1)).with j (fun w => U w u)) :=
        fun v => ((H v.1 v.2).2 j (ready_mono hj hji)).2 o ho
      obtain ⟨U, hU⟩ := Classical.skolem.1 hU
      obtain ⟨v0, hv0⟩ := hg.some hs hVc hm hx
      have hone : ∀ v, YieldsP E0 E1 c Vc P ops md W K j o a F (U v) := fun v => ((hU v).1.same (execOp_put o hsj a oi.dst v.1 a1).symm (wanted_put o a oi.dst v.1 a1).symm).less hnot
      have hgood : YieldsP E0 E1 c Vc P ops md W K j o a F (fun w u => ∀ v, U v w u) := by
        refine ⟨fun u w w' hl h v => (hone v).1 u w w' hl (h v), fun e => ?_, ?_⟩
        · funext w u
          exact propext ⟨fun h => by have := h ⟨v0, hv0⟩; rw [(hone ⟨v0, hv0⟩).2.1 e] at this; exact this, fun h v => by rw [(hone v).2.1 e]; exact h⟩
        by_cases hw : Region.wanted o (yielded ops a.tmps) = true
        · refine .inl ⟨hw, fun w hw' hb => inside_allT ⟨⟨v0, hv0⟩, trivial⟩ (fun v => ?_)⟩
          rcases (hone v).2.2 with ⟨_, h3⟩ | ⟨_, h3, _⟩
          · exact h3 w hw' hb
          · rw [hw] at h3; cases h3
        · have hne : j ≠ c := by
            rcases (hone ⟨v0, hv0⟩).2.2 with ⟨h3, _⟩ | ⟨h3, _, _⟩
            · exact absurd h3 hw
            · exact h3
          refine .inr ⟨hne, by simpa using hw, fun w hw' hb v => ?_⟩
          rcases (hone v).2.2 with ⟨h3, _⟩ | ⟨_, _, h3⟩
          · exact absurd h3 hw
          · exact h3 w hw' hb
      refine ⟨_, hgood, ?_⟩
      intro u hu
      have hfree' : ∀ k ok, ops[k]? = some ok → k ≠ i → (listed.setIfInBounds j true).getD k true = false →
          (∀ e ∈ ok.after, Region.binds md e = true → e.on ≠ i) → oi.apart ops ok = true := fun k ok hk hki hun hno => by
        refine hfree k ok hk hki ?_ hno
        by_cases hjk : j = k
        · subst hjk; exact hjun
        · rw [getD_set_ne true hjk] at hun; exact hun
      have hx' : met E1 W (F.with j (fun w => ∀ v, U v w u)) (fun _ => True) := by
        obtain ⟨w, hw, hF, hv⟩ := hu
        exact ⟨w, hw, Facts.with_mk hF hv, trivial⟩
      refine ih (listed.setIfInBounds j true) (a.put o.dst u) (F.with j (fun w => ∀ v, U v w u)) (inv.set hj hjn) hfree' (ready_mono hr (Ne.symm hji)) (hm.with hgood.1 j u) hx' ((hg.same (execOp_put oi hsi a o.dst u a3) (wanted_put oi a o.dst u a3)).more) (fun v hv => ?_)
      rw [Array.setIfInBounds_comm _ _ hji, ← Act.put_comm a v u a2]
      obtain ⟨w, hw, hF, hVv⟩ := hv
      have hF' := Facts.with_of hF
      have mv : met E1 W F (fun w => V w v) := ⟨w, hw, hF'.1, hVv⟩
      exact anyFreeP_weaken hLm _ _ _ _ _ (fun e w' h' => ⟨⟨h'.1.1, h'.2⟩, fun he => h'.1.2 he ⟨v, mv⟩⟩) ((hU ⟨v, mv⟩).2 u ⟨w, hw, Facts.with_mk hF'.1 hVv, hF'.2 ⟨v, mv⟩⟩)

theorem anyFreeP_lex (hs : ∀ w w', E0.R w w' → E1.R w w') (hVc : ∀ w, E1.R W w → ∃ v w', E1.R w w' ∧ Vc w' v) {n g : Nat} {R : Act → World → Prop} (hsel : Region.noSelect ops = true)
    (hbound : ∀ listed i, HeadInv md ops n listed → i < n → listed.getD i true = false → ∀ j ∈ Region.ready md ops listed, j < n) :
    ∀ (l : List Oper) (k : Nat) (listed : Array Bool) (a : Act) (F : Facts), (∀ j, j < l.length → l[j]? = ops[k + j]?) → k + l.length = n → HeadInv md ops n listed →
    Region.lexHead md ops g l.length k listed = true → FMono E1 F → met E1 W F (fun _ => True) → wpFreeP E0 E1 c Vc P ops md W K R l k a F →
    anyFreeP E0 E1 c Vc P ops md W K n (fun listed' a' F' => Region.seqB md ops g n listed' = true ∧ ∀ w, E1.R W w → (∀ e, F' e w) → R a' w) l.length listed a F := by
  intro l
  induction l with
  | nil =>
    intro k listed a F _ hk _ hB _ _ h
    have : k = n := by simpa using hk
    subst this
    exact ⟨by simpa [Region.lexHead] using hB, h⟩
  | cons o l ih =>
    intro k listed a F hl hk inv hB hm hx h
    have h0 : ops[k]? = some o := by simpa using (hl 0 (by simp)).symm
    simp only [List.length_cons, Region.lexHead, Bool.and_eq_true] at hB
    obtain ⟨⟨hr, hf⟩, hB'⟩ := hB
    have hkn : k < n := by simp only [List.length_cons] at hk; omega
    have hr' : k ∈ Region.ready md ops listed := by simpa using hr
    obtain ⟨V, hg, hnext⟩ := h
    exact anyFreeP_first hs hVc h0 (Region.noSelect_spec hsel) hbound hkn (fun listed' a' F' hL => seqB_ready hL.1) (fun _ _ _ _ hF hL => ⟨hL.1, fun w hw h' => hL.2 w hw (fun e => hF e w (h' e))⟩) l.length listed a F inv (Region.free_spec h0 hf) hr' hm hx hg
      (fun v hv => ih (k + 1) _ _ _ (fun j hj => by have := hl (j + 1) (by simp; omega); simpa [Nat.add_assoc, Nat.add_comm 1 j] using this) (by simp only [List.length_cons] at hk; omega) (inv.set hr' hkn) hB' (hm.with hg.1 k v)
        (by obtain ⟨w, hw, hF, hv'⟩ := hv; exact ⟨w, hw, Facts.with_mk hF hv', trivial⟩) (hnext v hv))

/-- A REGION THAT DRAWS ITS ORDER, one of whose operations writes. -/
theorem region_freeP (hs : ∀ w w', E0.R w w' → E1.R w w') (K : FuncId → Array Value → World → Value → Prop) {id : Nat} {Q : Exit → Act → World → Prop} {a : Act} {w : World} {l : List Oper} (hVc : ∀ w', E1.R (w.drewN 1) w' → ∃ v w'', E1.R w' w'' ∧ Vc w'' v) (hm : P.follows .mixedOrders = true)
    (hB : (Region.noSelect l.toArray && Region.lexHead .any l.toArray 0 l.length 0 (Array.replicate l.toArray.size false)) = true)
    (h : wpFreeP E0 E1 c Vc P l.toArray .any (w.drewN 1) K (fun a' w' => Q .normal a' w') l 0 a noFacts) : (Code.region id l.toArray true).wp P Q a w := by
  simp only [Bool.and_eq_true] at hB
  obtain ⟨hsel, hlex⟩ := hB
  have hbound : ∀ listed i, HeadInv .any l.toArray l.length listed → i < l.length → listed.getD i true = false → ∀ j ∈ Region.ready .any l.toArray listed, j < l.length := by
    intro listed i _ _ _ j hj
    obtain ⟨_, oj, hoj, _⟩ := mem_ready.1 hj
    simpa using (Array.getElem?_eq_some_iff.1 hoj).1
  have H := anyFreeP_lex (md := .any) (g := 0) hs hVc hsel hbound l 0 _ a noFacts (fun j hj => by simp) (by simp) (head_start _ l.length) hlex (fun _ _ _ h => h) ⟨w.drewN 1, E1.refl _, fun _ => trivial, trivial⟩ h
  refine wp_region_any hm ?_
  have := anyFreeP_sound (Q' := Q) (W := w.drewN 1) (g := 0) hs (fun listed a' F w' hw' hF hL => ⟨by simpa [Region.seqB] using hL.1, hL.2 w' hw' hF⟩) _ _ _ _ _ (fun _ _ _ h => h) (E1.refl _) (fun _ => E0.refl _) (fun _ => trivial) H
  rw [Nat.add_zero] at this
  exact this
end
end Go.Fk
