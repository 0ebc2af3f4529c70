/- Texts of the walk, laid in one file. -/
import Derived.Test.YtmacednkpjfokaaMe
set_option linter.unusedVariables false
set_option linter.unusedSimpArgs false
/- 'StepsToSilence' of both. -/
namespace Go.Proofs.Ytmacednkpjfokaa
open Go.RowKit Go.Fk
theorem toSpB {w0 w : World} {g lo hi B' : Nat} {s : Value} {q : StS} {l : List Fact} (h : Frg w0 w (rowF g 48 #[s, .int .i64 (q.j : Nat), .int .i64 3, .float .f32 (q.ta), .float .f32 (q.tb), .float .f32 (q.tc), .float .f32 (q.tx), .float .f32 (q.ty), .int .i64 2, .float .f32 (q.da), .float .f32 (q.db), .float .f32 (q.dc), .float .f32 (q.dx), .float .f32 (q.dy), .float .f32 (q.l)] :: ownF lo hi s q.x q.n :: l)) (hn : 1 ≤ q.n) (h1 : ∀ e ∈ l, e.hi ≤ B') (h2 : w0.heap.size ≤ B') (h3 : B' ≤ lo) : Frg w0 w (spF B' (g + 1) g q :: l) := by
  have k := toSp h hn
  have f := k.facts (spF lo (g + 1) g q) (by simp)
  have a := List.pairwise_cons.1 k.apart
  refine ⟨k.below, fun e he => ?_, List.pairwise_cons.2 ⟨fun e he => h1 e he, a.2⟩⟩
  rcases List.mem_cons.1 he with rfl | he
  · obtain ⟨s', lo', hi', R, O, g1, g2, g3, g4, g5⟩ := f.2.2
    exact ⟨h2, f.2.1, ⟨s', lo', hi', R, O, Nat.le_trans h3 g1, g2, Nat.le_trans h3 g3, g4, g5⟩⟩
  · exact k.facts e (by simp [he])
theorem s_l03SilentSp (B C g : Nat) (q : StS) (w : World) (h : SpS w B C g q) (ok : q.Ok) :
    Calls Try.prog 82 #[.pointer (some ⟨g, 0, none⟩)] w fun e w' => e = .returned (.bool (silS q)) ∧ ∃ m, w' = w.drewN m := by
  obtain ⟨s', lo', hi', R, O, g1, g2, g3, g4, g5⟩ := h
  exact s_l03Silent hi' s' q g w O.rd R ok.n1 ok.n2
set_option maxRecDepth 100000 in
set_option maxHeartbeats 4000000 in
theorem i_leastStepsL (B C g : Nat) (q : StS) (K : Nat) (w : World) (hK : K ≤ 100000) (fit : q.Fit) (h : LpS w B C g q) :
    Calls Try.prog 59 #[.iface 110 (.pointer (some ⟨g, 0, none⟩)), .int .i64 K, .int .i64 100000] w fun e w' => ∃ n d, e = .returned (.tuple #[.int .i64 n, .int .i64 d]) ∧ ResSS q K n d ∧ Chg (rng B C) w w' := by
  have HO := hid (fun j => (fit.run (fun _ => 0) j).ok)
  have hK1 : (K : Int) ≤ 100000 := by omega
  have hK0 : 0 ≤ (K : Int) := by omega
  have HL := hid h; clear h fit
  go_enter Try.func59, Try.ntmps59
  go_wp2_with fail
  go_loopw [18] (fun i wr => ∃ j : Nat, j ≤ K + 1 ∧ i = .int .i64 j ∧ Hid (∀ m, m < j → silS (goS q (fun _ => 0) m) = false) ∧ Hid (LpS wr B C g (goS q (fun _ => 0) j)) ∧ Hid (Chg (rng B C) w wr)) (fun i _ => (K + 1) - (intOf i).toNat)
  case atStart => exact ⟨0, by omega, rfl, fun m hm => absurd hm (by omega), HL.out, Chg.refl _ w⟩
  case round =>
    obtain ⟨j, hj, rfl, HJ, RJ, UJ⟩ := hrel
    by_cases hlt : j < K + 1
    · have hlt' : (j : Int) < (K : Int) + 1 := by omega
      cases hs : silS (goS q (fun _ => 0) j)
      · have hS := hid (fun w' (h : LpS w' B C g (goS q (fun _ => 0) j)) => i_loopStill B C g _ w' h)
        rw [hs] at hS
        replace hs := hid hs
        go_wp2_with (first | (go_at_call 83; ((with_reducible refine (hS.out _ RJ.out).mono ?_); rintro e w3 ⟨rfl, rfl⟩)) | (go_at_call 78; ((with_reducible refine (i_loopStep _ _ _ _ 0 _ RJ.out (HO.out j) fits_zero).mono ?_); rintro e w4 ⟨r, rfl, hr, fr, hR, hU⟩; replace RJ := hid hR; replace UJ := hid (UJ.out.trans hU); clear hR hU hr fr)))
        go_roundw
        case rel => exact ⟨j + 1, by omega, by go_num, fun m hm => by rcases Nat.lt_or_ge m j with h | h; exact HJ.out m h; rw [show m = j by omega]; exact hs.out, RJ.out, UJ.out⟩
        case measure => simp [intOf]; omega
      · have hS := hid (fun w' (h : LpS w' B C g (goS q (fun _ => 0) j)) => i_loopStill B C g _ w' h)
        rw [hs] at hS
        replace hs := hid hs
        go_wp2_with (first | (go_at_call 83; ((with_reducible refine (hS.out _ RJ.out).mono ?_); rintro e w3 ⟨rfl, rfl⟩)))
        go_ret2
        exact ⟨_, _, rfl, .inl ⟨j, rfl, rfl, by omega, hs.out, HJ.out⟩, UJ.out⟩
    · have hlt' : ¬ (j : Int) < (K : Int) + 1 := by omega
      obtain rfl : j = K + 1 := by omega
      go_wp2
      go_ret2
      exact ⟨_, _, rfl, .inr ⟨rfl, rfl, fun i hi => HJ.out i (by omega)⟩, UJ.out⟩
set_option maxRecDepth 100000 in
set_option maxHeartbeats 4000000 in
theorem i_StepsToSilence_no (B : Nat) (s : Value) (x : Nat → Nat) (n : Nat) (k tk : Int) (ta tb tc tx ty : Nat) (dk : Int) (da db dc dx dy l : Nat) (m : Int) (w : World) (hs : RdS w B s x n) (hf : fits .f32 ta ∧ fits .f32 tb ∧ fits .f32 tc ∧ fits .f32 tx ∧ fits .f32 ty) (hg : fits .f32 da ∧ fits .f32 db ∧ fits .f32 dc ∧ fits .f32 dx ∧ fits .f32 dy) (hl2 : fits .f32 l) (hv : okStr n k tk ta tb tc tx ty dk da db dc dx dy l = false) :
    Calls Try.prog 46 #[.agg #[s, .int .i64 k, .int .i64 tk, .float .f32 ta, .float .f32 tb, .float .f32 tc, .float .f32 tx, .float .f32 ty, .int .i64 dk, .float .f32 da, .float .f32 db, .float .f32 dc, .float .f32 dx, .float .f32 dy, .float .f32 l], .int .i64 m] w (Out_ii 0 1 w) := by
  have HV := hid (fun (w' : World) (hl : le w w') => hv ▸ i_ValidStringR B s x n k tk ta tb tc tx ty dk da db dc dx dy l w' (hs.le hl) hf hg hl2)
  clear hs hv hf hg hl2
  have F := ((Frg.nil w).box 48 #[s, .int .i64 k, .int .i64 tk, .float .f32 ta, .float .f32 tb, .float .f32 tc, .float .f32 tx, .float .f32 ty, .int .i64 dk, .float .f32 da, .float .f32 db, .float .f32 dc, .float .f32 dx, .float .f32 dy, .float .f32 l])
  go_enter Try.func46, Try.ntmps46
  go_wp2_with (first | ((with_reducible refine at_loadU rfl rfl ?_); (with_reducible refine wpList_loadG F rfl rfl rfl (by first | exact m0 | exact m1 | exact m2 | exact m3 | exact m4 | exact m5) Try.underlying48 rfl infoStr rfl ?_)) | (go_at_call 66; ((with_reducible refine (HV.out _ F.below).mono ?_); rintro e w1 ⟨rfl, hl⟩; replace F := F.le hl; clear hl)))
  go_ret2
  first | exact ⟨rfl, F.below⟩ | exact ⟨rfl, by rw [← World.drewN_drewN]; exact F.below⟩
set_option maxRecDepth 100000 in
set_option maxHeartbeats 4000000 in
theorem i_StepsToSilence_out (B : Nat) (s : Value) (q : StS) (m : Int) (w : World) (hs : RdS w B s q.x q.n) (ok : q.Ok) (hv : okStr q.n (q.j : Nat) 3 q.ta q.tb q.tc q.tx q.ty 2 q.da q.db q.dc q.dx q.dy q.l = true) (hm : m < 0 ∨ 100000 < m) :
    Calls Try.prog 46 #[.agg #[s, .int .i64 (q.j : Nat), .int .i64 3, .float .f32 (q.ta), .float .f32 (q.tb), .float .f32 (q.tc), .float .f32 (q.tx), .float .f32 (q.ty), .int .i64 2, .float .f32 (q.da), .float .f32 (q.db), .float .f32 (q.dc), .float .f32 (q.dx), .float .f32 (q.dy), .float .f32 (q.l)], .int .i64 m] w (Out_ii 0 2 w) := by
  have HV := hid (fun (w' : World) (hl : le w w') => hv ▸ i_ValidStringR B s q.x q.n (q.j : Nat) 3 q.ta q.tb q.tc q.tx q.ty 2 q.da q.db q.dc q.dx q.dy q.l w' (hs.le hl) ⟨ok.fta, ok.ftb, ok.ftc, ok.ftx, ok.fty⟩ ⟨ok.fda, ok.fdb, ok.fdc, ok.fdx, ok.fdy⟩ ok.fl)
  have HN := hid (fun (w' : World) (hl : le w w') => i_newLoop B s q w' (hs.le hl) ok)
  have HL := hid (fun (v : Value) (w : World) => i_leastSteps_out v m w hm)
  clear hs hv ok hm
  have F := ((Frg.nil w).box 48 #[s, .int .i64 (q.j : Nat), .int .i64 3, .float .f32 (q.ta), .float .f32 (q.tb), .float .f32 (q.tc), .float .f32 (q.tx), .float .f32 (q.ty), .int .i64 2, .float .f32 (q.da), .float .f32 (q.db), .float .f32 (q.dc), .float .f32 (q.dx), .float .f32 (q.dy), .float .f32 (q.l)])
  go_enter Try.func46, Try.ntmps46
  go_wp2_with (first | ((with_reducible refine at_loadU rfl rfl ?_); (with_reducible refine wpList_loadG F rfl rfl rfl (by first | exact m0 | exact m1 | exact m2 | exact m3 | exact m4 | exact m5) Try.underlying48 rfl infoStr rfl ?_)) | (go_at_call 66; ((with_reducible refine (HV.out _ F.below).mono ?_); rintro e w1 ⟨rfl, hl⟩; replace F := F.le hl; clear hl)) | (go_at_call 77; ((with_reducible refine (HN.out _ F.below).mono ?_); rintro e w2 ⟨g, rfl, hlp, hl⟩; replace F := F.push (e := lpF _ _ g q) hl hlp (Nat.le_refl _) (Nat.le_refl _); clear hlp hl)) | (go_at_call 59; ((with_reducible refine (HL.out _ _).mono ?_); rintro e w3 ⟨rfl, rfl⟩)))
  go_ret2
  first | exact ⟨rfl, F.below⟩ | exact ⟨rfl, by rw [← World.drewN_drewN]; exact F.below⟩
set_option maxRecDepth 100000 in
set_option maxHeartbeats 4000000 in
theorem i_StepsToSilence_yes (B : Nat) (s : Value) (q : StS) (K : Nat) (w : World) (hs : RdS w B s q.x q.n) (ok : q.Ok) (hv : okStr q.n (q.j : Nat) 3 q.ta q.tb q.tc q.tx q.ty 2 q.da q.db q.dc q.dx q.dy q.l = true) (hK : K ≤ 100000) :
    Calls Try.prog 46 #[.agg #[s, .int .i64 (q.j : Nat), .int .i64 3, .float .f32 (q.ta), .float .f32 (q.tb), .float .f32 (q.tc), .float .f32 (q.tx), .float .f32 (q.ty), .int .i64 2, .float .f32 (q.da), .float .f32 (q.db), .float .f32 (q.dc), .float .f32 (q.dx), .float .f32 (q.dy), .float .f32 (q.l)], .int .i64 K] w fun e w' => ∃ n d, e = .returned (.tuple #[.int .i64 n, .int .i64 d]) ∧ ResSS q K n d ∧ le w w' := by
  have HV := hid (fun (w' : World) (hl : le w w') => hv ▸ i_ValidStringR B s q.x q.n (q.j : Nat) 3 q.ta q.tb q.tc q.tx q.ty 2 q.da q.db q.dc q.dx q.dy q.l w' (hs.le hl) ⟨ok.fta, ok.ftb, ok.ftc, ok.ftx, ok.fty⟩ ⟨ok.fda, ok.fdb, ok.fdc, ok.fdx, ok.fdy⟩ ok.fl)
  have HN := hid (fun (w' : World) (hl : le w w') => i_newLoop B s q w' (hs.le hl) ok)
  have HL := hid (fun (B' C' g : Nat) (w' : World) (h : LpS w' B' C' g q) => i_leastStepsL B' C' g q K w' hK ⟨ok, hs.fit⟩ h)
  clear hs hv ok
  have F := ((Frg.nil w).box 48 #[s, .int .i64 (q.j : Nat), .int .i64 3, .float .f32 (q.ta), .float .f32 (q.tb), .float .f32 (q.tc), .float .f32 (q.tx), .float .f32 (q.ty), .int .i64 2, .float .f32 (q.da), .float .f32 (q.db), .float .f32 (q.dc), .float .f32 (q.dx), .float .f32 (q.dy), .float .f32 (q.l)])
  go_enter Try.func46, Try.ntmps46
  go_wp2_with (first | ((with_reducible refine at_loadU rfl rfl ?_); (with_reducible refine wpList_loadG F rfl rfl rfl (by first | exact m0 | exact m1 | exact m2 | exact m3 | exact m4 | exact m5) Try.underlying48 rfl infoStr rfl ?_)) | (go_at_call 66; ((with_reducible refine (HV.out _ F.below).mono ?_); rintro e w1 ⟨rfl, hl⟩; replace F := F.le hl; clear hl)) | (go_at_call 77; ((with_reducible refine (HN.out _ F.below).mono ?_); rintro e w2 ⟨g, rfl, hlp, hl⟩; replace F := F.push (e := lpF _ _ g q) hl hlp (Nat.le_refl _) (Nat.le_refl _); clear hlp hl)) | (go_at_call 59; ((with_reducible refine (HL.out _ _ _ _ (Frg.lp F m0)).mono ?_); rintro e w3 ⟨n, d, rfl, hres, hU⟩; replace hres := hid hres; have FL := hid (F.below.trans (hU.below (fun i hi => Nat.le_trans (F.facts (lpF _ _ _ q) m0).1 hi.1) F.size)); clear hU)))
  go_ret2
  exact ⟨_, _, rfl, hres.out, FL.out⟩
set_option maxRecDepth 100000 in
set_option maxHeartbeats 4000000 in
theorem s_StepsToSilence_no (B : Nat) (s : Value) (x : Nat → Nat) (n : Nat) (k tk : Int) (ta tb tc tx ty : Nat) (dk : Int) (da db dc dx dy l : Nat) (m : Int) (w : World) (hs : RdS w B s x n) (hk : (Lit.int .i64 k).wf = true) (hv : okStr n k tk ta tb tc tx ty dk da db dc dx dy l = false) :
    Calls Try.prog 45 #[.agg #[s, .int .i64 k, .int .i64 tk, .float .f32 ta, .float .f32 tb, .float .f32 tc, .float .f32 tx, .float .f32 ty, .int .i64 dk, .float .f32 da, .float .f32 db, .float .f32 dc, .float .f32 dx, .float .f32 dy, .float .f32 l], .int .i64 m] w (Out_ii 0 1 w) := by
  have HV := hid (fun (w' : World) (g : Nat) (hl : le w w') (R : Row w' g 48 #[s, .int .i64 k, .int .i64 tk, .float .f32 ta, .float .f32 tb, .float .f32 tc, .float .f32 tx, .float .f32 ty, .int .i64 dk, .float .f32 da, .float .f32 db, .float .f32 dc, .float .f32 dx, .float .f32 dy, .float .f32 l]) => hv ▸ s_l03Ok B s x n k tk ta tb tc tx ty dk da db dc dx dy l g w' (hs.le hl) R hk)
  clear hs hk hv
  have F := ((Frg.nil w).box 48 #[s, .int .i64 k, .int .i64 tk, .float .f32 ta, .float .f32 tb, .float .f32 tc, .float .f32 tx, .float .f32 ty, .int .i64 dk, .float .f32 da, .float .f32 db, .float .f32 dc, .float .f32 dx, .float .f32 dy, .float .f32 l])
  go_enter Try.func45, Try.ntmps45
  go_wp2_with (first | (go_at_call 61; ((with_reducible refine (HV.out _ _ F.below (F.row (by first | exact m0 | exact m1 | exact m2 | exact m3 | exact m4 | exact m5))).mono ?_); rintro e w1 ⟨rfl, m, rfl⟩; replace F := F.drewN m)))
  go_ret2
  first | exact ⟨rfl, F.below⟩ | exact ⟨rfl, by rw [← World.drewN_drewN]; exact F.below⟩
set_option maxRecDepth 100000 in
set_option maxHeartbeats 4000000 in
theorem s_StepsToSilence_out (B : Nat) (s : Value) (q : StS) (m : Int) (w : World) (hs : RdS w B s q.x q.n) (ok : q.Ok) (hk : (Lit.int .i64 (q.j : Nat)).wf = true) (hv : okStr q.n (q.j : Nat) 3 q.ta q.tb q.tc q.tx q.ty 2 q.da q.db q.dc q.dx q.dy q.l = true) (hm : m < 0 ∨ 100000 < m) :
    Calls Try.prog 45 #[.agg #[s, .int .i64 (q.j : Nat), .int .i64 3, .float .f32 (q.ta), .float .f32 (q.tb), .float .f32 (q.tc), .float .f32 (q.tx), .float .f32 (q.ty), .int .i64 2, .float .f32 (q.da), .float .f32 (q.db), .float .f32 (q.dc), .float .f32 (q.dx), .float .f32 (q.dy), .float .f32 (q.l)], .int .i64 m] w (Out_ii 0 2 w) := by
  have HV := hid (fun (w' : World) (g : Nat) (hl : le w w') (R : Row w' g 48 #[s, .int .i64 (q.j : Nat), .int .i64 3, .float .f32 (q.ta), .float .f32 (q.tb), .float .f32 (q.tc), .float .f32 (q.tx), .float .f32 (q.ty), .int .i64 2, .float .f32 (q.da), .float .f32 (q.db), .float .f32 (q.dc), .float .f32 (q.dx), .float .f32 (q.dy), .float .f32 (q.l)]) => hv ▸ s_l03Ok B s q.x q.n (q.j : Nat) 3 q.ta q.tb q.tc q.tx q.ty 2 q.da q.db q.dc q.dx q.dy q.l g w' (hs.le hl) R hk)
  have hIn : Hid (∀ w, Calls Try.prog 56 #[.int .i64 m, .int .i64 0, .int .i64 100000] w fun e w' => e = .returned (.bool false) ∧ w = w') := fun w => by
    have h := s_In m 0 100000 w
    rwa [show (decide ((0 : Int) ≤ m) && decide (m ≤ 100000)) = false by rcases hm with h | h; (rw [decide_eq_false (by omega)]; rfl); (rw [Bool.and_eq_false_iff]; exact .inr (decide_eq_false (by omega)))] at h
  clear hs hk hv ok hm
  have F := ((Frg.nil w).box 48 #[s, .int .i64 (q.j : Nat), .int .i64 3, .float .f32 (q.ta), .float .f32 (q.tb), .float .f32 (q.tc), .float .f32 (q.tx), .float .f32 (q.ty), .int .i64 2, .float .f32 (q.da), .float .f32 (q.db), .float .f32 (q.dc), .float .f32 (q.dx), .float .f32 (q.dy), .float .f32 (q.l)])
  go_enter Try.func45, Try.ntmps45
  go_wp2_with (first | (go_at_call 61; ((with_reducible refine (HV.out _ _ F.below (F.row (by first | exact m0 | exact m1 | exact m2 | exact m3 | exact m4 | exact m5))).mono ?_); rintro e w1 ⟨rfl, m, rfl⟩; replace F := F.drewN m)) | (go_at_call 56; ((with_reducible refine (hIn.out _).mono ?_); rintro e w1 ⟨rfl, rfl⟩)))
  go_ret2
  first | exact ⟨rfl, F.below⟩ | exact ⟨rfl, by rw [← World.drewN_drewN]; exact F.below⟩
set_option maxRecDepth 100000 in
set_option maxHeartbeats 4000000 in
theorem s_StepsToSilence_yes (B : Nat) (s : Value) (q : StS) (K : Nat) (w : World) (hs : RdS w B s q.x q.n) (ok : q.Ok) (hk : (Lit.int .i64 (q.j : Nat)).wf = true) (hv : okStr q.n (q.j : Nat) 3 q.ta q.tb q.tc q.tx q.ty 2 q.da q.db q.dc q.dx q.dy q.l = true) (hK : K ≤ 100000) :
    Calls Try.prog 45 #[.agg #[s, .int .i64 (q.j : Nat), .int .i64 3, .float .f32 (q.ta), .float .f32 (q.tb), .float .f32 (q.tc), .float .f32 (q.tx), .float .f32 (q.ty), .int .i64 2, .float .f32 (q.da), .float .f32 (q.db), .float .f32 (q.dc), .float .f32 (q.dx), .float .f32 (q.dy), .float .f32 (q.l)], .int .i64 K] w fun e w' => ∃ n d, e = .returned (.tuple #[.int .i64 n, .int .i64 d]) ∧ ResSS q K n d ∧ le w w' := by
  have HV := hid (fun (w' : World) (g : Nat) (hl : le w w') (R : Row w' g 48 #[s, .int .i64 (q.j : Nat), .int .i64 3, .float .f32 (q.ta), .float .f32 (q.tb), .float .f32 (q.tc), .float .f32 (q.tx), .float .f32 (q.ty), .int .i64 2, .float .f32 (q.da), .float .f32 (q.db), .float .f32 (q.dc), .float .f32 (q.dx), .float .f32 (q.dy), .float .f32 (q.l)]) => hv ▸ s_l03Ok B s q.x q.n (q.j : Nat) 3 q.ta q.tb q.tc q.tx q.ty 2 q.da q.db q.dc q.dx q.dy q.l g w' (hs.le hl) R hk)
  have HCP := hid (fun (w' : World) (g : Nat) (hl : le w w') (R : Row w' g 48 #[s, .int .i64 (q.j : Nat), .int .i64 3, .float .f32 (q.ta), .float .f32 (q.tb), .float .f32 (q.tc), .float .f32 (q.tx), .float .f32 (q.ty), .int .i64 2, .float .f32 (q.da), .float .f32 (q.db), .float .f32 (q.dc), .float .f32 (q.dx), .float .f32 (q.dy), .float .f32 (q.l)]) => s_l03Copy B s q.x q.n (q.j : Nat) 3 q.ta q.tb q.tc q.tx q.ty 2 q.da q.db q.dc q.dx q.dy q.l g w' (hs.le hl) R ok.n1 ok.n2)
  have HO := hid (fun j => ((show q.Fit from ⟨ok, hs.fit⟩).run (fun _ => 0) j).ok)
  have n1 := ok.n1
  have hK1 : (K : Int) ≤ 100000 := by omega
  have hK0 : 0 ≤ (K : Int) := by omega
  have hIn : Hid (∀ w, Calls Try.prog 56 #[.int .i64 K, .int .i64 0, .int .i64 100000] w fun e w' => e = .returned (.bool true) ∧ w = w') := fun w => by
    have h := s_In K 0 100000 w
    rwa [show (decide ((0 : Int) ≤ K) && decide ((K : Int) ≤ 100000)) = true by simp only [Bool.and_eq_true, decide_eq_true_eq]; omega] at h
  clear hs hk hv ok
  have F := ((Frg.nil w).box 48 #[s, .int .i64 (q.j : Nat), .int .i64 3, .float .f32 (q.ta), .float .f32 (q.tb), .float .f32 (q.tc), .float .f32 (q.tx), .float .f32 (q.ty), .int .i64 2, .float .f32 (q.da), .float .f32 (q.db), .float .f32 (q.dc), .float .f32 (q.dx), .float .f32 (q.dy), .float .f32 (q.l)])
  go_enter Try.func45, Try.ntmps45
  go_wp2_with (first | (go_at_call 61; ((with_reducible refine (HV.out _ _ F.below (F.row (by first | exact m0 | exact m1 | exact m2 | exact m3 | exact m4 | exact m5))).mono ?_); rintro e w1 ⟨rfl, m, rfl⟩; replace F := F.drewN m)) | (go_at_call 56; ((with_reducible refine (hIn.out _).mono ?_); rintro e w1 ⟨rfl, rfl⟩)) | (go_at_call 63; ((with_reducible refine (HCP.out _ _ F.below (F.row (by first | exact m0 | exact m1 | exact m2 | exact m3 | exact m4 | exact m5))).mono ?_); rintro e w2 ⟨s', rfl, ho, hl⟩; have OC := hid (OwnS.one ho); replace F := F.own1 hl ho; clear ho hl)) | (refine wpList_storeG F rfl rfl rfl rfl rfl infoStr rfl (one_head OC.out rfl) ?_; clear F; intro W3 F zW; clear zW; replace F := hid (toSpB (B' := w.heap.size + 1) F n1 (by simp [rowF]) (by omega) (by simp))))
  go_loopw [7] (fun i wr => ∃ j : Nat, j ≤ K + 1 ∧ i = .int .i64 j ∧ Hid (∀ m, m < j → silS (goS q (fun _ => 0) m) = false) ∧ Hid (Frg w wr [spF (w.heap.size + 1) (w2.heap.size + 1) w2.heap.size (goS q (fun _ => 0) j), rowF w.heap.size 48 #[s, .int .i64 (q.j : Nat), .int .i64 3, .float .f32 (q.ta), .float .f32 (q.tb), .float .f32 (q.tc), .float .f32 (q.tx), .float .f32 (q.ty), .int .i64 2, .float .f32 (q.da), .float .f32 (q.db), .float .f32 (q.dc), .float .f32 (q.dx), .float .f32 (q.dy), .float .f32 (q.l)]])) (fun i _ => (K + 1) - (intOf i).toNat)
  case atStart => exact ⟨0, by omega, rfl, fun m hm => absurd hm (by omega), F.out⟩
  case round =>
    obtain ⟨j, hj, rfl, HJ, FJ⟩ := hrel
    clear F
    by_cases hlt : j ≤ K
    · have hjK : (j : Int) ≤ K := by omega
      cases hs : silS (goS q (fun _ => 0) j)
      · have hS := hid (fun B' C' g w' (h : SpS w' B' C' g (goS q (fun _ => 0) j)) => s_l03SilentSp B' C' g _ w' h (HO.out j))
        rw [hs] at hS
        replace hs := hid hs
        go_wp2_with (first | (go_at_call 82; ((with_reducible refine (hS.out _ _ _ _ (Frg.sp FJ.out m0)).mono ?_); rintro e w3 ⟨rfl, m3, rfl⟩; replace FJ := hid (FJ.out.drewN m3))) | (go_at_call 76; ((with_reducible refine (s_l03Step _ _ _ _ 0 _ (Frg.sp FJ.out m0) (HO.out j) fits_zero).mono ?_); rintro e w4 ⟨o4, rfl, ho4, fo4, hsp, hch⟩; replace FJ := hid (FJ.out.chg0 (e' := spF _ _ _ (stepS (goS q (fun _ => 0) j) 0)) hch hsp rfl rfl); clear hsp hch ho4 fo4)))
        go_roundw
        case rel => exact ⟨j + 1, by omega, by go_num, fun m hm => by rcases Nat.lt_or_ge m j with h | h; exact HJ.out m h; rw [show m = j by omega]; exact hs.out, FJ⟩
        case measure => simp [intOf]; omega
      · have hS := hid (fun B' C' g w' (h : SpS w' B' C' g (goS q (fun _ => 0) j)) => s_l03SilentSp B' C' g _ w' h (HO.out j))
        rw [hs] at hS
        replace hs := hid hs
        go_wp2_with (first | (go_at_call 82; ((with_reducible refine (hS.out _ _ _ _ (Frg.sp FJ.out m0)).mono ?_); rintro e w3 ⟨rfl, m3, rfl⟩; replace FJ := hid (FJ.out.drewN m3))))
        go_ret2
        exact ⟨_, _, rfl, .inl ⟨j, rfl, rfl, by omega, hs.out, HJ.out⟩, FJ.out.below⟩
    · have hjK : ¬ (j : Int) ≤ K := by omega
      obtain rfl : j = K + 1 := by omega
      go_wp2
      go_ret2
      exact ⟨_, _, rfl, .inr ⟨rfl, rfl, fun i hi => HJ.out i (by omega)⟩, FJ.out.below⟩
theorem both_StepsToSilence (x : Nat → Nat) (n : Nat) (k tk : Int) (ta tb tc tx ty : Nat) (dk : Int) (da db dc dx dy l : Nat) (m : Int) (hw : (Lit.int .i64 k).wf = true ∧ (Lit.int .i64 tk).wf = true ∧ fits .f32 ta ∧ fits .f32 tb ∧ fits .f32 tc ∧ fits .f32 tx ∧ fits .f32 ty ∧ (Lit.int .i64 dk).wf = true ∧ fits .f32 da ∧ fits .f32 db ∧ fits .f32 dc ∧ fits .f32 dx ∧ fits .f32 dy ∧ fits .f32 l) : ∃ (ar0 ar1 : Int), (∀ (w : World) (B : Nat) (u : Value), RdS w B u x n → Calls Try.prog 45 #[.agg #[u, .int .i64 k, .int .i64 tk, .float .f32 ta, .float .f32 tb, .float .f32 tc, .float .f32 tx, .float .f32 ty, .int .i64 dk, .float .f32 da, .float .f32 db, .float .f32 dc, .float .f32 dx, .float .f32 dy, .float .f32 l], .int .i64 m] w (Out_ii ar0 ar1 w)) ∧ (∀ (w : World) (B : Nat) (u : Value), RdS w B u x n → Calls Try.prog 46 #[.agg #[u, .int .i64 k, .int .i64 tk, .float .f32 ta, .float .f32 tb, .float .f32 tc, .float .f32 tx, .float .f32 ty, .int .i64 dk, .float .f32 da, .float .f32 db, .float .f32 dc, .float .f32 dx, .float .f32 dy, .float .f32 l], .int .i64 m] w (Out_ii ar0 ar1 w)) := by
  obtain ⟨hk, _, h1, h2, h3, h4, h5, _, g1, g2, g3, g4, g5, hl⟩ := hw
  cases hv : okStr n k tk ta tb tc tx ty dk da db dc dx dy l
  · exact ⟨0, 1, fun w B u h => s_StepsToSilence_no B u x n k tk ta tb tc tx ty dk da db dc dx dy l m w h hk hv, fun w B u h => i_StepsToSilence_no B u x n k tk ta tb tc tx ty dk da db dc dx dy l m w h ⟨h1, h2, h3, h4, h5⟩ ⟨g1, g2, g3, g4, g5⟩ hl hv⟩
  · obtain ⟨j, rfl, rfl, rfl, ok⟩ := okStr_q (x := x) hv ⟨h1, h2, h3, h4, h5⟩ ⟨g1, g2, g3, g4, g5⟩ hl
    by_cases hm : m < 0 ∨ 100000 < m
    · exact ⟨_, _, fun w B u h => s_StepsToSilence_out B u (⟨x, n, j, ta, tb, tc, tx, ty, da, db, dc, dx, dy, l⟩ : StS) m w h ok hk hv hm, fun w B u h => i_StepsToSilence_out B u (⟨x, n, j, ta, tb, tc, tx, ty, da, db, dc, dx, dy, l⟩ : StS) m w h ok hv hm⟩
    · obtain ⟨K, rfl⟩ : ∃ K : Nat, m = K := ⟨m.toNat, by omega⟩
      obtain ⟨n0, d0, hr⟩ := ResSS.ex (⟨x, n, j, ta, tb, tc, tx, ty, da, db, dc, dx, dy, l⟩ : StS) K
      refine ⟨n0, d0, fun w B u h => (s_StepsToSilence_yes B u (⟨x, n, j, ta, tb, tc, tx, ty, da, db, dc, dx, dy, l⟩ : StS) K w h ok hk hv (by omega)).mono ?_, fun w B u h => (i_StepsToSilence_yes B u (⟨x, n, j, ta, tb, tc, tx, ty, da, db, dc, dx, dy, l⟩ : StS) K w h ok hv (by omega)).mono ?_⟩
      all_goals
        rintro e w' ⟨n1, d1, rfl, hr1, hl1⟩
        obtain ⟨rfl, rfl⟩ := hr.one hr1
        exact ⟨rfl, hl1⟩
end Go.Proofs.Ytmacednkpjfokaa

/- Filling a list, one by one. Nothing here names a program. -/
namespace Go.Fk
open Go Go.RowKit
/-- So many outputs, then the inputs. -/
def upto (j : Nat) (h z : Nat → Nat) : Nat → Nat := fun i => if i < j then h i else z i
theorem upto_zero (h z : Nat → Nat) : upto 0 h z = z := by funext i; simp [upto]
theorem upto_set (j : Nat) (h z : Nat → Nat) (r : Nat) : (fun i => if i = j then r else upto j h z i) = upto (j + 1) (fun i => if i = j then r else h i) z := by
  funext i
  unfold upto
  by_cases e : i = j
  · subst e; simp
  · by_cases l : i < j
    · simp [e, l, show i < j + 1 by omega]
    · simp [e, l, show ¬ i < j + 1 by omega]
theorem upto_full (h z : Nat → Nat) : ftab .f32 (upto 16 h z) 16 = ftab .f32 h 16 := ftab_congr (fun j hj => if_pos hj)
end Go.Fk

/- stepsOf and blockOf over a loop. -/
namespace Go.Fk
open Go Go.RowKit
theorem flist_tabL (h : Nat → Nat) (n : Nat) : (flist h n).toArray = ftab .f32 h n := by
  apply Array.ext_getElem?
  intro i
  by_cases hi : i < n
  · rw [List.getElem?_toArray, flist_get' _ hi, get_ftab _ _ _ _ hi]
  · rw [Array.getElem?_eq_none (by simp [flist_length]; omega), Array.getElem?_eq_none (by rw [size_ftab]; omega)]
theorem one_flistL (h : Nat → Nat) (n : Nat) : (flist h n).toArray.all (·.oneCell') = true := by rw [flist_tabL]; exact one_ftab _ _ _
/-- The cells of a slice, as a list. -/
theorem rows_ofL {cs : Array Value} {o n : Nat} {x : Nat → Nat} (hx : ∀ i, i < n → ∃ y, cs[o + i]? = some (.float .f32 y) ∧ fits .f32 y ∧ can .f32 y = x i) : ∃ h : Nat → Nat, (∀ i, i < n → fits .f32 (h i) ∧ can .f32 (h i) = x i) ∧ ∀ j, j < (flist h n).length → cs[o + j]? = (flist h n)[j]? := by
  refine ⟨fun i => if hi : i < n then Classical.choose (hx i hi) else 0, fun i hi => ?_, fun j hj => ?_⟩
  · have := Classical.choose_spec (hx i hi)
    simp only [hi, dif_pos]; exact this.2
  · rw [flist_length] at hj
    rw [flist_get' _ hj]
    have := Classical.choose_spec (hx j hj)
    simp only [hj, dif_pos]; exact this.1
theorem Chg.setNewL {S : Nat → Prop} {w w' : World} (h : Chg S w w') {a : Addr} (h1 : w.heap.size ≤ a.block) (v : Value) : Chg S w (w'.setCell a v) :=
  ⟨h.os, h.tape, h.output, by simpa using h.size, fun i hi hn => (Below.heap_setCell _ _ _ _ (by intro e; omega)).trans (h.block i hi hn)⟩
theorem stepS_congr (q : StS) {a b : Nat} (h : can .f32 a = can .f32 b) : stepS q a = stepS q b := by
  have e : nextS q a = nextS q b := by rw [← nextS_can q a, h, nextS_can]
  unfold stepS
  rw [e]
theorem goS_congr {q : StS} {f f' : Nat → Nat} : ∀ {n : Nat}, (∀ i, i < n → can .f32 (f i) = can .f32 (f' i)) → goS q f n = goS q f' n
  | 0, _ => rfl
  | n + 1, h => by
    show stepS (goS q f n) (f n) = stepS (goS q f' n) (f' n)
    rw [goS_congr (fun i hi => h i (by omega)), stepS_congr _ (h n (by omega))]
theorem outS_congr {q : StS} {f f' : Nat → Nat} {n : Nat} (h : ∀ i, i < n → can .f32 (f i) = can .f32 (f' i)) : outS q f n = outS q f' n := by
  unfold outS; rw [goS_congr h]
end Go.Fk
namespace Go.Proofs.Ytmacednkpjfokaa
open Go.RowKit Go.Fk
theorem arr16L (a : Addr) (cap : Nat) (w : World) : (Instr.arrayAt 29 (.slice (some a) 16 cap)).run Try.prog w = .ok (.pointer (some a)) w := by
  unfold Instr.arrayAt
  rw [Sem.run_bind, run_underlying Try.underlying29 w]
  simp [Result.andThen]
theorem LpS.le {w w' : World} {B C g : Nat} {q : StS} (h : LpS w B C g q) (hl : Fk.le w w') (hC : C ≤ w.heap.size) : LpS w' B C g q := h.ok (fun k _ b => hl.block k (Nat.lt_of_lt_of_le b hC))
set_option maxRecDepth 100000 in
set_option maxHeartbeats 4000000 in
theorem i_stepsL (B C g D : Nat) (q : StS) (x : Nat → Nat) (n : Nat) (s : Value) (w : World) (hn : n ≤ 1048576) (h : LpS w B C g q) (fit : q.Fit) (hC : C ≤ w.heap.size) (hs : ∀ w', Chg (rng B C) w w' → RdS w' D s x n) :
    Calls Try.prog 80 #[.iface 110 (.pointer (some ⟨g, 0, none⟩)), s] w fun e w' => ∃ s', e = .returned s' ∧ OwnS w' w.heap.size w'.heap.size s' (outS q x) n ∧ LpS w' B C g (goS q x n) ∧ Chg (rng B C) w w' := by
  have HM := fun w => makeF n (by omega) w
  have Z := hid (hs w (Chg.refl _ w))
  have HS := hid hs
  have HL := hid h
  have FIT := hid fit
  clear hs h
  go_enter Try.func80, Try.ntmps80
  go_wp2_with (with_reducible refine wpList_lenR rfl rfl rfl Try.underlying40 Z.out ?_)
  go_loopw [13] (fun i wr => ∃ j : Nat, j ≤ n ∧ i = .int .i64 j ∧ ∃ y : Nat → Nat, Hid (∀ i, i < j → fits .f32 (y i) ∧ can .f32 (y i) = outS q x i) ∧ Hid (LpS wr B C g (goS q x j)) ∧ Hid (Row wr w.heap.size 22 (ftab .f32 (upto j y (fun _ => 0)) n)) ∧ Hid (Chg (rng B C) w wr)) (fun i _ => n - (intOf i).toNat)
  case atStart => exact ⟨0, by omega, rfl, fun _ => 0, fun m hm => absurd hm (by omega), LpS.le HL.out (le_alloc w _) hC, by rw [upto_zero]; exact Row.new w _ _, Chg.of_le (le_alloc w _)⟩
  case round =>
    obtain ⟨j, hj, rfl, y, HJ, HB, HR, HC⟩ := hrel
    clear HM
    by_cases hlt : j < n
    · rcases HS.out _ HC.out with ⟨_, h0⟩ | ⟨a, cap, rfl, hc, hm, hx⟩
      · omega
      obtain ⟨_, p, c1, fp, ep⟩ := hx j hlt
      have FP := hid fp
      have EP : Hid (can .f32 p = can .f32 (x j)) := by unfold Hid; rw [← ep, can_can]
      have OKJ := hid (fit.run x j).ok
      clear hx fp ep
      go_wp2_with (first | (go_at_call 78; ((with_reducible refine (i_loopStep _ _ _ _ p _ HB.out OKJ.out FP.out).mono ?_); rintro e w4 ⟨r, rfl, hr, fr, hlb, hch⟩; rw [stepS_congr _ EP.out] at hlb; have HB4 := hid hlb; have HR4 := hid (hch.row HR.out (fun e => by have := e.2; omega)); have HC4 := hid (HC.out.trans hch); have HRR := hid hr; have cc := HR4.out.ftab hlt; have ff := HR4.out.frozen j; clear hlb hch hr)))
      go_roundw
      case rel =>
        refine ⟨j + 1, by omega, by go_num, fun i => if i = j then r else y i, fill_step (p := fun i v => fits .f32 v ∧ can .f32 v = outS q x i) HJ.out ⟨fr, HRR.out⟩, LpS.ok HB4.out (fun k _ b => Below.heap_setCell _ _ _ _ (by intro e; have e' : k = w.heap.size := e; omega)), ?_, HC4.out.setNewL (Nat.le_refl _) _⟩
        have F4 := HR4.out.set j (.float .f32 r)
        rw [set_ftab, upto_set] at F4
        exact F4
      case measure => simp [intOf]; omega
    · obtain rfl : j = n := by omega
      rw [show (ftab .f32 (upto j y (fun _ => 0)) j) = ftab .f32 y j from ftab_congr (fun i hi => if_pos hi)] at HR
      go_wp2
      go_ret
      exact ⟨_, rfl, .inr ⟨w.heap.size, 0, j, _, rfl, Nat.le_refl _, by unfold maxLen; omega, Nat.le_refl _, HR.out.lt, HR.out, fun i hi => ⟨y i, by rw [Nat.zero_add]; exact get_ftab .f32 y j i hi, (HJ.out i hi).1, (HJ.out i hi).2⟩⟩, HB.out, HC.out⟩
set_option maxRecDepth 100000 in
set_option maxHeartbeats 4000000 in
theorem i_blockL (B C g : Nat) (q : StS) (z : Nat → Nat) (w : World) (h : LpS w B C g q) (fit : q.Fit) (hC : C ≤ w.heap.size) (hz : ∀ j, j < 16 → fits .f32 (z j)) :
    Calls Try.prog 53 #[.iface 110 (.pointer (some ⟨g, 0, none⟩)), .agg (ftab .f32 z 16)] w fun e w' => ∃ h' : Nat → Nat, e = .returned (.agg (ftab .f32 h' 16)) ∧ (∀ j, j < 16 → fits .f32 (h' j) ∧ can .f32 (h' j) = outS q (fun i => can .f32 (z i)) j) ∧ LpS w' B C g (goS q (fun i => can .f32 (z i)) 16) ∧ Chg (rng B C) w w' := by
  have F := ((Frg.nil w).box 29 (ftab .f32 z 16)).box 29 #[.float .f32 0, .float .f32 0, .float .f32 0, .float .f32 0, .float .f32 0, .float .f32 0, .float .f32 0, .float .f32 0, .float .f32 0, .float .f32 0, .float .f32 0, .float .f32 0, .float .f32 0, .float .f32 0, .float .f32 0, .float .f32 0]
  simp only [World.size_alloc] at F
  have HST := hid (fun (w1 : World) (hl : le w w1) (hr : Row w1 w.heap.size 29 (ftab .f32 z 16)) => i_stepsL B C g (w.heap.size + 1) q (fun i => can .f32 (z i)) 16 (.slice (some ⟨w.heap.size, 0, none⟩) 16 16) w1 (by omega) (LpS.le h hl hC) fit (Nat.le_trans hC hl.size) (fun w5 hc => .inr ⟨⟨w.heap.size, 0, none⟩, 16, rfl, Nat.le_refl _, by decide, fun i hi => ⟨Nat.lt_succ_self _, z i, by rw [add_none, Nat.zero_add]; exact (hc.row hr (fun e => by have := e.2; omega)).ftab hi, hz i hi, rfl⟩⟩))
  clear h hz
  go_enter Try.func53, Try.ntmps53
  go_wp2_with (first | (go_at_call 80; ((with_reducible refine (HST.out _ F.below (F.row m1)).mono ?_); rintro e w3 ⟨s3, rfl, ho3, hlb3, hch3⟩; rcases ho3 with ⟨_, h0⟩ | ⟨b9, o9, cap9, cs9, rfl, hc9, hm9, hb9, hb9', hr9, hx9⟩; (cases h0); obtain ⟨h', hh, hcs⟩ := rows_ofL hx9; have HAP := fun w => arr16L ⟨b9, o9, none⟩ cap9 w; have R1 := hid (hch3.row (F.row m0) (fun e => by have := e.2; omega)); have HL := hid hlb3; have HC3 := hid ((Chg.of_le F.below).trans hch3); have HR9 := hid hr9; have HH := hid hh; have HCS := hid hcs; clear hlb3 hch3 hr9 hx9 hh hcs)) | ((with_reducible refine at_loadU rfl rfl ?_); refine wpList_loadPR HR9.out rfl rfl rfl Try.underlying29 rfl (flist h' 16) HCS.out infoBlk (flist_length _ _) ?_) | (with_reducible refine stop_store rfl ?_))
  show wpList _ _ _ _ _ _
  refine wpList_storeD rfl rfl rfl (cells := (flist h' 16).toArray) rfl R1.out infoBlk rfl (one_flistL _ _) (fun w4 K => ?_)
  have R := hid K.row
  have kb := K.below w.heap.size w3 (Below.refl _ _) (by omega)
  have CC : Hid (Chg (rng B C) w w4) := ⟨kb.os.trans HC3.out.os, kb.tape.trans HC3.out.tape, kb.output.trans HC3.out.output, Nat.le_trans HC3.out.size kb.size, fun k hk hn => (kb.block k hk).trans (HC3.out.block k hk hn)⟩
  have LL := hid (LpS.ok HL.out (fun k _ b => K.block k (by omega)))
  clear K kb HL HC3 R1 HR9
  go_wp2
  exact bodyPost_ret (results_row1 rfl _ _ _ _ _ rfl R.out Try.underlying29 rfl infoBlk) rfl ⟨h', by rw [flist_tabL], HH.out, LL.out, CC.out⟩
end Go.Proofs.Ytmacednkpjfokaa

/- 'BlockOfString' of both. -/
namespace Go.Fk
open Go Go.RowKit
def Out_sB (xr0 : Nat → Nat) (nr0 : Nat) (kr0 tkr0 : Int) (tar0 tbr0 tcr0 txr0 tyr0 : Nat) (dkr0 : Int) (dar0 dbr0 dcr0 dxr0 dyr0 lr0 : Nat) (d : Int) (o : Nat → Nat) (w : World) (e : Ending) (w' : World) : Prop := ∃ (v0 : Value) (h : Nat → Nat), e = .returned (.tuple #[.agg #[v0, .int .i64 kr0, .int .i64 tkr0, .float .f32 tar0, .float .f32 tbr0, .float .f32 tcr0, .float .f32 txr0, .float .f32 tyr0, .int .i64 dkr0, .float .f32 dar0, .float .f32 dbr0, .float .f32 dcr0, .float .f32 dxr0, .float .f32 dyr0, .float .f32 lr0], .agg (ftab .f32 h 16), .int .i64 d]) ∧ OwnS w' w.heap.size w'.heap.size v0 xr0 nr0 ∧ (∀ j, j < 16 → can .f32 (h j) = o j) ∧ le w w'
theorem Frg.set3 {w0 w : World} {b0 b1 b2 : Fact} {post : List Fact} {g : Nat} {t : TypeId} {cs : Array Value} (h : Frg w0 w (b0 :: b1 :: b2 :: rowF g t cs :: post)) (i : Nat) (v : Value) : Frg w0 (w.setCell ⟨g, i, none⟩ v) (b0 :: b1 :: b2 :: rowF g t (cs.setIfInBounds i v) :: post) := Frg.setC [b0, b1, b2] h i v
end Go.Fk
namespace Go.Proofs.Ytmacednkpjfokaa
open Go.RowKit Go.Fk
set_option maxRecDepth 100000 in
set_option maxHeartbeats 4000000 in
theorem i_BlockOfString_no (B : Nat) (s : Value) (x : Nat → Nat) (n : Nat) (k tk : Int) (ta tb tc tx ty : Nat) (dk : Int) (da db dc dx dy l : Nat) (z : Nat → Nat) (w : World) (hs : RdS w B s x n) (hf : fits .f32 ta ∧ fits .f32 tb ∧ fits .f32 tc ∧ fits .f32 tx ∧ fits .f32 ty) (hg : fits .f32 da ∧ fits .f32 db ∧ fits .f32 dc ∧ fits .f32 dx ∧ fits .f32 dy) (hl2 : fits .f32 l) (hv : okStr n k tk ta tb tc tx ty dk da db dc dx dy l = false) :
    Calls Try.prog 40 #[.agg #[s, .int .i64 k, .int .i64 tk, .float .f32 ta, .float .f32 tb, .float .f32 tc, .float .f32 tx, .float .f32 ty, .int .i64 dk, .float .f32 da, .float .f32 db, .float .f32 dc, .float .f32 dx, .float .f32 dy, .float .f32 l], .agg (ftab .f32 z 16)] w (Out_sB (fun _ => 0) 0 0 0 0 0 0 0 0 0 0 0 0 0 0 0 1 (fun _ => 0) w) := by
  have HV := hid (fun (w' : World) (hl : le w w') => hv ▸ i_ValidStringR B s x n k tk ta tb tc tx ty dk da db dc dx dy l w' (hs.le hl) hf hg hl2)
  clear hs hv hf hg hl2
  have F := ((((Frg.nil w).box 48 #[s, .int .i64 k, .int .i64 tk, .float .f32 ta, .float .f32 tb, .float .f32 tc, .float .f32 tx, .float .f32 ty, .int .i64 dk, .float .f32 da, .float .f32 db, .float .f32 dc, .float .f32 dx, .float .f32 dy, .float .f32 l]).box 29 (ftab .f32 z 16)).box 48 #[.slice none 0 0, .int .i64 0, .int .i64 0, .float .f32 0, .float .f32 0, .float .f32 0, .float .f32 0, .float .f32 0, .int .i64 0, .float .f32 0, .float .f32 0, .float .f32 0, .float .f32 0, .float .f32 0, .float .f32 0]).box 29 #[.float .f32 0, .float .f32 0, .float .f32 0, .float .f32 0, .float .f32 0, .float .f32 0, .float .f32 0, .float .f32 0, .float .f32 0, .float .f32 0, .float .f32 0, .float .f32 0, .float .f32 0, .float .f32 0, .float .f32 0, .float .f32 0]
  simp only [World.size_alloc] at F
  go_enter Try.func40, Try.ntmps40
  go_wp2_with (first | ((with_reducible refine at_loadU rfl rfl ?_); first | (with_reducible refine wpList_loadG F rfl rfl rfl (by first | exact m0 | exact m1 | exact m2 | exact m3 | exact m4 | exact m5) Try.underlying48 rfl infoStr rfl ?_) | (with_reducible refine wpList_loadG F rfl rfl rfl (by first | exact m0 | exact m1 | exact m2 | exact m3 | exact m4 | exact m5) Try.underlying29 rfl infoBlk (size_ftab _ _ _) ?_)) | (go_at_call 66; ((with_reducible refine (HV.out _ F.below).mono ?_); rintro e w1 ⟨rfl, hl⟩; replace F := F.le hl; clear hl)) | ((with_reducible refine stop_store rfl ?_)))
  show wpList _ _ _ _ _ _
  refine wpList_storeD rfl rfl rfl (cells := #[.slice none 0 0, .int .i64 0, .int .i64 0, .float .f32 0, .float .f32 0, .float .f32 0, .float .f32 0, .float .f32 0, .int .i64 0, .float .f32 0, .float .f32 0, .float .f32 0, .float .f32 0, .float .f32 0, .float .f32 0]) rfl (F.row m1) infoStr rfl (by simp [Value.oneCell']) (fun w4 K => ?_)
  replace F := F.wr1 K
  clear K
  refine wpList_storeD rfl rfl rfl (cells := #[.float .f32 0, .float .f32 0, .float .f32 0, .float .f32 0, .float .f32 0, .float .f32 0, .float .f32 0, .float .f32 0, .float .f32 0, .float .f32 0, .float .f32 0, .float .f32 0, .float .f32 0, .float .f32 0, .float .f32 0, .float .f32 0]) rfl (F.row m0) infoBlk rfl (by simp [Value.oneCell']) (fun w5 K => ?_)
  have F7 := hid (F.wr0 K)
  clear K F
  go_wp2
  exact bodyPost_ret (results_cct rfl _ _ _ _ _ _ _ _ rfl (F7.out.row m1) Try.underlying48 rfl infoStr rfl (F7.out.row m0) Try.underlying29 rfl infoBlk) rfl ⟨_, fun _ => 0, rfl, .inl ⟨rfl, rfl⟩, fun j _ => (show can .f32 0 = 0 by decide), F7.out.below⟩
theorem lp_keeps {T : List (TypeId × Nat × (World → Array Value → Prop))} {w w' : World} {B C g : Nat} {q : StS} (k : keeps T w w') (h1 : ∀ x ∈ T, x.1 ≠ 22) (h2 : ∀ x ∈ T, x.1 ≠ 137) (h3 : ∀ x ∈ T, x.1 ≠ 88) (h : LpS w B C g q) : LpS w' B C g q := by
  obtain ⟨s, lo, hi, rt, rd, R, O, RT, RD, hh⟩ := h
  exact ⟨s, lo, hi, rt, rd, k.2 _ _ _ h2 R, keeps_own k h1 O, k.2 _ _ _ h3 RT, k.2 _ _ _ h3 RD, hh⟩
set_option maxRecDepth 100000 in
set_option maxHeartbeats 4000000 in
theorem i_BlockOfString_yes (B : Nat) (s : Value) (q : StS) (z : Nat → Nat) (w : World) (hs : RdS w B s q.x q.n) (ok : q.Ok) (hv : okStr q.n (q.j : Nat) 3 q.ta q.tb q.tc q.tx q.ty 2 q.da q.db q.dc q.dx q.dy q.l = true) (hz : ∀ j, j < 16 → fits .f32 (z j)) :
    Calls Try.prog 40 #[.agg #[s, .int .i64 (q.j : Nat), .int .i64 3, .float .f32 (q.ta), .float .f32 (q.tb), .float .f32 (q.tc), .float .f32 (q.tx), .float .f32 (q.ty), .int .i64 2, .float .f32 (q.da), .float .f32 (q.db), .float .f32 (q.dc), .float .f32 (q.dx), .float .f32 (q.dy), .float .f32 (q.l)], .agg (ftab .f32 z 16)] w (Out_sB ((goS q z 16)).x ((goS q z 16)).n (((goS q z 16)).j : Nat) 3 (((goS q z 16)).ta) (((goS q z 16)).tb) (((goS q z 16)).tc) (((goS q z 16)).tx) (((goS q z 16)).ty) 2 (((goS q z 16)).da) (((goS q z 16)).db) (((goS q z 16)).dc) (((goS q z 16)).dx) (((goS q z 16)).dy) ((goS q z 16)).l 0 (outS q z) w) := by
  have HV := hid (fun (w' : World) (hl : le w w') => hv ▸ i_ValidStringR B s q.x q.n (q.j : Nat) 3 q.ta q.tb q.tc q.tx q.ty 2 q.da q.db q.dc q.dx q.dy q.l w' (hs.le hl) ⟨ok.fta, ok.ftb, ok.ftc, ok.ftx, ok.fty⟩ ⟨ok.fda, ok.fdb, ok.fdc, ok.fdx, ok.fdy⟩ ok.fl)
  have HN := hid (fun (w' : World) (hl : le w w') => i_newLoop B s q w' (hs.le hl) ok)
  have HB := hid (fun (w' : World) (B' C' g : Nat) (h : LpS w' B' C' g (goS q z 16)) => show Calls Try.prog 79 #[.pointer (some ⟨g, 0, none⟩), .agg #[s, .int .i64 (q.j : Nat), .int .i64 3, .float .f32 (q.ta), .float .f32 (q.tb), .float .f32 (q.tc), .float .f32 (q.tx), .float .f32 (q.ty), .int .i64 2, .float .f32 (q.da), .float .f32 (q.db), .float .f32 (q.dc), .float .f32 (q.dx), .float .f32 (q.dy), .float .f32 (q.l)]] w' fun e w'' => ∃ s' lo hi, e = .returned (.agg #[s', .int .i64 ((goS q z 16).j : Nat), .int .i64 3, .float .f32 ((goS q z 16).ta), .float .f32 ((goS q z 16).tb), .float .f32 ((goS q z 16).tc), .float .f32 ((goS q z 16).tx), .float .f32 ((goS q z 16).ty), .int .i64 2, .float .f32 ((goS q z 16).da), .float .f32 ((goS q z 16).db), .float .f32 ((goS q z 16).dc), .float .f32 ((goS q z 16).dx), .float .f32 ((goS q z 16).dy), .float .f32 ((goS q z 16).l)]) ∧ OwnS w'' lo hi s' (goS q z 16).x (goS q z 16).n ∧ B' ≤ lo ∧ hi ≤ C' ∧ le w' w'' from by
    have hb := i_behind B' C' g (goS q z 16) s (q.j : Nat) q.tx q.ty q.dx q.dy w' h
    rw [goS_ta, goS_tb, goS_tc, goS_da, goS_db, goS_dc, goS_l] at hb
    rw [goS_ta, goS_tb, goS_tc, goS_da, goS_db, goS_dc, goS_l]
    exact hb)
  have HO := hid (fun j => ((show q.Fit from ⟨ok, hs.fit⟩).run z j).ok)
  have Hz := hid hz
  have HFit := hid (show q.Fit from ⟨ok, hs.fit⟩)
  have ix : Hid (∀ (j : Nat), j < 16 → ∀ w, (Instr.index 29 (.agg (ftab .f32 z 16)) (.int .i64 (j : Int))).run Try.prog w = .ok (.float .f32 (z j)) w) := fun j hj w => run_index_arr w Try.underlying29 Try.underlying22 (by kernel_rfl) hj (get_ftab .f32 z 16 j hj) .i64
  clear hs hv ok hz
  have F := ((((Frg.nil w).box 48 #[s, .int .i64 (q.j : Nat), .int .i64 3, .float .f32 (q.ta), .float .f32 (q.tb), .float .f32 (q.tc), .float .f32 (q.tx), .float .f32 (q.ty), .int .i64 2, .float .f32 (q.da), .float .f32 (q.db), .float .f32 (q.dc), .float .f32 (q.dx), .float .f32 (q.dy), .float .f32 (q.l)]).box 29 (ftab .f32 z 16)).box 48 #[.slice none 0 0, .int .i64 0, .int .i64 0, .float .f32 0, .float .f32 0, .float .f32 0, .float .f32 0, .float .f32 0, .int .i64 0, .float .f32 0, .float .f32 0, .float .f32 0, .float .f32 0, .float .f32 0, .float .f32 0]).box 29 #[.float .f32 0, .float .f32 0, .float .f32 0, .float .f32 0, .float .f32 0, .float .f32 0, .float .f32 0, .float .f32 0, .float .f32 0, .float .f32 0, .float .f32 0, .float .f32 0, .float .f32 0, .float .f32 0, .float .f32 0, .float .f32 0]
  simp only [World.size_alloc] at F
  go_enter Try.func40, Try.ntmps40
  go_wp2_with (first | ((with_reducible refine at_loadU rfl rfl ?_); first | (with_reducible refine wpList_loadG F rfl rfl rfl (by first | exact m0 | exact m1 | exact m2 | exact m3 | exact m4 | exact m5) Try.underlying48 rfl infoStr rfl ?_) | (with_reducible refine wpList_loadG F rfl rfl rfl (by first | exact m0 | exact m1 | exact m2 | exact m3 | exact m4 | exact m5) Try.underlying29 rfl infoBlk (size_ftab _ _ _) ?_)) | (go_at_call 66; ((with_reducible refine (HV.out _ F.below).mono ?_); rintro e w1 ⟨rfl, hl⟩; replace F := F.le hl; clear hl)) | (go_at_call 77; ((with_reducible refine (HN.out _ F.below).mono ?_); rintro e w2 ⟨g, rfl, hlp, hl⟩; replace F := F.push (e := lpF _ _ g q) hl hlp (Nat.le_refl _) (Nat.le_refl _); clear hlp hl)) | (go_at_call 53; ((with_reducible refine (i_blockL _ _ _ q z _ (Frg.lp F m0) HFit.out (Nat.le_refl _) Hz.out).mono ?_); rintro e w3 ⟨h, rfl, hh, hlp, hch⟩; rw [goS_congr (f' := z) (fun i _ => can_can _ _)] at hlp; replace F := F.chg0 (e' := lpF _ _ _ (goS q z 16)) hch hlp rfl rfl; have HH := hid hh; clear hlp hch hh)) | ((with_reducible refine stop_store rfl ?_)))
  have HJ : Hid (∀ j, j < 16 → can .f32 (h j) = outS q z j) := fun j hj => ((HH.out j hj).2).trans (outS_congr (fun i _ => can_can _ _))
  clear HH
  replace F := F.box 29 #[.float .f32 0, .float .f32 0, .float .f32 0, .float .f32 0, .float .f32 0, .float .f32 0, .float .f32 0, .float .f32 0, .float .f32 0, .float .f32 0, .float .f32 0, .float .f32 0, .float .f32 0, .float .f32 0, .float .f32 0, .float .f32 0]
  show wpList _ _ _ _ _ _
  refine wpList_storeD rfl rfl rfl (cells := ftab .f32 h 16) rfl (F.row m0) (by rw [size_ftab]; exact infoBlk) (by rw [size_ftab]; rfl) (one_ftab _ _ _) (fun w4 K => ?_)
  have FJ := F.wr0 K
  clear K F
  go_wp2
  obtain ⟨T, hT⟩ : ∃ T : List (TypeId × Nat × (World → Array Value → Prop)), T = [(48, 15, fun wa cs => ∃ s', cs = #[s', .int .i64 ((goS q z 16).j : Nat), .int .i64 3, .float .f32 ((goS q z 16).ta), .float .f32 ((goS q z 16).tb), .float .f32 ((goS q z 16).tc), .float .f32 ((goS q z 16).tx), .float .f32 ((goS q z 16).ty), .int .i64 2, .float .f32 ((goS q z 16).da), .float .f32 ((goS q z 16).db), .float .f32 ((goS q z 16).dc), .float .f32 ((goS q z 16).dx), .float .f32 ((goS q z 16).dy), .float .f32 ((goS q z 16).l)] ∧ NewS w.heap.size s' (goS q z 16).x (goS q z 16).n wa), (29, 16, fun _ cs => cs = ftab .f32 h 16)] := ⟨_, rfl⟩
  have tf : ∀ x ∈ T, x.1 ≠ 22 := by rw [hT]; intro x hx; simp only [List.mem_cons, List.not_mem_nil, or_false] at hx; rcases hx with rfl | rfl <;> (dsimp only; decide)
  have tl : ∀ x ∈ T, x.1 ≠ 137 := by rw [hT]; intro x hx; simp only [List.mem_cons, List.not_mem_nil, or_false] at hx; rcases hx with rfl | rfl <;> (dsimp only; decide)
  have tr : ∀ x ∈ T, x.1 ≠ 88 := by rw [hT]; intro x hx; simp only [List.mem_cons, List.not_mem_nil, or_false] at hx; rcases hx with rfl | rfl <;> (dsimp only; decide)
  have hm : ∀ x ∈ T, ∀ w w' cs, keeps T w w' → x.2.2 w cs → x.2.2 w' cs := by
    intro x hx wa wb cs k h'
    have hx' := hx
    rw [hT] at hx'
    simp only [List.mem_cons, List.not_mem_nil, or_false] at hx'
    rcases hx' with rfl | rfl
    · obtain ⟨s', e, hn⟩ := h'; exact ⟨s', e, hn.keeps k tf⟩
    · exact h'
  have hd : ∀ x ∈ T, ∀ y ∈ T, x.1 = y.1 → x = y := by
    rw [hT]; intro x hx y hy e
    simp only [List.mem_cons, List.not_mem_nil, or_false] at hx hy
    rcases hx with rfl | rfl <;> rcases hy with rfl | rfl <;> first | rfl | (simp at e; done) | exact absurd (show _ = _ from e) (by decide)
  have t1 : (48, 15, fun wa cs => ∃ s', cs = #[s', .int .i64 ((goS q z 16).j : Nat), .int .i64 3, .float .f32 ((goS q z 16).ta), .float .f32 ((goS q z 16).tb), .float .f32 ((goS q z 16).tc), .float .f32 ((goS q z 16).tx), .float .f32 ((goS q z 16).ty), .int .i64 2, .float .f32 ((goS q z 16).da), .float .f32 ((goS q z 16).db), .float .f32 ((goS q z 16).dc), .float .f32 ((goS q z 16).dx), .float .f32 ((goS q z 16).dy), .float .f32 ((goS q z 16).l)] ∧ NewS w.heap.size s' (goS q z 16).x (goS q z 16).n wa) ∈ T := by rw [hT]; exact List.mem_cons_self
  have t2 : (29, 16, fun (_ : World) cs => cs = ftab .f32 h 16) ∈ T := by rw [hT]; exact List.mem_cons_of_mem _ List.mem_cons_self
  clear hT
  have F1 := FJ.drewN 1
  have hlp := Frg.lp F1 m1
  have fl := F1.facts (lpF w1.heap.size w2.heap.size g (goS q z 16)) m1
  have fb := F1.facts (rowF (w.heap.size + 1 + 1 + 1) 29 #[.float .f32 0, .float .f32 0, .float .f32 0, .float .f32 0, .float .f32 0, .float .f32 0, .float .f32 0, .float .f32 0, .float .f32 0, .float .f32 0, .float .f32 0, .float .f32 0, .float .f32 0, .float .f32 0, .float .f32 0, .float .f32 0]) m2
  simp only [lpF, rowF] at fl fb
  have hBW : w.heap.size + 1 + 1 ≤ w.heap.size + 1 + 1 + 1 := by omega
  refine region_freeD (E := newF (w.heap.size + 1 + 1) T hm) (fun _ _ wa v => ∃ s', v = .agg #[s', .int .i64 ((goS q z 16).j : Nat), .int .i64 3, .float .f32 ((goS q z 16).ta), .float .f32 ((goS q z 16).tb), .float .f32 ((goS q z 16).tc), .float .f32 ((goS q z 16).tx), .float .f32 ((goS q z 16).ty), .int .i64 2, .float .f32 ((goS q z 16).da), .float .f32 ((goS q z 16).db), .float .f32 ((goS q z 16).dc), .float .f32 ((goS q z 16).dx), .float .f32 ((goS q z 16).dy), .float .f32 ((goS q z 16).l)] ∧ NewS w.heap.size s' (goS q z 16).x (goS q z 16).n wa) (by kernel_rfl) (by kernel_rfl) ?_
  refine wpFreeD_one rfl (.pointer (some ⟨g, 0, none⟩)) (fun wa _ => by kernel_rfl) ?_
  simp only [Act.put, List.setIfInBounds_toArray, List.set_cons_succ, List.set_cons_zero]
  refine wpFreeD_loadF rfl rfl rfl (F1.row m5) (by omega) Try.underlying48 rfl infoStr rfl ?_
  simp only [Act.put, List.setIfInBounds_toArray, List.set_cons_succ, List.set_cons_zero]
  refine wpFreeD_callB rfl rfl Try.func79 (by kernel_rfl) (by kernel_rfl) (args := #[.pointer (some ⟨g, 0, none⟩), .agg #[s, .int .i64 (q.j : Nat), .int .i64 3, .float .f32 (q.ta), .float .f32 (q.tb), .float .f32 (q.tc), .float .f32 (q.tx), .float .f32 (q.ty), .int .i64 2, .float .f32 (q.da), .float .f32 (q.db), .float .f32 (q.dc), .float .f32 (q.dx), .float .f32 (q.dy), .float .f32 (q.l)]]) (by simp [Act.eval]) (fun v wa wb hw hv => by obtain ⟨s', e, hn⟩ := hv; exact ⟨s', e, hn.keeps (newF_keeps hw) tf⟩) (fun wa ha _ => (HB.out wa _ _ _ (lp_keeps (newF_keeps ha) tf tl tr hlp)).mono ?_) ?_
  · rintro e wb ⟨s', lo, hi, rfl, ho, b1, b2, hl⟩
    exact ⟨_, rfl, hl, s', rfl, ho.mono (Nat.le_trans fl.1 b1) (Nat.le_trans b2 (Nat.le_trans fl.2.1 (Nat.le_trans ha.2.2.2.1 hl.size)))⟩
  rintro v ⟨_, _, _, s5, rfl, hn5⟩
  have OC5 := hid (OwnS.one hn5)
  clear hn5
  simp only [Act.put, List.setIfInBounds_toArray, List.set_cons_succ, List.set_cons_zero]
  have RB8 := hid (F1.row m0)
  refine wpFreeD_one rfl (.agg (ftab .f32 h 16)) (fun wa ha => by
    obtain ⟨cs8, hr8, e8⟩ := ha.2.2.2.2.2.1 _ _ t2 ⟨_, RB8.out, rfl⟩
    simp only [] at e8
    subst e8
    have := run_loadVar_row (P := Try.prog) wa _ 29 29 _ (0, 0) _ hr8 Try.underlying29 rfl (by rw [size_ftab]; exact infoBlk)
    simp [execOp, Act.eval, Instr.loadAt, Instr.sureAddr, this, Result.andThen]) ?_
  simp only [Act.put, List.setIfInBounds_toArray, List.set_cons_succ, List.set_cons_zero]
  refine wpFreeD_storeF rfl rfl rfl (cells := #[s5, .int .i64 ((goS q z 16).j : Nat), .int .i64 3, .float .f32 ((goS q z 16).ta), .float .f32 ((goS q z 16).tb), .float .f32 ((goS q z 16).tc), .float .f32 ((goS q z 16).tx), .float .f32 ((goS q z 16).ty), .int .i64 2, .float .f32 ((goS q z 16).da), .float .f32 ((goS q z 16).db), .float .f32 ((goS q z 16).dc), .float .f32 ((goS q z 16).dx), .float .f32 ((goS q z 16).dy), .float .f32 ((goS q z 16).l)]) rfl t1 (fun wa _ hbe => by
    obtain ⟨s', e, hn⟩ := (hbe ⟨2, Ground.data⟩ (by simp) (by kernel_rfl)).1.2 rfl
    obtain rfl : s5 = s' := by simpa using e
    exact ⟨s5, rfl, hn⟩) hd (Nat.le_refl _) (fun wa ha _ => ha.2.2.2.2.2.2.1 _ _ t1 ⟨_, F1.row m3, rfl⟩) infoStr rfl (one_head OC5.out rfl) ?_
  simp only [Act.put, List.setIfInBounds_toArray, List.set_cons_succ, List.set_cons_zero]
  refine wpFreeD_storeF rfl rfl rfl (cells := ftab .f32 h 16) rfl t2 (fun _ _ _ => rfl) hd hBW (fun wa ha _ => ha.2.2.2.2.2.2.1 _ _ t2 ⟨_, F1.row m2, rfl⟩) infoBlk (size_ftab _ _ _) (one_ftab _ _ _) ?_
  simp only [Act.put, List.setIfInBounds_toArray, List.set_cons_succ, List.set_cons_zero]
  refine wpFreeD_one rfl (.int .i64 0) (fun wa _ => by kernel_rfl) ?_
  simp only [Act.put, List.setIfInBounds_toArray, List.set_cons_succ, List.set_cons_zero]
  refine wpFreeD_nil (fun wR hwR hF => ?_)
  obtain ⟨_, R4, s4, rfl, ho4⟩ := (hF 4).1.1.2 rfl
  obtain ⟨_, R5, rfl⟩ := (hF 5).1.2 rfl
  have L := hid (F1.below.trans (newF_below hwR (C := w.heap.size) (by omega) F1.size))
  have R4 := hid R4; have R5 := hid R5; have O4 := hid ho4
  clear hwR hF F1 FJ hd t1 t2 hlp fl fb ho4
  go_wp2
  exact bodyPost_ret (results_cct rfl _ _ _ _ _ _ _ _ rfl R4.out Try.underlying48 rfl infoStr rfl R5.out Try.underlying29 rfl (by rw [size_ftab]; exact infoBlk)) rfl ⟨_, h, rfl, O4.out, HJ.out, L.out⟩
set_option maxRecDepth 100000 in
set_option maxHeartbeats 4000000 in
theorem s_BlockOfString_no (B : Nat) (s : Value) (x : Nat → Nat) (n : Nat) (k tk : Int) (ta tb tc tx ty : Nat) (dk : Int) (da db dc dx dy l : Nat) (z : Nat → Nat) (w : World) (hs : RdS w B s x n) (hk : (Lit.int .i64 k).wf = true) (hv : okStr n k tk ta tb tc tx ty dk da db dc dx dy l = false) :
    Calls Try.prog 39 #[.agg #[s, .int .i64 k, .int .i64 tk, .float .f32 ta, .float .f32 tb, .float .f32 tc, .float .f32 tx, .float .f32 ty, .int .i64 dk, .float .f32 da, .float .f32 db, .float .f32 dc, .float .f32 dx, .float .f32 dy, .float .f32 l], .agg (ftab .f32 z 16)] w (Out_sB (fun _ => 0) 0 0 0 0 0 0 0 0 0 0 0 0 0 0 0 1 (fun _ => 0) w) := by
  have HV := hid (fun (w' : World) (g : Nat) (hl : le w w') (R : Row w' g 48 #[s, .int .i64 k, .int .i64 tk, .float .f32 ta, .float .f32 tb, .float .f32 tc, .float .f32 tx, .float .f32 ty, .int .i64 dk, .float .f32 da, .float .f32 db, .float .f32 dc, .float .f32 dx, .float .f32 dy, .float .f32 l]) => hv ▸ s_l03Ok B s x n k tk ta tb tc tx ty dk da db dc dx dy l g w' (hs.le hl) R hk)
  clear hs hk hv
  have F := ((((Frg.nil w).box 48 #[s, .int .i64 k, .int .i64 tk, .float .f32 ta, .float .f32 tb, .float .f32 tc, .float .f32 tx, .float .f32 ty, .int .i64 dk, .float .f32 da, .float .f32 db, .float .f32 dc, .float .f32 dx, .float .f32 dy, .float .f32 l]).box 29 (ftab .f32 z 16)).box 48 #[.slice none 0 0, .int .i64 0, .int .i64 0, .float .f32 0, .float .f32 0, .float .f32 0, .float .f32 0, .float .f32 0, .int .i64 0, .float .f32 0, .float .f32 0, .float .f32 0, .float .f32 0, .float .f32 0, .float .f32 0]).box 29 #[.float .f32 0, .float .f32 0, .float .f32 0, .float .f32 0, .float .f32 0, .float .f32 0, .float .f32 0, .float .f32 0, .float .f32 0, .float .f32 0, .float .f32 0, .float .f32 0, .float .f32 0, .float .f32 0, .float .f32 0, .float .f32 0]
  simp only [World.size_alloc] at F
  go_enter Try.func39, Try.ntmps39
  go_wp2_with (first | (go_at_call 61; ((with_reducible refine (HV.out _ _ F.below (F.row (by first | exact m0 | exact m1 | exact m2 | exact m3 | exact m4 | exact m5))).mono ?_); rintro e w1 ⟨rfl, m, rfl⟩; replace F := F.drewN m)) | ((with_reducible refine stop_store rfl ?_)))
  show wpList _ _ _ _ _ _
  refine wpList_storeD rfl rfl rfl (cells := #[.slice none 0 0, .int .i64 0, .int .i64 0, .float .f32 0, .float .f32 0, .float .f32 0, .float .f32 0, .float .f32 0, .int .i64 0, .float .f32 0, .float .f32 0, .float .f32 0, .float .f32 0, .float .f32 0, .float .f32 0]) rfl (F.row m1) infoStr rfl (by simp [Value.oneCell']) (fun w4 K => ?_)
  replace F := F.wr1 K
  clear K
  refine wpList_storeD rfl rfl rfl (cells := #[.float .f32 0, .float .f32 0, .float .f32 0, .float .f32 0, .float .f32 0, .float .f32 0, .float .f32 0, .float .f32 0, .float .f32 0, .float .f32 0, .float .f32 0, .float .f32 0, .float .f32 0, .float .f32 0, .float .f32 0, .float .f32 0]) rfl (F.row m0) infoBlk rfl (by simp [Value.oneCell']) (fun w5 K => ?_)
  have F7 := hid (F.wr0 K)
  clear K F
  go_wp2
  exact bodyPost_ret (results_cct rfl _ _ _ _ _ _ _ _ rfl (F7.out.row m1) Try.underlying48 rfl infoStr rfl (F7.out.row m0) Try.underlying29 rfl infoBlk) rfl ⟨_, fun _ => 0, rfl, .inl ⟨rfl, rfl⟩, fun j _ => (show can .f32 0 = 0 by decide), F7.out.below⟩
set_option maxRecDepth 100000 in
set_option maxHeartbeats 4000000 in
theorem s_BlockOfString_yes (B : Nat) (s : Value) (q : StS) (z : Nat → Nat) (w : World) (hs : RdS w B s q.x q.n) (ok : q.Ok) (hk : (Lit.int .i64 (q.j : Nat)).wf = true) (hv : okStr q.n (q.j : Nat) 3 q.ta q.tb q.tc q.tx q.ty 2 q.da q.db q.dc q.dx q.dy q.l = true) (hz : ∀ j, j < 16 → fits .f32 (z j)) :
    Calls Try.prog 39 #[.agg #[s, .int .i64 (q.j : Nat), .int .i64 3, .float .f32 (q.ta), .float .f32 (q.tb), .float .f32 (q.tc), .float .f32 (q.tx), .float .f32 (q.ty), .int .i64 2, .float .f32 (q.da), .float .f32 (q.db), .float .f32 (q.dc), .float .f32 (q.dx), .float .f32 (q.dy), .float .f32 (q.l)], .agg (ftab .f32 z 16)] w (Out_sB ((goS q z 16)).x ((goS q z 16)).n (((goS q z 16)).j : Nat) 3 (((goS q z 16)).ta) (((goS q z 16)).tb) (((goS q z 16)).tc) (((goS q z 16)).tx) (((goS q z 16)).ty) 2 (((goS q z 16)).da) (((goS q z 16)).db) (((goS q z 16)).dc) (((goS q z 16)).dx) (((goS q z 16)).dy) ((goS q z 16)).l 0 (outS q z) w) := by
  have HV := hid (fun (w' : World) (g : Nat) (hl : le w w') (R : Row w' g 48 #[s, .int .i64 (q.j : Nat), .int .i64 3, .float .f32 (q.ta), .float .f32 (q.tb), .float .f32 (q.tc), .float .f32 (q.tx), .float .f32 (q.ty), .int .i64 2, .float .f32 (q.da), .float .f32 (q.db), .float .f32 (q.dc), .float .f32 (q.dx), .float .f32 (q.dy), .float .f32 (q.l)]) => hv ▸ s_l03Ok B s q.x q.n (q.j : Nat) 3 q.ta q.tb q.tc q.tx q.ty 2 q.da q.db q.dc q.dx q.dy q.l g w' (hs.le hl) R hk)
  have HCP := hid (fun (w' : World) (g : Nat) (hl : le w w') (R : Row w' g 48 #[s, .int .i64 (q.j : Nat), .int .i64 3, .float .f32 (q.ta), .float .f32 (q.tb), .float .f32 (q.tc), .float .f32 (q.tx), .float .f32 (q.ty), .int .i64 2, .float .f32 (q.da), .float .f32 (q.db), .float .f32 (q.dc), .float .f32 (q.dx), .float .f32 (q.dy), .float .f32 (q.l)]) => s_l03Copy B s q.x q.n (q.j : Nat) 3 q.ta q.tb q.tc q.tx q.ty 2 q.da q.db q.dc q.dx q.dy q.l g w' (hs.le hl) R ok.n1 ok.n2)
  have HO := hid (fun j => ((show q.Fit from ⟨ok, hs.fit⟩).run z j).ok)
  have n1 := ok.n1
  have Hz := hid hz
  clear hs hk hv ok hz
  have F := ((((Frg.nil w).box 48 #[s, .int .i64 (q.j : Nat), .int .i64 3, .float .f32 (q.ta), .float .f32 (q.tb), .float .f32 (q.tc), .float .f32 (q.tx), .float .f32 (q.ty), .int .i64 2, .float .f32 (q.da), .float .f32 (q.db), .float .f32 (q.dc), .float .f32 (q.dx), .float .f32 (q.dy), .float .f32 (q.l)]).box 29 (ftab .f32 z 16)).box 48 #[.slice none 0 0, .int .i64 0, .int .i64 0, .float .f32 0, .float .f32 0, .float .f32 0, .float .f32 0, .float .f32 0, .int .i64 0, .float .f32 0, .float .f32 0, .float .f32 0, .float .f32 0, .float .f32 0, .float .f32 0]).box 29 #[.float .f32 0, .float .f32 0, .float .f32 0, .float .f32 0, .float .f32 0, .float .f32 0, .float .f32 0, .float .f32 0, .float .f32 0, .float .f32 0, .float .f32 0, .float .f32 0, .float .f32 0, .float .f32 0, .float .f32 0, .float .f32 0]
  simp only [World.size_alloc] at F
  go_enter Try.func39, Try.ntmps39
  go_wp2_with (first | (go_at_call 61; ((with_reducible refine (HV.out _ _ F.below (F.row (by first | exact m0 | exact m1 | exact m2 | exact m3 | exact m4 | exact m5))).mono ?_); rintro e w1 ⟨rfl, m, rfl⟩; replace F := F.drewN m)) | (go_at_call 63; ((with_reducible refine (HCP.out _ _ F.below (F.row (by first | exact m0 | exact m1 | exact m2 | exact m3 | exact m4 | exact m5))).mono ?_); rintro e w2 ⟨s', rfl, ho, hl⟩; have OC := hid (OwnS.one ho); replace F := F.own1 hl ho; clear ho hl)) | (refine wpList_storeG F rfl rfl rfl rfl rfl infoStr rfl (one_head OC.out rfl) ?_; clear F; intro W3 F zW; replace zW := hid zW; replace F := hid (toSpB (B' := w.heap.size + 1 + 1 + 1 + 1) F n1 (by simp [rowF]) (by omega) (by simp))))
  clear OC
  go_loopw [8] (fun i wr => ∃ j : Nat, j ≤ 16 ∧ i = .int .i64 j ∧ ∃ h : Nat → Nat, Hid (∀ i, i < j → can .f32 (h i) = outS q z i) ∧ Hid (Frg w wr [spF (w.heap.size + 1 + 1 + 1 + 1) (w2.heap.size + 1) w2.heap.size (goS q z j), rowF (w.heap.size + 1 + 1 + 1) 29 #[.float .f32 0, .float .f32 0, .float .f32 0, .float .f32 0, .float .f32 0, .float .f32 0, .float .f32 0, .float .f32 0, .float .f32 0, .float .f32 0, .float .f32 0, .float .f32 0, .float .f32 0, .float .f32 0, .float .f32 0, .float .f32 0], rowF (w.heap.size + 1 + 1) 48 #[.slice none 0 0, .int .i64 0, .int .i64 0, .float .f32 0, .float .f32 0, .float .f32 0, .float .f32 0, .float .f32 0, .int .i64 0, .float .f32 0, .float .f32 0, .float .f32 0, .float .f32 0, .float .f32 0, .float .f32 0], rowF (w.heap.size + 1) 29 (ftab .f32 (upto j h z) 16), rowF w.heap.size 48 #[s, .int .i64 (q.j : Nat), .int .i64 3, .float .f32 (q.ta), .float .f32 (q.tb), .float .f32 (q.tc), .float .f32 (q.tx), .float .f32 (q.ty), .int .i64 2, .float .f32 (q.da), .float .f32 (q.db), .float .f32 (q.dc), .float .f32 (q.dx), .float .f32 (q.dy), .float .f32 (q.l)]])) (fun i _ => 16 - (intOf i).toNat)
  case atStart => exact ⟨0, by omega, rfl, fun _ => 0, fun m hm => absurd hm (by omega), by rw [upto_zero]; exact F.out⟩
  case round =>
    obtain ⟨j, hj, rfl, h, HJ, FJ⟩ := hrel
    clear F
    by_cases hlt : j < 16
    · have c0 := (FJ.out.row m3).ftab hlt
      rw [show upto j h z j = z j by simp [upto]] at c0
      have hzj := hid (Hz.out j hlt)
      go_wp2_with (first | (go_at_call 76; ((with_reducible refine (s_l03Step _ _ _ _ _ _ (Frg.sp FJ.out m0) (HO.out j) hzj.out).mono ?_); rintro e w4 ⟨r, rfl, hr, fr, hsp, hch⟩; replace FJ := hid (FJ.out.chg0 (e' := spF _ _ _ (stepS (goS q z j) (z j))) hch hsp rfl rfl); have HR := hid hr; have cc := (FJ.out.row m3).ftab hlt; have ff := (FJ.out.row m3).frozen j; clear hsp hch hr)))
      go_roundw
      case rel =>
        refine ⟨j + 1, by omega, by go_num, fun i => if i = j then r else h i, fill_step (p := fun i v => can .f32 v = outS q z i) HJ.out HR.out, ?_⟩
        have F4 := FJ.out.set3 j (.float .f32 r)
        rw [set_ftab, upto_set] at F4
        exact F4
      case measure => simp [intOf]; omega
    · obtain rfl : j = 16 := by omega
      rw [upto_full] at FJ
      replace FJ := FJ.out
      go_wp2
      have F1 := FJ.drewN 1
      obtain ⟨s5, lo5, hi5, R5, O5, b1, b2, b3, b4, b5⟩ := Frg.sp F1 m0
      have OC5 := hid (OwnS.one O5)
      have f0 := F1.facts (spF (w.heap.size + 1 + 1 + 1 + 1) (w2.heap.size + 1) w2.heap.size (goS q z 16)) m0
      simp only [spF] at f0
      obtain ⟨T, hT⟩ : ∃ T : List (Nat × TypeId × Array Value), T = [(w.heap.size + 1 + 1, 48, #[s5, .int .i64 ((goS q z 16).j : Nat), .int .i64 3, .float .f32 ((goS q z 16).ta), .float .f32 ((goS q z 16).tb), .float .f32 ((goS q z 16).tc), .float .f32 ((goS q z 16).tx), .float .f32 ((goS q z 16).ty), .int .i64 2, .float .f32 ((goS q z 16).da), .float .f32 ((goS q z 16).db), .float .f32 ((goS q z 16).dc), .float .f32 ((goS q z 16).dx), .float .f32 ((goS q z 16).dy), .float .f32 ((goS q z 16).l)]), (w.heap.size + 1 + 1 + 1, 29, ftab .f32 h 16)] := ⟨_, rfl⟩
      have hd : ∀ x ∈ T, ∀ y ∈ T, x.1 = y.1 → x = y := by
        rw [hT]; intro x hx y hy e
        simp only [List.mem_cons, List.not_mem_nil, or_false] at hx hy
        rcases hx with rfl | rfl <;> rcases hy with rfl | rfl <;> first | rfl | (simp only [] at e; omega)
      have t1 : (w.heap.size + 1 + 1, 48, #[s5, .int .i64 ((goS q z 16).j : Nat), .int .i64 3, .float .f32 ((goS q z 16).ta), .float .f32 ((goS q z 16).tb), .float .f32 ((goS q z 16).tc), .float .f32 ((goS q z 16).tx), .float .f32 ((goS q z 16).ty), .int .i64 2, .float .f32 ((goS q z 16).da), .float .f32 ((goS q z 16).db), .float .f32 ((goS q z 16).dc), .float .f32 ((goS q z 16).dx), .float .f32 ((goS q z 16).dy), .float .f32 ((goS q z 16).l)]) ∈ T := by rw [hT]; exact List.mem_cons_self
      have t2 : (w.heap.size + 1 + 1 + 1, 29, ftab .f32 h 16) ∈ T := by rw [hT]; exact List.mem_cons_of_mem _ List.mem_cons_self
      have hT3 : ∀ x ∈ T, w.heap.size + 1 + 1 ≤ x.1 ∧ x.1 < w.heap.size + 1 + 1 + 1 + 1 := by rw [hT]; intro x hx; simp only [List.mem_cons, List.not_mem_nil, or_false] at hx; rcases hx with rfl | rfl <;> exact ⟨by simp, by simp⟩
      have n0 : ∀ x ∈ T, x.1 ≠ w2.heap.size := fun x hx => by have := hT3 x hx; omega
      have nb : ∀ x ∈ T, x.1 ≠ w.heap.size + 1 := fun x hx => by have := hT3 x hx; omega
      clear hT
      refine region_freeT (E := finX T) (fun _ _ _ _ => True) (by kernel_rfl) (by kernel_rfl) ?_
      refine wpFreeT_load rfl rfl rfl R5 n0 Try.underlying48 rfl infoStr rfl ?_
      simp only [Act.put, List.setIfInBounds_toArray, List.set_cons_succ, List.set_cons_zero]
      refine wpFreeT_load rfl rfl rfl (F1.row m3) nb Try.underlying29 rfl infoBlk (size_ftab _ _ _) ?_
      simp only [Act.put, List.setIfInBounds_toArray, List.set_cons_succ, List.set_cons_zero]
      refine wpFreeT_store rfl rfl rfl rfl t1 hd (F1.row m2) rfl infoStr rfl (one_head OC5.out rfl) ?_
      simp only [Act.put, List.setIfInBounds_toArray, List.set_cons_succ, List.set_cons_zero]
      refine wpFreeT_store rfl rfl rfl rfl t2 hd (F1.row m1) (by rw [size_ftab]; rfl) infoBlk (size_ftab _ _ _) (one_ftab _ _ _) ?_
      simp only [Act.put, List.setIfInBounds_toArray, List.set_cons_succ, List.set_cons_zero]
      refine wpFree_oneT rfl (.int .i64 0) (fun w1 _ => by kernel_rfl) ?_
      simp only [Act.put, List.setIfInBounds_toArray, List.set_cons_succ, List.set_cons_zero]
      refine wpFree_nilT (fun wR hwR hF => ?_)
      obtain ⟨⟨_, r1⟩, r2⟩ := hF
      have L := hid (F1.below.trans (finX_below hwR (B := w.heap.size) (fun x hx => by have := hT3 x hx; omega) F1.size))
      have O7 := hid ((own_finX hwR O5 (fun x hx => by have := hT3 x hx; omega)).mono (lo' := w.heap.size) (hi' := wR.heap.size) (by omega) (Nat.le_trans (by omega) (Nat.le_trans f0.2.1 hwR.2.2.2.1)))
      have R1 := hid r1; have R2 := hid r2
      clear hwR F1 FJ hd t1 t2 n0 nb hT3 r1 r2 R5 O5 f0
      go_wp2
      exact bodyPost_ret (results_cct rfl _ _ _ _ _ _ _ _ rfl R1.out Try.underlying48 rfl infoStr rfl R2.out Try.underlying29 rfl (by rw [size_ftab]; exact infoBlk)) rfl ⟨_, h, rfl, O7.out, HJ.out, L.out⟩
theorem both_BlockOfString (x : Nat → Nat) (n : Nat) (k tk : Int) (ta tb tc tx ty : Nat) (dk : Int) (da db dc dx dy l : Nat) (z : Nat → Nat) (hw : (Lit.int .i64 k).wf = true ∧ (Lit.int .i64 tk).wf = true ∧ fits .f32 ta ∧ fits .f32 tb ∧ fits .f32 tc ∧ fits .f32 tx ∧ fits .f32 ty ∧ (Lit.int .i64 dk).wf = true ∧ fits .f32 da ∧ fits .f32 db ∧ fits .f32 dc ∧ fits .f32 dx ∧ fits .f32 dy ∧ fits .f32 l) (hz : ∀ j, j < 16 → fits .f32 (z j)) : ∃ (xr0 : Nat → Nat) (nr0 : Nat) (kr0 tkr0 : Int) (tar0 tbr0 tcr0 txr0 tyr0 : Nat) (dkr0 : Int) (dar0 dbr0 dcr0 dxr0 dyr0 lr0 : Nat) (d : Int) (o : Nat → Nat), nr0 ≤ 1048576 ∧ (∀ (w : World) (B : Nat) (u : Value), RdS w B u x n → Calls Try.prog 39 #[.agg #[u, .int .i64 k, .int .i64 tk, .float .f32 ta, .float .f32 tb, .float .f32 tc, .float .f32 tx, .float .f32 ty, .int .i64 dk, .float .f32 da, .float .f32 db, .float .f32 dc, .float .f32 dx, .float .f32 dy, .float .f32 l], .agg (ftab .f32 z 16)] w (Out_sB xr0 nr0 kr0 tkr0 tar0 tbr0 tcr0 txr0 tyr0 dkr0 dar0 dbr0 dcr0 dxr0 dyr0 lr0 d o w)) ∧ (∀ (w : World) (B : Nat) (u : Value), RdS w B u x n → Calls Try.prog 40 #[.agg #[u, .int .i64 k, .int .i64 tk, .float .f32 ta, .float .f32 tb, .float .f32 tc, .float .f32 tx, .float .f32 ty, .int .i64 dk, .float .f32 da, .float .f32 db, .float .f32 dc, .float .f32 dx, .float .f32 dy, .float .f32 l], .agg (ftab .f32 z 16)] w (Out_sB xr0 nr0 kr0 tkr0 tar0 tbr0 tcr0 txr0 tyr0 dkr0 dar0 dbr0 dcr0 dxr0 dyr0 lr0 d o w)) := by
  obtain ⟨hk, _, h1, h2, h3, h4, h5, _, g1, g2, g3, g4, g5, hl⟩ := hw
  cases hv : okStr n k tk ta tb tc tx ty dk da db dc dx dy l
  · exact ⟨(fun _ => 0), 0, 0, 0, 0, 0, 0, 0, 0, 0, 0, 0, 0, 0, 0, 0, 1, fun _ => 0, by omega, fun w B u h => s_BlockOfString_no B u x n k tk ta tb tc tx ty dk da db dc dx dy l z w h hk hv, fun w B u h => i_BlockOfString_no B u x n k tk ta tb tc tx ty dk da db dc dx dy l z w h ⟨h1, h2, h3, h4, h5⟩ ⟨g1, g2, g3, g4, g5⟩ hl hv⟩
  · obtain ⟨j, rfl, rfl, rfl, ok⟩ := okStr_q (x := x) hv ⟨h1, h2, h3, h4, h5⟩ ⟨g1, g2, g3, g4, g5⟩ hl
    refine ⟨_, _, _, _, _, _, _, _, _, _, _, _, _, _, _, _, _, _, ?_, fun w B u h => s_BlockOfString_yes B u (⟨x, n, j, ta, tb, tc, tx, ty, da, db, dc, dx, dy, l⟩ : StS) z w h ok hk hv hz, fun w B u h => i_BlockOfString_yes B u (⟨x, n, j, ta, tb, tc, tx, ty, da, db, dc, dx, dy, l⟩ : StS) z w h ok hv hz⟩
    rw [goS_n]; exact Nat.le_trans ok.n2 (by decide)
end Go.Proofs.Ytmacednkpjfokaa

/- The walk of 'FnExactBlockOfString'. -/
namespace Go.Proofs.Ytmacednkpjfokaa.fnExactBlockOfString
open Go.RowKit Go.Fk
theorem infoBlkL : (Try.prog.info? 27).map (·.size) = some 16 := by kernel_rfl
theorem allocStr (w : World) : (Instr.alloc 48 true (.tuple #[])).run Try.prog w = .ok (.pointer (some ⟨w.heap.size, 0, none⟩)) (w.alloc (.cells #[.slice none 0 0, .int .i64 0, .int .i64 0, .float .f32 0, .float .f32 0, .float .f32 0, .float .f32 0, .float .f32 0, .int .i64 0, .float .f32 0, .float .f32 0, .float .f32 0, .float .f32 0, .float .f32 0, .float .f32 0] 48)) := by kernel_rfl
set_option maxRecDepth 100000 in
set_option maxHeartbeats 4000000 in
theorem core (s0 : Value) (x0 : Nat → Nat) (n0 : Nat) (k0 : Int) (tk0 : Int) (ta0 : Nat) (tb0 : Nat) (tc0 : Nat) (tx0 : Nat) (ty0 : Nat) (dk0 : Int) (da0 : Nat) (db0 : Nat) (dc0 : Nat) (dx0 : Nat) (dy0 : Nat) (l0 : Nat) (z : Nat → Nat) (xr0 : Nat → Nat) (nr0 : Nat) (kr0 tkr0 : Int) (tar0 tbr0 tcr0 txr0 tyr0 : Nat) (dkr0 : Int) (dar0 dbr0 dcr0 dxr0 dyr0 lr0 : Nat) (d : Int) (o : Nat → Nat) (w : World) (z0 : RdS w w.heap.size s0 x0 n0) (hn0 : n0 ≤ 1048576) (hr0 : nr0 ≤ 1048576)
    (hS : ∀ (w : World) (B0 : Nat) (u0 : Value), RdS w B0 u0 x0 n0 → Calls Try.prog 39 #[.agg #[u0, .int .i64 k0, .int .i64 tk0, .float .f32 ta0, .float .f32 tb0, .float .f32 tc0, .float .f32 tx0, .float .f32 ty0, .int .i64 dk0, .float .f32 da0, .float .f32 db0, .float .f32 dc0, .float .f32 dx0, .float .f32 dy0, .float .f32 l0], .agg (ftab .f32 z 16)] w (Out_sB xr0 nr0 kr0 tkr0 tar0 tbr0 tcr0 txr0 tyr0 dkr0 dar0 dbr0 dcr0 dxr0 dyr0 lr0 d o w))
    (hI : ∀ (w : World) (B0 : Nat) (u0 : Value), RdS w B0 u0 x0 n0 → Calls Try.prog 40 #[.agg #[u0, .int .i64 k0, .int .i64 tk0, .float .f32 ta0, .float .f32 tb0, .float .f32 tc0, .float .f32 tx0, .float .f32 ty0, .int .i64 dk0, .float .f32 da0, .float .f32 db0, .float .f32 dc0, .float .f32 dx0, .float .f32 dy0, .float .f32 l0], .agg (ftab .f32 z 16)] w (Out_sB xr0 nr0 kr0 tkr0 tar0 tbr0 tcr0 txr0 tyr0 dkr0 dar0 dbr0 dcr0 dxr0 dyr0 lr0 d o w)) :
    Calls Try.prog 9 #[.agg #[s0, .int .i64 k0, .int .i64 tk0, .float .f32 ta0, .float .f32 tb0, .float .f32 tc0, .float .f32 tx0, .float .f32 ty0, .int .i64 dk0, .float .f32 da0, .float .f32 db0, .float .f32 dc0, .float .f32 dx0, .float .f32 dy0, .float .f32 l0], .agg (ftab .f32 z 16)] w fun e w' => e = .returned (.bool true) ∧ Below w.heap.size w w' := by
  have Z0 := hid z0; clear z0
  have hm0 : ¬ (1048576 : Int) - n0 < 0 := by omega
  have hq : decide ((1 : Int) + n0 < 0) = false := by simp; omega
  have HS := hid hS; have HI := hid hI; clear hS hI
  have F := ((FrgU.nil w).box 44 (#[s0, .int .i64 k0, .int .i64 tk0, .float .f32 ta0, .float .f32 tb0, .float .f32 tc0, .float .f32 tx0, .float .f32 ty0, .int .i64 dk0, .float .f32 da0, .float .f32 db0, .float .f32 dc0, .float .f32 dx0, .float .f32 dy0, .float .f32 l0])).box 27 (ftab .f32 z 16)
  simp only [World.size_alloc] at F
  go_enter Try.func9, Try.ntmps9
  go_wp2_with (first | (((with_reducible refine listNU F ?_); clear F; intro wN F)) | ((with_reducible refine at_loadU rfl rfl ?_); first | (with_reducible refine wpList_loadGU F rfl rfl rfl (by first | exact m0 | exact m1 | exact m2 | exact m3 | exact m4 | exact m5 | exact m6 | exact m7 | exact m8 | exact m9 | exact m10 | exact m11 | exact m12 | exact m13 | exact m14 | exact m15 | exact m16 | exact m17 | exact m18 | exact m19) Try.underlying48 rfl infoStr (by first | rfl | simp [size_ftab]) ?_) | (with_reducible refine wpList_loadGU F rfl rfl rfl (by first | exact m0 | exact m1 | exact m2 | exact m3 | exact m4 | exact m5 | exact m6 | exact m7 | exact m8 | exact m9 | exact m10 | exact m11 | exact m12 | exact m13 | exact m14 | exact m15 | exact m16 | exact m17 | exact m18 | exact m19) Try.underlying44 rfl infoStrL (by first | rfl | simp [size_ftab]) ?_) | (with_reducible refine wpList_loadGU F rfl rfl rfl (by first | exact m0 | exact m1 | exact m2 | exact m3 | exact m4 | exact m5 | exact m6 | exact m7 | exact m8 | exact m9 | exact m10 | exact m11 | exact m12 | exact m13 | exact m14 | exact m15 | exact m16 | exact m17 | exact m18 | exact m19) Try.underlying29 rfl infoBlk (by first | rfl | simp [size_ftab]) ?_) | (with_reducible refine wpList_loadGU F rfl rfl rfl (by first | exact m0 | exact m1 | exact m2 | exact m3 | exact m4 | exact m5 | exact m6 | exact m7 | exact m8 | exact m9 | exact m10 | exact m11 | exact m12 | exact m13 | exact m14 | exact m15 | exact m16 | exact m17 | exact m18 | exact m19) Try.underlying27 rfl infoBlkL (by first | rfl | simp [size_ftab]) ?_)) | ((with_reducible refine at_loadV rfl rfl ?_); first | (with_reducible refine wpList_loadGGU F rfl rfl (by first | exact m0 | exact m1 | exact m2 | exact m3 | exact m4 | exact m5 | exact m6 | exact m7 | exact m8 | exact m9 | exact m10 | exact m11 | exact m12 | exact m13 | exact m14 | exact m15 | exact m16 | exact m17 | exact m18 | exact m19) Try.underlying48 rfl infoStr (by first | rfl | simp [size_ftab]) (by kernel_rfl) ?_) | (with_reducible refine wpList_loadGGU F rfl rfl (by first | exact m0 | exact m1 | exact m2 | exact m3 | exact m4 | exact m5 | exact m6 | exact m7 | exact m8 | exact m9 | exact m10 | exact m11 | exact m12 | exact m13 | exact m14 | exact m15 | exact m16 | exact m17 | exact m18 | exact m19) Try.underlying44 rfl infoStrL (by first | rfl | simp [size_ftab]) (by kernel_rfl) ?_) | (with_reducible refine wpList_loadGGU F rfl rfl (by first | exact m0 | exact m1 | exact m2 | exact m3 | exact m4 | exact m5 | exact m6 | exact m7 | exact m8 | exact m9 | exact m10 | exact m11 | exact m12 | exact m13 | exact m14 | exact m15 | exact m16 | exact m17 | exact m18 | exact m19) Try.underlying29 rfl infoBlk (by first | rfl | simp [size_ftab]) (by kernel_rfl) ?_) | (with_reducible refine wpList_loadGGU F rfl rfl (by first | exact m0 | exact m1 | exact m2 | exact m3 | exact m4 | exact m5 | exact m6 | exact m7 | exact m8 | exact m9 | exact m10 | exact m11 | exact m12 | exact m13 | exact m14 | exact m15 | exact m16 | exact m17 | exact m18 | exact m19) Try.underlying27 rfl infoBlkL (by first | rfl | simp [size_ftab]) (by kernel_rfl) ?_)) | (go_at_call 21; ((with_reducible refine (szStringR_yes _ s0 x0 n0 k0 tk0 ta0 tb0 tc0 tx0 ty0 dk0 da0 db0 dc0 dx0 dy0 l0 _ (Z0.out.le F.below) hn0).mono ?_); rintro e w1 ⟨rfl, hb1⟩; (replace F := F.le hb1))))
  first | (refine wpAt0U F ?_; clear F; intro wN F) | (refine wpAtNU F ?_; clear F; intro wN F)
  obtain ⟨T, hT⟩ : ∃ T : List (TypeId × Nat × (World → Array Value → Prop)), T = [(48, 15, fun wa cs => ∃ s', cs = #[s', .int .i64 kr0, .int .i64 tkr0, .float .f32 tar0, .float .f32 tbr0, .float .f32 tcr0, .float .f32 txr0, .float .f32 tyr0, .int .i64 dkr0, .float .f32 dar0, .float .f32 dbr0, .float .f32 dcr0, .float .f32 dxr0, .float .f32 dyr0, .float .f32 lr0] ∧ NewS wN.heap.size s' xr0 nr0 wa), (29, 16, fun _ cs => ∃ h, cs = ftab .f32 h 16 ∧ ∀ j, j < 16 → can .f32 (h j) = o j)] := ⟨_, rfl⟩
  have tf : ∀ x ∈ T, x.1 ≠ 22 := by rw [hT]; intro x hx; simp only [List.mem_cons, List.not_mem_nil, or_false] at hx; rcases hx with rfl | rfl <;> (dsimp only; decide)
  have hm : ∀ x ∈ T, ∀ w w' cs, keeps T w w' → x.2.2 w cs → x.2.2 w' cs := by
    intro x hx wa wb cs k h'
    have hx' := hx
    rw [hT] at hx'
    simp only [List.mem_cons, List.not_mem_nil, or_false] at hx'
    rcases hx' with rfl | rfl
    · obtain ⟨s', e, hn⟩ := h'; exact ⟨s', e, hn.keeps k tf⟩
    · exact h'
  have hd : ∀ x ∈ T, ∀ y ∈ T, x.1 = y.1 → x = y := by
    rw [hT]; intro x hx y hy e
    simp only [List.mem_cons, List.not_mem_nil, or_false] at hx hy
    rcases hx with rfl | rfl <;> rcases hy with rfl | rfl <;> first | rfl | (simp at e; done) | exact absurd (show _ = _ from e) (by decide)
  have q1 : (48, 15, fun wa cs => ∃ s', cs = #[s', .int .i64 kr0, .int .i64 tkr0, .float .f32 tar0, .float .f32 tbr0, .float .f32 tcr0, .float .f32 txr0, .float .f32 tyr0, .int .i64 dkr0, .float .f32 dar0, .float .f32 dbr0, .float .f32 dcr0, .float .f32 dxr0, .float .f32 dyr0, .float .f32 lr0] ∧ NewS wN.heap.size s' xr0 nr0 wa) ∈ T := by rw [hT]; exact List.mem_cons_self
  have q2 : (29, 16, fun (_ : World) cs => ∃ h, cs = ftab .f32 h 16 ∧ ∀ j, j < 16 → can .f32 (h j) = o j) ∈ T := by rw [hT]; exact List.mem_cons_of_mem _ List.mem_cons_self
  clear hT
  have F1 := F.drewN 1
  refine region_freeD (E := newF wN.heap.size T hm) (fun f _ wa v => if f = 23 then ∃ s', v = .agg #[s', .int .i64 k0, .int .i64 tk0, .float .f32 ta0, .float .f32 tb0, .float .f32 tc0, .float .f32 tx0, .float .f32 ty0, .int .i64 dk0, .float .f32 da0, .float .f32 db0, .float .f32 dc0, .float .f32 dx0, .float .f32 dy0, .float .f32 l0] ∧ NewS wN.heap.size s' x0 n0 wa else if f = 15 then v = .agg (ftab .f32 z 16) else ∃ v0 h, v = .tuple #[.agg #[v0, .int .i64 kr0, .int .i64 tkr0, .float .f32 tar0, .float .f32 tbr0, .float .f32 tcr0, .float .f32 txr0, .float .f32 tyr0, .int .i64 dkr0, .float .f32 dar0, .float .f32 dbr0, .float .f32 dcr0, .float .f32 dxr0, .float .f32 dyr0, .float .f32 lr0], .agg (ftab .f32 h 16), .int .i64 d] ∧ NewS wN.heap.size v0 xr0 nr0 wa ∧ ∀ j, j < 16 → can .f32 (h j) = o j) (by kernel_rfl) (by kernel_rfl) ?_
  refine wpFreeD_loadFG F rfl rfl rfl rfl (by first | exact m0 | exact m1 | exact m2 | exact m3 | exact m4 | exact m5 | exact m6 | exact m7 | exact m8 | exact m9 | exact m10 | exact m11 | exact m12 | exact m13 | exact m14 | exact m15 | exact m16 | exact m17 | exact m18 | exact m19) Try.underlying44 rfl infoStrL rfl ?_
  simp only [Act.put, List.setIfInBounds_toArray, List.set_cons_succ, List.set_cons_zero]
  refine wpFreeD_callB rfl rfl Try.func23 (by kernel_rfl) (by kernel_rfl) (args := #[.agg #[s0, .int .i64 k0, .int .i64 tk0, .float .f32 ta0, .float .f32 tb0, .float .f32 tc0, .float .f32 tx0, .float .f32 ty0, .int .i64 dk0, .float .f32 da0, .float .f32 db0, .float .f32 dc0, .float .f32 dx0, .float .f32 dy0, .float .f32 l0]]) (by simp [Act.eval]) (fun v wa wb hw hv => by simp only [if_true] at hv ⊢; obtain ⟨s', e, hn⟩ := hv; exact ⟨s', e, hn.keeps (newF_keeps hw) tf⟩) (fun wa ha _ => (toStringR _ s0 x0 n0 k0 tk0 ta0 tb0 tc0 tx0 ty0 dk0 da0 db0 dc0 dx0 dy0 l0 wa (Z0.out.le (Fk.le_trans F1.below (newF_le ha (Nat.le_refl _)))) hn0).mono ?_) ?_
  · rintro e wb ⟨u, rfl, ho, hl⟩
    exact ⟨_, rfl, hl, by simp only [if_true]; exact ⟨u, rfl, ho.mono ha.2.2.2.1 (Nat.le_refl _)⟩⟩
  rintro v ⟨_, _, _, hv⟩
  simp only [if_true] at hv
  obtain ⟨uS, rfl, _⟩ := hv
  simp only [Act.put, List.setIfInBounds_toArray, List.set_cons_succ, List.set_cons_zero]
  refine wpFreeD_loadFG F rfl rfl rfl rfl (by first | exact m0 | exact m1 | exact m2 | exact m3 | exact m4 | exact m5 | exact m6 | exact m7 | exact m8 | exact m9 | exact m10 | exact m11 | exact m12 | exact m13 | exact m14 | exact m15 | exact m16 | exact m17 | exact m18 | exact m19) Try.underlying27 rfl infoBlkL (size_ftab _ _ _) ?_
  simp only [Act.put, List.setIfInBounds_toArray, List.set_cons_succ, List.set_cons_zero]
  refine wpFreeD_callB rfl rfl Try.func15 (by kernel_rfl) (by kernel_rfl) (args := #[.agg (ftab .f32 z 16)]) (by simp [Act.eval]) (fun v wa wb _ hv => by simp only [show ¬ (15 = 23) by decide, if_false, if_true] at hv ⊢; exact hv) (fun wa _ _ => (toBlock_any z wa).mono ?_) ?_
  · rintro e wb ⟨rfl, hb⟩
    exact ⟨_, rfl, hb, by simp only [show ¬ (15 = 23) by decide, if_false, if_true]⟩
  rintro v ⟨_, _, _, hv⟩
  simp only [show ¬ (15 = 23) by decide, if_false, if_true] at hv
  subst hv
  simp only [Act.put, List.setIfInBounds_toArray, List.set_cons_succ, List.set_cons_zero]
  refine wpFreeD_callB rfl rfl Try.func39 (by kernel_rfl) (by kernel_rfl) (args := #[.agg #[uS, .int .i64 k0, .int .i64 tk0, .float .f32 ta0, .float .f32 tb0, .float .f32 tc0, .float .f32 tx0, .float .f32 ty0, .int .i64 dk0, .float .f32 da0, .float .f32 db0, .float .f32 dc0, .float .f32 dx0, .float .f32 dy0, .float .f32 l0], .agg (ftab .f32 z 16)]) (by simp [Act.eval]) (fun v wa wb hw hv => by simp only [show ¬ (39 = 23) by decide, show ¬ (39 = 15) by decide, if_false] at hv ⊢; obtain ⟨v0, h, e, hn, hh⟩ := hv; exact ⟨v0, h, e, hn.keeps (newF_keeps hw) tf, hh⟩) (fun wa ha hbe => ?_) ?_
  · have hk := (hbe ⟨1, Ground.data⟩ (by simp) (by kernel_rfl)).1.1.2 rfl
    simp only [if_true] at hk
    obtain ⟨s', he, hr⟩ := hk
    obtain rfl : uS = s' := by simpa using he
    refine (HS.out wa _ _ (OwnS.rd hr)).mono ?_
    rintro e wb ⟨v0, h, rfl, ho, hh, hl⟩
    exact ⟨_, rfl, hl, by simp only [show ¬ (39 = 23) by decide, show ¬ (39 = 15) by decide, if_false]; exact ⟨v0, h, rfl, ho.mono ha.2.2.2.1 (Nat.le_refl _), hh⟩⟩
  rintro v ⟨_, _, _, hv⟩
  simp only [show ¬ (39 = 23) by decide, show ¬ (39 = 15) by decide, if_false] at hv
  obtain ⟨vS, hS, rfl, hnS, hhS⟩ := hv
  have oc := hid (OwnS.one hnS)
  replace hhS := hid hhS
  clear hnS
  simp only [Act.put, List.setIfInBounds_toArray, List.set_cons_succ, List.set_cons_zero]
  refine wpFreeD_oneK rfl (.tuple #[.agg #[vS, .int .i64 kr0, .int .i64 tkr0, .float .f32 tar0, .float .f32 tbr0, .float .f32 tcr0, .float .f32 txr0, .float .f32 tyr0, .int .i64 dkr0, .float .f32 dar0, .float .f32 dbr0, .float .f32 dcr0, .float .f32 dxr0, .float .f32 dyr0, .float .f32 lr0], .agg (ftab .f32 hS 16), .int .i64 d]) (fun wa => NewS wN.heap.size vS xr0 nr0 wa) (fun _ _ hw hn => hn.keeps (newF_keeps hw) tf) (fun wa _ => by kernel_rfl) (fun wa _ hbe => by
    have hk := (hbe ⟨4, Ground.data⟩ (by simp) (by kernel_rfl)).2 rfl
    simp only [show ¬ (39 = 23) by decide, show ¬ (39 = 15) by decide, if_false] at hk
    obtain ⟨v0, h, e, hn, _⟩ := hk
    have e' : vS = v0 := by simp at e; exact e.1
    rw [e']; exact hn) ?_
  simp only [Act.put, List.setIfInBounds_toArray, List.set_cons_succ, List.set_cons_zero]
  refine wpFreeD_oneK rfl (.agg #[vS, .int .i64 kr0, .int .i64 tkr0, .float .f32 tar0, .float .f32 tbr0, .float .f32 tcr0, .float .f32 txr0, .float .f32 tyr0, .int .i64 dkr0, .float .f32 dar0, .float .f32 dbr0, .float .f32 dcr0, .float .f32 dxr0, .float .f32 dyr0, .float .f32 lr0]) (fun wa => NewS wN.heap.size vS xr0 nr0 wa) (fun _ _ hw hn => hn.keeps (newF_keeps hw) tf) (fun wa _ => by kernel_rfl) (fun wa _ hbe => (hbe ⟨5, Ground.data⟩ (by simp) (by kernel_rfl)).2 rfl) ?_
  simp only [Act.put, List.setIfInBounds_toArray, List.set_cons_succ, List.set_cons_zero]
  refine wpFreeD_one rfl (.agg (ftab .f32 hS 16)) (fun wa _ => by kernel_rfl) ?_
  simp only [Act.put, List.setIfInBounds_toArray, List.set_cons_succ, List.set_cons_zero]
  refine wpFreeD_one rfl (.int .i64 d) (fun wa _ => by kernel_rfl) ?_
  simp only [Act.put, List.setIfInBounds_toArray, List.set_cons_succ, List.set_cons_zero]
  refine wpFreeD_allocF rfl rfl #[.slice none 0 0, .int .i64 0, .int .i64 0, .float .f32 0, .float .f32 0, .float .f32 0, .float .f32 0, .float .f32 0, .int .i64 0, .float .f32 0, .float .f32 0, .float .f32 0, .float .f32 0, .float .f32 0, .float .f32 0] allocStr q1 rfl rfl (fun gS hgS => ?_)
  simp only [Act.put, List.setIfInBounds_toArray, List.set_cons_succ, List.set_cons_zero]
  refine wpFreeD_allocF rfl rfl (ftab .f32 (fun _ => 0) 16) allocBlk q2 (size_ftab _ _ _) rfl (fun pS hpS => ?_)
  simp only [Act.put, List.setIfInBounds_toArray, List.set_cons_succ, List.set_cons_zero]
  refine wpFreeD_storeF rfl rfl rfl (cells := #[vS, .int .i64 kr0, .int .i64 tkr0, .float .f32 tar0, .float .f32 tbr0, .float .f32 tcr0, .float .f32 txr0, .float .f32 tyr0, .int .i64 dkr0, .float .f32 dar0, .float .f32 dbr0, .float .f32 dcr0, .float .f32 dxr0, .float .f32 dyr0, .float .f32 lr0]) rfl q1 (fun wa _ hbe => ⟨vS, rfl, (hbe ⟨6, Ground.data⟩ (by simp) (by kernel_rfl)).1.1.1.1.2 rfl⟩) hd hgS (fun wa _ hbe => (hbe ⟨9, Ground.data⟩ (by simp) (by kernel_rfl)).1.2 rfl) infoStr rfl (one_head oc.out rfl) ?_
  simp only [Act.put, List.setIfInBounds_toArray, List.set_cons_succ, List.set_cons_zero]
  refine wpFreeD_storeF rfl rfl rfl (cells := ftab .f32 hS 16) rfl q2 (fun _ _ _ => ⟨hS, rfl, hhS.out⟩) hd hpS (fun wa _ hbe => (hbe ⟨10, Ground.data⟩ (by simp) (by kernel_rfl)).1.2 rfl) infoBlk (size_ftab _ _ _) (one_ftab _ _ _) ?_
  simp only [Act.put, List.setIfInBounds_toArray, List.set_cons_succ, List.set_cons_zero]
  refine wpFreeD_one rfl (.int .i64 d) (fun wa _ => by kernel_rfl) ?_
  simp only [Act.put, List.setIfInBounds_toArray, List.set_cons_succ, List.set_cons_zero]
  refine wpFreeD_nil (fun wR hwR hF => ?_)
  obtain ⟨_, r6, yS, rfl, hoS⟩ := (hF 11).1.1.2 rfl
  obtain ⟨_, r7, fS, rfl, HHS⟩ := (hF 12).1.2 rfl
  obtain ⟨loS, hiS, F2⟩ := FrgU.two F1 (newF_le hwR (Nat.le_refl _)) r6 hgS r7 hpS (by decide) (by decide) (by decide) hoS
  have ocS := hid (OwnS.one hoS)
  replace HHS := hid HHS
  clear hwR hF F1 F r6 r7 hgS hpS hoS hd q1 q2 oc hhS
  have F := F2
  clear F2
  go_wp2_with (first | (((with_reducible refine listNU F ?_); clear F; intro wN F)) | ((with_reducible refine at_store rfl ?_); first | (refine wpList_storeGU F rfl rfl rfl rfl rfl infoStr rfl (by first | exact one_head (Hid.out (by assumption)) rfl | (simp [Value.oneCell']; done)) ?_; clear F; intro W F zW; clear zW)) | ((with_reducible refine at_loadU rfl rfl ?_); first | (with_reducible refine wpList_loadGU F rfl rfl rfl (by first | exact m0 | exact m1 | exact m2 | exact m3 | exact m4 | exact m5 | exact m6 | exact m7 | exact m8 | exact m9 | exact m10 | exact m11 | exact m12 | exact m13 | exact m14 | exact m15 | exact m16 | exact m17 | exact m18 | exact m19) Try.underlying48 rfl infoStr (by first | rfl | simp [size_ftab]) ?_) | (with_reducible refine wpList_loadGU F rfl rfl rfl (by first | exact m0 | exact m1 | exact m2 | exact m3 | exact m4 | exact m5 | exact m6 | exact m7 | exact m8 | exact m9 | exact m10 | exact m11 | exact m12 | exact m13 | exact m14 | exact m15 | exact m16 | exact m17 | exact m18 | exact m19) Try.underlying44 rfl infoStrL (by first | rfl | simp [size_ftab]) ?_) | (with_reducible refine wpList_loadGU F rfl rfl rfl (by first | exact m0 | exact m1 | exact m2 | exact m3 | exact m4 | exact m5 | exact m6 | exact m7 | exact m8 | exact m9 | exact m10 | exact m11 | exact m12 | exact m13 | exact m14 | exact m15 | exact m16 | exact m17 | exact m18 | exact m19) Try.underlying29 rfl infoBlk (by first | rfl | simp [size_ftab]) ?_) | (with_reducible refine wpList_loadGU F rfl rfl rfl (by first | exact m0 | exact m1 | exact m2 | exact m3 | exact m4 | exact m5 | exact m6 | exact m7 | exact m8 | exact m9 | exact m10 | exact m11 | exact m12 | exact m13 | exact m14 | exact m15 | exact m16 | exact m17 | exact m18 | exact m19) Try.underlying27 rfl infoBlkL (by first | rfl | simp [size_ftab]) ?_)) | ((with_reducible refine at_loadV rfl rfl ?_); first | (with_reducible refine wpList_loadGGU F rfl rfl (by first | exact m0 | exact m1 | exact m2 | exact m3 | exact m4 | exact m5 | exact m6 | exact m7 | exact m8 | exact m9 | exact m10 | exact m11 | exact m12 | exact m13 | exact m14 | exact m15 | exact m16 | exact m17 | exact m18 | exact m19) Try.underlying48 rfl infoStr (by first | rfl | simp [size_ftab]) (by kernel_rfl) ?_) | (with_reducible refine wpList_loadGGU F rfl rfl (by first | exact m0 | exact m1 | exact m2 | exact m3 | exact m4 | exact m5 | exact m6 | exact m7 | exact m8 | exact m9 | exact m10 | exact m11 | exact m12 | exact m13 | exact m14 | exact m15 | exact m16 | exact m17 | exact m18 | exact m19) Try.underlying44 rfl infoStrL (by first | rfl | simp [size_ftab]) (by kernel_rfl) ?_) | (with_reducible refine wpList_loadGGU F rfl rfl (by first | exact m0 | exact m1 | exact m2 | exact m3 | exact m4 | exact m5 | exact m6 | exact m7 | exact m8 | exact m9 | exact m10 | exact m11 | exact m12 | exact m13 | exact m14 | exact m15 | exact m16 | exact m17 | exact m18 | exact m19) Try.underlying29 rfl infoBlk (by first | rfl | simp [size_ftab]) (by kernel_rfl) ?_) | (with_reducible refine wpList_loadGGU F rfl rfl (by first | exact m0 | exact m1 | exact m2 | exact m3 | exact m4 | exact m5 | exact m6 | exact m7 | exact m8 | exact m9 | exact m10 | exact m11 | exact m12 | exact m13 | exact m14 | exact m15 | exact m16 | exact m17 | exact m18 | exact m19) Try.underlying27 rfl infoBlkL (by first | rfl | simp [size_ftab]) (by kernel_rfl) ?_)) | (go_at_call 23; ((with_reducible refine (toStringR _ s0 x0 n0 k0 tk0 ta0 tb0 tc0 tx0 ty0 dk0 da0 db0 dc0 dx0 dy0 l0 _ (Z0.out.le F.below) hn0).mono ?_); rintro e w1 ⟨tB0, rfl, ho1, hl1⟩; have oc := hid (OwnS.one ho1); replace F := F.own1 hl1 ho1; clear hl1 ho1)))
  first | (refine wpAt0U F ?_; clear F; intro wN F) | (refine wpAtNU F ?_; clear F; intro wN F)
  obtain ⟨T, hT⟩ : ∃ T : List (TypeId × Nat × (World → Array Value → Prop)), T = [(48, 15, fun wa cs => ∃ s', cs = #[s', .int .i64 kr0, .int .i64 tkr0, .float .f32 tar0, .float .f32 tbr0, .float .f32 tcr0, .float .f32 txr0, .float .f32 tyr0, .int .i64 dkr0, .float .f32 dar0, .float .f32 dbr0, .float .f32 dcr0, .float .f32 dxr0, .float .f32 dyr0, .float .f32 lr0] ∧ NewS wN.heap.size s' xr0 nr0 wa), (29, 16, fun _ cs => ∃ h, cs = ftab .f32 h 16 ∧ ∀ j, j < 16 → can .f32 (h j) = o j)] := ⟨_, rfl⟩
  have tf : ∀ x ∈ T, x.1 ≠ 22 := by rw [hT]; intro x hx; simp only [List.mem_cons, List.not_mem_nil, or_false] at hx; rcases hx with rfl | rfl <;> (dsimp only; decide)
  have hm : ∀ x ∈ T, ∀ w w' cs, keeps T w w' → x.2.2 w cs → x.2.2 w' cs := by
    intro x hx wa wb cs k h'
    have hx' := hx
    rw [hT] at hx'
    simp only [List.mem_cons, List.not_mem_nil, or_false] at hx'
    rcases hx' with rfl | rfl
    · obtain ⟨s', e, hn⟩ := h'; exact ⟨s', e, hn.keeps k tf⟩
    · exact h'
  have hd : ∀ x ∈ T, ∀ y ∈ T, x.1 = y.1 → x = y := by
    rw [hT]; intro x hx y hy e
    simp only [List.mem_cons, List.not_mem_nil, or_false] at hx hy
    rcases hx with rfl | rfl <;> rcases hy with rfl | rfl <;> first | rfl | (simp at e; done) | exact absurd (show _ = _ from e) (by decide)
  have q1 : (48, 15, fun wa cs => ∃ s', cs = #[s', .int .i64 kr0, .int .i64 tkr0, .float .f32 tar0, .float .f32 tbr0, .float .f32 tcr0, .float .f32 txr0, .float .f32 tyr0, .int .i64 dkr0, .float .f32 dar0, .float .f32 dbr0, .float .f32 dcr0, .float .f32 dxr0, .float .f32 dyr0, .float .f32 lr0] ∧ NewS wN.heap.size s' xr0 nr0 wa) ∈ T := by rw [hT]; exact List.mem_cons_self
  have q2 : (29, 16, fun (_ : World) cs => ∃ h, cs = ftab .f32 h 16 ∧ ∀ j, j < 16 → can .f32 (h j) = o j) ∈ T := by rw [hT]; exact List.mem_cons_of_mem _ List.mem_cons_self
  clear hT
  have F1 := F.drewN 1
  refine region_freeD (E := newF wN.heap.size T hm) (fun f _ wa v => if f = 15 then v = .agg (ftab .f32 z 16) else ∃ v0 h, v = .tuple #[.agg #[v0, .int .i64 kr0, .int .i64 tkr0, .float .f32 tar0, .float .f32 tbr0, .float .f32 tcr0, .float .f32 txr0, .float .f32 tyr0, .int .i64 dkr0, .float .f32 dar0, .float .f32 dbr0, .float .f32 dcr0, .float .f32 dxr0, .float .f32 dyr0, .float .f32 lr0], .agg (ftab .f32 h 16), .int .i64 d] ∧ NewS wN.heap.size v0 xr0 nr0 wa ∧ ∀ j, j < 16 → can .f32 (h j) = o j) (by kernel_rfl) (by kernel_rfl) ?_
  refine wpFreeD_loadFG F rfl rfl rfl rfl (by first | exact m0 | exact m1 | exact m2 | exact m3 | exact m4 | exact m5 | exact m6 | exact m7 | exact m8 | exact m9 | exact m10 | exact m11 | exact m12 | exact m13 | exact m14 | exact m15 | exact m16 | exact m17 | exact m18 | exact m19) Try.underlying48 rfl infoStr rfl ?_
  simp only [Act.put, List.setIfInBounds_toArray, List.set_cons_succ, List.set_cons_zero]
  refine wpFreeD_loadFG F rfl rfl rfl rfl (by first | exact m0 | exact m1 | exact m2 | exact m3 | exact m4 | exact m5 | exact m6 | exact m7 | exact m8 | exact m9 | exact m10 | exact m11 | exact m12 | exact m13 | exact m14 | exact m15 | exact m16 | exact m17 | exact m18 | exact m19) Try.underlying27 rfl infoBlkL (size_ftab _ _ _) ?_
  simp only [Act.put, List.setIfInBounds_toArray, List.set_cons_succ, List.set_cons_zero]
  refine wpFreeD_callB rfl rfl Try.func15 (by kernel_rfl) (by kernel_rfl) (args := #[.agg (ftab .f32 z 16)]) (by simp [Act.eval]) (fun v wa wb _ hv => by simp only [if_true] at hv ⊢; exact hv) (fun wa _ _ => (toBlock_any z wa).mono ?_) ?_
  · rintro e wb ⟨rfl, hb⟩
    exact ⟨_, rfl, hb, by simp only [if_true]⟩
  rintro v ⟨_, _, _, hv⟩
  simp only [if_true] at hv
  subst hv
  simp only [Act.put, List.setIfInBounds_toArray, List.set_cons_succ, List.set_cons_zero]
  refine wpFreeD_callB rfl rfl Try.func40 (by kernel_rfl) (by kernel_rfl) (args := #[.agg #[tB0, .int .i64 k0, .int .i64 tk0, .float .f32 ta0, .float .f32 tb0, .float .f32 tc0, .float .f32 tx0, .float .f32 ty0, .int .i64 dk0, .float .f32 da0, .float .f32 db0, .float .f32 dc0, .float .f32 dx0, .float .f32 dy0, .float .f32 l0], .agg (ftab .f32 z 16)]) (by simp [Act.eval]) (fun v wa wb hw hv => by simp only [show ¬ (40 = 15) by decide, if_false] at hv ⊢; obtain ⟨v0, h, e, hn, hh⟩ := hv; exact ⟨v0, h, e, hn.keeps (newF_keeps hw) tf, hh⟩) (fun wa ha hbe => ?_) ?_
  · refine (HI.out wa _ _ ((F1.own (by first | exact m0 | exact m1 | exact m2 | exact m3 | exact m4 | exact m5 | exact m6 | exact m7 | exact m8 | exact m9 | exact m10 | exact m11 | exact m12 | exact m13 | exact m14 | exact m15 | exact m16 | exact m17 | exact m18 | exact m19)).le (newF_le ha (Nat.le_refl _))).rd).mono ?_
    rintro e wb ⟨v0, h, rfl, ho, hh, hl⟩
    exact ⟨_, rfl, hl, by simp only [show ¬ (40 = 15) by decide, if_false]; exact ⟨v0, h, rfl, ho.mono ha.2.2.2.1 (Nat.le_refl _), hh⟩⟩
  rintro v ⟨_, _, _, hv⟩
  simp only [show ¬ (40 = 15) by decide, if_false] at hv
  obtain ⟨vI, hI, rfl, hnI, hhI⟩ := hv
  have oc := hid (OwnS.one hnI)
  replace hhI := hid hhI
  clear hnI
  simp only [Act.put, List.setIfInBounds_toArray, List.set_cons_succ, List.set_cons_zero]
  refine wpFreeD_oneK rfl (.tuple #[.agg #[vI, .int .i64 kr0, .int .i64 tkr0, .float .f32 tar0, .float .f32 tbr0, .float .f32 tcr0, .float .f32 txr0, .float .f32 tyr0, .int .i64 dkr0, .float .f32 dar0, .float .f32 dbr0, .float .f32 dcr0, .float .f32 dxr0, .float .f32 dyr0, .float .f32 lr0], .agg (ftab .f32 hI 16), .int .i64 d]) (fun wa => NewS wN.heap.size vI xr0 nr0 wa) (fun _ _ hw hn => hn.keeps (newF_keeps hw) tf) (fun wa _ => by kernel_rfl) (fun wa _ hbe => by
    have hk := (hbe ⟨3, Ground.data⟩ (by simp) (by kernel_rfl)).2 rfl
    simp only [show ¬ (40 = 15) by decide, if_false] at hk
    obtain ⟨v0, h, e, hn, _⟩ := hk
    have e' : vI = v0 := by simp at e; exact e.1
    rw [e']; exact hn) ?_
  simp only [Act.put, List.setIfInBounds_toArray, List.set_cons_succ, List.set_cons_zero]
  refine wpFreeD_oneK rfl (.agg #[vI, .int .i64 kr0, .int .i64 tkr0, .float .f32 tar0, .float .f32 tbr0, .float .f32 tcr0, .float .f32 txr0, .float .f32 tyr0, .int .i64 dkr0, .float .f32 dar0, .float .f32 dbr0, .float .f32 dcr0, .float .f32 dxr0, .float .f32 dyr0, .float .f32 lr0]) (fun wa => NewS wN.heap.size vI xr0 nr0 wa) (fun _ _ hw hn => hn.keeps (newF_keeps hw) tf) (fun wa _ => by kernel_rfl) (fun wa _ hbe => (hbe ⟨4, Ground.data⟩ (by simp) (by kernel_rfl)).2 rfl) ?_
  simp only [Act.put, List.setIfInBounds_toArray, List.set_cons_succ, List.set_cons_zero]
  refine wpFreeD_one rfl (.agg (ftab .f32 hI 16)) (fun wa _ => by kernel_rfl) ?_
  simp only [Act.put, List.setIfInBounds_toArray, List.set_cons_succ, List.set_cons_zero]
  refine wpFreeD_one rfl (.int .i64 d) (fun wa _ => by kernel_rfl) ?_
  simp only [Act.put, List.setIfInBounds_toArray, List.set_cons_succ, List.set_cons_zero]
  refine wpFreeD_allocF rfl rfl #[.slice none 0 0, .int .i64 0, .int .i64 0, .float .f32 0, .float .f32 0, .float .f32 0, .float .f32 0, .float .f32 0, .int .i64 0, .float .f32 0, .float .f32 0, .float .f32 0, .float .f32 0, .float .f32 0, .float .f32 0] allocStr q1 rfl rfl (fun gI hgI => ?_)
  simp only [Act.put, List.setIfInBounds_toArray, List.set_cons_succ, List.set_cons_zero]
  refine wpFreeD_allocF rfl rfl (ftab .f32 (fun _ => 0) 16) allocBlk q2 (size_ftab _ _ _) rfl (fun pI hpI => ?_)
  simp only [Act.put, List.setIfInBounds_toArray, List.set_cons_succ, List.set_cons_zero]
  refine wpFreeD_storeF rfl rfl rfl (cells := #[vI, .int .i64 kr0, .int .i64 tkr0, .float .f32 tar0, .float .f32 tbr0, .float .f32 tcr0, .float .f32 txr0, .float .f32 tyr0, .int .i64 dkr0, .float .f32 dar0, .float .f32 dbr0, .float .f32 dcr0, .float .f32 dxr0, .float .f32 dyr0, .float .f32 lr0]) rfl q1 (fun wa _ hbe => ⟨vI, rfl, (hbe ⟨5, Ground.data⟩ (by simp) (by kernel_rfl)).1.1.1.1.2 rfl⟩) hd hgI (fun wa _ hbe => (hbe ⟨8, Ground.data⟩ (by simp) (by kernel_rfl)).1.2 rfl) infoStr rfl (one_head oc.out rfl) ?_
  simp only [Act.put, List.setIfInBounds_toArray, List.set_cons_succ, List.set_cons_zero]
  refine wpFreeD_storeF rfl rfl rfl (cells := ftab .f32 hI 16) rfl q2 (fun _ _ _ => ⟨hI, rfl, hhI.out⟩) hd hpI (fun wa _ hbe => (hbe ⟨9, Ground.data⟩ (by simp) (by kernel_rfl)).1.2 rfl) infoBlk (size_ftab _ _ _) (one_ftab _ _ _) ?_
  simp only [Act.put, List.setIfInBounds_toArray, List.set_cons_succ, List.set_cons_zero]
  refine wpFreeD_one rfl (.int .i64 d) (fun wa _ => by kernel_rfl) ?_
  simp only [Act.put, List.setIfInBounds_toArray, List.set_cons_succ, List.set_cons_zero]
  refine wpFreeD_nil (fun wR hwR hF => ?_)
  obtain ⟨_, r6, yI, rfl, hoI⟩ := (hF 10).1.1.2 rfl
  obtain ⟨_, r7, fI, rfl, HHI⟩ := (hF 11).1.2 rfl
  obtain ⟨loI, hiI, F2⟩ := FrgU.two F1 (newF_le hwR (Nat.le_refl _)) r6 hgI r7 hpI (by decide) (by decide) (by decide) hoI
  have ocI := hid (OwnS.one hoI)
  replace HHI := hid HHI
  clear hwR hF F1 F r6 r7 hgI hpI hoI hd q1 q2 oc hhI
  have F := F2
  clear F2
  go_wp2_with (first | (((with_reducible refine listNU F ?_); clear F; intro wN F)) | ((with_reducible refine at_store rfl ?_); first | (refine wpList_storeGU F rfl rfl rfl rfl rfl infoStr rfl (by first | exact one_head (Hid.out (by assumption)) rfl | (simp [Value.oneCell']; done)) ?_; clear F; intro W F zW; clear zW)) | ((with_reducible refine at_loadU rfl rfl ?_); first | (with_reducible refine wpList_loadGU F rfl rfl rfl (by first | exact m0 | exact m1 | exact m2 | exact m3 | exact m4 | exact m5 | exact m6 | exact m7 | exact m8 | exact m9 | exact m10 | exact m11 | exact m12 | exact m13 | exact m14 | exact m15 | exact m16 | exact m17 | exact m18 | exact m19) Try.underlying48 rfl infoStr (by first | rfl | simp [size_ftab]) ?_) | (with_reducible refine wpList_loadGU F rfl rfl rfl (by first | exact m0 | exact m1 | exact m2 | exact m3 | exact m4 | exact m5 | exact m6 | exact m7 | exact m8 | exact m9 | exact m10 | exact m11 | exact m12 | exact m13 | exact m14 | exact m15 | exact m16 | exact m17 | exact m18 | exact m19) Try.underlying44 rfl infoStrL (by first | rfl | simp [size_ftab]) ?_) | (with_reducible refine wpList_loadGU F rfl rfl rfl (by first | exact m0 | exact m1 | exact m2 | exact m3 | exact m4 | exact m5 | exact m6 | exact m7 | exact m8 | exact m9 | exact m10 | exact m11 | exact m12 | exact m13 | exact m14 | exact m15 | exact m16 | exact m17 | exact m18 | exact m19) Try.underlying29 rfl infoBlk (by first | rfl | simp [size_ftab]) ?_) | (with_reducible refine wpList_loadGU F rfl rfl rfl (by first | exact m0 | exact m1 | exact m2 | exact m3 | exact m4 | exact m5 | exact m6 | exact m7 | exact m8 | exact m9 | exact m10 | exact m11 | exact m12 | exact m13 | exact m14 | exact m15 | exact m16 | exact m17 | exact m18 | exact m19) Try.underlying27 rfl infoBlkL (by first | rfl | simp [size_ftab]) ?_)) | ((with_reducible refine at_loadV rfl rfl ?_); first | (with_reducible refine wpList_loadGGU F rfl rfl (by first | exact m0 | exact m1 | exact m2 | exact m3 | exact m4 | exact m5 | exact m6 | exact m7 | exact m8 | exact m9 | exact m10 | exact m11 | exact m12 | exact m13 | exact m14 | exact m15 | exact m16 | exact m17 | exact m18 | exact m19) Try.underlying48 rfl infoStr (by first | rfl | simp [size_ftab]) (by kernel_rfl) ?_) | (with_reducible refine wpList_loadGGU F rfl rfl (by first | exact m0 | exact m1 | exact m2 | exact m3 | exact m4 | exact m5 | exact m6 | exact m7 | exact m8 | exact m9 | exact m10 | exact m11 | exact m12 | exact m13 | exact m14 | exact m15 | exact m16 | exact m17 | exact m18 | exact m19) Try.underlying44 rfl infoStrL (by first | rfl | simp [size_ftab]) (by kernel_rfl) ?_) | (with_reducible refine wpList_loadGGU F rfl rfl (by first | exact m0 | exact m1 | exact m2 | exact m3 | exact m4 | exact m5 | exact m6 | exact m7 | exact m8 | exact m9 | exact m10 | exact m11 | exact m12 | exact m13 | exact m14 | exact m15 | exact m16 | exact m17 | exact m18 | exact m19) Try.underlying29 rfl infoBlk (by first | rfl | simp [size_ftab]) (by kernel_rfl) ?_) | (with_reducible refine wpList_loadGGU F rfl rfl (by first | exact m0 | exact m1 | exact m2 | exact m3 | exact m4 | exact m5 | exact m6 | exact m7 | exact m8 | exact m9 | exact m10 | exact m11 | exact m12 | exact m13 | exact m14 | exact m15 | exact m16 | exact m17 | exact m18 | exact m19) Try.underlying27 rfl infoBlkL (by first | rfl | simp [size_ftab]) (by kernel_rfl) ?_)) | (go_at_call 25; ((with_reducible refine (eqStringR _ _ _ _ xr0 nr0 kr0 tkr0 tar0 tbr0 tcr0 txr0 tyr0 dkr0 dar0 dbr0 dcr0 dxr0 dyr0 lr0 _ hr0 (by first | exact (F.own (by first | exact m0 | exact m1 | exact m2 | exact m3 | exact m4 | exact m5 | exact m6 | exact m7 | exact m8 | exact m9 | exact m10 | exact m11 | exact m12 | exact m13 | exact m14 | exact m15 | exact m16 | exact m17 | exact m18 | exact m19)).rd) (by first | exact (F.own (by first | exact m0 | exact m1 | exact m2 | exact m3 | exact m4 | exact m5 | exact m6 | exact m7 | exact m8 | exact m9 | exact m10 | exact m11 | exact m12 | exact m13 | exact m14 | exact m15 | exact m16 | exact m17 | exact m18 | exact m19)).rd)).mono ?_); rintro e w7 ⟨rfl, hb7⟩; (replace F := F.le hb7))) | (go_at_call 18; ((with_reducible refine (eqBlock_yes _ _ _ (fun j hj => (HHI.out j hj).trans (HHS.out j hj).symm)).mono ?_); rintro e w7 ⟨rfl, hb7⟩; (replace F := F.le hb7))))
  first | (refine wpAt0U F ?_; clear F; intro wN F) | (refine wpAtNU F ?_; clear F; intro wN F)
  refine region_freeD (E := leX) (fun f _ w v => if f = 23 then ∃ (s' : Value) (B : Nat), v = .agg #[s', .int .i64 k0, .int .i64 tk0, .float .f32 ta0, .float .f32 tb0, .float .f32 tc0, .float .f32 tx0, .float .f32 ty0, .int .i64 dk0, .float .f32 da0, .float .f32 db0, .float .f32 dc0, .float .f32 dx0, .float .f32 dy0, .float .f32 l0] ∧ RdS w B s' x0 n0 else v = .bool true) (by kernel_rfl) (by kernel_rfl) ?_
  refine wpFreeD_loadGU F rfl rfl rfl rfl (by first | exact m0 | exact m1 | exact m2 | exact m3 | exact m4 | exact m5 | exact m6 | exact m7 | exact m8 | exact m9 | exact m10 | exact m11 | exact m12 | exact m13 | exact m14 | exact m15 | exact m16 | exact m17 | exact m18 | exact m19) Try.underlying48 rfl infoStr rfl ?_
  simp only [Act.put, List.setIfInBounds_toArray, List.set_cons_succ, List.set_cons_zero]
  refine wpFreeD_loadGU F rfl rfl rfl rfl (by first | exact m0 | exact m1 | exact m2 | exact m3 | exact m4 | exact m5 | exact m6 | exact m7 | exact m8 | exact m9 | exact m10 | exact m11 | exact m12 | exact m13 | exact m14 | exact m15 | exact m16 | exact m17 | exact m18 | exact m19) Try.underlying44 rfl infoStrL rfl ?_
  simp only [Act.put, List.setIfInBounds_toArray, List.set_cons_succ, List.set_cons_zero]
  refine wpFreeD_callB rfl rfl Try.func23 (by kernel_rfl) (by kernel_rfl) (args := #[.agg #[s0, .int .i64 k0, .int .i64 tk0, .float .f32 ta0, .float .f32 tb0, .float .f32 tc0, .float .f32 tx0, .float .f32 ty0, .int .i64 dk0, .float .f32 da0, .float .f32 db0, .float .f32 dc0, .float .f32 dx0, .float .f32 dy0, .float .f32 l0]]) (by simp [Act.eval]) (fun v w1 w2 hw hv => by simp only [if_true] at hv ⊢; obtain ⟨u, B, h1, h2⟩ := hv; exact ⟨u, B, h1, h2.le hw⟩) (fun w1 hw1 _ => (toStringR _ s0 x0 n0 k0 tk0 ta0 tb0 tc0 tx0 ty0 dk0 da0 db0 dc0 dx0 dy0 l0 w1 (Z0.out.le (Fk.le_trans (F.drewN _).below hw1)) hn0).mono ?_) ?_
  · rintro e w2 ⟨u, rfl, ho, hl⟩
    exact ⟨_, rfl, hl, by simp only [if_true]; exact ⟨u, _, rfl, ho.rd⟩⟩
  rintro v ⟨_, _, _, hv⟩
  simp only [if_true] at hv
  obtain ⟨u0, Bu0, rfl, _⟩ := hv
  simp only [Act.put, List.setIfInBounds_toArray, List.set_cons_succ, List.set_cons_zero]
  refine wpFreeD_callB rfl rfl Try.func25 (by kernel_rfl) (by kernel_rfl) (args := #[.agg #[tB0, .int .i64 k0, .int .i64 tk0, .float .f32 ta0, .float .f32 tb0, .float .f32 tc0, .float .f32 tx0, .float .f32 ty0, .int .i64 dk0, .float .f32 da0, .float .f32 db0, .float .f32 dc0, .float .f32 dx0, .float .f32 dy0, .float .f32 l0], .agg #[u0, .int .i64 k0, .int .i64 tk0, .float .f32 ta0, .float .f32 tb0, .float .f32 tc0, .float .f32 tx0, .float .f32 ty0, .int .i64 dk0, .float .f32 da0, .float .f32 db0, .float .f32 dc0, .float .f32 dx0, .float .f32 dy0, .float .f32 l0]]) (by simp [Act.eval]) (fun v w1 w2 hw hv => by simp only [show ¬ (25 = 23) by decide, if_false] at hv ⊢; exact hv) (fun w1 hw1 hbe => ?_) ?_
  · have hk := (hbe ⟨2, Ground.data⟩ (by simp) (by kernel_rfl)).2 rfl
    simp only [if_true] at hk
    obtain ⟨u', B', he, hr⟩ := hk
    obtain rfl : u0 = u' := by simpa using he
    refine (eqStringR _ _ _ _ x0 n0 k0 tk0 ta0 tb0 tc0 tx0 ty0 dk0 da0 db0 dc0 dx0 dy0 l0 _ hn0 (((F.drewN 1).le hw1).own (by first | exact m0 | exact m1 | exact m2 | exact m3 | exact m4 | exact m5 | exact m6 | exact m7 | exact m8 | exact m9 | exact m10 | exact m11 | exact m12 | exact m13 | exact m14 | exact m15 | exact m16 | exact m17 | exact m18 | exact m19)).rd hr).mono ?_
    rintro e w2 ⟨rfl, hl⟩
    exact ⟨_, rfl, hl, by simp only [show ¬ (25 = 23) by decide, if_false]⟩
  rintro v ⟨_, _, _, hv⟩
  simp only [show ¬ (25 = 23) by decide, if_false] at hv
  subst hv
  simp only [Act.put, List.setIfInBounds_toArray, List.set_cons_succ, List.set_cons_zero]
  refine wpFreeD_one rfl (.bool false) (fun w1 _ => by kernel_rfl) ?_
  simp only [Act.put, List.setIfInBounds_toArray, List.set_cons_succ, List.set_cons_zero]
  refine wpFreeD_nil (fun wR hwR _ => ?_)
  replace F := (F.drewN 1).le hwR
  clear hwR
  go_wp2_with (first | (((with_reducible refine listNU F ?_); clear F; intro wN F)) | ((with_reducible refine at_loadU rfl rfl ?_); first | (with_reducible refine wpList_loadGU F rfl rfl rfl (by first | exact m0 | exact m1 | exact m2 | exact m3 | exact m4 | exact m5 | exact m6 | exact m7 | exact m8 | exact m9 | exact m10 | exact m11 | exact m12 | exact m13 | exact m14 | exact m15 | exact m16 | exact m17 | exact m18 | exact m19) Try.underlying48 rfl infoStr (by first | rfl | simp [size_ftab]) ?_) | (with_reducible refine wpList_loadGU F rfl rfl rfl (by first | exact m0 | exact m1 | exact m2 | exact m3 | exact m4 | exact m5 | exact m6 | exact m7 | exact m8 | exact m9 | exact m10 | exact m11 | exact m12 | exact m13 | exact m14 | exact m15 | exact m16 | exact m17 | exact m18 | exact m19) Try.underlying44 rfl infoStrL (by first | rfl | simp [size_ftab]) ?_) | (with_reducible refine wpList_loadGU F rfl rfl rfl (by first | exact m0 | exact m1 | exact m2 | exact m3 | exact m4 | exact m5 | exact m6 | exact m7 | exact m8 | exact m9 | exact m10 | exact m11 | exact m12 | exact m13 | exact m14 | exact m15 | exact m16 | exact m17 | exact m18 | exact m19) Try.underlying29 rfl infoBlk (by first | rfl | simp [size_ftab]) ?_) | (with_reducible refine wpList_loadGU F rfl rfl rfl (by first | exact m0 | exact m1 | exact m2 | exact m3 | exact m4 | exact m5 | exact m6 | exact m7 | exact m8 | exact m9 | exact m10 | exact m11 | exact m12 | exact m13 | exact m14 | exact m15 | exact m16 | exact m17 | exact m18 | exact m19) Try.underlying27 rfl infoBlkL (by first | rfl | simp [size_ftab]) ?_)) | ((with_reducible refine at_loadV rfl rfl ?_); first | (with_reducible refine wpList_loadGGU F rfl rfl (by first | exact m0 | exact m1 | exact m2 | exact m3 | exact m4 | exact m5 | exact m6 | exact m7 | exact m8 | exact m9 | exact m10 | exact m11 | exact m12 | exact m13 | exact m14 | exact m15 | exact m16 | exact m17 | exact m18 | exact m19) Try.underlying48 rfl infoStr (by first | rfl | simp [size_ftab]) (by kernel_rfl) ?_) | (with_reducible refine wpList_loadGGU F rfl rfl (by first | exact m0 | exact m1 | exact m2 | exact m3 | exact m4 | exact m5 | exact m6 | exact m7 | exact m8 | exact m9 | exact m10 | exact m11 | exact m12 | exact m13 | exact m14 | exact m15 | exact m16 | exact m17 | exact m18 | exact m19) Try.underlying44 rfl infoStrL (by first | rfl | simp [size_ftab]) (by kernel_rfl) ?_) | (with_reducible refine wpList_loadGGU F rfl rfl (by first | exact m0 | exact m1 | exact m2 | exact m3 | exact m4 | exact m5 | exact m6 | exact m7 | exact m8 | exact m9 | exact m10 | exact m11 | exact m12 | exact m13 | exact m14 | exact m15 | exact m16 | exact m17 | exact m18 | exact m19) Try.underlying29 rfl infoBlk (by first | rfl | simp [size_ftab]) (by kernel_rfl) ?_) | (with_reducible refine wpList_loadGGU F rfl rfl (by first | exact m0 | exact m1 | exact m2 | exact m3 | exact m4 | exact m5 | exact m6 | exact m7 | exact m8 | exact m9 | exact m10 | exact m11 | exact m12 | exact m13 | exact m14 | exact m15 | exact m16 | exact m17 | exact m18 | exact m19) Try.underlying27 rfl infoBlkL (by first | rfl | simp [size_ftab]) (by kernel_rfl) ?_)))
  first | ((with_reducible refine callAt0U F ?_); clear F; intro wN F) | ((with_reducible refine callAtNU F ?_); clear F; intro wN F)
  refine (markStringR _ _ _ x0 n0 k0 tk0 ta0 tb0 tc0 tx0 ty0 dk0 da0 db0 dc0 dx0 dy0 l0 1 _ hn0 (by omega) (by omega) (F.own (by first | exact m0 | exact m1 | exact m2 | exact m3 | exact m4 | exact m5 | exact m6 | exact m7 | exact m8 | exact m9 | exact m10 | exact m11 | exact m12 | exact m13 | exact m14 | exact m15 | exact m16 | exact m17 | exact m18 | exact m19))).mono ?_
  rintro e w4 ⟨rfl, hR, hU⟩
  (first | replace F := F.mark0 hR hU | replace F := F.mark1 hR hU | replace F := F.mark2 hR hU | replace F := F.mark3 hR hU | replace F := F.mark4 hR hU | replace F := F.mark5 hR hU | replace F := F.mark6 hR hU | replace F := F.mark7 hR hU | replace F := F.mark8 hR hU | replace F := F.mark9 hR hU | replace F := F.mark10 hR hU | replace F := F.mark11 hR hU | replace F := F.mark12 hR hU | replace F := F.mark13 hR hU | replace F := F.mark14 hR hU | replace F := F.mark15 hR hU | replace F := F.mark16 hR hU); clear hR hU
  go_wp2_with (first | (((with_reducible refine listNU F ?_); clear F; intro wN F)) | ((with_reducible refine at_store rfl ?_); first | (refine wpList_storeGU F rfl rfl rfl rfl rfl infoStr rfl (by first | exact one_head (Hid.out (by assumption)) rfl | (simp [Value.oneCell']; done)) ?_; clear F; intro W F zW; clear zW)) | ((with_reducible refine at_loadU rfl rfl ?_); first | (with_reducible refine wpList_loadGU F rfl rfl rfl (by first | exact m0 | exact m1 | exact m2 | exact m3 | exact m4 | exact m5 | exact m6 | exact m7 | exact m8 | exact m9 | exact m10 | exact m11 | exact m12 | exact m13 | exact m14 | exact m15 | exact m16 | exact m17 | exact m18 | exact m19) Try.underlying48 rfl infoStr (by first | rfl | simp [size_ftab]) ?_) | (with_reducible refine wpList_loadGU F rfl rfl rfl (by first | exact m0 | exact m1 | exact m2 | exact m3 | exact m4 | exact m5 | exact m6 | exact m7 | exact m8 | exact m9 | exact m10 | exact m11 | exact m12 | exact m13 | exact m14 | exact m15 | exact m16 | exact m17 | exact m18 | exact m19) Try.underlying44 rfl infoStrL (by first | rfl | simp [size_ftab]) ?_) | (with_reducible refine wpList_loadGU F rfl rfl rfl (by first | exact m0 | exact m1 | exact m2 | exact m3 | exact m4 | exact m5 | exact m6 | exact m7 | exact m8 | exact m9 | exact m10 | exact m11 | exact m12 | exact m13 | exact m14 | exact m15 | exact m16 | exact m17 | exact m18 | exact m19) Try.underlying29 rfl infoBlk (by first | rfl | simp [size_ftab]) ?_) | (with_reducible refine wpList_loadGU F rfl rfl rfl (by first | exact m0 | exact m1 | exact m2 | exact m3 | exact m4 | exact m5 | exact m6 | exact m7 | exact m8 | exact m9 | exact m10 | exact m11 | exact m12 | exact m13 | exact m14 | exact m15 | exact m16 | exact m17 | exact m18 | exact m19) Try.underlying27 rfl infoBlkL (by first | rfl | simp [size_ftab]) ?_)) | ((with_reducible refine at_loadV rfl rfl ?_); first | (with_reducible refine wpList_loadGGU F rfl rfl (by first | exact m0 | exact m1 | exact m2 | exact m3 | exact m4 | exact m5 | exact m6 | exact m7 | exact m8 | exact m9 | exact m10 | exact m11 | exact m12 | exact m13 | exact m14 | exact m15 | exact m16 | exact m17 | exact m18 | exact m19) Try.underlying48 rfl infoStr (by first | rfl | simp [size_ftab]) (by kernel_rfl) ?_) | (with_reducible refine wpList_loadGGU F rfl rfl (by first | exact m0 | exact m1 | exact m2 | exact m3 | exact m4 | exact m5 | exact m6 | exact m7 | exact m8 | exact m9 | exact m10 | exact m11 | exact m12 | exact m13 | exact m14 | exact m15 | exact m16 | exact m17 | exact m18 | exact m19) Try.underlying44 rfl infoStrL (by first | rfl | simp [size_ftab]) (by kernel_rfl) ?_) | (with_reducible refine wpList_loadGGU F rfl rfl (by first | exact m0 | exact m1 | exact m2 | exact m3 | exact m4 | exact m5 | exact m6 | exact m7 | exact m8 | exact m9 | exact m10 | exact m11 | exact m12 | exact m13 | exact m14 | exact m15 | exact m16 | exact m17 | exact m18 | exact m19) Try.underlying29 rfl infoBlk (by first | rfl | simp [size_ftab]) (by kernel_rfl) ?_) | (with_reducible refine wpList_loadGGU F rfl rfl (by first | exact m0 | exact m1 | exact m2 | exact m3 | exact m4 | exact m5 | exact m6 | exact m7 | exact m8 | exact m9 | exact m10 | exact m11 | exact m12 | exact m13 | exact m14 | exact m15 | exact m16 | exact m17 | exact m18 | exact m19) Try.underlying27 rfl infoBlkL (by first | rfl | simp [size_ftab]) (by kernel_rfl) ?_)) | (go_at_call 25; ((with_reducible refine (eqStringR _ _ _ _ xr0 nr0 kr0 tkr0 tar0 tbr0 tcr0 txr0 tyr0 dkr0 dar0 dbr0 dcr0 dxr0 dyr0 lr0 _ hr0 (by first | exact (F.own (by first | exact m0 | exact m1 | exact m2 | exact m3 | exact m4 | exact m5 | exact m6 | exact m7 | exact m8 | exact m9 | exact m10 | exact m11 | exact m12 | exact m13 | exact m14 | exact m15 | exact m16 | exact m17 | exact m18 | exact m19)).rd) (by first | exact (F.own (by first | exact m0 | exact m1 | exact m2 | exact m3 | exact m4 | exact m5 | exact m6 | exact m7 | exact m8 | exact m9 | exact m10 | exact m11 | exact m12 | exact m13 | exact m14 | exact m15 | exact m16 | exact m17 | exact m18 | exact m19)).rd)).mono ?_); rintro e w7 ⟨rfl, hb7⟩; (replace F := F.le hb7))) | (go_at_call 18; ((with_reducible refine (eqBlock_yes _ _ _ (fun j hj => (HHI.out j hj).trans (HHS.out j hj).symm)).mono ?_); rintro e w7 ⟨rfl, hb7⟩; (replace F := F.le hb7))))
  first | ((with_reducible refine callAt0U F ?_); clear F; intro wN F) | ((with_reducible refine callAtNU F ?_); clear F; intro wN F)
  refine (markStringR _ _ _ xr0 nr0 kr0 tkr0 tar0 tbr0 tcr0 txr0 tyr0 dkr0 dar0 dbr0 dcr0 dxr0 dyr0 lr0 1 _ hr0 (by omega) (by omega) (F.own (by first | exact m0 | exact m1 | exact m2 | exact m3 | exact m4 | exact m5 | exact m6 | exact m7 | exact m8 | exact m9 | exact m10 | exact m11 | exact m12 | exact m13 | exact m14 | exact m15 | exact m16 | exact m17 | exact m18 | exact m19))).mono ?_
  rintro e w5 ⟨rfl, hR, hU⟩
  (first | replace F := F.mark0 hR hU | replace F := F.mark1 hR hU | replace F := F.mark2 hR hU | replace F := F.mark3 hR hU | replace F := F.mark4 hR hU | replace F := F.mark5 hR hU | replace F := F.mark6 hR hU | replace F := F.mark7 hR hU | replace F := F.mark8 hR hU | replace F := F.mark9 hR hU | replace F := F.mark10 hR hU | replace F := F.mark11 hR hU | replace F := F.mark12 hR hU | replace F := F.mark13 hR hU | replace F := F.mark14 hR hU | replace F := F.mark15 hR hU | replace F := F.mark16 hR hU); clear hR hU
  go_wp2_with (first | (((with_reducible refine listNU F ?_); clear F; intro wN F)) | ((with_reducible refine at_loadU rfl rfl ?_); first | (with_reducible refine wpList_loadGU F rfl rfl rfl (by first | exact m0 | exact m1 | exact m2 | exact m3 | exact m4 | exact m5 | exact m6 | exact m7 | exact m8 | exact m9 | exact m10 | exact m11 | exact m12 | exact m13 | exact m14 | exact m15 | exact m16 | exact m17 | exact m18 | exact m19) Try.underlying48 rfl infoStr (by first | rfl | simp [size_ftab]) ?_) | (with_reducible refine wpList_loadGU F rfl rfl rfl (by first | exact m0 | exact m1 | exact m2 | exact m3 | exact m4 | exact m5 | exact m6 | exact m7 | exact m8 | exact m9 | exact m10 | exact m11 | exact m12 | exact m13 | exact m14 | exact m15 | exact m16 | exact m17 | exact m18 | exact m19) Try.underlying44 rfl infoStrL (by first | rfl | simp [size_ftab]) ?_) | (with_reducible refine wpList_loadGU F rfl rfl rfl (by first | exact m0 | exact m1 | exact m2 | exact m3 | exact m4 | exact m5 | exact m6 | exact m7 | exact m8 | exact m9 | exact m10 | exact m11 | exact m12 | exact m13 | exact m14 | exact m15 | exact m16 | exact m17 | exact m18 | exact m19) Try.underlying29 rfl infoBlk (by first | rfl | simp [size_ftab]) ?_) | (with_reducible refine wpList_loadGU F rfl rfl rfl (by first | exact m0 | exact m1 | exact m2 | exact m3 | exact m4 | exact m5 | exact m6 | exact m7 | exact m8 | exact m9 | exact m10 | exact m11 | exact m12 | exact m13 | exact m14 | exact m15 | exact m16 | exact m17 | exact m18 | exact m19) Try.underlying27 rfl infoBlkL (by first | rfl | simp [size_ftab]) ?_)) | ((with_reducible refine at_loadV rfl rfl ?_); first | (with_reducible refine wpList_loadGGU F rfl rfl (by first | exact m0 | exact m1 | exact m2 | exact m3 | exact m4 | exact m5 | exact m6 | exact m7 | exact m8 | exact m9 | exact m10 | exact m11 | exact m12 | exact m13 | exact m14 | exact m15 | exact m16 | exact m17 | exact m18 | exact m19) Try.underlying48 rfl infoStr (by first | rfl | simp [size_ftab]) (by kernel_rfl) ?_) | (with_reducible refine wpList_loadGGU F rfl rfl (by first | exact m0 | exact m1 | exact m2 | exact m3 | exact m4 | exact m5 | exact m6 | exact m7 | exact m8 | exact m9 | exact m10 | exact m11 | exact m12 | exact m13 | exact m14 | exact m15 | exact m16 | exact m17 | exact m18 | exact m19) Try.underlying44 rfl infoStrL (by first | rfl | simp [size_ftab]) (by kernel_rfl) ?_) | (with_reducible refine wpList_loadGGU F rfl rfl (by first | exact m0 | exact m1 | exact m2 | exact m3 | exact m4 | exact m5 | exact m6 | exact m7 | exact m8 | exact m9 | exact m10 | exact m11 | exact m12 | exact m13 | exact m14 | exact m15 | exact m16 | exact m17 | exact m18 | exact m19) Try.underlying29 rfl infoBlk (by first | rfl | simp [size_ftab]) (by kernel_rfl) ?_) | (with_reducible refine wpList_loadGGU F rfl rfl (by first | exact m0 | exact m1 | exact m2 | exact m3 | exact m4 | exact m5 | exact m6 | exact m7 | exact m8 | exact m9 | exact m10 | exact m11 | exact m12 | exact m13 | exact m14 | exact m15 | exact m16 | exact m17 | exact m18 | exact m19) Try.underlying27 rfl infoBlkL (by first | rfl | simp [size_ftab]) (by kernel_rfl) ?_)) | (go_at_call 27; ((with_reducible refine (heldStringR _ _ nr0 kr0 tkr0 tar0 tbr0 tcr0 txr0 tyr0 dkr0 dar0 dbr0 dcr0 dxr0 dyr0 lr0 1 _ hr0 (by omega) (by omega) (F.own (by first | exact m0 | exact m1 | exact m2 | exact m3 | exact m4 | exact m5 | exact m6 | exact m7 | exact m8 | exact m9 | exact m10 | exact m11 | exact m12 | exact m13 | exact m14 | exact m15 | exact m16 | exact m17 | exact m18 | exact m19)).rd).mono ?_); rintro e w6 ⟨rfl, hb6⟩; (replace F := F.le hb6))))
  first | (refine wpAt0U F ?_; clear F; intro wN F) | (refine wpAtNU F ?_; clear F; intro wN F)
  obtain ⟨T, hT⟩ : ∃ T : List (TypeId × Nat × (World → Array Value → Prop)), T = [(48, 15, fun wa cs => ∃ s', cs = #[s', .int .i64 kr0, .int .i64 tkr0, .float .f32 tar0, .float .f32 tbr0, .float .f32 tcr0, .float .f32 txr0, .float .f32 tyr0, .int .i64 dkr0, .float .f32 dar0, .float .f32 dbr0, .float .f32 dcr0, .float .f32 dxr0, .float .f32 dyr0, .float .f32 lr0] ∧ NewS wN.heap.size s' xr0 nr0 wa), (29, 16, fun _ cs => ∃ h, cs = ftab .f32 h 16 ∧ ∀ j, j < 16 → can .f32 (h j) = o j)] := ⟨_, rfl⟩
  have tf : ∀ x ∈ T, x.1 ≠ 22 := by rw [hT]; intro x hx; simp only [List.mem_cons, List.not_mem_nil, or_false] at hx; rcases hx with rfl | rfl <;> (dsimp only; decide)
  have hm : ∀ x ∈ T, ∀ w w' cs, keeps T w w' → x.2.2 w cs → x.2.2 w' cs := by
    intro x hx wa wb cs k h'
    have hx' := hx
    rw [hT] at hx'
    simp only [List.mem_cons, List.not_mem_nil, or_false] at hx'
    rcases hx' with rfl | rfl
    · obtain ⟨s', e, hn⟩ := h'; exact ⟨s', e, hn.keeps k tf⟩
    · exact h'
  have hd : ∀ x ∈ T, ∀ y ∈ T, x.1 = y.1 → x = y := by
    rw [hT]; intro x hx y hy e
    simp only [List.mem_cons, List.not_mem_nil, or_false] at hx hy
    rcases hx with rfl | rfl <;> rcases hy with rfl | rfl <;> first | rfl | (simp at e; done) | exact absurd (show _ = _ from e) (by decide)
  have q1 : (48, 15, fun wa cs => ∃ s', cs = #[s', .int .i64 kr0, .int .i64 tkr0, .float .f32 tar0, .float .f32 tbr0, .float .f32 tcr0, .float .f32 txr0, .float .f32 tyr0, .int .i64 dkr0, .float .f32 dar0, .float .f32 dbr0, .float .f32 dcr0, .float .f32 dxr0, .float .f32 dyr0, .float .f32 lr0] ∧ NewS wN.heap.size s' xr0 nr0 wa) ∈ T := by rw [hT]; exact List.mem_cons_self
  have q2 : (29, 16, fun (_ : World) cs => ∃ h, cs = ftab .f32 h 16 ∧ ∀ j, j < 16 → can .f32 (h j) = o j) ∈ T := by rw [hT]; exact List.mem_cons_of_mem _ List.mem_cons_self
  clear hT
  have F1 := F.drewN 1
  refine region_freeD (E := newF wN.heap.size T hm) (fun f _ wa v => if f = 23 then ∃ s', v = .agg #[s', .int .i64 k0, .int .i64 tk0, .float .f32 ta0, .float .f32 tb0, .float .f32 tc0, .float .f32 tx0, .float .f32 ty0, .int .i64 dk0, .float .f32 da0, .float .f32 db0, .float .f32 dc0, .float .f32 dx0, .float .f32 dy0, .float .f32 l0] ∧ NewS wN.heap.size s' x0 n0 wa else if f = 15 then v = .agg (ftab .f32 z 16) else ∃ v0 h, v = .tuple #[.agg #[v0, .int .i64 kr0, .int .i64 tkr0, .float .f32 tar0, .float .f32 tbr0, .float .f32 tcr0, .float .f32 txr0, .float .f32 tyr0, .int .i64 dkr0, .float .f32 dar0, .float .f32 dbr0, .float .f32 dcr0, .float .f32 dxr0, .float .f32 dyr0, .float .f32 lr0], .agg (ftab .f32 h 16), .int .i64 d] ∧ NewS wN.heap.size v0 xr0 nr0 wa ∧ ∀ j, j < 16 → can .f32 (h j) = o j) (by kernel_rfl) (by kernel_rfl) ?_
  refine wpFreeD_loadFG F rfl rfl rfl rfl (by first | exact m0 | exact m1 | exact m2 | exact m3 | exact m4 | exact m5 | exact m6 | exact m7 | exact m8 | exact m9 | exact m10 | exact m11 | exact m12 | exact m13 | exact m14 | exact m15 | exact m16 | exact m17 | exact m18 | exact m19) Try.underlying44 rfl infoStrL rfl ?_
  simp only [Act.put, List.setIfInBounds_toArray, List.set_cons_succ, List.set_cons_zero]
  refine wpFreeD_callB rfl rfl Try.func23 (by kernel_rfl) (by kernel_rfl) (args := #[.agg #[s0, .int .i64 k0, .int .i64 tk0, .float .f32 ta0, .float .f32 tb0, .float .f32 tc0, .float .f32 tx0, .float .f32 ty0, .int .i64 dk0, .float .f32 da0, .float .f32 db0, .float .f32 dc0, .float .f32 dx0, .float .f32 dy0, .float .f32 l0]]) (by simp [Act.eval]) (fun v wa wb hw hv => by simp only [if_true] at hv ⊢; obtain ⟨s', e, hn⟩ := hv; exact ⟨s', e, hn.keeps (newF_keeps hw) tf⟩) (fun wa ha _ => (toStringR _ s0 x0 n0 k0 tk0 ta0 tb0 tc0 tx0 ty0 dk0 da0 db0 dc0 dx0 dy0 l0 wa (Z0.out.le (Fk.le_trans F1.below (newF_le ha (Nat.le_refl _)))) hn0).mono ?_) ?_
  · rintro e wb ⟨u, rfl, ho, hl⟩
    exact ⟨_, rfl, hl, by simp only [if_true]; exact ⟨u, rfl, ho.mono ha.2.2.2.1 (Nat.le_refl _)⟩⟩
  rintro v ⟨_, _, _, hv⟩
  simp only [if_true] at hv
  obtain ⟨uH, rfl, _⟩ := hv
  simp only [Act.put, List.setIfInBounds_toArray, List.set_cons_succ, List.set_cons_zero]
  refine wpFreeD_loadFG F rfl rfl rfl rfl (by first | exact m0 | exact m1 | exact m2 | exact m3 | exact m4 | exact m5 | exact m6 | exact m7 | exact m8 | exact m9 | exact m10 | exact m11 | exact m12 | exact m13 | exact m14 | exact m15 | exact m16 | exact m17 | exact m18 | exact m19) Try.underlying27 rfl infoBlkL (size_ftab _ _ _) ?_
  simp only [Act.put, List.setIfInBounds_toArray, List.set_cons_succ, List.set_cons_zero]
  refine wpFreeD_callB rfl rfl Try.func15 (by kernel_rfl) (by kernel_rfl) (args := #[.agg (ftab .f32 z 16)]) (by simp [Act.eval]) (fun v wa wb _ hv => by simp only [show ¬ (15 = 23) by decide, if_false, if_true] at hv ⊢; exact hv) (fun wa _ _ => (toBlock_any z wa).mono ?_) ?_
  · rintro e wb ⟨rfl, hb⟩
    exact ⟨_, rfl, hb, by simp only [show ¬ (15 = 23) by decide, if_false, if_true]⟩
  rintro v ⟨_, _, _, hv⟩
  simp only [show ¬ (15 = 23) by decide, if_false, if_true] at hv
  subst hv
  simp only [Act.put, List.setIfInBounds_toArray, List.set_cons_succ, List.set_cons_zero]
  refine wpFreeD_callB rfl rfl Try.func40 (by kernel_rfl) (by kernel_rfl) (args := #[.agg #[uH, .int .i64 k0, .int .i64 tk0, .float .f32 ta0, .float .f32 tb0, .float .f32 tc0, .float .f32 tx0, .float .f32 ty0, .int .i64 dk0, .float .f32 da0, .float .f32 db0, .float .f32 dc0, .float .f32 dx0, .float .f32 dy0, .float .f32 l0], .agg (ftab .f32 z 16)]) (by simp [Act.eval]) (fun v wa wb hw hv => by simp only [show ¬ (40 = 23) by decide, show ¬ (40 = 15) by decide, if_false] at hv ⊢; obtain ⟨v0, h, e, hn, hh⟩ := hv; exact ⟨v0, h, e, hn.keeps (newF_keeps hw) tf, hh⟩) (fun wa ha hbe => ?_) ?_
  · have hk := (hbe ⟨1, Ground.data⟩ (by simp) (by kernel_rfl)).1.1.2 rfl
    simp only [if_true] at hk
    obtain ⟨s', he, hr⟩ := hk
    obtain rfl : uH = s' := by simpa using he
    refine (HI.out wa _ _ (OwnS.rd hr)).mono ?_
    rintro e wb ⟨v0, h, rfl, ho, hh, hl⟩
    exact ⟨_, rfl, hl, by simp only [show ¬ (40 = 23) by decide, show ¬ (40 = 15) by decide, if_false]; exact ⟨v0, h, rfl, ho.mono ha.2.2.2.1 (Nat.le_refl _), hh⟩⟩
  rintro v ⟨_, _, _, hv⟩
  simp only [show ¬ (40 = 23) by decide, show ¬ (40 = 15) by decide, if_false] at hv
  obtain ⟨vH, hH, rfl, hnH, hhH⟩ := hv
  have oc := hid (OwnS.one hnH)
  replace hhH := hid hhH
  clear hnH
  simp only [Act.put, List.setIfInBounds_toArray, List.set_cons_succ, List.set_cons_zero]
  refine wpFreeD_oneK rfl (.tuple #[.agg #[vH, .int .i64 kr0, .int .i64 tkr0, .float .f32 tar0, .float .f32 tbr0, .float .f32 tcr0, .float .f32 txr0, .float .f32 tyr0, .int .i64 dkr0, .float .f32 dar0, .float .f32 dbr0, .float .f32 dcr0, .float .f32 dxr0, .float .f32 dyr0, .float .f32 lr0], .agg (ftab .f32 hH 16), .int .i64 d]) (fun wa => NewS wN.heap.size vH xr0 nr0 wa) (fun _ _ hw hn => hn.keeps (newF_keeps hw) tf) (fun wa _ => by kernel_rfl) (fun wa _ hbe => by
    have hk := (hbe ⟨4, Ground.data⟩ (by simp) (by kernel_rfl)).2 rfl
    simp only [show ¬ (40 = 23) by decide, show ¬ (40 = 15) by decide, if_false] at hk
    obtain ⟨v0, h, e, hn, _⟩ := hk
    have e' : vH = v0 := by simp at e; exact e.1
    rw [e']; exact hn) ?_
  simp only [Act.put, List.setIfInBounds_toArray, List.set_cons_succ, List.set_cons_zero]
  refine wpFreeD_oneK rfl (.agg #[vH, .int .i64 kr0, .int .i64 tkr0, .float .f32 tar0, .float .f32 tbr0, .float .f32 tcr0, .float .f32 txr0, .float .f32 tyr0, .int .i64 dkr0, .float .f32 dar0, .float .f32 dbr0, .float .f32 dcr0, .float .f32 dxr0, .float .f32 dyr0, .float .f32 lr0]) (fun wa => NewS wN.heap.size vH xr0 nr0 wa) (fun _ _ hw hn => hn.keeps (newF_keeps hw) tf) (fun wa _ => by kernel_rfl) (fun wa _ hbe => (hbe ⟨5, Ground.data⟩ (by simp) (by kernel_rfl)).2 rfl) ?_
  simp only [Act.put, List.setIfInBounds_toArray, List.set_cons_succ, List.set_cons_zero]
  refine wpFreeD_one rfl (.agg (ftab .f32 hH 16)) (fun wa _ => by kernel_rfl) ?_
  simp only [Act.put, List.setIfInBounds_toArray, List.set_cons_succ, List.set_cons_zero]
  refine wpFreeD_one rfl (.int .i64 d) (fun wa _ => by kernel_rfl) ?_
  simp only [Act.put, List.setIfInBounds_toArray, List.set_cons_succ, List.set_cons_zero]
  refine wpFreeD_allocF rfl rfl #[.slice none 0 0, .int .i64 0, .int .i64 0, .float .f32 0, .float .f32 0, .float .f32 0, .float .f32 0, .float .f32 0, .int .i64 0, .float .f32 0, .float .f32 0, .float .f32 0, .float .f32 0, .float .f32 0, .float .f32 0] allocStr q1 rfl rfl (fun gH hgH => ?_)
  simp only [Act.put, List.setIfInBounds_toArray, List.set_cons_succ, List.set_cons_zero]
  refine wpFreeD_allocF rfl rfl (ftab .f32 (fun _ => 0) 16) allocBlk q2 (size_ftab _ _ _) rfl (fun pH hpH => ?_)
  simp only [Act.put, List.setIfInBounds_toArray, List.set_cons_succ, List.set_cons_zero]
  refine wpFreeD_storeF rfl rfl rfl (cells := #[vH, .int .i64 kr0, .int .i64 tkr0, .float .f32 tar0, .float .f32 tbr0, .float .f32 tcr0, .float .f32 txr0, .float .f32 tyr0, .int .i64 dkr0, .float .f32 dar0, .float .f32 dbr0, .float .f32 dcr0, .float .f32 dxr0, .float .f32 dyr0, .float .f32 lr0]) rfl q1 (fun wa _ hbe => ⟨vH, rfl, (hbe ⟨6, Ground.data⟩ (by simp) (by kernel_rfl)).1.1.1.1.2 rfl⟩) hd hgH (fun wa _ hbe => (hbe ⟨9, Ground.data⟩ (by simp) (by kernel_rfl)).1.2 rfl) infoStr rfl (one_head oc.out rfl) ?_
  simp only [Act.put, List.setIfInBounds_toArray, List.set_cons_succ, List.set_cons_zero]
  refine wpFreeD_storeF rfl rfl rfl (cells := ftab .f32 hH 16) rfl q2 (fun _ _ _ => ⟨hH, rfl, hhH.out⟩) hd hpH (fun wa _ hbe => (hbe ⟨10, Ground.data⟩ (by simp) (by kernel_rfl)).1.2 rfl) infoBlk (size_ftab _ _ _) (one_ftab _ _ _) ?_
  simp only [Act.put, List.setIfInBounds_toArray, List.set_cons_succ, List.set_cons_zero]
  refine wpFreeD_one rfl (.int .i64 d) (fun wa _ => by kernel_rfl) ?_
  simp only [Act.put, List.setIfInBounds_toArray, List.set_cons_succ, List.set_cons_zero]
  refine wpFreeD_nil (fun wR hwR hF => ?_)
  obtain ⟨_, r6, yH, rfl, hoH⟩ := (hF 11).1.1.2 rfl
  obtain ⟨_, r7, fH, rfl, HHH⟩ := (hF 12).1.2 rfl
  obtain ⟨loH, hiH, F2⟩ := FrgU.two F1 (newF_le hwR (Nat.le_refl _)) r6 hgH r7 hpH (by decide) (by decide) (by decide) hoH
  have ocH := hid (OwnS.one hoH)
  replace HHH := hid HHH
  clear hwR hF F1 F r6 r7 hgH hpH hoH hd q1 q2 oc hhH
  have F := F2
  clear F2
  go_wp2_with (first | (((with_reducible refine listNU F ?_); clear F; intro wN F)) | ((with_reducible refine at_store rfl ?_); first | (refine wpList_storeGU F rfl rfl rfl rfl rfl infoStr rfl (by first | exact one_head (Hid.out (by assumption)) rfl | (simp [Value.oneCell']; done)) ?_; clear F; intro W F zW; clear zW)) | ((with_reducible refine at_loadU rfl rfl ?_); first | (with_reducible refine wpList_loadGU F rfl rfl rfl (by first | exact m0 | exact m1 | exact m2 | exact m3 | exact m4 | exact m5 | exact m6 | exact m7 | exact m8 | exact m9 | exact m10 | exact m11 | exact m12 | exact m13 | exact m14 | exact m15 | exact m16 | exact m17 | exact m18 | exact m19) Try.underlying48 rfl infoStr (by first | rfl | simp [size_ftab]) ?_) | (with_reducible refine wpList_loadGU F rfl rfl rfl (by first | exact m0 | exact m1 | exact m2 | exact m3 | exact m4 | exact m5 | exact m6 | exact m7 | exact m8 | exact m9 | exact m10 | exact m11 | exact m12 | exact m13 | exact m14 | exact m15 | exact m16 | exact m17 | exact m18 | exact m19) Try.underlying44 rfl infoStrL (by first | rfl | simp [size_ftab]) ?_) | (with_reducible refine wpList_loadGU F rfl rfl rfl (by first | exact m0 | exact m1 | exact m2 | exact m3 | exact m4 | exact m5 | exact m6 | exact m7 | exact m8 | exact m9 | exact m10 | exact m11 | exact m12 | exact m13 | exact m14 | exact m15 | exact m16 | exact m17 | exact m18 | exact m19) Try.underlying29 rfl infoBlk (by first | rfl | simp [size_ftab]) ?_) | (with_reducible refine wpList_loadGU F rfl rfl rfl (by first | exact m0 | exact m1 | exact m2 | exact m3 | exact m4 | exact m5 | exact m6 | exact m7 | exact m8 | exact m9 | exact m10 | exact m11 | exact m12 | exact m13 | exact m14 | exact m15 | exact m16 | exact m17 | exact m18 | exact m19) Try.underlying27 rfl infoBlkL (by first | rfl | simp [size_ftab]) ?_)) | ((with_reducible refine at_loadV rfl rfl ?_); first | (with_reducible refine wpList_loadGGU F rfl rfl (by first | exact m0 | exact m1 | exact m2 | exact m3 | exact m4 | exact m5 | exact m6 | exact m7 | exact m8 | exact m9 | exact m10 | exact m11 | exact m12 | exact m13 | exact m14 | exact m15 | exact m16 | exact m17 | exact m18 | exact m19) Try.underlying48 rfl infoStr (by first | rfl | simp [size_ftab]) (by kernel_rfl) ?_) | (with_reducible refine wpList_loadGGU F rfl rfl (by first | exact m0 | exact m1 | exact m2 | exact m3 | exact m4 | exact m5 | exact m6 | exact m7 | exact m8 | exact m9 | exact m10 | exact m11 | exact m12 | exact m13 | exact m14 | exact m15 | exact m16 | exact m17 | exact m18 | exact m19) Try.underlying44 rfl infoStrL (by first | rfl | simp [size_ftab]) (by kernel_rfl) ?_) | (with_reducible refine wpList_loadGGU F rfl rfl (by first | exact m0 | exact m1 | exact m2 | exact m3 | exact m4 | exact m5 | exact m6 | exact m7 | exact m8 | exact m9 | exact m10 | exact m11 | exact m12 | exact m13 | exact m14 | exact m15 | exact m16 | exact m17 | exact m18 | exact m19) Try.underlying29 rfl infoBlk (by first | rfl | simp [size_ftab]) (by kernel_rfl) ?_) | (with_reducible refine wpList_loadGGU F rfl rfl (by first | exact m0 | exact m1 | exact m2 | exact m3 | exact m4 | exact m5 | exact m6 | exact m7 | exact m8 | exact m9 | exact m10 | exact m11 | exact m12 | exact m13 | exact m14 | exact m15 | exact m16 | exact m17 | exact m18 | exact m19) Try.underlying27 rfl infoBlkL (by first | rfl | simp [size_ftab]) (by kernel_rfl) ?_)) | (go_at_call 25; ((with_reducible refine (eqStringR _ _ _ _ xr0 nr0 kr0 tkr0 tar0 tbr0 tcr0 txr0 tyr0 dkr0 dar0 dbr0 dcr0 dxr0 dyr0 lr0 _ hr0 (by first | exact (F.own (by first | exact m0 | exact m1 | exact m2 | exact m3 | exact m4 | exact m5 | exact m6 | exact m7 | exact m8 | exact m9 | exact m10 | exact m11 | exact m12 | exact m13 | exact m14 | exact m15 | exact m16 | exact m17 | exact m18 | exact m19)).rd) (by first | exact (F.own (by first | exact m0 | exact m1 | exact m2 | exact m3 | exact m4 | exact m5 | exact m6 | exact m7 | exact m8 | exact m9 | exact m10 | exact m11 | exact m12 | exact m13 | exact m14 | exact m15 | exact m16 | exact m17 | exact m18 | exact m19)).rd)).mono ?_); rintro e w7 ⟨rfl, hb7⟩; (replace F := F.le hb7))) | (go_at_call 18; ((with_reducible refine (eqBlock_yes _ _ _ (fun j hj => (HHH.out j hj).trans (HHS.out j hj).symm)).mono ?_); rintro e w7 ⟨rfl, hb7⟩; (replace F := F.le hb7))) | (go_at_call 27; ((with_reducible refine (heldStringR _ _ nr0 kr0 tkr0 tar0 tbr0 tcr0 txr0 tyr0 dkr0 dar0 dbr0 dcr0 dxr0 dyr0 lr0 1 _ hr0 (by omega) (by omega) (F.own (by first | exact m0 | exact m1 | exact m2 | exact m3 | exact m4 | exact m5 | exact m6 | exact m7 | exact m8 | exact m9 | exact m10 | exact m11 | exact m12 | exact m13 | exact m14 | exact m15 | exact m16 | exact m17 | exact m18 | exact m19)).rd).mono ?_); rintro e w6 ⟨rfl, hb6⟩; (replace F := F.le hb6))))
  go_ret
  first | exact ⟨rfl, F.below⟩ | exact ⟨rfl, below_drewN F.below _⟩
set_option maxRecDepth 100000 in
set_option maxHeartbeats 2000000 in
theorem large0 (s0 : Value) (x0 : Nat → Nat) (n0 : Nat) (k0 : Int) (tk0 : Int) (ta0 : Nat) (tb0 : Nat) (tc0 : Nat) (tx0 : Nat) (ty0 : Nat) (dk0 : Int) (da0 : Nat) (db0 : Nat) (dc0 : Nat) (dx0 : Nat) (dy0 : Nat) (l0 : Nat) (z : Nat → Nat) (w : World) (z0 : RdS w w.heap.size s0 x0 n0) (hl : ¬ n0 ≤ 1048576) :
    Calls Try.prog 9 #[.agg #[s0, .int .i64 k0, .int .i64 tk0, .float .f32 ta0, .float .f32 tb0, .float .f32 tc0, .float .f32 tx0, .float .f32 ty0, .int .i64 dk0, .float .f32 da0, .float .f32 db0, .float .f32 dc0, .float .f32 dx0, .float .f32 dy0, .float .f32 l0], .agg (ftab .f32 z 16)] w fun e w' => e = .returned (.bool true) ∧ Below w.heap.size w w' := by
  have Z0 := hid z0; have hs0 := z0.small; clear z0
  have F := ((FrgU.nil w).box 44 (#[s0, .int .i64 k0, .int .i64 tk0, .float .f32 ta0, .float .f32 tb0, .float .f32 tc0, .float .f32 tx0, .float .f32 ty0, .int .i64 dk0, .float .f32 da0, .float .f32 db0, .float .f32 dc0, .float .f32 dx0, .float .f32 dy0, .float .f32 l0])).box 27 (ftab .f32 z 16)
  simp only [World.size_alloc] at F
  go_enter Try.func9, Try.ntmps9
  go_wp2_with (first | (((with_reducible refine listNU F ?_); clear F; intro wN F)) | ((with_reducible refine at_loadU rfl rfl ?_); first | (with_reducible refine wpList_loadGU F rfl rfl rfl (by first | exact m0 | exact m1 | exact m2 | exact m3 | exact m4 | exact m5 | exact m6 | exact m7 | exact m8 | exact m9 | exact m10 | exact m11 | exact m12 | exact m13 | exact m14 | exact m15 | exact m16 | exact m17 | exact m18 | exact m19) Try.underlying48 rfl infoStr (by first | rfl | simp [size_ftab]) ?_) | (with_reducible refine wpList_loadGU F rfl rfl rfl (by first | exact m0 | exact m1 | exact m2 | exact m3 | exact m4 | exact m5 | exact m6 | exact m7 | exact m8 | exact m9 | exact m10 | exact m11 | exact m12 | exact m13 | exact m14 | exact m15 | exact m16 | exact m17 | exact m18 | exact m19) Try.underlying44 rfl infoStrL (by first | rfl | simp [size_ftab]) ?_) | (with_reducible refine wpList_loadGU F rfl rfl rfl (by first | exact m0 | exact m1 | exact m2 | exact m3 | exact m4 | exact m5 | exact m6 | exact m7 | exact m8 | exact m9 | exact m10 | exact m11 | exact m12 | exact m13 | exact m14 | exact m15 | exact m16 | exact m17 | exact m18 | exact m19) Try.underlying29 rfl infoBlk (by first | rfl | simp [size_ftab]) ?_) | (with_reducible refine wpList_loadGU F rfl rfl rfl (by first | exact m0 | exact m1 | exact m2 | exact m3 | exact m4 | exact m5 | exact m6 | exact m7 | exact m8 | exact m9 | exact m10 | exact m11 | exact m12 | exact m13 | exact m14 | exact m15 | exact m16 | exact m17 | exact m18 | exact m19) Try.underlying27 rfl infoBlkL (by first | rfl | simp [size_ftab]) ?_)) | ((with_reducible refine at_loadV rfl rfl ?_); first | (with_reducible refine wpList_loadGGU F rfl rfl (by first | exact m0 | exact m1 | exact m2 | exact m3 | exact m4 | exact m5 | exact m6 | exact m7 | exact m8 | exact m9 | exact m10 | exact m11 | exact m12 | exact m13 | exact m14 | exact m15 | exact m16 | exact m17 | exact m18 | exact m19) Try.underlying48 rfl infoStr (by first | rfl | simp [size_ftab]) (by kernel_rfl) ?_) | (with_reducible refine wpList_loadGGU F rfl rfl (by first | exact m0 | exact m1 | exact m2 | exact m3 | exact m4 | exact m5 | exact m6 | exact m7 | exact m8 | exact m9 | exact m10 | exact m11 | exact m12 | exact m13 | exact m14 | exact m15 | exact m16 | exact m17 | exact m18 | exact m19) Try.underlying44 rfl infoStrL (by first | rfl | simp [size_ftab]) (by kernel_rfl) ?_) | (with_reducible refine wpList_loadGGU F rfl rfl (by first | exact m0 | exact m1 | exact m2 | exact m3 | exact m4 | exact m5 | exact m6 | exact m7 | exact m8 | exact m9 | exact m10 | exact m11 | exact m12 | exact m13 | exact m14 | exact m15 | exact m16 | exact m17 | exact m18 | exact m19) Try.underlying29 rfl infoBlk (by first | rfl | simp [size_ftab]) (by kernel_rfl) ?_) | (with_reducible refine wpList_loadGGU F rfl rfl (by first | exact m0 | exact m1 | exact m2 | exact m3 | exact m4 | exact m5 | exact m6 | exact m7 | exact m8 | exact m9 | exact m10 | exact m11 | exact m12 | exact m13 | exact m14 | exact m15 | exact m16 | exact m17 | exact m18 | exact m19) Try.underlying27 rfl infoBlkL (by first | rfl | simp [size_ftab]) (by kernel_rfl) ?_)) | (go_at_call 21; ((with_reducible refine (szStringRM_no _ s0 x0 n0 k0 tk0 ta0 tb0 tc0 tx0 ty0 dk0 da0 db0 dc0 dx0 dy0 l0 (1048576 : Int) _ (Z0.out.le F.below) (by omega) (by omega) (by omega)).mono ?_); rintro e w1 ⟨rfl, hb1⟩; (replace F := F.le hb1))))
  go_ret
  first | exact ⟨rfl, F.below⟩ | exact ⟨rfl, below_drewN F.below _⟩
theorem walk (s0 : Value) (y0 : Nat → Nat) (n0 : Nat) (k0 : Int) (tk0 : Int) (ta0 : Nat) (tb0 : Nat) (tc0 : Nat) (tx0 : Nat) (ty0 : Nat) (dk0 : Int) (da0 : Nat) (db0 : Nat) (dc0 : Nat) (dx0 : Nat) (dy0 : Nat) (l0 : Nat) (a1 : List Nat) (w : World) (w0 : (Lit.int .i64 k0).wf = true ∧ (Lit.int .i64 tk0).wf = true ∧ fits .f32 ta0 ∧ fits .f32 tb0 ∧ fits .f32 tc0 ∧ fits .f32 tx0 ∧ fits .f32 ty0 ∧ (Lit.int .i64 dk0).wf = true ∧ fits .f32 da0 ∧ fits .f32 db0 ∧ fits .f32 dc0 ∧ fits .f32 dx0 ∧ fits .f32 dy0 ∧ fits .f32 l0) (z0 : SlIn w s0 y0 n0) (l1 : a1.length = 16) (w1 : ∀ b ∈ a1, fits .f32 b) :
    Calls Try.prog 9 #[.agg #[s0, .int .i64 k0, .int .i64 tk0, .float .f32 ta0, .float .f32 tb0, .float .f32 tc0, .float .f32 tx0, .float .f32 ty0, .int .i64 dk0, .float .f32 da0, .float .f32 db0, .float .f32 dc0, .float .f32 dx0, .float .f32 dy0, .float .f32 l0], .agg (a1.map (Value.float .f32)).toArray] w fun e w' => e = .returned (.bool true) ∧ Below w.heap.size w w' := by
  rw [ftab_of_list, l1]
  obtain ⟨z, hz⟩ : ∃ z : Nat → Nat, z = fun j => a1.getD j 0 := ⟨_, rfl⟩
  rw [← hz]
  have Hz : ∀ j, j < 16 → fits .f32 (z j) := fun j hj => by rw [hz]; exact w1 _ (by simp only [List.getD, List.getElem?_eq_getElem (show j < a1.length by omega), Option.getD_some]; exact List.getElem_mem _)
  clear hz l1 w1
  by_cases h0 : n0 ≤ 1048576
  · obtain ⟨xr0, nr0, kr0, tkr0, tar0, tbr0, tcr0, txr0, tyr0, dkr0, dar0, dbr0, dcr0, dxr0, dyr0, lr0, d, o, hr0, hS, hI⟩ := both_BlockOfString (fun i => can .f32 (y0 i)) n0 k0 tk0 ta0 tb0 tc0 tx0 ty0 dk0 da0 db0 dc0 dx0 dy0 l0 z w0 Hz
    exact core s0 (fun i => can .f32 (y0 i)) n0 k0 tk0 ta0 tb0 tc0 tx0 ty0 dk0 da0 db0 dc0 dx0 dy0 l0 z xr0 nr0 kr0 tkr0 tar0 tbr0 tcr0 txr0 tyr0 dkr0 dar0 dbr0 dcr0 dxr0 dyr0 lr0 d o w z0.rd h0 hr0 hS hI
  · exact large0 s0 (fun i => can .f32 (y0 i)) n0 k0 tk0 ta0 tb0 tc0 tx0 ty0 dk0 da0 db0 dc0 dx0 dy0 l0 z w z0.rd h0
end Go.Proofs.Ytmacednkpjfokaa.fnExactBlockOfString
