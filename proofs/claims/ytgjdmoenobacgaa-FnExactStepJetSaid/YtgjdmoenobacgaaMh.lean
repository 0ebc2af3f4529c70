/- Texts of the walk, laid in one file. -/
import Derived.Deep.RegionWith
import Derived.Test.YtgjdmoenobacgaaRows
import Derived.Laws.BitsAllLaws
import Derived.Handy
import Derived.Test.YtgjdmoenobacgaaMg
set_option linter.unusedVariables false
set_option linter.unusedSimpArgs false
/- A jet's steps, both sides. -/
namespace Go.Fk
open Go Go.RowKit
/-- A valid jet. -/
structure JtS where
  x : Nat → Nat
  y : Nat → Nat
  nx : Nat
  ny : Nat
  j : Nat
  k : Nat
  a : Nat
  b : Nat
  c : Nat
  p : Nat
  q : Nat
  a2 : Nat
  b2 : Nat
  c2 : Nat
  p2 : Nat
  q2 : Nat
  m : Nat
  o : Nat
structure JtS.Ok (q : JtS) : Prop where
  nx1 : 1 ≤ q.nx
  nx2 : q.nx ≤ 1024
  ny1 : 1 ≤ q.ny
  ny2 : q.ny ≤ 1024
  j1 : q.j < q.nx
  k1 : q.k < q.ny
  f : okF 1 q.a q.b q.c q.p q.q = true
  f2 : okF 5 q.a2 q.b2 q.c2 q.p2 q.q2 = true
  fa : fits .f32 q.a
  fb : fits .f32 q.b
  fc : fits .f32 q.c
  fp : fits .f32 q.p
  fq : fits .f32 q.q
  fa2 : fits .f32 q.a2
  fb2 : fits .f32 q.b2
  fc2 : fits .f32 q.c2
  fp2 : fits .f32 q.p2
  fq2 : fits .f32 q.q2
  fm : fits .f32 q.m
  fo : fits .f32 q.o
/-- What the first filter, and what both make of the oldest sample of the bore. -/
def lJ (q : JtS) : Nat := outF 1 q.a q.b q.c q.p q.q (q.y q.k)
def eJ (q : JtS) : Nat := outF 5 q.a2 q.b2 q.c2 q.p2 q.q2 (lJ q)
def n1J (q : JtS) (br : Nat) : Nat := kept (fop .sub .f32 br (fop .mul .f32 q.m (eJ q)))
def n2J (q : JtS) : Nat := kept (fop .add .f32 (jetV (q.x q.j)) (fop .mul .f32 q.o (eJ q)))
def stepJ (q : JtS) (br : Nat) : JtS := { q with x := pushX q.x q.j (n1J q br), y := pushX q.y q.k (n2J q), j := (q.j + 1) % q.nx, k := (q.k + 1) % q.ny, p := st0 1 q.a q.b q.c q.p q.q (q.y q.k), q := st1 1 q.a q.b q.c q.p q.q (q.y q.k), p2 := st0 5 q.a2 q.b2 q.c2 q.p2 q.q2 (lJ q), q2 := st1 5 q.a2 q.b2 q.c2 q.p2 q.q2 (lJ q) }
theorem can_lJ (q : JtS) : can .f32 (lJ q) = lJ q := can_outF _ _ _ _ _ _ _
theorem can_eJ (q : JtS) : can .f32 (eJ q) = eJ q := can_outF _ _ _ _ _ _ _
theorem n1J_of {q : JtS} {br e p r : Nat} (he : can .f32 e = eJ q) (hp : can .f32 p = fop .mul .f32 q.m e) (hr : can .f32 r = fop .sub .f32 br p) : kept r = n1J q br :=
  kept_can (hr.trans ((fop_congr rfl (hp.trans ((fop_congr rfl (he.trans (can_eJ q).symm)).trans (can_fop _ _ _ _).symm))).trans (can_fop _ _ _ _).symm))
theorem n2J_of {q : JtS} {e y p r : Nat} (he : can .f32 e = eJ q) (hy : can .f32 y = jetV (q.x q.j)) (hp : can .f32 p = fop .mul .f32 q.o e) (hr : can .f32 r = fop .add .f32 y p) : kept r = n2J q :=
  kept_can (hr.trans ((fop_congr (hy.trans (show jetV (q.x q.j) = can .f32 (jetV (q.x q.j)) from (can_can _ _).symm)) (hp.trans ((fop_congr rfl (he.trans (can_eJ q).symm)).trans (can_fop _ _ _ _).symm))).trans (can_fop _ _ _ _).symm))
theorem fits_n1J (q : JtS) (br : Nat) : fits .f32 (n1J q br) := fits_kept (fits_fop _ _ _ _)
theorem fits_n2J (q : JtS) : fits .f32 (n2J q) := fits_kept (fits_fop _ _ _ _)
theorem JtS.Ok.step {q : JtS} (h : q.Ok) (br : Nat) (hf : fits .f32 (q.y q.k)) : (stepJ q br).Ok where
  nx1 := h.nx1
  nx2 := h.nx2
  ny1 := h.ny1
  ny2 := h.ny2
  j1 := Nat.mod_lt _ h.nx1
  k1 := Nat.mod_lt _ h.ny1
  f := okF_step h.f
  f2 := okF_step h.f2
  fa := h.fa
  fb := h.fb
  fc := h.fc
  fp := show fits .f32 (st0 1 q.a q.b q.c q.p q.q (q.y q.k)) from fits_st0 hf (fits_outF _ _ _ _ _ _ _)
  fq := show fits .f32 (st1 1 q.a q.b q.c q.p q.q (q.y q.k)) from fits_st1 h.fp
  fa2 := h.fa2
  fb2 := h.fb2
  fc2 := h.fc2
  fp2 := show fits .f32 (st0 5 q.a2 q.b2 q.c2 q.p2 q.q2 (lJ q)) from fits_st0 (fits_outF _ _ _ _ _ _ _) (fits_outF _ _ _ _ _ _ _)
  fq2 := show fits .f32 (st1 5 q.a2 q.b2 q.c2 q.p2 q.q2 (lJ q)) from fits_st1 h.fp2
  fm := h.fm
  fo := h.fo
theorem chg_updJ {g : Nat} {w w' : World} (h : Upd g w w') : Chg (· = g) w w' := ⟨h.os, h.tape, h.output, h.size, fun k hk hn => h.block k hk hn⟩
end Go.Fk
namespace Go.Proofs.Ytgjdmoenobacgaa
open Go.RowKit Go.Fk
theorem i_JetAtD (p : Nat) (w : World) : Calls Try.prog 127 #[.float .f32 p] w fun e w' => ∃ r, e = .returned (.float .f32 r) ∧ can .f32 r = jetV p ∧ ∃ n, w' = w.drewN n := by
  go_enter Try.func127, Try.ntmps127
  go_wp2_with (first | (with_reducible refine wpList_farith rfl rfl rfl rfl rfl ?_; intro r1 n1 hr1 hf1) | (go_at_call 142; refine (i_ClampSample _ _ _).mono ?_; rintro e w' ⟨rfl, rfl⟩))
  go_ret
  exact ⟨_, rfl, jet_of ‹Hid (can .f32 _ = fop .mul .f32 p p)›.out ‹Hid (can .f32 _ = fop .sub .f32 _ _)›.out (Hid.out (by assumption)), _, rfl⟩
theorem s_l05EdgeD (p : Nat) (w : World) : Calls Try.prog 126 #[.float .f32 p] w fun e w' => ∃ r, e = .returned (.float .f32 r) ∧ can .f32 r = jetV p ∧ ∃ n, w' = w.drewN n := by
  go_enter Try.func126, Try.ntmps126
  go_wp2_with (first | (with_reducible refine wpList_farith rfl rfl rfl rfl rfl ?_; intro r1 n1 hr1 hf1) | (go_at_call 141; refine (s_l01Clamp _ _ _).mono ?_; rintro e w' ⟨rfl, rfl⟩))
  go_ret
  exact ⟨_, rfl, jet_of ‹Hid (can .f32 _ = fop .mul .f32 p p)›.out ‹Hid (can .f32 _ = fop .sub .f32 _ _)›.out (Hid.out (by assumption)), _, rfl⟩
set_option maxRecDepth 100000 in
set_option maxHeartbeats 4000000 in
theorem i_jstep (q : JtS) (br z1 z2 z3 z4 : Nat) (s t : Value) (lo hi lo2 hi2 g r r2 : Nat) (w : World) (R : Row w g 158 #[s, .int .i64 (q.j : Nat), t, .int .i64 (q.k : Nat), .int .i64 1, .float .f32 q.a, .float .f32 q.b, .float .f32 q.c, .float .f32 z1, .float .f32 z2, .int .i64 5, .float .f32 q.a2, .float .f32 q.b2, .float .f32 q.c2, .float .f32 z3, .float .f32 z4, .float .f32 q.m, .float .f32 q.o, .pointer (some ⟨r, 0, none⟩), .pointer (some ⟨r2, 0, none⟩)]) (RR : Row w r 149 #[mdl 1 q.a q.b q.c, .float .f32 q.p, .float .f32 q.q]) (RR2 : Row w r2 149 #[mdl 5 q.a2 q.b2 q.c2, .float .f32 q.p2, .float .f32 q.q2]) (O1 : OwnS w lo hi s q.x q.nx) (O2 : OwnS w lo2 hi2 t q.y q.ny) (ok : q.Ok) (h1 : ¬ (lo ≤ r ∧ r < hi)) (h2 : ¬ (lo2 ≤ r ∧ r < hi2)) (h3 : ¬ (lo ≤ r2 ∧ r2 < hi)) (h4 : ¬ (lo2 ≤ r2 ∧ r2 < hi2)) (hg : g ≠ r) (hg2 : g ≠ r2) (hrr : r ≠ r2) (hbr : fits .f32 br) (g1 : ¬ (lo ≤ g ∧ g < hi)) (g2 : ¬ (lo2 ≤ g ∧ g < hi2)) (hd : hi ≤ lo2 ∨ hi2 ≤ lo) :
    Calls Try.prog 99 #[.pointer (some ⟨g, 0, none⟩), .float .f32 br] w fun e w' => ∃ o, e = .returned (.float .f32 o) ∧ can .f32 o = q.y q.k ∧ fits .f32 o ∧ Row w' g 158 #[s, .int .i64 ((stepJ q br).j : Nat), t, .int .i64 ((stepJ q br).k : Nat), .int .i64 1, .float .f32 (stepJ q br).a, .float .f32 (stepJ q br).b, .float .f32 (stepJ q br).c, .float .f32 z1, .float .f32 z2, .int .i64 5, .float .f32 (stepJ q br).a2, .float .f32 (stepJ q br).b2, .float .f32 (stepJ q br).c2, .float .f32 z3, .float .f32 z4, .float .f32 (stepJ q br).m, .float .f32 (stepJ q br).o, .pointer (some ⟨r, 0, none⟩), .pointer (some ⟨r2, 0, none⟩)] ∧ Row w' r 149 #[mdl 1 (stepJ q br).a (stepJ q br).b (stepJ q br).c, .float .f32 (stepJ q br).p, .float .f32 (stepJ q br).q] ∧ Row w' r2 149 #[mdl 5 (stepJ q br).a2 (stepJ q br).b2 (stepJ q br).c2, .float .f32 (stepJ q br).p2, .float .f32 (stepJ q br).q2] ∧ OwnS w' lo hi s (stepJ q br).x q.nx ∧ OwnS w' lo2 hi2 t (stepJ q br).y q.ny ∧ Chg (fun i => i = g ∨ i = r ∨ i = r2 ∨ lo ≤ i ∧ i < hi ∨ lo2 ≤ i ∧ i < hi2) w w' := by
  have HO2 := hid (fun (w' : World) (hl : le w w') => i_oldest hi2 t q.y q.ny q.k w' (O2.rd.le hl) ok.k1 ok.ny2)
  have HR := hid R; have HRR := hid RR; have HRR2 := hid RR2; have HO1 := hid O1; have HOO := hid O2; have OK := hid ok
  have hx1 : ∃ y, fits .f32 y ∧ can .f32 y = q.x q.j := by
    rcases O1 with ⟨_, h⟩ | ⟨b, o, cap, ds, _, _, _, _, _, _, hx⟩
    · have := ok.nx1; omega
    · obtain ⟨y, _, f1, c1⟩ := hx q.j ok.j1; exact ⟨y, f1, c1⟩
  clear R RR RR2 O1 O2 ok
  go_enter Try.func99, Try.ntmps99
  go_wp2_with (first | ((with_reducible refine at_loadU rfl rfl ?_); (with_reducible refine wpList_loadPR HR.out rfl rfl rfl Try.underlying25 rfl [t, .int .i64 (q.k : Nat)] (midOf [s, .int .i64 (q.j : Nat)] [t, .int .i64 (q.k : Nat)] [.int .i64 1, .float .f32 q.a, .float .f32 q.b, .float .f32 q.c, .float .f32 z1, .float .f32 z2, .int .i64 5, .float .f32 q.a2, .float .f32 q.b2, .float .f32 q.c2, .float .f32 z3, .float .f32 z4, .float .f32 q.m, .float .f32 q.o, .pointer (some ⟨r, 0, none⟩), .pointer (some ⟨r2, 0, none⟩)] 2 rfl) infoRing rfl ?_)) | (go_at_call 116; ((with_reducible refine (HO2.out _ (le_refl _)).mono ?_); rintro e w1 ⟨yk, rfl, hy, fy, hl1⟩; have HY : Hid (can .f32 yk = can .f32 (q.y q.k)) := (by unfold Hid; rw [← hy, can_can]); have HY0 := hid hy; have FY := hid fy; have L1 := hid hl1; clear hy fy hl1)))
  have R1d : Hid (Row w1.drew g 158 #[s, .int .i64 (q.j : Nat), t, .int .i64 (q.k : Nat), .int .i64 1, .float .f32 q.a, .float .f32 q.b, .float .f32 q.c, .float .f32 z1, .float .f32 z2, .int .i64 5, .float .f32 q.a2, .float .f32 q.b2, .float .f32 q.c2, .float .f32 z3, .float .f32 z4, .float .f32 q.m, .float .f32 q.o, .pointer (some ⟨r, 0, none⟩), .pointer (some ⟨r2, 0, none⟩)]) := (HR.out.le L1.out).drewN 1
  have T1 : Hid (Row w1.drew r 149 #[mdl 1 q.a q.b q.c, .float .f32 q.p, .float .f32 q.q]) := (HRR.out.le L1.out).drewN 1
  have D1 : Hid (Row w1.drew r2 149 #[mdl 5 q.a2 q.b2 q.c2, .float .f32 q.p2, .float .f32 q.q2]) := (HRR2.out.le L1.out).drewN 1
  have c18 := (HR.out.le L1.out).cell? 18
  have c19 := (HR.out.le L1.out).cell? 19
  go_region_with (go_at_call 122; first | ((with_reducible refine (i_step 1 q.a q.b q.c q.p q.q yk r _ ⟨by decide, by decide⟩ T1.out OK.out.fp FY.out).mono ?_); rintro e w2 ⟨y1, rfl, hr1, fr1, hR1, hU1⟩; rw [st0_congr HY.out, st1_congr HY.out] at hR1; have T2 := hid hR1; have HC1 : Hid (can .f32 y1 = can .f32 (lJ q)) := (hr1.trans ((outF_congr HY.out).trans (can_outF _ _ _ _ _ _ _).symm)); have U1 := hid (chg_updJ hU1); have D2 := hid (U1.out.row D1.out (Ne.symm hrr)); have c19w := (U1.out.row R1d.out hg).cell? 19; clear hR1 hr1 hU1) | ((with_reducible refine (i_step 5 q.a2 q.b2 q.c2 q.p2 q.q2 y1 r2 _ ⟨by decide, by decide⟩ D2.out OK.out.fp2 fr1).mono ?_); rintro e w3 ⟨y2, rfl, hr2, fr2, hR2, hU2⟩; rw [st0_congr HC1.out, st1_congr HC1.out] at hR2; have D3 := hid hR2; have HE : Hid (can .f32 y2 = eJ q) := (hr2.trans (outF_congr HC1.out)); have U2 := hid (chg_updJ hU2); have T3 := hid (U2.out.row T2.out hrr); clear hR2 hr2 hU2))
  all_goals
    go_simp
    have C3 : Hid (Chg (fun i => i = r ∨ i = r2) w w3) := (Chg.of_le (le_trans L1.out (le_drewN w1 1))).trans ((U1.out.mono (fun i h => .inl h)).trans (U2.out.mono (fun i h => .inr h)))
    have R3 := hid (C3.out.row HR.out (by rintro (h | h); exact hg h; exact hg2 h))
    have P1 : Hid (OwnS w3 lo hi s q.x q.nx) := HO1.out.chgS C3.out (fun i a b e => by rcases e with e | e; (subst e; exact h1 ⟨a, b⟩); (subst e; exact h3 ⟨a, b⟩))
    have P2 : Hid (OwnS w3 lo2 hi2 t q.y q.ny) := HOO.out.chgS C3.out (fun i a b e => by rcases e with e | e; (subst e; exact h2 ⟨a, b⟩); (subst e; exact h4 ⟨a, b⟩))
    have c16 := R3.out.cell? 16
    clear U1 U2 T1 D1 T2 D2 R1d c19w c18 c19 HR HRR HRR2 HO1 HOO HO2
    go_wp2_with fail
    refine wp_region_tail (fun _ _ v => v = .float .f32 (n1J q br)) 14 (by kernel_rfl) (by kernel_rfl) ?_; simp only [List.take_succ_cons, List.take_zero, List.drop_succ_cons, List.drop_zero]
    repeat (first | (with_reducible refine wpLoose_farith (op := .mul) rfl rfl rfl rfl rfl ?_; intro rm hrm hfm; simp only [Act.put, List.setIfInBounds_toArray, List.set_cons_succ, List.set_cons_zero]) | (with_reducible refine wpLoose_farith (op := .sub) rfl rfl rfl rfl rfl ?_; intro ra hra hfa; simp only [Act.put, List.setIfInBounds_toArray, List.set_cons_succ, List.set_cons_zero]) | (refine wpLoose_quiet rfl ?_; go_big_quiet_step (fail); refine wpQuiet_nil ?_) | (refine wpLoose_nilP rfl rfl rfl ?_; simp only [Act.put, List.setIfInBounds_toArray, List.set_cons_succ, List.set_cons_zero]))
    refine wpLoose_any rfl (· = .float .f32 (n1J q br)) (fun m0 => ?_) ?_
    · go_simp
      refine (i_kept _ _ hfa.out).mono ?_
      rintro e w9 ⟨rfl, rfl⟩
      exact ⟨_, rfl, by rw [n1J_of HE.out hrm.out hra.out], m0, by first | rfl | (go_simp; done)⟩
    rintro v0 rfl
    simp only [Act.put, List.setIfInBounds_toArray, List.set_cons_succ, List.set_cons_zero]
    repeat (refine wpLoose_quiet rfl ?_; go_big_quiet_step (fail); refine wpQuiet_nil ?_)
    refine wpLoose_nil (fun m3 => ?_)
    go_wp2_with (go_at_call 117; ((with_reducible refine (i_push lo hi s q.x q.nx q.j (n1J q br) g 0 _ _ _ (P1.out.le (le_drewN _ _)) (R3.out.drewN _) rfl rfl g1 OK.out.j1 OK.out.nx2 (fits_n1J q br)).mono ?_); rintro e w5 ⟨o5, rfl, ho5, _, hR5, hO5, hC5⟩))
    have HT : Hid (can .f32 o5 = can .f32 (q.x q.j)) := (by unfold Hid; rw [← ho5, can_can])
    have R5 := hid (show Row w5 g 158 #[s, .int .i64 ((q.j + 1) % q.nx : Nat), t, .int .i64 (q.k : Nat), .int .i64 1, .float .f32 q.a, .float .f32 q.b, .float .f32 q.c, .float .f32 z1, .float .f32 z2, .int .i64 5, .float .f32 q.a2, .float .f32 q.b2, .float .f32 q.c2, .float .f32 z3, .float .f32 z4, .float .f32 q.m, .float .f32 q.o, .pointer (some ⟨r, 0, none⟩), .pointer (some ⟨r2, 0, none⟩)] from by simpa using hR5)
    have c17 := R5.out.cell? 17
    have Q1 := hid hO5
    have T5 := hid (hC5.row (T3.out.drewN _) (fun e => by rcases e with e | e; exact hg e.symm; exact h1 e))
    have D5 := hid (hC5.row (D3.out.drewN _) (fun e => by rcases e with e | e; exact hg2 e.symm; exact h3 e))
    have P5 := hid ((P2.out.le (le_drewN _ _)).chgS hC5 (fun i a b e => by rcases e with e | e; (subst e; exact g2 ⟨a, b⟩); omega))
    have C5 := hid (((C3.out.mono (T := fun i => i = g ∨ i = r ∨ i = r2 ∨ lo ≤ i ∧ i < hi ∨ lo2 ≤ i ∧ i < hi2) (fun i e => by rcases e with e | e; exact .inr (.inl e); exact .inr (.inr (.inl e)))).le (le_drewN _ _)).trans (hC5.mono (fun i e => by rcases e with e | e; exact .inl e; exact .inr (.inr (.inr (.inl e))))))
    clear hR5 hO5 hC5 P1 P2 R3 C3 ho5 c16 T3 D3
    go_wp2_with fail
    refine wp_region_tail (fun f _ v => if f = 127 then ∃ y, v = .float .f32 y ∧ can .f32 y = jetV (q.x q.j) else v = .float .f32 (n2J q)) 15 (by kernel_rfl) (by kernel_rfl) ?_; simp only [List.take_succ_cons, List.take_zero, List.drop_succ_cons, List.drop_zero]
    repeat (first | (refine wpLoose_quiet rfl ?_; go_big_quiet_step (fail); refine wpQuiet_nil ?_) | (refine wpLoose_nilP rfl rfl rfl ?_; simp only [Act.put, List.setIfInBounds_toArray, List.set_cons_succ, List.set_cons_zero]))
    refine wpLoose_any rfl (fun v => ∃ y, v = .float .f32 y ∧ can .f32 y = jetV (q.x q.j)) (fun m0 => ?_) ?_
    · go_simp
      refine (i_JetAtD _ _).mono ?_
      rintro e w9 ⟨y, rfl, hy, m2, rfl⟩
      exact ⟨_, rfl, ⟨y, rfl, hy.trans (jetV_congr HT.out)⟩, m0 + m2, by first | (go_simp; done) | (go_simp; rw [Nat.add_assoc])⟩
    rintro v0 ⟨yj, rfl, HJ⟩
    simp only [Act.put, List.setIfInBounds_toArray, List.set_cons_succ, List.set_cons_zero]
    repeat (first | (with_reducible refine wpLoose_farith (op := .mul) rfl rfl rfl rfl rfl ?_; intro rm hrm hfm; simp only [Act.put, List.setIfInBounds_toArray, List.set_cons_succ, List.set_cons_zero]) | (with_reducible refine wpLoose_farith (op := .add) rfl rfl rfl rfl rfl ?_; intro ra hra hfa; simp only [Act.put, List.setIfInBounds_toArray, List.set_cons_succ, List.set_cons_zero]) | (refine wpLoose_quiet rfl ?_; go_big_quiet_step (fail); refine wpQuiet_nil ?_) | (refine wpLoose_nilP rfl rfl rfl ?_; simp only [Act.put, List.setIfInBounds_toArray, List.set_cons_succ, List.set_cons_zero]))
    refine wpLoose_any rfl (· = .float .f32 (n2J q)) (fun m0 => ?_) ?_
    · go_simp
      refine (i_kept _ _ hfa.out).mono ?_
      rintro e w9 ⟨rfl, rfl⟩
      exact ⟨_, rfl, by rw [n2J_of HE.out HJ hrm.out hra.out], m0, by first | rfl | (go_simp; done)⟩
    rintro v0 rfl
    simp only [Act.put, List.setIfInBounds_toArray, List.set_cons_succ, List.set_cons_zero]
    repeat (refine wpLoose_quiet rfl ?_; go_big_quiet_step (fail); refine wpQuiet_nil ?_)
    refine wpLoose_nil (fun m3 => ?_)
    go_wp2_with (go_at_call 117; ((with_reducible refine (i_push lo2 hi2 t q.y q.ny q.k (n2J q) g 2 _ _ _ (P5.out.le (le_drewN _ _)) (R5.out.drewN _) rfl rfl g2 OK.out.k1 OK.out.ny2 (fits_n2J q)).mono ?_); rintro e w6 ⟨o6, rfl, _, _, hR6, hO6, hC6⟩))
    go_ret
    refine ⟨_, rfl, HY0.out, FY.out, by simpa [stepJ] using hR6, ?_, ?_, ?_, hO6, ?_⟩
    · exact hC6.row (T5.out.drewN _) (fun e => by rcases e with e | e; exact hg e.symm; exact h2 e)
    · exact hC6.row (D5.out.drewN _) (fun e => by rcases e with e | e; exact hg2 e.symm; exact h4 e)
    · exact (Q1.out.le (le_drewN _ _)).chgS hC6 (fun i a b e => by rcases e with e | e; (subst e; exact g1 ⟨a, b⟩); omega)
    · exact (C5.out.le (le_drewN _ _)).trans (hC6.mono (fun i e => by rcases e with e | e; exact .inl e; exact .inr (.inr (.inr (.inr e)))))
theorem inJ1 (s t : Value) (q : JtS) : FilIn #[s, .int .i64 (q.j : Nat), t, .int .i64 (q.k : Nat), .int .i64 1, .float .f32 q.a, .float .f32 q.b, .float .f32 q.c, .float .f32 q.p, .float .f32 q.q, .int .i64 5, .float .f32 q.a2, .float .f32 q.b2, .float .f32 q.c2, .float .f32 q.p2, .float .f32 q.q2, .float .f32 q.m, .float .f32 q.o] 4 1 q.a q.b q.c q.p q.q := ⟨rfl, rfl, rfl, rfl, rfl, rfl⟩
theorem inJ2 (s t : Value) (q : JtS) (u v : Nat) : FilIn #[s, .int .i64 (q.j : Nat), t, .int .i64 (q.k : Nat), .int .i64 1, .float .f32 q.a, .float .f32 q.b, .float .f32 q.c, .float .f32 u, .float .f32 v, .int .i64 5, .float .f32 q.a2, .float .f32 q.b2, .float .f32 q.c2, .float .f32 q.p2, .float .f32 q.q2, .float .f32 q.m, .float .f32 q.o] 10 5 q.a2 q.b2 q.c2 q.p2 q.q2 := ⟨rfl, rfl, rfl, rfl, rfl, rfl⟩
set_option maxRecDepth 100000 in
set_option maxHeartbeats 4000000 in
theorem s_l05StepJet (q : JtS) (br : Nat) (s t : Value) (lo hi lo2 hi2 g : Nat) (w : World) (R : Row w g 67 #[s, .int .i64 (q.j : Nat), t, .int .i64 (q.k : Nat), .int .i64 1, .float .f32 q.a, .float .f32 q.b, .float .f32 q.c, .float .f32 q.p, .float .f32 q.q, .int .i64 5, .float .f32 q.a2, .float .f32 q.b2, .float .f32 q.c2, .float .f32 q.p2, .float .f32 q.q2, .float .f32 q.m, .float .f32 q.o]) (O1 : OwnS w lo hi s q.x q.nx) (O2 : OwnS w lo2 hi2 t q.y q.ny) (ok : q.Ok) (hbr : fits .f32 br) (g1 : ¬ (lo ≤ g ∧ g < hi)) (g2 : ¬ (lo2 ≤ g ∧ g < hi2)) (hd : hi ≤ lo2 ∨ hi2 ≤ lo) :
    Calls Try.prog 96 #[.pointer (some ⟨g, 0, none⟩), .float .f32 br] w fun e w' => ∃ o, e = .returned (.float .f32 o) ∧ can .f32 o = q.y q.k ∧ fits .f32 o ∧ Row w' g 67 #[s, .int .i64 ((stepJ q br).j : Nat), t, .int .i64 ((stepJ q br).k : Nat), .int .i64 1, .float .f32 (stepJ q br).a, .float .f32 (stepJ q br).b, .float .f32 (stepJ q br).c, .float .f32 (stepJ q br).p, .float .f32 (stepJ q br).q, .int .i64 5, .float .f32 (stepJ q br).a2, .float .f32 (stepJ q br).b2, .float .f32 (stepJ q br).c2, .float .f32 (stepJ q br).p2, .float .f32 (stepJ q br).q2, .float .f32 (stepJ q br).m, .float .f32 (stepJ q br).o] ∧ OwnS w' lo hi s (stepJ q br).x q.nx ∧ OwnS w' lo2 hi2 t (stepJ q br).y q.ny ∧ Chg (fun i => i = g ∨ lo ≤ i ∧ i < hi ∨ lo2 ≤ i ∧ i < hi2) w w' := by
  have HO1 := hid O1; have HOO := hid O2
  rcases O1 with ⟨rfl, h0⟩ | ⟨d1, o1, cap1, ds1, rfl, hc1, hm1, hb1, hb1', hrow1, hx1⟩
  · have := ok.nx1; omega
  rcases O2 with ⟨rfl, h0⟩ | ⟨d2, o2, cap2, ds2, rfl, hc2, hm2, hb2, hb2', hrow2, hx2⟩
  · have := ok.ny1; omega
  obtain ⟨xj, ex, fx, cx⟩ := hx1 q.j ok.j1
  obtain ⟨yk, ey, fy, cy⟩ := hx2 q.k ok.k1
  have c0 := R.cell? 0
  have c1 := R.cell? 1
  have c2 := R.cell? 2
  have c3 := R.cell? 3
  have ca : w.cell? ⟨d1, o1 + q.j, none⟩ = some (.float .f32 xj) := (hrow1.cell? (o1 + q.j)).trans ex
  have cb : w.cell? ⟨d2, o2 + q.k, none⟩ = some (.float .f32 yk) := (hrow2.cell? (o2 + q.k)).trans ey
  have j1 := ok.j1
  have nx2 := ok.nx2
  have k1 := ok.k1
  have ny2 := ok.ny2
  have HT : Hid (can .f32 xj = can .f32 (q.x q.j)) := by unfold Hid; rw [← cx, can_can]
  have HY : Hid (can .f32 yk = can .f32 (q.y q.k)) := by unfold Hid; rw [← cy, can_can]
  have RR := hid R; have HY0 := hid cy; have FY := hid fy; have OK := hid ok
  clear R hrow1 hrow2 hx1 hx2 ex ey cx cy ok
  unfold maxLen at hm1 hm2
  go_enter Try.func96, Try.ntmps96
  go_wp2_with fail
  refine wp_region_loose (fun _ _ _ => True) (by kernel_rfl) (by kernel_rfl) ?_
  repeat (first | (refine wpLoose_quiet rfl ?_; go_big_quiet_step (fail); refine wpQuiet_nil ?_) | (refine wpLoose_nilP rfl rfl rfl ?_; simp only [Act.put, List.setIfInBounds_toArray, List.set_cons_succ, List.set_cons_zero]))
  refine wpLoose_nil (fun m1 => ?_)
  go_wp2_with fail
  refine wp_region_loose (fun _ _ _ => True) (by kernel_rfl) (by kernel_rfl) ?_
  repeat (first | (refine wpLoose_quiet rfl ?_; go_big_quiet_step (fail); refine wpQuiet_nil ?_) | (refine wpLoose_nilP rfl rfl rfl ?_; simp only [Act.put, List.setIfInBounds_toArray, List.set_cons_succ, List.set_cons_zero]))
  refine wpLoose_nil (fun m2 => ?_)
  clear c0 c1 c2 c3 ca cb
  go_wp2_with fail
  go_region_with (go_at_call 120; first | ((with_reducible refine (s_StepAt 1 q.a q.b q.c q.p q.q yk g 4 _ _ _ OK.out.f (RR.out.drewN _) (inJ1 _ _ q) OK.out.fp FY.out).mono ?_); rintro e w1 ⟨y1, rfl, hr1, fr1, hR1, hU1⟩; rw [st0_congr HY.out, st1_congr HY.out] at hR1; have R1 := hid (show Row w1 g 67 #[(.slice (some ⟨d1, o1, none⟩) q.nx cap1), .int .i64 (q.j : Nat), (.slice (some ⟨d2, o2, none⟩) q.ny cap2), .int .i64 (q.k : Nat), .int .i64 1, .float .f32 q.a, .float .f32 q.b, .float .f32 q.c, .float .f32 (st0 1 q.a q.b q.c q.p q.q (q.y q.k)), .float .f32 (st1 1 q.a q.b q.c q.p q.q (q.y q.k)), .int .i64 5, .float .f32 q.a2, .float .f32 q.b2, .float .f32 q.c2, .float .f32 q.p2, .float .f32 q.q2, .float .f32 q.m, .float .f32 q.o] from by simpa using hR1); have HC1 : Hid (can .f32 y1 = can .f32 (lJ q)) := (hr1.trans ((outF_congr HY.out).trans (can_outF _ _ _ _ _ _ _).symm)); have U1 := hid (chg_updJ hU1); clear hR1 hr1 hU1) | ((with_reducible refine (s_StepAt 5 q.a2 q.b2 q.c2 q.p2 q.q2 y1 g 10 _ _ _ OK.out.f2 R1.out (inJ2 _ _ q _ _) OK.out.fp2 fr1).mono ?_); rintro e w3 ⟨y2, rfl, hr2, fr2, hR2, hU2⟩; rw [st0_congr HC1.out, st1_congr HC1.out] at hR2; have R3 := hid (show Row w3 g 67 #[(.slice (some ⟨d1, o1, none⟩) q.nx cap1), .int .i64 (q.j : Nat), (.slice (some ⟨d2, o2, none⟩) q.ny cap2), .int .i64 (q.k : Nat), .int .i64 1, .float .f32 q.a, .float .f32 q.b, .float .f32 q.c, .float .f32 (st0 1 q.a q.b q.c q.p q.q (q.y q.k)), .float .f32 (st1 1 q.a q.b q.c q.p q.q (q.y q.k)), .int .i64 5, .float .f32 q.a2, .float .f32 q.b2, .float .f32 q.c2, .float .f32 (st0 5 q.a2 q.b2 q.c2 q.p2 q.q2 (lJ q)), .float .f32 (st1 5 q.a2 q.b2 q.c2 q.p2 q.q2 (lJ q)), .float .f32 q.m, .float .f32 q.o] from by simpa using hR2); have HE : Hid (can .f32 y2 = eJ q) := (hr2.trans (outF_congr HC1.out)); have U2 := hid (chg_updJ hU2); clear hR2 hr2 hU2))
  go_simp
  have C3 : Hid (Chg (· = g) w w3) := ((Chg.of_le (le_drewN _ _)).trans U1.out).trans U2.out
  have P1 : Hid (OwnS w3 lo hi (.slice (some ⟨d1, o1, none⟩) q.nx cap1) q.x q.nx) := HO1.out.chgS C3.out (fun i a b e => g1 (by have e' : i = g := e; subst e'; exact ⟨a, b⟩))
  have P2 : Hid (OwnS w3 lo2 hi2 (.slice (some ⟨d2, o2, none⟩) q.ny cap2) q.y q.ny) := HOO.out.chgS C3.out (fun i a b e => g2 (by have e' : i = g := e; subst e'; exact ⟨a, b⟩))
  have c16 := R3.out.cell? 16
  clear U1 U2 R1 RR HO1 HOO
  go_wp2_with fail
  refine wp_region_tail (fun _ _ v => v = .float .f32 (n1J q br)) 12 (by kernel_rfl) (by kernel_rfl) ?_; simp only [List.take_succ_cons, List.take_zero, List.drop_succ_cons, List.drop_zero]
  repeat (first | (with_reducible refine wpLoose_farith (op := .mul) rfl rfl rfl rfl rfl ?_; intro rm hrm hfm; simp only [Act.put, List.setIfInBounds_toArray, List.set_cons_succ, List.set_cons_zero]) | (with_reducible refine wpLoose_farith (op := .sub) rfl rfl rfl rfl rfl ?_; intro ra hra hfa; simp only [Act.put, List.setIfInBounds_toArray, List.set_cons_succ, List.set_cons_zero]) | (refine wpLoose_quiet rfl ?_; go_big_quiet_step (fail); refine wpQuiet_nil ?_) | (refine wpLoose_nilP rfl rfl rfl ?_; simp only [Act.put, List.setIfInBounds_toArray, List.set_cons_succ, List.set_cons_zero]))
  refine wpLoose_any rfl (· = .float .f32 (n1J q br)) (fun m0 => ?_) ?_
  · go_simp
    refine (s_Kept _ _ hfa.out).mono ?_
    rintro e w9 ⟨rfl, m2, rfl⟩
    exact ⟨_, rfl, by rw [n1J_of HE.out hrm.out hra.out], m0 + m2, by first | (go_simp; done) | (go_simp; rw [Nat.add_assoc])⟩
  rintro v0 rfl
  simp only [Act.put, List.setIfInBounds_toArray, List.set_cons_succ, List.set_cons_zero]
  repeat (refine wpLoose_quiet rfl ?_; go_big_quiet_step (fail); refine wpQuiet_nil ?_)
  refine wpLoose_nil (fun m3 => ?_)
  go_wp2_with (go_at_call 111; ((with_reducible refine (s_l02Push lo hi _ q.x q.nx q.j (n1J q br) g 0 _ _ _ (P1.out.le (le_drewN _ _)) (R3.out.drewN _) rfl rfl g1 OK.out.j1 OK.out.nx2 (fits_n1J q br)).mono ?_); rintro e w5 ⟨o5, rfl, ho5, _, hR5, hO5, hC5⟩))
  have R5 := hid (show Row w5 g 67 #[(.slice (some ⟨d1, o1, none⟩) q.nx cap1), .int .i64 ((q.j + 1) % q.nx : Nat), (.slice (some ⟨d2, o2, none⟩) q.ny cap2), .int .i64 (q.k : Nat), .int .i64 1, .float .f32 q.a, .float .f32 q.b, .float .f32 q.c, .float .f32 (st0 1 q.a q.b q.c q.p q.q (q.y q.k)), .float .f32 (st1 1 q.a q.b q.c q.p q.q (q.y q.k)), .int .i64 5, .float .f32 q.a2, .float .f32 q.b2, .float .f32 q.c2, .float .f32 (st0 5 q.a2 q.b2 q.c2 q.p2 q.q2 (lJ q)), .float .f32 (st1 5 q.a2 q.b2 q.c2 q.p2 q.q2 (lJ q)), .float .f32 q.m, .float .f32 q.o] from by simpa using hR5)
  have c17 := R5.out.cell? 17
  have Q1 := hid hO5
  have P5 := hid ((P2.out.le (le_drewN _ _)).chgS hC5 (fun i a b e => by rcases e with e | e; (subst e; exact g2 ⟨a, b⟩); omega))
  have C5 := hid (((C3.out.mono (T := fun i => i = g ∨ lo ≤ i ∧ i < hi ∨ lo2 ≤ i ∧ i < hi2) (fun i e => .inl e)).le (le_drewN _ _)).trans (hC5.mono (fun i e => by rcases e with e | e; exact .inl e; exact .inr (.inl e))))
  clear hR5 hO5 hC5 P1 P2 R3 C3 ho5 c16
  go_wp2_with fail
  refine wp_region_tail (fun f _ v => if f = 126 then ∃ y, v = .float .f32 y ∧ can .f32 y = jetV (q.x q.j) else v = .float .f32 (n2J q)) 13 (by kernel_rfl) (by kernel_rfl) ?_; simp only [List.take_succ_cons, List.take_zero, List.drop_succ_cons, List.drop_zero]
  repeat (first | (refine wpLoose_quiet rfl ?_; go_big_quiet_step (fail); refine wpQuiet_nil ?_) | (refine wpLoose_nilP rfl rfl rfl ?_; simp only [Act.put, List.setIfInBounds_toArray, List.set_cons_succ, List.set_cons_zero]))
  refine wpLoose_any rfl (fun v => ∃ y, v = .float .f32 y ∧ can .f32 y = jetV (q.x q.j)) (fun m0 => ?_) ?_
  · go_simp
    refine (s_l05EdgeD _ _).mono ?_
    rintro e w9 ⟨y, rfl, hy, m2, rfl⟩
    exact ⟨_, rfl, ⟨y, rfl, hy.trans (jetV_congr HT.out)⟩, m0 + m2, by first | (go_simp; done) | (go_simp; rw [Nat.add_assoc])⟩
  rintro v0 ⟨yj, rfl, HJ⟩
  simp only [Act.put, List.setIfInBounds_toArray, List.set_cons_succ, List.set_cons_zero]
  repeat (first | (with_reducible refine wpLoose_farith (op := .mul) rfl rfl rfl rfl rfl ?_; intro rm hrm hfm; simp only [Act.put, List.setIfInBounds_toArray, List.set_cons_succ, List.set_cons_zero]) | (with_reducible refine wpLoose_farith (op := .add) rfl rfl rfl rfl rfl ?_; intro ra hra hfa; simp only [Act.put, List.setIfInBounds_toArray, List.set_cons_succ, List.set_cons_zero]) | (refine wpLoose_quiet rfl ?_; go_big_quiet_step (fail); refine wpQuiet_nil ?_) | (refine wpLoose_nilP rfl rfl rfl ?_; simp only [Act.put, List.setIfInBounds_toArray, List.set_cons_succ, List.set_cons_zero]))
  refine wpLoose_any rfl (· = .float .f32 (n2J q)) (fun m0 => ?_) ?_
  · go_simp
    refine (s_Kept _ _ hfa.out).mono ?_
    rintro e w9 ⟨rfl, m2, rfl⟩
    exact ⟨_, rfl, by rw [n2J_of HE.out HJ hrm.out hra.out], m0 + m2, by first | (go_simp; done) | (go_simp; rw [Nat.add_assoc])⟩
  rintro v0 rfl
  simp only [Act.put, List.setIfInBounds_toArray, List.set_cons_succ, List.set_cons_zero]
  repeat (refine wpLoose_quiet rfl ?_; go_big_quiet_step (fail); refine wpQuiet_nil ?_)
  refine wpLoose_nil (fun m3 => ?_)
  go_wp2_with (go_at_call 111; ((with_reducible refine (s_l02Push lo2 hi2 _ q.y q.ny q.k (n2J q) g 2 _ _ _ (P5.out.le (le_drewN _ _)) (R5.out.drewN _) rfl rfl g2 OK.out.k1 OK.out.ny2 (fits_n2J q)).mono ?_); rintro e w6 ⟨o6, rfl, _, _, hR6, hO6, hC6⟩))
  go_ret
  refine ⟨_, rfl, HY0.out, FY.out, by simpa [stepJ] using hR6, ?_, hO6, ?_⟩
  · exact (Q1.out.le (le_drewN _ _)).chgS hC6 (fun i a b e => by rcases e with e | e; (subst e; exact g1 ⟨a, b⟩); omega)
  · exact (C5.out.le (le_drewN _ _)).trans (hC6.mono (fun i e => by rcases e with e | e; exact .inl e; exact .inr (.inr e)))
end Go.Proofs.Ytgjdmoenobacgaa

/- As FreeD, where one operation (with the index c) may write what all others leave as it is: it comes up but once. Nothing here names a program. -/
namespace Go.Fk
open Go Go.RowKit
section
variable (E0 E1 : Ext) (c : Nat) (Vc : World → Value → Prop) (P : Program) (ops : Array Oper) (md : Region.Mode) (W : World) (K : FuncId → Array Value → World → Value → Prop)
def preE (i : Nat) : Ext := if i = c then E0 else E1
def stepE (i : Nat) : Ext := if i = c then E1 else E0
def YieldsP (i : Nat) (o : Oper) (a : Act) (F : Facts) (V : World → Value → Prop) : Prop :=
  MonoT E1 V ∧ (i = c → V = Vc) ∧ ((Region.wanted o (yielded ops a.tmps) = true ∧ ∀ w, (preE E0 E1 c i).R W w → behind md o F w → insideT (stepE E0 E1 c i) P K w V ((execOp a.eval o).run P w)) ∨ (i ≠ c ∧ Region.wanted o (yielded ops a.tmps) = false ∧ ∀ w, E1.R W w → behind md o F w → V w undef))
def wpFreeP (Q : Act → World → Prop) : List Oper → Nat → Act → Facts → Prop
  | [], _, a, F => ∀ w, E1.R W w → (∀ e, F e w) → Q a w
  | o :: rest, k, a, F => ∃ V, YieldsP E0 E1 c Vc P ops md W K k o a F V ∧ ∀ v, met E1 W F (fun w => V w v) → wpFreeP Q rest (k + 1) (a.put o.dst v) (F.with k (fun w => V w v))
def anyFreeP (n : Nat) (L : Array Bool → Act → Facts → Prop) : Nat → Array Bool → Act → Facts → Prop
  | 0, listed, a, F => L listed a F
  | f + 1, listed, a, F => Region.ready md ops listed ≠ [] ∧
      ∀ i ∈ Region.ready md ops listed, i < n ∧ ∀ o, ops[i]? = some o → ∃ V, YieldsP E0 E1 c Vc P ops md W K i o a F V ∧ ∀ v, met E1 W F (fun w => V w v) → anyFreeP n L f (listed.setIfInBounds i true) (a.put o.dst v) (F.with i (fun w => V w v))
end
section
variable {E0 E1 : Ext} {c : Nat} {Vc : World → Value → Prop} {P : Program} {ops : Array Oper} {md : Region.Mode} {W : World} {K : FuncId → Array Value → World → Value → Prop}
theorem stepE_sub (hs : ∀ w w', E0.R w w' → E1.R w w') {i : Nat} {w w' : World} (h : (stepE E0 E1 c i).R w w') : E1.R w w' := by
  unfold stepE at h
  split at h
  · exact h
  · exact hs _ _ h
theorem YieldsP.some (hs : ∀ w w', E0.R w w' → E1.R w w') (hVc : ∀ w, E1.R W w → ∃ v w', E1.R w w' ∧ Vc w' v) {i : Nat} {o : Oper} {a : Act} {F : Facts} {V : World → Value → Prop} (hm : FMono E1 F) (hx : met E1 W F (fun _ => True)) (h : YieldsP E0 E1 c Vc P ops md W K i o a F V) : ∃ v, met E1 W F (fun w => V w v) := by
  obtain ⟨w, hw, hF, _⟩ := hx
  by_cases e : i = c
  · obtain ⟨v, w', hl, hv⟩ := hVc w hw
    exact ⟨v, w', E1.trans hw hl, hm w w' hl hF, by rw [h.2.1 e]; exact hv⟩
  · rcases h.2.2 with ⟨_, h⟩ | ⟨_, _, h⟩
    · obtain ⟨v, w', hl, hv⟩ := insideT_some (h w (by unfold preE; rw [if_neg e]; exact hw) (fun e _ _ => hF e.on))
      have hl' := stepE_sub hs hl
      exact ⟨v, w', E1.trans hw hl', hm w w' hl' hF, hv⟩
    · exact ⟨undef, w, hw, hF, h w hw (fun e _ _ => hF e.on)⟩
theorem YieldsP.same {i : Nat} {o : Oper} {a a' : Act} {F : Facts} {V : World → Value → Prop} (he : execOp a'.eval o = execOp a.eval o) (hw : Region.wanted o (yielded ops a'.tmps) = Region.wanted o (yielded ops a.tmps))
    (h : YieldsP E0 E1 c Vc P ops md W K i o a F V) : YieldsP E0 E1 c Vc P ops md W K i o a' F V := by
  unfold YieldsP at *; rw [he, hw]; exact h
theorem YieldsP.less {j : Nat} {o : Oper} {a : Act} {F : Facts} {i : Nat} {X : World → Prop} {V : World → Value → Prop} (hn : ∀ e ∈ o.after, Region.binds md e = true → e.on ≠ i) (h : YieldsP E0 E1 c Vc P ops md W K j o a (F.with i X) V) : YieldsP E0 E1 c Vc P ops md W K j o a F V := by
  have key : ∀ w, behind md o F w → behind md o (F.with i X) w := fun w hw e he hb => ⟨hw e he hb, fun h => absurd h (hn e he hb)⟩
  refine ⟨h.1, h.2.1, ?_⟩
  rcases h.2.2 with ⟨h1, h2⟩ | ⟨h0, h1, h2⟩
  · exact .inl ⟨h1, fun w hw hb => h2 w hw (key w hb)⟩
  · exact .inr ⟨h0, h1, fun w hw hb => h2 w hw (key w hb)⟩
theorem YieldsP.stronger {j : Nat} {o : Oper} {a : Act} {F F' : Facts} {V : World → Value → Prop} (hF : ∀ e w, F' e w → F e w) (h : YieldsP E0 E1 c Vc P ops md W K j o a F V) : YieldsP E0 E1 c Vc P ops md W K j o a F' V := by
  have key : ∀ w, behind md o F' w → behind md o F w := fun w hw e he hb => hF _ _ (hw e he hb)
  refine ⟨h.1, h.2.1, ?_⟩
  rcases h.2.2 with ⟨h1, h2⟩ | ⟨h0, h1, h2⟩
  · exact .inl ⟨h1, fun w hw hb => h2 w hw (key w hb)⟩
  · exact .inr ⟨h0, h1, fun w hw hb => h2 w hw (key w hb)⟩
theorem YieldsP.more {j : Nat} {o : Oper} {a : Act} {F : Facts} {i : Nat} {X : World → Prop} {V : World → Value → Prop} (h : YieldsP E0 E1 c Vc P ops md W K j o a F V) : YieldsP E0 E1 c Vc P ops md W K j o a (F.with i X) V := h.stronger (fun _ _ h => h.1)
theorem insideT_mono {E E' : Ext} (hE : ∀ w w', E.R w w' → E'.R w w') {V : World → Value → Prop} {w : World} {r : Result Next} (h : insideT E P K w V r) : insideT E' P K w V r := by
  cases r with
  | ok n w' =>
    cases n <;> simp only [insideT] at h ⊢
    case value u => exact ⟨hE _ _ h.1, h.2⟩
    case skip => exact ⟨hE _ _ h.1, h.2⟩
    case enter f args => exact ⟨hE _ _ h.1, h.2.1.mono (fun e w'' ⟨v, e1, e2, e3⟩ => ⟨v, e1, hE _ _ e2, e3⟩), h.2.2⟩
  | halt x w' => simp only [insideT] at h
theorem wpOp_yieldsP {i : Nat} {o : Oper} {a : Act} {w : World} {F : Facts} {V : World → Value → Prop} {next : Act → World → Prop} {Q' : Exit → Act → World → Prop} (ho : ops[i]? = some o) (hw1 : E1.R W w) (hw : (preE E0 E1 c i).R W w) (hF : ∀ e, F e w) (hg : YieldsP E0 E1 c Vc P ops md W K i o a F V)
    (hn : ∀ v w', (stepE E0 E1 c i).R w w' → V w' v → next (a.put o.dst v) w') : wpOp P ops Q' i next a w := by
  unfold wpOp
  simp only [ho]
  rcases hg.2.2 with ⟨hwant, hv⟩ | ⟨_, hwant, hv⟩
  · rw [if_pos hwant]
    left
    have h3 := hv w hw (fun e _ _ => hF e.on)
    unfold Oper.wp
    generalize (execOp a.eval o).run P w = r at h3
    cases r with
    | ok x w' =>
      cases x <;> simp only [insideT] at h3 <;> simp only [Oper.upon]
      case value u => exact hn u _ h3.1 h3.2
      case skip => exact hn undef _ h3.1 h3.2
      case enter f args =>
        refine h3.2.1.mono fun e w'' he => ?_
        obtain ⟨v, rfl, hl, hk⟩ := he
        exact hn v _ ((stepE E0 E1 c i).trans h3.1 hl) (h3.2.2 w'' v hk)
    | halt x w' => simp only [insideT] at h3
  · rw [if_neg (by simp [hwant])]
    exact hn undef _ ((stepE E0 E1 c i).refl w) (hv w hw1 (fun e _ _ => hF e.on))
theorem anyFreeP_sound (hs : ∀ w w', E0.R w w' → E1.R w w') {n g : Nat} {L : Array Bool → Act → Facts → Prop} {Q' : Exit → Act → World → Prop} (hL : ∀ listed a F w, E1.R W w → (∀ e, F e w) → L listed a F → wpAny P md ops Q' g listed a w) :
    ∀ (f : Nat) (listed : Array Bool) (a : Act) (F : Facts) (w : World), FMono E1 F → E1.R W w → (listed.getD c true = false → E0.R W w) → (∀ e, F e w) → anyFreeP E0 E1 c Vc P ops md W K n L f listed a F → wpAny P md ops Q' (f + g) listed a w := by
  intro f
  induction f with
  | zero => intro listed a F w _ hw _ hF h; rw [Nat.zero_add]; exact hL _ _ _ _ hw hF h
  | succ f ih =>
    intro listed a F w hm hw hph hF h
    rw [show f + 1 + g = (f + g) + 1 by omega]
    refine ⟨fun h0 => absurd h0 h.1, fun i hi => ?_⟩
    obtain ⟨hun, o, ho, _⟩ := mem_ready.1 hi
    obtain ⟨V, hg, hn⟩ := (h.2 i hi).2 o ho
    have hpre : (preE E0 E1 c i).R W w := by
      unfold preE
      split
      · next e => subst e; exact hph hun
      · exact hw
    refine wpOp_yieldsP ho hw hpre hF hg (fun v w' hl hv => ih _ _ _ _ (hm.with hg.1 i v) (E1.trans hw (stepE_sub hs hl)) (fun hc => ?_) (Facts.with_mk (hm w w' (stepE_sub hs hl) hF) hv) (hn v ⟨w', E1.trans hw (stepE_sub hs hl), hm w w' (stepE_sub hs hl) hF, hv⟩))
    by_cases e : i = c
    · subst e
      have hlt : i < listed.size := by
        apply Nat.lt_of_not_le
        intro hle
        simp [Array.getD, Nat.not_lt.2 hle] at hun
      simp [Array.getD, hlt] at hc
    · rw [getD_set_ne true e] at hc
      unfold stepE at hl
      rw [if_neg e] at hl
      exact E0.trans (hph hc) hl
theorem anyFreeP_weaken {n : Nat} {L : Array Bool → Act → Facts → Prop} (hLm : ∀ listed a F F', (∀ e w, F' e w → F e w) → L listed a F → L listed a F') :
    ∀ (f : Nat) (listed : Array Bool) (a : Act) (F F' : Facts), (∀ e w, F' e w → F e w) → anyFreeP E0 E1 c Vc P ops md W K n L f listed a F → anyFreeP E0 E1 c Vc P ops md W K n L f listed a F' := by
  intro f
  induction f with
  | zero => intro listed a F F' h hh; exact hLm _ _ _ _ h hh
  | succ f ih =>
    intro listed a F F' h hh
    refine ⟨hh.1, fun i hi => ⟨(hh.2 i hi).1, fun o ho => ?_⟩⟩
    obtain ⟨V, hg, hn⟩ := (hh.2 i hi).2 o ho
    exact ⟨V, hg.stronger h, fun v hv => ih _ _ _ _ (fun e w hw => ⟨h e w hw.1, hw.2⟩) (hn v (hv.weaken (fun w hw e => h e w (hw e))))⟩
theorem anyFreeP_first (hs : ∀ w w', E0.R w w' → E1.R w w') (hVc : ∀ w, E1.R W w → ∃ v w', E1.R w w' ∧ Vc w' v) {n i : Nat} {oi : Oper} {V : World → Value → Prop} {L : Array Bool → Act → Facts → Prop} (hi : ops[i]? = some oi) (hsel : ∀ (j : Nat) (o : Oper) cs b, ops[j]? = some o → o.op ≠ .select cs b)
    (hbound : ∀ listed i, HeadInv md ops n listed → i < n → listed.getD i true = false → ∀ j ∈ Region.ready md ops listed, j < n) (hin : i < n)
    (hdone : ∀ listed a F, L listed a F → ∀ j ∈ Region.ready md ops listed, n ≤ j) (hLm : ∀ listed a F F', (∀ e w, F' e w → F e w) → L listed a F → L listed a F') :
    ∀ (f : Nat) (listed : Array Bool) (a : Act) (F : Facts), HeadInv md ops n listed →
      (∀ j oj, ops[j]? = some oj → j ≠ i → listed.getD j true = false → (∀ e ∈ oj.after, Region.binds md e = true → e.on ≠ i) → oi.apart ops oj = true) →
      i ∈ Region.ready md ops listed → FMono E1 F → met E1 W F (fun _ => True) → YieldsP E0 E1 c Vc P ops md W K i oi a F V →
      (∀ v, met E1 W F (fun w => V w v) → anyFreeP E0 E1 c Vc P ops md W K n L f (listed.setIfInBounds i true) (a.put oi.dst v) (F.with i (fun w => V w v))) → anyFreeP E0 E1 c Vc P ops md W K n L (f + 1) listed a F := by
  intro f
  induction f with
  | zero =>
    intro listed a F inv _ hr hm hx hg H
    have hun := (mem_ready.1 hr).1
    refine ⟨fun h => (by rw [h] at hr; cases hr), fun j hj => ?_⟩
    have hjn := hbound listed i inv hin hun j hj
    refine ⟨hjn, fun o ho => ?_⟩
    by_cases hji : j = i
    · subst hji
      rw [hi] at ho; cases ho
      exact ⟨V, hg, H⟩
    · obtain ⟨v, hv⟩ := hg.some hs hVc hm hx
      have := hdone _ _ _ (H v hv) j (ready_mono hj hji)
      omega
  | succ f ih =>
    intro listed a F inv hfree hr hm hx hg H
    have hun := (mem_ready.1 hr).1
    refine ⟨fun h => (by rw [h] at hr; cases hr), fun j hj => ?_⟩
    have hjn := hbound listed i inv hin hun j hj
    refine ⟨hjn, fun o ho => ?_⟩
    by_cases hji : j = i
    · subst hji
      rw [hi] at ho; cases ho
      exact ⟨V, hg, H⟩
    · obtain ⟨hjun, oj, hoj, hall⟩ := mem_ready.1 hj
      rw [ho] at hoj; cases hoj
      have hnot : ∀ e ∈ o.after, Region.binds md e = true → e.on ≠ i := fun e he hb heq => by
        have h1 := hall e he hb
        rw [heq, getD_both hun] at h1
        cases h1
      have hap := hfree j o ho hji hjun hnot
      obtain ⟨a1, a2, a3⟩ := Oper.apart_spec hap
      have hsi := fun cs b => hsel i oi cs b hi
      have hsj := fun cs b => hsel j o cs b ho
      have hU : ∀ v : {v // met E1 W F (fun w => V w v)}, ∃ U, YieldsP E0 E1 c Vc P ops md W K j o (a.put oi.dst v.1) (F.with i (fun w => V w v.1)) U ∧ ∀ u, met E1 W (F.with i (fun w => V w v.1)) (fun w => U w u) →
          anyFreeP E0 E1 c Vc P ops md W K n L f ((listed.setIfInBounds i true).setIfInBounds j true) ((a.put oi.dst v.1).put o.dst u) ((F.with i (fun w => V w v.1)).with j (fun w => U w u)) :=
        fun v => ((H v.1 v.2).2 j (ready_mono hj hji)).2 o ho
      obtain ⟨U, hU⟩ := Classical.skolem.1 hU
      obtain ⟨v0, hv0⟩ := hg.some hs hVc hm hx
      have hone : ∀ v, YieldsP E0 E1 c Vc P ops md W K j o a F (U v) := fun v => ((hU v).1.same (execOp_put o hsj a oi.dst v.1 a1).symm (wanted_put o a oi.dst v.1 a1).symm).less hnot
      have hgood : YieldsP E0 E1 c Vc P ops md W K j o a F (fun w u => ∀ v, U v w u) := by
        refine ⟨fun u w w' hl h v => (hone v).1 u w w' hl (h v), fun e => ?_, ?_⟩
        · funext w u
          exact propext ⟨fun h => by have := h ⟨v0, hv0⟩; rw [(hone ⟨v0, hv0⟩).2.1 e] at this; exact this, fun h v => by rw [(hone v).2.1 e]; exact h⟩
        by_cases hw : Region.wanted o (yielded ops a.tmps) = true
        · refine .inl ⟨hw, fun w hw' hb => inside_allT ⟨⟨v0, hv0⟩, trivial⟩ (fun v => ?_)⟩
          rcases (hone v).2.2 with ⟨_, h3⟩ | ⟨_, h3, _⟩
          · exact h3 w hw' hb
          · rw [hw] at h3; cases h3
        · have hne : j ≠ c := by
            rcases (hone ⟨v0, hv0⟩).2.2 with ⟨h3, _⟩ | ⟨h3, _, _⟩
            · exact absurd h3 hw
            · exact h3
          refine .inr ⟨hne, by simpa using hw, fun w hw' hb v => ?_⟩
          rcases (hone v).2.2 with ⟨h3, _⟩ | ⟨_, _, h3⟩
          · exact absurd h3 hw
          · exact h3 w hw' hb
      refine ⟨_, hgood, ?_⟩
      intro u hu
      have hfree' : ∀ k ok, ops[k]? = some ok → k ≠ i → (listed.setIfInBounds j true).getD k true = false →
          (∀ e ∈ ok.after, Region.binds md e = true → e.on ≠ i) → oi.apart ops ok = true := fun k ok hk hki hun hno => by
        refine hfree k ok hk hki ?_ hno
        by_cases hjk : j = k
        · subst hjk; exact hjun
        · rw [getD_set_ne true hjk] at hun; exact hun
      have hx' : met E1 W (F.with j (fun w => ∀ v, U v w u)) (fun _ => True) := by
        obtain ⟨w, hw, hF, hv⟩ := hu
        exact ⟨w, hw, Facts.with_mk hF hv, trivial⟩
      refine ih (listed.setIfInBounds j true) (a.put o.dst u) (F.with j (fun w => ∀ v, U v w u)) (inv.set hj hjn) hfree' (ready_mono hr (Ne.symm hji)) (hm.with hgood.1 j u) hx' ((hg.same (execOp_put oi hsi a o.dst u a3) (wanted_put oi a o.dst u a3)).more) (fun v hv => ?_)
      rw [Array.setIfInBounds_comm _ _ hji, ← Act.put_comm a v u a2]
      obtain ⟨w, hw, hF, hVv⟩ := hv
      have hF' := Facts.with_of hF
      have mv : met E1 W F (fun w => V w v) := ⟨w, hw, hF'.1, hVv⟩
      exact anyFreeP_weaken hLm _ _ _ _ _ (fun e w' h' => ⟨⟨h'.1.1, h'.2⟩, fun he => h'.1.2 he ⟨v, mv⟩⟩) ((hU ⟨v, mv⟩).2 u ⟨w, hw, Facts.with_mk hF'.1 hVv, hF'.2 ⟨v, mv⟩⟩)

theorem anyFreeP_lex (hs : ∀ w w', E0.R w w' → E1.R w w') (hVc : ∀ w, E1.R W w → ∃ v w', E1.R w w' ∧ Vc w' v) {n g : Nat} {R : Act → World → Prop} (hsel : Region.noSelect ops = true)
    (hbound : ∀ listed i, HeadInv md ops n listed → i < n → listed.getD i true = false → ∀ j ∈ Region.ready md ops listed, j < n) :
    ∀ (l : List Oper) (k : Nat) (listed : Array Bool) (a : Act) (F : Facts), (∀ j, j < l.length → l[j]? = ops[k + j]?) → k + l.length = n → HeadInv md ops n listed →
    Region.lexHead md ops g l.length k listed = true → FMono E1 F → met E1 W F (fun _ => True) → wpFreeP E0 E1 c Vc P ops md W K R l k a F →
    anyFreeP E0 E1 c Vc P ops md W K n (fun listed' a' F' => Region.seqB md ops g n listed' = true ∧ ∀ w, E1.R W w → (∀ e, F' e w) → R a' w) l.length listed a F := by
  intro l
  induction l with
  | nil =>
    intro k listed a F _ hk _ hB _ _ h
    have : k = n := by simpa using hk
    subst this
    exact ⟨by simpa [Region.lexHead] using hB, h⟩
  | cons o l ih =>
    intro k listed a F hl hk inv hB hm hx h
    have h0 : ops[k]? = some o := by simpa using (hl 0 (by simp)).symm
    simp only [List.length_cons, Region.lexHead, Bool.and_eq_true] at hB
    obtain ⟨⟨hr, hf⟩, hB'⟩ := hB
    have hkn : k < n := by simp only [List.length_cons] at hk; omega
    have hr' : k ∈ Region.ready md ops listed := by simpa using hr
    obtain ⟨V, hg, hnext⟩ := h
    exact anyFreeP_first hs hVc h0 (Region.noSelect_spec hsel) hbound hkn (fun listed' a' F' hL => seqB_ready hL.1) (fun _ _ _ _ hF hL => ⟨hL.1, fun w hw h' => hL.2 w hw (fun e => hF e w (h' e))⟩) l.length listed a F inv (Region.free_spec h0 hf) hr' hm hx hg
      (fun v hv => ih (k + 1) _ _ _ (fun j hj => by have := hl (j + 1) (by simp; omega); simpa [Nat.add_assoc, Nat.add_comm 1 j] using this) (by simp only [List.length_cons] at hk; omega) (inv.set hr' hkn) hB' (hm.with hg.1 k v)
        (by obtain ⟨w, hw, hF, hv'⟩ := hv; exact ⟨w, hw, Facts.with_mk hF hv', trivial⟩) (hnext v hv))

/-- A REGION THAT DRAWS ITS ORDER, one of whose operations writes. -/
theorem region_freeP (hs : ∀ w w', E0.R w w' → E1.R w w') (K : FuncId → Array Value → World → Value → Prop) {id : Nat} {Q : Exit → Act → World → Prop} {a : Act} {w : World} {l : List Oper} (hVc : ∀ w', E1.R (w.drewN 1) w' → ∃ v w'', E1.R w' w'' ∧ Vc w'' v) (hm : P.follows .mixedOrders = true)
    (hB : (Region.noSelect l.toArray && Region.lexHead .any l.toArray 0 l.length 0 (Array.replicate l.toArray.size false)) = true)
    (h : wpFreeP E0 E1 c Vc P l.toArray .any (w.drewN 1) K (fun a' w' => Q .normal a' w') l 0 a noFacts) : (Code.region id l.toArray true).wp P Q a w := by
  simp only [Bool.and_eq_true] at hB
  obtain ⟨hsel, hlex⟩ := hB
  have hbound : ∀ listed i, HeadInv .any l.toArray l.length listed → i < l.length → listed.getD i true = false → ∀ j ∈ Region.ready .any l.toArray listed, j < l.length := by
    intro listed i _ _ _ j hj
    obtain ⟨_, oj, hoj, _⟩ := mem_ready.1 hj
    simpa using (Array.getElem?_eq_some_iff.1 hoj).1
  have H := anyFreeP_lex (md := .any) (g := 0) hs hVc hsel hbound l 0 _ a noFacts (fun j hj => by simp) (by simp) (head_start _ l.length) hlex (fun _ _ _ h => h) ⟨w.drewN 1, E1.refl _, fun _ => trivial, trivial⟩ h
  refine wp_region_any hm ?_
  have := anyFreeP_sound (Q' := Q) (W := w.drewN 1) (g := 0) hs (fun listed a' F w' hw' hF hL => ⟨by simpa [Region.seqB] using hL.1, hL.2 w' hw' hF⟩) _ _ _ _ _ (fun _ _ _ h => h) (E1.refl _) (fun _ => E0.refl _) (fun _ => trivial) H
  rw [Nat.add_zero] at this
  exact this
end
end Go.Fk

/- Regions with a call that writes: laws of single operations. Nothing here names a program. -/
namespace Go.Fk
open Go Go.RowKit
section
variable {E0 E1 : Ext} {c : Nat} {Vc : World → Value → Prop} {P : Program} {ops : Array Oper} {W : World} {K : FuncId → Array Value → World → Value → Prop} {Q : Act → World → Prop} {F : Facts} {k : Nat} {o : Oper} {rest : List Oper} {a : Act}
theorem wpFreeP_weaken : ∀ (l : List Oper) (k : Nat) (a : Act) (F F' : Facts), (∀ e w, F' e w → F e w) → wpFreeP E0 E1 c Vc P ops .any W K Q l k a F → wpFreeP E0 E1 c Vc P ops .any W K Q l k a F' := by
  intro l
  induction l with
  | nil => intro k a F F' h hh w hw hF; exact hh w hw (fun e => h e w (hF e))
  | cons o l ih =>
    intro k a F F' h hh
    obtain ⟨V, hg, hn⟩ := hh
    exact ⟨V, hg.stronger h, fun v hv => ih _ _ _ _ (fun e w hw => ⟨h e w hw.1, hw.2⟩) (hn v (hv.weaken (fun w hw e => h e w (hw e))))⟩
theorem wpFreeP_nil (h : ∀ w, E1.R W w → (∀ e, F e w) → Q a w) : wpFreeP E0 E1 c Vc P ops .any W K Q [] k a F := h
theorem wpFreeP_some (hk : k ≠ c) (hg : o.guard = none) (V : Value → Prop) (hr : ∀ w, E1.R W w → ∃ v n, (execOp a.eval o).run P w = .ok (.value v) (w.drewN n) ∧ V v)
    (h : ∀ v, V v → wpFreeP E0 E1 c Vc P ops .any W K Q rest (k + 1) (a.put o.dst v) (F.with k (fun _ => True))) : wpFreeP E0 E1 c Vc P ops .any W K Q (o :: rest) k a F := by
  refine ⟨fun _ u => V u, ⟨fun _ _ _ _ h => h, fun e => absurd e hk, .inl ⟨by simp [Region.wanted, hg], fun w hw _ => ?_⟩⟩, fun u hu => ?_⟩
  · obtain ⟨v, n, hrun, hv⟩ := hr w (by unfold preE at hw; rw [if_neg hk] at hw; exact hw)
    rw [hrun]; exact ⟨(stepE E0 E1 c k).of_le (le_drewN w n), hv⟩
  · obtain ⟨w, _, _, hv⟩ := hu
    exact wpFreeP_weaken _ _ _ _ _ (fun e w h => ⟨h.1, fun _ => trivial⟩) (h u hv)
theorem wpFreeP_one (hk : k ≠ c) (hg : o.guard = none) (v : Value) (hr : ∀ w, E1.R W w → (execOp a.eval o).run P w = .ok (.value v) w)
    (h : wpFreeP E0 E1 c Vc P ops .any W K Q rest (k + 1) (a.put o.dst v) (F.with k (fun _ => True))) : wpFreeP E0 E1 c Vc P ops .any W K Q (o :: rest) k a F :=
  wpFreeP_some hk hg (· = v) (fun w hw => ⟨v, 0, by rw [hr w hw]; rfl, rfl⟩) (by rintro u rfl; exact h)
theorem wpFreeP_quiet (hk : k ≠ c) (hnc : simple o.op = true) (h : wpQuiet P ops (fun _ => True) (fun a' => wpFreeP E0 E1 c Vc P ops .any W K Q rest (k + 1) a' (F.with k (fun _ => True))) [o] a) : wpFreeP E0 E1 c Vc P ops .any W K Q (o :: rest) k a F := by
  simp only [wpQuiet] at h
  by_cases hw : Region.wanted o (yielded ops a.tmps) = true
  · rw [if_pos hw] at h
    obtain ⟨v, h1, h2⟩ := h
    refine ⟨fun _ u => u = v, ⟨fun _ _ _ _ h => h, fun e => absurd e hk, .inl ⟨hw, fun w hw' _ => ?_⟩⟩, fun u hu => ?_⟩
    · have h3 := h1 w trivial
      unfold Oper.quietAt at h3
      generalize hrun : (execOp a.eval o).run P w = r at h3
      cases r with
      | ok n w' =>
        cases n <;> simp only [Oper.quietUpon] at h3 <;> simp only [insideT]
        case value u => exact ⟨by rw [h3.1]; exact (stepE E0 E1 c k).refl w, h3.2⟩
        case skip => exact ⟨by rw [h3.1]; exact (stepE E0 E1 c k).refl w, h3.2.symm⟩
        case enter f args => exact (noEnter hnc hrun).elim
      | halt x w' => simp only [Oper.quietUpon] at h3
    · obtain ⟨w, _, _, rfl⟩ := hu
      exact wpFreeP_weaken _ _ _ _ _ (fun e w h => ⟨h.1, fun _ => trivial⟩) h2
  · rw [if_neg hw] at h
    refine ⟨fun _ u => u = undef, ⟨fun _ _ _ _ h => h, fun e => absurd e hk, .inr ⟨hk, by simpa using hw, fun _ _ _ => rfl⟩⟩, fun u hu => ?_⟩
    obtain ⟨w, _, _, rfl⟩ := hu
    exact wpFreeP_weaken _ _ _ _ _ (fun e w h => ⟨h.1, fun _ => trivial⟩) h
theorem wpFreeP_farith (hk : k ≠ c) (hg : o.guard = none) {op : BinOp} {t t' : TypeId} {x y : Operand} (hop : o.op = Op.binOp op t x y t') (ho : arith op = true)
    {fk : FloatKind} {p q : Nat} (hx : a.eval x = .float fk p) (hy : a.eval y = .float fk q)
    (h : ∀ r, Hid (can fk r = fop op fk p q) → Hid (fits fk r) → wpFreeP E0 E1 c Vc P ops .any W K Q rest (k + 1) (a.put o.dst (.float fk r)) (F.with k (fun _ => True))) : wpFreeP E0 E1 c Vc P ops .any W K Q (o :: rest) k a F := by
  refine wpFreeP_some hk hg (fun v => ∃ r, v = .float fk r ∧ can fk r = fop op fk p q ∧ fits fk r) (fun w _ => ?_) ?_
  · obtain ⟨r, n, hrun, hr, hf⟩ := run_farith (P := P) w op ho t fk p q
    have he := eqGuard_float (P := P) w op t x y fk fk p q
    refine ⟨.float fk r, n, ?_, r, rfl, hr, hf⟩
    simp [execOp, hop, hx, hy, he, hrun, Result.andThen]
  · rintro v ⟨r, rfl, h1, h2⟩
    exact h r h1 h2
theorem wpFreeP_call (hk : k = c) (hg : o.guard = none) (hm : MonoT E1 Vc) (h1 : ∀ w, E0.R W w → insideT E1 P K w Vc ((execOp a.eval o).run P w))
    (h2 : ∀ v, (∃ w, E1.R W w ∧ Vc w v) → wpFreeP E0 E1 c Vc P ops .any W K Q rest (k + 1) (a.put o.dst v) (F.with k (fun w => Vc w v))) : wpFreeP E0 E1 c Vc P ops .any W K Q (o :: rest) k a F := by
  refine ⟨Vc, ⟨hm, fun _ => rfl, .inl ⟨by simp [Region.wanted, hg], fun w hw _ => ?_⟩⟩, fun v hv => h2 v (by obtain ⟨w, hw, _, h⟩ := hv; exact ⟨w, hw, h⟩)⟩
  unfold preE at hw
  rw [if_pos hk] at hw
  unfold stepE
  rw [if_pos hk]
  exact h1 w hw
/-- A REGION WITH FORCED LAST OPERATIONS (from number n on), one of whose first ones writes. -/
theorem region_tailP (hs : ∀ w w', E0.R w w' → E1.R w w') (K : FuncId → Array Value → World → Value → Prop) {id : Nat} {Q : Exit → Act → World → Prop} {a : Act} {w : World} {l : List Oper} (n : Nat) (hVc : ∀ w', E1.R (w.drewN 1) w' → ∃ v w'', E1.R w' w'' ∧ Vc w'' v) (hm : P.follows .mixedOrders = true) (hB : Region.lexTailB .any l.toArray n = true)
    (h : wpFreeP E0 E1 c Vc P l.toArray .any (w.drewN 1) K (fun a' w' => wpList P l.toArray Q (l.drop n) a' w') (l.take n) 0 a noFacts) : (Code.region id l.toArray true).wp P Q a w := by
  simp only [Region.lexTailB, Bool.and_eq_true, decide_eq_true_eq] at hB
  obtain ⟨⟨⟨⟨hsel, hn⟩, hs'⟩, hc⟩, hlex⟩ := hB
  have hn' : n < l.length := by simpa using hn
  have htl : (l.take n).length = n := by simp; omega
  have hdl : (l.drop n).length = l.toArray.size - n := by simp
  have hbound : ∀ listed i, HeadInv .any l.toArray n listed → i < n → listed.getD i true = false → ∀ j ∈ Region.ready .any l.toArray listed, j < n := by
    intro listed i inv hi hun j hj
    rcases Nat.lt_or_ge j n with h | h
    · exact h
    · exact absurd hj (tail_waits hs' hc hn inv _ i rfl hi hun j h)
  have H := anyFreeP_lex (md := .any) (g := l.toArray.size - n) hs hVc hsel hbound (l.take n) 0 _ a noFacts (fun j hj => by
    have hj' : j < n := by rw [htl] at hj; exact hj
    simp [hj']) (by simpa using htl) (head_start _ n) (by rw [htl]; exact hlex) (fun _ _ _ h => h) ⟨w.drewN 1, E1.refl _, fun _ => trivial, trivial⟩ h
  refine wp_region_any hm ?_
  have := anyFreeP_sound (Q' := Q) (W := w.drewN 1) (g := l.toArray.size - n) hs (fun listed a' F w' hw' hF hL => by
    have := wpAny_of_seq (md := .any) (Q' := Q) (l.drop n) n listed a' w' (fun j => by simp [List.getElem?_drop]) (by rw [hdl]; exact hL.1) (hL.2 w' hw' hF)
    rwa [hdl] at this) _ _ _ _ _ (fun _ _ _ h => h) (E1.refl _) (fun _ => E0.refl _) (fun _ => trivial) H
  rw [htl, show n + (l.toArray.size - n) = l.toArray.size by omega] at this
  exact this
end
/-- What may turn: before a call has run, all is as Pre says; behind it, as Post says. -/
def altE (S : Nat → Prop) (Pre Post : World → Prop) (h1 : ∀ w w', le w w' → Pre w → Pre w') (h2 : ∀ w w', le w w' → Post w → Post w') : Ext where
  R w w' := Chg S w w' ∧ (Post w → Post w') ∧ (Pre w ∨ Post w → Pre w' ∨ Post w')
  refl w := ⟨Chg.refl _ w, id, id⟩
  trans := by
    rintro a b c ⟨p1, p2, p3⟩ ⟨q1, q2, q3⟩
    exact ⟨p1.trans q1, fun h => q2 (p2 h), fun h => q3 (p3 h)⟩
  of_le := by
    intro a b h
    exact ⟨Chg.of_le h, h2 a b h, fun e => e.elim (fun x => .inl (h1 a b h x)) (fun x => .inr (h2 a b h x))⟩
section
variable {E0 E1 : Ext} {c : Nat} {Vc : World → Value → Prop} {P : Program} {ops : Array Oper} {W : World} {K : FuncId → Array Value → World → Value → Prop} {Q : Act → World → Prop} {F : Facts} {k : Nat} {o : Oper} {rest : List Oper} {a : Act}
/-- A cell that holds the same before and behind. -/
theorem wpFreeP_cellA (hk : k ≠ c) (hg : o.guard = none) {ty : TypeId} {x : Operand} (hop : o.op = .load ty x) {ad : Addr} (hx : a.eval x = .pointer (some ad)) {v : Value} (hv : ∀ w, E1.R W w → w.cell? ad = some v) (hu : ∀ w, (isAgg ty).run P w = .ok false w)
    (h : wpFreeP E0 E1 c Vc P ops .any W K Q rest (k + 1) (a.put o.dst v) (F.with k (fun _ => True))) : wpFreeP E0 E1 c Vc P ops .any W K Q (o :: rest) k a F := by
  refine wpFreeP_one hk hg v (fun w hw => ?_) h
  have hl : (Instr.loadAt ty (.pointer (some ad))).run P w = .ok v w := by
    simp [Instr.loadAt, Instr.sureAddr, loadVar, hu, hv w hw]
  simp [execOp, hop, hx, hl, Result.andThen]
/-- A call that only reads. -/
theorem wpFreeP_callQ (hk : k ≠ c) (hg : o.guard = none) {f : FuncId} {xs : Array Operand} {ts : Array TypeId} (hop : o.op = Op.call { callee := Callee.value (Operand.func f), args := xs, argTypes := ts }) {fn : Func} (hf : P.funcs[f]? = some fn)
    (hb : fn.body.isNone = false) (hn : (fn.name == "runtime.NumGoroutine") = false) {args : Array Value} (ha : xs.map a.eval = args) (V : Value → Prop)
    (h1 : ∀ w, E1.R W w → Calls P f args w (fun e w' => ∃ v, e = .returned v ∧ le w w' ∧ K f args w' v ∧ V v)) (hK : ∀ w v, K f args w v → V v)
    (h : ∀ v, V v → wpFreeP E0 E1 c Vc P ops .any W K Q rest (k + 1) (a.put o.dst v) (F.with k (fun _ => True))) : wpFreeP E0 E1 c Vc P ops .any W K Q (o :: rest) k a F := by
  refine ⟨fun _ u => V u, ⟨fun _ _ _ _ h => h, fun e => absurd e hk, .inl ⟨by simp [Region.wanted, hg], fun w hw _ => ?_⟩⟩, fun u hu => ?_⟩
  · rw [run_enter hop hf hb hn ha]
    unfold preE at hw
    rw [if_neg hk] at hw
    refine ⟨(stepE E0 E1 c k).refl w, (h1 w hw).mono ?_, fun w'' v hk => hK w'' v hk⟩
    rintro e w' ⟨v, rfl, hl, hk', _⟩
    exact ⟨v, rfl, (stepE E0 E1 c k).of_le hl, hk'⟩
  · obtain ⟨w, _, _, hv⟩ := hu
    exact wpFreeP_weaken _ _ _ _ _ (fun e w h => ⟨h.1, fun _ => trivial⟩) (h u hv)
/-- The call that writes. -/
theorem wpFreeP_callC (hk : k = c) (hg : o.guard = none) {f : FuncId} {xs : Array Operand} {ts : Array TypeId} (hop : o.op = Op.call { callee := Callee.value (Operand.func f), args := xs, argTypes := ts }) {fn : Func} (hf : P.funcs[f]? = some fn)
    (hb : fn.body.isNone = false) (hn : (fn.name == "runtime.NumGoroutine") = false) {args : Array Value} (ha : xs.map a.eval = args) (hm : MonoT E1 Vc)
    (h1 : ∀ w, E0.R W w → Calls P f args w (fun e w' => ∃ v, e = .returned v ∧ E1.R w w' ∧ K f args w' v)) (hK : ∀ w v, K f args w v → Vc w v)
    (h2 : ∀ v, (∃ w, E1.R W w ∧ Vc w v) → wpFreeP E0 E1 c Vc P ops .any W K Q rest (k + 1) (a.put o.dst v) (F.with k (fun w => Vc w v))) : wpFreeP E0 E1 c Vc P ops .any W K Q (o :: rest) k a F := by
  refine wpFreeP_call hk hg hm (fun w hw => ?_) h2
  rw [run_enter hop hf hb hn ha]
  exact ⟨E1.refl w, h1 w hw, fun w'' v hk => hK w'' v hk⟩
end
end Go.Fk

/- A jet's 'behind': a drawn region with two stores of parts, the first of them in its head. -/
namespace Go.Fk
open Go Go.RowKit
section
variable {E0 E1 : Ext} {c : Nat} {Vc : World → Value → Prop} {P : Program} {ops : Array Oper} {W : World} {K : FuncId → Array Value → World → Value → Prop} {Q : Act → World → Prop} {F : Facts} {k : Nat} {o : Oper} {rest : List Oper} {a : Act}
/-- A part of a block that stands is loaded. -/
theorem wpFreeP_loadP (hk : k ≠ c) (hg : o.guard = none) {ty : TypeId} {x : Operand} (hop : o.op = .load ty x) {g f : Nat} (hx : a.eval x = .pointer (some ⟨g, f, none⟩)) {t : TypeId} {cs : Array Value} {d : TypeDesc}
    (hr : ∀ w, E1.R W w → Row w g t cs) (hu : P.underlying ty = some d) (hd : d.isRow = true) (ds : List Value) (hc : ∀ j, j < ds.length → cs[f + j]? = ds[j]?) {n : Nat} (hi : (P.info? ty).map (·.size) = some n) (hn : ds.length = n)
    (h : wpFreeP E0 E1 c Vc P ops .any W K Q rest (k + 1) (a.put o.dst (.agg ds.toArray)) (F.with k (fun _ => True))) : wpFreeP E0 E1 c Vc P ops .any W K Q (o :: rest) k a F := by
  refine wpFreeP_one hk hg _ (fun w hw => ?_) h
  have := run_loadAt_mid (P := P) w g f ty ds d (fun j v hv => by rw [(hr w hw).cell?, hc j (List.getElem?_eq_some_iff.1 hv).1, hv]) hu hd (hn ▸ hi)
  simp [execOp, hop, hx, this, Result.andThen]
/-- The operation that writes is a store of a part. -/
theorem wpFreeP_storeC {g f : Nat} {t : TypeId} {old : Array Value} {cells : List Value} (hV : Vc = fun w v => v = undef ∧ Row w g t (patch old f cells)) (hk : k = c) (hg : o.guard = none) {ty : TypeId} {x y : Operand} (hop : o.op = .store ty x y) (hx : a.eval x = .pointer (some ⟨g, f, none⟩)) (hy : a.eval y = .agg cells.toArray)
    (hr : ∀ w, E0.R W w → Row w g t old) (hi : (P.info? ty).map (·.size) = some cells.length) (ho : f + cells.length ≤ old.size) (h1 : cells.toArray.all (·.oneCell') = true)
    (hE : ∀ w w', E0.R W w → Wrote w w' g t (patch old f cells) → Chg (· = g) w w' → E1.R w w') (hm : ∀ w w', E1.R w w' → Row w g t (patch old f cells) → Row w' g t (patch old f cells))
    (h2 : wpFreeP E0 E1 c Vc P ops .any W K Q rest (k + 1) (a.put o.dst undef) (F.with k (fun w => Row w g t (patch old f cells)))) : wpFreeP E0 E1 c Vc P ops .any W K Q (o :: rest) k a F := by
  subst hV
  refine wpFreeP_call hk hg (fun v w w' hw hv => ⟨hv.1, hm w w' hw hv.2⟩) (fun w hw => ?_) (fun v hv => ?_)
  · have hrow := hr w hw
    have hrun := run_storeAt_mid (P := P) w g f ty cells.toArray (fun j hj => by
      have hj' : f + j < old.size := by simp at hj; omega
      refine ⟨?_, hrow.frozen _⟩
      rw [hrow.cell?, Array.getElem?_eq_getElem hj']; rfl) (by simpa using hi) h1
    have : (execOp a.eval o).run P w = .ok .skip (w.setCells g f cells) := by
      unfold execOp
      simp only [hop, hx, hy, Sem.run_bind, Result.andThen_ok, hrun]
      rfl
    rw [this]
    have K := wrote_setCells cells f old w hrow
    exact ⟨hE w _ hw K ((Chg.refl _ w).wrote K rfl), rfl, K.row⟩
  · obtain ⟨w, _, rfl, _⟩ := hv
    exact wpFreeP_weaken _ _ _ _ _ (fun e w h => ⟨h.1, fun he => (h.2 he).2⟩) h2
end
end Go.Fk
namespace Go.Proofs.Ytgjdmoenobacgaa
open Go.RowKit Go.Fk
set_option maxRecDepth 100000 in
set_option maxHeartbeats 4000000 in
theorem i_jbehind (s t : Value) (g r r2 : Nat) (q : JtS) (z1 z2 z3 z4 : Nat) (w : World) (R : Row w g 158 #[s, .int .i64 (q.j : Nat), t, .int .i64 (q.k : Nat), .int .i64 1, .float .f32 q.a, .float .f32 q.b, .float .f32 q.c, .float .f32 z1, .float .f32 z2, .int .i64 5, .float .f32 q.a2, .float .f32 q.b2, .float .f32 q.c2, .float .f32 z3, .float .f32 z4, .float .f32 q.m, .float .f32 q.o, .pointer (some ⟨r, 0, none⟩), .pointer (some ⟨r2, 0, none⟩)]) (RR : Row w r 149 #[mdl 1 q.a q.b q.c, .float .f32 q.p, .float .f32 q.q]) (RR2 : Row w r2 149 #[mdl 5 q.a2 q.b2 q.c2, .float .f32 q.p2, .float .f32 q.q2]) (hg : g ≠ r) (hg2 : g ≠ r2) (hs : s.oneCell' = true) (ht : t.oneCell' = true) :
    Calls Try.prog 100 #[.pointer (some ⟨g, 0, none⟩)] w fun e w' => e = .returned (.agg #[s, .int .i64 (q.j : Nat), t, .int .i64 (q.k : Nat), .int .i64 1, .float .f32 q.a, .float .f32 q.b, .float .f32 q.c, .float .f32 q.p, .float .f32 q.q, .int .i64 5, .float .f32 q.a2, .float .f32 q.b2, .float .f32 q.c2, .float .f32 q.p2, .float .f32 q.q2, .float .f32 q.m, .float .f32 q.o]) ∧ Chg (· = g) w w' := by
  have HR := hid (R.le (le_alloc w (.cells #[.slice none 0 0, .int .i64 0, .slice none 0 0, .int .i64 0, .int .i64 0, .float .f32 0, .float .f32 0, .float .f32 0, .float .f32 0, .float .f32 0, .int .i64 0, .float .f32 0, .float .f32 0, .float .f32 0, .float .f32 0, .float .f32 0, .float .f32 0, .float .f32 0] 67))); have HRR := hid (RR.le (le_alloc w (.cells #[.slice none 0 0, .int .i64 0, .slice none 0 0, .int .i64 0, .int .i64 0, .float .f32 0, .float .f32 0, .float .f32 0, .float .f32 0, .float .f32 0, .int .i64 0, .float .f32 0, .float .f32 0, .float .f32 0, .float .f32 0, .float .f32 0, .float .f32 0, .float .f32 0] 67))); have HRR2 := hid (RR2.le (le_alloc w (.cells #[.slice none 0 0, .int .i64 0, .slice none 0 0, .int .i64 0, .int .i64 0, .float .f32 0, .float .f32 0, .float .f32 0, .float .f32 0, .float .f32 0, .int .i64 0, .float .f32 0, .float .f32 0, .float .f32 0, .float .f32 0, .float .f32 0, .float .f32 0, .float .f32 0] 67)))
  have RN := hid (Row.new w 67 #[.slice none 0 0, .int .i64 0, .slice none 0 0, .int .i64 0, .int .i64 0, .float .f32 0, .float .f32 0, .float .f32 0, .float .f32 0, .float .f32 0, .int .i64 0, .float .f32 0, .float .f32 0, .float .f32 0, .float .f32 0, .float .f32 0, .float .f32 0, .float .f32 0])
  have hgl := R.lt
  have C0 := hid (Chg.of_le (S := (· = g)) (le_alloc w (.cells #[.slice none 0 0, .int .i64 0, .slice none 0 0, .int .i64 0, .int .i64 0, .float .f32 0, .float .f32 0, .float .f32 0, .float .f32 0, .float .f32 0, .int .i64 0, .float .f32 0, .float .f32 0, .float .f32 0, .float .f32 0, .float .f32 0, .float .f32 0, .float .f32 0] 67)))
  clear R RR RR2
  have hlow : ∀ w w' : World, le w w' → Row w g 158 #[s, .int .i64 (q.j : Nat), t, .int .i64 (q.k : Nat), .int .i64 1, .float .f32 q.a, .float .f32 q.b, .float .f32 q.c, .float .f32 z1, .float .f32 z2, .int .i64 5, .float .f32 q.a2, .float .f32 q.b2, .float .f32 q.c2, .float .f32 z3, .float .f32 z4, .float .f32 q.m, .float .f32 q.o, .pointer (some ⟨r, 0, none⟩), .pointer (some ⟨r2, 0, none⟩)] → Row w' g 158 #[s, .int .i64 (q.j : Nat), t, .int .i64 (q.k : Nat), .int .i64 1, .float .f32 q.a, .float .f32 q.b, .float .f32 q.c, .float .f32 z1, .float .f32 z2, .int .i64 5, .float .f32 q.a2, .float .f32 q.b2, .float .f32 q.c2, .float .f32 z3, .float .f32 z4, .float .f32 q.m, .float .f32 q.o, .pointer (some ⟨r, 0, none⟩), .pointer (some ⟨r2, 0, none⟩)] := fun w w' h e => e.le h
  have hlow2 : ∀ w w' : World, le w w' → Row w g 158 #[s, .int .i64 (q.j : Nat), t, .int .i64 (q.k : Nat), .int .i64 1, .float .f32 q.a, .float .f32 q.b, .float .f32 q.c, .float .f32 q.p, .float .f32 q.q, .int .i64 5, .float .f32 q.a2, .float .f32 q.b2, .float .f32 q.c2, .float .f32 z3, .float .f32 z4, .float .f32 q.m, .float .f32 q.o, .pointer (some ⟨r, 0, none⟩), .pointer (some ⟨r2, 0, none⟩)] → Row w' g 158 #[s, .int .i64 (q.j : Nat), t, .int .i64 (q.k : Nat), .int .i64 1, .float .f32 q.a, .float .f32 q.b, .float .f32 q.c, .float .f32 q.p, .float .f32 q.q, .int .i64 5, .float .f32 q.a2, .float .f32 q.b2, .float .f32 q.c2, .float .f32 z3, .float .f32 z4, .float .f32 q.m, .float .f32 q.o, .pointer (some ⟨r, 0, none⟩), .pointer (some ⟨r2, 0, none⟩)] := fun w w' h e => e.le h
  have h18 : ∀ w' : World, Row w' g 158 #[s, .int .i64 (q.j : Nat), t, .int .i64 (q.k : Nat), .int .i64 1, .float .f32 q.a, .float .f32 q.b, .float .f32 q.c, .float .f32 z1, .float .f32 z2, .int .i64 5, .float .f32 q.a2, .float .f32 q.b2, .float .f32 q.c2, .float .f32 z3, .float .f32 z4, .float .f32 q.m, .float .f32 q.o, .pointer (some ⟨r, 0, none⟩), .pointer (some ⟨r2, 0, none⟩)] ∨ Row w' g 158 #[s, .int .i64 (q.j : Nat), t, .int .i64 (q.k : Nat), .int .i64 1, .float .f32 q.a, .float .f32 q.b, .float .f32 q.c, .float .f32 q.p, .float .f32 q.q, .int .i64 5, .float .f32 q.a2, .float .f32 q.b2, .float .f32 q.c2, .float .f32 z3, .float .f32 z4, .float .f32 q.m, .float .f32 q.o, .pointer (some ⟨r, 0, none⟩), .pointer (some ⟨r2, 0, none⟩)] → w'.cell? ⟨g, 18, none⟩ = some (.pointer (some ⟨r, 0, none⟩)) := fun w' h => by rcases h with h | h <;> exact h.cell? 18
  have h19 : ∀ w' : World, Row w' g 158 #[s, .int .i64 (q.j : Nat), t, .int .i64 (q.k : Nat), .int .i64 1, .float .f32 q.a, .float .f32 q.b, .float .f32 q.c, .float .f32 z1, .float .f32 z2, .int .i64 5, .float .f32 q.a2, .float .f32 q.b2, .float .f32 q.c2, .float .f32 z3, .float .f32 z4, .float .f32 q.m, .float .f32 q.o, .pointer (some ⟨r, 0, none⟩), .pointer (some ⟨r2, 0, none⟩)] ∨ Row w' g 158 #[s, .int .i64 (q.j : Nat), t, .int .i64 (q.k : Nat), .int .i64 1, .float .f32 q.a, .float .f32 q.b, .float .f32 q.c, .float .f32 q.p, .float .f32 q.q, .int .i64 5, .float .f32 q.a2, .float .f32 q.b2, .float .f32 q.c2, .float .f32 z3, .float .f32 z4, .float .f32 q.m, .float .f32 q.o, .pointer (some ⟨r, 0, none⟩), .pointer (some ⟨r2, 0, none⟩)] → w'.cell? ⟨g, 19, none⟩ = some (.pointer (some ⟨r2, 0, none⟩)) := fun w' h => by rcases h with h | h <;> exact h.cell? 19
  have H18 := hid h18; have H19 := hid h19
  clear h18 h19
  go_enter Try.func100, Try.ntmps100
  go_wp2_with fail
  have HPRE := hid (HR.out.drewN 1)
  refine region_tailP (E0 := leX) (E1 := altE (· = g) _ _ hlow hlow2) (c := 20) (Vc := fun wa v => v = undef ∧ Row wa g 158 (patch #[s, .int .i64 (q.j : Nat), t, .int .i64 (q.k : Nat), .int .i64 1, .float .f32 q.a, .float .f32 q.b, .float .f32 q.c, .float .f32 z1, .float .f32 z2, .int .i64 5, .float .f32 q.a2, .float .f32 q.b2, .float .f32 q.c2, .float .f32 z3, .float .f32 z4, .float .f32 q.m, .float .f32 q.o, .pointer (some ⟨r, 0, none⟩), .pointer (some ⟨r2, 0, none⟩)] 8 [.float .f32 q.p, .float .f32 q.q])) (fun _ _ h => (altE _ _ _ hlow hlow2).of_le h) (fun _ _ _ _ => True) 25 (fun wa hwa => ?_) (by kernel_rfl) (by kernel_rfl) ?_
  · rcases hwa.2.2 (.inl HPRE.out) with h | h
    · have K := wrote_setCells [.float .f32 q.p, .float .f32 q.q] 8 _ wa h
      exact ⟨undef, _, ⟨(Chg.refl _ wa).wrote K rfl, fun _ => K.row, fun _ => .inr K.row⟩, rfl, K.row⟩
    · exact ⟨undef, wa, (altE _ _ _ hlow hlow2).refl wa, rfl, h⟩
  simp only [List.take_succ_cons, List.take_zero, List.drop_succ_cons, List.drop_zero]
  refine wpFreeP_one (by decide) rfl (.pointer (some ⟨g, 0, none⟩)) (fun w1 _ => by kernel_rfl) ?_
  simp only [Act.put, List.setIfInBounds_toArray, List.set_cons_succ, List.set_cons_zero]
  refine wpFreeP_one (by decide) rfl (.pointer (some ⟨g, 0, none⟩)) (fun w1 _ => by kernel_rfl) ?_
  simp only [Act.put, List.setIfInBounds_toArray, List.set_cons_succ, List.set_cons_zero]
  refine wpFreeP_one (by decide) rfl (.pointer (some ⟨g, 0, none⟩)) (fun w1 _ => by kernel_rfl) ?_
  simp only [Act.put, List.setIfInBounds_toArray, List.set_cons_succ, List.set_cons_zero]
  refine wpFreeP_one (by decide) rfl (.pointer (some ⟨g, 0, none⟩)) (fun w1 _ => by kernel_rfl) ?_
  simp only [Act.put, List.setIfInBounds_toArray, List.set_cons_succ, List.set_cons_zero]
  refine wpFreeP_one (by decide) rfl (.pointer (some ⟨g, 18, none⟩)) (fun w1 _ => by kernel_rfl) ?_
  simp only [Act.put, List.setIfInBounds_toArray, List.set_cons_succ, List.set_cons_zero]
  refine wpFreeP_cellA (by decide) rfl rfl rfl (fun w1 h1 => H18.out w1 (h1.2.2 (.inl HPRE.out))) (fun w => by kernel_rfl) ?_
  simp only [Act.put, List.setIfInBounds_toArray, List.set_cons_succ, List.set_cons_zero]
  refine wpFreeP_one (by decide) rfl (.pointer (some ⟨r, 0, none⟩)) (fun w1 _ => by kernel_rfl) ?_
  simp only [Act.put, List.setIfInBounds_toArray, List.set_cons_succ, List.set_cons_zero]
  refine wpFreeP_one (by decide) rfl (.pointer (some ⟨r, 1, none⟩)) (fun w1 _ => by kernel_rfl) ?_
  simp only [Act.put, List.setIfInBounds_toArray, List.set_cons_succ, List.set_cons_zero]
  refine wpFreeP_loadP (by decide) rfl rfl rfl (fun w1 h1 => h1.1.row (HRR.out.drewN 1) (fun e => hg e.symm)) Try.underlying27 rfl [.float .f32 q.p, .float .f32 q.q] (midOf [mdl 1 q.a q.b q.c] [.float .f32 q.p, .float .f32 q.q] [] 1 rfl) info2 rfl ?_
  simp only [Act.put, List.setIfInBounds_toArray, List.set_cons_succ, List.set_cons_zero]
  refine wpFreeP_one (by decide) rfl (.pointer (some ⟨g, 0, none⟩)) (fun w1 _ => by kernel_rfl) ?_
  simp only [Act.put, List.setIfInBounds_toArray, List.set_cons_succ, List.set_cons_zero]
  refine wpFreeP_one (by decide) rfl (.pointer (some ⟨g, 0, none⟩)) (fun w1 _ => by kernel_rfl) ?_
  simp only [Act.put, List.setIfInBounds_toArray, List.set_cons_succ, List.set_cons_zero]
  refine wpFreeP_one (by decide) rfl (.pointer (some ⟨g, 19, none⟩)) (fun w1 _ => by kernel_rfl) ?_
  simp only [Act.put, List.setIfInBounds_toArray, List.set_cons_succ, List.set_cons_zero]
  refine wpFreeP_cellA (by decide) rfl rfl rfl (fun w1 h1 => H19.out w1 (h1.2.2 (.inl HPRE.out))) (fun w => by kernel_rfl) ?_
  simp only [Act.put, List.setIfInBounds_toArray, List.set_cons_succ, List.set_cons_zero]
  refine wpFreeP_one (by decide) rfl (.pointer (some ⟨r2, 0, none⟩)) (fun w1 _ => by kernel_rfl) ?_
  simp only [Act.put, List.setIfInBounds_toArray, List.set_cons_succ, List.set_cons_zero]
  refine wpFreeP_one (by decide) rfl (.pointer (some ⟨r2, 1, none⟩)) (fun w1 _ => by kernel_rfl) ?_
  simp only [Act.put, List.setIfInBounds_toArray, List.set_cons_succ, List.set_cons_zero]
  refine wpFreeP_loadP (by decide) rfl rfl rfl (fun w1 h1 => h1.1.row (HRR2.out.drewN 1) (fun e => hg2 e.symm)) Try.underlying27 rfl [.float .f32 q.p2, .float .f32 q.q2] (midOf [mdl 5 q.a2 q.b2 q.c2] [.float .f32 q.p2, .float .f32 q.q2] [] 1 rfl) info2 rfl ?_
  simp only [Act.put, List.setIfInBounds_toArray, List.set_cons_succ, List.set_cons_zero]
  refine wpFreeP_one (by decide) rfl (.pointer (some ⟨g, 0, none⟩)) (fun w1 _ => by kernel_rfl) ?_
  simp only [Act.put, List.setIfInBounds_toArray, List.set_cons_succ, List.set_cons_zero]
  refine wpFreeP_one (by decide) rfl (.pointer (some ⟨g, 0, none⟩)) (fun w1 _ => by kernel_rfl) ?_
  simp only [Act.put, List.setIfInBounds_toArray, List.set_cons_succ, List.set_cons_zero]
  refine wpFreeP_one (by decide) rfl (.pointer (some ⟨g, 4, none⟩)) (fun w1 _ => by kernel_rfl) ?_
  simp only [Act.put, List.setIfInBounds_toArray, List.set_cons_succ, List.set_cons_zero]
  refine wpFreeP_one (by decide) rfl (.pointer (some ⟨g, 8, none⟩)) (fun w1 _ => by kernel_rfl) ?_
  simp only [Act.put, List.setIfInBounds_toArray, List.set_cons_succ, List.set_cons_zero]
  refine wpFreeP_storeC rfl rfl rfl rfl rfl rfl (fun w1 h1 => HPRE.out.le h1) info2 (by simp) (by simp [Value.oneCell']) (fun w1 w2 h1 K C => ⟨C, fun _ => K.row, fun _ => .inr K.row⟩) (fun w1 w2 h1 h => h1.2.1 h) ?_
  simp only [Act.put, List.setIfInBounds_toArray, List.set_cons_succ, List.set_cons_zero]
  refine wpFreeP_one (by decide) rfl (.pointer (some ⟨g, 0, none⟩)) (fun w1 _ => by kernel_rfl) ?_
  simp only [Act.put, List.setIfInBounds_toArray, List.set_cons_succ, List.set_cons_zero]
  refine wpFreeP_one (by decide) rfl (.pointer (some ⟨g, 0, none⟩)) (fun w1 _ => by kernel_rfl) ?_
  simp only [Act.put, List.setIfInBounds_toArray, List.set_cons_succ, List.set_cons_zero]
  refine wpFreeP_one (by decide) rfl (.pointer (some ⟨g, 10, none⟩)) (fun w1 _ => by kernel_rfl) ?_
  simp only [Act.put, List.setIfInBounds_toArray, List.set_cons_succ, List.set_cons_zero]
  refine wpFreeP_one (by decide) rfl (.pointer (some ⟨g, 14, none⟩)) (fun w1 _ => by kernel_rfl) ?_
  simp only [Act.put, List.setIfInBounds_toArray, List.set_cons_succ, List.set_cons_zero]
  refine wpFreeP_nil (fun w3 hw3 hF => ?_)
  have R3 := hid (show Row w3 g 158 #[s, .int .i64 (q.j : Nat), t, .int .i64 (q.k : Nat), .int .i64 1, .float .f32 q.a, .float .f32 q.b, .float .f32 q.c, .float .f32 q.p, .float .f32 q.q, .int .i64 5, .float .f32 q.a2, .float .f32 q.b2, .float .f32 q.c2, .float .f32 z3, .float .f32 z4, .float .f32 q.m, .float .f32 q.o, .pointer (some ⟨r, 0, none⟩), .pointer (some ⟨r2, 0, none⟩)] from (hF 20).1.1.1.1.2 rfl)
  have C3 := hid ((C0.out.le (le_drewN _ 1)).trans hw3.1)
  have N3 := hid (hw3.1.row (RN.out.drewN 1) (by omega))
  clear hF hw3 HPRE H18 H19 hlow hlow2 HR HRR HRR2 RN C0
  refine wpList_storeP rfl rfl rfl (f := 14) (cells := [.float .f32 q.p2, .float .f32 q.q2]) rfl R3.out info2 (by simp) (by simp [Value.oneCell']) (fun w4 K => ?_)
  have C4 := hid (C3.out.wrote K rfl)
  have R4 := hid (show Row w4 g 158 #[s, .int .i64 (q.j : Nat), t, .int .i64 (q.k : Nat), .int .i64 1, .float .f32 q.a, .float .f32 q.b, .float .f32 q.c, .float .f32 q.p, .float .f32 q.q, .int .i64 5, .float .f32 q.a2, .float .f32 q.b2, .float .f32 q.c2, .float .f32 q.p2, .float .f32 q.q2, .float .f32 q.m, .float .f32 q.o, .pointer (some ⟨r, 0, none⟩), .pointer (some ⟨r2, 0, none⟩)] from K.row)
  have N4 := hid (K.other _ _ _ (by omega) N3.out)
  clear K R3 C3 N3
  go_wp2_with (first | ((with_reducible refine at_loadU rfl rfl ?_); (with_reducible refine wpList_loadPR R4.out rfl rfl rfl Try.underlying67 rfl [s, .int .i64 (q.j : Nat), t, .int .i64 (q.k : Nat), .int .i64 1, .float .f32 q.a, .float .f32 q.b, .float .f32 q.c, .float .f32 q.p, .float .f32 q.q, .int .i64 5, .float .f32 q.a2, .float .f32 q.b2, .float .f32 q.c2, .float .f32 q.p2, .float .f32 q.q2, .float .f32 q.m, .float .f32 q.o] (midOf [] [s, .int .i64 (q.j : Nat), t, .int .i64 (q.k : Nat), .int .i64 1, .float .f32 q.a, .float .f32 q.b, .float .f32 q.c, .float .f32 q.p, .float .f32 q.q, .int .i64 5, .float .f32 q.a2, .float .f32 q.b2, .float .f32 q.c2, .float .f32 q.p2, .float .f32 q.q2, .float .f32 q.m, .float .f32 q.o] [.pointer (some ⟨r, 0, none⟩), .pointer (some ⟨r2, 0, none⟩)] 0 rfl) uinfoJetI rfl ?_)) | (with_reducible refine stop_store rfl ?_))
  show wpList _ _ _ _ _ _
  refine wpList_storeD rfl rfl rfl (cells := #[s, .int .i64 (q.j : Nat), t, .int .i64 (q.k : Nat), .int .i64 1, .float .f32 q.a, .float .f32 q.b, .float .f32 q.c, .float .f32 q.p, .float .f32 q.q, .int .i64 5, .float .f32 q.a2, .float .f32 q.b2, .float .f32 q.c2, .float .f32 q.p2, .float .f32 q.q2, .float .f32 q.m, .float .f32 q.o]) rfl N4.out uinfoJetI rfl (by simp only [List.all_toArray', List.all_cons, List.all_nil, hs, ht]; rfl) (fun w5 K => ?_)
  have R5 := hid K.row
  have C5 : Hid (Chg (· = g) w w5) := ⟨(K.below w.heap.size w4 (Below.refl _ _) (Nat.le_refl _)).os.trans C4.out.os, (K.below w.heap.size w4 (Below.refl _ _) (Nat.le_refl _)).tape.trans C4.out.tape, (K.below w.heap.size w4 (Below.refl _ _) (Nat.le_refl _)).output.trans C4.out.output, Nat.le_trans C4.out.size (K.below w.heap.size w4 (Below.refl _ _) (Nat.le_refl _)).size, fun k h1 h2 => ((K.below w.heap.size w4 (Below.refl _ _) (Nat.le_refl _)).block k h1).trans (C4.out.block k h1 h2)⟩
  clear K C4 R4 N4
  go_wp2
  exact bodyPost_ret (results_row1 rfl _ _ _ _ _ rfl R5.out Try.underlying67 rfl uinfoJetI) rfl ⟨rfl, C5.out⟩
end Go.Proofs.Ytgjdmoenobacgaa

/- Copies of a Jet: the model's. -/
namespace Go.Proofs.Ytgjdmoenobacgaa
open Go.RowKit Go.Fk
set_option maxRecDepth 100000 in
set_option maxHeartbeats 4000000 in
theorem s_l05CopyJet (x y : Nat → Nat) (nx ny : Nat) (j k : Int) (fk : Int) (a b c p q : Nat) (gk : Int) (a2 b2 c2 p2 q2 : Nat) (m o : Nat) (B : Nat) (s t : Value) (w : World) (g0 : Nat) (RR : Row w g0 67 #[s, .int .i64 j, t, .int .i64 k, .int .i64 fk, .float .f32 a, .float .f32 b, .float .f32 c, .float .f32 p, .float .f32 q, .int .i64 gk, .float .f32 a2, .float .f32 b2, .float .f32 c2, .float .f32 p2, .float .f32 q2, .float .f32 m, .float .f32 o]) (hs : RdS w B s x nx) (ht : RdS w B t y ny) (hx : 1 ≤ nx ∧ nx ≤ 1024) (hy : 1 ≤ ny ∧ ny ≤ 1024) :
    Calls Try.prog 95 #[.pointer (some ⟨g0, 0, none⟩)] w fun e w' => ∃ s1 t1, e = .returned (.agg #[s1, .int .i64 j, t1, .int .i64 k, .int .i64 fk, .float .f32 a, .float .f32 b, .float .f32 c, .float .f32 p, .float .f32 q, .int .i64 gk, .float .f32 a2, .float .f32 b2, .float .f32 c2, .float .f32 p2, .float .f32 q2, .float .f32 m, .float .f32 o]) ∧ Two w.heap.size x nx y ny s1 t1 w' ∧ le w w' := by
  have F := (Frg.nil w).box 67 #[.slice none 0 0, .int .i64 0, .slice none 0 0, .int .i64 0, .int .i64 0, .float .f32 0, .float .f32 0, .float .f32 0, .float .f32 0, .float .f32 0, .int .i64 0, .float .f32 0, .float .f32 0, .float .f32 0, .float .f32 0, .float .f32 0, .float .f32 0, .float .f32 0]
  have hg0 : g0 < w.heap.size := RR.lt
  have HR := hid RR; have HS := hid hs; have HT := hid ht; clear RR hs ht
  go_enter Try.func95, Try.ntmps95
  go_wp2_with fail
  obtain ⟨W, hW⟩ : ∃ W, W = w.alloc (.cells #[.slice none 0 0, .int .i64 0, .slice none 0 0, .int .i64 0, .int .i64 0, .float .f32 0, .float .f32 0, .float .f32 0, .float .f32 0, .float .f32 0, .int .i64 0, .float .f32 0, .float .f32 0, .float .f32 0, .float .f32 0, .float .f32 0, .float .f32 0, .float .f32 0] 67) := ⟨_, rfl⟩
  rw [← hW] at F ⊢
  have hz : W.heap.size = w.heap.size + 1 := by rw [hW]; simp
  clear hW
  have HZ := hid hz; clear hz
  have G := F.drewN 1
  have hle : le w (W.drewN 1) := G.below
  have hRw : ∀ w1, (outX w.heap.size 67 18 (FinC w.heap.size x nx y ny (fun s1 t1 => #[s1, .int .i64 j, t1, .int .i64 k, .int .i64 fk, .float .f32 a, .float .f32 b, .float .f32 c, .float .f32 p, .float .f32 q, .int .i64 gk, .float .f32 a2, .float .f32 b2, .float .f32 c2, .float .f32 p2, .float .f32 q2, .float .f32 m, .float .f32 o])) (FinC_le _ _ _ _ _ _)).R (W.drewN 1) w1 → Row w1 g0 67 #[s, .int .i64 j, t, .int .i64 k, .int .i64 fk, .float .f32 a, .float .f32 b, .float .f32 c, .float .f32 p, .float .f32 q, .int .i64 gk, .float .f32 a2, .float .f32 b2, .float .f32 c2, .float .f32 p2, .float .f32 q2, .float .f32 m, .float .f32 o] := fun w1 h1 => h1.1.row (HR.out.le hle) (by omega)
  have hSw : ∀ w1, (outX w.heap.size 67 18 (FinC w.heap.size x nx y ny (fun s1 t1 => #[s1, .int .i64 j, t1, .int .i64 k, .int .i64 fk, .float .f32 a, .float .f32 b, .float .f32 c, .float .f32 p, .float .f32 q, .int .i64 gk, .float .f32 a2, .float .f32 b2, .float .f32 c2, .float .f32 p2, .float .f32 q2, .float .f32 m, .float .f32 o])) (FinC_le _ _ _ _ _ _)).R (W.drewN 1) w1 → RdS w1 B s x nx := fun w1 h1 => HS.out.chgG hle h1.1
  have hTw : ∀ w1, (outX w.heap.size 67 18 (FinC w.heap.size x nx y ny (fun s1 t1 => #[s1, .int .i64 j, t1, .int .i64 k, .int .i64 fk, .float .f32 a, .float .f32 b, .float .f32 c, .float .f32 p, .float .f32 q, .int .i64 gk, .float .f32 a2, .float .f32 b2, .float .f32 c2, .float .f32 p2, .float .f32 q2, .float .f32 m, .float .f32 o])) (FinC_le _ _ _ _ _ _)).R (W.drewN 1) w1 → RdS w1 B t y ny := fun w1 h1 => HT.out.chgG hle h1.1
  have HRw := hid hRw; have HSw := hid hSw; have HTw := hid hTw; clear hRw hSw hTw
  refine region_freeZ (E := outX w.heap.size 67 18 (FinC w.heap.size x nx y ny (fun s1 t1 => #[s1, .int .i64 j, t1, .int .i64 k, .int .i64 fk, .float .f32 a, .float .f32 b, .float .f32 c, .float .f32 p, .float .f32 q, .int .i64 gk, .float .f32 a2, .float .f32 b2, .float .f32 c2, .float .f32 p2, .float .f32 q2, .float .f32 m, .float .f32 o])) (FinC_le _ _ _ _ _ _)) (fun _ args z w1 v => (args = #[.pointer (some ⟨g0, 0, none⟩)] → Cp w.heap.size x nx j z w1 v) ∧ (args = #[.pointer (some ⟨g0, 2, none⟩)] → Cp w.heap.size y ny k z w1 v)) (by kernel_rfl) (by kernel_rfl) ?_
  refine wpFreeZ_one rfl (.pointer (some ⟨g0, 0, none⟩)) (fun w1 _ => by kernel_rfl) ?_
  simp only [Act.put, List.setIfInBounds_toArray, List.set_cons_succ, List.set_cons_zero]
  refine wpFreeZ_one rfl (.pointer (some ⟨g0, 0, none⟩)) (fun w1 _ => by kernel_rfl) ?_
  simp only [Act.put, List.setIfInBounds_toArray, List.set_cons_succ, List.set_cons_zero]
  refine wpFreeZ_one rfl (.pointer (some ⟨g0, 0, none⟩)) (fun w1 _ => by kernel_rfl) ?_
  simp only [Act.put, List.setIfInBounds_toArray, List.set_cons_succ, List.set_cons_zero]
  refine wpFreeZ_callW (by kernel_rfl) rfl Try.func110 (by kernel_rfl) (by kernel_rfl) (args := #[.pointer (some ⟨g0, 0, none⟩)]) (by simp [Act.eval]) (fun z v w1 w2 hw hv => ⟨fun e => cp_outX (hv.1 e) hw, fun e => cp_outX (hv.2 e) hw⟩) (fun w1 hw1 hbe => ?_) ?_
  · refine (s_l02Copy B s x nx j g0 0 w1 (HSw.out w1 hw1) ((HRw.out w1 hw1).cell? 0) ((HRw.out w1 hw1).cell? 1) hx.1 hx.2).mono ?_
    rintro e w2 ⟨s1, rfl, ho, hl⟩
    refine ⟨_, rfl, hl, fun _ => Cp.mk ho hx.1 (by have := hw1.1.size; have e0 : (W.drewN 1).heap.size = W.heap.size := rfl; have := HZ.out; omega), fun e => absurd e (by simp)⟩
  rintro v0 ⟨z, wv, _, hv⟩
  obtain ⟨s1, _, rfl, ho, _⟩ := hv.1 rfl
  have os := hid (own_one ho)
  clear hv ho
  simp only [Act.put, List.setIfInBounds_toArray, List.set_cons_succ, List.set_cons_zero]
  refine wpFreeZ_one rfl (.pointer (some ⟨g0, 0, none⟩)) (fun w1 _ => by kernel_rfl) ?_
  simp only [Act.put, List.setIfInBounds_toArray, List.set_cons_succ, List.set_cons_zero]
  refine wpFreeZ_one rfl (.pointer (some ⟨g0, 0, none⟩)) (fun w1 _ => by kernel_rfl) ?_
  simp only [Act.put, List.setIfInBounds_toArray, List.set_cons_succ, List.set_cons_zero]
  refine wpFreeZ_one rfl (.pointer (some ⟨g0, 2, none⟩)) (fun w1 _ => by kernel_rfl) ?_
  simp only [Act.put, List.setIfInBounds_toArray, List.set_cons_succ, List.set_cons_zero]
  refine wpFreeZ_callW (by kernel_rfl) rfl Try.func110 (by kernel_rfl) (by kernel_rfl) (args := #[.pointer (some ⟨g0, 2, none⟩)]) (by simp [Act.eval]) (fun z v w1 w2 hw hv => ⟨fun e => cp_outX (hv.1 e) hw, fun e => cp_outX (hv.2 e) hw⟩) (fun w1 hw1 hbe => ?_) ?_
  · refine (s_l02Copy B t y ny k g0 2 w1 (HTw.out w1 hw1) ((HRw.out w1 hw1).cell? 2) ((HRw.out w1 hw1).cell? 3) hy.1 hy.2).mono ?_
    rintro e w2 ⟨s1, rfl, ho, hl⟩
    refine ⟨_, rfl, hl, fun e => absurd e (by simp), fun _ => Cp.mk ho hy.1 (by have := hw1.1.size; have e0 : (W.drewN 1).heap.size = W.heap.size := rfl; have := HZ.out; omega)⟩
  rintro v2 ⟨z, wv, _, hv⟩
  obtain ⟨t1, _, rfl, ho, _⟩ := hv.2 rfl
  have ot := hid (own_one ho)
  clear hv ho
  simp only [Act.put, List.setIfInBounds_toArray, List.set_cons_succ, List.set_cons_zero]
  refine wpFreeZ_one rfl (.pointer (some ⟨g0, 0, none⟩)) (fun w1 _ => by kernel_rfl) ?_
  simp only [Act.put, List.setIfInBounds_toArray, List.set_cons_succ, List.set_cons_zero]
  refine wpFreeZ_one rfl (.pointer (some ⟨g0, 0, none⟩)) (fun w1 _ => by kernel_rfl) ?_
  simp only [Act.put, List.setIfInBounds_toArray, List.set_cons_succ, List.set_cons_zero]
  refine wpFreeZ_one rfl (.pointer (some ⟨g0, 4, none⟩)) (fun w1 _ => by kernel_rfl) ?_
  simp only [Act.put, List.setIfInBounds_toArray, List.set_cons_succ, List.set_cons_zero]
  refine wpFreeZ_loadW rfl rfl rfl [.int .i64 fk, .float .f32 a, .float .f32 b, .float .f32 c, .float .f32 p, .float .f32 q] (fun w1 h1 => Row.at_part (HRw.out w1 h1) (partJet_Low (s) (.int .i64 j) (t) (.int .i64 k) (.int .i64 fk) (.float .f32 a) (.float .f32 b) (.float .f32 c) (.float .f32 p) (.float .f32 q) (.int .i64 gk) (.float .f32 a2) (.float .f32 b2) (.float .f32 c2) (.float .f32 p2) (.float .f32 q2) (.float .f32 m) (.float .f32 o))) Try.underlying29 rfl uinfoFilterI rfl ?_
  simp only [Act.put, List.setIfInBounds_toArray, List.set_cons_succ, List.set_cons_zero]
  refine wpFreeZ_one rfl (.pointer (some ⟨g0, 0, none⟩)) (fun w1 _ => by kernel_rfl) ?_
  simp only [Act.put, List.setIfInBounds_toArray, List.set_cons_succ, List.set_cons_zero]
  refine wpFreeZ_one rfl (.pointer (some ⟨g0, 0, none⟩)) (fun w1 _ => by kernel_rfl) ?_
  simp only [Act.put, List.setIfInBounds_toArray, List.set_cons_succ, List.set_cons_zero]
  refine wpFreeZ_one rfl (.pointer (some ⟨g0, 10, none⟩)) (fun w1 _ => by kernel_rfl) ?_
  simp only [Act.put, List.setIfInBounds_toArray, List.set_cons_succ, List.set_cons_zero]
  refine wpFreeZ_loadW rfl rfl rfl [.int .i64 gk, .float .f32 a2, .float .f32 b2, .float .f32 c2, .float .f32 p2, .float .f32 q2] (fun w1 h1 => Row.at_part (HRw.out w1 h1) (partJet_Dc (s) (.int .i64 j) (t) (.int .i64 k) (.int .i64 fk) (.float .f32 a) (.float .f32 b) (.float .f32 c) (.float .f32 p) (.float .f32 q) (.int .i64 gk) (.float .f32 a2) (.float .f32 b2) (.float .f32 c2) (.float .f32 p2) (.float .f32 q2) (.float .f32 m) (.float .f32 o))) Try.underlying29 rfl uinfoFilterI rfl ?_
  simp only [Act.put, List.setIfInBounds_toArray, List.set_cons_succ, List.set_cons_zero]
  refine wpFreeZ_one rfl (.pointer (some ⟨g0, 0, none⟩)) (fun w1 _ => by kernel_rfl) ?_
  simp only [Act.put, List.setIfInBounds_toArray, List.set_cons_succ, List.set_cons_zero]
  refine wpFreeZ_one rfl (.pointer (some ⟨g0, 0, none⟩)) (fun w1 _ => by kernel_rfl) ?_
  simp only [Act.put, List.setIfInBounds_toArray, List.set_cons_succ, List.set_cons_zero]
  refine wpFreeZ_one rfl (.pointer (some ⟨g0, 16, none⟩)) (fun w1 _ => by kernel_rfl) ?_
  simp only [Act.put, List.setIfInBounds_toArray, List.set_cons_succ, List.set_cons_zero]
  refine wpFreeZ_load1 rfl rfl rfl (p := ⟨g0, 16, none⟩) (fun w1 h1 => (HRw.out w1 h1).cell? 16) ukindFloat32 ?_
  simp only [Act.put, List.setIfInBounds_toArray, List.set_cons_succ, List.set_cons_zero]
  refine wpFreeZ_one rfl (.pointer (some ⟨g0, 0, none⟩)) (fun w1 _ => by kernel_rfl) ?_
  simp only [Act.put, List.setIfInBounds_toArray, List.set_cons_succ, List.set_cons_zero]
  refine wpFreeZ_one rfl (.pointer (some ⟨g0, 0, none⟩)) (fun w1 _ => by kernel_rfl) ?_
  simp only [Act.put, List.setIfInBounds_toArray, List.set_cons_succ, List.set_cons_zero]
  refine wpFreeZ_one rfl (.pointer (some ⟨g0, 17, none⟩)) (fun w1 _ => by kernel_rfl) ?_
  simp only [Act.put, List.setIfInBounds_toArray, List.set_cons_succ, List.set_cons_zero]
  refine wpFreeZ_load1 rfl rfl rfl (p := ⟨g0, 17, none⟩) (fun w1 h1 => (HRw.out w1 h1).cell? 17) ukindFloat32 ?_
  simp only [Act.put, List.setIfInBounds_toArray, List.set_cons_succ, List.set_cons_zero]
  refine wpFreeZ_carry rfl (.agg #[s1, .int .i64 j, t1, .int .i64 k, .int .i64 fk, .float .f32 a, .float .f32 b, .float .f32 c, .float .f32 p, .float .f32 q, .int .i64 gk, .float .f32 a2, .float .f32 b2, .float .f32 c2, .float .f32 p2, .float .f32 q2, .float .f32 m, .float .f32 o]) (fun w1 _ => by kernel_rfl) (Two (w.heap.size + 1) x nx y ny s1 t1) (fun w1 w2 hw hv => two_outX hv hw) (fun w1 hw1 ⟨zs, hf, hc⟩ => ?_) ?_
  · refine Cp.two hx.1 hy.1 (F := _) (((hf ⟨3, Ground.data⟩ (by simp) (by kernel_rfl)).1.1.1.1.1.1.1.1.1.1.1.1.1.1.1.1.1.1.1.1.2 rfl).1 trivial) (((hf ⟨7, Ground.data⟩ (by simp) (by kernel_rfl)).1.1.1.1.1.1.1.1.1.1.1.1.1.1.1.1.2 rfl).2 trivial) (hc ⟨3, Ground.data⟩ (by simp) (by kernel_rfl) ⟨7, Ground.data⟩ (by simp) (by kernel_rfl) (by decide)) (fun w2 h => (h.1.1.1.1.1.1.1.1.1.1.1.1.1.1.1.1.1.1.1.1.2 rfl).1 trivial) (fun w2 h => (h.1.1.1.1.1.1.1.1.1.1.1.1.1.1.1.1.2 rfl).2 trivial)
  simp only [Act.put, List.setIfInBounds_toArray, List.set_cons_succ, List.set_cons_zero]
  refine wpFreeZ_out rfl rfl rfl (cells := #[s1, .int .i64 j, t1, .int .i64 k, .int .i64 fk, .float .f32 a, .float .f32 b, .float .f32 c, .float .f32 p, .float .f32 q, .int .i64 gk, .float .f32 a2, .float .f32 b2, .float .f32 c2, .float .f32 p2, .float .f32 q2, .float .f32 m, .float .f32 o]) rfl rfl (G.row m0) rfl (fun w1 w2 hw ⟨zs, hf, hc⟩ hch => ⟨s1, t1, rfl, (((hf ⟨24, Ground.data⟩ (by simp) (by kernel_rfl)).2 rfl).chg hch).lo (by omega)⟩) uinfoJetI rfl (by simp only [List.all_toArray, List.all_cons, List.all_nil, os.out, ot.out]; rfl) ?_
  refine wpFreeZ_nil (fun w3 zs hw3 hF _ => ?_)
  obtain ⟨cs, hr, s2, t2, rfl, h2⟩ := (hF 25).2 rfl
  have hlw : le w w3 := G.below.trans (hw3.1.below (B := w.heap.size) (fun k e => by omega) (by have e0 : (W.drewN 1).heap.size = W.heap.size := rfl; have := HZ.out; omega))
  go_wp2
  exact bodyPost_ret (results_row1 rfl _ _ _ _ _ rfl hr Try.underlying67 rfl uinfoJetI) rfl ⟨s2, t2, rfl, h2, hlw⟩
end Go.Proofs.Ytgjdmoenobacgaa

/- A bow's meeting of waves, in the model. -/
namespace Go.Fk
open Go Go.RowKit
/-- What comes from the bridge, from the neck, and the difference of speeds. -/
def uBow (l a b c p q y : Nat) : Nat := can .f32 (neg .f32 (fop .mul .f32 l (outF 1 a b c p q y)))
def vBow (x : Nat) : Nat := can .f32 (neg .f32 x)
def dBow (sp u v : Nat) : Nat := fop .sub .f32 sp (fop .add .f32 u v)
theorem chg_updB {g : Nat} {w w' : World} (h : Upd g w w') : Chg (· = g) w w' := ⟨h.os, h.tape, h.output, h.size, fun k hk hn => h.block k hk hn⟩
end Go.Fk
namespace Go.Proofs.Ytgjdmoenobacgaa
open Go.RowKit Go.Fk
theorem inBow (s t : Value) (j k : Nat) (a b c p q m l : Nat) : FilIn #[s, .int .i64 (j : Nat), t, .int .i64 (k : Nat), .int .i64 1, .float .f32 a, .float .f32 b, .float .f32 c, .float .f32 p, .float .f32 q, .float .f32 m, .float .f32 l] 4 1 a b c p q := ⟨rfl, rfl, rfl, rfl, rfl, rfl⟩
set_option maxRecDepth 100000 in
set_option maxHeartbeats 4000000 in
theorem s_l05Draw (x y : Nat → Nat) (nx ny j k a b c p q m l sp : Nat) (s t : Value) (lo hi lo2 hi2 g : Nat) (w : World)
    (R : Row w g 31 #[s, .int .i64 (j : Nat), t, .int .i64 (k : Nat), .int .i64 1, .float .f32 a, .float .f32 b, .float .f32 c, .float .f32 p, .float .f32 q, .float .f32 m, .float .f32 l])
    (O1 : OwnS w lo hi s x nx) (O2 : OwnS w lo2 hi2 t y ny) (hj : j < nx) (hk : k < ny) (n1 : nx ≤ 1024) (n2 : ny ≤ 1024) (g1 : ¬ (lo ≤ g ∧ g < hi)) (hv : okF 1 a b c p q = true) (hp : fits .f32 p) :
    Calls Try.prog 88 #[.pointer (some ⟨g, 0, none⟩), .float .f32 sp] w fun e w' => ∃ u v d, e = .returned (.tuple #[.float .f32 u, .float .f32 v, .float .f32 d]) ∧ can .f32 u = uBow l a b c p q (y k) ∧ can .f32 v = vBow (x j) ∧ can .f32 d = dBow sp (uBow l a b c p q (y k)) (vBow (x j)) ∧ fits .f32 u ∧ fits .f32 v ∧ fits .f32 d ∧
      Row w' g 31 #[s, .int .i64 (j : Nat), t, .int .i64 (k : Nat), .int .i64 1, .float .f32 a, .float .f32 b, .float .f32 c, .float .f32 (st0 1 a b c p q (y k)), .float .f32 (st1 1 a b c p q (y k)), .float .f32 m, .float .f32 l] ∧ Chg (· = g) w w' := by
  rcases O1 with ⟨rfl, h0⟩ | ⟨d1, o1, cap1, ds1, rfl, hc1, hm1, hb1, hb1', hrow1, hx1⟩
  · omega
  rcases O2 with ⟨rfl, h0⟩ | ⟨d2, o2, cap2, ds2, rfl, hc2, hm2, hb2, hb2', hrow2, hx2⟩
  · omega
  obtain ⟨yx, ex, fx, cx⟩ := hx1 j hj
  obtain ⟨yy, ey, fy, cy⟩ := hx2 k hk
  have c2 := R.cell? 2
  have c3 := R.cell? 3
  have cb : w.cell? ⟨d2, o2 + k, none⟩ = some (.float .f32 yy) := (hrow2.cell? (o2 + k)).trans ey
  have RR := hid R; have HR1 := hid hrow1; have HX := hid ex; have HC := hid cy; have HCX := hid cx; have HV := hid hv
  clear R hrow1 hrow2 hx1 hx2 ex ey cy cx hv
  unfold maxLen at hm1 hm2
  go_enter Try.func88, Try.ntmps88
  go_wp2_with fail
  refine wp_region_tail (fun _ _ _ => True) 15 (by kernel_rfl) (by kernel_rfl) ?_; simp only [List.take_succ_cons, List.take_zero, List.drop_succ_cons, List.drop_zero]
  repeat (first | (refine wpLoose_quiet rfl ?_; go_big_quiet_step (fail); refine wpQuiet_nil ?_) | (refine wpLoose_nilP rfl rfl rfl ?_; simp only [Act.put, List.setIfInBounds_toArray, List.set_cons_succ, List.set_cons_zero]))
  refine wpLoose_nil (fun m1 => ?_)
  clear c2 c3 cb
  have HCY : Hid (can .f32 yy = can .f32 (y k)) := by unfold Hid; rw [← HC.out, can_can]
  go_wp2_with (first | (with_reducible refine wpList_farith rfl rfl rfl rfl rfl ?_; intro r2 n2 hr2 hf2) | (go_at_call 120; ((with_reducible refine (s_StepAt 1 a b c p q yy g 4 _ _ _ HV.out (RR.out.drewN _) (inBow _ _ j k a b c p q m l) hp fy).mono ?_); rintro e w1 ⟨r1, rfl, hr1, fr1, hR1, hU1⟩; rw [st0_congr HCY.out, st1_congr HCY.out] at hR1; have R1 := hid (show Row w1 g 31 #[(.slice (some ⟨d1, o1, none⟩) nx cap1), .int .i64 (j : Nat), (.slice (some ⟨d2, o2, none⟩) ny cap2), .int .i64 (k : Nat), .int .i64 1, .float .f32 a, .float .f32 b, .float .f32 c, .float .f32 (st0 1 a b c p q (y k)), .float .f32 (st1 1 a b c p q (y k)), .float .f32 m, .float .f32 l] from by simpa using hR1); have HC1 := hid (hr1.trans (outF_congr HCY.out)); have U1 := hid (chg_updB hU1); have c11 := R1.out.cell? 11; have c0 := R1.out.cell? 0; have c1 := R1.out.cell? 1; have F1 := hid fr1; clear hR1 hr1 hU1)))
  have cbx : w1.cell? ⟨d1, o1 + j, none⟩ = some (.float .f32 yx) := ((U1.out.row (HR1.out.drewN _) (fun e => g1 (by subst e; exact ⟨hb1, hb1'⟩))).cell? (o1 + j)).trans HX.out
  refine wp_region_loose (fun _ _ _ => True) (by kernel_rfl) (by kernel_rfl) ?_
  repeat (first | (refine wpLoose_quiet rfl ?_; go_big_quiet_step (fail); refine wpQuiet_nil ?_) | (refine wpLoose_nilP rfl rfl rfl ?_; simp only [Act.put, List.setIfInBounds_toArray, List.set_cons_succ, List.set_cons_zero]))
  refine wpLoose_nil (fun m2 => ?_)
  go_wp2_with (first | (with_reducible refine wpList_farith (op := .add) rfl rfl rfl rfl rfl ?_; intro r3 n3 hr3 hf3) | (with_reducible refine wpList_farith (op := .sub) rfl rfl rfl rfl rfl ?_; intro r4 n4 hr4 hf4))
  go_ret3
  have e1 : can .f32 (neg .f32 r2) = uBow l a b c p q (y k) := neg_congr (hr2.out.trans ((fop_congr rfl (HC1.out.trans (can_outF _ _ _ _ _ _ _).symm)).trans (can_fop _ _ _ _).symm))
  have e2 : can .f32 (neg .f32 yx) = vBow (x j) := neg_congr (by rw [← HCX.out, can_can])
  have e3 : can .f32 (uBow l a b c p q (y k)) = uBow l a b c p q (y k) := can_can _ _
  have e4 : can .f32 (vBow (x j)) = vBow (x j) := can_can _ _
  refine ⟨_, _, _, rfl, e1, e2, ?_, fits_neg hf2.out, fits_neg fx, hf4.out, R1.out.le ?_, Chg.le ((Chg.of_le (le_drewN _ _)).trans U1.out) ?_⟩
  · exact hr4.out.trans (fop_congr rfl (hr3.out.trans ((fop_congr (e1.trans e3.symm) (e2.trans e4.symm)).trans (can_fop _ _ _ _).symm)))
  all_goals first | exact le_drewN _ _ | exact le_trans (le_drewN _ _) (le_drewN _ _) | exact le_trans (le_drewN _ _) (le_trans (le_drewN _ _) (le_drewN _ _)) | exact le_trans (le_drewN _ _) (le_trans (le_drewN _ _) (le_trans (le_drewN _ _) (le_drewN _ _)))
end Go.Proofs.Ytgjdmoenobacgaa

/- Copies of a Bow: the program's. -/
namespace Go.Proofs.Ytgjdmoenobacgaa
open Go.RowKit Go.Fk
set_option maxRecDepth 100000 in
set_option maxHeartbeats 4000000 in
theorem i_newDrawn (x y : Nat → Nat) (nx ny : Nat) (j k : Int) (fk : Int) (a b c p q : Nat) (m o : Nat) (B : Nat) (s t : Value) (w : World) (hs : RdS w B s x nx) (ht : RdS w B t y ny) (hx : 1 ≤ nx ∧ nx ≤ 1024) (hy : 1 ≤ ny ∧ ny ≤ 1024) (hk0 : 1 ≤ fk ∧ fk ≤ 5) :
    Calls Try.prog 78 #[.agg #[s, .int .i64 j, t, .int .i64 k, .int .i64 fk, .float .f32 a, .float .f32 b, .float .f32 c, .float .f32 p, .float .f32 q, .float .f32 m, .float .f32 o]] w fun e w' => ∃ g r s1 t1 b0 d0, e = .returned (.pointer (some ⟨g, 0, none⟩)) ∧ Row w' g 144 #[s1, .int .i64 j, t1, .int .i64 k, .int .i64 fk, .float .f32 a, .float .f32 b, .float .f32 c, .float .f32 p, .float .f32 q, .float .f32 m, .float .f32 o, .pointer (some ⟨r, 0, none⟩)] ∧ Row w' r 149 #[mdl fk a b c, .float .f32 p, .float .f32 q] ∧ OwnS w' b0 (b0 + 1) s1 x nx ∧ OwnS w' d0 (d0 + 1) t1 y ny ∧ b0 ≠ d0 ∧ w.heap.size ≤ b0 ∧ w.heap.size ≤ d0 ∧ b0 < r ∧ d0 < r ∧ r < g ∧ g < w'.heap.size ∧ le w w' := by
  have F := (Frg.nil w).box 31 #[s, .int .i64 j, t, .int .i64 k, .int .i64 fk, .float .f32 a, .float .f32 b, .float .f32 c, .float .f32 p, .float .f32 q, .float .f32 m, .float .f32 o]
  have HS := hid hs; have HT := hid ht; clear hs ht
  go_enter Try.func78, Try.ntmps78
  go_wp2_with fail
  obtain ⟨W, hW⟩ : ∃ W, W = w.alloc (.cells #[s, .int .i64 j, t, .int .i64 k, .int .i64 fk, .float .f32 a, .float .f32 b, .float .f32 c, .float .f32 p, .float .f32 q, .float .f32 m, .float .f32 o] 31) := ⟨_, rfl⟩
  rw [← hW] at F ⊢
  have hz : W.heap.size = w.heap.size + 1 := by rw [hW]; simp
  clear hW
  have HZ := hid hz; clear hz
  have G := F.drewN 1
  refine region_tailZ (E := leX) (fun _ args z w1 v => (args = #[.agg #[s, .int .i64 j]] → Cp w.heap.size x nx j z w1 v) ∧ (args = #[.agg #[t, .int .i64 k]] → Cp w.heap.size y ny k z w1 v)) 7 (by kernel_rfl) (by kernel_rfl) ?_
  simp only [List.take_succ_cons, List.take_zero, List.drop_succ_cons, List.drop_zero]
  refine wpFreeZ_one rfl (.pointer (some ⟨w.heap.size, 0, none⟩)) (fun w1 _ => by kernel_rfl) ?_
  simp only [Act.put, List.setIfInBounds_toArray, List.set_cons_succ, List.set_cons_zero]
  refine wpFreeZ_loadW rfl rfl rfl [s, .int .i64 j] (fun w1 h1 => Row.at_part ((G.row m0).le h1) (partBow_Neck (s) (.int .i64 j) (t) (.int .i64 k) (.int .i64 fk) (.float .f32 a) (.float .f32 b) (.float .f32 c) (.float .f32 p) (.float .f32 q) (.float .f32 m) (.float .f32 o))) Try.underlying25 rfl uinfoRingI rfl ?_
  simp only [Act.put, List.setIfInBounds_toArray, List.set_cons_succ, List.set_cons_zero]
  refine wpFreeZ_callW (by kernel_rfl) rfl Try.func84 (by kernel_rfl) (by kernel_rfl) (args := #[.agg #[s, .int .i64 j]]) (by simp [Act.eval]) (fun z v w1 w2 hw hv => ⟨fun e => (hv.1 e).le hw, fun e => (hv.2 e).le hw⟩) (fun w1 hw1 hbe => ?_) ?_
  · have hg : w.heap.size < w1.heap.size := by have h0 := hw1.size; have e0 : (W.drewN 1).heap.size = W.heap.size := rfl; have := HZ.out; omega
    refine (i_copied B s x nx _ w1 ((HS.out.le G.below).le hw1) hx.1 hx.2).mono ?_
    rintro e w2 ⟨s1, rfl, ho, hl⟩
    refine ⟨_, rfl, hl, fun e => ?_, fun e => ?_⟩
    · exact Cp.mk ho hx.1 hg
    · simp only [Array.mk.injEq, List.cons.injEq, Value.agg.injEq, Value.int.injEq, and_true, true_and] at e
      obtain ⟨e1, e2⟩ := e
      rw [e2]; exact Cp.mk (own_same HS.out (e1 ▸ HT.out) ho) hy.1 hg
  rintro v0 ⟨z, wv, _, hv⟩
  obtain ⟨s1, _, rfl, ho, _⟩ := hv.1 rfl
  have os := hid (own_one ho)
  clear hv ho
  simp only [Act.put, List.setIfInBounds_toArray, List.set_cons_succ, List.set_cons_zero]
  refine wpFreeZ_one rfl (.pointer (some ⟨w.heap.size, 2, none⟩)) (fun w1 _ => by kernel_rfl) ?_
  simp only [Act.put, List.setIfInBounds_toArray, List.set_cons_succ, List.set_cons_zero]
  refine wpFreeZ_loadW rfl rfl rfl [t, .int .i64 k] (fun w1 h1 => Row.at_part ((G.row m0).le h1) (partBow_Bridge (s) (.int .i64 j) (t) (.int .i64 k) (.int .i64 fk) (.float .f32 a) (.float .f32 b) (.float .f32 c) (.float .f32 p) (.float .f32 q) (.float .f32 m) (.float .f32 o))) Try.underlying25 rfl uinfoRingI rfl ?_
  simp only [Act.put, List.setIfInBounds_toArray, List.set_cons_succ, List.set_cons_zero]
  refine wpFreeZ_callW (by kernel_rfl) rfl Try.func84 (by kernel_rfl) (by kernel_rfl) (args := #[.agg #[t, .int .i64 k]]) (by simp [Act.eval]) (fun z v w1 w2 hw hv => ⟨fun e => (hv.1 e).le hw, fun e => (hv.2 e).le hw⟩) (fun w1 hw1 hbe => ?_) ?_
  · have hg : w.heap.size < w1.heap.size := by have h0 := hw1.size; have e0 : (W.drewN 1).heap.size = W.heap.size := rfl; have := HZ.out; omega
    refine (i_copied B t y ny _ w1 ((HT.out.le G.below).le hw1) hy.1 hy.2).mono ?_
    rintro e w2 ⟨s1, rfl, ho, hl⟩
    refine ⟨_, rfl, hl, fun e => ?_, fun e => ?_⟩
    · simp only [Array.mk.injEq, List.cons.injEq, Value.agg.injEq, Value.int.injEq, and_true, true_and] at e
      obtain ⟨e1, e2⟩ := e
      rw [e2]; exact Cp.mk (own_same HT.out (e1 ▸ HS.out) ho) hx.1 hg
    · exact Cp.mk ho hy.1 hg
  rintro v1 ⟨z, wv, _, hv⟩
  obtain ⟨t1, _, rfl, ho, _⟩ := hv.2 rfl
  have ot := hid (own_one ho)
  clear hv ho
  simp only [Act.put, List.setIfInBounds_toArray, List.set_cons_succ, List.set_cons_zero]
  refine wpFreeZ_one rfl (.pointer (some ⟨w.heap.size, 0, none⟩)) (fun w1 _ => by kernel_rfl) ?_
  simp only [Act.put, List.setIfInBounds_toArray, List.set_cons_succ, List.set_cons_zero]
  refine wpFreeZ_nil (fun w3 zs hw3 hF hc => ?_)
  obtain ⟨b0, d0, O1, O2, hne, l1, l2, l3, l4⟩ := Cp.two hx.1 hy.1 (F := _) (((hF 2).1.1.1.1.2 rfl).1 trivial) (((hF 5).1.2 rfl).2 trivial) (hc 2 5 (by decide)) (fun w2 h => (h.1.1.1.1.2 rfl).1 trivial) (fun w2 h => (h.1.2 rfl).2 trivial)
  clear hF hc
  have R3 := (G.row m0).le hw3
  have A3 := hid (G.below)
  have h3 := hid hw3; clear hw3 G F
  refine wpList_storeP rfl rfl rfl (f := 0) (cells := [s1, .int .i64 j]) rfl R3 uinfoRingI (by simp) (one_head os.out rfl) (fun w4 K4 => ?_)
  simp only [Act.put, List.setIfInBounds_toArray, List.set_cons_succ, List.set_cons_zero]
  have C4 : Chg (· = w.heap.size) w3 w4 := (Chg.refl _ _).wrote K4 rfl
  have R4 : Row w4 w.heap.size 31 #[s1, .int .i64 j, t, .int .i64 k, .int .i64 fk, .float .f32 a, .float .f32 b, .float .f32 c, .float .f32 p, .float .f32 q, .float .f32 m, .float .f32 o] := K4.row
  clear K4 R3
  go_wp2_with (with_reducible refine stop_store rfl ?_)
  show wpList _ _ _ _ _ _
  refine wpList_storeP rfl rfl rfl (f := 2) (cells := [t1, .int .i64 k]) rfl R4 uinfoRingI (by simp) (one_head ot.out rfl) (fun w5 K5 => ?_)
  have C5 : Chg (· = w.heap.size) w3 w5 := C4.wrote K5 rfl
  have R5 := hid (show Row w5 w.heap.size 31 #[s1, .int .i64 j, t1, .int .i64 k, .int .i64 fk, .float .f32 a, .float .f32 b, .float .f32 c, .float .f32 p, .float .f32 q, .float .f32 m, .float .f32 o] from K5.row)
  clear K5 R4 C4
  have P1 := hid (O1.chgS C5 (fun i h1 h2 e => by omega))
  have P2 := hid (O2.chgS C5 (fun i h1 h2 e => by omega))
  have B5 : le w w5 := A3.out.trans ((Chg.trans (Chg.of_le h3.out) C5).below (B := w.heap.size) (fun k e => by omega) (by have e0 : (W.drewN 1).heap.size = W.heap.size := rfl; have := HZ.out; omega))
  have z5 := C5.size
  clear O1 O2 C5
  go_wp2_with fail
  refine region_tailZ (E := leX) (fun _ args z w1 v => (args = #[(.agg #[.int .i64 fk, .float .f32 a, .float .f32 b, .float .f32 c, .float .f32 p, .float .f32 q])] → ∃ r, v = .pointer (some ⟨r, 0, none⟩) ∧ z ≤ r ∧ w5.heap.size ≤ r ∧ Row w1 r 149 #[mdl fk a b c, .float .f32 p, .float .f32 q])) 4 (by kernel_rfl) (by kernel_rfl) ?_
  simp only [List.take_succ_cons, List.take_zero, List.drop_succ_cons, List.drop_zero]
  refine wpFreeZ_loadW rfl rfl rfl [s1, .int .i64 j, t1, .int .i64 k, .int .i64 fk, .float .f32 a, .float .f32 b, .float .f32 c, .float .f32 p, .float .f32 q, .float .f32 m, .float .f32 o] (fun w1 h1 => Row.at_all ((R5.out.drewN 1).le h1)) Try.underlying31 rfl uinfoBowI rfl ?_
  simp only [Act.put, List.setIfInBounds_toArray, List.set_cons_succ, List.set_cons_zero]
  refine wpFreeZ_one rfl (.pointer (some ⟨w.heap.size, 4, none⟩)) (fun w1 _ => by kernel_rfl) ?_
  simp only [Act.put, List.setIfInBounds_toArray, List.set_cons_succ, List.set_cons_zero]
  refine wpFreeZ_loadW rfl rfl rfl [.int .i64 fk, .float .f32 a, .float .f32 b, .float .f32 c, .float .f32 p, .float .f32 q] (fun w1 h1 => Row.at_part ((R5.out.drewN 1).le h1) (partBow_Damp (s1) (.int .i64 j) (t1) (.int .i64 k) (.int .i64 fk) (.float .f32 a) (.float .f32 b) (.float .f32 c) (.float .f32 p) (.float .f32 q) (.float .f32 m) (.float .f32 o))) Try.underlying29 rfl uinfoFilterI rfl ?_
  simp only [Act.put, List.setIfInBounds_toArray, List.set_cons_succ, List.set_cons_zero]
  refine wpFreeZ_callW (by kernel_rfl) rfl Try.func115 (by kernel_rfl) (by kernel_rfl) (args := #[(.agg #[.int .i64 fk, .float .f32 a, .float .f32 b, .float .f32 c, .float .f32 p, .float .f32 q])]) (by simp [Act.eval]) (fun z v w1 w2 hw hv e => (hv e).imp fun r ⟨e1, e2, e4, e3⟩ => ⟨e1, e2, e4, e3.le hw⟩) (fun w1 hw1 hbe => ?_) ?_
  · refine (i_newRunner fk a b c p q w1 hk0).mono ?_
    rintro e w2 ⟨r, rfl, hr, hR, hl⟩
    exact ⟨_, rfl, hl, fun _ => ⟨r, rfl, hr, Nat.le_trans (Nat.le_trans (Nat.le_refl _) hw1.size) hr, hR⟩⟩
  rintro v2 ⟨z, wv, _, hv⟩
  obtain ⟨r, rfl, _⟩ := hv rfl
  clear hv
  simp only [Act.put, List.setIfInBounds_toArray, List.set_cons_succ, List.set_cons_zero]
  refine wpFreeZ_nil (fun w6 zs hw6 hF hc => ?_)
  obtain ⟨r', er, hz0, hr0, hR0⟩ := ((hF 3).2 rfl) trivial
  obtain rfl : r = r' := by simpa using er
  clear er
  clear hF hc
  have B6 : le w5 w6 := le_trans (le_drewN _ _) hw6
  have Q1 := hid (P1.out.le B6); have Q2 := hid (P2.out.le B6)
  have Q3 := hid hR0; have hl0 := hR0.lt
  clear hw6 hR0 R5 P1 P2
  go_wp2
  go_ret
  exact ⟨w6.heap.size, r, s1, t1, b0, d0, rfl, Row.new _ _ _, Q3.out.le (le_alloc _ _), Q1.out.le (le_alloc _ _), Q2.out.le (le_alloc _ _), hne, by omega, by omega, by omega, by omega, hl0, by simp, le_trans B5 (le_trans B6 (le_alloc _ _))⟩
end Go.Proofs.Ytgjdmoenobacgaa

/- Results of a Bow, as trees. -/
namespace Go.Fk
open Go Go.RowKit
def cdBow (x y : Nat → Nat) (nx ny : Nat) (j k : Int) (fk : Int) (a b c p q : Nat) (m o : Nat) : List CD := [.sl 1 nx (fun i => .fcn .f32 (x i)), .int .i64 j, .sl 1 ny (fun i => .fcn .f32 (y i)), .int .i64 k, .int .i64 fk, .flt .f32 a, .flt .f32 b, .flt .f32 c, .flt .f32 p, .flt .f32 q, .flt .f32 m, .flt .f32 o]
end Go.Fk
namespace Go.Proofs.Ytgjdmoenobacgaa
open Go.RowKit Go.Fk
theorem cdBow_sh (x y : Nat → Nat) (nx ny : Nat) (j k : Int) (fk : Int) (a b c p q : Nat) (m o : Nat) : ShOkL shBow (cdBow x y nx ny j k fk a b c p q m o) :=
  (ShOkL.cons ⟨_, _, rfl, fun i hi j hj => by obtain rfl : j = 0 := (by omega); rfl⟩ (ShOkL.cons ⟨_, rfl⟩ (ShOkL.cons ⟨_, _, rfl, fun i hi j hj => by obtain rfl : j = 0 := (by omega); rfl⟩ (ShOkL.cons ⟨_, rfl⟩ (ShOkL.cons ⟨_, rfl⟩ (ShOkL.cons rfl (ShOkL.cons rfl (ShOkL.cons rfl (ShOkL.cons rfl (ShOkL.cons rfl (ShOkL.cons rfl (ShOkL.cons rfl ShOkL.nil))))))))))))
theorem cdBow_sz (x y : Nat → Nat) (nx ny : Nat) (j k : Int) (fk : Int) (a b c p q : Nat) (m o : Nat) : szL (cdBow x y nx ny j k fk a b c p q m o) = nx + ny := by
  have e1 := CD.sz_flts (n := nx) (x := fun i => CD.fcn .f32 (x i)) (fun i _ => rfl)
  have e2 := CD.sz_flts (n := ny) (x := fun i => CD.fcn .f32 (y i)) (fun i _ => rfl)
  simp only [cdBow, szL, List.map_cons, List.map_nil, List.sum_cons, List.sum_nil, e1, e2]
  simp [CD.sz]
theorem layBow (x y : Nat → Nat) (nx ny : Nat) (j k : Int) (fk : Int) (a b c p q : Nat) (m o : Nat) {lo : Nat} {s t : Value} {w : World} (h : Two lo x nx y ny s t w) (wi : (Lit.int .i64 j).wf = true ∧ (Lit.int .i64 k).wf = true ∧ (Lit.int .i64 fk).wf = true) (hf : fits .f32 a ∧ fits .f32 b ∧ fits .f32 c ∧ fits .f32 p ∧ fits .f32 q ∧ fits .f32 m ∧ fits .f32 o) : LayL w (rng lo w.heap.size) (cdBow x y nx ny j k fk a b c p q m o) [s, .int .i64 j, t, .int .i64 k, .int .i64 fk, .float .f32 a, .float .f32 b, .float .f32 c, .float .f32 p, .float .f32 q, .float .f32 m, .float .f32 o] := by
  obtain ⟨wj, wk, wfk⟩ := wi
  obtain ⟨fa, fb, fc, fp, fq, fm, fo⟩ := hf
  obtain ⟨bq, dq, h1, h2, h3, h4, h5, h6, h7⟩ := h
  have e1 : LayL w (rng dq (dq + 1)) ([.sl 1 ny (fun i => .fcn .f32 (y i)), .int .i64 k, .int .i64 fk, .flt .f32 a, .flt .f32 b, .flt .f32 c, .flt .f32 p, .flt .f32 q, .flt .f32 m, .flt .f32 o] : List CD) [t, .int .i64 k, .int .i64 fk, .float .f32 a, .float .f32 b, .float .f32 c, .float .f32 p, .float .f32 q, .float .f32 m, .float .f32 o] := LayL.cons h2.lay (LayL.leaf ⟨rfl, wk⟩ (LayL.leaf ⟨rfl, wfk⟩ (LayL.leaf ⟨rfl, fa⟩ (LayL.leaf ⟨rfl, fb⟩ (LayL.leaf ⟨rfl, fc⟩ (LayL.leaf ⟨rfl, fp⟩ (LayL.leaf ⟨rfl, fq⟩ (LayL.leaf ⟨rfl, fm⟩ (LayL.leaf ⟨rfl, fo⟩ (LayL.nil _ (fun _ => False))))))))))) (fun _ h => h) (fun _ h => h.elim) (fun _ _ h => h)
  exact LayL.cons (S1 := rng bq (bq + 1)) (S2 := rng dq (dq + 1)) h1.lay (LayL.leaf ⟨rfl, wj⟩ e1) (fun j h => ⟨Nat.le_trans h4 h.1, by have := h.2; omega⟩) (fun j h => ⟨Nat.le_trans h6 h.1, by have := h.2; omega⟩) (fun j h h2 => by have a1 := h.1; have a2 := h.2; have b1 := h2.1; have b2 := h2.2; omega)
theorem layBow0 (w : World) (S : Nat → Prop) : LayL w S (cdBow (fun _ => 0) (fun _ => 0) 0 0 0 0 0 0 0 0 0 0 0 0) [.slice none 0 0, .int .i64 0, .slice none 0 0, .int .i64 0, .int .i64 0, .float .f32 0, .float .f32 0, .float .f32 0, .float .f32 0, .float .f32 0, .float .f32 0, .float .f32 0] :=
  (LayL.leaf (.inl ⟨rfl, rfl⟩) (LayL.leaf ⟨rfl, by decide⟩ (LayL.leaf (.inl ⟨rfl, rfl⟩) (LayL.leaf ⟨rfl, by decide⟩ (LayL.leaf ⟨rfl, by decide⟩ (LayL.leaf ⟨rfl, by simp [fits, Lit.wf]⟩ (LayL.leaf ⟨rfl, by simp [fits, Lit.wf]⟩ (LayL.leaf ⟨rfl, by simp [fits, Lit.wf]⟩ (LayL.leaf ⟨rfl, by simp [fits, Lit.wf]⟩ (LayL.leaf ⟨rfl, by simp [fits, Lit.wf]⟩ (LayL.leaf ⟨rfl, by simp [fits, Lit.wf]⟩ (LayL.leaf ⟨rfl, by simp [fits, Lit.wf]⟩ (LayL.nil _ _)))))))))))))
theorem okBow_j {x y : Nat → Nat} {nx ny : Nat} {j k : Int} {fk : Int} {a b c p q : Nat} {m o : Nat} (h : okBow x y nx ny j k fk a b c p q m o = true) : 1 ≤ nx ∧ nx ≤ 1024 ∧ 1 ≤ ny ∧ ny ≤ 1024 ∧ (∃ i : Nat, j = i ∧ i < nx) ∧ (∃ i : Nat, k = i ∧ i < ny) ∧ fk = 1 ∧ okF 1 a b c p q = true := by
  unfold okBow at h
  simp only [Bool.and_eq_true, beq_iff_eq] at h
  obtain ⟨⟨⟨⟨⟨q0, q1⟩, q2⟩, q3⟩, q4⟩, q5⟩ := h
  obtain ⟨a1, a2, i, rfl, a3⟩ := rngB_j q2
  obtain ⟨b1, b2, i2, rfl, b3⟩ := rngB_j q3
  subst q0
  exact ⟨a1, a2, b1, b2, ⟨i, rfl, a3⟩, ⟨i2, rfl, b3⟩, rfl, q1⟩
end Go.Proofs.Ytgjdmoenobacgaa

/- The smaller of two floats, up to the bits of NaN. Nothing here names a program. -/
namespace Go.Fk
open Go Go.RowKit
/-- The smaller one. -/
def fmin (k : FloatKind) (x y : Nat) : Nat := match k.format.order x y with
  | none => qnan k
  | some .lt => x
  | some .gt => y
  | some .eq => if (k.decode x).neg then x else y
theorem nan_minmax (k : FloatKind) (b : Bool) (x y t : Nat) : isNan k (Question.cut (.nanMinMax k b x y) t) = true ∧ fits k (Question.cut (.nanMinMax k b x y) t) := by
  have := nan_bits k x y t
  cases k <;> exact this
section
variable {P : Program}
theorem run_min2 (k : FloatKind) (x y : Nat) (hx : fits k x) (hy : fits k y) (w : World) : ∃ r n, (Builtin.min2 (.float k x) (.float k y)).run P w = .ok (.float k r) (w.drewN n) ∧ Hid (can k r = can k (fmin k x y)) ∧ Hid (fits k r) := by
  cases h : k.format.order x y with
  | none =>
    refine ⟨(Question.nanMinMax k false x y).cut (w.tape w.drawn (.nanMinMax k false x y)), 1, ?_, ?_, (nan_minmax k false x y _).2⟩
    · simp [Builtin.min2, h, Question.forced]; rfl
    · show can k _ = can k _
      rw [can_of_nan (nan_minmax k false x y _).1]; simp only [fmin, h]; exact (can_qnan k).symm
  | some o =>
    cases o with
    | lt => exact ⟨x, 0, by simp [Builtin.min2, h]; rfl, by show can k _ = can k _; simp only [fmin, h], hx⟩
    | gt => exact ⟨y, 0, by simp [Builtin.min2, h]; rfl, by show can k _ = can k _; simp only [fmin, h], hy⟩
    | eq =>
      refine ⟨if (k.decode x).neg then x else y, 0, by simp [Builtin.min2, h]; rfl, by show can k _ = can k _; simp only [fmin, h], ?_⟩
      show fits k _
      split
      · exact hx
      · exact hy
theorem wpList_min {w : World} {ops : Array Oper} {rest : List Oper} {o : Oper} {a : Act} {Q : Exit → Act → World → Prop}
    (hg : o.guard = none) {x y : Operand} {ts : Array TypeId} (hop : o.op = Op.call { callee := Callee.builtin Builtin.min, args := #[x, y], argTypes := ts })
    {k : FloatKind} {p q : Nat} (hx : a.eval x = .float k p) (hy : a.eval y = .float k q) (fp : fits k p) (fq : fits k q)
    (hK : ∀ r n, Hid (can k r = can k (fmin k p q)) → Hid (fits k r) → wpList P ops Q rest (a.put o.dst (.float k r)) (w.drewN n)) : wpList P ops Q (o :: rest) a w := by
  refine wpList_plain hg fun K hK' => ?_
  obtain ⟨r, n, hrun, hr, hf⟩ := run_min2 (P := P) k p q fp fq w
  unfold Oper.wp
  simp [execOp, hop, hx, hy, Result.andThen, resolve, invoke, builtin, Builtin.min_, hrun]
  exact hK' _ _ (hK r n hr hf)
/-- An element of an array value. -/
theorem run_index_arrG (w : World) {t e : TypeId} {n k : Nat} {cs : Array Value} {v : Value} (h : P.underlying t = some (.array n e)) (ha : ∀ w, (isAgg e).run P w = .ok false w) (hs : (P.info? e).map (·.size) = some 1)
    (hk : k < n) (hc : cs[k]? = some v) (kk : IntKind) : (Instr.index t (.agg cs) (.int kk (k : Int))).run P w = .ok v w := by
  cases hq : P.info? e with
  | none => simp [hq] at hs
  | some i =>
    have hsz : i.size = 1 := by simpa [hq] using hs
    have h2 : (k : Int) < n := by omega
    simp [Instr.index, asIntOf, run_underlying h, sizeOf, typeInfo, hq, hsz, part, ha, h2, hc]
    exact fun h => by omega
theorem wpList_indexArr {w : World} {ops : Array Oper} {rest : List Oper} {o : Oper} {a : Act} {Q : Exit → Act → World → Prop}
    (hg : o.guard = none) {t : TypeId} {x y : Operand} (hop : o.op = .index t x y) {cs : Array Value} {kk : IntKind} {k : Nat} (hx : a.eval x = .agg cs) (hy : a.eval y = .int kk (k : Int)) {n : Nat} {e : TypeId} (hu : P.underlying t = some (.array n e)) (hs : (P.info? e).map (·.size) = some 1) (ha : ∀ w, (isAgg e).run P w = .ok false w) (hk : k < n) {v : Value} (hc : cs[k]? = some v)
    (h : wpList P ops Q rest (a.put o.dst v) w) : wpList P ops Q (o :: rest) a w := by
  refine wpList_plain hg fun K hK' => ?_
  unfold Oper.wp
  have := run_index_arrG (P := P) w hu ha hs hk hc kk
  simp [execOp, hop, hx, hy, this, Result.andThen]
  exact hK' _ _ h
end
end Go.Fk

/- Exactness: what a format has is written as it stands. Nothing here names a program. -/
namespace Go.Fk
open Go Go.RowKit

theorem cut_zero (s : Bool) (n : Nat) : Ieee.Toward.even.cut s n 0 = n := by
  simp [Ieee.Toward.cut, Nat.mod_one]

/-- What is cut off leaves nothing behind: the quotient. -/
theorem cut_exact (s : Bool) (n d : Nat) : Ieee.Toward.even.cut s (n * 2 ^ d) d = n := by
  by_cases hn : n = 0
  · subst hn
    have hp := Nat.two_pow_pos (min d (Nat.log2 0 + 2))
    simp only [Ieee.Toward.cut, Nat.zero_mul, Nat.one_shiftLeft, Nat.zero_div, Nat.zero_mod]
    simp
  · have h0 : n * 2 ^ d ≠ 0 := Nat.mul_ne_zero hn (Nat.ne_of_gt (Nat.two_pow_pos d))
    have hd : d ≤ (n * 2 ^ d).log2 := by
      refine (Nat.le_log2 h0).2 ?_
      exact Nat.le_mul_of_pos_left _ (by omega)
    have hp := Nat.two_pow_pos d
    simp only [Ieee.Toward.cut, Nat.one_shiftLeft]
    rw [Nat.min_eq_left (by omega), Nat.mul_div_cancel _ hp, Nat.mul_mod_left]
    simp

theorem cut_scale (s : Bool) (n d j : Nat) (hn : n ≠ 0) : Ieee.Toward.even.cut s (n * 2 ^ j) (d + j) = Ieee.Toward.even.cut s n d := by
  have hl : (n * 2 ^ j).log2 = n.log2 + j := by
    have h0 : n * 2 ^ j ≠ 0 := Nat.mul_ne_zero hn (Nat.ne_of_gt (Nat.two_pow_pos j))
    refine (Nat.log2_eq_iff h0).2 ⟨?_, ?_⟩
    · rw [Nat.pow_add]; exact Nat.mul_le_mul_right _ (Nat.log2_self_le hn)
    · rw [show n.log2 + j + 1 = (n.log2 + 1) + j by omega, Nat.pow_add]
      exact Nat.mul_lt_mul_of_pos_right Nat.lt_log2_self (Nat.two_pow_pos j)
  have hp := Nat.two_pow_pos j
  simp only [Ieee.Toward.cut, Nat.one_shiftLeft, hl]
  rw [show min (d + j) (n.log2 + j + 2) = min d (n.log2 + 2) + j by omega, Nat.pow_add, Nat.mul_div_mul_right _ _ hp, Nat.mul_mod_mul_right]
  generalize 2 ^ min d (n.log2 + 2) = g
  have e1 : decide (g * 2 ^ j < 2 * (n % g * 2 ^ j)) = decide (g < 2 * (n % g)) := by
    rw [← Nat.mul_assoc]
    exact decide_eq_decide.2 (Nat.mul_lt_mul_right hp)
  have e2 : (g * 2 ^ j == 2 * (n % g * 2 ^ j)) = (g == 2 * (n % g)) := by
    rw [← Nat.mul_assoc, Bool.eq_iff_iff, beq_iff_eq, beq_iff_eq]
    exact Nat.mul_left_inj (by omega)
  rw [e1, e2]

theorem log2_scale {n : Nat} (hn : n ≠ 0) (j : Nat) : (n * 2 ^ j).log2 = n.log2 + j := by
  have h0 : n * 2 ^ j ≠ 0 := Nat.mul_ne_zero hn (Nat.ne_of_gt (Nat.two_pow_pos j))
  refine (Nat.log2_eq_iff h0).2 ⟨?_, ?_⟩
  · rw [Nat.pow_add]; exact Nat.mul_le_mul_right _ (Nat.log2_self_le hn)
  · rw [show n.log2 + j + 1 = (n.log2 + 1) + j by omega, Nat.pow_add]
    exact Nat.mul_lt_mul_of_pos_right Nat.lt_log2_self (Nat.two_pow_pos j)

/-- What is written speaks of the number alone, not of how it is split. -/
theorem nearest_scale (f : Ieee.Format) (s : Bool) (m j : Nat) (e : Int) : f.nearest s (m * 2 ^ j) (e - j) = f.nearest s m e := by
  by_cases hm : m = 0
  · subst hm; simp [Ieee.Format.nearest]
  have h0 : m * 2 ^ j ≠ 0 := Nat.mul_ne_zero hm (Nat.ne_of_gt (Nat.two_pow_pos j))
  unfold Ieee.Format.nearest
  rw [if_neg hm, if_neg h0, log2_scale hm]
  rw [show e - (j : Int) + ((m.log2 + j : Nat) : Int) - f.fractionBits = e + m.log2 - f.fractionBits by omega]
  generalize max (e + (m.log2 : Int) - f.fractionBits) f.leastPlace = last
  dsimp only
  congr 3
  simp only [Nat.shiftLeft_eq]
  by_cases h1 : e ≤ last
  · rw [show (e - (j : Int) - last).toNat = 0 by omega, show (e - last).toNat = 0 by omega, show (last - (e - (j : Int))).toNat = (last - e).toNat + j by omega]
    simpa using cut_scale s m _ j hm
  · by_cases h2 : last ≤ e - j
    · rw [show (last - (e - (j : Int))).toNat = 0 by omega, show (last - e).toNat = 0 by omega, cut_zero, cut_zero, Nat.mul_assoc, ← Nat.pow_add,
        show j + (e - (j : Int) - last).toNat = (e - last).toNat by omega]
    · rw [show (e - (j : Int) - last).toNat = 0 by omega, show (last - e).toNat = 0 by omega, cut_zero, Nat.pow_zero, Nat.mul_one,
        show j = (e - last).toNat + (last - (e - (j : Int))).toNat by omega, Nat.pow_add, ← Nat.mul_assoc]
      rw [show (last - (e - (((e - last).toNat + (last - (e - (j : Int))).toNat : Nat) : Int))).toNat = (last - (e - (j : Int))).toNat by omega]
      exact cut_exact s _ _

/-- The place of the last digit that is kept. -/
def lastOf (f : Ieee.Format) (m : Nat) (e : Int) : Int := max (e + m.log2 - f.fractionBits) f.leastPlace

/-- A number that the format has is read as it was written, shifted to the format's own place. -/
theorem read_nearest (f : Ieee.Format) (s : Bool) (m : Nat) (e : Int) (hm : m ≠ 0) (hp : m.log2 ≤ f.fractionBits) (he : f.leastPlace ≤ e)
    (ho : e + m.log2 - f.fractionBits ≤ f.leastPlace + 2 ^ f.exponentBits - 3) (hx : 2 ≤ f.exponentBits) :
    f.read (f.nearest s m e) = .number s (m * 2 ^ (e - lastOf f m e).toNat) (lastOf f m e) ∧ f.nearest s m e % f.signWeight < f.infRung := by
  have hx4 : (4 : Int) ≤ 2 ^ f.exponentBits := by
    have h : 2 ^ 2 ≤ 2 ^ f.exponentBits := Nat.pow_le_pow_right (by omega) hx
    exact_mod_cast h
  have hb : f.binade = 2 ^ f.fractionBits := rfl
  have hbp : 0 < f.binade := by rw [hb]; exact Nat.two_pow_pos _
  have hl1 : lastOf f m e ≤ e := by unfold lastOf; omega
  have hl2 : f.leastPlace ≤ lastOf f m e := by unfold lastOf; omega
  have hl3 : lastOf f m e ≤ f.leastPlace + 2 ^ f.exponentBits - 3 := by unfold lastOf; omega
  have hlog : (m * 2 ^ (e - lastOf f m e).toNat).log2 = m.log2 + (e - lastOf f m e).toNat := log2_scale hm _
  have hM0 : m * 2 ^ (e - lastOf f m e).toNat ≠ 0 := Nat.mul_ne_zero hm (Nat.ne_of_gt (Nat.two_pow_pos _))
  have hM : m * 2 ^ (e - lastOf f m e).toNat < 2 * f.binade := by
    have h1 : m.log2 + (e - lastOf f m e).toNat ≤ f.fractionBits := by unfold lastOf; omega
    have := @Nat.lt_log2_self (m * 2 ^ (e - lastOf f m e).toNat)
    rw [hlog] at this
    calc _ < _ := this
      _ ≤ 2 ^ (f.fractionBits + 1) := Nat.pow_le_pow_right (by omega) (by omega)
      _ = 2 * f.binade := by rw [Nat.pow_succ, ← hb]; omega
  have hfull : f.leastPlace < lastOf f m e → f.binade ≤ m * 2 ^ (e - lastOf f m e).toNat := by
    intro h
    have h1 : m.log2 + (e - lastOf f m e).toNat = f.fractionBits := by unfold lastOf at h ⊢; omega
    have := Nat.log2_self_le hM0
    rw [hlog, h1, ← hb] at this
    exact this
  have hn : f.nearest s m e = f.word s (min ((lastOf f m e - f.leastPlace).toNat * f.binade + m * 2 ^ (e - lastOf f m e).toNat) f.infRung) := by
    unfold Ieee.Format.nearest
    rw [if_neg hm]
    show f.word s (min ((lastOf f m e - f.leastPlace).toNat * f.binade + Ieee.Toward.even.cut s (m <<< (e - lastOf f m e).toNat) (lastOf f m e - e).toNat) f.infRung) = _
    rw [show (lastOf f m e - e).toNat = 0 by omega, cut_zero, Nat.shiftLeft_eq]
  generalize hM' : m * 2 ^ (e - lastOf f m e).toNat = M at *
  generalize hq : (lastOf f m e - f.leastPlace).toNat = q at *
  have hq2 : q + 3 ≤ 2 ^ f.exponentBits := by
    have : (q : Int) + 3 ≤ ((2 ^ f.exponentBits : Nat) : Int) := by push_cast; omega
    exact_mod_cast this
  have hr : q * f.binade + M < f.infRung := by
    unfold Ieee.Format.infRung
    have h1 : (q + 2) * f.binade ≤ (2 ^ f.exponentBits - 1) * f.binade := Nat.mul_le_mul_right _ (by omega)
    rw [Nat.add_mul] at h1
    omega
  have hs : f.infRung < f.signWeight := Ieee.Format.infRung_lt _
  rw [Nat.min_eq_left (Nat.le_of_lt hr)] at hn
  rw [hn]
  have hmod := word_mod f s (r := q * f.binade + M) (by omega)
  refine ⟨?_, by rw [hmod]; exact hr⟩
  have hsg : (f.word s (q * f.binade + M) / f.signWeight % 2 == 1) = s := by
    unfold Ieee.Format.word
    cases s
    · simp [Nat.div_eq_of_lt (show q * f.binade + M < f.signWeight by omega)]
    · simp [Nat.add_div_left _ (show 0 < f.signWeight by omega), Nat.div_eq_of_lt (show q * f.binade + M < f.signWeight by omega)]
  unfold Ieee.Format.read
  simp only [hmod, hsg]
  by_cases hsub : q * f.binade + M < f.binade
  · rw [if_pos hsub]
    have hq0 : q = 0 := by
      apply Nat.eq_zero_of_not_pos
      intro h
      have : 1 * f.binade ≤ q * f.binade := Nat.mul_le_mul_right _ h
      omega
    rw [hq0]
    congr 1
    · simp
    · omega
  · rw [if_neg hsub, if_pos hr]
    have hMb : f.binade ≤ M := by
      by_cases h : f.leastPlace < lastOf f m e
      · exact hfull h
      · have : q = 0 := by omega
        rw [this] at hsub; omega
    have e1 : (q * f.binade + M) % f.binade = M - f.binade := by
      rw [Nat.mul_add_mod_self_right, Nat.mod_eq_sub_mod hMb, Nat.mod_eq_of_lt (by omega)]
    have e2 : (q * f.binade + M) / f.binade = q + 1 := by
      rw [Nat.mul_comm, Nat.mul_add_div hbp]
      congr 1
      rw [show M = f.binade + (M - f.binade) by omega, Nat.add_div_left _ hbp, Nat.div_eq_of_lt (by omega)]
    rw [e1, e2]
    congr 1
    · omega
    · omega

/-- What is read is written back. -/
theorem write_read (f : Ieee.Format) (hx : 2 ≤ f.exponentBits) (b : Nat) {s : Bool} {m : Nat} {e : Int} (h : f.read b = .number s m e) : f.nearest s m e = f.word s (b % f.signWeight) := by
  have hb : f.binade = 2 ^ f.fractionBits := rfl
  have hbp : 0 < f.binade := by rw [hb]; exact Nat.two_pow_pos _
  have hx4 : 4 ≤ 2 ^ f.exponentBits := Nat.pow_le_pow_right (n := 2) (by omega) hx
  have hinf : f.binade ≤ f.infRung := by
    unfold Ieee.Format.infRung
    exact Nat.le_mul_of_pos_left _ (by omega)
  unfold Ieee.Format.read at h
  dsimp only at h
  generalize b % f.signWeight = r at *
  split at h
  · rename_i h1
    simp only [Ieee.Datum.number.injEq] at h
    obtain ⟨_, rfl, rfl⟩ := h
    by_cases h0 : r = 0
    · subst h0; simp [Ieee.Format.nearest]
    · unfold Ieee.Format.nearest
      rw [if_neg h0]
      have h2 := h1
      rw [hb] at h2
      have := (Nat.log2_lt h0).2 h2
      rw [show max (f.leastPlace + (r.log2 : Int) - f.fractionBits) f.leastPlace = f.leastPlace by omega]
      simp only [Int.sub_self, Int.toNat_zero, Nat.shiftLeft_zero, cut_zero, Nat.zero_mul, Nat.zero_add]
      rw [Nat.min_eq_left (by omega)]
  · rename_i h1
    split at h
    · rename_i h2
      simp only [Ieee.Datum.number.injEq] at h
      obtain ⟨_, rfl, rfl⟩ := h
      have hlt := Nat.mod_lt r hbp
      have h0 : f.binade + r % f.binade ≠ 0 := by omega
      have e1 : (f.binade + r % f.binade).log2 = f.fractionBits := by
        refine (Nat.log2_eq_iff h0).2 ⟨?_, ?_⟩
        · rw [← hb]; omega
        · rw [Nat.pow_succ, ← hb]; omega
      have h3 : 1 ≤ r / f.binade := (Nat.le_div_iff_mul_le hbp).2 (by omega)
      unfold Ieee.Format.nearest
      rw [if_neg h0, e1]
      rw [show max (f.leastPlace + ((r / f.binade - 1 : Nat) : Int) + (f.fractionBits : Int) - f.fractionBits) f.leastPlace = f.leastPlace + ((r / f.binade - 1 : Nat) : Int) by omega]
      simp only [Int.sub_self, Int.toNat_zero, Nat.shiftLeft_zero, cut_zero]
      rw [show (f.leastPlace + ((r / f.binade - 1 : Nat) : Int) - f.leastPlace).toNat = r / f.binade - 1 by omega]
      have h4 : (r / f.binade - 1) * f.binade + (f.binade + r % f.binade) = r := by
        have h5 := Nat.div_add_mod r f.binade
        have h6 : (r / f.binade - 1) * f.binade + f.binade = r / f.binade * f.binade := by
          rw [← Nat.succ_mul]; congr 1; omega
        rw [Nat.mul_comm] at h5
        omega
      rw [h4, Nat.min_eq_left (by omega)]
    · split at h <;> cases h

theorem bits32 : FloatKind.f32.format.exponentBits = 8 ∧ FloatKind.f32.format.fractionBits = 23 ∧ FloatKind.f32.format.leastPlace = -149 ∧ FloatKind.f32.format.signWeight = 2147483648 ∧ FloatKind.f32.format.infRung = 2139095040 := by decide
theorem bits64 : FloatKind.f64.format.exponentBits = 11 ∧ FloatKind.f64.format.fractionBits = 52 ∧ FloatKind.f64.format.leastPlace = -1074 ∧ FloatKind.f64.format.signWeight = 9223372036854775808 ∧ FloatKind.f64.format.infRung = 9218868437227405312 := by decide

/-- What a narrow number's datum is made of. -/
theorem read32 {b : Nat} {s : Bool} {m : Nat} {e : Int} (h : FloatKind.f32.format.read b = .number s m e) : -149 ≤ e ∧ (m ≠ 0 → m.log2 ≤ 23 ∧ e + m.log2 + 1 ≤ 128) := by
  refine ⟨?_, fun h0 => ⟨?_, lt32 h h0⟩⟩
  all_goals
    have e1 : Ieee.single.signWeight = 2147483648 := by decide
    have e2 : Ieee.single.infRung = 2139095040 := by decide
    have e3 : Ieee.single.binade = 8388608 := by decide
    have e4 : Ieee.single.leastPlace = -149 := by decide
    simp only [FloatKind.format, Ieee.Format.read, e1, e2, e3, e4] at h
    split at h
    · simp only [Ieee.Datum.number.injEq] at h
      obtain ⟨_, rfl, rfl⟩ := h
      first | omega | (have : (b % 2147483648).log2 < 23 := (Nat.log2_lt h0).2 (by omega)
                       omega)
    · split at h
      · simp only [Ieee.Datum.number.injEq] at h
        obtain ⟨_, rfl, rfl⟩ := h
        first | omega | (have : (8388608 + b % 2147483648 % 8388608).log2 < 24 := (Nat.log2_lt h0).2 (by omega)
                         omega)
      · split at h <;> cases h

/-- A narrow number is widened exactly. -/
theorem read_widen {b : Nat} {s : Bool} {m : Nat} {e : Int} (h : FloatKind.f32.format.read b = .number s m e) :
    ∃ j : Nat, ∃ e', FloatKind.f64.format.read (widen b) = .number s (m * 2 ^ j) e' ∧ (m ≠ 0 → e' = e - j) ∧ widen b % 9223372036854775808 < 9218868437227405312 := by
  obtain ⟨b1, b2, b3, b4, b5⟩ := bits64
  obtain ⟨h1, h2⟩ := read32 h
  have hw : widen b = FloatKind.f64.format.nearest s m e := by simp only [widen, h]; rfl
  rw [hw]
  by_cases hm : m = 0
  · subst hm
    refine ⟨0, -1074, ?_, fun h => absurd rfl h, ?_⟩
    · cases s <;> simp [Ieee.Format.nearest, Ieee.Format.word] <;> decide
    · cases s <;> simp [Ieee.Format.nearest, Ieee.Format.word] <;> decide
  · obtain ⟨h3, h4⟩ := h2 hm
    obtain ⟨h5, h6⟩ := read_nearest FloatKind.f64.format s m e hm (by omega) (by omega) (by rw [b1, b2, b3]; omega) (by omega)
    rw [b4, b5] at h6
    refine ⟨_, _, h5, fun _ => ?_, h6⟩
    have : lastOf FloatKind.f64.format m e ≤ e := by unfold lastOf; omega
    omega
end Go.Fk
namespace Go.Fk
open Go Go.RowKit
theorem read_mod {k : FloatKind} {b : Nat} {s : Bool} {m : Nat} {e : Int} (h : k.format.read b = .number s m e) : k.format.read (b % k.format.signWeight) = .number false m e := by
  have hs : 0 < k.format.signWeight := by unfold Ieee.Format.signWeight; exact Nat.two_pow_pos _
  have e1 : (b % k.format.signWeight / k.format.signWeight % 2 == 1) = false := by
    rw [Nat.div_eq_of_lt (Nat.mod_lt _ hs)]; rfl
  unfold Ieee.Format.read at h ⊢
  dsimp only at h ⊢
  rw [e1, Nat.mod_mod]
  generalize b % k.format.signWeight = r at *
  split
  · rename_i h1
    rw [if_pos h1] at h
    simp only [Ieee.Datum.number.injEq] at h ⊢
    exact ⟨trivial, h.2⟩
  · rename_i h1
    rw [if_neg h1] at h
    split
    · rename_i h2
      rw [if_pos h2] at h
      simp only [Ieee.Datum.number.injEq] at h ⊢
      exact ⟨trivial, h.2⟩
    · rename_i h2
      rw [if_neg h2] at h
      split at h <;> cases h

/-- May be narrowed: what the language fixes, whole range. -/
def narrowableX (b : Nat) : Prop := ∀ s m e, FloatKind.f64.format.read b = .number s m e → (FloatKind.f32.decode (FloatKind.f32.encode (.number s m e))).isInfinity = false

/-- The size of a narrow number, by way of the wide ones. -/
theorem narrow_abs {b w : Nat} (hw : can .f64 w = can .f64 (widen b)) : narrowableX (w % 9223372036854775808) ∧ can .f32 (narrow (w % 9223372036854775808)) = can .f32 (b % 2147483648) := by
  obtain ⟨a1, a2, a3, a4, a5⟩ := bits32
  obtain ⟨b1, b2, b3, b4, b5⟩ := bits64
  cases hr : FloatKind.f32.format.read b with
  | nan s t =>
    have hn : isNan .f32 b = true := by simp [isNan, hr, Ieee.Datum.isNaN]
    have hq : widen b = qnan .f64 := by simp only [widen, hr]
    have hwn : isNan .f64 w = true := by rw [isNan_of_can hw, hq]; exact isNan_qnan _
    have hm : isNan .f64 (w % 9223372036854775808) = true := by rw [isNan_f64] at hwn ⊢; rwa [Nat.mod_mod]
    have hm2 : isNan .f32 (b % 2147483648) = true := by rw [isNan_f32] at hn ⊢; rwa [Nat.mod_mod]
    obtain ⟨s', t', hr'⟩ := read_nan hm
    refine ⟨fun s1 m1 e1 h => (by rw [hr'] at h; cases h), ?_⟩
    rw [can_of_nan hm2]
    simp only [narrow, hr', can_qnan]
  | infinity s =>
    have hb : b % 2147483648 = 2139095040 := by
      have e1 : Ieee.single.signWeight = 2147483648 := by decide
      have e2 : Ieee.single.infRung = 2139095040 := by decide
      simp only [FloatKind.format, Ieee.Format.read, e1, e2] at hr
      split at hr
      · cases hr
      · split at hr
        · cases hr
        · split at hr
          · assumption
          · cases hr
    have hq : widen b = FloatKind.f64.encode (.infinity s) := by simp only [widen, hr]
    have hwq : w = FloatKind.f64.encode (.infinity s) := by
      rw [hq] at hw
      exact (eq_of_can hw.symm (by cases s <;> decide)).symm
    rw [hwq, hb]
    have e1 : FloatKind.f64.format.read (FloatKind.f64.encode (.infinity s) % 9223372036854775808) = .infinity false := by cases s <;> decide
    refine ⟨fun s1 m1 e1' h => (by rw [e1] at h; cases h), ?_⟩
    simp only [narrow, e1]
    decide
  | number s m e =>
    obtain ⟨j, e', h1, h2, h3⟩ := read_widen hr
    have hwq : w = widen b := by
      refine (eq_of_can hw.symm ?_).symm
      simp [isNan, h1, Ieee.Datum.isNaN]
    rw [hwq]
    have h4 := read_mod h1
    have h5 := read_mod hr
    rw [b4] at h4
    rw [a4] at h5
    have h6 : FloatKind.f32.format.nearest false (m * 2 ^ j) e' = b % 2147483648 := by
      have h7 := write_read FloatKind.f32.format (by omega) (b % 2147483648) h5
      rw [a4, Nat.mod_mod] at h7
      by_cases hm : m = 0
      · subst hm
        rw [Nat.zero_mul]
        exact (show FloatKind.f32.format.nearest false 0 e' = FloatKind.f32.format.nearest false 0 e by simp [Ieee.Format.nearest]).trans h7
      · rw [h2 hm, nearest_scale, h7]; rfl
    have h8 : FloatKind.f32.encode (.number false (m * 2 ^ j) e') = b % 2147483648 := h6
    refine ⟨fun s1 m1 e1 h => ?_, ?_⟩
    · rw [h4] at h
      cases h
      rw [h8]
      have : FloatKind.f32.decode (b % 2147483648) = .number false m e := h5
      rw [this]; rfl
    · have : narrow (widen b % 9223372036854775808) = FloatKind.f32.encode (.number false (m * 2 ^ j) e') := by simp only [narrow, h4]
      rw [this, h8]

section
variable {P : Program}
theorem run_narrowX (w : World) (src dst : TypeId) (b : Nat) (hs : P.underlying src = some (.float .f64)) (hd : P.underlying dst = some (.float .f32)) (hb : narrowableX b) :
    ∃ r n, (convert src dst (.float .f64 b)).run P w = .ok (.float .f32 r) (w.drewN n) ∧ can .f32 r = can .f32 (narrow b) ∧ fits .f32 r := by
  cases hr : FloatKind.f64.format.read b with
  | nan s t =>
    refine ⟨(Question.nanConv .f32 b).cut (w.tape w.drawn (.nanConv .f32 b)), 1, ?_, ?_, (nan_conv .f32 b _).2⟩
    · simp [convert, run_underlying hs, run_underlying hd, Conv.floatToFloat, FloatKind.decode, hr, Question.forced]; rfl
    · rw [can_of_nan (nan_conv .f32 b _).1]; simp only [narrow, hr, can_qnan]
  | infinity s =>
    refine ⟨FloatKind.f32.encode (.infinity s), 0, ?_, by simp only [narrow, hr], encode_wf _ _⟩
    simp [convert, run_underlying hs, run_underlying hd, Conv.floatToFloat, FloatKind.decode, hr]; rfl
  | number s m e =>
    refine ⟨FloatKind.f32.encode (.number s m e), 0, ?_, by simp only [narrow, hr], encode_wf _ _⟩
    have h := hb s m e hr
    have hr' : FloatKind.f64.decode b = .number s m e := hr
    simp [convert, run_underlying hs, run_underlying hd, Conv.floatToFloat, hr', h]; rfl

variable {w : World} {ops : Array Oper} {rest : List Oper} {o : Oper} {a : Act} {Q : Exit → Act → World → Prop}
theorem wpList_narrowX (hg : o.guard = none) {src dst : TypeId} {x : Operand} (hop : o.op = Op.convert src dst x) {b : Nat} (hx : a.eval x = .float .f64 b)
    (hs : P.underlying src = some (.float .f64)) (hd : P.underlying dst = some (.float .f32)) (hb : narrowableX b)
    (hK : ∀ r n, Hid (can .f32 r = can .f32 (narrow b)) → Hid (fits .f32 r) → wpList P ops Q rest (a.put o.dst (.float .f32 r)) (w.drewN n)) : wpList P ops Q (o :: rest) a w := by
  refine wpList_plain hg fun K hK' => ?_
  obtain ⟨r, n, hrun, hr, hf⟩ := run_narrowX (P := P) w src dst b hs hd hb
  unfold Oper.wp
  simp [execOp, hop, hx, hrun, Result.andThen]
  exact hK' _ _ (hK r n hr hf)
end
end Go.Fk

/- What math.Float64bits, math.Float64frombits and math.Abs give. -/
namespace Go.Fk
open Go Go.RowKit
theorem andNot_sign (x : Nat) (hx : fits .f64 x) : (bits .andNot .u64 (x : Int) 9223372036854775808).toNat = x % 9223372036854775808 := by
  have h : x < 18446744073709551616 := by simp only [fits, Lit.wf, decide_eq_true_eq] at hx; omega
  have h1 := u64_andNot_nat x 9223372036854775808 (by omega) (by omega)
  rw [show ((9223372036854775808 : Nat) : Int) = 9223372036854775808 by rfl] at h1
  rw [h1, Int.toNat_natCast]
  exact Nat.and_two_pow_sub_one_eq_mod x 63
end Go.Fk
namespace Go.Proofs.Ytgjdmoenobacgaa
open Go.RowKit Go.Fk
@[go_sem] theorem run_f64bits (x : Nat) (w : World) : (callFunc 150 #[.float .f64 x]).run Try.prog w = .ok (.value (.int .u64 x)) w := by
  rw [run_callFunc_extern (e := Extern.MathFloatBits.float64bits) Try.func150 (by kernel_rfl) (by kernel_rfl) (by kernel_rfl) (by kernel_rfl)]; rfl
@[go_sem] theorem run_f64from (x : Int) (w : World) : (callFunc 149 #[.int .u64 x]).run Try.prog w = .ok (.value (.float .f64 x.toNat)) w := by
  rw [run_callFunc_extern (e := Extern.MathFloatBits.float64frombits) Try.func149 (by kernel_rfl) (by kernel_rfl) (by kernel_rfl) (by kernel_rfl)]; rfl
theorem abs64 (x : Nat) (w : World) (hx : fits .f64 x) : Calls Try.prog 140 #[.float .f64 x] w fun e w' => e = .returned (.float .f64 (x % 9223372036854775808)) ∧ w = w' := by
  have hn := andNot_sign x hx
  go_enter Try.func140, Try.ntmps140
  go_wp2
  go_ret
  exact ⟨rfl, rfl⟩
end Go.Proofs.Ytgjdmoenobacgaa

/- 'FrictionAt' of both. -/
namespace Go.Fk
open Go Go.RowKit
/-- A difference of speeds on the way to its friction: the parts of it, up to the bits of NaN. -/
def fr1 (p : Nat) : Nat := fop .add .f32 (p % 2147483648) 1061158912
theorem fits_one : fits .f32 1065353216 := by simp [fits, Lit.wf]
def frSq (a : Nat) : Nat := fop .mul .f32 a a
def fr4 (a : Nat) : Nat := can .f32 (fmin .f32 (fop .quo .f32 1065353216 a) 1065353216)
def friV (s d : Nat) : Nat := fr4 (frSq (frSq (fr1 (fop .mul .f32 s d))))
theorem mod_congr {a b : Nat} (h : can .f32 a = can .f32 b) : can .f32 (a % 2147483648) = can .f32 (b % 2147483648) := by
  cases hn : isNan .f32 a
  · rw [eq_of_can h hn]
  · have hm := (isNan_of_can h).symm.trans hn
    have h1 : isNan .f32 (a % 2147483648) = true := by rw [isNan_f32] at hn ⊢; rwa [Nat.mod_mod]
    have h2 : isNan .f32 (b % 2147483648) = true := by rw [isNan_f32] at hm ⊢; rwa [Nat.mod_mod]
    rw [can_of_nan h1, can_of_nan h2]
theorem fr1_congr {a b : Nat} (h : can .f32 a = can .f32 b) : fr1 a = fr1 b := fop_congr (mod_congr h) rfl
theorem frSq_congr {a b : Nat} (h : can .f32 a = can .f32 b) : frSq a = frSq b := fop_congr h h
theorem fmin_congr {a b c : Nat} (h : can .f32 a = can .f32 b) : can .f32 (fmin .f32 a c) = can .f32 (fmin .f32 b c) := by
  cases hn : isNan .f32 a
  · rw [eq_of_can h hn]
  · have hm := (isNan_of_can h).symm.trans hn
    unfold fmin
    rw [order_of_nan_l hn, order_of_nan_l hm]
theorem fr4_congr {a b : Nat} (h : can .f32 a = can .f32 b) : fr4 a = fr4 b := by
  unfold fr4
  have e : fop .quo .f32 1065353216 a = fop .quo .f32 1065353216 b := fop_congr rfl h
  rw [e]
theorem fr_can (op : BinOp) (k : FloatKind) (x y : Nat) : can k (fop op k x y) = fop op k x y := can_fop _ _ _ _
/-- A word that is equal to 1 is 1. -/
theorem one_of_eq {x : Nat} (hf : fits .f32 x) (h : FloatKind.f32.format.order x 1065353216 = some .eq) : x = 1065353216 := by
  have hx : isNan .f32 x = false := by
    cases hn : isNan .f32 x
    · rfl
    · rw [order_of_nan_l hn] at h; cases h
  rw [order_val hx (by decide)] at h
  have hv : val .f32 x = val .f32 1065353216 := Int.compare_eq_eq.1 (by simpa using h)
  have h1 : val .f32 1065353216 = 2 ^ 149 := by decide +kernel
  have hsm := val_small (k := .f32) (b := 1065353216) (s := false) (m := 8388608) (e := -23) (by decide)
  rw [h1] at hv hsm
  have x0 := fits32 hf
  unfold val at hv
  cases hr : FloatKind.f32.format.read x with
  | nan s t => rw [hr] at hv; simp only at hv; exact absurd hv.symm (by decide)
  | infinity s =>
    rw [hr] at hv
    simp only at hv
    have hp : (0 : Int) < 2 ^ 149 := by decide
    generalize (far : Int) = F at *
    generalize (2 : Int) ^ 149 = G at *
    cases s <;> simp at hv <;> omega
  | number s m e =>
    rw [hr] at hv
    simp only at hv
    rw [signed_eq] at hv
    have hp := read_place hr
    have e1 : Ieee.single.signWeight = 2147483648 := by decide
    have e2 : Ieee.single.infRung = 2139095040 := by decide
    have e3 : Ieee.single.binade = 8388608 := by decide
    have e4 : Ieee.single.leastPlace = -149 := by decide
    simp only [FloatKind.format, Ieee.Format.read, e1, e2, e3, e4] at hr
    have hs : s = false ∧ ((m * 2 ^ (e + (unitOf .f32 : Int)).toNat : Nat) : Int) = 2 ^ 149 := by
      cases s
      · refine ⟨rfl, ?_⟩
        push_cast; simpa using hv
      · exfalso
        simp only [if_true] at hv
        have hnn : (0 : Int) ≤ ((m * 2 ^ (e + (unitOf .f32 : Int)).toNat : Nat) : Int) := Int.natCast_nonneg _
        push_cast at hnn
        rw [Int.neg_mul] at hv
        have hp2 : (0 : Int) < 2 ^ 149 := by decide
        omega
    obtain ⟨rfl, hm⟩ := hs
    have hm2 : m * 2 ^ (e + (unitOf .f32 : Int)).toNat = 2 ^ 149 := by exact_mod_cast hm
    clear hv hm h1 hsm hp h hx
    split at hr
    · rename_i h2
      have h2' : x % 2147483648 < 8388608 := by simpa using h2
      simp only [Ieee.Datum.number.injEq] at hr
      obtain ⟨_, rfl, rfl⟩ := hr
      exfalso
      have : x % 2147483648 * 2 ^ ((-149 : Int) + (unitOf .f32 : Int)).toNat = x % 2147483648 := by
        show _ * 2 ^ 0 = _; omega
      rw [this] at hm2
      have : (2 : Nat) ^ 149 > 8388608 := by decide
      omega
    · split at hr
      · simp only [Ieee.Datum.number.injEq] at hr
        obtain ⟨hs, rfl, rfl⟩ := hr
        have hj : ((-149 : Int) + ((x % 2147483648 / 8388608 - 1 : Nat) : Int) + (unitOf .f32 : Int)).toNat = x % 2147483648 / 8388608 - 1 := by
          show ((-149 : Int) + ((x % 2147483648 / 8388608 - 1 : Nat) : Int) + 149).toNat = _; omega
        rw [hj] at hm2
        generalize hJ : x % 2147483648 / 8388608 - 1 = j at hm2
        have hj1 : j = 126 := by
          by_cases a : j ≤ 125
          · exfalso
            have := Nat.pow_le_pow_right (show 0 < 2 by omega) a
            have h5 : (8388608 + x % 2147483648 % 8388608) * 2 ^ j < 16777216 * 2 ^ 125 := by
              calc (8388608 + x % 2147483648 % 8388608) * 2 ^ j ≤ 16777215 * 2 ^ 125 := Nat.mul_le_mul (by omega) this
                _ < 16777216 * 2 ^ 125 := by decide
            rw [hm2] at h5
            exact absurd h5 (by decide)
          · by_cases b : 127 ≤ j
            · exfalso
              have := Nat.pow_le_pow_right (show 0 < 2 by omega) b
              have h5 : 8388608 * 2 ^ 127 ≤ (8388608 + x % 2147483648 % 8388608) * 2 ^ j := Nat.mul_le_mul (by omega) this
              rw [hm2] at h5
              exact absurd h5 (by decide)
            · omega
        subst hj1
        have hmm : 8388608 + x % 2147483648 % 8388608 = 8388608 := Nat.eq_of_mul_eq_mul_right (show 0 < 2 ^ 126 by decide) (hm2.trans (by decide))
        have hs' : x / 2147483648 % 2 = 0 := by
          have : (x / 2147483648 % 2 == 1) = false := hs
          simp at this; omega
        omega
      · split at hr <;> cases hr
/-- What stands behind k of the four steps. -/
def frK (p : Nat) : Nat → Nat
  | 0 => can .f32 p
  | 1 => fr1 p
  | 2 => frSq (fr1 p)
  | 3 => frSq (frSq (fr1 p))
  | _ => fr4 (frSq (frSq (fr1 p)))
end Go.Fk
namespace Go.Proofs.Ytgjdmoenobacgaa
open Go.RowKit Go.Fk
theorem i_raised (p : Nat) (w : World) (hp : fits .f32 p) : Calls Try.prog 123 #[.float .f32 p] w fun e w' => ∃ r, e = .returned (.float .f32 r) ∧ can .f32 r = fr1 p ∧ fits .f32 r ∧ le w w' := by
  go_enter Try.func123, Try.ntmps123
  go_wp2_with (first | (with_reducible refine wpList_farith rfl rfl rfl rfl rfl ?_; intro r1 n1 hr1 hf1) | (with_reducible refine wpList_widen rfl rfl rfl Try.underlying153 Try.underlying46 ?_; intro s1 n1 h1 f1; have hwf := f1.out; have hna := hid (narrow_abs h1.out)) | (go_at_call 140; refine (abs64 _ _ hwf).mono ?_; rintro e w' ⟨rfl, rfl⟩) | (with_reducible refine wpList_narrowX rfl rfl rfl Try.underlying46 Try.underlying153 (by exact hna.out.1) ?_; intro q nq hq hqf))
  go_ret
  refine ⟨_, rfl, ?_, hf1.out, le_drewN _ _⟩
  rw [hr1.out]
  exact fop_congr (hq.out.trans hna.out.2) rfl
theorem i_squared (p : Nat) (w : World) : Calls Try.prog 124 #[.float .f32 p] w fun e w' => ∃ r, e = .returned (.float .f32 r) ∧ can .f32 r = frSq p ∧ fits .f32 r ∧ le w w' := by
  go_enter Try.func124, Try.ntmps124
  go_wp2_with (first | (with_reducible refine wpList_farith rfl rfl rfl rfl rfl ?_; intro r1 n1 hr1 hf1))
  go_ret
  exact ⟨_, rfl, hr1.out, hf1.out, le_drewN _ _⟩
theorem i_slipShare (p : Nat) (w : World) : Calls Try.prog 125 #[.float .f32 p] w fun e w' => ∃ r, e = .returned (.float .f32 r) ∧ can .f32 r = fr4 p ∧ fits .f32 r ∧ le w w' := by
  go_enter Try.func125, Try.ntmps125
  go_wp2_with (first | (with_reducible refine wpList_farith rfl rfl rfl rfl rfl ?_; intro r1 n1 hr1 hf1) | (with_reducible refine wpList_min rfl rfl rfl rfl hf1.out fits_one ?_; intro r2 n2 hr2 hf2))
  go_ret
  refine ⟨_, rfl, ?_, hf2.out, le_drewN _ _⟩
  rw [hr2.out]
  exact fmin_congr (hr1.out.trans (can_fop _ _ _ _).symm)
theorem slipOne : (Try.prog.info? 154).map (·.size) = some 1 := by kernel_rfl
theorem slipKind : ∀ w : World, (isAgg 154).run Try.prog w = .ok false w := fun w => by kernel_rfl
set_option maxRecDepth 100000 in
set_option maxHeartbeats 2000000 in
theorem i_FrictionAt (s d : Nat) (w : World) : Calls Try.prog 91 #[.float .f32 s, .float .f32 d] w (Out_f (friV s d) w) := by
  go_enter Try.func91, Try.ntmps91
  go_wp2_with (first | (with_reducible refine wpList_farith rfl rfl rfl rfl rfl ?_; intro r1 n1 hr1 hf1))
  have HL := hid (le_drewN w n1)
  have HF := hid hf1.out; have HR := hid hr1.out
  go_loopw [5, 12] (fun sv i wr => ∃ (k : Nat) (r : Nat), k ≤ 4 ∧ i = .int .i64 k ∧ sv = .float .f32 r ∧ Hid (can .f32 r = frK r1 k) ∧ Hid (fits .f32 r) ∧ Hid (le w wr)) (fun _ i _ => 4 - (intOf i).toNat)
  case atStart => exact ⟨0, _, by omega, rfl, rfl, rfl, HF.out, HL.out⟩
  case round =>
    obtain ⟨k, r, hk, rfl, rfl, HRk, HFk, HLk⟩ := hrel
    match k, hk with
    | 0, _ =>
      go_wp2_with (first | (refine wpList_indexArr rfl rfl (k := 0) rfl rfl Try.underlying156 slipOne slipKind (by decide) rfl ?_) | go_at_call 123; ((with_reducible refine (i_raised _ _ HFk.out).mono ?_); rintro e w2 ⟨q, rfl, hq, fq, hl⟩; have HQ := hid hq; have FQ := hid fq; have HL2 := hid (le_trans HLk.out hl); clear hq fq hl))
      go_roundw
      case rel => exact ⟨1, q, by omega, by go_num, rfl, HQ.out.trans (fr1_congr (show can .f32 r = can .f32 r1 from HRk.out)), FQ.out, HL2.out⟩
      case measure => simp [intOf]
    | 1, _ =>
      go_wp2_with (first | (refine wpList_indexArr rfl rfl (k := 1) rfl rfl Try.underlying156 slipOne slipKind (by decide) rfl ?_) | go_at_call 124; ((with_reducible refine (i_squared _ _).mono ?_); rintro e w2 ⟨q, rfl, hq, fq, hl⟩; have HQ := hid hq; have FQ := hid fq; have HL2 := hid (le_trans HLk.out hl); clear hq fq hl))
      go_roundw
      case rel => exact ⟨2, q, by omega, by go_num, rfl, HQ.out.trans (frSq_congr (HRk.out.trans (can_fop _ _ _ _).symm)), FQ.out, HL2.out⟩
      case measure => simp [intOf]
    | 2, _ =>
      go_wp2_with (first | (refine wpList_indexArr rfl rfl (k := 2) rfl rfl Try.underlying156 slipOne slipKind (by decide) rfl ?_) | go_at_call 124; ((with_reducible refine (i_squared _ _).mono ?_); rintro e w2 ⟨q, rfl, hq, fq, hl⟩; have HQ := hid hq; have FQ := hid fq; have HL2 := hid (le_trans HLk.out hl); clear hq fq hl))
      go_roundw
      case rel => exact ⟨3, q, by omega, by go_num, rfl, HQ.out.trans (frSq_congr (HRk.out.trans (can_fop _ _ _ _).symm)), FQ.out, HL2.out⟩
      case measure => simp [intOf]
    | 3, _ =>
      go_wp2_with (first | (refine wpList_indexArr rfl rfl (k := 3) rfl rfl Try.underlying156 slipOne slipKind (by decide) rfl ?_) | go_at_call 125; ((with_reducible refine (i_slipShare _ _).mono ?_); rintro e w2 ⟨q, rfl, hq, fq, hl⟩; have HQ := hid hq; have FQ := hid fq; have HL2 := hid (le_trans HLk.out hl); clear hq fq hl))
      go_roundw
      case rel => exact ⟨4, q, by omega, by go_num, rfl, HQ.out.trans (fr4_congr (HRk.out.trans (can_fop _ _ _ _).symm)), FQ.out, HL2.out⟩
      case measure => simp [intOf]
    | 4, _ =>
      go_wp2
      go_ret
      exact ⟨r, rfl, HRk.out.trans (by
        unfold friV
        show fr4 _ = _
        rw [fr1_congr (show can .f32 r1 = can .f32 (fop .mul .f32 s d) by rw [can_fop]; exact HR.out)]), HLk.out⟩
theorem s_l05Friction (s d : Nat) (w : World) : Calls Try.prog 89 #[.float .f32 s, .float .f32 d] w (Out_f (friV s d) w) := by
  go_enter Try.func89, Try.ntmps89
  go_wp2_with (first | (with_reducible refine wpList_farith (op := .mul) (p := s) (q := d) rfl rfl rfl rfl rfl ?_; intro r1 n1 hr1 hf1; have gf1 := hf1.out) | (go_at_call 121; refine (s_l01Abs _ _ gf1).mono ?_; rintro e w' ⟨rfl, rfl⟩) | (with_reducible refine wpList_farith (op := .add) rfl rfl rfl rfl rfl ?_; intro r2 n2 hr2 hf2) | (with_reducible refine wpList_farith (op := .mul) (p := r2) rfl rfl rfl rfl rfl ?_; intro r3 n3 hr3 hf3) | (with_reducible refine wpList_farith (op := .mul) (p := r3) rfl rfl rfl rfl rfl ?_; intro r4 n4 hr4 hf4) | (with_reducible refine wpList_farith (op := .quo) rfl rfl rfl rfl rfl ?_; intro r5 n5 hr5 hf5))
  all_goals
    have k1 : can .f32 r2 = can .f32 (fr1 (fop .mul .f32 s d)) := by
      rw [hr2.out]
      unfold fr1
      rw [can_fop]
      exact fop_congr (mod_congr (by rw [can_fop]; exact hr1.out)) rfl
    have k2 : can .f32 r3 = can .f32 (frSq (fr1 (fop .mul .f32 s d))) := by
      rw [hr3.out, frSq, can_fop]; exact fop_congr k1 k1
    have k3 : can .f32 r4 = can .f32 (frSq (frSq (fr1 (fop .mul .f32 s d)))) := by
      rw [hr4.out]
      unfold frSq
      rw [can_fop]
      exact fop_congr k2 k2
    have k4 : friV s d = can .f32 (fmin .f32 r5 1065353216) := by
      unfold friV
      rw [fr4_congr k3.symm]
      unfold fr4
      exact fmin_congr (by rw [can_fop]; exact hr5.out.symm)
    clear k1 k2 k3
    replace k4 := hid k4
    go_ret
  · refine ⟨_, rfl, ?_, le_drewN _ _⟩
    rw [k4.out]
    have hg : FloatKind.f32.format.order r5 1065353216 = some .gt := by simpa using ‹(FloatKind.f32.format.order r5 1065353216 == some .gt) = true›
    simp only [fmin, hg]
  · refine ⟨_, rfl, ?_, le_drewN _ _⟩
    rw [k4.out]
    have hg : ¬ FloatKind.f32.format.order r5 1065353216 = some .gt := by
      have := ‹(FloatKind.f32.format.order r5 1065353216 == some .gt) = false›
      simpa using this
    cases ho : FloatKind.f32.format.order r5 1065353216 with
    | none =>
      have hn : isNan .f32 r5 = true := by
        cases hn : isNan .f32 r5
        · rw [order_val hn (by decide)] at ho; cases ho
        · rfl
      simp only [fmin, ho]
      rw [can_of_nan hn, can_qnan]
    | some o =>
      cases o with
      | lt => simp only [fmin, ho]
      | gt => exact absurd ho hg
      | eq =>
        obtain rfl := one_of_eq hf5.out ho
        simp only [fmin, ho]
        split <;> rfl
end Go.Proofs.Ytgjdmoenobacgaa
