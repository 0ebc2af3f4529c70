/- Texts of the walk, laid in one file. -/
import Derived.Deep.RegionWith
import Derived.OwnWalk
import Derived.Test.YtgjdmoenobacgaaMg
set_option linter.unusedVariables false
set_option linter.unusedSimpArgs false
/- A jet's steps, both sides. -/
namespace Go.Fk
open Go Go.RowKit
/-- A valid jet. -/
structure JtS where
  x : Nat → Nat
  y : Nat → Nat
  nx : Nat
  ny : Nat
  j : Nat
  k : Nat
  a : Nat
  b : Nat
  c : Nat
  p : Nat
  q : Nat
  a2 : Nat
  b2 : Nat
  c2 : Nat
  p2 : Nat
  q2 : Nat
  m : Nat
  o : Nat
structure JtS.Ok (q : JtS) : Prop where
  nx1 : 1 ≤ q.nx
  nx2 : q.nx ≤ 1024
  ny1 : 1 ≤ q.ny
  ny2 : q.ny ≤ 1024
  j1 : q.j < q.nx
  k1 : q.k < q.ny
  f : okF 1 q.a q.b q.c q.p q.q = true
  f2 : okF 5 q.a2 q.b2 q.c2 q.p2 q.q2 = true
  fa : fits .f32 q.a
  fb : fits .f32 q.b
  fc : fits .f32 q.c
  fp : fits .f32 q.p
  fq : fits .f32 q.q
  fa2 : fits .f32 q.a2
  fb2 : fits .f32 q.b2
  fc2 : fits .f32 q.c2
  fp2 : fits .f32 q.p2
  fq2 : fits .f32 q.q2
  fm : fits .f32 q.m
  fo : fits .f32 q.o
/-- What the first filter, and what both make of the oldest sample of the bore. -/
def lJ (q : JtS) : Nat := outF 1 q.a q.b q.c q.p q.q (q.y q.k)
def eJ (q : JtS) : Nat := outF 5 q.a2 q.b2 q.c2 q.p2 q.q2 (lJ q)
def n1J (q : JtS) (br : Nat) : Nat := kept (fop .sub .f32 br (fop .mul .f32 q.m (eJ q)))
def n2J (q : JtS) : Nat := kept (fop .add .f32 (jetV (q.x q.j)) (fop .mul .f32 q.o (eJ q)))
def stepJ (q : JtS) (br : Nat) : JtS := { q with x := pushX q.x q.j (n1J q br), y := pushX q.y q.k (n2J q), j := (q.j + 1) % q.nx, k := (q.k + 1) % q.ny, p := st0 1 q.a q.b q.c q.p q.q (q.y q.k), q := st1 1 q.a q.b q.c q.p q.q (q.y q.k), p2 := st0 5 q.a2 q.b2 q.c2 q.p2 q.q2 (lJ q), q2 := st1 5 q.a2 q.b2 q.c2 q.p2 q.q2 (lJ q) }
theorem can_lJ (q : JtS) : can .f32 (lJ q) = lJ q := can_outF _ _ _ _ _ _ _
theorem can_eJ (q : JtS) : can .f32 (eJ q) = eJ q := can_outF _ _ _ _ _ _ _
theorem n1J_of {q : JtS} {br e p r : Nat} (he : can .f32 e = eJ q) (hp : can .f32 p = fop .mul .f32 q.m e) (hr : can .f32 r = fop .sub .f32 br p) : kept r = n1J q br :=
  kept_can (hr.trans ((fop_congr rfl (hp.trans ((fop_congr rfl (he.trans (can_eJ q).symm)).trans (can_fop _ _ _ _).symm))).trans (can_fop _ _ _ _).symm))
theorem n2J_of {q : JtS} {e y p r : Nat} (he : can .f32 e = eJ q) (hy : can .f32 y = jetV (q.x q.j)) (hp : can .f32 p = fop .mul .f32 q.o e) (hr : can .f32 r = fop .add .f32 y p) : kept r = n2J q :=
  kept_can (hr.trans ((fop_congr (hy.trans (show jetV (q.x q.j) = can .f32 (jetV (q.x q.j)) from (can_can _ _).symm)) (hp.trans ((fop_congr rfl (he.trans (can_eJ q).symm)).trans (can_fop _ _ _ _).symm))).trans (can_fop _ _ _ _).symm))
theorem fits_n1J (q : JtS) (br : Nat) : fits .f32 (n1J q br) := fits_kept (fits_fop _ _ _ _)
theorem fits_n2J (q : JtS) : fits .f32 (n2J q) := fits_kept (fits_fop _ _ _ _)
theorem JtS.Ok.step {q : JtS} (h : q.Ok) (br : Nat) (hf : fits .f32 (q.y q.k)) : (stepJ q br).Ok where
  nx1 := h.nx1
  nx2 := h.nx2
  ny1 := h.ny1
  ny2 := h.ny2
  j1 := Nat.mod_lt _ h.nx1
  k1 := Nat.mod_lt _ h.ny1
  f := okF_step h.f
  f2 := okF_step h.f2
  fa := h.fa
  fb := h.fb
  fc := h.fc
  fp := show fits .f32 (st0 1 q.a q.b q.c q.p q.q (q.y q.k)) from fits_st0 hf (fits_outF _ _ _ _ _ _ _)
  fq := show fits .f32 (st1 1 q.a q.b q.c q.p q.q (q.y q.k)) from fits_st1 h.fp
  fa2 := h.fa2
  fb2 := h.fb2
  fc2 := h.fc2
  fp2 := show fits .f32 (st0 5 q.a2 q.b2 q.c2 q.p2 q.q2 (lJ q)) from fits_st0 (fits_outF _ _ _ _ _ _ _) (fits_outF _ _ _ _ _ _ _)
  fq2 := show fits .f32 (st1 5 q.a2 q.b2 q.c2 q.p2 q.q2 (lJ q)) from fits_st1 h.fp2
  fm := h.fm
  fo := h.fo
theorem chg_updJ {g : Nat} {w w' : World} (h : Upd g w w') : Chg (· = g) w w' := ⟨h.os, h.tape, h.output, h.size, fun k hk hn => h.block k hk hn⟩
end Go.Fk
namespace Go.Proofs.Ytgjdmoenobacgaa
open Go.RowKit Go.Fk
theorem i_JetAtD (p : Nat) (w : World) : Calls Try.prog 127 #[.float .f32 p] w fun e w' => ∃ r, e = .returned (.float .f32 r) ∧ can .f32 r = jetV p ∧ ∃ n, w' = w.drewN n := by
  go_enter Try.func127, Try.ntmps127
  go_wp2_with (first | (with_reducible refine wpList_farith rfl rfl rfl rfl rfl ?_; intro r1 n1 hr1 hf1) | (go_at_call 142; refine (i_ClampSample _ _ _).mono ?_; rintro e w' ⟨rfl, rfl⟩))
  go_ret
  exact ⟨_, rfl, jet_of ‹Hid (can .f32 _ = fop .mul .f32 p p)›.out ‹Hid (can .f32 _ = fop .sub .f32 _ _)›.out (Hid.out (by assumption)), _, rfl⟩
theorem s_l05EdgeD (p : Nat) (w : World) : Calls Try.prog 126 #[.float .f32 p] w fun e w' => ∃ r, e = .returned (.float .f32 r) ∧ can .f32 r = jetV p ∧ ∃ n, w' = w.drewN n := by
  go_enter Try.func126, Try.ntmps126
  go_wp2_with (first | (with_reducible refine wpList_farith rfl rfl rfl rfl rfl ?_; intro r1 n1 hr1 hf1) | (go_at_call 141; refine (s_l01Clamp _ _ _).mono ?_; rintro e w' ⟨rfl, rfl⟩))
  go_ret
  exact ⟨_, rfl, jet_of ‹Hid (can .f32 _ = fop .mul .f32 p p)›.out ‹Hid (can .f32 _ = fop .sub .f32 _ _)›.out (Hid.out (by assumption)), _, rfl⟩
set_option maxRecDepth 100000 in
set_option maxHeartbeats 4000000 in
theorem i_jstep (q : JtS) (br z1 z2 z3 z4 : Nat) (s t : Value) (lo hi lo2 hi2 g r r2 : Nat) (w : World) (R : Row w g 158 #[s, .int .i64 (q.j : Nat), t, .int .i64 (q.k : Nat), .int .i64 1, .float .f32 q.a, .float .f32 q.b, .float .f32 q.c, .float .f32 z1, .float .f32 z2, .int .i64 5, .float .f32 q.a2, .float .f32 q.b2, .float .f32 q.c2, .float .f32 z3, .float .f32 z4, .float .f32 q.m, .float .f32 q.o, .pointer (some ⟨r, 0, none⟩), .pointer (some ⟨r2, 0, none⟩)]) (RR : Row w r 149 #[mdl 1 q.a q.b q.c, .float .f32 q.p, .float .f32 q.q]) (RR2 : Row w r2 149 #[mdl 5 q.a2 q.b2 q.c2, .float .f32 q.p2, .float .f32 q.q2]) (O1 : OwnS w lo hi s q.x q.nx) (O2 : OwnS w lo2 hi2 t q.y q.ny) (ok : q.Ok) (h1 : ¬ (lo ≤ r ∧ r < hi)) (h2 : ¬ (lo2 ≤ r ∧ r < hi2)) (h3 : ¬ (lo ≤ r2 ∧ r2 < hi)) (h4 : ¬ (lo2 ≤ r2 ∧ r2 < hi2)) (hg : g ≠ r) (hg2 : g ≠ r2) (hrr : r ≠ r2) (hbr : fits .f32 br) (g1 : ¬ (lo ≤ g ∧ g < hi)) (g2 : ¬ (lo2 ≤ g ∧ g < hi2)) (hd : hi ≤ lo2 ∨ hi2 ≤ lo) :
    Calls Try.prog 99 #[.pointer (some ⟨g, 0, none⟩), .float .f32 br] w fun e w' => ∃ o, e = .returned (.float .f32 o) ∧ can .f32 o = q.y q.k ∧ fits .f32 o ∧ Row w' g 158 #[s, .int .i64 ((stepJ q br).j : Nat), t, .int .i64 ((stepJ q br).k : Nat), .int .i64 1, .float .f32 (stepJ q br).a, .float .f32 (stepJ q br).b, .float .f32 (stepJ q br).c, .float .f32 z1, .float .f32 z2, .int .i64 5, .float .f32 (stepJ q br).a2, .float .f32 (stepJ q br).b2, .float .f32 (stepJ q br).c2, .float .f32 z3, .float .f32 z4, .float .f32 (stepJ q br).m, .float .f32 (stepJ q br).o, .pointer (some ⟨r, 0, none⟩), .pointer (some ⟨r2, 0, none⟩)] ∧ Row w' r 149 #[mdl 1 (stepJ q br).a (stepJ q br).b (stepJ q br).c, .float .f32 (stepJ q br).p, .float .f32 (stepJ q br).q] ∧ Row w' r2 149 #[mdl 5 (stepJ q br).a2 (stepJ q br).b2 (stepJ q br).c2, .float .f32 (stepJ q br).p2, .float .f32 (stepJ q br).q2] ∧ OwnS w' lo hi s (stepJ q br).x q.nx ∧ OwnS w' lo2 hi2 t (stepJ q br).y q.ny ∧ Chg (fun i => i = g ∨ i = r ∨ i = r2 ∨ lo ≤ i ∧ i < hi ∨ lo2 ≤ i ∧ i < hi2) w w' := by
  have HO2 := hid (fun (w' : World) (hl : le w w') => i_oldest hi2 t q.y q.ny q.k w' (O2.rd.le hl) ok.k1 ok.ny2)
  have HR := hid R; have HRR := hid RR; have HRR2 := hid RR2; have HO1 := hid O1; have HOO := hid O2; have OK := hid ok
  have hx1 : ∃ y, fits .f32 y ∧ can .f32 y = q.x q.j := by
    rcases O1 with ⟨_, h⟩ | ⟨b, o, cap, ds, _, _, _, _, _, _, hx⟩
    · have := ok.nx1; omega
    · obtain ⟨y, _, f1, c1⟩ := hx q.j ok.j1; exact ⟨y, f1, c1⟩
  clear R RR RR2 O1 O2 ok
  go_enter Try.func99, Try.ntmps99
  go_wp2_with (first | ((with_reducible refine at_loadU rfl rfl ?_); (with_reducible refine wpList_loadPR HR.out rfl rfl rfl Try.underlying25 rfl [t, .int .i64 (q.k : Nat)] (midOf [s, .int .i64 (q.j : Nat)] [t, .int .i64 (q.k : Nat)] [.int .i64 1, .float .f32 q.a, .float .f32 q.b, .float .f32 q.c, .float .f32 z1, .float .f32 z2, .int .i64 5, .float .f32 q.a2, .float .f32 q.b2, .float .f32 q.c2, .float .f32 z3, .float .f32 z4, .float .f32 q.m, .float .f32 q.o, .pointer (some ⟨r, 0, none⟩), .pointer (some ⟨r2, 0, none⟩)] 2 rfl) infoRing rfl ?_)) | (go_at_call 116; ((with_reducible refine (HO2.out _ (le_refl _)).mono ?_); rintro e w1 ⟨yk, rfl, hy, fy, hl1⟩; have HY : Hid (can .f32 yk = can .f32 (q.y q.k)) := (by unfold Hid; rw [← hy, can_can]); have HY0 := hid hy; have FY := hid fy; have L1 := hid hl1; clear hy fy hl1)))
  have R1d : Hid (Row w1.drew g 158 #[s, .int .i64 (q.j : Nat), t, .int .i64 (q.k : Nat), .int .i64 1, .float .f32 q.a, .float .f32 q.b, .float .f32 q.c, .float .f32 z1, .float .f32 z2, .int .i64 5, .float .f32 q.a2, .float .f32 q.b2, .float .f32 q.c2, .float .f32 z3, .float .f32 z4, .float .f32 q.m, .float .f32 q.o, .pointer (some ⟨r, 0, none⟩), .pointer (some ⟨r2, 0, none⟩)]) := (HR.out.le L1.out).drewN 1
  have T1 : Hid (Row w1.drew r 149 #[mdl 1 q.a q.b q.c, .float .f32 q.p, .float .f32 q.q]) := (HRR.out.le L1.out).drewN 1
  have D1 : Hid (Row w1.drew r2 149 #[mdl 5 q.a2 q.b2 q.c2, .float .f32 q.p2, .float .f32 q.q2]) := (HRR2.out.le L1.out).drewN 1
  have c18 := (HR.out.le L1.out).cell? 18
  have c19 := (HR.out.le L1.out).cell? 19
  go_region_with (go_at_call 122; first | ((with_reducible refine (i_step 1 q.a q.b q.c q.p q.q yk r _ ⟨by decide, by decide⟩ T1.out OK.out.fp FY.out).mono ?_); rintro e w2 ⟨y1, rfl, hr1, fr1, hR1, hU1⟩; rw [st0_congr HY.out, st1_congr HY.out] at hR1; have T2 := hid hR1; have HC1 : Hid (can .f32 y1 = can .f32 (lJ q)) := (hr1.trans ((outF_congr HY.out).trans (can_outF _ _ _ _ _ _ _).symm)); have U1 := hid (chg_updJ hU1); have D2 := hid (U1.out.row D1.out (Ne.symm hrr)); have c19w := (U1.out.row R1d.out hg).cell? 19; clear hR1 hr1 hU1) | ((with_reducible refine (i_step 5 q.a2 q.b2 q.c2 q.p2 q.q2 y1 r2 _ ⟨by decide, by decide⟩ D2.out OK.out.fp2 fr1).mono ?_); rintro e w3 ⟨y2, rfl, hr2, fr2, hR2, hU2⟩; rw [st0_congr HC1.out, st1_congr HC1.out] at hR2; have D3 := hid hR2; have HE : Hid (can .f32 y2 = eJ q) := (hr2.trans (outF_congr HC1.out)); have U2 := hid (chg_updJ hU2); have T3 := hid (U2.out.row T2.out hrr); clear hR2 hr2 hU2))
  all_goals
    go_simp
    have C3 : Hid (Chg (fun i => i = r ∨ i = r2) w w3) := (Chg.of_le (le_trans L1.out (le_drewN w1 1))).trans ((U1.out.mono (fun i h => .inl h)).trans (U2.out.mono (fun i h => .inr h)))
    have R3 := hid (C3.out.row HR.out (by rintro (h | h); exact hg h; exact hg2 h))
    have P1 : Hid (OwnS w3 lo hi s q.x q.nx) := HO1.out.chgS C3.out (fun i a b e => by rcases e with e | e; (subst e; exact h1 ⟨a, b⟩); (subst e; exact h3 ⟨a, b⟩))
    have P2 : Hid (OwnS w3 lo2 hi2 t q.y q.ny) := HOO.out.chgS C3.out (fun i a b e => by rcases e with e | e; (subst e; exact h2 ⟨a, b⟩); (subst e; exact h4 ⟨a, b⟩))
    have c16 := R3.out.cell? 16
    clear U1 U2 T1 D1 T2 D2 R1d c19w c18 c19 HR HRR HRR2 HO1 HOO HO2
    go_wp2_with fail
    refine wp_region_tail (fun _ _ v => v = .float .f32 (n1J q br)) 14 (by kernel_rfl) (by kernel_rfl) ?_; simp only [List.take_succ_cons, List.take_zero, List.drop_succ_cons, List.drop_zero]
    repeat (first | (with_reducible refine wpLoose_farith (op := .mul) rfl rfl rfl rfl rfl ?_; intro rm hrm hfm; simp only [Act.put, List.setIfInBounds_toArray, List.set_cons_succ, List.set_cons_zero]) | (with_reducible refine wpLoose_farith (op := .sub) rfl rfl rfl rfl rfl ?_; intro ra hra hfa; simp only [Act.put, List.setIfInBounds_toArray, List.set_cons_succ, List.set_cons_zero]) | (refine wpLoose_quiet rfl ?_; go_big_quiet_step (fail); refine wpQuiet_nil ?_) | (refine wpLoose_nilP rfl rfl rfl ?_; simp only [Act.put, List.setIfInBounds_toArray, List.set_cons_succ, List.set_cons_zero]))
    refine wpLoose_any rfl (· = .float .f32 (n1J q br)) (fun m0 => ?_) ?_
    · go_simp
      refine (i_kept _ _ hfa.out).mono ?_
      rintro e w9 ⟨rfl, rfl⟩
      exact ⟨_, rfl, by rw [n1J_of HE.out hrm.out hra.out], m0, by first | rfl | (go_simp; done)⟩
    rintro v0 rfl
    simp only [Act.put, List.setIfInBounds_toArray, List.set_cons_succ, List.set_cons_zero]
    repeat (refine wpLoose_quiet rfl ?_; go_big_quiet_step (fail); refine wpQuiet_nil ?_)
    refine wpLoose_nil (fun m3 => ?_)
    go_wp2_with (go_at_call 117; ((with_reducible refine (i_push lo hi s q.x q.nx q.j (n1J q br) g 0 _ _ _ (P1.out.le (le_drewN _ _)) (R3.out.drewN _) rfl rfl g1 OK.out.j1 OK.out.nx2 (fits_n1J q br)).mono ?_); rintro e w5 ⟨o5, rfl, ho5, _, hR5, hO5, hC5⟩))
    have HT : Hid (can .f32 o5 = can .f32 (q.x q.j)) := (by unfold Hid; rw [← ho5, can_can])
    have R5 := hid (show Row w5 g 158 #[s, .int .i64 ((q.j + 1) % q.nx : Nat), t, .int .i64 (q.k : Nat), .int .i64 1, .float .f32 q.a, .float .f32 q.b, .float .f32 q.c, .float .f32 z1, .float .f32 z2, .int .i64 5, .float .f32 q.a2, .float .f32 q.b2, .float .f32 q.c2, .float .f32 z3, .float .f32 z4, .float .f32 q.m, .float .f32 q.o, .pointer (some ⟨r, 0, none⟩), .pointer (some ⟨r2, 0, none⟩)] from by simpa using hR5)
    have c17 := R5.out.cell? 17
    have Q1 := hid hO5
    have T5 := hid (hC5.row (T3.out.drewN _) (fun e => by rcases e with e | e; exact hg e.symm; exact h1 e))
    have D5 := hid (hC5.row (D3.out.drewN _) (fun e => by rcases e with e | e; exact hg2 e.symm; exact h3 e))
    have P5 := hid ((P2.out.le (le_drewN _ _)).chgS hC5 (fun i a b e => by rcases e with e | e; (subst e; exact g2 ⟨a, b⟩); omega))
    have C5 := hid (((C3.out.mono (T := fun i => i = g ∨ i = r ∨ i = r2 ∨ lo ≤ i ∧ i < hi ∨ lo2 ≤ i ∧ i < hi2) (fun i e => by rcases e with e | e; exact .inr (.inl e); exact .inr (.inr (.inl e)))).le (le_drewN _ _)).trans (hC5.mono (fun i e => by rcases e with e | e; exact .inl e; exact .inr (.inr (.inr (.inl e))))))
    clear hR5 hO5 hC5 P1 P2 R3 C3 ho5 c16 T3 D3
    go_wp2_with fail
    refine wp_region_tail (fun f _ v => if f = 127 then ∃ y, v = .float .f32 y ∧ can .f32 y = jetV (q.x q.j) else v = .float .f32 (n2J q)) 15 (by kernel_rfl) (by kernel_rfl) ?_; simp only [List.take_succ_cons, List.take_zero, List.drop_succ_cons, List.drop_zero]
    repeat (first | (refine wpLoose_quiet rfl ?_; go_big_quiet_step (fail); refine wpQuiet_nil ?_) | (refine wpLoose_nilP rfl rfl rfl ?_; simp only [Act.put, List.setIfInBounds_toArray, List.set_cons_succ, List.set_cons_zero]))
    refine wpLoose_any rfl (fun v => ∃ y, v = .float .f32 y ∧ can .f32 y = jetV (q.x q.j)) (fun m0 => ?_) ?_
    · go_simp
      refine (i_JetAtD _ _).mono ?_
      rintro e w9 ⟨y, rfl, hy, m2, rfl⟩
      exact ⟨_, rfl, ⟨y, rfl, hy.trans (jetV_congr HT.out)⟩, m0 + m2, by first | (go_simp; done) | (go_simp; rw [Nat.add_assoc])⟩
    rintro v0 ⟨yj, rfl, HJ⟩
    simp only [Act.put, List.setIfInBounds_toArray, List.set_cons_succ, List.set_cons_zero]
    repeat (first | (with_reducible refine wpLoose_farith (op := .mul) rfl rfl rfl rfl rfl ?_; intro rm hrm hfm; simp only [Act.put, List.setIfInBounds_toArray, List.set_cons_succ, List.set_cons_zero]) | (with_reducible refine wpLoose_farith (op := .add) rfl rfl rfl rfl rfl ?_; intro ra hra hfa; simp only [Act.put, List.setIfInBounds_toArray, List.set_cons_succ, List.set_cons_zero]) | (refine wpLoose_quiet rfl ?_; go_big_quiet_step (fail); refine wpQuiet_nil ?_) | (refine wpLoose_nilP rfl rfl rfl ?_; simp only [Act.put, List.setIfInBounds_toArray, List.set_cons_succ, List.set_cons_zero]))
    refine wpLoose_any rfl (· = .float .f32 (n2J q)) (fun m0 => ?_) ?_
    · go_simp
      refine (i_kept _ _ hfa.out).mono ?_
      rintro e w9 ⟨rfl, rfl⟩
      exact ⟨_, rfl, by rw [n2J_of HE.out HJ hrm.out hra.out], m0, by first | rfl | (go_simp; done)⟩
    rintro v0 rfl
    simp only [Act.put, List.setIfInBounds_toArray, List.set_cons_succ, List.set_cons_zero]
    repeat (refine wpLoose_quiet rfl ?_; go_big_quiet_step (fail); refine wpQuiet_nil ?_)
    refine wpLoose_nil (fun m3 => ?_)
    go_wp2_with (go_at_call 117; ((with_reducible refine (i_push lo2 hi2 t q.y q.ny q.k (n2J q) g 2 _ _ _ (P5.out.le (le_drewN _ _)) (R5.out.drewN _) rfl rfl g2 OK.out.k1 OK.out.ny2 (fits_n2J q)).mono ?_); rintro e w6 ⟨o6, rfl, _, _, hR6, hO6, hC6⟩))
    go_ret
    refine ⟨_, rfl, HY0.out, FY.out, by simpa [stepJ] using hR6, ?_, ?_, ?_, hO6, ?_⟩
    · exact hC6.row (T5.out.drewN _) (fun e => by rcases e with e | e; exact hg e.symm; exact h2 e)
    · exact hC6.row (D5.out.drewN _) (fun e => by rcases e with e | e; exact hg2 e.symm; exact h4 e)
    · exact (Q1.out.le (le_drewN _ _)).chgS hC6 (fun i a b e => by rcases e with e | e; (subst e; exact g1 ⟨a, b⟩); omega)
    · exact (C5.out.le (le_drewN _ _)).trans (hC6.mono (fun i e => by rcases e with e | e; exact .inl e; exact .inr (.inr (.inr (.inr e)))))
theorem inJ1 (s t : Value) (q : JtS) : FilIn #[s, .int .i64 (q.j : Nat), t, .int .i64 (q.k : Nat), .int .i64 1, .float .f32 q.a, .float .f32 q.b, .float .f32 q.c, .float .f32 q.p, .float .f32 q.q, .int .i64 5, .float .f32 q.a2, .float .f32 q.b2, .float .f32 q.c2, .float .f32 q.p2, .float .f32 q.q2, .float .f32 q.m, .float .f32 q.o] 4 1 q.a q.b q.c q.p q.q := ⟨rfl, rfl, rfl, rfl, rfl, rfl⟩
theorem inJ2 (s t : Value) (q : JtS) (u v : Nat) : FilIn #[s, .int .i64 (q.j : Nat), t, .int .i64 (q.k : Nat), .int .i64 1, .float .f32 q.a, .float .f32 q.b, .float .f32 q.c, .float .f32 u, .float .f32 v, .int .i64 5, .float .f32 q.a2, .float .f32 q.b2, .float .f32 q.c2, .float .f32 q.p2, .float .f32 q.q2, .float .f32 q.m, .float .f32 q.o] 10 5 q.a2 q.b2 q.c2 q.p2 q.q2 := ⟨rfl, rfl, rfl, rfl, rfl, rfl⟩
set_option maxRecDepth 100000 in
set_option maxHeartbeats 4000000 in
theorem s_l05StepJet (q : JtS) (br : Nat) (s t : Value) (lo hi lo2 hi2 g : Nat) (w : World) (R : Row w g 67 #[s, .int .i64 (q.j : Nat), t, .int .i64 (q.k : Nat), .int .i64 1, .float .f32 q.a, .float .f32 q.b, .float .f32 q.c, .float .f32 q.p, .float .f32 q.q, .int .i64 5, .float .f32 q.a2, .float .f32 q.b2, .float .f32 q.c2, .float .f32 q.p2, .float .f32 q.q2, .float .f32 q.m, .float .f32 q.o]) (O1 : OwnS w lo hi s q.x q.nx) (O2 : OwnS w lo2 hi2 t q.y q.ny) (ok : q.Ok) (hbr : fits .f32 br) (g1 : ¬ (lo ≤ g ∧ g < hi)) (g2 : ¬ (lo2 ≤ g ∧ g < hi2)) (hd : hi ≤ lo2 ∨ hi2 ≤ lo) :
    Calls Try.prog 96 #[.pointer (some ⟨g, 0, none⟩), .float .f32 br] w fun e w' => ∃ o, e = .returned (.float .f32 o) ∧ can .f32 o = q.y q.k ∧ fits .f32 o ∧ Row w' g 67 #[s, .int .i64 ((stepJ q br).j : Nat), t, .int .i64 ((stepJ q br).k : Nat), .int .i64 1, .float .f32 (stepJ q br).a, .float .f32 (stepJ q br).b, .float .f32 (stepJ q br).c, .float .f32 (stepJ q br).p, .float .f32 (stepJ q br).q, .int .i64 5, .float .f32 (stepJ q br).a2, .float .f32 (stepJ q br).b2, .float .f32 (stepJ q br).c2, .float .f32 (stepJ q br).p2, .float .f32 (stepJ q br).q2, .float .f32 (stepJ q br).m, .float .f32 (stepJ q br).o] ∧ OwnS w' lo hi s (stepJ q br).x q.nx ∧ OwnS w' lo2 hi2 t (stepJ q br).y q.ny ∧ Chg (fun i => i = g ∨ lo ≤ i ∧ i < hi ∨ lo2 ≤ i ∧ i < hi2) w w' := by
  have HO1 := hid O1; have HOO := hid O2
  rcases O1 with ⟨rfl, h0⟩ | ⟨d1, o1, cap1, ds1, rfl, hc1, hm1, hb1, hb1', hrow1, hx1⟩
  · have := ok.nx1; omega
  rcases O2 with ⟨rfl, h0⟩ | ⟨d2, o2, cap2, ds2, rfl, hc2, hm2, hb2, hb2', hrow2, hx2⟩
  · have := ok.ny1; omega
  obtain ⟨xj, ex, fx, cx⟩ := hx1 q.j ok.j1
  obtain ⟨yk, ey, fy, cy⟩ := hx2 q.k ok.k1
  have c0 := R.cell? 0
  have c1 := R.cell? 1
  have c2 := R.cell? 2
  have c3 := R.cell? 3
  have ca : w.cell? ⟨d1, o1 + q.j, none⟩ = some (.float .f32 xj) := (hrow1.cell? (o1 + q.j)).trans ex
  have cb : w.cell? ⟨d2, o2 + q.k, none⟩ = some (.float .f32 yk) := (hrow2.cell? (o2 + q.k)).trans ey
  have j1 := ok.j1
  have nx2 := ok.nx2
  have k1 := ok.k1
  have ny2 := ok.ny2
  have HT : Hid (can .f32 xj = can .f32 (q.x q.j)) := by unfold Hid; rw [← cx, can_can]
  have HY : Hid (can .f32 yk = can .f32 (q.y q.k)) := by unfold Hid; rw [← cy, can_can]
  have RR := hid R; have HY0 := hid cy; have FY := hid fy; have OK := hid ok
  clear R hrow1 hrow2 hx1 hx2 ex ey cx cy ok
  unfold maxLen at hm1 hm2
  go_enter Try.func96, Try.ntmps96
  go_wp2_with fail
  refine wp_region_loose (fun _ _ _ => True) (by kernel_rfl) (by kernel_rfl) ?_
  repeat (first | (refine wpLoose_quiet rfl ?_; go_big_quiet_step (fail); refine wpQuiet_nil ?_) | (refine wpLoose_nilP rfl rfl rfl ?_; simp only [Act.put, List.setIfInBounds_toArray, List.set_cons_succ, List.set_cons_zero]))
  refine wpLoose_nil (fun m1 => ?_)
  go_wp2_with fail
  refine wp_region_loose (fun _ _ _ => True) (by kernel_rfl) (by kernel_rfl) ?_
  repeat (first | (refine wpLoose_quiet rfl ?_; go_big_quiet_step (fail); refine wpQuiet_nil ?_) | (refine wpLoose_nilP rfl rfl rfl ?_; simp only [Act.put, List.setIfInBounds_toArray, List.set_cons_succ, List.set_cons_zero]))
  refine wpLoose_nil (fun m2 => ?_)
  clear c0 c1 c2 c3 ca cb
  go_wp2_with fail
  go_region_with (go_at_call 120; first | ((with_reducible refine (s_StepAt 1 q.a q.b q.c q.p q.q yk g 4 _ _ _ OK.out.f (RR.out.drewN _) (inJ1 _ _ q) OK.out.fp FY.out).mono ?_); rintro e w1 ⟨y1, rfl, hr1, fr1, hR1, hU1⟩; rw [st0_congr HY.out, st1_congr HY.out] at hR1; have R1 := hid (show Row w1 g 67 #[(.slice (some ⟨d1, o1, none⟩) q.nx cap1), .int .i64 (q.j : Nat), (.slice (some ⟨d2, o2, none⟩) q.ny cap2), .int .i64 (q.k : Nat), .int .i64 1, .float .f32 q.a, .float .f32 q.b, .float .f32 q.c, .float .f32 (st0 1 q.a q.b q.c q.p q.q (q.y q.k)), .float .f32 (st1 1 q.a q.b q.c q.p q.q (q.y q.k)), .int .i64 5, .float .f32 q.a2, .float .f32 q.b2, .float .f32 q.c2, .float .f32 q.p2, .float .f32 q.q2, .float .f32 q.m, .float .f32 q.o] from by simpa using hR1); have HC1 : Hid (can .f32 y1 = can .f32 (lJ q)) := (hr1.trans ((outF_congr HY.out).trans (can_outF _ _ _ _ _ _ _).symm)); have U1 := hid (chg_updJ hU1); clear hR1 hr1 hU1) | ((with_reducible refine (s_StepAt 5 q.a2 q.b2 q.c2 q.p2 q.q2 y1 g 10 _ _ _ OK.out.f2 R1.out (inJ2 _ _ q _ _) OK.out.fp2 fr1).mono ?_); rintro e w3 ⟨y2, rfl, hr2, fr2, hR2, hU2⟩; rw [st0_congr HC1.out, st1_congr HC1.out] at hR2; have R3 := hid (show Row w3 g 67 #[(.slice (some ⟨d1, o1, none⟩) q.nx cap1), .int .i64 (q.j : Nat), (.slice (some ⟨d2, o2, none⟩) q.ny cap2), .int .i64 (q.k : Nat), .int .i64 1, .float .f32 q.a, .float .f32 q.b, .float .f32 q.c, .float .f32 (st0 1 q.a q.b q.c q.p q.q (q.y q.k)), .float .f32 (st1 1 q.a q.b q.c q.p q.q (q.y q.k)), .int .i64 5, .float .f32 q.a2, .float .f32 q.b2, .float .f32 q.c2, .float .f32 (st0 5 q.a2 q.b2 q.c2 q.p2 q.q2 (lJ q)), .float .f32 (st1 5 q.a2 q.b2 q.c2 q.p2 q.q2 (lJ q)), .float .f32 q.m, .float .f32 q.o] from by simpa using hR2); have HE : Hid (can .f32 y2 = eJ q) := (hr2.trans (outF_congr HC1.out)); have U2 := hid (chg_updJ hU2); clear hR2 hr2 hU2))
  go_simp
  have C3 : Hid (Chg (· = g) w w3) := ((Chg.of_le (le_drewN _ _)).trans U1.out).trans U2.out
  have P1 : Hid (OwnS w3 lo hi (.slice (some ⟨d1, o1, none⟩) q.nx cap1) q.x q.nx) := HO1.out.chgS C3.out (fun i a b e => g1 (by have e' : i = g := e; subst e'; exact ⟨a, b⟩))
  have P2 : Hid (OwnS w3 lo2 hi2 (.slice (some ⟨d2, o2, none⟩) q.ny cap2) q.y q.ny) := HOO.out.chgS C3.out (fun i a b e => g2 (by have e' : i = g := e; subst e'; exact ⟨a, b⟩))
  have c16 := R3.out.cell? 16
  clear U1 U2 R1 RR HO1 HOO
  go_wp2_with fail
  refine wp_region_tail (fun _ _ v => v = .float .f32 (n1J q br)) 12 (by kernel_rfl) (by kernel_rfl) ?_; simp only [List.take_succ_cons, List.take_zero, List.drop_succ_cons, List.drop_zero]
  repeat (first | (with_reducible refine wpLoose_farith (op := .mul) rfl rfl rfl rfl rfl ?_; intro rm hrm hfm; simp only [Act.put, List.setIfInBounds_toArray, List.set_cons_succ, List.set_cons_zero]) | (with_reducible refine wpLoose_farith (op := .sub) rfl rfl rfl rfl rfl ?_; intro ra hra hfa; simp only [Act.put, List.setIfInBounds_toArray, List.set_cons_succ, List.set_cons_zero]) | (refine wpLoose_quiet rfl ?_; go_big_quiet_step (fail); refine wpQuiet_nil ?_) | (refine wpLoose_nilP rfl rfl rfl ?_; simp only [Act.put, List.setIfInBounds_toArray, List.set_cons_succ, List.set_cons_zero]))
  refine wpLoose_any rfl (· = .float .f32 (n1J q br)) (fun m0 => ?_) ?_
  · go_simp
    refine (s_Kept _ _ hfa.out).mono ?_
    rintro e w9 ⟨rfl, m2, rfl⟩
    exact ⟨_, rfl, by rw [n1J_of HE.out hrm.out hra.out], m0 + m2, by first | (go_simp; done) | (go_simp; rw [Nat.add_assoc])⟩
  rintro v0 rfl
  simp only [Act.put, List.setIfInBounds_toArray, List.set_cons_succ, List.set_cons_zero]
  repeat (refine wpLoose_quiet rfl ?_; go_big_quiet_step (fail); refine wpQuiet_nil ?_)
  refine wpLoose_nil (fun m3 => ?_)
  go_wp2_with (go_at_call 111; ((with_reducible refine (s_l02Push lo hi _ q.x q.nx q.j (n1J q br) g 0 _ _ _ (P1.out.le (le_drewN _ _)) (R3.out.drewN _) rfl rfl g1 OK.out.j1 OK.out.nx2 (fits_n1J q br)).mono ?_); rintro e w5 ⟨o5, rfl, ho5, _, hR5, hO5, hC5⟩))
  have R5 := hid (show Row w5 g 67 #[(.slice (some ⟨d1, o1, none⟩) q.nx cap1), .int .i64 ((q.j + 1) % q.nx : Nat), (.slice (some ⟨d2, o2, none⟩) q.ny cap2), .int .i64 (q.k : Nat), .int .i64 1, .float .f32 q.a, .float .f32 q.b, .float .f32 q.c, .float .f32 (st0 1 q.a q.b q.c q.p q.q (q.y q.k)), .float .f32 (st1 1 q.a q.b q.c q.p q.q (q.y q.k)), .int .i64 5, .float .f32 q.a2, .float .f32 q.b2, .float .f32 q.c2, .float .f32 (st0 5 q.a2 q.b2 q.c2 q.p2 q.q2 (lJ q)), .float .f32 (st1 5 q.a2 q.b2 q.c2 q.p2 q.q2 (lJ q)), .float .f32 q.m, .float .f32 q.o] from by simpa using hR5)
  have c17 := R5.out.cell? 17
  have Q1 := hid hO5
  have P5 := hid ((P2.out.le (le_drewN _ _)).chgS hC5 (fun i a b e => by rcases e with e | e; (subst e; exact g2 ⟨a, b⟩); omega))
  have C5 := hid (((C3.out.mono (T := fun i => i = g ∨ lo ≤ i ∧ i < hi ∨ lo2 ≤ i ∧ i < hi2) (fun i e => .inl e)).le (le_drewN _ _)).trans (hC5.mono (fun i e => by rcases e with e | e; exact .inl e; exact .inr (.inl e))))
  clear hR5 hO5 hC5 P1 P2 R3 C3 ho5 c16
  go_wp2_with fail
  refine wp_region_tail (fun f _ v => if f = 126 then ∃ y, v = .float .f32 y ∧ can .f32 y = jetV (q.x q.j) else v = .float .f32 (n2J q)) 13 (by kernel_rfl) (by kernel_rfl) ?_; simp only [List.take_succ_cons, List.take_zero, List.drop_succ_cons, List.drop_zero]
  repeat (first | (refine wpLoose_quiet rfl ?_; go_big_quiet_step (fail); refine wpQuiet_nil ?_) | (refine wpLoose_nilP rfl rfl rfl ?_; simp only [Act.put, List.setIfInBounds_toArray, List.set_cons_succ, List.set_cons_zero]))
  refine wpLoose_any rfl (fun v => ∃ y, v = .float .f32 y ∧ can .f32 y = jetV (q.x q.j)) (fun m0 => ?_) ?_
  · go_simp
    refine (s_l05EdgeD _ _).mono ?_
    rintro e w9 ⟨y, rfl, hy, m2, rfl⟩
    exact ⟨_, rfl, ⟨y, rfl, hy.trans (jetV_congr HT.out)⟩, m0 + m2, by first | (go_simp; done) | (go_simp; rw [Nat.add_assoc])⟩
  rintro v0 ⟨yj, rfl, HJ⟩
  simp only [Act.put, List.setIfInBounds_toArray, List.set_cons_succ, List.set_cons_zero]
  repeat (first | (with_reducible refine wpLoose_farith (op := .mul) rfl rfl rfl rfl rfl ?_; intro rm hrm hfm; simp only [Act.put, List.setIfInBounds_toArray, List.set_cons_succ, List.set_cons_zero]) | (with_reducible refine wpLoose_farith (op := .add) rfl rfl rfl rfl rfl ?_; intro ra hra hfa; simp only [Act.put, List.setIfInBounds_toArray, List.set_cons_succ, List.set_cons_zero]) | (refine wpLoose_quiet rfl ?_; go_big_quiet_step (fail); refine wpQuiet_nil ?_) | (refine wpLoose_nilP rfl rfl rfl ?_; simp only [Act.put, List.setIfInBounds_toArray, List.set_cons_succ, List.set_cons_zero]))
  refine wpLoose_any rfl (· = .float .f32 (n2J q)) (fun m0 => ?_) ?_
  · go_simp
    refine (s_Kept _ _ hfa.out).mono ?_
    rintro e w9 ⟨rfl, m2, rfl⟩
    exact ⟨_, rfl, by rw [n2J_of HE.out HJ hrm.out hra.out], m0 + m2, by first | (go_simp; done) | (go_simp; rw [Nat.add_assoc])⟩
  rintro v0 rfl
  simp only [Act.put, List.setIfInBounds_toArray, List.set_cons_succ, List.set_cons_zero]
  repeat (refine wpLoose_quiet rfl ?_; go_big_quiet_step (fail); refine wpQuiet_nil ?_)
  refine wpLoose_nil (fun m3 => ?_)
  go_wp2_with (go_at_call 111; ((with_reducible refine (s_l02Push lo2 hi2 _ q.y q.ny q.k (n2J q) g 2 _ _ _ (P5.out.le (le_drewN _ _)) (R5.out.drewN _) rfl rfl g2 OK.out.k1 OK.out.ny2 (fits_n2J q)).mono ?_); rintro e w6 ⟨o6, rfl, _, _, hR6, hO6, hC6⟩))
  go_ret
  refine ⟨_, rfl, HY0.out, FY.out, by simpa [stepJ] using hR6, ?_, hO6, ?_⟩
  · exact (Q1.out.le (le_drewN _ _)).chgS hC6 (fun i a b e => by rcases e with e | e; (subst e; exact g1 ⟨a, b⟩); omega)
  · exact (C5.out.le (le_drewN _ _)).trans (hC6.mono (fun i e => by rcases e with e | e; exact .inl e; exact .inr (.inr e)))
end Go.Proofs.Ytgjdmoenobacgaa

/- As FreeD, where one operation (with the index c) may write what all others leave as it is: it comes up but once. Nothing here names a program. -/
namespace Go.Fk
open Go Go.RowKit
section
variable (E0 E1 : Ext) (c : Nat) (Vc : World → Value → Prop) (P : Program) (ops : Array Oper) (md : Region.Mode) (W : World) (K : FuncId → Array Value → World → Value → Prop)
def preE (i : Nat) : Ext := if i = c then E0 else E1
def stepE (i : Nat) : Ext := if i = c then E1 else E0
def YieldsP (i : Nat) (o : Oper) (a : Act) (F : Facts) (V : World → Value → Prop) : Prop :=
  MonoT E1 V ∧ (i = c → V = Vc) ∧ ((Region.wanted o (yielded ops a.tmps) = true ∧ ∀ w, (preE E0 E1 c i).R W w → behind md o F w → insideT (stepE E0 E1 c i) P K w V ((execOp a.eval o).run P w)) ∨ (i ≠ c ∧ Region.wanted o (yielded ops a.tmps) = false ∧ ∀ w, E1.R W w → behind md o F w → V w undef))
def wpFreeP (Q : Act → World → Prop) : List Oper → Nat → Act → Facts → Prop
  | [], _, a, F => ∀ w, E1.R W w → (∀ e, F e w) → Q a w
  | o :: rest, k, a, F => ∃ V, YieldsP E0 E1 c Vc P ops md W K k o a F V ∧ ∀ v, met E1 W F (fun w => V w v) → wpFreeP Q rest (k + 1) (a.put o.dst v) (F.with k (fun w => V w v))
def anyFreeP (n : Nat) (L : Array Bool → Act → Facts → Prop) : Nat → Array Bool → Act → Facts → Prop
  | 0, listed, a, F => L listed a F
  | f + 1, listed, a, F => Region.ready md ops listed ≠ [] ∧
      ∀ i ∈ Region.ready md ops listed, i < n ∧ ∀ o, ops[i]? = some o → ∃ V, YieldsP E0 E1 c Vc P ops md W K i o a F V ∧ ∀ v, met E1 W F (fun w => V w v) → anyFreeP n L f (listed.setIfInBounds i true) (a.put o.dst v) (F.with i (fun w => V w v))
end
section
variable {E0 E1 : Ext} {c : Nat} {Vc : World → Value → Prop} {P : Program} {ops : Array Oper} {md : Region.Mode} {W : World} {K : FuncId → Array Value → World → Value → Prop}
theorem stepE_sub (hs : ∀ w w', E0.R w w' → E1.R w w') {i : Nat} {w w' : World} (h : (stepE E0 E1 c i).R w w') : E1.R w w' := by
  unfold stepE at h
  split at h
  · exact h
  · exact hs _ _ h
theorem YieldsP.some (hs : ∀ w w', E0.R w w' → E1.R w w') (hVc : ∀ w, E1.R W w → ∃ v w', E1.R w w' ∧ Vc w' v) {i : Nat} {o : Oper} {a : Act} {F : Facts} {V : World → Value → Prop} (hm : FMono E1 F) (hx : met E1 W F (fun _ => True)) (h : YieldsP E0 E1 c Vc P ops md W K i o a F V) : ∃ v, met E1 W F (fun w => V w v) := by
  obtain ⟨w, hw, hF, _⟩ := hx
  by_cases e : i = c
  · obtain ⟨v, w', hl, hv⟩ := hVc w hw
    exact ⟨v, w', E1.trans hw hl, hm w w' hl hF, by rw [h.2.1 e]; exact hv⟩
  · rcases h.2.2 with ⟨_, h⟩ | ⟨_, _, h⟩
    · obtain ⟨v, w', hl, hv⟩ := insideT_some (h w (by unfold preE; rw [if_neg e]; exact hw) (fun e _ _ => hF e.on))
      have hl' := stepE_sub hs hl
      exact ⟨v, w', E1.trans hw hl', hm w w' hl' hF, hv⟩
    · exact ⟨undef, w, hw, hF, h w hw (fun e _ _ => hF e.on)⟩
theorem YieldsP.same {i : Nat} {o : Oper} {a a' : Act} {F : Facts} {V : World → Value → Prop} (he : execOp a'.eval o = execOp a.eval o) (hw : Region.wanted o (yielded ops a'.tmps) = Region.wanted o (yielded ops a.tmps))
    (h : YieldsP E0 E1 c Vc P ops md W K i o a F V) : YieldsP E0 E1 c Vc P ops md W K i o a' F V := by
  unfold YieldsP at *; rw [he, hw]; exact h
theorem YieldsP.less {j : Nat} {o : Oper} {a : Act} {F : Facts} {i : Nat} {X : World → Prop} {V : World → Value → Prop} (hn : ∀ e ∈ o.after, Region.binds md e = true → e.on ≠ i) (h : YieldsP E0 E1 c Vc P ops md W K j o a (F.with i X) V) : YieldsP E0 E1 c Vc P ops md W K j o a F V := by
  have key : ∀ w, behind md o F w → behind md o (F.with i X) w := fun w hw e he hb => ⟨hw e he hb, fun h => absurd h (hn e he hb)⟩
  refine ⟨h.1, h.2.1, ?_⟩
  rcases h.2.2 with ⟨h1, h2⟩ | ⟨h0, h1, h2⟩
  · exact .inl ⟨h1, fun w hw hb => h2 w hw (key w hb)⟩
  · exact .inr ⟨h0, h1, fun w hw hb => h2 w hw (key w hb)⟩
theorem YieldsP.stronger {j : Nat} {o : Oper} {a : Act} {F F' : Facts} {V : World → Value → Prop} (hF : ∀ e w, F' e w → F e w) (h : YieldsP E0 E1 c Vc P ops md W K j o a F V) : YieldsP E0 E1 c Vc P ops md W K j o a F' V := by
  have key : ∀ w, behind md o F' w → behind md o F w := fun w hw e he hb => hF _ _ (hw e he hb)
  refine ⟨h.1, h.2.1, ?_⟩
  rcases h.2.2 with ⟨h1, h2⟩ | ⟨h0, h1, h2⟩
  · exact .inl ⟨h1, fun w hw hb => h2 w hw (key w hb)⟩
  · exact .inr ⟨h0, h1, fun w hw hb => h2 w hw (key w hb)⟩
theorem YieldsP.more {j : Nat} {o : Oper} {a : Act} {F : Facts} {i : Nat} {X : World → Prop} {V : World → Value → Prop} (h : YieldsP E0 E1 c Vc P ops md W K j o a F V) : YieldsP E0 E1 c Vc P ops md W K j o a (F.with i X) V := h.stronger (fun _ _ h => h.1)
theorem insideT_mono {E E' : Ext} (hE : ∀ w w', E.R w w' → E'.R w w') {V : World → Value → Prop} {w : World} {r : Result Next} (h : insideT E P K w V r) : insideT E' P K w V r := by
  cases r with
  | ok n w' =>
    cases n <;> simp only [insideT] at h ⊢
    case value u => exact ⟨hE _ _ h.1, h.2⟩
    case skip => exact ⟨hE _ _ h.1, h.2⟩
    case enter f args => exact ⟨hE _ _ h.1, h.2.1.mono (fun e w'' ⟨v, e1, e2, e3⟩ => ⟨v, e1, hE _ _ e2, e3⟩), h.2.2⟩
  | halt x w' => simp only [insideT] at h
theorem wpOp_yieldsP {i : Nat} {o : Oper} {a : Act} {w : World} {F : Facts} {V : World → Value → Prop} {next : Act → World → Prop} {Q' : Exit → Act → World → Prop} (ho : ops[i]? = some o) (hw1 : E1.R W w) (hw : (preE E0 E1 c i).R W w) (hF : ∀ e, F e w) (hg : YieldsP E0 E1 c Vc P ops md W K i o a F V)
    (hn : ∀ v w', (stepE E0 E1 c i).R w w' → V w' v → next (a.put o.dst v) w') : wpOp P ops Q' i next a w := by
  unfold wpOp
  simp only [ho]
  rcases hg.2.2 with ⟨hwant, hv⟩ | ⟨_, hwant, hv⟩
  · rw [if_pos hwant]
    left
    have h3 := hv w hw (fun e _ _ => hF e.on)
    unfold Oper.wp
    generalize (execOp a.eval o).run P w = r at h3
    cases r with
    | ok x w' =>
      cases x <;> simp only [insideT] at h3 <;> simp only [Oper.upon]
      case value u => exact hn u _ h3.1 h3.2
      case skip => exact hn undef _ h3.1 h3.2
      case enter f args =>
        refine h3.2.1.mono fun e w'' he => ?_
        obtain ⟨v, rfl, hl, hk⟩ := he
        exact hn v _ ((stepE E0 E1 c i).trans h3.1 hl) (h3.2.2 w'' v hk)
    | halt x w' => simp only [insideT] at h3
  · rw [if_neg (by simp [hwant])]
    exact hn undef _ ((stepE E0 E1 c i).refl w) (hv w hw1 (fun e _ _ => hF e.on))
theorem anyFreeP_sound (hs : ∀ w w', E0.R w w' → E1.R w w') {n g : Nat} {L : Array Bool → Act → Facts → Prop} {Q' : Exit → Act → World → Prop} (hL : ∀ listed a F w, E1.R W w → (∀ e, F e w) → L listed a F → wpAny P md ops Q' g listed a w) :
    ∀ (f : Nat) (listed : Array Bool) (a : Act) (F : Facts) (w : World), FMono E1 F → E1.R W w → (listed.getD c true = false → E0.R W w) → (∀ e, F e w) → anyFreeP E0 E1 c Vc P ops md W K n L f listed a F → wpAny P md ops Q' (f + g) listed a w := by
  intro f
  induction f with
  | zero => intro listed a F w _ hw _ hF h; rw [Nat.zero_add]; exact hL _ _ _ _ hw hF h
  | succ f ih =>
    intro listed a F w hm hw hph hF h
    rw [show f + 1 + g = (f + g) + 1 by omega]
    refine ⟨fun h0 => absurd h0 h.1, fun i hi => ?_⟩
    obtain ⟨hun, o, ho, _⟩ := mem_ready.1 hi
    obtain ⟨V, hg, hn⟩ := (h.2 i hi).2 o ho
    have hpre : (preE E0 E1 c i).R W w := by
      unfold preE
      split
      · next e => subst e; exact hph hun
      · exact hw
    refine wpOp_yieldsP ho hw hpre hF hg (fun v w' hl hv => ih _ _ _ _ (hm.with hg.1 i v) (E1.trans hw (stepE_sub hs hl)) (fun hc => ?_) (Facts.with_mk (hm w w' (stepE_sub hs hl) hF) hv) (hn v ⟨w', E1.trans hw (stepE_sub hs hl), hm w w' (stepE_sub hs hl) hF, hv⟩))
    by_cases e : i = c
    · subst e
      have hlt : i < listed.size := by
        apply Nat.lt_of_not_le
        intro hle
        simp [Array.getD, Nat.not_lt.2 hle] at hun
      simp [Array.getD, hlt] at hc
    · rw [getD_set_ne true e] at hc
      unfold stepE at hl
      rw [if_neg e] at hl
      exact E0.trans (hph hc) hl
theorem anyFreeP_weaken {n : Nat} {L : Array Bool → Act → Facts → Prop} (hLm : ∀ listed a F F', (∀ e w, F' e w → F e w) → L listed a F → L listed a F') :
    ∀ (f : Nat) (listed : Array Bool) (a : Act) (F F' : Facts), (∀ e w, F' e w → F e w) → anyFreeP E0 E1 c Vc P ops md W K n L f listed a F → anyFreeP E0 E1 c Vc P ops md W K n L f listed a F' := by
  intro f
  induction f with
  | zero => intro listed a F F' h hh; exact hLm _ _ _ _ h hh
  | succ f ih =>
    intro listed a F F' h hh
    refine ⟨hh.1, fun i hi => ⟨(hh.2 i hi).1, fun o ho => ?_⟩⟩
    obtain ⟨V, hg, hn⟩ := (hh.2 i hi).2 o ho
    exact ⟨V, hg.stronger h, fun v hv => ih _ _ _ _ (fun e w hw => ⟨h e w hw.1, hw.2⟩) (hn v (hv.weaken (fun w hw e => h e w (hw e))))⟩
theorem anyFreeP_first (hs : ∀ w w', E0.R w w' → E1.R w w') (hVc : ∀ w, E1.R W w → ∃ v w', E1.R w w' ∧ Vc w' v) {n i : Nat} {oi : Oper} {V : World → Value → Prop} {L : Array Bool → Act → Facts → Prop} (hi : ops[i]? = some oi) (hsel : ∀ (j : Nat) (o : Oper) cs b, ops[j]? = some o → o.op ≠ .select cs b)
    (hbound : ∀ listed i, HeadInv md ops n listed → i < n → listed.getD i true = false → ∀ j ∈ Region.ready md ops listed, j < n) (hin : i < n)
    (hdone : ∀ listed a F, L listed a F → ∀ j ∈ Region.ready md ops listed, n ≤ j) (hLm : ∀ listed a F F', (∀ e w, F' e w → F e w) → L listed a F → L listed a F') :
    ∀ (f : Nat) (listed : Array Bool) (a : Act) (F : Facts), HeadInv md ops n listed →
      (∀ j oj, ops[j]? = some oj → j ≠ i → listed.getD j true = false → (∀ e ∈ oj.after, Region.binds md e = true → e.on ≠ i) → oi.apart ops oj = true) →
      i ∈ Region.ready md ops listed → FMono E1 F → met E1 W F (fun _ => True) → YieldsP E0 E1 c Vc P ops md W K i oi a F V →
      (∀ v, met E1 W F (fun w => V w v) → anyFreeP E0 E1 c Vc P ops md W K n L f (listed.setIfInBounds i true) (a.put oi.dst v) (F.with i (fun w => V w v))) → anyFreeP E0 E1 c Vc P ops md W K n L (f + 1) listed a F := by
  intro f
  induction f with
  | zero =>
    intro listed a F inv _ hr hm hx hg H
    have hun := (mem_ready.1 hr).1
    refine ⟨fun h => (by rw [h] at hr; cases hr), fun j hj => ?_⟩
    have hjn := hbound listed i inv hin hun j hj
    refine ⟨hjn, fun o ho => ?_⟩
    by_cases hji : j = i
    · subst hji
      rw [hi] at ho; cases ho
      exact ⟨V, hg, H⟩
    · obtain ⟨v, hv⟩ := hg.some hs hVc hm hx
      have := hdone _ _ _ (H v hv) j (ready_mono hj hji)
      omega
  | succ f ih =>
    intro listed a F inv hfree hr hm hx hg H
    have hun := (mem_ready.1 hr).1
    refine ⟨fun h => (by rw [h] at hr; cases hr), fun j hj => ?_⟩
    have hjn := hbound listed i inv hin hun j hj
    refine ⟨hjn, fun o ho => ?_⟩
    by_cases hji : j = i
    · subst hji
      rw [hi] at ho; cases ho
      exact ⟨V, hg, H⟩
    · obtain ⟨hjun, oj, hoj, hall⟩ := mem_ready.1 hj
      rw [ho] at hoj; cases hoj
      have hnot : ∀ e ∈ o.after, Region.binds md e = true → e.on ≠ i := fun e he hb heq => by
        have h1 := hall e he hb
        rw [heq, getD_both hun] at h1
        cases h1
      have hap := hfree j o ho hji hjun hnot
      obtain ⟨a1, a2, a3⟩ := Oper.apart_spec hap
      have hsi := fun cs b => hsel i oi cs b hi
      have hsj := fun cs b => hsel j o cs b ho
      have hU : ∀ v : {v // met E1 W F (fun w => V w v)}, ∃ U, YieldsP E0 E1 c Vc P ops md W K j o (a.put oi.dst v.1) (F.with i (fun w => V w v.1)) U ∧ ∀ u, met E1 W (F.with i (fun w => V w v.1)) (fun w => U w u) →
          anyFreeP E0 E1 c Vc P ops md W K n L f ((listed.setIfInBounds i true).setIfInBounds j true) ((a.put oi.dst v.1).put o.dst u) ((F.with i (fun w => V w v.1)).with j (fun w => U w u)) :=
        fun v => ((H v.1 v.2).2 j (ready_mono hj hji)).2 o ho
      obtain ⟨U, hU⟩ := Classical.skolem.1 hU
      obtain ⟨v0, hv0⟩ := hg.some hs hVc hm hx
      have hone : ∀ v, YieldsP E0 E1 c Vc P ops md W K j o a F (U v) := fun v => ((hU v).1.same (execOp_put o hsj a oi.dst v.1 a1).symm (wanted_put o a oi.dst v.1 a1).symm).less hnot
      have hgood : YieldsP E0 E1 c Vc P ops md W K j o a F (fun w u => ∀ v, U v w u) := by
        refine ⟨fun u w w' hl h v => (hone v).1 u w w' hl (h v), fun e => ?_, ?_⟩
        · funext w u
          exact propext ⟨fun h => by have := h ⟨v0, hv0⟩; rw [(hone ⟨v0, hv0⟩).2.1 e] at this; exact this, fun h v => by rw [(hone v).2.1 e]; exact h⟩
        by_cases hw : Region.wanted o (yielded ops a.tmps) = true
        · refine .inl ⟨hw, fun w hw' hb => inside_allT ⟨⟨v0, hv0⟩, trivial⟩ (fun v => ?_)⟩
          rcases (hone v).2.2 with ⟨_, h3⟩ | ⟨_, h3, _⟩
          · exact h3 w hw' hb
          · rw [hw] at h3; cases h3
        · have hne : j ≠ c := by
            rcases (hone ⟨v0, hv0⟩).2.2 with ⟨h3, _⟩ | ⟨h3, _, _⟩
            · exact absurd h3 hw
            · exact h3
          refine .inr ⟨hne, by simpa using hw, fun w hw' hb v => ?_⟩
          rcases (hone v).2.2 with ⟨h3, _⟩ | ⟨_, _, h3⟩
          · exact absurd h3 hw
          · exact h3 w hw' hb
      refine ⟨_, hgood, ?_⟩
      intro u hu
      have hfree' : ∀ k ok, ops[k]? = some ok → k ≠ i → (listed.setIfInBounds j true).getD k true = false →
          (∀ e ∈ ok.after, Region.binds md e = true → e.on ≠ i) → oi.apart ops ok = true := fun k ok hk hki hun hno => by
        refine hfree k ok hk hki ?_ hno
        by_cases hjk : j = k
        · subst hjk; exact hjun
        · rw [getD_set_ne true hjk] at hun; exact hun
      have hx' : met E1 W (F.with j (fun w => ∀ v, U v w u)) (fun _ => True) := by
        obtain ⟨w, hw, hF, hv⟩ := hu
        exact ⟨w, hw, Facts.with_mk hF hv, trivial⟩
      refine ih (listed.setIfInBounds j true) (a.put o.dst u) (F.with j (fun w => ∀ v, U v w u)) (inv.set hj hjn) hfree' (ready_mono hr (Ne.symm hji)) (hm.with hgood.1 j u) hx' ((hg.same (execOp_put oi hsi a o.dst u a3) (wanted_put oi a o.dst u a3)).more) (fun v hv => ?_)
      rw [Array.setIfInBounds_comm _ _ hji, ← Act.put_comm a v u a2]
      obtain ⟨w, hw, hF, hVv⟩ := hv
      have hF' := Facts.with_of hF
      have mv : met E1 W F (fun w => V w v) := ⟨w, hw, hF'.1, hVv⟩
      exact anyFreeP_weaken hLm _ _ _ _ _ (fun e w' h' => ⟨⟨h'.1.1, h'.2⟩, fun he => h'.1.2 he ⟨v, mv⟩⟩) ((hU ⟨v, mv⟩).2 u ⟨w, hw, Facts.with_mk hF'.1 hVv, hF'.2 ⟨v, mv⟩⟩)

theorem anyFreeP_lex (hs : ∀ w w', E0.R w w' → E1.R w w') (hVc : ∀ w, E1.R W w → ∃ v w', E1.R w w' ∧ Vc w' v) {n g : Nat} {R : Act → World → Prop} (hsel : Region.noSelect ops = true)
    (hbound : ∀ listed i, HeadInv md ops n listed → i < n → listed.getD i true = false → ∀ j ∈ Region.ready md ops listed, j < n) :
    ∀ (l : List Oper) (k : Nat) (listed : Array Bool) (a : Act) (F : Facts), (∀ j, j < l.length → l[j]? = ops[k + j]?) → k + l.length = n → HeadInv md ops n listed →
    Region.lexHead md ops g l.length k listed = true → FMono E1 F → met E1 W F (fun _ => True) → wpFreeP E0 E1 c Vc P ops md W K R l k a F →
    anyFreeP E0 E1 c Vc P ops md W K n (fun listed' a' F' => Region.seqB md ops g n listed' = true ∧ ∀ w, E1.R W w → (∀ e, F' e w) → R a' w) l.length listed a F := by
  intro l
  induction l with
  | nil =>
    intro k listed a F _ hk _ hB _ _ h
    have : k = n := by simpa using hk
    subst this
    exact ⟨by simpa [Region.lexHead] using hB, h⟩
  | cons o l ih =>
    intro k listed a F hl hk inv hB hm hx h
    have h0 : ops[k]? = some o := by simpa using (hl 0 (by simp)).symm
    simp only [List.length_cons, Region.lexHead, Bool.and_eq_true] at hB
    obtain ⟨⟨hr, hf⟩, hB'⟩ := hB
    have hkn : k < n := by simp only [List.length_cons] at hk; omega
    have hr' : k ∈ Region.ready md ops listed := by simpa using hr
    obtain ⟨V, hg, hnext⟩ := h
    exact anyFreeP_first hs hVc h0 (Region.noSelect_spec hsel) hbound hkn (fun listed' a' F' hL => seqB_ready hL.1) (fun _ _ _ _ hF hL => ⟨hL.1, fun w hw h' => hL.2 w hw (fun e => hF e w (h' e))⟩) l.length listed a F inv (Region.free_spec h0 hf) hr' hm hx hg
      (fun v hv => ih (k + 1) _ _ _ (fun j hj => by have := hl (j + 1) (by simp; omega); simpa [Nat.add_assoc, Nat.add_comm 1 j] using this) (by simp only [List.length_cons] at hk; omega) (inv.set hr' hkn) hB' (hm.with hg.1 k v)
        (by obtain ⟨w, hw, hF, hv'⟩ := hv; exact ⟨w, hw, Facts.with_mk hF hv', trivial⟩) (hnext v hv))

/-- A REGION THAT DRAWS ITS ORDER, one of whose operations writes. -/
theorem region_freeP (hs : ∀ w w', E0.R w w' → E1.R w w') (K : FuncId → Array Value → World → Value → Prop) {id : Nat} {Q : Exit → Act → World → Prop} {a : Act} {w : World} {l : List Oper} (hVc : ∀ w', E1.R (w.drewN 1) w' → ∃ v w'', E1.R w' w'' ∧ Vc w'' v) (hm : P.follows .mixedOrders = true)
    (hB : (Region.noSelect l.toArray && Region.lexHead .any l.toArray 0 l.length 0 (Array.replicate l.toArray.size false)) = true)
    (h : wpFreeP E0 E1 c Vc P l.toArray .any (w.drewN 1) K (fun a' w' => Q .normal a' w') l 0 a noFacts) : (Code.region id l.toArray true).wp P Q a w := by
  simp only [Bool.and_eq_true] at hB
  obtain ⟨hsel, hlex⟩ := hB
  have hbound : ∀ listed i, HeadInv .any l.toArray l.length listed → i < l.length → listed.getD i true = false → ∀ j ∈ Region.ready .any l.toArray listed, j < l.length := by
    intro listed i _ _ _ j hj
    obtain ⟨_, oj, hoj, _⟩ := mem_ready.1 hj
    simpa using (Array.getElem?_eq_some_iff.1 hoj).1
  have H := anyFreeP_lex (md := .any) (g := 0) hs hVc hsel hbound l 0 _ a noFacts (fun j hj => by simp) (by simp) (head_start _ l.length) hlex (fun _ _ _ h => h) ⟨w.drewN 1, E1.refl _, fun _ => trivial, trivial⟩ h
  refine wp_region_any hm ?_
  have := anyFreeP_sound (Q' := Q) (W := w.drewN 1) (g := 0) hs (fun listed a' F w' hw' hF hL => ⟨by simpa [Region.seqB] using hL.1, hL.2 w' hw' hF⟩) _ _ _ _ _ (fun _ _ _ h => h) (E1.refl _) (fun _ => E0.refl _) (fun _ => trivial) H
  rw [Nat.add_zero] at this
  exact this
end
end Go.Fk

/- Regions with a call that writes: laws of single operations. Nothing here names a program. -/
namespace Go.Fk
open Go Go.RowKit
section
variable {E0 E1 : Ext} {c : Nat} {Vc : World → Value → Prop} {P : Program} {ops : Array Oper} {W : World} {K : FuncId → Array Value → World → Value → Prop} {Q : Act → World → Prop} {F : Facts} {k : Nat} {o : Oper} {rest : List Oper} {a : Act}
theorem wpFreeP_weaken : ∀ (l : List Oper) (k : Nat) (a : Act) (F F' : Facts), (∀ e w, F' e w → F e w) → wpFreeP E0 E1 c Vc P ops .any W K Q l k a F → wpFreeP E0 E1 c Vc P ops .any W K Q l k a F' := by
  intro l
  induction l with
  | nil => intro k a F F' h hh w hw hF; exact hh w hw (fun e => h e w (hF e))
  | cons o l ih =>
    intro k a F F' h hh
    obtain ⟨V, hg, hn⟩ := hh
    exact ⟨V, hg.stronger h, fun v hv => ih _ _ _ _ (fun e w hw => ⟨h e w hw.1, hw.2⟩) (hn v (hv.weaken (fun w hw e => h e w (hw e))))⟩
theorem wpFreeP_nil (h : ∀ w, E1.R W w → (∀ e, F e w) → Q a w) : wpFreeP E0 E1 c Vc P ops .any W K Q [] k a F := h
theorem wpFreeP_some (hk : k ≠ c) (hg : o.guard = none) (V : Value → Prop) (hr : ∀ w, E1.R W w → ∃ v n, (execOp a.eval o).run P w = .ok (.value v) (w.drewN n) ∧ V v)
    (h : ∀ v, V v → wpFreeP E0 E1 c Vc P ops .any W K Q rest (k + 1) (a.put o.dst v) (F.with k (fun _ => True))) : wpFreeP E0 E1 c Vc P ops .any W K Q (o :: rest) k a F := by
  refine ⟨fun _ u => V u, ⟨fun _ _ _ _ h => h, fun e => absurd e hk, .inl ⟨by simp [Region.wanted, hg], fun w hw _ => ?_⟩⟩, fun u hu => ?_⟩
  · obtain ⟨v, n, hrun, hv⟩ := hr w (by unfold preE at hw; rw [if_neg hk] at hw; exact hw)
    rw [hrun]; exact ⟨(stepE E0 E1 c k).of_le (le_drewN w n), hv⟩
  · obtain ⟨w, _, _, hv⟩ := hu
    exact wpFreeP_weaken _ _ _ _ _ (fun e w h => ⟨h.1, fun _ => trivial⟩) (h u hv)
theorem wpFreeP_one (hk : k ≠ c) (hg : o.guard = none) (v : Value) (hr : ∀ w, E1.R W w → (execOp a.eval o).run P w = .ok (.value v) w)
    (h : wpFreeP E0 E1 c Vc P ops .any W K Q rest (k + 1) (a.put o.dst v) (F.with k (fun _ => True))) : wpFreeP E0 E1 c Vc P ops .any W K Q (o :: rest) k a F :=
  wpFreeP_some hk hg (· = v) (fun w hw => ⟨v, 0, by rw [hr w hw]; rfl, rfl⟩) (by rintro u rfl; exact h)
theorem wpFreeP_quiet (hk : k ≠ c) (hnc : simple o.op = true) (h : wpQuiet P ops (fun _ => True) (fun a' => wpFreeP E0 E1 c Vc P ops .any W K Q rest (k + 1) a' (F.with k (fun _ => True))) [o] a) : wpFreeP E0 E1 c Vc P ops .any W K Q (o :: rest) k a F := by
  simp only [wpQuiet] at h
  by_cases hw : Region.wanted o (yielded ops a.tmps) = true
  · rw [if_pos hw] at h
    obtain ⟨v, h1, h2⟩ := h
    refine ⟨fun _ u => u = v, ⟨fun _ _ _ _ h => h, fun e => absurd e hk, .inl ⟨hw, fun w hw' _ => ?_⟩⟩, fun u hu => ?_⟩
    · have h3 := h1 w trivial
      unfold Oper.quietAt at h3
      generalize hrun : (execOp a.eval o).run P w = r at h3
      cases r with
      | ok n w' =>
        cases n <;> simp only [Oper.quietUpon] at h3 <;> simp only [insideT]
        case value u => exact ⟨by rw [h3.1]; exact (stepE E0 E1 c k).refl w, h3.2⟩
        case skip => exact ⟨by rw [h3.1]; exact (stepE E0 E1 c k).refl w, h3.2.symm⟩
        case enter f args => exact (noEnter hnc hrun).elim
      | halt x w' => simp only [Oper.quietUpon] at h3
    · obtain ⟨w, _, _, rfl⟩ := hu
      exact wpFreeP_weaken _ _ _ _ _ (fun e w h => ⟨h.1, fun _ => trivial⟩) h2
  · rw [if_neg hw] at h
    refine ⟨fun _ u => u = undef, ⟨fun _ _ _ _ h => h, fun e => absurd e hk, .inr ⟨hk, by simpa using hw, fun _ _ _ => rfl⟩⟩, fun u hu => ?_⟩
    obtain ⟨w, _, _, rfl⟩ := hu
    exact wpFreeP_weaken _ _ _ _ _ (fun e w h => ⟨h.1, fun _ => trivial⟩) h
theorem wpFreeP_farith (hk : k ≠ c) (hg : o.guard = none) {op : BinOp} {t t' : TypeId} {x y : Operand} (hop : o.op = Op.binOp op t x y t') (ho : arith op = true)
    {fk : FloatKind} {p q : Nat} (hx : a.eval x = .float fk p) (hy : a.eval y = .float fk q)
    (h : ∀ r, Hid (can fk r = fop op fk p q) → Hid (fits fk r) → wpFreeP E0 E1 c Vc P ops .any W K Q rest (k + 1) (a.put o.dst (.float fk r)) (F.with k (fun _ => True))) : wpFreeP E0 E1 c Vc P ops .any W K Q (o :: rest) k a F := by
  refine wpFreeP_some hk hg (fun v => ∃ r, v = .float fk r ∧ can fk r = fop op fk p q ∧ fits fk r) (fun w _ => ?_) ?_
  · obtain ⟨r, n, hrun, hr, hf⟩ := run_farith (P := P) w op ho t fk p q
    have he := eqGuard_float (P := P) w op t x y fk fk p q
    refine ⟨.float fk r, n, ?_, r, rfl, hr, hf⟩
    simp [execOp, hop, hx, hy, he, hrun, Result.andThen]
  · rintro v ⟨r, rfl, h1, h2⟩
    exact h r h1 h2
theorem wpFreeP_call (hk : k = c) (hg : o.guard = none) (hm : MonoT E1 Vc) (h1 : ∀ w, E0.R W w → insideT E1 P K w Vc ((execOp a.eval o).run P w))
    (h2 : ∀ v, (∃ w, E1.R W w ∧ Vc w v) → wpFreeP E0 E1 c Vc P ops .any W K Q rest (k + 1) (a.put o.dst v) (F.with k (fun w => Vc w v))) : wpFreeP E0 E1 c Vc P ops .any W K Q (o :: rest) k a F := by
  refine ⟨Vc, ⟨hm, fun _ => rfl, .inl ⟨by simp [Region.wanted, hg], fun w hw _ => ?_⟩⟩, fun v hv => h2 v (by obtain ⟨w, hw, _, h⟩ := hv; exact ⟨w, hw, h⟩)⟩
  unfold preE at hw
  rw [if_pos hk] at hw
  unfold stepE
  rw [if_pos hk]
  exact h1 w hw
/-- A REGION WITH FORCED LAST OPERATIONS (from number n on), one of whose first ones writes. -/
theorem region_tailP (hs : ∀ w w', E0.R w w' → E1.R w w') (K : FuncId → Array Value → World → Value → Prop) {id : Nat} {Q : Exit → Act → World → Prop} {a : Act} {w : World} {l : List Oper} (n : Nat) (hVc : ∀ w', E1.R (w.drewN 1) w' → ∃ v w'', E1.R w' w'' ∧ Vc w'' v) (hm : P.follows .mixedOrders = true) (hB : Region.lexTailB .any l.toArray n = true)
    (h : wpFreeP E0 E1 c Vc P l.toArray .any (w.drewN 1) K (fun a' w' => wpList P l.toArray Q (l.drop n) a' w') (l.take n) 0 a noFacts) : (Code.region id l.toArray true).wp P Q a w := by
  simp only [Region.lexTailB, Bool.and_eq_true, decide_eq_true_eq] at hB
  obtain ⟨⟨⟨⟨hsel, hn⟩, hs'⟩, hc⟩, hlex⟩ := hB
  have hn' : n < l.length := by simpa using hn
  have htl : (l.take n).length = n := by simp; omega
  have hdl : (l.drop n).length = l.toArray.size - n := by simp
  have hbound : ∀ listed i, HeadInv .any l.toArray n listed → i < n → listed.getD i true = false → ∀ j ∈ Region.ready .any l.toArray listed, j < n := by
    intro listed i inv hi hun j hj
    rcases Nat.lt_or_ge j n with h | h
    · exact h
    · exact absurd hj (tail_waits hs' hc hn inv _ i rfl hi hun j h)
  have H := anyFreeP_lex (md := .any) (g := l.toArray.size - n) hs hVc hsel hbound (l.take n) 0 _ a noFacts (fun j hj => by
    have hj' : j < n := by rw [htl] at hj; exact hj
    simp [hj']) (by simpa using htl) (head_start _ n) (by rw [htl]; exact hlex) (fun _ _ _ h => h) ⟨w.drewN 1, E1.refl _, fun _ => trivial, trivial⟩ h
  refine wp_region_any hm ?_
  have := anyFreeP_sound (Q' := Q) (W := w.drewN 1) (g := l.toArray.size - n) hs (fun listed a' F w' hw' hF hL => by
    have := wpAny_of_seq (md := .any) (Q' := Q) (l.drop n) n listed a' w' (fun j => by simp [List.getElem?_drop]) (by rw [hdl]; exact hL.1) (hL.2 w' hw' hF)
    rwa [hdl] at this) _ _ _ _ _ (fun _ _ _ h => h) (E1.refl _) (fun _ => E0.refl _) (fun _ => trivial) H
  rw [htl, show n + (l.toArray.size - n) = l.toArray.size by omega] at this
  exact this
end
/-- What may turn: before a call has run, all is as Pre says; behind it, as Post says. -/
def altE (S : Nat → Prop) (Pre Post : World → Prop) (h1 : ∀ w w', le w w' → Pre w → Pre w') (h2 : ∀ w w', le w w' → Post w → Post w') : Ext where
  R w w' := Chg S w w' ∧ (Post w → Post w') ∧ (Pre w ∨ Post w → Pre w' ∨ Post w')
  refl w := ⟨Chg.refl _ w, id, id⟩
  trans := by
    rintro a b c ⟨p1, p2, p3⟩ ⟨q1, q2, q3⟩
    exact ⟨p1.trans q1, fun h => q2 (p2 h), fun h => q3 (p3 h)⟩
  of_le := by
    intro a b h
    exact ⟨Chg.of_le h, h2 a b h, fun e => e.elim (fun x => .inl (h1 a b h x)) (fun x => .inr (h2 a b h x))⟩
section
variable {E0 E1 : Ext} {c : Nat} {Vc : World → Value → Prop} {P : Program} {ops : Array Oper} {W : World} {K : FuncId → Array Value → World → Value → Prop} {Q : Act → World → Prop} {F : Facts} {k : Nat} {o : Oper} {rest : List Oper} {a : Act}
/-- A cell that holds the same before and behind. -/
theorem wpFreeP_cellA (hk : k ≠ c) (hg : o.guard = none) {ty : TypeId} {x : Operand} (hop : o.op = .load ty x) {ad : Addr} (hx : a.eval x = .pointer (some ad)) {v : Value} (hv : ∀ w, E1.R W w → w.cell? ad = some v) (hu : ∀ w, (isAgg ty).run P w = .ok false w)
    (h : wpFreeP E0 E1 c Vc P ops .any W K Q rest (k + 1) (a.put o.dst v) (F.with k (fun _ => True))) : wpFreeP E0 E1 c Vc P ops .any W K Q (o :: rest) k a F := by
  refine wpFreeP_one hk hg v (fun w hw => ?_) h
  have hl : (Instr.loadAt ty (.pointer (some ad))).run P w = .ok v w := by
    simp [Instr.loadAt, Instr.sureAddr, loadVar, hu, hv w hw]
  simp [execOp, hop, hx, hl, Result.andThen]
/-- A call that only reads. -/
theorem wpFreeP_callQ (hk : k ≠ c) (hg : o.guard = none) {f : FuncId} {xs : Array Operand} {ts : Array TypeId} (hop : o.op = Op.call { callee := Callee.value (Operand.func f), args := xs, argTypes := ts }) {fn : Func} (hf : P.funcs[f]? = some fn)
    (hb : fn.body.isNone = false) (hn : (fn.name == "runtime.NumGoroutine") = false) {args : Array Value} (ha : xs.map a.eval = args) (V : Value → Prop)
    (h1 : ∀ w, E1.R W w → Calls P f args w (fun e w' => ∃ v, e = .returned v ∧ le w w' ∧ K f args w' v ∧ V v)) (hK : ∀ w v, K f args w v → V v)
    (h : ∀ v, V v → wpFreeP E0 E1 c Vc P ops .any W K Q rest (k + 1) (a.put o.dst v) (F.with k (fun _ => True))) : wpFreeP E0 E1 c Vc P ops .any W K Q (o :: rest) k a F := by
  refine ⟨fun _ u => V u, ⟨fun _ _ _ _ h => h, fun e => absurd e hk, .inl ⟨by simp [Region.wanted, hg], fun w hw _ => ?_⟩⟩, fun u hu => ?_⟩
  · rw [run_enter hop hf hb hn ha]
    unfold preE at hw
    rw [if_neg hk] at hw
    refine ⟨(stepE E0 E1 c k).refl w, (h1 w hw).mono ?_, fun w'' v hk => hK w'' v hk⟩
    rintro e w' ⟨v, rfl, hl, hk', _⟩
    exact ⟨v, rfl, (stepE E0 E1 c k).of_le hl, hk'⟩
  · obtain ⟨w, _, _, hv⟩ := hu
    exact wpFreeP_weaken _ _ _ _ _ (fun e w h => ⟨h.1, fun _ => trivial⟩) (h u hv)
/-- The call that writes. -/
theorem wpFreeP_callC (hk : k = c) (hg : o.guard = none) {f : FuncId} {xs : Array Operand} {ts : Array TypeId} (hop : o.op = Op.call { callee := Callee.value (Operand.func f), args := xs, argTypes := ts }) {fn : Func} (hf : P.funcs[f]? = some fn)
    (hb : fn.body.isNone = false) (hn : (fn.name == "runtime.NumGoroutine") = false) {args : Array Value} (ha : xs.map a.eval = args) (hm : MonoT E1 Vc)
    (h1 : ∀ w, E0.R W w → Calls P f args w (fun e w' => ∃ v, e = .returned v ∧ E1.R w w' ∧ K f args w' v)) (hK : ∀ w v, K f args w v → Vc w v)
    (h2 : ∀ v, (∃ w, E1.R W w ∧ Vc w v) → wpFreeP E0 E1 c Vc P ops .any W K Q rest (k + 1) (a.put o.dst v) (F.with k (fun w => Vc w v))) : wpFreeP E0 E1 c Vc P ops .any W K Q (o :: rest) k a F := by
  refine wpFreeP_call hk hg hm (fun w hw => ?_) h2
  rw [run_enter hop hf hb hn ha]
  exact ⟨E1.refl w, h1 w hw, fun w'' v hk => hK w'' v hk⟩
end
end Go.Fk

/- A jet's 'behind': a drawn region with two stores of parts, the first of them in its head. -/
namespace Go.Fk
open Go Go.RowKit
section
variable {E0 E1 : Ext} {c : Nat} {Vc : World → Value → Prop} {P : Program} {ops : Array Oper} {W : World} {K : FuncId → Array Value → World → Value → Prop} {Q : Act → World → Prop} {F : Facts} {k : Nat} {o : Oper} {rest : List Oper} {a : Act}
/-- A part of a block that stands is loaded. -/
theorem wpFreeP_loadP (hk : k ≠ c) (hg : o.guard = none) {ty : TypeId} {x : Operand} (hop : o.op = .load ty x) {g f : Nat} (hx : a.eval x = .pointer (some ⟨g, f, none⟩)) {t : TypeId} {cs : Array Value} {d : TypeDesc}
    (hr : ∀ w, E1.R W w → Row w g t cs) (hu : P.underlying ty = some d) (hd : d.isRow = true) (ds : List Value) (hc : ∀ j, j < ds.length → cs[f + j]? = ds[j]?) {n : Nat} (hi : (P.info? ty).map (·.size) = some n) (hn : ds.length = n)
    (h : wpFreeP E0 E1 c Vc P ops .any W K Q rest (k + 1) (a.put o.dst (.agg ds.toArray)) (F.with k (fun _ => True))) : wpFreeP E0 E1 c Vc P ops .any W K Q (o :: rest) k a F := by
  refine wpFreeP_one hk hg _ (fun w hw => ?_) h
  have := run_loadAt_mid (P := P) w g f ty ds d (fun j v hv => by rw [(hr w hw).cell?, hc j (List.getElem?_eq_some_iff.1 hv).1, hv]) hu hd (hn ▸ hi)
  simp [execOp, hop, hx, this, Result.andThen]
/-- The operation that writes is a store of a part. -/
theorem wpFreeP_storeC {g f : Nat} {t : TypeId} {old : Array Value} {cells : List Value} (hV : Vc = fun w v => v = undef ∧ Row w g t (patch old f cells)) (hk : k = c) (hg : o.guard = none) {ty : TypeId} {x y : Operand} (hop : o.op = .store ty x y) (hx : a.eval x = .pointer (some ⟨g, f, none⟩)) (hy : a.eval y = .agg cells.toArray)
    (hr : ∀ w, E0.R W w → Row w g t old) (hi : (P.info? ty).map (·.size) = some cells.length) (ho : f + cells.length ≤ old.size) (h1 : cells.toArray.all (·.oneCell') = true)
    (hE : ∀ w w', E0.R W w → Wrote w w' g t (patch old f cells) → Chg (· = g) w w' → E1.R w w') (hm : ∀ w w', E1.R w w' → Row w g t (patch old f cells) → Row w' g t (patch old f cells))
    (h2 : wpFreeP E0 E1 c Vc P ops .any W K Q rest (k + 1) (a.put o.dst undef) (F.with k (fun w => Row w g t (patch old f cells)))) : wpFreeP E0 E1 c Vc P ops .any W K Q (o :: rest) k a F := by
  subst hV
  refine wpFreeP_call hk hg (fun v w w' hw hv => ⟨hv.1, hm w w' hw hv.2⟩) (fun w hw => ?_) (fun v hv => ?_)
  · have hrow := hr w hw
    have hrun := run_storeAt_mid (P := P) w g f ty cells.toArray (fun j hj => by
      have hj' : f + j < old.size := by simp at hj; omega
      refine ⟨?_, hrow.frozen _⟩
      rw [hrow.cell?, Array.getElem?_eq_getElem hj']; rfl) (by simpa using hi) h1
    have : (execOp a.eval o).run P w = .ok .skip (w.setCells g f cells) := by
      unfold execOp
      simp only [hop, hx, hy, Sem.run_bind, Result.andThen_ok, hrun]
      rfl
    rw [this]
    have K := wrote_setCells cells f old w hrow
    exact ⟨hE w _ hw K ((Chg.refl _ w).wrote K rfl), rfl, K.row⟩
  · obtain ⟨w, _, rfl, _⟩ := hv
    exact wpFreeP_weaken _ _ _ _ _ (fun e w h => ⟨h.1, fun he => (h.2 he).2⟩) h2
end
end Go.Fk
namespace Go.Proofs.Ytgjdmoenobacgaa
open Go.RowKit Go.Fk
set_option maxRecDepth 100000 in
set_option maxHeartbeats 4000000 in
theorem i_jbehind (s t : Value) (g r r2 : Nat) (q : JtS) (z1 z2 z3 z4 : Nat) (w : World) (R : Row w g 158 #[s, .int .i64 (q.j : Nat), t, .int .i64 (q.k : Nat), .int .i64 1, .float .f32 q.a, .float .f32 q.b, .float .f32 q.c, .float .f32 z1, .float .f32 z2, .int .i64 5, .float .f32 q.a2, .float .f32 q.b2, .float .f32 q.c2, .float .f32 z3, .float .f32 z4, .float .f32 q.m, .float .f32 q.o, .pointer (some ⟨r, 0, none⟩), .pointer (some ⟨r2, 0, none⟩)]) (RR : Row w r 149 #[mdl 1 q.a q.b q.c, .float .f32 q.p, .float .f32 q.q]) (RR2 : Row w r2 149 #[mdl 5 q.a2 q.b2 q.c2, .float .f32 q.p2, .float .f32 q.q2]) (hg : g ≠ r) (hg2 : g ≠ r2) (hs : s.oneCell' = true) (ht : t.oneCell' = true) :
    Calls Try.prog 100 #[.pointer (some ⟨g, 0, none⟩)] w fun e w' => e = .returned (.agg #[s, .int .i64 (q.j : Nat), t, .int .i64 (q.k : Nat), .int .i64 1, .float .f32 q.a, .float .f32 q.b, .float .f32 q.c, .float .f32 q.p, .float .f32 q.q, .int .i64 5, .float .f32 q.a2, .float .f32 q.b2, .float .f32 q.c2, .float .f32 q.p2, .float .f32 q.q2, .float .f32 q.m, .float .f32 q.o]) ∧ Chg (· = g) w w' := by
  have HR := hid (R.le (le_alloc w (.cells #[.slice none 0 0, .int .i64 0, .slice none 0 0, .int .i64 0, .int .i64 0, .float .f32 0, .float .f32 0, .float .f32 0, .float .f32 0, .float .f32 0, .int .i64 0, .float .f32 0, .float .f32 0, .float .f32 0, .float .f32 0, .float .f32 0, .float .f32 0, .float .f32 0] 67))); have HRR := hid (RR.le (le_alloc w (.cells #[.slice none 0 0, .int .i64 0, .slice none 0 0, .int .i64 0, .int .i64 0, .float .f32 0, .float .f32 0, .float .f32 0, .float .f32 0, .float .f32 0, .int .i64 0, .float .f32 0, .float .f32 0, .float .f32 0, .float .f32 0, .float .f32 0, .float .f32 0, .float .f32 0] 67))); have HRR2 := hid (RR2.le (le_alloc w (.cells #[.slice none 0 0, .int .i64 0, .slice none 0 0, .int .i64 0, .int .i64 0, .float .f32 0, .float .f32 0, .float .f32 0, .float .f32 0, .float .f32 0, .int .i64 0, .float .f32 0, .float .f32 0, .float .f32 0, .float .f32 0, .float .f32 0, .float .f32 0, .float .f32 0] 67)))
  have RN := hid (Row.new w 67 #[.slice none 0 0, .int .i64 0, .slice none 0 0, .int .i64 0, .int .i64 0, .float .f32 0, .float .f32 0, .float .f32 0, .float .f32 0, .float .f32 0, .int .i64 0, .float .f32 0, .float .f32 0, .float .f32 0, .float .f32 0, .float .f32 0, .float .f32 0, .float .f32 0])
  have hgl := R.lt
  have C0 := hid (Chg.of_le (S := (· = g)) (le_alloc w (.cells #[.slice none 0 0, .int .i64 0, .slice none 0 0, .int .i64 0, .int .i64 0, .float .f32 0, .float .f32 0, .float .f32 0, .float .f32 0, .float .f32 0, .int .i64 0, .float .f32 0, .float .f32 0, .float .f32 0, .float .f32 0, .float .f32 0, .float .f32 0, .float .f32 0] 67)))
  clear R RR RR2
  have hlow : ∀ w w' : World, le w w' → Row w g 158 #[s, .int .i64 (q.j : Nat), t, .int .i64 (q.k : Nat), .int .i64 1, .float .f32 q.a, .float .f32 q.b, .float .f32 q.c, .float .f32 z1, .float .f32 z2, .int .i64 5, .float .f32 q.a2, .float .f32 q.b2, .float .f32 q.c2, .float .f32 z3, .float .f32 z4, .float .f32 q.m, .float .f32 q.o, .pointer (some ⟨r, 0, none⟩), .pointer (some ⟨r2, 0, none⟩)] → Row w' g 158 #[s, .int .i64 (q.j : Nat), t, .int .i64 (q.k : Nat), .int .i64 1, .float .f32 q.a, .float .f32 q.b, .float .f32 q.c, .float .f32 z1, .float .f32 z2, .int .i64 5, .float .f32 q.a2, .float .f32 q.b2, .float .f32 q.c2, .float .f32 z3, .float .f32 z4, .float .f32 q.m, .float .f32 q.o, .pointer (some ⟨r, 0, none⟩), .pointer (some ⟨r2, 0, none⟩)] := fun w w' h e => e.le h
  have hlow2 : ∀ w w' : World, le w w' → Row w g 158 #[s, .int .i64 (q.j : Nat), t, .int .i64 (q.k : Nat), .int .i64 1, .float .f32 q.a, .float .f32 q.b, .float .f32 q.c, .float .f32 q.p, .float .f32 q.q, .int .i64 5, .float .f32 q.a2, .float .f32 q.b2, .float .f32 q.c2, .float .f32 z3, .float .f32 z4, .float .f32 q.m, .float .f32 q.o, .pointer (some ⟨r, 0, none⟩), .pointer (some ⟨r2, 0, none⟩)] → Row w' g 158 #[s, .int .i64 (q.j : Nat), t, .int .i64 (q.k : Nat), .int .i64 1, .float .f32 q.a, .float .f32 q.b, .float .f32 q.c, .float .f32 q.p, .float .f32 q.q, .int .i64 5, .float .f32 q.a2, .float .f32 q.b2, .float .f32 q.c2, .float .f32 z3, .float .f32 z4, .float .f32 q.m, .float .f32 q.o, .pointer (some ⟨r, 0, none⟩), .pointer (some ⟨r2, 0, none⟩)] := fun w w' h e => e.le h
  have h18 : ∀ w' : World, Row w' g 158 #[s, .int .i64 (q.j : Nat), t, .int .i64 (q.k : Nat), .int .i64 1, .float .f32 q.a, .float .f32 q.b, .float .f32 q.c, .float .f32 z1, .float .f32 z2, .int .i64 5, .float .f32 q.a2, .float .f32 q.b2, .float .f32 q.c2, .float .f32 z3, .float .f32 z4, .float .f32 q.m, .float .f32 q.o, .pointer (some ⟨r, 0, none⟩), .pointer (some ⟨r2, 0, none⟩)] ∨ Row w' g 158 #[s, .int .i64 (q.j : Nat), t, .int .i64 (q.k : Nat), .int .i64 1, .float .f32 q.a, .float .f32 q.b, .float .f32 q.c, .float .f32 q.p, .float .f32 q.q, .int .i64 5, .float .f32 q.a2, .float .f32 q.b2, .float .f32 q.c2, .float .f32 z3, .float .f32 z4, .float .f32 q.m, .float .f32 q.o, .pointer (some ⟨r, 0, none⟩), .pointer (some ⟨r2, 0, none⟩)] → w'.cell? ⟨g, 18, none⟩ = some (.pointer (some ⟨r, 0, none⟩)) := fun w' h => by rcases h with h | h <;> exact h.cell? 18
  have h19 : ∀ w' : World, Row w' g 158 #[s, .int .i64 (q.j : Nat), t, .int .i64 (q.k : Nat), .int .i64 1, .float .f32 q.a, .float .f32 q.b, .float .f32 q.c, .float .f32 z1, .float .f32 z2, .int .i64 5, .float .f32 q.a2, .float .f32 q.b2, .float .f32 q.c2, .float .f32 z3, .float .f32 z4, .float .f32 q.m, .float .f32 q.o, .pointer (some ⟨r, 0, none⟩), .pointer (some ⟨r2, 0, none⟩)] ∨ Row w' g 158 #[s, .int .i64 (q.j : Nat), t, .int .i64 (q.k : Nat), .int .i64 1, .float .f32 q.a, .float .f32 q.b, .float .f32 q.c, .float .f32 q.p, .float .f32 q.q, .int .i64 5, .float .f32 q.a2, .float .f32 q.b2, .float .f32 q.c2, .float .f32 z3, .float .f32 z4, .float .f32 q.m, .float .f32 q.o, .pointer (some ⟨r, 0, none⟩), .pointer (some ⟨r2, 0, none⟩)] → w'.cell? ⟨g, 19, none⟩ = some (.pointer (some ⟨r2, 0, none⟩)) := fun w' h => by rcases h with h | h <;> exact h.cell? 19
  have H18 := hid h18; have H19 := hid h19
  clear h18 h19
  go_enter Try.func100, Try.ntmps100
  go_wp2_with fail
  have HPRE := hid (HR.out.drewN 1)
  refine region_tailP (E0 := leX) (E1 := altE (· = g) _ _ hlow hlow2) (c := 20) (Vc := fun wa v => v = undef ∧ Row wa g 158 (patch #[s, .int .i64 (q.j : Nat), t, .int .i64 (q.k : Nat), .int .i64 1, .float .f32 q.a, .float .f32 q.b, .float .f32 q.c, .float .f32 z1, .float .f32 z2, .int .i64 5, .float .f32 q.a2, .float .f32 q.b2, .float .f32 q.c2, .float .f32 z3, .float .f32 z4, .float .f32 q.m, .float .f32 q.o, .pointer (some ⟨r, 0, none⟩), .pointer (some ⟨r2, 0, none⟩)] 8 [.float .f32 q.p, .float .f32 q.q])) (fun _ _ h => (altE _ _ _ hlow hlow2).of_le h) (fun _ _ _ _ => True) 25 (fun wa hwa => ?_) (by kernel_rfl) (by kernel_rfl) ?_
  · rcases hwa.2.2 (.inl HPRE.out) with h | h
    · have K := wrote_setCells [.float .f32 q.p, .float .f32 q.q] 8 _ wa h
      exact ⟨undef, _, ⟨(Chg.refl _ wa).wrote K rfl, fun _ => K.row, fun _ => .inr K.row⟩, rfl, K.row⟩
    · exact ⟨undef, wa, (altE _ _ _ hlow hlow2).refl wa, rfl, h⟩
  simp only [List.take_succ_cons, List.take_zero, List.drop_succ_cons, List.drop_zero]
  refine wpFreeP_one (by decide) rfl (.pointer (some ⟨g, 0, none⟩)) (fun w1 _ => by kernel_rfl) ?_
  simp only [Act.put, List.setIfInBounds_toArray, List.set_cons_succ, List.set_cons_zero]
  refine wpFreeP_one (by decide) rfl (.pointer (some ⟨g, 0, none⟩)) (fun w1 _ => by kernel_rfl) ?_
  simp only [Act.put, List.setIfInBounds_toArray, List.set_cons_succ, List.set_cons_zero]
  refine wpFreeP_one (by decide) rfl (.pointer (some ⟨g, 0, none⟩)) (fun w1 _ => by kernel_rfl) ?_
  simp only [Act.put, List.setIfInBounds_toArray, List.set_cons_succ, List.set_cons_zero]
  refine wpFreeP_one (by decide) rfl (.pointer (some ⟨g, 0, none⟩)) (fun w1 _ => by kernel_rfl) ?_
  simp only [Act.put, List.setIfInBounds_toArray, List.set_cons_succ, List.set_cons_zero]
  refine wpFreeP_one (by decide) rfl (.pointer (some ⟨g, 18, none⟩)) (fun w1 _ => by kernel_rfl) ?_
  simp only [Act.put, List.setIfInBounds_toArray, List.set_cons_succ, List.set_cons_zero]
  refine wpFreeP_cellA (by decide) rfl rfl rfl (fun w1 h1 => H18.out w1 (h1.2.2 (.inl HPRE.out))) (fun w => by kernel_rfl) ?_
  simp only [Act.put, List.setIfInBounds_toArray, List.set_cons_succ, List.set_cons_zero]
  refine wpFreeP_one (by decide) rfl (.pointer (some ⟨r, 0, none⟩)) (fun w1 _ => by kernel_rfl) ?_
  simp only [Act.put, List.setIfInBounds_toArray, List.set_cons_succ, List.set_cons_zero]
  refine wpFreeP_one (by decide) rfl (.pointer (some ⟨r, 1, none⟩)) (fun w1 _ => by kernel_rfl) ?_
  simp only [Act.put, List.setIfInBounds_toArray, List.set_cons_succ, List.set_cons_zero]
  refine wpFreeP_loadP (by decide) rfl rfl rfl (fun w1 h1 => h1.1.row (HRR.out.drewN 1) (fun e => hg e.symm)) Try.underlying27 rfl [.float .f32 q.p, .float .f32 q.q] (midOf [mdl 1 q.a q.b q.c] [.float .f32 q.p, .float .f32 q.q] [] 1 rfl) info2 rfl ?_
  simp only [Act.put, List.setIfInBounds_toArray, List.set_cons_succ, List.set_cons_zero]
  refine wpFreeP_one (by decide) rfl (.pointer (some ⟨g, 0, none⟩)) (fun w1 _ => by kernel_rfl) ?_
  simp only [Act.put, List.setIfInBounds_toArray, List.set_cons_succ, List.set_cons_zero]
  refine wpFreeP_one (by decide) rfl (.pointer (some ⟨g, 0, none⟩)) (fun w1 _ => by kernel_rfl) ?_
  simp only [Act.put, List.setIfInBounds_toArray, List.set_cons_succ, List.set_cons_zero]
  refine wpFreeP_one (by decide) rfl (.pointer (some ⟨g, 19, none⟩)) (fun w1 _ => by kernel_rfl) ?_
  simp only [Act.put, List.setIfInBounds_toArray, List.set_cons_succ, List.set_cons_zero]
  refine wpFreeP_cellA (by decide) rfl rfl rfl (fun w1 h1 => H19.out w1 (h1.2.2 (.inl HPRE.out))) (fun w => by kernel_rfl) ?_
  simp only [Act.put, List.setIfInBounds_toArray, List.set_cons_succ, List.set_cons_zero]
  refine wpFreeP_one (by decide) rfl (.pointer (some ⟨r2, 0, none⟩)) (fun w1 _ => by kernel_rfl) ?_
  simp only [Act.put, List.setIfInBounds_toArray, List.set_cons_succ, List.set_cons_zero]
  refine wpFreeP_one (by decide) rfl (.pointer (some ⟨r2, 1, none⟩)) (fun w1 _ => by kernel_rfl) ?_
  simp only [Act.put, List.setIfInBounds_toArray, List.set_cons_succ, List.set_cons_zero]
  refine wpFreeP_loadP (by decide) rfl rfl rfl (fun w1 h1 => h1.1.row (HRR2.out.drewN 1) (fun e => hg2 e.symm)) Try.underlying27 rfl [.float .f32 q.p2, .float .f32 q.q2] (midOf [mdl 5 q.a2 q.b2 q.c2] [.float .f32 q.p2, .float .f32 q.q2] [] 1 rfl) info2 rfl ?_
  simp only [Act.put, List.setIfInBounds_toArray, List.set_cons_succ, List.set_cons_zero]
  refine wpFreeP_one (by decide) rfl (.pointer (some ⟨g, 0, none⟩)) (fun w1 _ => by kernel_rfl) ?_
  simp only [Act.put, List.setIfInBounds_toArray, List.set_cons_succ, List.set_cons_zero]
  refine wpFreeP_one (by decide) rfl (.pointer (some ⟨g, 0, none⟩)) (fun w1 _ => by kernel_rfl) ?_
  simp only [Act.put, List.setIfInBounds_toArray, List.set_cons_succ, List.set_cons_zero]
  refine wpFreeP_one (by decide) rfl (.pointer (some ⟨g, 4, none⟩)) (fun w1 _ => by kernel_rfl) ?_
  simp only [Act.put, List.setIfInBounds_toArray, List.set_cons_succ, List.set_cons_zero]
  refine wpFreeP_one (by decide) rfl (.pointer (some ⟨g, 8, none⟩)) (fun w1 _ => by kernel_rfl) ?_
  simp only [Act.put, List.setIfInBounds_toArray, List.set_cons_succ, List.set_cons_zero]
  refine wpFreeP_storeC rfl rfl rfl rfl rfl rfl (fun w1 h1 => HPRE.out.le h1) info2 (by simp) (by simp [Value.oneCell']) (fun w1 w2 h1 K C => ⟨C, fun _ => K.row, fun _ => .inr K.row⟩) (fun w1 w2 h1 h => h1.2.1 h) ?_
  simp only [Act.put, List.setIfInBounds_toArray, List.set_cons_succ, List.set_cons_zero]
  refine wpFreeP_one (by decide) rfl (.pointer (some ⟨g, 0, none⟩)) (fun w1 _ => by kernel_rfl) ?_
  simp only [Act.put, List.setIfInBounds_toArray, List.set_cons_succ, List.set_cons_zero]
  refine wpFreeP_one (by decide) rfl (.pointer (some ⟨g, 0, none⟩)) (fun w1 _ => by kernel_rfl) ?_
  simp only [Act.put, List.setIfInBounds_toArray, List.set_cons_succ, List.set_cons_zero]
  refine wpFreeP_one (by decide) rfl (.pointer (some ⟨g, 10, none⟩)) (fun w1 _ => by kernel_rfl) ?_
  simp only [Act.put, List.setIfInBounds_toArray, List.set_cons_succ, List.set_cons_zero]
  refine wpFreeP_one (by decide) rfl (.pointer (some ⟨g, 14, none⟩)) (fun w1 _ => by kernel_rfl) ?_
  simp only [Act.put, List.setIfInBounds_toArray, List.set_cons_succ, List.set_cons_zero]
  refine wpFreeP_nil (fun w3 hw3 hF => ?_)
  have R3 := hid (show Row w3 g 158 #[s, .int .i64 (q.j : Nat), t, .int .i64 (q.k : Nat), .int .i64 1, .float .f32 q.a, .float .f32 q.b, .float .f32 q.c, .float .f32 q.p, .float .f32 q.q, .int .i64 5, .float .f32 q.a2, .float .f32 q.b2, .float .f32 q.c2, .float .f32 z3, .float .f32 z4, .float .f32 q.m, .float .f32 q.o, .pointer (some ⟨r, 0, none⟩), .pointer (some ⟨r2, 0, none⟩)] from (hF 20).1.1.1.1.2 rfl)
  have C3 := hid ((C0.out.le (le_drewN _ 1)).trans hw3.1)
  have N3 := hid (hw3.1.row (RN.out.drewN 1) (by omega))
  clear hF hw3 HPRE H18 H19 hlow hlow2 HR HRR HRR2 RN C0
  refine wpList_storeP rfl rfl rfl (f := 14) (cells := [.float .f32 q.p2, .float .f32 q.q2]) rfl R3.out info2 (by simp) (by simp [Value.oneCell']) (fun w4 K => ?_)
  have C4 := hid (C3.out.wrote K rfl)
  have R4 := hid (show Row w4 g 158 #[s, .int .i64 (q.j : Nat), t, .int .i64 (q.k : Nat), .int .i64 1, .float .f32 q.a, .float .f32 q.b, .float .f32 q.c, .float .f32 q.p, .float .f32 q.q, .int .i64 5, .float .f32 q.a2, .float .f32 q.b2, .float .f32 q.c2, .float .f32 q.p2, .float .f32 q.q2, .float .f32 q.m, .float .f32 q.o, .pointer (some ⟨r, 0, none⟩), .pointer (some ⟨r2, 0, none⟩)] from K.row)
  have N4 := hid (K.other _ _ _ (by omega) N3.out)
  clear K R3 C3 N3
  go_wp2_with (first | ((with_reducible refine at_loadU rfl rfl ?_); (with_reducible refine wpList_loadPR R4.out rfl rfl rfl Try.underlying67 rfl [s, .int .i64 (q.j : Nat), t, .int .i64 (q.k : Nat), .int .i64 1, .float .f32 q.a, .float .f32 q.b, .float .f32 q.c, .float .f32 q.p, .float .f32 q.q, .int .i64 5, .float .f32 q.a2, .float .f32 q.b2, .float .f32 q.c2, .float .f32 q.p2, .float .f32 q.q2, .float .f32 q.m, .float .f32 q.o] (midOf [] [s, .int .i64 (q.j : Nat), t, .int .i64 (q.k : Nat), .int .i64 1, .float .f32 q.a, .float .f32 q.b, .float .f32 q.c, .float .f32 q.p, .float .f32 q.q, .int .i64 5, .float .f32 q.a2, .float .f32 q.b2, .float .f32 q.c2, .float .f32 q.p2, .float .f32 q.q2, .float .f32 q.m, .float .f32 q.o] [.pointer (some ⟨r, 0, none⟩), .pointer (some ⟨r2, 0, none⟩)] 0 rfl) uinfoJetI rfl ?_)) | (with_reducible refine stop_store rfl ?_))
  show wpList _ _ _ _ _ _
  refine wpList_storeD rfl rfl rfl (cells := #[s, .int .i64 (q.j : Nat), t, .int .i64 (q.k : Nat), .int .i64 1, .float .f32 q.a, .float .f32 q.b, .float .f32 q.c, .float .f32 q.p, .float .f32 q.q, .int .i64 5, .float .f32 q.a2, .float .f32 q.b2, .float .f32 q.c2, .float .f32 q.p2, .float .f32 q.q2, .float .f32 q.m, .float .f32 q.o]) rfl N4.out uinfoJetI rfl (by simp only [List.all_toArray', List.all_cons, List.all_nil, hs, ht]; rfl) (fun w5 K => ?_)
  have R5 := hid K.row
  have C5 : Hid (Chg (· = g) w w5) := ⟨(K.below w.heap.size w4 (Below.refl _ _) (Nat.le_refl _)).os.trans C4.out.os, (K.below w.heap.size w4 (Below.refl _ _) (Nat.le_refl _)).tape.trans C4.out.tape, (K.below w.heap.size w4 (Below.refl _ _) (Nat.le_refl _)).output.trans C4.out.output, Nat.le_trans C4.out.size (K.below w.heap.size w4 (Below.refl _ _) (Nat.le_refl _)).size, fun k h1 h2 => ((K.below w.heap.size w4 (Below.refl _ _) (Nat.le_refl _)).block k h1).trans (C4.out.block k h1 h2)⟩
  clear K C4 R4 N4
  go_wp2
  exact bodyPost_ret (results_row1 rfl _ _ _ _ _ rfl R5.out Try.underlying67 rfl uinfoJetI) rfl ⟨rfl, C5.out⟩
end Go.Proofs.Ytgjdmoenobacgaa

/- Copies of a Jet: the model's. -/
namespace Go.Proofs.Ytgjdmoenobacgaa
open Go.RowKit Go.Fk
set_option maxRecDepth 100000 in
set_option maxHeartbeats 4000000 in
theorem s_l05CopyJet (x y : Nat → Nat) (nx ny : Nat) (j k : Int) (fk : Int) (a b c p q : Nat) (gk : Int) (a2 b2 c2 p2 q2 : Nat) (m o : Nat) (B : Nat) (s t : Value) (w : World) (g0 : Nat) (RR : Row w g0 67 #[s, .int .i64 j, t, .int .i64 k, .int .i64 fk, .float .f32 a, .float .f32 b, .float .f32 c, .float .f32 p, .float .f32 q, .int .i64 gk, .float .f32 a2, .float .f32 b2, .float .f32 c2, .float .f32 p2, .float .f32 q2, .float .f32 m, .float .f32 o]) (hs : RdS w B s x nx) (ht : RdS w B t y ny) (hx : 1 ≤ nx ∧ nx ≤ 1024) (hy : 1 ≤ ny ∧ ny ≤ 1024) :
    Calls Try.prog 95 #[.pointer (some ⟨g0, 0, none⟩)] w fun e w' => ∃ s1 t1, e = .returned (.agg #[s1, .int .i64 j, t1, .int .i64 k, .int .i64 fk, .float .f32 a, .float .f32 b, .float .f32 c, .float .f32 p, .float .f32 q, .int .i64 gk, .float .f32 a2, .float .f32 b2, .float .f32 c2, .float .f32 p2, .float .f32 q2, .float .f32 m, .float .f32 o]) ∧ Two w.heap.size x nx y ny s1 t1 w' ∧ le w w' := by
  have F := (Frg.nil w).box 67 #[.slice none 0 0, .int .i64 0, .slice none 0 0, .int .i64 0, .int .i64 0, .float .f32 0, .float .f32 0, .float .f32 0, .float .f32 0, .float .f32 0, .int .i64 0, .float .f32 0, .float .f32 0, .float .f32 0, .float .f32 0, .float .f32 0, .float .f32 0, .float .f32 0]
  have hg0 : g0 < w.heap.size := RR.lt
  have HR := hid RR; have HS := hid hs; have HT := hid ht; clear RR hs ht
  go_enter Try.func95, Try.ntmps95
  go_wp2_with fail
  obtain ⟨W, hW⟩ : ∃ W, W = w.alloc (.cells #[.slice none 0 0, .int .i64 0, .slice none 0 0, .int .i64 0, .int .i64 0, .float .f32 0, .float .f32 0, .float .f32 0, .float .f32 0, .float .f32 0, .int .i64 0, .float .f32 0, .float .f32 0, .float .f32 0, .float .f32 0, .float .f32 0, .float .f32 0, .float .f32 0] 67) := ⟨_, rfl⟩
  rw [← hW] at F ⊢
  have hz : W.heap.size = w.heap.size + 1 := by rw [hW]; simp
  clear hW
  have HZ := hid hz; clear hz
  have G := F.drewN 1
  have hle : le w (W.drewN 1) := G.below
  have hRw : ∀ w1, (outX w.heap.size 67 18 (FinC w.heap.size x nx y ny (fun s1 t1 => #[s1, .int .i64 j, t1, .int .i64 k, .int .i64 fk, .float .f32 a, .float .f32 b, .float .f32 c, .float .f32 p, .float .f32 q, .int .i64 gk, .float .f32 a2, .float .f32 b2, .float .f32 c2, .float .f32 p2, .float .f32 q2, .float .f32 m, .float .f32 o])) (FinC_le _ _ _ _ _ _)).R (W.drewN 1) w1 → Row w1 g0 67 #[s, .int .i64 j, t, .int .i64 k, .int .i64 fk, .float .f32 a, .float .f32 b, .float .f32 c, .float .f32 p, .float .f32 q, .int .i64 gk, .float .f32 a2, .float .f32 b2, .float .f32 c2, .float .f32 p2, .float .f32 q2, .float .f32 m, .float .f32 o] := fun w1 h1 => h1.1.row (HR.out.le hle) (by omega)
  have hSw : ∀ w1, (outX w.heap.size 67 18 (FinC w.heap.size x nx y ny (fun s1 t1 => #[s1, .int .i64 j, t1, .int .i64 k, .int .i64 fk, .float .f32 a, .float .f32 b, .float .f32 c, .float .f32 p, .float .f32 q, .int .i64 gk, .float .f32 a2, .float .f32 b2, .float .f32 c2, .float .f32 p2, .float .f32 q2, .float .f32 m, .float .f32 o])) (FinC_le _ _ _ _ _ _)).R (W.drewN 1) w1 → RdS w1 B s x nx := fun w1 h1 => HS.out.chgG hle h1.1
  have hTw : ∀ w1, (outX w.heap.size 67 18 (FinC w.heap.size x nx y ny (fun s1 t1 => #[s1, .int .i64 j, t1, .int .i64 k, .int .i64 fk, .float .f32 a, .float .f32 b, .float .f32 c, .float .f32 p, .float .f32 q, .int .i64 gk, .float .f32 a2, .float .f32 b2, .float .f32 c2, .float .f32 p2, .float .f32 q2, .float .f32 m, .float .f32 o])) (FinC_le _ _ _ _ _ _)).R (W.drewN 1) w1 → RdS w1 B t y ny := fun w1 h1 => HT.out.chgG hle h1.1
  have HRw := hid hRw; have HSw := hid hSw; have HTw := hid hTw; clear hRw hSw hTw
  refine region_freeZ (E := outX w.heap.size 67 18 (FinC w.heap.size x nx y ny (fun s1 t1 => #[s1, .int .i64 j, t1, .int .i64 k, .int .i64 fk, .float .f32 a, .float .f32 b, .float .f32 c, .float .f32 p, .float .f32 q, .int .i64 gk, .float .f32 a2, .float .f32 b2, .float .f32 c2, .float .f32 p2, .float .f32 q2, .float .f32 m, .float .f32 o])) (FinC_le _ _ _ _ _ _)) (fun _ args z w1 v => (args = #[.pointer (some ⟨g0, 0, none⟩)] → Cp w.heap.size x nx j z w1 v) ∧ (args = #[.pointer (some ⟨g0, 2, none⟩)] → Cp w.heap.size y ny k z w1 v)) (by kernel_rfl) (by kernel_rfl) ?_
  refine wpFreeZ_one rfl (.pointer (some ⟨g0, 0, none⟩)) (fun w1 _ => by kernel_rfl) ?_
  simp only [Act.put, List.setIfInBounds_toArray, List.set_cons_succ, List.set_cons_zero]
  refine wpFreeZ_one rfl (.pointer (some ⟨g0, 0, none⟩)) (fun w1 _ => by kernel_rfl) ?_
  simp only [Act.put, List.setIfInBounds_toArray, List.set_cons_succ, List.set_cons_zero]
  refine wpFreeZ_one rfl (.pointer (some ⟨g0, 0, none⟩)) (fun w1 _ => by kernel_rfl) ?_
  simp only [Act.put, List.setIfInBounds_toArray, List.set_cons_succ, List.set_cons_zero]
  refine wpFreeZ_callW (by kernel_rfl) rfl Try.func110 (by kernel_rfl) (by kernel_rfl) (args := #[.pointer (some ⟨g0, 0, none⟩)]) (by simp [Act.eval]) (fun z v w1 w2 hw hv => ⟨fun e => cp_outX (hv.1 e) hw, fun e => cp_outX (hv.2 e) hw⟩) (fun w1 hw1 hbe => ?_) ?_
  · refine (s_l02Copy B s x nx j g0 0 w1 (HSw.out w1 hw1) ((HRw.out w1 hw1).cell? 0) ((HRw.out w1 hw1).cell? 1) hx.1 hx.2).mono ?_
    rintro e w2 ⟨s1, rfl, ho, hl⟩
    refine ⟨_, rfl, hl, fun _ => Cp.mk ho hx.1 (by have := hw1.1.size; have e0 : (W.drewN 1).heap.size = W.heap.size := rfl; have := HZ.out; omega), fun e => absurd e (by simp)⟩
  rintro v0 ⟨z, wv, _, hv⟩
  obtain ⟨s1, _, rfl, ho, _⟩ := hv.1 rfl
  have os := hid (own_one ho)
  clear hv ho
  simp only [Act.put, List.setIfInBounds_toArray, List.set_cons_succ, List.set_cons_zero]
  refine wpFreeZ_one rfl (.pointer (some ⟨g0, 0, none⟩)) (fun w1 _ => by kernel_rfl) ?_
  simp only [Act.put, List.setIfInBounds_toArray, List.set_cons_succ, List.set_cons_zero]
  refine wpFreeZ_one rfl (.pointer (some ⟨g0, 0, none⟩)) (fun w1 _ => by kernel_rfl) ?_
  simp only [Act.put, List.setIfInBounds_toArray, List.set_cons_succ, List.set_cons_zero]
  refine wpFreeZ_one rfl (.pointer (some ⟨g0, 2, none⟩)) (fun w1 _ => by kernel_rfl) ?_
  simp only [Act.put, List.setIfInBounds_toArray, List.set_cons_succ, List.set_cons_zero]
  refine wpFreeZ_callW (by kernel_rfl) rfl Try.func110 (by kernel_rfl) (by kernel_rfl) (args := #[.pointer (some ⟨g0, 2, none⟩)]) (by simp [Act.eval]) (fun z v w1 w2 hw hv => ⟨fun e => cp_outX (hv.1 e) hw, fun e => cp_outX (hv.2 e) hw⟩) (fun w1 hw1 hbe => ?_) ?_
  · refine (s_l02Copy B t y ny k g0 2 w1 (HTw.out w1 hw1) ((HRw.out w1 hw1).cell? 2) ((HRw.out w1 hw1).cell? 3) hy.1 hy.2).mono ?_
    rintro e w2 ⟨s1, rfl, ho, hl⟩
    refine ⟨_, rfl, hl, fun e => absurd e (by simp), fun _ => Cp.mk ho hy.1 (by have := hw1.1.size; have e0 : (W.drewN 1).heap.size = W.heap.size := rfl; have := HZ.out; omega)⟩
  rintro v2 ⟨z, wv, _, hv⟩
  obtain ⟨t1, _, rfl, ho, _⟩ := hv.2 rfl
  have ot := hid (own_one ho)
  clear hv ho
  simp only [Act.put, List.setIfInBounds_toArray, List.set_cons_succ, List.set_cons_zero]
  refine wpFreeZ_one rfl (.pointer (some ⟨g0, 0, none⟩)) (fun w1 _ => by kernel_rfl) ?_
  simp only [Act.put, List.setIfInBounds_toArray, List.set_cons_succ, List.set_cons_zero]
  refine wpFreeZ_one rfl (.pointer (some ⟨g0, 0, none⟩)) (fun w1 _ => by kernel_rfl) ?_
  simp only [Act.put, List.setIfInBounds_toArray, List.set_cons_succ, List.set_cons_zero]
  refine wpFreeZ_one rfl (.pointer (some ⟨g0, 4, none⟩)) (fun w1 _ => by kernel_rfl) ?_
  simp only [Act.put, List.setIfInBounds_toArray, List.set_cons_succ, List.set_cons_zero]
  refine wpFreeZ_loadW rfl rfl rfl [.int .i64 fk, .float .f32 a, .float .f32 b, .float .f32 c, .float .f32 p, .float .f32 q] (fun w1 h1 => Row.at_part (HRw.out w1 h1) (partJet_Low (s) (.int .i64 j) (t) (.int .i64 k) (.int .i64 fk) (.float .f32 a) (.float .f32 b) (.float .f32 c) (.float .f32 p) (.float .f32 q) (.int .i64 gk) (.float .f32 a2) (.float .f32 b2) (.float .f32 c2) (.float .f32 p2) (.float .f32 q2) (.float .f32 m) (.float .f32 o))) Try.underlying29 rfl uinfoFilterI rfl ?_
  simp only [Act.put, List.setIfInBounds_toArray, List.set_cons_succ, List.set_cons_zero]
  refine wpFreeZ_one rfl (.pointer (some ⟨g0, 0, none⟩)) (fun w1 _ => by kernel_rfl) ?_
  simp only [Act.put, List.setIfInBounds_toArray, List.set_cons_succ, List.set_cons_zero]
  refine wpFreeZ_one rfl (.pointer (some ⟨g0, 0, none⟩)) (fun w1 _ => by kernel_rfl) ?_
  simp only [Act.put, List.setIfInBounds_toArray, List.set_cons_succ, List.set_cons_zero]
  refine wpFreeZ_one rfl (.pointer (some ⟨g0, 10, none⟩)) (fun w1 _ => by kernel_rfl) ?_
  simp only [Act.put, List.setIfInBounds_toArray, List.set_cons_succ, List.set_cons_zero]
  refine wpFreeZ_loadW rfl rfl rfl [.int .i64 gk, .float .f32 a2, .float .f32 b2, .float .f32 c2, .float .f32 p2, .float .f32 q2] (fun w1 h1 => Row.at_part (HRw.out w1 h1) (partJet_Dc (s) (.int .i64 j) (t) (.int .i64 k) (.int .i64 fk) (.float .f32 a) (.float .f32 b) (.float .f32 c) (.float .f32 p) (.float .f32 q) (.int .i64 gk) (.float .f32 a2) (.float .f32 b2) (.float .f32 c2) (.float .f32 p2) (.float .f32 q2) (.float .f32 m) (.float .f32 o))) Try.underlying29 rfl uinfoFilterI rfl ?_
  simp only [Act.put, List.setIfInBounds_toArray, List.set_cons_succ, List.set_cons_zero]
  refine wpFreeZ_one rfl (.pointer (some ⟨g0, 0, none⟩)) (fun w1 _ => by kernel_rfl) ?_
  simp only [Act.put, List.setIfInBounds_toArray, List.set_cons_succ, List.set_cons_zero]
  refine wpFreeZ_one rfl (.pointer (some ⟨g0, 0, none⟩)) (fun w1 _ => by kernel_rfl) ?_
  simp only [Act.put, List.setIfInBounds_toArray, List.set_cons_succ, List.set_cons_zero]
  refine wpFreeZ_one rfl (.pointer (some ⟨g0, 16, none⟩)) (fun w1 _ => by kernel_rfl) ?_
  simp only [Act.put, List.setIfInBounds_toArray, List.set_cons_succ, List.set_cons_zero]
  refine wpFreeZ_load1 rfl rfl rfl (p := ⟨g0, 16, none⟩) (fun w1 h1 => (HRw.out w1 h1).cell? 16) ukindFloat32 ?_
  simp only [Act.put, List.setIfInBounds_toArray, List.set_cons_succ, List.set_cons_zero]
  refine wpFreeZ_one rfl (.pointer (some ⟨g0, 0, none⟩)) (fun w1 _ => by kernel_rfl) ?_
  simp only [Act.put, List.setIfInBounds_toArray, List.set_cons_succ, List.set_cons_zero]
  refine wpFreeZ_one rfl (.pointer (some ⟨g0, 0, none⟩)) (fun w1 _ => by kernel_rfl) ?_
  simp only [Act.put, List.setIfInBounds_toArray, List.set_cons_succ, List.set_cons_zero]
  refine wpFreeZ_one rfl (.pointer (some ⟨g0, 17, none⟩)) (fun w1 _ => by kernel_rfl) ?_
  simp only [Act.put, List.setIfInBounds_toArray, List.set_cons_succ, List.set_cons_zero]
  refine wpFreeZ_load1 rfl rfl rfl (p := ⟨g0, 17, none⟩) (fun w1 h1 => (HRw.out w1 h1).cell? 17) ukindFloat32 ?_
  simp only [Act.put, List.setIfInBounds_toArray, List.set_cons_succ, List.set_cons_zero]
  refine wpFreeZ_carry rfl (.agg #[s1, .int .i64 j, t1, .int .i64 k, .int .i64 fk, .float .f32 a, .float .f32 b, .float .f32 c, .float .f32 p, .float .f32 q, .int .i64 gk, .float .f32 a2, .float .f32 b2, .float .f32 c2, .float .f32 p2, .float .f32 q2, .float .f32 m, .float .f32 o]) (fun w1 _ => by kernel_rfl) (Two (w.heap.size + 1) x nx y ny s1 t1) (fun w1 w2 hw hv => two_outX hv hw) (fun w1 hw1 ⟨zs, hf, hc⟩ => ?_) ?_
  · refine Cp.two hx.1 hy.1 (F := _) (((hf ⟨3, Ground.data⟩ (by simp) (by kernel_rfl)).1.1.1.1.1.1.1.1.1.1.1.1.1.1.1.1.1.1.1.1.2 rfl).1 trivial) (((hf ⟨7, Ground.data⟩ (by simp) (by kernel_rfl)).1.1.1.1.1.1.1.1.1.1.1.1.1.1.1.1.2 rfl).2 trivial) (hc ⟨3, Ground.data⟩ (by simp) (by kernel_rfl) ⟨7, Ground.data⟩ (by simp) (by kernel_rfl) (by decide)) (fun w2 h => (h.1.1.1.1.1.1.1.1.1.1.1.1.1.1.1.1.1.1.1.1.2 rfl).1 trivial) (fun w2 h => (h.1.1.1.1.1.1.1.1.1.1.1.1.1.1.1.1.2 rfl).2 trivial)
  simp only [Act.put, List.setIfInBounds_toArray, List.set_cons_succ, List.set_cons_zero]
  refine wpFreeZ_out rfl rfl rfl (cells := #[s1, .int .i64 j, t1, .int .i64 k, .int .i64 fk, .float .f32 a, .float .f32 b, .float .f32 c, .float .f32 p, .float .f32 q, .int .i64 gk, .float .f32 a2, .float .f32 b2, .float .f32 c2, .float .f32 p2, .float .f32 q2, .float .f32 m, .float .f32 o]) rfl rfl (G.row m0) rfl (fun w1 w2 hw ⟨zs, hf, hc⟩ hch => ⟨s1, t1, rfl, (((hf ⟨24, Ground.data⟩ (by simp) (by kernel_rfl)).2 rfl).chg hch).lo (by omega)⟩) uinfoJetI rfl (by simp only [List.all_toArray, List.all_cons, List.all_nil, os.out, ot.out]; rfl) ?_
  refine wpFreeZ_nil (fun w3 zs hw3 hF _ => ?_)
  obtain ⟨cs, hr, s2, t2, rfl, h2⟩ := (hF 25).2 rfl
  have hlw : le w w3 := G.below.trans (hw3.1.below (B := w.heap.size) (fun k e => by omega) (by have e0 : (W.drewN 1).heap.size = W.heap.size := rfl; have := HZ.out; omega))
  go_wp2
  exact bodyPost_ret (results_row1 rfl _ _ _ _ _ rfl hr Try.underlying67 rfl uinfoJetI) rfl ⟨s2, t2, rfl, h2, hlw⟩
end Go.Proofs.Ytgjdmoenobacgaa

/- Small laws of steps over facts of memory. Nothing here names a program. -/
namespace Go.Fk
open Go Go.RowKit
theorem wf_nat {n : Nat} (h : n ≤ 1024) : (Lit.int .i64 (n : Int)).wf = true := by
  simp only [Lit.wf, IntKind.min, IntKind.max, IntKind.signed, IntKind.bits, Bool.and_eq_true, decide_eq_true_eq, if_true]
  constructor <;> omega
/-- What lies behind two facts stands when blocks from the second one on have turned. -/
theorem Frg.cut2 {w0 w w' : World} {L : List Fact} {a b : Fact} (h : Frg w0 w (a :: b :: L)) {S : Nat → Prop} (k : Chg S w w') (hS : ∀ i, S i → b.lo ≤ i) : Frg w0 w' L := by
  have hb := h.facts b (by simp)
  have p := List.pairwise_cons.1 (List.pairwise_cons.1 h.apart).2
  refine ⟨h.below.trans (k.below (fun i hi => Nat.le_trans hb.1 (hS i hi)) h.size), fun e he => ?_, p.2⟩
  have hx := h.facts e (by simp [he])
  have ha := p.1 e he
  exact ⟨hx.1, Nat.le_trans hx.2.1 k.size, e.ok w w' hx.2.2 (fun i h1 h2 => k.block i (by omega) (fun c => by have := hS i c; omega))⟩
theorem ret_bi {a b : Bool} {i : Int} (h : a = b) : Ending.returned (.tuple #[.bool a, .int .i64 i]) = .returned (.tuple #[.bool b, .int .i64 i]) := by rw [h]
end Go.Fk

/- 'StepJet' of both. -/
namespace Go.Proofs.Ytgjdmoenobacgaa
open Go.RowKit Go.Fk
set_option maxRecDepth 100000 in
set_option maxHeartbeats 4000000 in
theorem i_StepJet_no (x y : Nat → Nat) (nx ny : Nat) (j k : Int) (fk : Int) (a b c p q : Nat) (gk : Int) (a2 b2 c2 p2 q2 : Nat) (m o : Nat) (sp : Nat) (B : Nat) (s t : Value) (w : World) (hs : (slT x nx).RdN w B s) (ht : (slT y ny).RdN w B t) (wf : (Lit.int .i64 j).wf = true ∧ (Lit.int .i64 k).wf = true) (hf : (fits .f32 a ∧ fits .f32 b ∧ fits .f32 c ∧ fits .f32 p ∧ fits .f32 q ∧ fits .f32 a2 ∧ fits .f32 b2 ∧ fits .f32 c2 ∧ fits .f32 p2 ∧ fits .f32 q2 ∧ fits .f32 m ∧ fits .f32 o)) (hv : okJet x y nx ny j k fk a b c p q gk a2 b2 c2 p2 q2 m o = false) :
    Calls Try.prog 49 #[.agg #[s, .int .i64 j, t, .int .i64 k, .int .i64 fk, .float .f32 a, .float .f32 b, .float .f32 c, .float .f32 p, .float .f32 q, .int .i64 gk, .float .f32 a2, .float .f32 b2, .float .f32 c2, .float .f32 p2, .float .f32 q2, .float .f32 m, .float .f32 o], .float .f32 sp] w (OutV_Tfi (cdJet (fun _ => 0) (fun _ => 0) 0 0 0 0 0 0 0 0 0 0 0 0 0 0 0 0 0 0) 0 1 w) := by
  have HV := hid (fun (w' : World) (hl : le w w') => hv ▸ i_ValidJet x y nx ny j k fk a b c p q gk a2 b2 c2 p2 q2 m o B s t w' (hs.le hl) (ht.le hl) wf hf)
  clear hs ht wf hf hv
  have F := ((Frg.nil w).box 67 #[s, .int .i64 j, t, .int .i64 k, .int .i64 fk, .float .f32 a, .float .f32 b, .float .f32 c, .float .f32 p, .float .f32 q, .int .i64 gk, .float .f32 a2, .float .f32 b2, .float .f32 c2, .float .f32 p2, .float .f32 q2, .float .f32 m, .float .f32 o]).box 67 #[.slice none 0 0, .int .i64 0, .slice none 0 0, .int .i64 0, .int .i64 0, .float .f32 0, .float .f32 0, .float .f32 0, .float .f32 0, .float .f32 0, .int .i64 0, .float .f32 0, .float .f32 0, .float .f32 0, .float .f32 0, .float .f32 0, .float .f32 0, .float .f32 0]
  simp only [World.size_alloc] at F
  go_enter Try.func49, Try.ntmps49
  go_wp2_with (first | ((with_reducible refine at_loadU rfl rfl ?_); (with_reducible refine wpList_loadG F rfl rfl rfl (by first | exact m0 | exact m1 | exact m2 | exact m3 | exact m4 | exact m5 | exact m6 | exact m7 | exact m8 | exact m9 | exact m10 | exact m11) Try.underlying67 rfl uinfoJetI rfl ?_)) | (go_at_call 97; ((with_reducible refine (HV.out _ F.below).mono ?_); rintro e w1 ⟨rfl, hl⟩; replace F := F.le hl; clear hl)) | ((with_reducible refine stop_store rfl ?_)))
  show wpList _ _ _ _ _ _
  refine wpList_storeD rfl rfl rfl (cells := #[.slice none 0 0, .int .i64 0, .slice none 0 0, .int .i64 0, .int .i64 0, .float .f32 0, .float .f32 0, .float .f32 0, .float .f32 0, .float .f32 0, .int .i64 0, .float .f32 0, .float .f32 0, .float .f32 0, .float .f32 0, .float .f32 0, .float .f32 0, .float .f32 0]) rfl (F.row m0) uinfoJetI rfl (by simp [Value.oneCell']) (fun w4 K => ?_)
  have R := hid K.row
  have L := hid (F.wr0 K).below
  clear K F
  go_wp2
  exact bodyPost_ret (results_row3 rfl _ _ _ _ _ rfl R.out Try.underlying67 rfl uinfoJetI) rfl ⟨[.slice none 0 0, .int .i64 0, .slice none 0 0, .int .i64 0, .int .i64 0, .float .f32 0, .float .f32 0, .float .f32 0, .float .f32 0, .float .f32 0, .int .i64 0, .float .f32 0, .float .f32 0, .float .f32 0, .float .f32 0, .float .f32 0, .float .f32 0, .float .f32 0], _, rfl, layJet0 _ _, L.out, by decide⟩
set_option maxRecDepth 100000 in
set_option maxHeartbeats 4000000 in
theorem i_StepJet_yes (sp : Nat) (hsp : fits .f32 sp) (q : JtS) (B : Nat) (s t : Value) (w : World) (hs : (slT q.x q.nx).RdN w B s) (ht : (slT q.y q.ny).RdN w B t) (ok : q.Ok) (hv : (okJet q.x q.y q.nx q.ny (q.j : Nat) (q.k : Nat) 1 q.a q.b q.c q.p q.q 5 q.a2 q.b2 q.c2 q.p2 q.q2 q.m q.o) = true) (fy : fits .f32 (q.y q.k)) :
    Calls Try.prog 49 #[.agg #[s, .int .i64 (q.j : Nat), t, .int .i64 (q.k : Nat), .int .i64 1, .float .f32 q.a, .float .f32 q.b, .float .f32 q.c, .float .f32 q.p, .float .f32 q.q, .int .i64 5, .float .f32 q.a2, .float .f32 q.b2, .float .f32 q.c2, .float .f32 q.p2, .float .f32 q.q2, .float .f32 q.m, .float .f32 q.o], .float .f32 sp] w (OutV_Tfi (cdJet (stepJ q sp).x (stepJ q sp).y (stepJ q sp).nx (stepJ q sp).ny ((stepJ q sp).j : Nat) ((stepJ q sp).k : Nat) 1 (stepJ q sp).a (stepJ q sp).b (stepJ q sp).c (stepJ q sp).p (stepJ q sp).q 5 (stepJ q sp).a2 (stepJ q sp).b2 (stepJ q sp).c2 (stepJ q sp).p2 (stepJ q sp).q2 (stepJ q sp).m (stepJ q sp).o) (q.y q.k) 0 w) := by
  have HV := hid (fun (w' : World) (hl : le w w') => hv ▸ i_ValidJet q.x q.y q.nx q.ny (q.j : Nat) (q.k : Nat) 1 q.a q.b q.c q.p q.q 5 q.a2 q.b2 q.c2 q.p2 q.q2 q.m q.o B s t w' (hs.le hl) (ht.le hl) ⟨wf_nat (Nat.le_trans (Nat.le_of_lt ok.j1) ok.nx2), wf_nat (Nat.le_trans (Nat.le_of_lt ok.k1) ok.ny2)⟩ ⟨ok.fa, ok.fb, ok.fc, ok.fp, ok.fq, ok.fa2, ok.fb2, ok.fc2, ok.fp2, ok.fq2, ok.fm, ok.fo⟩)
  have HN := hid (fun (w' : World) (hl : le w w') => i_newBlown q.x q.y q.nx q.ny (q.j : Nat) (q.k : Nat) 1 q.a q.b q.c q.p q.q 5 q.a2 q.b2 q.c2 q.p2 q.q2 q.m q.o B s t w' ((slT_rds hs).le hl) ((slT_rds ht).le hl) ⟨ok.nx1, ok.nx2⟩ ⟨ok.ny1, ok.ny2⟩ ⟨by decide, by decide⟩ ⟨by decide, by decide⟩)
  have OK := hid ok; have OK2 := hid (ok.step sp fy)
  clear hs ht hv ok
  have F := ((Frg.nil w).box 67 #[s, .int .i64 (q.j : Nat), t, .int .i64 (q.k : Nat), .int .i64 1, .float .f32 q.a, .float .f32 q.b, .float .f32 q.c, .float .f32 q.p, .float .f32 q.q, .int .i64 5, .float .f32 q.a2, .float .f32 q.b2, .float .f32 q.c2, .float .f32 q.p2, .float .f32 q.q2, .float .f32 q.m, .float .f32 q.o]).box 67 #[.slice none 0 0, .int .i64 0, .slice none 0 0, .int .i64 0, .int .i64 0, .float .f32 0, .float .f32 0, .float .f32 0, .float .f32 0, .float .f32 0, .int .i64 0, .float .f32 0, .float .f32 0, .float .f32 0, .float .f32 0, .float .f32 0, .float .f32 0, .float .f32 0]
  simp only [World.size_alloc] at F
  go_enter Try.func49, Try.ntmps49
  go_wp2_with (first | ((with_reducible refine at_loadU rfl rfl ?_); (with_reducible refine wpList_loadG F rfl rfl rfl (by first | exact m0 | exact m1 | exact m2 | exact m3 | exact m4 | exact m5 | exact m6 | exact m7 | exact m8 | exact m9 | exact m10 | exact m11) Try.underlying67 rfl uinfoJetI rfl ?_)) | (go_at_call 97; ((with_reducible refine (HV.out _ F.below).mono ?_); rintro e w1 ⟨rfl, hl⟩; replace F := F.le hl; clear hl)) | (go_at_call 98; ((with_reducible refine (HN.out _ F.below).mono ?_); rintro e w2 ⟨g, r, r2, s1, t1, b0, d0, rfl, hRG, hRR, hRR2, hO1, hO2, hne, l1, l2, l3, l4, l5, l6, l7, l8, l9, l10, hl2⟩; have RG := hid hRG; have RR := hid hRR; have RR2 := hid hRR2; have O1 := hid hO1; have O2 := hid hO2; have L2 := hid hl2; clear hRG hRR hRR2 hO1 hO2 hl2)) | (go_at_call 99; ((with_reducible refine (i_jstep q sp q.p q.q q.p2 q.q2 s1 t1 b0 (b0 + 1) d0 (d0 + 1) g r r2 _ RG.out RR.out RR2.out O1.out O2.out OK.out (by omega) (by omega) (by omega) (by omega) (by omega) (by omega) l9 hsp (by omega) (by omega) (by omega)).mono ?_); rintro e w3 ⟨o3, rfl, ho3, fo3, hR3, hRR3, hRR4, hP1, hP2, hC3⟩; have R3 := hid hR3; have RR3 := hid hRR3; have RR4 := hid hRR4; have P1 := hid hP1; have P2 := hid hP2; have C3 := hid hC3; have HO3 := hid ho3; clear hR3 hRR3 hRR4 hP1 hP2 hC3 ho3)) | (go_at_call 100; ((with_reducible refine (i_jbehind s1 t1 g r r2 (stepJ q sp) q.p q.q q.p2 q.q2 _ R3.out RR3.out RR4.out (by omega) (by omega) (own_one P1.out) (own_one P2.out)).mono ?_); rintro e w4 ⟨rfl, hC4⟩; have C4 := hid hC4; clear hC4)) | ((with_reducible refine stop_store rfl ?_)))
  show wpList _ _ _ _ _ _
  have hz1 := (F.row m0).lt
  have L4 : Below w1.heap.size w1 w4 := Below.trans L2.out (Below.trans (C3.out.below (B := w1.heap.size) (fun k e => by omega) L2.out.size) (C4.out.below (B := w1.heap.size) (fun k e => by have e' : k = g := e; omega) (Nat.le_trans L2.out.size C3.out.size)))
  replace F := F.le L4
  have os := P1.out.one; have ot := P2.out.one
  have P1c := P1.out.chgS C4.out (fun i a b e => by have e' : i = g := e; omega)
  have P2c := P2.out.chgS C4.out (fun i a b e => by have e' : i = g := e; omega)
  refine wpList_storeD rfl rfl rfl (cells := #[s1, .int .i64 ((stepJ q sp).j : Nat), t1, .int .i64 ((stepJ q sp).k : Nat), .int .i64 1, .float .f32 (stepJ q sp).a, .float .f32 (stepJ q sp).b, .float .f32 (stepJ q sp).c, .float .f32 (stepJ q sp).p, .float .f32 (stepJ q sp).q, .int .i64 5, .float .f32 (stepJ q sp).a2, .float .f32 (stepJ q sp).b2, .float .f32 (stepJ q sp).c2, .float .f32 (stepJ q sp).p2, .float .f32 (stepJ q sp).q2, .float .f32 (stepJ q sp).m, .float .f32 (stepJ q sp).o]) rfl (F.row m0) uinfoJetI rfl (by simp only [List.all_toArray', List.all_cons, List.all_nil, os, ot]; rfl) (fun w9 K => ?_)
  have C := (Chg.refl (· = w.heap.size + 1) w4).wrote K rfl
  have zc := C.size; have zc3 := C3.out.size; have zc4 := C4.out.size
  have Q1 := P1c.chgS C (fun i a b e => by have e' : i = w.heap.size + 1 := e; omega)
  have Q2 := P2c.chgS C (fun i a b e => by have e' : i = w.heap.size + 1 := e; omega)
  have ok2 := OK2.out
  have R := hid K.row
  have L := hid (F.wr0 K).below
  have LY := hid (layJet (stepJ q sp).x (stepJ q sp).y (stepJ q sp).nx (stepJ q sp).ny ((stepJ q sp).j : Nat) ((stepJ q sp).k : Nat) 1 (stepJ q sp).a (stepJ q sp).b (stepJ q sp).c (stepJ q sp).p (stepJ q sp).q 5 (stepJ q sp).a2 (stepJ q sp).b2 (stepJ q sp).c2 (stepJ q sp).p2 (stepJ q sp).q2 (stepJ q sp).m (stepJ q sp).o (lo := w.heap.size) ⟨b0, d0, Q1, Q2, hne, by omega, by omega, by omega, by omega⟩ ⟨wf_nat (Nat.le_trans (Nat.le_of_lt ok2.j1) ok2.nx2), wf_nat (Nat.le_trans (Nat.le_of_lt ok2.k1) ok2.ny2), by decide, by decide⟩ ⟨ok2.fa, ok2.fb, ok2.fc, ok2.fp, ok2.fq, ok2.fa2, ok2.fb2, ok2.fc2, ok2.fp2, ok2.fq2, ok2.fm, ok2.fo⟩)
  clear K F C P1c P2c Q1 Q2 os ot ok2
  go_wp2
  exact bodyPost_ret (results_row3 rfl _ _ _ _ _ rfl R.out Try.underlying67 rfl uinfoJetI) rfl ⟨[s1, .int .i64 ((stepJ q sp).j : Nat), t1, .int .i64 ((stepJ q sp).k : Nat), .int .i64 1, .float .f32 (stepJ q sp).a, .float .f32 (stepJ q sp).b, .float .f32 (stepJ q sp).c, .float .f32 (stepJ q sp).p, .float .f32 (stepJ q sp).q, .int .i64 5, .float .f32 (stepJ q sp).a2, .float .f32 (stepJ q sp).b2, .float .f32 (stepJ q sp).c2, .float .f32 (stepJ q sp).p2, .float .f32 (stepJ q sp).q2, .float .f32 (stepJ q sp).m, .float .f32 (stepJ q sp).o], o3, rfl, LY.out, L.out, HO3.out⟩
set_option maxRecDepth 100000 in
set_option maxHeartbeats 4000000 in
theorem s_StepJet_no (x y : Nat → Nat) (nx ny : Nat) (j k : Int) (fk : Int) (a b c p q : Nat) (gk : Int) (a2 b2 c2 p2 q2 : Nat) (m o : Nat) (sp : Nat) (B : Nat) (s t : Value) (w : World) (hs : (slT x nx).RdN w B s) (ht : (slT y ny).RdN w B t) (wf : (Lit.int .i64 j).wf = true ∧ (Lit.int .i64 k).wf = true) (hf : (fits .f32 a ∧ fits .f32 b ∧ fits .f32 c ∧ fits .f32 p ∧ fits .f32 q ∧ fits .f32 a2 ∧ fits .f32 b2 ∧ fits .f32 c2 ∧ fits .f32 p2 ∧ fits .f32 q2 ∧ fits .f32 m ∧ fits .f32 o)) (hv : okJet x y nx ny j k fk a b c p q gk a2 b2 c2 p2 q2 m o = false) :
    Calls Try.prog 47 #[.agg #[s, .int .i64 j, t, .int .i64 k, .int .i64 fk, .float .f32 a, .float .f32 b, .float .f32 c, .float .f32 p, .float .f32 q, .int .i64 gk, .float .f32 a2, .float .f32 b2, .float .f32 c2, .float .f32 p2, .float .f32 q2, .float .f32 m, .float .f32 o], .float .f32 sp] w (OutV_Tfi (cdJet (fun _ => 0) (fun _ => 0) 0 0 0 0 0 0 0 0 0 0 0 0 0 0 0 0 0 0) 0 1 w) := by
  have HV := hid (fun (g9 : Nat) (w' : World) (hl : le w w') (R : Row w' g9 67 #[s, .int .i64 j, t, .int .i64 k, .int .i64 fk, .float .f32 a, .float .f32 b, .float .f32 c, .float .f32 p, .float .f32 q, .int .i64 gk, .float .f32 a2, .float .f32 b2, .float .f32 c2, .float .f32 p2, .float .f32 q2, .float .f32 m, .float .f32 o]) => hv ▸ s_l05Jet x y nx ny j k fk a b c p q gk a2 b2 c2 p2 q2 m o B s t w' g9 R (hs.le hl) (ht.le hl) wf hf)
  clear hs ht wf hf hv
  have F := ((Frg.nil w).box 67 #[s, .int .i64 j, t, .int .i64 k, .int .i64 fk, .float .f32 a, .float .f32 b, .float .f32 c, .float .f32 p, .float .f32 q, .int .i64 gk, .float .f32 a2, .float .f32 b2, .float .f32 c2, .float .f32 p2, .float .f32 q2, .float .f32 m, .float .f32 o]).box 67 #[.slice none 0 0, .int .i64 0, .slice none 0 0, .int .i64 0, .int .i64 0, .float .f32 0, .float .f32 0, .float .f32 0, .float .f32 0, .float .f32 0, .int .i64 0, .float .f32 0, .float .f32 0, .float .f32 0, .float .f32 0, .float .f32 0, .float .f32 0, .float .f32 0]
  simp only [World.size_alloc] at F
  go_enter Try.func47, Try.ntmps47
  go_wp2_with (first | ((with_reducible refine at_loadU rfl rfl ?_); (with_reducible refine wpList_loadG F rfl rfl rfl (by first | exact m0 | exact m1 | exact m2 | exact m3 | exact m4 | exact m5 | exact m6 | exact m7 | exact m8 | exact m9 | exact m10 | exact m11) Try.underlying67 rfl uinfoJetI rfl ?_)) | (go_at_call 94; ((with_reducible refine (HV.out _ _ F.below (F.row m1)).mono ?_); rintro e w1 ⟨rfl, hl⟩; replace F := F.le hl; clear hl)) | ((with_reducible refine stop_store rfl ?_)))
  show wpList _ _ _ _ _ _
  refine wpList_storeD rfl rfl rfl (cells := #[.slice none 0 0, .int .i64 0, .slice none 0 0, .int .i64 0, .int .i64 0, .float .f32 0, .float .f32 0, .float .f32 0, .float .f32 0, .float .f32 0, .int .i64 0, .float .f32 0, .float .f32 0, .float .f32 0, .float .f32 0, .float .f32 0, .float .f32 0, .float .f32 0]) rfl (F.row m0) uinfoJetI rfl (by simp [Value.oneCell']) (fun w4 K => ?_)
  have R := hid K.row
  have L := hid (F.wr0 K).below
  clear K F
  go_wp2
  exact bodyPost_ret (results_row3 rfl _ _ _ _ _ rfl R.out Try.underlying67 rfl uinfoJetI) rfl ⟨[.slice none 0 0, .int .i64 0, .slice none 0 0, .int .i64 0, .int .i64 0, .float .f32 0, .float .f32 0, .float .f32 0, .float .f32 0, .float .f32 0, .int .i64 0, .float .f32 0, .float .f32 0, .float .f32 0, .float .f32 0, .float .f32 0, .float .f32 0, .float .f32 0], _, rfl, layJet0 _ _, L.out, by decide⟩
set_option maxRecDepth 100000 in
set_option maxHeartbeats 4000000 in
theorem s_StepJet_yes (sp : Nat) (hsp : fits .f32 sp) (q : JtS) (B : Nat) (s t : Value) (w : World) (hs : (slT q.x q.nx).RdN w B s) (ht : (slT q.y q.ny).RdN w B t) (ok : q.Ok) (hv : (okJet q.x q.y q.nx q.ny (q.j : Nat) (q.k : Nat) 1 q.a q.b q.c q.p q.q 5 q.a2 q.b2 q.c2 q.p2 q.q2 q.m q.o) = true) (fy : fits .f32 (q.y q.k)) :
    Calls Try.prog 47 #[.agg #[s, .int .i64 (q.j : Nat), t, .int .i64 (q.k : Nat), .int .i64 1, .float .f32 q.a, .float .f32 q.b, .float .f32 q.c, .float .f32 q.p, .float .f32 q.q, .int .i64 5, .float .f32 q.a2, .float .f32 q.b2, .float .f32 q.c2, .float .f32 q.p2, .float .f32 q.q2, .float .f32 q.m, .float .f32 q.o], .float .f32 sp] w (OutV_Tfi (cdJet (stepJ q sp).x (stepJ q sp).y (stepJ q sp).nx (stepJ q sp).ny ((stepJ q sp).j : Nat) ((stepJ q sp).k : Nat) 1 (stepJ q sp).a (stepJ q sp).b (stepJ q sp).c (stepJ q sp).p (stepJ q sp).q 5 (stepJ q sp).a2 (stepJ q sp).b2 (stepJ q sp).c2 (stepJ q sp).p2 (stepJ q sp).q2 (stepJ q sp).m (stepJ q sp).o) (q.y q.k) 0 w) := by
  have HV := hid (fun (g9 : Nat) (w' : World) (hl : le w w') (R : Row w' g9 67 #[s, .int .i64 (q.j : Nat), t, .int .i64 (q.k : Nat), .int .i64 1, .float .f32 q.a, .float .f32 q.b, .float .f32 q.c, .float .f32 q.p, .float .f32 q.q, .int .i64 5, .float .f32 q.a2, .float .f32 q.b2, .float .f32 q.c2, .float .f32 q.p2, .float .f32 q.q2, .float .f32 q.m, .float .f32 q.o]) => hv ▸ s_l05Jet q.x q.y q.nx q.ny (q.j : Nat) (q.k : Nat) 1 q.a q.b q.c q.p q.q 5 q.a2 q.b2 q.c2 q.p2 q.q2 q.m q.o B s t w' g9 R (hs.le hl) (ht.le hl) ⟨wf_nat (Nat.le_trans (Nat.le_of_lt ok.j1) ok.nx2), wf_nat (Nat.le_trans (Nat.le_of_lt ok.k1) ok.ny2)⟩ ⟨ok.fa, ok.fb, ok.fc, ok.fp, ok.fq, ok.fa2, ok.fb2, ok.fc2, ok.fp2, ok.fq2, ok.fm, ok.fo⟩)
  have HC := hid (fun (g9 : Nat) (w' : World) (hl : le w w') (R : Row w' g9 67 #[s, .int .i64 (q.j : Nat), t, .int .i64 (q.k : Nat), .int .i64 1, .float .f32 q.a, .float .f32 q.b, .float .f32 q.c, .float .f32 q.p, .float .f32 q.q, .int .i64 5, .float .f32 q.a2, .float .f32 q.b2, .float .f32 q.c2, .float .f32 q.p2, .float .f32 q.q2, .float .f32 q.m, .float .f32 q.o]) => s_l05CopyJet q.x q.y q.nx q.ny (q.j : Nat) (q.k : Nat) 1 q.a q.b q.c q.p q.q 5 q.a2 q.b2 q.c2 q.p2 q.q2 q.m q.o B s t w' g9 R ((slT_rds hs).le hl) ((slT_rds ht).le hl) ⟨ok.nx1, ok.nx2⟩ ⟨ok.ny1, ok.ny2⟩)
  have OK := hid ok; have OK2 := hid (ok.step sp fy)
  clear hs ht hv ok
  have F := ((Frg.nil w).box 67 #[s, .int .i64 (q.j : Nat), t, .int .i64 (q.k : Nat), .int .i64 1, .float .f32 q.a, .float .f32 q.b, .float .f32 q.c, .float .f32 q.p, .float .f32 q.q, .int .i64 5, .float .f32 q.a2, .float .f32 q.b2, .float .f32 q.c2, .float .f32 q.p2, .float .f32 q.q2, .float .f32 q.m, .float .f32 q.o]).box 67 #[.slice none 0 0, .int .i64 0, .slice none 0 0, .int .i64 0, .int .i64 0, .float .f32 0, .float .f32 0, .float .f32 0, .float .f32 0, .float .f32 0, .int .i64 0, .float .f32 0, .float .f32 0, .float .f32 0, .float .f32 0, .float .f32 0, .float .f32 0, .float .f32 0]
  simp only [World.size_alloc] at F
  go_enter Try.func47, Try.ntmps47
  go_wp2_with (first | (go_at_call 94; ((with_reducible refine (HV.out _ _ F.below (F.row m1)).mono ?_); rintro e w1 ⟨rfl, hl⟩; replace F := F.le hl; clear hl)) | (go_at_call 95; ((with_reducible refine (HC.out _ _ F.below (F.row m1)).mono ?_); rintro e w2 ⟨s1, t1, rfl, h2, hl⟩; have os := hid (two_one h2).1; have ot := hid (two_one h2).2; replace F := F.two hl h2; clear h2 hl)) | (refine wpList_storeG F rfl rfl rfl rfl rfl uinfoJetI rfl (by simp only [List.all_toArray', List.all_cons, List.all_nil, os.out, ot.out]; rfl) ?_; clear F; intro W3 F zW))
  obtain ⟨b0, d0, hO1, hO2, hne, z1, z2, z3, z4⟩ := (F.facts (twF w1.heap.size w2.heap.size q.x q.nx q.y q.ny s1 t1) m1).2.2
  have O1 := hid hO1; have O2 := hid hO2; clear hO1 hO2
  have hg := (List.pairwise_cons.1 (List.pairwise_cons.1 F.apart).2).1 _ m0
  simp only [twF, rowF] at hg
  go_wp2_with (first | (go_at_call 96; ((with_reducible refine (s_l05StepJet q sp s1 t1 b0 (b0 + 1) d0 (d0 + 1) w2.heap.size _ (F.row m0) O1.out O2.out OK.out hsp (by omega) (by omega) (by omega)).mono ?_); rintro e w4 ⟨o3, rfl, ho3, fo3, hR3, hP1, hP2, hC3⟩; have R3 := hid hR3; have P1 := hid hP1; have P2 := hid hP2; have HO3 := hid ho3; have zC := hC3.size; replace F := F.cut2 hC3 (fun i e => by simp only [twF]; omega); clear hR3 hP1 hP2 hC3 ho3)) | ((with_reducible refine at_loadU rfl rfl ?_); (with_reducible refine wpList_loadDR R3.out rfl rfl rfl Try.underlying67 rfl uinfoJetI rfl ?_)) | ((with_reducible refine stop_store rfl ?_)))
  show wpList _ _ _ _ _ _
  have os4 := P1.out.one; have ot4 := P2.out.one
  refine wpList_storeD rfl rfl rfl (cells := #[s1, .int .i64 ((stepJ q sp).j : Nat), t1, .int .i64 ((stepJ q sp).k : Nat), .int .i64 1, .float .f32 (stepJ q sp).a, .float .f32 (stepJ q sp).b, .float .f32 (stepJ q sp).c, .float .f32 (stepJ q sp).p, .float .f32 (stepJ q sp).q, .int .i64 5, .float .f32 (stepJ q sp).a2, .float .f32 (stepJ q sp).b2, .float .f32 (stepJ q sp).c2, .float .f32 (stepJ q sp).p2, .float .f32 (stepJ q sp).q2, .float .f32 (stepJ q sp).m, .float .f32 (stepJ q sp).o]) rfl (F.row m0) uinfoJetI rfl (by simp only [List.all_toArray', List.all_cons, List.all_nil, os4, ot4]; rfl) (fun w9 K => ?_)
  have C := (Chg.refl (· = w.heap.size + 1) w4).wrote K rfl
  have zc := C.size
  have Q1 := P1.out.chgS C (fun i a b e => by have e' : i = w.heap.size + 1 := e; omega)
  have Q2 := P2.out.chgS C (fun i a b e => by have e' : i = w.heap.size + 1 := e; omega)
  have ok2 := OK2.out
  have R := hid K.row
  have L := hid (F.wr0 K).below
  have LY := hid (layJet (stepJ q sp).x (stepJ q sp).y (stepJ q sp).nx (stepJ q sp).ny ((stepJ q sp).j : Nat) ((stepJ q sp).k : Nat) 1 (stepJ q sp).a (stepJ q sp).b (stepJ q sp).c (stepJ q sp).p (stepJ q sp).q 5 (stepJ q sp).a2 (stepJ q sp).b2 (stepJ q sp).c2 (stepJ q sp).p2 (stepJ q sp).q2 (stepJ q sp).m (stepJ q sp).o (lo := w.heap.size) ⟨b0, d0, Q1, Q2, hne, by omega, by omega, by omega, by omega⟩ ⟨wf_nat (Nat.le_trans (Nat.le_of_lt ok2.j1) ok2.nx2), wf_nat (Nat.le_trans (Nat.le_of_lt ok2.k1) ok2.ny2), by decide, by decide⟩ ⟨ok2.fa, ok2.fb, ok2.fc, ok2.fp, ok2.fq, ok2.fa2, ok2.fb2, ok2.fc2, ok2.fp2, ok2.fq2, ok2.fm, ok2.fo⟩)
  clear K F C Q1 Q2 os4 ot4 ok2
  go_wp2
  exact bodyPost_ret (results_row3 rfl _ _ _ _ _ rfl R.out Try.underlying67 rfl uinfoJetI) rfl ⟨[s1, .int .i64 ((stepJ q sp).j : Nat), t1, .int .i64 ((stepJ q sp).k : Nat), .int .i64 1, .float .f32 (stepJ q sp).a, .float .f32 (stepJ q sp).b, .float .f32 (stepJ q sp).c, .float .f32 (stepJ q sp).p, .float .f32 (stepJ q sp).q, .int .i64 5, .float .f32 (stepJ q sp).a2, .float .f32 (stepJ q sp).b2, .float .f32 (stepJ q sp).c2, .float .f32 (stepJ q sp).p2, .float .f32 (stepJ q sp).q2, .float .f32 (stepJ q sp).m, .float .f32 (stepJ q sp).o], o3, rfl, LY.out, L.out, HO3.out⟩
theorem both_StepJet (cs : List CD) (sp : Nat) (h : HasShL shJet cs) (hsp : fits .f32 sp) : ∃ (ar0 : List CD) (ar1 : Nat) (ar2 : Int), ShOkL shJet ar0 ∧ szL ar0 ≤ 1048576 ∧ (∀ (w : World) (B : Nat) (u : List Value), RdLN w B (cs.map CD.cp) u → Calls Try.prog 47 #[.agg u.toArray, .float .f32 sp] w (OutV_Tfi ar0 ar1 ar2 w)) ∧ (∀ (w : World) (B : Nat) (u : List Value), RdLN w B (cs.map CD.cp) u → Calls Try.prog 49 #[.agg u.toArray, .float .f32 sp] w (OutV_Tfi ar0 ar1 ar2 w)) := by
  obtain ⟨xs, ys, nx, ny, j, k, fk, a, b, c, p, q, gk, a2, b2, c2, p2, q2, m, o, rfl, hx, hy⟩ := jet_data h
  cases hv : okJet (fun i => (xs i).fx) (fun i => (ys i).fx) nx ny j k fk a b c p q gk a2 b2 c2 p2 q2 m o
  · refine ⟨cdJet (fun _ => 0) (fun _ => 0) 0 0 0 0 0 0 0 0 0 0 0 0 0 0 0 0 0 0, 0, 1, cdJet_sh (fun _ => 0) (fun _ => 0) 0 0 0 0 0 0 0 0 0 0 0 0 0 0 0 0 0 0, by rw [cdJet_sz]; omega, fun w B u hu => ?_, fun w B u hu => ?_⟩
    · obtain ⟨s, t, rfl, hs, ht, wf, hf⟩ := jet_open hu hx hy
      exact s_StepJet_no (fun i => (xs i).fx) (fun i => (ys i).fx) nx ny j k fk a b c p q gk a2 b2 c2 p2 q2 m o sp B s t w hs ht wf hf hv
    · obtain ⟨s, t, rfl, hs, ht, wf, hf⟩ := jet_open hu hx hy
      exact i_StepJet_no (fun i => (xs i).fx) (fun i => (ys i).fx) nx ny j k fk a b c p q gk a2 b2 c2 p2 q2 m o sp B s t w hs ht wf hf hv
  · obtain ⟨x1, x2, y1, y2, ⟨j, rfl, ej⟩, ⟨k, rfl, ek⟩, rfl, hk, rfl, hk2⟩ := okJet_j hv
    let Q : JtS := ⟨fun i => (xs i).fx, fun i => (ys i).fx, nx, ny, j, k, a, b, c, p, q, a2, b2, c2, p2, q2, m, o⟩
    have hfy : ∀ (w : World) (B : Nat) (t : Value), (slT (fun i => (ys i).fx) ny).RdN w B t → fits .f32 ((ys k).fx) := fun w B t h => (slT_rds h).fits ek
    refine ⟨cdJet (stepJ Q sp).x (stepJ Q sp).y (stepJ Q sp).nx (stepJ Q sp).ny ((stepJ Q sp).j : Nat) ((stepJ Q sp).k : Nat) 1 (stepJ Q sp).a (stepJ Q sp).b (stepJ Q sp).c (stepJ Q sp).p (stepJ Q sp).q 5 (stepJ Q sp).a2 (stepJ Q sp).b2 (stepJ Q sp).c2 (stepJ Q sp).p2 (stepJ Q sp).q2 (stepJ Q sp).m (stepJ Q sp).o, (ys k).fx, 0, cdJet_sh _ _ _ _ _ _ _ _ _ _ _ _ _ _ _ _ _ _ _ _, by rw [cdJet_sz]; exact (by show nx + ny ≤ 1048576; omega), fun w B u hu => ?_, fun w B u hu => ?_⟩
    · obtain ⟨s, t, rfl, hs, ht, wf, hf⟩ := jet_open hu hx hy
      exact s_StepJet_yes sp hsp Q B s t w hs ht ⟨x1, x2, y1, y2, ej, ek, hk, hk2, hf.1, hf.2.1, hf.2.2.1, hf.2.2.2.1, hf.2.2.2.2.1, hf.2.2.2.2.2.1, hf.2.2.2.2.2.2.1, hf.2.2.2.2.2.2.2.1, hf.2.2.2.2.2.2.2.2.1, hf.2.2.2.2.2.2.2.2.2.1, hf.2.2.2.2.2.2.2.2.2.2.1, hf.2.2.2.2.2.2.2.2.2.2.2⟩ hv (hfy w B t ht)
    · obtain ⟨s, t, rfl, hs, ht, wf, hf⟩ := jet_open hu hx hy
      exact i_StepJet_yes sp hsp Q B s t w hs ht ⟨x1, x2, y1, y2, ej, ek, hk, hk2, hf.1, hf.2.1, hf.2.2.1, hf.2.2.2.1, hf.2.2.2.2.1, hf.2.2.2.2.2.1, hf.2.2.2.2.2.2.1, hf.2.2.2.2.2.2.2.1, hf.2.2.2.2.2.2.2.2.1, hf.2.2.2.2.2.2.2.2.2.1, hf.2.2.2.2.2.2.2.2.2.2.1, hf.2.2.2.2.2.2.2.2.2.2.2⟩ hv (hfy w B t ht)
end Go.Proofs.Ytgjdmoenobacgaa

/- What grows by append, beside facts of memory. Nothing here names a program. -/
namespace Go.Fk
open Go Go.RowKit
theorem ownsRow_chS {S : Nat → Prop} {w w' : World} {e : TypeId} {n B : Nat} {xs : List Value} {v : Value} (hw : Chg S w w') (h : w.ownsRow B e 1 v n xs) (hS : ∀ i, S i → i < B) : w'.ownsRow B e 1 v n xs := by
  obtain ⟨h1, h2⟩ := h
  refine ⟨h1, ?_⟩
  rcases h2 with h2 | ⟨q, cap, cur, e1, e2, e3, e4⟩
  · exact .inl h2
  · exact .inr ⟨q, cap, cur, e1, e2, by have := hw.row (g := q) (t := e) (cs := cur) e3 (fun hq => by have := hS q hq; omega); exact this, e4⟩
theorem ownBlock_ge {w : World} {B : Nat} {e : TypeId} {z : Nat} {v : Value} {n : Nat} {xs : List Value} (h : w.ownsRow B e z v n xs) : ∀ k, v.ownBlock = some k → B ≤ k := by
  rcases h.2 with ⟨rfl, _⟩ | ⟨q, cap, cur, rfl, hb, _⟩
  · intro k hk; cases hk
  · intro k hk; simp only [Value.ownBlock, Option.some.injEq] at hk; omega
theorem chg_grown {w w' : World} {row : Option Nat} {B : Nat} (h : w.grownBy w' row) (hr : ∀ k, row = some k → B ≤ k) : Chg (B ≤ ·) w w' :=
  ⟨h.os, h.tape, h.output, h.size, fun k hk hn => h.block k hk (fun e => hn (hr k e.symm))⟩
theorem Frg.up {w0 w w' : World} {L : List Fact} {B : Nat} (h : Frg w0 w L) (k : Chg (B ≤ ·) w w') (hB : ∀ e ∈ L, e.hi ≤ B) (h0 : w0.heap.size ≤ B) : Frg w0 w' L :=
  ⟨h.below.trans (k.below (fun i hi => Nat.le_trans h0 hi) h.size), fun e he => by
    obtain ⟨h1, h2, h3⟩ := h.facts e he
    exact ⟨h1, Nat.le_trans h2 k.size, e.ok w w' h3 (fun i _ hi => k.block i (by omega) (fun hb => by have := hB e he; omega))⟩, h.apart⟩
theorem flist_snoc (y : Nat → Nat) (n a : Nat) : flist y n ++ [.float .f32 a] = flist (fun j => if j = n then a else y j) (n + 1) := by
  have h := flist_app y (fun _ => a) n 1
  have h1 : flist (fun _ => a) 1 = [.float .f32 a] := by simp [flist]
  rw [h1] at h
  rw [h]
  apply List.ext_getElem?
  intro i
  by_cases hi : i < n + 1
  · rw [flist_get' _ hi, flist_get' _ hi]
    by_cases e : i = n
    · simp [e]
    · simp [e, show i < n by omega]
  · rw [List.getElem?_eq_none (by rw [flist_length]; omega), List.getElem?_eq_none (by rw [flist_length]; omega)]
theorem Frg.own2 {w0 w w' : World} {L : List Fact} {q n n' : Nat} {s s' : Value} {x x' : Nat → Nat} (h : Frg w0 w L) (k : Below w.heap.size w w') (h1 : w.heap.size ≤ q) (h2 : q ≤ w'.heap.size) (o1 : OwnS w' w.heap.size q s x n) (o2 : OwnS w' q w'.heap.size s' x' n') :
    Frg w0 w' (ownF q w'.heap.size s' x' n' :: ownF w.heap.size q s x n :: L) := by
  refine ⟨(h.le k).below, fun e he => ?_, .cons (fun e he => ?_) (.cons (fun e he => (h.facts e he).2.1) h.apart)⟩
  · rcases List.mem_cons.1 he with rfl | he
    · exact ⟨Nat.le_trans h.size h1, Nat.le_refl _, o2⟩
    · rcases List.mem_cons.1 he with rfl | he
      · exact ⟨h.size, h2, o1⟩
      · exact (h.le k).facts e he
  · rcases List.mem_cons.1 he with rfl | he
    · exact Nat.le_refl q
    · exact Nat.le_trans (h.facts e he).2.1 h1
theorem m12 {b0 b1 b2 b3 b4 b5 b6 b7 b8 b9 b10 b11 a : Fact} {l : List Fact} : a ∈ b0 :: b1 :: b2 :: b3 :: b4 :: b5 :: b6 :: b7 :: b8 :: b9 :: b10 :: b11 :: a :: l := List.mem_cons_of_mem _ (List.mem_cons_of_mem _ (List.mem_cons_of_mem _ (List.mem_cons_of_mem _ (List.mem_cons_of_mem _ (List.mem_cons_of_mem _ (List.mem_cons_of_mem _ (List.mem_cons_of_mem _ (List.mem_cons_of_mem _ (List.mem_cons_of_mem _ (List.mem_cons_of_mem _ (List.mem_cons_of_mem _ (List.mem_cons_self))))))))))))
theorem m13 {b0 b1 b2 b3 b4 b5 b6 b7 b8 b9 b10 b11 b12 a : Fact} {l : List Fact} : a ∈ b0 :: b1 :: b2 :: b3 :: b4 :: b5 :: b6 :: b7 :: b8 :: b9 :: b10 :: b11 :: b12 :: a :: l := List.mem_cons_of_mem _ (List.mem_cons_of_mem _ (List.mem_cons_of_mem _ (List.mem_cons_of_mem _ (List.mem_cons_of_mem _ (List.mem_cons_of_mem _ (List.mem_cons_of_mem _ (List.mem_cons_of_mem _ (List.mem_cons_of_mem _ (List.mem_cons_of_mem _ (List.mem_cons_of_mem _ (List.mem_cons_of_mem _ (List.mem_cons_of_mem _ (List.mem_cons_self)))))))))))))
theorem m14 {b0 b1 b2 b3 b4 b5 b6 b7 b8 b9 b10 b11 b12 b13 a : Fact} {l : List Fact} : a ∈ b0 :: b1 :: b2 :: b3 :: b4 :: b5 :: b6 :: b7 :: b8 :: b9 :: b10 :: b11 :: b12 :: b13 :: a :: l := List.mem_cons_of_mem _ (List.mem_cons_of_mem _ (List.mem_cons_of_mem _ (List.mem_cons_of_mem _ (List.mem_cons_of_mem _ (List.mem_cons_of_mem _ (List.mem_cons_of_mem _ (List.mem_cons_of_mem _ (List.mem_cons_of_mem _ (List.mem_cons_of_mem _ (List.mem_cons_of_mem _ (List.mem_cons_of_mem _ (List.mem_cons_of_mem _ (List.mem_cons_of_mem _ (List.mem_cons_self))))))))))))))
theorem m15 {b0 b1 b2 b3 b4 b5 b6 b7 b8 b9 b10 b11 b12 b13 b14 a : Fact} {l : List Fact} : a ∈ b0 :: b1 :: b2 :: b3 :: b4 :: b5 :: b6 :: b7 :: b8 :: b9 :: b10 :: b11 :: b12 :: b13 :: b14 :: a :: l := List.mem_cons_of_mem _ (List.mem_cons_of_mem _ (List.mem_cons_of_mem _ (List.mem_cons_of_mem _ (List.mem_cons_of_mem _ (List.mem_cons_of_mem _ (List.mem_cons_of_mem _ (List.mem_cons_of_mem _ (List.mem_cons_of_mem _ (List.mem_cons_of_mem _ (List.mem_cons_of_mem _ (List.mem_cons_of_mem _ (List.mem_cons_of_mem _ (List.mem_cons_of_mem _ (List.mem_cons_of_mem _ (List.mem_cons_self)))))))))))))))
theorem m16 {b0 b1 b2 b3 b4 b5 b6 b7 b8 b9 b10 b11 b12 b13 b14 b15 a : Fact} {l : List Fact} : a ∈ b0 :: b1 :: b2 :: b3 :: b4 :: b5 :: b6 :: b7 :: b8 :: b9 :: b10 :: b11 :: b12 :: b13 :: b14 :: b15 :: a :: l := List.mem_cons_of_mem _ (List.mem_cons_of_mem _ (List.mem_cons_of_mem _ (List.mem_cons_of_mem _ (List.mem_cons_of_mem _ (List.mem_cons_of_mem _ (List.mem_cons_of_mem _ (List.mem_cons_of_mem _ (List.mem_cons_of_mem _ (List.mem_cons_of_mem _ (List.mem_cons_of_mem _ (List.mem_cons_of_mem _ (List.mem_cons_of_mem _ (List.mem_cons_of_mem _ (List.mem_cons_of_mem _ (List.mem_cons_of_mem _ (List.mem_cons_self))))))))))))))))
theorem m17 {b0 b1 b2 b3 b4 b5 b6 b7 b8 b9 b10 b11 b12 b13 b14 b15 b16 a : Fact} {l : List Fact} : a ∈ b0 :: b1 :: b2 :: b3 :: b4 :: b5 :: b6 :: b7 :: b8 :: b9 :: b10 :: b11 :: b12 :: b13 :: b14 :: b15 :: b16 :: a :: l := List.mem_cons_of_mem _ (List.mem_cons_of_mem _ (List.mem_cons_of_mem _ (List.mem_cons_of_mem _ (List.mem_cons_of_mem _ (List.mem_cons_of_mem _ (List.mem_cons_of_mem _ (List.mem_cons_of_mem _ (List.mem_cons_of_mem _ (List.mem_cons_of_mem _ (List.mem_cons_of_mem _ (List.mem_cons_of_mem _ (List.mem_cons_of_mem _ (List.mem_cons_of_mem _ (List.mem_cons_of_mem _ (List.mem_cons_of_mem _ (List.mem_cons_of_mem _ (List.mem_cons_self)))))))))))))))))
theorem m18 {b0 b1 b2 b3 b4 b5 b6 b7 b8 b9 b10 b11 b12 b13 b14 b15 b16 b17 a : Fact} {l : List Fact} : a ∈ b0 :: b1 :: b2 :: b3 :: b4 :: b5 :: b6 :: b7 :: b8 :: b9 :: b10 :: b11 :: b12 :: b13 :: b14 :: b15 :: b16 :: b17 :: a :: l := List.mem_cons_of_mem _ (List.mem_cons_of_mem _ (List.mem_cons_of_mem _ (List.mem_cons_of_mem _ (List.mem_cons_of_mem _ (List.mem_cons_of_mem _ (List.mem_cons_of_mem _ (List.mem_cons_of_mem _ (List.mem_cons_of_mem _ (List.mem_cons_of_mem _ (List.mem_cons_of_mem _ (List.mem_cons_of_mem _ (List.mem_cons_of_mem _ (List.mem_cons_of_mem _ (List.mem_cons_of_mem _ (List.mem_cons_of_mem _ (List.mem_cons_of_mem _ (List.mem_cons_of_mem _ (List.mem_cons_self))))))))))))))))))
theorem m19 {b0 b1 b2 b3 b4 b5 b6 b7 b8 b9 b10 b11 b12 b13 b14 b15 b16 b17 b18 a : Fact} {l : List Fact} : a ∈ b0 :: b1 :: b2 :: b3 :: b4 :: b5 :: b6 :: b7 :: b8 :: b9 :: b10 :: b11 :: b12 :: b13 :: b14 :: b15 :: b16 :: b17 :: b18 :: a :: l := List.mem_cons_of_mem _ (List.mem_cons_of_mem _ (List.mem_cons_of_mem _ (List.mem_cons_of_mem _ (List.mem_cons_of_mem _ (List.mem_cons_of_mem _ (List.mem_cons_of_mem _ (List.mem_cons_of_mem _ (List.mem_cons_of_mem _ (List.mem_cons_of_mem _ (List.mem_cons_of_mem _ (List.mem_cons_of_mem _ (List.mem_cons_of_mem _ (List.mem_cons_of_mem _ (List.mem_cons_of_mem _ (List.mem_cons_of_mem _ (List.mem_cons_of_mem _ (List.mem_cons_of_mem _ (List.mem_cons_of_mem _ (List.mem_cons_self)))))))))))))))))))
theorem Frg.mark10 {w0 w w' : World} {lo hi n : Nat} {s : Value} {x x' : Nat → Nat} {l : List Fact} {b0 b1 b2 b3 b4 b5 b6 b7 b8 b9 : Fact} (h : Frg w0 w (b0 :: b1 :: b2 :: b3 :: b4 :: b5 :: b6 :: b7 :: b8 :: b9 :: ownF lo hi s x n :: l)) (hp : OwnS w' lo hi s x' n) (k : Chg (rng lo hi) w w') : Frg w0 w' (b0 :: b1 :: b2 :: b3 :: b4 :: b5 :: b6 :: b7 :: b8 :: b9 :: ownF lo hi s x' n :: l) :=
  Frg.chg [b0, b1, b2, b3, b4, b5, b6, b7, b8, b9] (e := ownF lo hi s x n) (e' := ownF lo hi s x' n) h k hp rfl rfl
theorem Frg.mark11 {w0 w w' : World} {lo hi n : Nat} {s : Value} {x x' : Nat → Nat} {l : List Fact} {b0 b1 b2 b3 b4 b5 b6 b7 b8 b9 b10 : Fact} (h : Frg w0 w (b0 :: b1 :: b2 :: b3 :: b4 :: b5 :: b6 :: b7 :: b8 :: b9 :: b10 :: ownF lo hi s x n :: l)) (hp : OwnS w' lo hi s x' n) (k : Chg (rng lo hi) w w') : Frg w0 w' (b0 :: b1 :: b2 :: b3 :: b4 :: b5 :: b6 :: b7 :: b8 :: b9 :: b10 :: ownF lo hi s x' n :: l) :=
  Frg.chg [b0, b1, b2, b3, b4, b5, b6, b7, b8, b9, b10] (e := ownF lo hi s x n) (e' := ownF lo hi s x' n) h k hp rfl rfl
theorem Frg.mark12 {w0 w w' : World} {lo hi n : Nat} {s : Value} {x x' : Nat → Nat} {l : List Fact} {b0 b1 b2 b3 b4 b5 b6 b7 b8 b9 b10 b11 : Fact} (h : Frg w0 w (b0 :: b1 :: b2 :: b3 :: b4 :: b5 :: b6 :: b7 :: b8 :: b9 :: b10 :: b11 :: ownF lo hi s x n :: l)) (hp : OwnS w' lo hi s x' n) (k : Chg (rng lo hi) w w') : Frg w0 w' (b0 :: b1 :: b2 :: b3 :: b4 :: b5 :: b6 :: b7 :: b8 :: b9 :: b10 :: b11 :: ownF lo hi s x' n :: l) :=
  Frg.chg [b0, b1, b2, b3, b4, b5, b6, b7, b8, b9, b10, b11] (e := ownF lo hi s x n) (e' := ownF lo hi s x' n) h k hp rfl rfl
theorem Frg.mark13 {w0 w w' : World} {lo hi n : Nat} {s : Value} {x x' : Nat → Nat} {l : List Fact} {b0 b1 b2 b3 b4 b5 b6 b7 b8 b9 b10 b11 b12 : Fact} (h : Frg w0 w (b0 :: b1 :: b2 :: b3 :: b4 :: b5 :: b6 :: b7 :: b8 :: b9 :: b10 :: b11 :: b12 :: ownF lo hi s x n :: l)) (hp : OwnS w' lo hi s x' n) (k : Chg (rng lo hi) w w') : Frg w0 w' (b0 :: b1 :: b2 :: b3 :: b4 :: b5 :: b6 :: b7 :: b8 :: b9 :: b10 :: b11 :: b12 :: ownF lo hi s x' n :: l) :=
  Frg.chg [b0, b1, b2, b3, b4, b5, b6, b7, b8, b9, b10, b11, b12] (e := ownF lo hi s x n) (e' := ownF lo hi s x' n) h k hp rfl rfl
theorem Frg.mark14 {w0 w w' : World} {lo hi n : Nat} {s : Value} {x x' : Nat → Nat} {l : List Fact} {b0 b1 b2 b3 b4 b5 b6 b7 b8 b9 b10 b11 b12 b13 : Fact} (h : Frg w0 w (b0 :: b1 :: b2 :: b3 :: b4 :: b5 :: b6 :: b7 :: b8 :: b9 :: b10 :: b11 :: b12 :: b13 :: ownF lo hi s x n :: l)) (hp : OwnS w' lo hi s x' n) (k : Chg (rng lo hi) w w') : Frg w0 w' (b0 :: b1 :: b2 :: b3 :: b4 :: b5 :: b6 :: b7 :: b8 :: b9 :: b10 :: b11 :: b12 :: b13 :: ownF lo hi s x' n :: l) :=
  Frg.chg [b0, b1, b2, b3, b4, b5, b6, b7, b8, b9, b10, b11, b12, b13] (e := ownF lo hi s x n) (e' := ownF lo hi s x' n) h k hp rfl rfl
theorem Frg.mark15 {w0 w w' : World} {lo hi n : Nat} {s : Value} {x x' : Nat → Nat} {l : List Fact} {b0 b1 b2 b3 b4 b5 b6 b7 b8 b9 b10 b11 b12 b13 b14 : Fact} (h : Frg w0 w (b0 :: b1 :: b2 :: b3 :: b4 :: b5 :: b6 :: b7 :: b8 :: b9 :: b10 :: b11 :: b12 :: b13 :: b14 :: ownF lo hi s x n :: l)) (hp : OwnS w' lo hi s x' n) (k : Chg (rng lo hi) w w') : Frg w0 w' (b0 :: b1 :: b2 :: b3 :: b4 :: b5 :: b6 :: b7 :: b8 :: b9 :: b10 :: b11 :: b12 :: b13 :: b14 :: ownF lo hi s x' n :: l) :=
  Frg.chg [b0, b1, b2, b3, b4, b5, b6, b7, b8, b9, b10, b11, b12, b13, b14] (e := ownF lo hi s x n) (e' := ownF lo hi s x' n) h k hp rfl rfl
theorem Frg.mark16 {w0 w w' : World} {lo hi n : Nat} {s : Value} {x x' : Nat → Nat} {l : List Fact} {b0 b1 b2 b3 b4 b5 b6 b7 b8 b9 b10 b11 b12 b13 b14 b15 : Fact} (h : Frg w0 w (b0 :: b1 :: b2 :: b3 :: b4 :: b5 :: b6 :: b7 :: b8 :: b9 :: b10 :: b11 :: b12 :: b13 :: b14 :: b15 :: ownF lo hi s x n :: l)) (hp : OwnS w' lo hi s x' n) (k : Chg (rng lo hi) w w') : Frg w0 w' (b0 :: b1 :: b2 :: b3 :: b4 :: b5 :: b6 :: b7 :: b8 :: b9 :: b10 :: b11 :: b12 :: b13 :: b14 :: b15 :: ownF lo hi s x' n :: l) :=
  Frg.chg [b0, b1, b2, b3, b4, b5, b6, b7, b8, b9, b10, b11, b12, b13, b14, b15] (e := ownF lo hi s x n) (e' := ownF lo hi s x' n) h k hp rfl rfl
end Go.Fk

/- Filling a list, one by one. Nothing here names a program. -/
namespace Go.Fk
open Go Go.RowKit
/-- So many outputs, then the inputs. -/
def upto (j : Nat) (h z : Nat → Nat) : Nat → Nat := fun i => if i < j then h i else z i
theorem upto_zero (h z : Nat → Nat) : upto 0 h z = z := by funext i; simp [upto]
theorem upto_set (j : Nat) (h z : Nat → Nat) (r : Nat) : (fun i => if i = j then r else upto j h z i) = upto (j + 1) (fun i => if i = j then r else h i) z := by
  funext i
  unfold upto
  by_cases e : i = j
  · subst e; simp
  · by_cases l : i < j
    · simp [e, l, show i < j + 1 by omega]
    · simp [e, l, show ¬ i < j + 1 by omega]
theorem upto_full (h z : Nat → Nat) : ftab .f32 (upto 16 h z) 16 = ftab .f32 h 16 := ftab_congr (fun j hj => if_pos hj)
end Go.Fk

/- Cells of slices that one may write. Nothing here names a program. -/
namespace Go.Fk
open Go Go.RowKit
theorem OwnS.form {w : World} {lo hi n : Nat} {s : Value} {x : Nat → Nat} (h : OwnS w lo hi s x n) (hn : 1 ≤ n) : ∃ b o cap, s = .slice (some ⟨b, o, none⟩) n cap ∧ n ≤ cap ∧ cap ≤ maxLen ∧ lo ≤ b ∧ b < hi := by
  rcases h with ⟨_, rfl⟩ | ⟨b, o, cap, cs, h1, h2, h3, h4, h5, _⟩
  · omega
  · exact ⟨b, o, cap, h1, h2, h3, h4, h5⟩
theorem OwnS.at {w : World} {lo hi b o n cap : Nat} {x : Nat → Nat} (h : OwnS w lo hi (.slice (some ⟨b, o, none⟩) n cap) x n) {i : Nat} (hi' : i < n) : ∃ y, w.cell? ⟨b, o + i, none⟩ = some (.float .f32 y) ∧ w.frozen? ⟨b, o + i, none⟩ = false ∧ fits .f32 y ∧ can .f32 y = x i := by
  rcases h with ⟨h0, _⟩ | ⟨b', o', cap', cs, h1, h2, h3, h4, h5, h6, h7⟩
  · cases h0
  · simp only [Value.slice.injEq, Option.some.injEq, Addr.mk.injEq, and_true, true_and] at h1
    obtain ⟨⟨rfl, rfl⟩, rfl⟩ := h1
    obtain ⟨y, e1, e2, e3⟩ := h7 i hi'
    exact ⟨y, (h6.cell? (o + i)).trans e1, h6.frozen (o + i), e2, e3⟩
theorem OwnS.set {w : World} {lo hi b o n cap : Nat} {x : Nat → Nat} (h : OwnS w lo hi (.slice (some ⟨b, o, none⟩) n cap) x n) {i a : Nat} (hi' : i < n) (ha : fits .f32 a) :
    OwnS (w.setCell ⟨b, o + i, none⟩ (.float .f32 a)) lo hi (.slice (some ⟨b, o, none⟩) n cap) (pushX x i a) n ∧ Chg (rng lo hi) w (w.setCell ⟨b, o + i, none⟩ (.float .f32 a)) := by
  rcases h with ⟨h0, _⟩ | ⟨b', o', cap', cs, h1, h2, h3, h4, h5, h6, h7⟩
  · cases h0
  · simp only [Value.slice.injEq, Option.some.injEq, Addr.mk.injEq, and_true, true_and] at h1
    obtain ⟨⟨rfl, rfl⟩, rfl⟩ := h1
    refine ⟨.inr ⟨b, o, cap, cs.setIfInBounds (o + i) (.float .f32 a), rfl, h2, h3, h4, h5, h6.set _ _, fun j hj => ?_⟩, (Chg.refl _ _).setCell (a := ⟨b, o + i, none⟩) ⟨h4, h5⟩ _⟩
    obtain ⟨y0, e0, _⟩ := h7 i hi'
    have hlt : o + i < cs.size := (Array.getElem?_eq_some_iff.1 e0).1
    by_cases e : j = i
    · subst e
      exact ⟨a, by simp [hlt], ha, by simp [pushX]⟩
    · obtain ⟨y, e1, e2, e3⟩ := h7 j hj
      exact ⟨y, by rw [Array.getElem?_setIfInBounds_ne (by omega)]; exact e1, e2, by simp [pushX, e, e3]⟩
namespace Frg
variable {w0 w w' : World}
theorem chg0 {e e' : Fact} {post : List Fact} (h : Frg w0 w (e :: post)) (k : Chg (rng e.lo e.hi) w w') (hp : e'.p w') (h1 : e'.lo = e.lo) (h2 : e'.hi = e.hi) : Frg w0 w' (e' :: post) := chg [] h k hp h1 h2
theorem chg1 {b0 e e' : Fact} {post : List Fact} (h : Frg w0 w (b0 :: e :: post)) (k : Chg (rng e.lo e.hi) w w') (hp : e'.p w') (h1 : e'.lo = e.lo) (h2 : e'.hi = e.hi) : Frg w0 w' (b0 :: e' :: post) := chg [b0] h k hp h1 h2
end Frg
/-- The first k samples are 0. -/
def zeroTo (k : Nat) (x : Nat → Nat) : Nat → Nat := fun i => if i < k then 0 else x i
theorem zeroTo_0 (x : Nat → Nat) : zeroTo 0 x = x := by funext i; simp [zeroTo]
theorem zeroTo_s (k : Nat) (x : Nat → Nat) : pushX (zeroTo k x) k 0 = zeroTo (k + 1) x := by
  funext i
  unfold pushX zeroTo
  by_cases e : i = k
  · subst e; simp; decide
  · by_cases l : i < k
    · simp [e, l, show i < k + 1 by omega]
    · simp [e, l, show ¬ i < k + 1 by omega]
end Go.Fk

/- What plays from sample to sample: runs, what stays readable, memory made behind facts. Nothing here names a program. -/
namespace Go.Fk
open Go Go.RowKit
def runQ {α : Type} (st : α → Nat → α) (q : α) (z : Nat → Nat) : Nat → α
  | 0 => q
  | j + 1 => st (runQ st q z j) (z j)
theorem Chg.setNew {S : Nat → Prop} {w w' : World} (h : Chg S w w') {a : Addr} (h1 : w.heap.size ≤ a.block) (v : Value) : Chg S w (w'.setCell a v) :=
  ⟨h.os, h.tape, h.output, by simpa using h.size, fun i hi hn => (Below.heap_setCell _ _ _ _ (by intro e; omega)).trans (h.block i hi hn)⟩
theorem RdS.stay {w0 w w' : World} {B n : Nat} {s : Value} {x : Nat → Nat} {S : Nat → Prop} (h : RdS w0 B s x n) (hl : Fk.le w0 w) (hS : ∀ k, S k → w0.heap.size ≤ k) (hc : Chg S w w') : RdS w' B s x n :=
  h.le (Below.trans hl (hc.below (B := w0.heap.size) hS hl.size))
/-- The newest fact's blocks are written, and memory is made. -/
theorem Frg.chgNew {w0 w w' : World} {post : List Fact} {e e' f : Fact} (h : Frg w0 w (e :: post)) (k : Chg (rng e.lo e.hi) w w') (hp : e'.p w') (h1 : e'.lo = e.lo) (h2 : e'.hi = e.hi) (hf : f.p w') (hl : w.heap.size ≤ f.lo) (hh : f.hi ≤ w'.heap.size) : Frg w0 w' (f :: e' :: post) := by
  have hc := h.chg0 k hp h1 h2
  refine ⟨hc.below, fun x hx => ?_, .cons (fun x hx => ?_) hc.apart⟩
  · rcases List.mem_cons.1 hx with rfl | hx
    · exact ⟨Nat.le_trans h.below.size hl, hh, hf⟩
    · exact hc.facts x hx
  · have hx' : x.hi ≤ w.heap.size := by
      rcases List.mem_cons.1 hx with rfl | hx
      · rw [h2]; exact (h.facts e (by simp)).2.1
      · exact (h.facts x (by simp [hx])).2.1
    omega
end Go.Fk
