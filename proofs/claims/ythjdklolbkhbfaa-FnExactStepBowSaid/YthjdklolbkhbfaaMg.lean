/- Texts of the walk, laid in one file. -/
import Derived.Test.YthjdklolbkhbfaaMf
set_option linter.unusedVariables false
set_option linter.unusedSimpArgs false
/- A bow's steps, both sides. -/
namespace Go.Fk
open Go Go.RowKit
/-- A valid bow. -/
structure BwS where
  x : Nat → Nat
  y : Nat → Nat
  nx : Nat
  ny : Nat
  j : Nat
  k : Nat
  a : Nat
  b : Nat
  c : Nat
  p : Nat
  q : Nat
  m : Nat
  l : Nat
structure BwS.Ok (q : BwS) : Prop where
  nx1 : 1 ≤ q.nx
  nx2 : q.nx ≤ 1024
  ny1 : 1 ≤ q.ny
  ny2 : q.ny ≤ 1024
  j1 : q.j < q.nx
  k1 : q.k < q.ny
  f : okF 1 q.a q.b q.c q.p q.q = true
  fa : fits .f32 q.a
  fb : fits .f32 q.b
  fc : fits .f32 q.c
  fp : fits .f32 q.p
  fq : fits .f32 q.q
  fm : fits .f32 q.m
  fl : fits .f32 q.l
def uB (q : BwS) : Nat := uBow q.l q.a q.b q.c q.p q.q (q.y q.k)
def vB (q : BwS) : Nat := vBow (q.x q.j)
def dB (q : BwS) (sp : Nat) : Nat := dBow sp (uB q) (vB q)
def wB (q : BwS) (sp : Nat) : Nat := fop .mul .f32 (dB q sp) (friV q.m (dB q sp))
def n1B (q : BwS) (sp : Nat) : Nat := kept (fop .add .f32 (uB q) (wB q sp))
def n2B (q : BwS) (sp : Nat) : Nat := kept (fop .add .f32 (vB q) (wB q sp))
def pB (q : BwS) : Nat := st0 1 q.a q.b q.c q.p q.q (q.y q.k)
def qB (q : BwS) : Nat := st1 1 q.a q.b q.c q.p q.q (q.y q.k)
def stepB (q : BwS) (sp : Nat) : BwS := { q with x := pushX q.x q.j (n1B q sp), y := pushX q.y q.k (n2B q sp), j := (q.j + 1) % q.nx, k := (q.k + 1) % q.ny, p := pB q, q := qB q }
theorem can_uB (q : BwS) : can .f32 (uB q) = uB q := can_can _ _
theorem can_vB (q : BwS) : can .f32 (vB q) = vB q := can_can _ _
theorem can_dB (q : BwS) (sp : Nat) : can .f32 (dB q sp) = dB q sp := can_fop _ _ _ _
theorem friV_congr {s d d' : Nat} (h : can .f32 d = can .f32 d') : friV s d = friV s d' := by
  unfold friV
  rw [fop_congr (show can .f32 s = can .f32 s from rfl) h]
theorem can_friV (s d : Nat) : can .f32 (friV s d) = friV s d := can_can _ _
theorem wB_of {q : BwS} {sp d fr r : Nat} (hd : can .f32 d = dB q sp) (hf : can .f32 fr = friV q.m d) (hr : can .f32 r = fop .mul .f32 d fr) : can .f32 r = wB q sp := by
  rw [hr, wB]
  have e : friV q.m d = friV q.m (dB q sp) := friV_congr (hd.trans (can_dB q sp).symm)
  exact fop_congr (hd.trans (can_dB q sp).symm) (hf.trans (e.trans (can_friV _ _).symm))
theorem n1_of {q : BwS} {sp u v r : Nat} (hu : can .f32 u = uB q) (hv : can .f32 v = wB q sp) (hr : can .f32 r = fop .add .f32 u v) : kept r = n1B q sp :=
  kept_can (hr.trans ((fop_congr (hu.trans (can_uB q).symm) (hv.trans (can_fop _ _ _ _).symm)).trans (can_fop _ _ _ _).symm))
theorem n2_of {q : BwS} {sp u v r : Nat} (hu : can .f32 u = vB q) (hv : can .f32 v = wB q sp) (hr : can .f32 r = fop .add .f32 u v) : kept r = n2B q sp :=
  kept_can (hr.trans ((fop_congr (hu.trans (can_vB q).symm) (hv.trans (can_fop _ _ _ _).symm)).trans (can_fop _ _ _ _).symm))
theorem fits_n1 (q : BwS) (sp : Nat) : fits .f32 (n1B q sp) := fits_kept (fits_fop _ _ _ _)
theorem fits_n2 (q : BwS) (sp : Nat) : fits .f32 (n2B q sp) := fits_kept (fits_fop _ _ _ _)
theorem BwS.Ok.step {q : BwS} (h : q.Ok) (sp : Nat) (hf : fits .f32 (q.y q.k)) : (stepB q sp).Ok where
  nx1 := h.nx1
  nx2 := h.nx2
  ny1 := h.ny1
  ny2 := h.ny2
  j1 := Nat.mod_lt _ h.nx1
  k1 := Nat.mod_lt _ h.ny1
  f := okF_step h.f
  fa := h.fa
  fb := h.fb
  fc := h.fc
  fp := show fits .f32 (st0 1 q.a q.b q.c q.p q.q (q.y q.k)) from fits_st0 hf (fits_outF _ _ _ _ _ _ _)
  fq := show fits .f32 (st1 1 q.a q.b q.c q.p q.q (q.y q.k)) from fits_st1 h.fp
  fm := h.fm
  fl := h.fl
end Go.Fk
namespace Go.Proofs.Ythjdklolbkhbfaa
open Go.RowKit Go.Fk
theorem kindRun : ∀ w : World, (isAgg 87).run Try.prog w = .ok false w := fun w => by kernel_rfl
set_option maxRecDepth 100000 in
set_option maxHeartbeats 4000000 in
theorem i_meet (q : BwS) (sp a1 a2 : Nat) (z0 z1 s t : Value) (jz kz lx ly : Int) (lo hi lo2 hi2 g r : Nat) (w : World) (R : Row w g 90 #[z0, .int .i64 jz, z1, .int .i64 kz, .int .i64 1, .float .f32 q.a, .float .f32 q.b, .float .f32 q.c, .float .f32 a1, .float .f32 a2, .float .f32 q.m, .float .f32 q.l, s, .int .i64 (q.j : Nat), .int .i64 lx, t, .int .i64 (q.k : Nat), .int .i64 ly, .pointer (some ⟨r, 0, none⟩)]) (RR : Row w r 103 #[mdl 1 q.a q.b q.c, .float .f32 q.p, .float .f32 q.q]) (O1 : OwnS w lo hi s q.x q.nx) (O2 : OwnS w lo2 hi2 t q.y q.ny) (ok : q.Ok) (h1 : ¬ (lo ≤ r ∧ r < hi)) (h2 : ¬ (lo2 ≤ r ∧ r < hi2)) (hg : g ≠ r) :
    Calls Try.prog 31 #[.pointer (some ⟨g, 0, none⟩), .float .f32 sp] w fun e w' => ∃ u v d, e = .returned (.tuple #[.float .f32 u, .float .f32 v, .float .f32 d]) ∧ can .f32 u = uB q ∧ can .f32 v = vB q ∧ can .f32 d = dB q sp ∧ fits .f32 u ∧ fits .f32 v ∧ fits .f32 d ∧
      Row w' r 103 #[mdl 1 q.a q.b q.c, .float .f32 (pB q), .float .f32 (qB q)] ∧ Chg (· = r) w w' := by
  have HO2 := hid (fun (w' : World) (hl : le w w') => i_oldest hi2 t q.y q.ny q.k w' (O2.rd.le hl) ok.k1 ok.ny2)
  have HO1 := hid (fun (w' : World) (hc : Chg (· = r) w w') => i_oldest hi s q.x q.nx q.j w' (O1.chgS hc (fun i a b e => h1 (by have e' : i = r := e; subst e'; exact ⟨a, b⟩))).rd ok.j1 ok.nx2)
  have HR := hid R; have HRR := hid RR; have OK := hid ok
  clear R RR O1 O2 ok
  go_enter Try.func31, Try.ntmps31
  go_wp2_with fail
  have FM := (Frm.one HR.out).drewN 1
  refine region_tail (fun _ _ _ v => ∃ yk, v = .float .f32 yk ∧ can .f32 yk = can .f32 (q.y q.k) ∧ fits .f32 yk) 10 (by kernel_rfl) (by kernel_rfl) ?_
  simp only [List.take_succ_cons, List.take_zero, List.drop_succ_cons, List.drop_zero]
  refine wpFree_one rfl (.pointer (some ⟨g, 0, none⟩)) (fun w1 _ => by kernel_rfl) ?_
  simp only [Act.put, List.setIfInBounds_toArray, List.set_cons_succ, List.set_cons_zero]
  refine wpFree_one rfl (.pointer (some ⟨g, 0, none⟩)) (fun w1 _ => by kernel_rfl) ?_
  simp only [Act.put, List.setIfInBounds_toArray, List.set_cons_succ, List.set_cons_zero]
  refine wpFree_one rfl (.pointer (some ⟨g, 18, none⟩)) (fun w1 _ => by kernel_rfl) ?_
  simp only [Act.put, List.setIfInBounds_toArray, List.set_cons_succ, List.set_cons_zero]
  refine wpFree_loadV FM (n := 0) rfl rfl rfl rfl List.mem_cons_self rfl kindRun ?_
  simp only [Act.put, List.setIfInBounds_toArray, List.set_cons_succ, List.set_cons_zero]
  refine wpFree_one rfl (.pointer (some ⟨g, 0, none⟩)) (fun w1 _ => by kernel_rfl) ?_
  simp only [Act.put, List.setIfInBounds_toArray, List.set_cons_succ, List.set_cons_zero]
  refine wpFree_one rfl (.pointer (some ⟨g, 0, none⟩)) (fun w1 _ => by kernel_rfl) ?_
  simp only [Act.put, List.setIfInBounds_toArray, List.set_cons_succ, List.set_cons_zero]
  refine wpFree_one rfl (.pointer (some ⟨g, 15, none⟩)) (fun w1 _ => by kernel_rfl) ?_
  simp only [Act.put, List.setIfInBounds_toArray, List.set_cons_succ, List.set_cons_zero]
  refine wpFree_one rfl (.pointer (some ⟨g, 15, none⟩)) (fun w1 _ => by kernel_rfl) ?_
  simp only [Act.put, List.setIfInBounds_toArray, List.set_cons_succ, List.set_cons_zero]
  refine wpFree_loadPart FM (n := 0) rfl rfl rfl rfl List.mem_cons_self Try.underlying35 rfl [t, .int .i64 (q.k : Nat)] (midOf [z0, .int .i64 jz, z1, .int .i64 kz, .int .i64 1, .float .f32 q.a, .float .f32 q.b, .float .f32 q.c, .float .f32 a1, .float .f32 a2, .float .f32 q.m, .float .f32 q.l, s, .int .i64 (q.j : Nat), .int .i64 lx] [t, .int .i64 (q.k : Nat)] [.int .i64 ly, .pointer (some ⟨r, 0, none⟩)] 15 rfl) infoRing ?_
  simp only [Act.put, List.setIfInBounds_toArray, List.set_cons_succ, List.set_cons_zero]
  refine wpFree_call rfl rfl Try.func54 (by kernel_rfl) (by kernel_rfl) (args := #[.agg #[t, .int .i64 (q.k : Nat)]]) (by simp [Act.eval]) (fun v w1 w2 hw hv => hv) (fun w1 hw1 => (HO2.out _ (le_trans (le_drewN w 1) hw1)).mono ?_) ?_
  · rintro e w2 ⟨yk, rfl, hy, fy, hl⟩
    exact ⟨_, rfl, hl, yk, rfl, by rw [← hy, can_can], fy⟩
  rintro v ⟨_, _, yk, rfl, HY0, FY0⟩
  have HY := hid HY0; have FY := hid FY0; clear HY0 FY0
  simp only [Act.put, List.setIfInBounds_toArray, List.set_cons_succ, List.set_cons_zero]
  refine wpFree_nil (fun w3 hw3 _ => ?_)
  have L3 := hid (le_trans (le_drewN w 1) hw3)
  have RR3 := hid (HRR.out.le L3.out)
  clear hw3 FM
  go_wp2_with (first | (go_at_call 53; ((with_reducible refine (i_step 1 q.a q.b q.c q.p q.q yk r _ ⟨by decide, by decide⟩ RR3.out OK.out.fp FY.out).mono ?_); rintro e w5 ⟨r1, rfl, hr1, fr1, hR5, hU5⟩; rw [st0_congr HY.out, st1_congr HY.out] at hR5; have C5 : Hid (Chg (· = r) w w5) := (Chg.of_le L3.out).trans (chg_updB hU5); have R5 := hid (C5.out.row HR.out hg); have c11 := R5.out.cell? 11; have HR1 := hid hr1; have RR5 := hid hR5; clear hr1 hR5 hU5)) | (with_reducible refine wpList_farith (op := .mul) rfl rfl rfl rfl rfl ?_; intro r2 n2 hr2 hf2) | ((with_reducible refine at_loadU rfl rfl ?_); (with_reducible refine wpList_loadPR (R5.out.drewN _) rfl rfl rfl Try.underlying35 rfl [s, .int .i64 (q.j : Nat)] (midOf [z0, .int .i64 jz, z1, .int .i64 kz, .int .i64 1, .float .f32 q.a, .float .f32 q.b, .float .f32 q.c, .float .f32 a1, .float .f32 a2, .float .f32 q.m, .float .f32 q.l] [s, .int .i64 (q.j : Nat)] [.int .i64 lx, t, .int .i64 (q.k : Nat), .int .i64 ly, .pointer (some ⟨r, 0, none⟩)] 12 rfl) infoRing rfl ?_)) | (go_at_call 54; ((with_reducible refine (HO1.out _ (C5.out.le (le_drewN _ _))).mono ?_); rintro e w6 ⟨xj, rfl, hx, fx, hl6⟩; have HX : Hid (can .f32 xj = can .f32 (q.x q.j)) := (by unfold Hid; rw [← hx, can_can]); have L6 := hid hl6; have FX := hid fx; clear hx hl6)) | (with_reducible refine wpList_farith (op := .add) rfl rfl rfl rfl rfl ?_; intro r3 n3 hr3 hf3) | (with_reducible refine wpList_farith (op := .sub) rfl rfl rfl rfl rfl ?_; intro r4 n4 hr4 hf4))
  go_ret3
  have e1 : can .f32 (neg .f32 r2) = uB q := neg_congr (hr2.out.trans ((fop_congr rfl ((HR1.out.trans (outF_congr HY.out)).trans (can_outF _ _ _ _ _ _ _).symm)).trans (can_fop _ _ _ _).symm))
  have e2 : can .f32 (neg .f32 xj) = vB q := neg_congr HX.out
  refine ⟨_, _, _, rfl, e1, e2, ?_, fits_neg hf2.out, fits_neg FX.out, hf4.out, (((RR5.out.drewN _).le L6.out).drewN _), Chg.le (((C5.out.le (le_drewN _ _)).le L6.out)) (le_drewN _ _)⟩
  exact hr4.out.trans (fop_congr rfl (hr3.out.trans ((fop_congr (e1.trans (can_uB q).symm) (e2.trans (can_vB q).symm)).trans (can_fop _ _ _ _).symm)))
set_option maxRecDepth 100000 in
set_option maxHeartbeats 4000000 in
theorem i_bstep (q : BwS) (sp a1 a2 : Nat) (z0 z1 s t : Value) (jz kz : Int) (lo hi lo2 hi2 g r : Nat) (w : World) (R : Row w g 90 #[z0, .int .i64 jz, z1, .int .i64 kz, .int .i64 1, .float .f32 q.a, .float .f32 q.b, .float .f32 q.c, .float .f32 a1, .float .f32 a2, .float .f32 q.m, .float .f32 q.l, s, .int .i64 (q.j : Nat), .int .i64 (loudN q.x q.nx : Nat), t, .int .i64 (q.k : Nat), .int .i64 (loudN q.y q.ny : Nat), .pointer (some ⟨r, 0, none⟩)]) (RR : Row w r 103 #[mdl 1 q.a q.b q.c, .float .f32 q.p, .float .f32 q.q]) (O1 : OwnS w lo hi s q.x q.nx) (O2 : OwnS w lo2 hi2 t q.y q.ny) (ok : q.Ok) (h1 : ¬ (lo ≤ r ∧ r < hi)) (h2 : ¬ (lo2 ≤ r ∧ r < hi2)) (hg : g ≠ r) (hsp : fits .f32 sp) (g1 : ¬ (lo ≤ g ∧ g < hi)) (g2 : ¬ (lo2 ≤ g ∧ g < hi2)) (hd : hi ≤ lo2 ∨ hi2 ≤ lo) :
    Calls Try.prog 36 #[.pointer (some ⟨g, 0, none⟩), .float .f32 sp] w fun e w' => ∃ o, e = .returned (.float .f32 o) ∧ can .f32 o = q.y q.k ∧ fits .f32 o ∧ Row w' g 90 #[z0, .int .i64 jz, z1, .int .i64 kz, .int .i64 1, .float .f32 (stepB q sp).a, .float .f32 (stepB q sp).b, .float .f32 (stepB q sp).c, .float .f32 a1, .float .f32 a2, .float .f32 (stepB q sp).m, .float .f32 (stepB q sp).l, s, .int .i64 ((stepB q sp).j : Nat), .int .i64 (loudN (stepB q sp).x q.nx : Nat), t, .int .i64 ((stepB q sp).k : Nat), .int .i64 (loudN (stepB q sp).y q.ny : Nat), .pointer (some ⟨r, 0, none⟩)] ∧ Row w' r 103 #[mdl 1 (stepB q sp).a (stepB q sp).b (stepB q sp).c, .float .f32 (stepB q sp).p, .float .f32 (stepB q sp).q] ∧ OwnS w' lo hi s (stepB q sp).x q.nx ∧ OwnS w' lo2 hi2 t (stepB q sp).y q.ny ∧ Chg (fun i => i = g ∨ i = r ∨ lo ≤ i ∧ i < hi ∨ lo2 ≤ i ∧ i < hi2) w w' := by
  have HO2 := hid (fun (w' : World) (hl : le w w') => i_oldest hi2 t q.y q.ny q.k w' (O2.rd.le hl) ok.k1 ok.ny2)
  have HM := hid (fun (w' : World) (hl : le w w') => i_meet q sp a1 a2 z0 z1 s t jz kz _ _ lo hi lo2 hi2 g r w' (R.le hl) (RR.le hl) (O1.le hl) (O2.le hl) ok h1 h2 hg)
  have HR := hid R; have HRR := hid RR; have HO1 := hid O1; have HOO := hid O2; have OK := hid ok
  clear R RR O1 O2 ok
  go_enter Try.func36, Try.ntmps36
  go_wp2_with (first | ((with_reducible refine at_loadU rfl rfl ?_); (with_reducible refine wpList_loadPR HR.out rfl rfl rfl Try.underlying35 rfl [t, .int .i64 (q.k : Nat)] (midOf [z0, .int .i64 jz, z1, .int .i64 kz, .int .i64 1, .float .f32 q.a, .float .f32 q.b, .float .f32 q.c, .float .f32 a1, .float .f32 a2, .float .f32 q.m, .float .f32 q.l, s, .int .i64 (q.j : Nat), .int .i64 (loudN q.x q.nx : Nat)] [t, .int .i64 (q.k : Nat)] [.int .i64 (loudN q.y q.ny : Nat), .pointer (some ⟨r, 0, none⟩)] 15 rfl) infoRing rfl ?_)) | (go_at_call 54; ((with_reducible refine (HO2.out _ (le_refl _)).mono ?_); rintro e w1 ⟨yk, rfl, hy, fy, hl1⟩; have HY := hid hy; have FY := hid fy; have L1 := hid hl1; clear hy fy hl1)) | (go_at_call 31; ((with_reducible refine (HM.out _ L1.out).mono ?_); rintro e w2 ⟨u, v, d, rfl, hu, hv, hd2, fu, fv, fd, hRR, hC⟩; have HU := hid hu; have HV := hid hv; have HD := hid hd2; have RR2 := hid hRR; have C2 : Hid (Chg (· = r) w w2) := (Chg.of_le L1.out).trans hC; have R2 := hid (C2.out.row HR.out hg); have c10 := R2.out.cell? 10; clear hu hv hd2 hRR hC)) | (go_at_call 32; ((with_reducible refine (i_FrictionAt q.m d _).mono ?_); rintro e w3 ⟨fr, rfl, hf, hl3⟩; have HF := hid hf; have L3 := hid hl3; clear hf hl3)) | (with_reducible refine wpList_farith (op := .mul) rfl rfl rfl rfl rfl ?_; intro r2 n2 hr2 hf2) | (with_reducible refine wpList_farith (op := .add) rfl rfl rfl rfl rfl ?_; intro r3 n3 hr3 hf3))
  have HW := hid (wB_of HD.out HF.out hr2.out)
  have C3 : Hid (Chg (· = r) w w3) := C2.out.le L3.out
  have R3 : Hid (Row w3 g 90 #[z0, .int .i64 jz, z1, .int .i64 kz, .int .i64 1, .float .f32 q.a, .float .f32 q.b, .float .f32 q.c, .float .f32 a1, .float .f32 a2, .float .f32 q.m, .float .f32 q.l, s, .int .i64 (q.j : Nat), .int .i64 (loudN q.x q.nx : Nat), t, .int .i64 (q.k : Nat), .int .i64 (loudN q.y q.ny : Nat), .pointer (some ⟨r, 0, none⟩)]) := C3.out.row HR.out hg
  have RR3 : Hid (Row w3 r 103 #[mdl 1 q.a q.b q.c, .float .f32 (pB q), .float .f32 (qB q)]) := RR2.out.le L3.out
  have P1 : Hid (OwnS w3 lo hi s q.x q.nx) := HO1.out.chgS C3.out (fun i a b e => h1 (by have e' : i = r := e; subst e'; exact ⟨a, b⟩))
  have P2 : Hid (OwnS w3 lo2 hi2 t q.y q.ny) := HOO.out.chgS C3.out (fun i a b e => h2 (by have e' : i = r := e; subst e'; exact ⟨a, b⟩))
  clear HO2 HM HRR HO1 HOO c10 R2 RR2 C2
  refine (i_come lo hi s q.x q.nx q.j _ g 12 _ _ _ (P1.out.le (le_drewN _ _)) (R3.out.drewN _) rfl rfl rfl g1 OK.out.j1 OK.out.nx2 hf3.out).mono ?_
  rintro e w5 ⟨⟨v5, rfl⟩, hR5, hO5, hC5⟩
  have E1 : comeX q.x q.j r3 = (stepB q sp).x := by unfold comeX; rw [n1_of HU.out HW.out hr3.out]; rfl
  rw [E1] at hR5 hO5
  have R5 := hid (show Row w5 g 90 #[z0, .int .i64 jz, z1, .int .i64 kz, .int .i64 1, .float .f32 q.a, .float .f32 q.b, .float .f32 q.c, .float .f32 a1, .float .f32 a2, .float .f32 q.m, .float .f32 q.l, s, .int .i64 ((q.j + 1) % q.nx : Nat), .int .i64 (loudN (stepB q sp).x q.nx : Nat), t, .int .i64 (q.k : Nat), .int .i64 (loudN q.y q.ny : Nat), .pointer (some ⟨r, 0, none⟩)] from by simpa using hR5)
  have Q1 := hid hO5
  have RR5 := hid (hC5.row (RR3.out.drewN _) (fun e => by rcases e with e | e; exact hg e.symm; exact h1 e))
  have P5 := hid ((P2.out.le (le_drewN _ _)).chgS hC5 (fun i a b e => by rcases e with e | e; (subst e; exact g2 ⟨a, b⟩); omega))
  have C5 := hid (((C3.out.mono (T := fun i => i = g ∨ i = r ∨ lo ≤ i ∧ i < hi ∨ lo2 ≤ i ∧ i < hi2) (fun i e => .inr (.inl e))).le (le_drewN _ _)).trans (hC5.mono (fun i e => by rcases e with e | e; exact .inl e; exact .inr (.inr (.inl e)))))
  clear hR5 hO5 hC5 P1 P2 R3 RR3 C3
  go_wp2_with (with_reducible refine wpList_farith (op := .add) rfl rfl rfl rfl rfl ?_; intro r4 n4 hr4 hf4)
  refine (i_come lo2 hi2 t q.y q.ny q.k _ g 15 _ _ _ (P5.out.le (le_drewN _ _)) (R5.out.drewN _) rfl rfl rfl g2 OK.out.k1 OK.out.ny2 hf4.out).mono ?_
  rintro e w6 ⟨⟨v6, rfl⟩, hR6, hO6, hC6⟩
  have E2 : comeX q.y q.k r4 = (stepB q sp).y := by unfold comeX; rw [n2_of HV.out HW.out hr4.out]; rfl
  rw [E2] at hR6 hO6
  have R6 := hid hR6; have O6 := hid hO6; have C6 := hid hC6
  clear hR6 hO6 hC6
  go_wp2
  go_ret
  refine ⟨_, rfl, HY.out, FY.out, by simpa [stepB] using R6.out, ?_, ?_, O6.out, ?_⟩
  · exact C6.out.row (RR5.out.drewN _) (fun e => by rcases e with e | e; exact hg e.symm; exact h2 e)
  · exact (Q1.out.le (le_drewN _ _)).chgS C6.out (fun i a b e => by rcases e with e | e; (subst e; exact g1 ⟨a, b⟩); omega)
  · exact (C5.out.le (le_drewN _ _)).trans (C6.out.mono (fun i e => by rcases e with e | e; exact .inl e; exact .inr (.inr (.inr e))))
set_option maxRecDepth 100000 in
set_option maxHeartbeats 4000000 in
theorem i_bbehind (z0 z1 s t : Value) (jz kz lx ly : Int) (g r : Nat) (q : BwS) (a1 a2 : Nat) (w : World) (R : Row w g 90 #[z0, .int .i64 jz, z1, .int .i64 kz, .int .i64 1, .float .f32 q.a, .float .f32 q.b, .float .f32 q.c, .float .f32 a1, .float .f32 a2, .float .f32 q.m, .float .f32 q.l, s, .int .i64 (q.j : Nat), .int .i64 lx, t, .int .i64 (q.k : Nat), .int .i64 ly, .pointer (some ⟨r, 0, none⟩)]) (RR : Row w r 103 #[mdl 1 q.a q.b q.c, .float .f32 q.p, .float .f32 q.q]) (hg : g ≠ r) (hs : s.oneCell' = true) (ht : t.oneCell' = true) :
    Calls Try.prog 37 #[.pointer (some ⟨g, 0, none⟩)] w fun e w' => e = .returned (.agg #[s, .int .i64 (q.j : Nat), t, .int .i64 (q.k : Nat), .int .i64 1, .float .f32 q.a, .float .f32 q.b, .float .f32 q.c, .float .f32 q.p, .float .f32 q.q, .float .f32 q.m, .float .f32 q.l]) ∧ Chg (· = g) w w' := by
  have HR := hid (show Row (w.alloc (.cells #[.slice none 0 0, .int .i64 0, .slice none 0 0, .int .i64 0, .int .i64 0, .float .f32 0, .float .f32 0, .float .f32 0, .float .f32 0, .float .f32 0, .float .f32 0, .float .f32 0] 38)) g 90 (mk4 z0 (.int .i64 jz) z1 (.int .i64 kz) [.int .i64 1, .float .f32 q.a, .float .f32 q.b, .float .f32 q.c, .float .f32 a1, .float .f32 a2, .float .f32 q.m, .float .f32 q.l, s, .int .i64 (q.j : Nat), .int .i64 lx, t, .int .i64 (q.k : Nat), .int .i64 ly, .pointer (some ⟨r, 0, none⟩)]) from R.le (le_alloc w _))
  have HRR := hid (RR.le (le_alloc w (.cells #[.slice none 0 0, .int .i64 0, .slice none 0 0, .int .i64 0, .int .i64 0, .float .f32 0, .float .f32 0, .float .f32 0, .float .f32 0, .float .f32 0, .float .f32 0, .float .f32 0] 38)))
  have RN := hid (Row.new w 38 #[.slice none 0 0, .int .i64 0, .slice none 0 0, .int .i64 0, .int .i64 0, .float .f32 0, .float .f32 0, .float .f32 0, .float .f32 0, .float .f32 0, .float .f32 0, .float .f32 0])
  have hgl := R.lt
  have C0 := hid (Chg.of_le (S := (· = g)) (le_alloc w (.cells #[.slice none 0 0, .int .i64 0, .slice none 0 0, .int .i64 0, .int .i64 0, .float .f32 0, .float .f32 0, .float .f32 0, .float .f32 0, .float .f32 0, .float .f32 0, .float .f32 0] 38)))
  clear R RR
  go_enter Try.func37, Try.ntmps37
  go_wp2
  obtain ⟨W, hW⟩ : ∃ W, W = w.alloc (.cells #[.slice none 0 0, .int .i64 0, .slice none 0 0, .int .i64 0, .int .i64 0, .float .f32 0, .float .f32 0, .float .f32 0, .float .f32 0, .float .f32 0, .float .f32 0, .float .f32 0] 38) := ⟨_, rfl⟩
  rw [← hW] at HR HRR RN C0 ⊢
  clear hW
  refine region_freeD (E := prX g 90 [.int .i64 1, .float .f32 q.a, .float .f32 q.b, .float .f32 q.c, .float .f32 a1, .float .f32 a2, .float .f32 q.m, .float .f32 q.l, s, .int .i64 (q.j : Nat), .int .i64 lx, t, .int .i64 (q.k : Nat), .int .i64 ly, .pointer (some ⟨r, 0, none⟩)] s (.int .i64 (q.j : Nat)) t (.int .i64 (q.k : Nat))) (fun _ _ _ _ => True) (by kernel_rfl) (by kernel_rfl) ?_
  refine wpFreeD_one rfl (.pointer (some ⟨g, 0, none⟩)) (fun wa _ => by kernel_rfl) ?_
  simp only [Act.put, List.setIfInBounds_toArray, List.set_cons_succ, List.set_cons_zero]
  refine wpFreeD_one rfl (.pointer (some ⟨g, 0, none⟩)) (fun wa _ => by kernel_rfl) ?_
  simp only [Act.put, List.setIfInBounds_toArray, List.set_cons_succ, List.set_cons_zero]
  refine wpFreeD_one rfl (.pointer (some ⟨g, 0, none⟩)) (fun wa _ => by kernel_rfl) ?_
  simp only [Act.put, List.setIfInBounds_toArray, List.set_cons_succ, List.set_cons_zero]
  refine wpFreeD_one rfl (.pointer (some ⟨g, 0, none⟩)) (fun wa _ => by kernel_rfl) ?_
  simp only [Act.put, List.setIfInBounds_toArray, List.set_cons_succ, List.set_cons_zero]
  refine wpFreeD_one rfl (.pointer (some ⟨g, 12, none⟩)) (fun wa _ => by kernel_rfl) ?_
  simp only [Act.put, List.setIfInBounds_toArray, List.set_cons_succ, List.set_cons_zero]
  refine wpFreeD_one rfl (.pointer (some ⟨g, 12, none⟩)) (fun wa _ => by kernel_rfl) ?_
  simp only [Act.put, List.setIfInBounds_toArray, List.set_cons_succ, List.set_cons_zero]
  refine wpFreeD_loadW rfl rfl rfl [s, .int .i64 (q.j : Nat)] (fun wa ha => by
    obtain ⟨d0, d1, d2, d3, hr, _⟩ := ha.2 _ _ _ _ (HR.out.drewN 1)
    exact Row.at_part hr (fun j hj => by match j, hj with | 0, _ => rfl | 1, _ => rfl)) Try.underlying35 rfl uinfoRingI rfl ?_
  simp only [Act.put, List.setIfInBounds_toArray, List.set_cons_succ, List.set_cons_zero]
  refine wpFreeD_one rfl (.pointer (some ⟨g, 0, none⟩)) (fun wa _ => by kernel_rfl) ?_
  simp only [Act.put, List.setIfInBounds_toArray, List.set_cons_succ, List.set_cons_zero]
  refine wpFreeD_one rfl (.pointer (some ⟨g, 0, none⟩)) (fun wa _ => by kernel_rfl) ?_
  simp only [Act.put, List.setIfInBounds_toArray, List.set_cons_succ, List.set_cons_zero]
  refine wpFreeD_one rfl (.pointer (some ⟨g, 15, none⟩)) (fun wa _ => by kernel_rfl) ?_
  simp only [Act.put, List.setIfInBounds_toArray, List.set_cons_succ, List.set_cons_zero]
  refine wpFreeD_one rfl (.pointer (some ⟨g, 15, none⟩)) (fun wa _ => by kernel_rfl) ?_
  simp only [Act.put, List.setIfInBounds_toArray, List.set_cons_succ, List.set_cons_zero]
  refine wpFreeD_loadW rfl rfl rfl [t, .int .i64 (q.k : Nat)] (fun wa ha => by
    obtain ⟨d0, d1, d2, d3, hr, _⟩ := ha.2 _ _ _ _ (HR.out.drewN 1)
    exact Row.at_part hr (fun j hj => by match j, hj with | 0, _ => rfl | 1, _ => rfl)) Try.underlying35 rfl uinfoRingI rfl ?_
  simp only [Act.put, List.setIfInBounds_toArray, List.set_cons_succ, List.set_cons_zero]
  refine wpFreeD_one rfl (.pointer (some ⟨g, 0, none⟩)) (fun wa _ => by kernel_rfl) ?_
  simp only [Act.put, List.setIfInBounds_toArray, List.set_cons_succ, List.set_cons_zero]
  refine wpFreeD_one rfl (.pointer (some ⟨g, 0, none⟩)) (fun wa _ => by kernel_rfl) ?_
  simp only [Act.put, List.setIfInBounds_toArray, List.set_cons_succ, List.set_cons_zero]
  refine wpFreeD_one rfl (.pointer (some ⟨g, 0, none⟩)) (fun wa _ => by kernel_rfl) ?_
  simp only [Act.put, List.setIfInBounds_toArray, List.set_cons_succ, List.set_cons_zero]
  refine wpFreeD_storeA rfl rfl rfl rfl uinfoRingI (by simp only [List.all_toArray', List.all_cons, List.all_nil, hs]; rfl) ⟨_, _, _, _, HR.out.drewN 1⟩ ?_
  simp only [Act.put, List.setIfInBounds_toArray, List.set_cons_succ, List.set_cons_zero]
  refine wpFreeD_one rfl (.pointer (some ⟨g, 0, none⟩)) (fun wa _ => by kernel_rfl) ?_
  simp only [Act.put, List.setIfInBounds_toArray, List.set_cons_succ, List.set_cons_zero]
  refine wpFreeD_one rfl (.pointer (some ⟨g, 0, none⟩)) (fun wa _ => by kernel_rfl) ?_
  simp only [Act.put, List.setIfInBounds_toArray, List.set_cons_succ, List.set_cons_zero]
  refine wpFreeD_one rfl (.pointer (some ⟨g, 2, none⟩)) (fun wa _ => by kernel_rfl) ?_
  simp only [Act.put, List.setIfInBounds_toArray, List.set_cons_succ, List.set_cons_zero]
  refine wpFreeD_storeB rfl rfl rfl rfl uinfoRingI (by simp only [List.all_toArray', List.all_cons, List.all_nil, ht]; rfl) ⟨_, _, _, _, HR.out.drewN 1⟩ ?_
  simp only [Act.put, List.setIfInBounds_toArray, List.set_cons_succ, List.set_cons_zero]
  refine wpFreeD_nil (fun w3 hw3 hF => ?_)
  obtain ⟨d2, d3, r1⟩ := (hF 15).1.1.1.1.2 rfl
  obtain ⟨d0, d1, r2⟩ := (hF 19).2 rfl
  obtain ⟨e0, e1, e2, e3⟩ := mk4_inj (r1.uniq4 r2)
  rw [e2, e3] at r1
  have C3 := hid ((C0.out.le (le_drewN W 1)).trans hw3.1)
  have R3 := hid (show Row w3 g 90 #[s, .int .i64 (q.j : Nat), t, .int .i64 (q.k : Nat), .int .i64 1, .float .f32 q.a, .float .f32 q.b, .float .f32 q.c, .float .f32 a1, .float .f32 a2, .float .f32 q.m, .float .f32 q.l, s, .int .i64 (q.j : Nat), .int .i64 lx, t, .int .i64 (q.k : Nat), .int .i64 ly, .pointer (some ⟨r, 0, none⟩)] from r1)
  have RR3 := hid (hw3.1.row (HRR.out.drewN 1) (fun e => hg e.symm))
  have N3 := hid (hw3.1.row (RN.out.drewN 1) (fun e => by have e' : w.heap.size = g := e; omega))
  clear hF hw3 r1 r2 HR HRR RN C0 e0 e1 e2 e3
  have c18 := R3.out.cell? 18
  go_wp2_with (first | ((with_reducible refine at_loadU rfl rfl ?_); (with_reducible refine wpList_loadPR RR3.out rfl rfl rfl Try.underlying27 rfl [.float .f32 q.p, .float .f32 q.q] (midOf [mdl 1 q.a q.b q.c] [.float .f32 q.p, .float .f32 q.q] [] 1 rfl) info2 rfl ?_)) | (with_reducible refine stop_store rfl ?_))
  show wpList _ _ _ _ _ _
  refine wpList_storeP rfl rfl rfl (f := 8) (cells := [.float .f32 q.p, .float .f32 q.q]) rfl R3.out info2 (by simp) (by simp [Value.oneCell']) (fun w4 K => ?_)
  have C4 := hid (C3.out.wrote K rfl)
  have R4 := hid (show Row w4 g 90 #[s, .int .i64 (q.j : Nat), t, .int .i64 (q.k : Nat), .int .i64 1, .float .f32 q.a, .float .f32 q.b, .float .f32 q.c, .float .f32 q.p, .float .f32 q.q, .float .f32 q.m, .float .f32 q.l, s, .int .i64 (q.j : Nat), .int .i64 lx, t, .int .i64 (q.k : Nat), .int .i64 ly, .pointer (some ⟨r, 0, none⟩)] from K.row)
  have N4 := hid (K.other _ _ _ (by omega) N3.out)
  clear K R3 RR3 C3 N3 c18
  go_wp2_with (first | ((with_reducible refine at_loadU rfl rfl ?_); (with_reducible refine wpList_loadPR R4.out rfl rfl rfl Try.underlying38 rfl [s, .int .i64 (q.j : Nat), t, .int .i64 (q.k : Nat), .int .i64 1, .float .f32 q.a, .float .f32 q.b, .float .f32 q.c, .float .f32 q.p, .float .f32 q.q, .float .f32 q.m, .float .f32 q.l] (midOf [] [s, .int .i64 (q.j : Nat), t, .int .i64 (q.k : Nat), .int .i64 1, .float .f32 q.a, .float .f32 q.b, .float .f32 q.c, .float .f32 q.p, .float .f32 q.q, .float .f32 q.m, .float .f32 q.l] [s, .int .i64 (q.j : Nat), .int .i64 lx, t, .int .i64 (q.k : Nat), .int .i64 ly, .pointer (some ⟨r, 0, none⟩)] 0 rfl) uinfoBowI rfl ?_)) | (with_reducible refine stop_store rfl ?_))
  show wpList _ _ _ _ _ _
  refine wpList_storeD rfl rfl rfl (cells := #[s, .int .i64 (q.j : Nat), t, .int .i64 (q.k : Nat), .int .i64 1, .float .f32 q.a, .float .f32 q.b, .float .f32 q.c, .float .f32 q.p, .float .f32 q.q, .float .f32 q.m, .float .f32 q.l]) rfl N4.out uinfoBowI rfl (by simp only [List.all_toArray', List.all_cons, List.all_nil, hs, ht]; rfl) (fun w5 K => ?_)
  have R5 := hid K.row
  have C5 : Hid (Chg (· = g) w w5) := ⟨(K.below w.heap.size w4 (Below.refl _ _) (Nat.le_refl _)).os.trans C4.out.os, (K.below w.heap.size w4 (Below.refl _ _) (Nat.le_refl _)).tape.trans C4.out.tape, (K.below w.heap.size w4 (Below.refl _ _) (Nat.le_refl _)).output.trans C4.out.output, Nat.le_trans C4.out.size (K.below w.heap.size w4 (Below.refl _ _) (Nat.le_refl _)).size, fun k h1 h2 => ((K.below w.heap.size w4 (Below.refl _ _) (Nat.le_refl _)).block k h1).trans (C4.out.block k h1 h2)⟩
  clear K C4 R4 N4
  go_wp2
  exact bodyPost_ret (results_row1 rfl _ _ _ _ _ rfl R5.out Try.underlying38 rfl uinfoBowI) rfl ⟨rfl, C5.out⟩
set_option maxRecDepth 100000 in
set_option maxHeartbeats 4000000 in
theorem s_l05StepBow (q : BwS) (sp : Nat) (s t : Value) (lo hi lo2 hi2 g : Nat) (w : World) (R : Row w g 38 #[s, .int .i64 (q.j : Nat), t, .int .i64 (q.k : Nat), .int .i64 1, .float .f32 q.a, .float .f32 q.b, .float .f32 q.c, .float .f32 q.p, .float .f32 q.q, .float .f32 q.m, .float .f32 q.l]) (O1 : OwnS w lo hi s q.x q.nx) (O2 : OwnS w lo2 hi2 t q.y q.ny) (ok : q.Ok) (hsp : fits .f32 sp) (g1 : ¬ (lo ≤ g ∧ g < hi)) (g2 : ¬ (lo2 ≤ g ∧ g < hi2)) (hd : hi ≤ lo2 ∨ hi2 ≤ lo) :
    Calls Try.prog 35 #[.pointer (some ⟨g, 0, none⟩), .float .f32 sp] w fun e w' => ∃ o, e = .returned (.float .f32 o) ∧ can .f32 o = q.y q.k ∧ fits .f32 o ∧ Row w' g 38 #[s, .int .i64 ((stepB q sp).j : Nat), t, .int .i64 ((stepB q sp).k : Nat), .int .i64 1, .float .f32 (stepB q sp).a, .float .f32 (stepB q sp).b, .float .f32 (stepB q sp).c, .float .f32 (stepB q sp).p, .float .f32 (stepB q sp).q, .float .f32 (stepB q sp).m, .float .f32 (stepB q sp).l] ∧ OwnS w' lo hi s (stepB q sp).x q.nx ∧ OwnS w' lo2 hi2 t (stepB q sp).y q.ny ∧ Chg (fun i => i = g ∨ lo ≤ i ∧ i < hi ∨ lo2 ≤ i ∧ i < hi2) w w' := by
  have HM := hid (fun (w' : World) (hl : le w w') => s_l05Draw q.x q.y q.nx q.ny q.j q.k q.a q.b q.c q.p q.q q.m q.l sp s t lo hi lo2 hi2 g w' (R.le hl) (O1.le hl) (O2.le hl) ok.j1 ok.k1 ok.nx2 ok.ny2 g1 ok.f ok.fp)
  have HO1 := hid O1; have HOO := hid O2
  rcases O2 with ⟨rfl, h0⟩ | ⟨d2, o2, cap2, ds2, rfl, hc2, hm2, hb2, hb2', hrow2, hx2⟩
  · have := ok.ny1; omega
  obtain ⟨yk, ey, fy, cy⟩ := hx2 q.k ok.k1
  have c2 := R.cell? 2
  have c3 := R.cell? 3
  have cb : w.cell? ⟨d2, o2 + q.k, none⟩ = some (.float .f32 yk) := (hrow2.cell? (o2 + q.k)).trans ey
  have k1 := ok.k1
  have ny2 := ok.ny2
  have HR := hid R; have HY := hid cy; have FY := hid fy; have OK := hid ok
  clear R O1 hrow2 hx2 ey cy fy ok
  unfold maxLen at hm2
  go_enter Try.func35, Try.ntmps35
  go_wp2_with fail
  refine wp_region_loose (fun _ _ _ => True) (by kernel_rfl) (by kernel_rfl) ?_
  repeat (first | (refine wpLoose_quiet rfl ?_; go_big_quiet_step (fail); refine wpQuiet_nil ?_) | (refine wpLoose_nilP rfl rfl rfl ?_; simp only [Act.put, List.setIfInBounds_toArray, List.set_cons_succ, List.set_cons_zero]))
  refine wpLoose_nil (fun m1 => ?_)
  clear c2 c3 cb
  have L1 := hid (le_drewN w m1)
  go_wp2_with (first | (go_at_call 25; ((with_reducible refine (HM.out _ L1.out).mono ?_); rintro e w2 ⟨u, v, d, rfl, hu, hv, hd2, fu, fv, fd, hR2, hC⟩; have HU : Hid (can .f32 u = uB q) := hu; have HV : Hid (can .f32 v = vB q) := hv; have HD : Hid (can .f32 d = dB q sp) := hd2; have R2 := hid hR2; have C2 : Hid (Chg (· = g) w w2) := (Chg.of_le L1.out).trans hC; have c10 := R2.out.cell? 10; clear hu hv hd2 hR2 hC)) | (go_at_call 26; ((with_reducible refine (s_l05Friction q.m d _).mono ?_); rintro e w3 ⟨fr, rfl, hf, hl3⟩; have HF := hid hf; have L3 := hid hl3; clear hf hl3)) | (with_reducible refine wpList_farith (op := .mul) rfl rfl rfl rfl rfl ?_; intro r2 n2 hr2 hf2))
  have HW := hid (wB_of HD.out HF.out hr2.out)
  have C3 : Hid (Chg (· = g) w w3) := C2.out.le L3.out
  have R3 := hid (R2.out.le L3.out)
  have P1 : Hid (OwnS w3 lo hi s q.x q.nx) := HO1.out.chgS C3.out (fun i a b e => g1 (by have e' : i = g := e; subst e'; exact ⟨a, b⟩))
  have P2 : Hid (OwnS w3 lo2 hi2 (.slice (some ⟨d2, o2, none⟩) q.ny cap2) q.y q.ny) := HOO.out.chgS C3.out (fun i a b e => g2 (by have e' : i = g := e; subst e'; exact ⟨a, b⟩))
  clear HM HO1 HOO c10 R2 C2
  go_wp2_with fail
  refine wp_region_tail (fun _ _ v => v = .float .f32 (n1B q sp)) 7 (by kernel_rfl) (by kernel_rfl) ?_; simp only [List.take_succ_cons, List.take_zero, List.drop_succ_cons, List.drop_zero]
  repeat (first | (with_reducible refine wpLoose_farith rfl rfl rfl rfl rfl ?_; intro ra hra hfa; simp only [Act.put, List.setIfInBounds_toArray, List.set_cons_succ, List.set_cons_zero]) | (refine wpLoose_quiet rfl ?_; go_big_quiet_step (fail); refine wpQuiet_nil ?_) | (refine wpLoose_nilP rfl rfl rfl ?_; simp only [Act.put, List.setIfInBounds_toArray, List.set_cons_succ, List.set_cons_zero]))
  refine wpLoose_any rfl (· = .float .f32 (n1B q sp)) (fun m0 => ?_) ?_
  · go_simp
    refine (s_Kept _ _ hfa.out).mono ?_
    rintro e w9 ⟨rfl, m2, rfl⟩
    exact ⟨_, rfl, by rw [n1_of HU.out HW.out hra.out], m0 + m2, by first | (go_simp; done) | (go_simp; rw [Nat.add_assoc])⟩
  rintro v0 rfl
  simp only [Act.put, List.setIfInBounds_toArray, List.set_cons_succ, List.set_cons_zero]
  repeat (refine wpLoose_quiet rfl ?_; go_big_quiet_step (fail); refine wpQuiet_nil ?_)
  refine wpLoose_nil (fun m3 => ?_)
  go_wp2_with (go_at_call 60; ((with_reducible refine (s_l02Push lo hi s q.x q.nx q.j (n1B q sp) g 0 _ _ _ (P1.out.le (le_drewN _ _)) (R3.out.drewN _) rfl rfl g1 OK.out.j1 OK.out.nx2 (fits_n1 q sp)).mono ?_); rintro e w5 ⟨o5, rfl, _, _, hR5, hO5, hC5⟩))
  have R5 := hid (show Row w5 g 38 #[s, .int .i64 ((q.j + 1) % q.nx : Nat), (.slice (some ⟨d2, o2, none⟩) q.ny cap2), .int .i64 (q.k : Nat), .int .i64 1, .float .f32 q.a, .float .f32 q.b, .float .f32 q.c, .float .f32 (pB q), .float .f32 (qB q), .float .f32 q.m, .float .f32 q.l] from by simpa [pB, qB] using hR5)
  have Q1 := hid hO5
  have P5 := hid ((P2.out.le (le_drewN _ _)).chgS hC5 (fun i a b e => by rcases e with e | e; (subst e; exact g2 ⟨a, b⟩); omega))
  have C5 := hid (((C3.out.mono (T := fun i => i = g ∨ lo ≤ i ∧ i < hi ∨ lo2 ≤ i ∧ i < hi2) (fun i e => .inl e)).le (le_drewN _ _)).trans (hC5.mono (fun i e => by rcases e with e | e; exact .inl e; exact .inr (.inl e))))
  clear hR5 hO5 hC5 P1 P2 R3 C3
  go_wp2_with fail
  refine wp_region_tail (fun _ _ v => v = .float .f32 (n2B q sp)) 7 (by kernel_rfl) (by kernel_rfl) ?_; simp only [List.take_succ_cons, List.take_zero, List.drop_succ_cons, List.drop_zero]
  repeat (first | (with_reducible refine wpLoose_farith rfl rfl rfl rfl rfl ?_; intro ra hra hfa; simp only [Act.put, List.setIfInBounds_toArray, List.set_cons_succ, List.set_cons_zero]) | (refine wpLoose_quiet rfl ?_; go_big_quiet_step (fail); refine wpQuiet_nil ?_) | (refine wpLoose_nilP rfl rfl rfl ?_; simp only [Act.put, List.setIfInBounds_toArray, List.set_cons_succ, List.set_cons_zero]))
  refine wpLoose_any rfl (· = .float .f32 (n2B q sp)) (fun m0 => ?_) ?_
  · go_simp
    refine (s_Kept _ _ hfa.out).mono ?_
    rintro e w9 ⟨rfl, m2, rfl⟩
    exact ⟨_, rfl, by rw [n2_of HV.out HW.out hra.out], m0 + m2, by first | (go_simp; done) | (go_simp; rw [Nat.add_assoc])⟩
  rintro v0 rfl
  simp only [Act.put, List.setIfInBounds_toArray, List.set_cons_succ, List.set_cons_zero]
  repeat (refine wpLoose_quiet rfl ?_; go_big_quiet_step (fail); refine wpQuiet_nil ?_)
  refine wpLoose_nil (fun m3 => ?_)
  go_wp2_with (go_at_call 60; ((with_reducible refine (s_l02Push lo2 hi2 _ q.y q.ny q.k (n2B q sp) g 2 _ _ _ (P5.out.le (le_drewN _ _)) (R5.out.drewN _) rfl rfl g2 OK.out.k1 OK.out.ny2 (fits_n2 q sp)).mono ?_); rintro e w6 ⟨o6, rfl, _, _, hR6, hO6, hC6⟩))
  go_ret
  refine ⟨_, rfl, HY.out, FY.out, by simpa [stepB] using hR6, ?_, hO6, ?_⟩
  · exact (Q1.out.le (le_drewN _ _)).chgS hC6 (fun i a b e => by rcases e with e | e; (subst e; exact g1 ⟨a, b⟩); omega)
  · exact (C5.out.le (le_drewN _ _)).trans (hC6.mono (fun i e => by rcases e with e | e; exact .inl e; exact .inr (.inr e)))
end Go.Proofs.Ythjdklolbkhbfaa

/- Copies of a Bow: the model's. -/
namespace Go.Proofs.Ythjdklolbkhbfaa
open Go.RowKit Go.Fk
set_option maxRecDepth 100000 in
set_option maxHeartbeats 4000000 in
theorem s_l05CopyBow (x y : Nat → Nat) (nx ny : Nat) (j k : Int) (fk : Int) (a b c p q : Nat) (m o : Nat) (B : Nat) (s t : Value) (w : World) (g0 : Nat) (RR : Row w g0 38 #[s, .int .i64 j, t, .int .i64 k, .int .i64 fk, .float .f32 a, .float .f32 b, .float .f32 c, .float .f32 p, .float .f32 q, .float .f32 m, .float .f32 o]) (hs : RdS w B s x nx) (ht : RdS w B t y ny) (hx : 1 ≤ nx ∧ nx ≤ 1024) (hy : 1 ≤ ny ∧ ny ≤ 1024) :
    Calls Try.prog 24 #[.pointer (some ⟨g0, 0, none⟩)] w fun e w' => ∃ s1 t1, e = .returned (.agg #[s1, .int .i64 j, t1, .int .i64 k, .int .i64 fk, .float .f32 a, .float .f32 b, .float .f32 c, .float .f32 p, .float .f32 q, .float .f32 m, .float .f32 o]) ∧ Two w.heap.size x nx y ny s1 t1 w' ∧ le w w' := by
  have F := (Frg.nil w).box 38 #[.slice none 0 0, .int .i64 0, .slice none 0 0, .int .i64 0, .int .i64 0, .float .f32 0, .float .f32 0, .float .f32 0, .float .f32 0, .float .f32 0, .float .f32 0, .float .f32 0]
  have hg0 : g0 < w.heap.size := RR.lt
  have HR := hid RR; have HS := hid hs; have HT := hid ht; clear RR hs ht
  go_enter Try.func24, Try.ntmps24
  go_wp2_with fail
  obtain ⟨W, hW⟩ : ∃ W, W = w.alloc (.cells #[.slice none 0 0, .int .i64 0, .slice none 0 0, .int .i64 0, .int .i64 0, .float .f32 0, .float .f32 0, .float .f32 0, .float .f32 0, .float .f32 0, .float .f32 0, .float .f32 0] 38) := ⟨_, rfl⟩
  rw [← hW] at F ⊢
  have hz : W.heap.size = w.heap.size + 1 := by rw [hW]; simp
  clear hW
  have HZ := hid hz; clear hz
  have G := F.drewN 1
  have hle : le w (W.drewN 1) := G.below
  have hRw : ∀ w1, (outX w.heap.size 38 12 (FinC w.heap.size x nx y ny (fun s1 t1 => #[s1, .int .i64 j, t1, .int .i64 k, .int .i64 fk, .float .f32 a, .float .f32 b, .float .f32 c, .float .f32 p, .float .f32 q, .float .f32 m, .float .f32 o])) (FinC_le _ _ _ _ _ _)).R (W.drewN 1) w1 → Row w1 g0 38 #[s, .int .i64 j, t, .int .i64 k, .int .i64 fk, .float .f32 a, .float .f32 b, .float .f32 c, .float .f32 p, .float .f32 q, .float .f32 m, .float .f32 o] := fun w1 h1 => h1.1.row (HR.out.le hle) (by omega)
  have hSw : ∀ w1, (outX w.heap.size 38 12 (FinC w.heap.size x nx y ny (fun s1 t1 => #[s1, .int .i64 j, t1, .int .i64 k, .int .i64 fk, .float .f32 a, .float .f32 b, .float .f32 c, .float .f32 p, .float .f32 q, .float .f32 m, .float .f32 o])) (FinC_le _ _ _ _ _ _)).R (W.drewN 1) w1 → RdS w1 B s x nx := fun w1 h1 => HS.out.chgG hle h1.1
  have hTw : ∀ w1, (outX w.heap.size 38 12 (FinC w.heap.size x nx y ny (fun s1 t1 => #[s1, .int .i64 j, t1, .int .i64 k, .int .i64 fk, .float .f32 a, .float .f32 b, .float .f32 c, .float .f32 p, .float .f32 q, .float .f32 m, .float .f32 o])) (FinC_le _ _ _ _ _ _)).R (W.drewN 1) w1 → RdS w1 B t y ny := fun w1 h1 => HT.out.chgG hle h1.1
  have HRw := hid hRw; have HSw := hid hSw; have HTw := hid hTw; clear hRw hSw hTw
  refine region_freeZ (E := outX w.heap.size 38 12 (FinC w.heap.size x nx y ny (fun s1 t1 => #[s1, .int .i64 j, t1, .int .i64 k, .int .i64 fk, .float .f32 a, .float .f32 b, .float .f32 c, .float .f32 p, .float .f32 q, .float .f32 m, .float .f32 o])) (FinC_le _ _ _ _ _ _)) (fun _ args z w1 v => (args = #[.pointer (some ⟨g0, 0, none⟩)] → Cp w.heap.size x nx j z w1 v) ∧ (args = #[.pointer (some ⟨g0, 2, none⟩)] → Cp w.heap.size y ny k z w1 v)) (by kernel_rfl) (by kernel_rfl) ?_
  refine wpFreeZ_one rfl (.pointer (some ⟨g0, 0, none⟩)) (fun w1 _ => by kernel_rfl) ?_
  simp only [Act.put, List.setIfInBounds_toArray, List.set_cons_succ, List.set_cons_zero]
  refine wpFreeZ_one rfl (.pointer (some ⟨g0, 0, none⟩)) (fun w1 _ => by kernel_rfl) ?_
  simp only [Act.put, List.setIfInBounds_toArray, List.set_cons_succ, List.set_cons_zero]
  refine wpFreeZ_one rfl (.pointer (some ⟨g0, 0, none⟩)) (fun w1 _ => by kernel_rfl) ?_
  simp only [Act.put, List.setIfInBounds_toArray, List.set_cons_succ, List.set_cons_zero]
  refine wpFreeZ_callW (by kernel_rfl) rfl Try.func45 (by kernel_rfl) (by kernel_rfl) (args := #[.pointer (some ⟨g0, 0, none⟩)]) (by simp [Act.eval]) (fun z v w1 w2 hw hv => ⟨fun e => cp_outX (hv.1 e) hw, fun e => cp_outX (hv.2 e) hw⟩) (fun w1 hw1 hbe => ?_) ?_
  · refine (s_l02Copy B s x nx j g0 0 w1 (HSw.out w1 hw1) ((HRw.out w1 hw1).cell? 0) ((HRw.out w1 hw1).cell? 1) hx.1 hx.2).mono ?_
    rintro e w2 ⟨s1, rfl, ho, hl⟩
    refine ⟨_, rfl, hl, fun _ => Cp.mk ho hx.1 (by have := hw1.1.size; have e0 : (W.drewN 1).heap.size = W.heap.size := rfl; have := HZ.out; omega), fun e => absurd e (by simp)⟩
  rintro v0 ⟨z, wv, _, hv⟩
  obtain ⟨s1, _, rfl, ho, _⟩ := hv.1 rfl
  have os := hid (own_one ho)
  clear hv ho
  simp only [Act.put, List.setIfInBounds_toArray, List.set_cons_succ, List.set_cons_zero]
  refine wpFreeZ_one rfl (.pointer (some ⟨g0, 0, none⟩)) (fun w1 _ => by kernel_rfl) ?_
  simp only [Act.put, List.setIfInBounds_toArray, List.set_cons_succ, List.set_cons_zero]
  refine wpFreeZ_one rfl (.pointer (some ⟨g0, 0, none⟩)) (fun w1 _ => by kernel_rfl) ?_
  simp only [Act.put, List.setIfInBounds_toArray, List.set_cons_succ, List.set_cons_zero]
  refine wpFreeZ_one rfl (.pointer (some ⟨g0, 2, none⟩)) (fun w1 _ => by kernel_rfl) ?_
  simp only [Act.put, List.setIfInBounds_toArray, List.set_cons_succ, List.set_cons_zero]
  refine wpFreeZ_callW (by kernel_rfl) rfl Try.func45 (by kernel_rfl) (by kernel_rfl) (args := #[.pointer (some ⟨g0, 2, none⟩)]) (by simp [Act.eval]) (fun z v w1 w2 hw hv => ⟨fun e => cp_outX (hv.1 e) hw, fun e => cp_outX (hv.2 e) hw⟩) (fun w1 hw1 hbe => ?_) ?_
  · refine (s_l02Copy B t y ny k g0 2 w1 (HTw.out w1 hw1) ((HRw.out w1 hw1).cell? 2) ((HRw.out w1 hw1).cell? 3) hy.1 hy.2).mono ?_
    rintro e w2 ⟨s1, rfl, ho, hl⟩
    refine ⟨_, rfl, hl, fun e => absurd e (by simp), fun _ => Cp.mk ho hy.1 (by have := hw1.1.size; have e0 : (W.drewN 1).heap.size = W.heap.size := rfl; have := HZ.out; omega)⟩
  rintro v2 ⟨z, wv, _, hv⟩
  obtain ⟨t1, _, rfl, ho, _⟩ := hv.2 rfl
  have ot := hid (own_one ho)
  clear hv ho
  simp only [Act.put, List.setIfInBounds_toArray, List.set_cons_succ, List.set_cons_zero]
  refine wpFreeZ_one rfl (.pointer (some ⟨g0, 0, none⟩)) (fun w1 _ => by kernel_rfl) ?_
  simp only [Act.put, List.setIfInBounds_toArray, List.set_cons_succ, List.set_cons_zero]
  refine wpFreeZ_one rfl (.pointer (some ⟨g0, 0, none⟩)) (fun w1 _ => by kernel_rfl) ?_
  simp only [Act.put, List.setIfInBounds_toArray, List.set_cons_succ, List.set_cons_zero]
  refine wpFreeZ_one rfl (.pointer (some ⟨g0, 4, none⟩)) (fun w1 _ => by kernel_rfl) ?_
  simp only [Act.put, List.setIfInBounds_toArray, List.set_cons_succ, List.set_cons_zero]
  refine wpFreeZ_loadW rfl rfl rfl [.int .i64 fk, .float .f32 a, .float .f32 b, .float .f32 c, .float .f32 p, .float .f32 q] (fun w1 h1 => Row.at_part (HRw.out w1 h1) (partBow_Damp (s) (.int .i64 j) (t) (.int .i64 k) (.int .i64 fk) (.float .f32 a) (.float .f32 b) (.float .f32 c) (.float .f32 p) (.float .f32 q) (.float .f32 m) (.float .f32 o))) Try.underlying36 rfl uinfoFilterI rfl ?_
  simp only [Act.put, List.setIfInBounds_toArray, List.set_cons_succ, List.set_cons_zero]
  refine wpFreeZ_one rfl (.pointer (some ⟨g0, 0, none⟩)) (fun w1 _ => by kernel_rfl) ?_
  simp only [Act.put, List.setIfInBounds_toArray, List.set_cons_succ, List.set_cons_zero]
  refine wpFreeZ_one rfl (.pointer (some ⟨g0, 0, none⟩)) (fun w1 _ => by kernel_rfl) ?_
  simp only [Act.put, List.setIfInBounds_toArray, List.set_cons_succ, List.set_cons_zero]
  refine wpFreeZ_one rfl (.pointer (some ⟨g0, 10, none⟩)) (fun w1 _ => by kernel_rfl) ?_
  simp only [Act.put, List.setIfInBounds_toArray, List.set_cons_succ, List.set_cons_zero]
  refine wpFreeZ_load1 rfl rfl rfl (p := ⟨g0, 10, none⟩) (fun w1 h1 => (HRw.out w1 h1).cell? 10) ukindFloat32 ?_
  simp only [Act.put, List.setIfInBounds_toArray, List.set_cons_succ, List.set_cons_zero]
  refine wpFreeZ_one rfl (.pointer (some ⟨g0, 0, none⟩)) (fun w1 _ => by kernel_rfl) ?_
  simp only [Act.put, List.setIfInBounds_toArray, List.set_cons_succ, List.set_cons_zero]
  refine wpFreeZ_one rfl (.pointer (some ⟨g0, 0, none⟩)) (fun w1 _ => by kernel_rfl) ?_
  simp only [Act.put, List.setIfInBounds_toArray, List.set_cons_succ, List.set_cons_zero]
  refine wpFreeZ_one rfl (.pointer (some ⟨g0, 11, none⟩)) (fun w1 _ => by kernel_rfl) ?_
  simp only [Act.put, List.setIfInBounds_toArray, List.set_cons_succ, List.set_cons_zero]
  refine wpFreeZ_load1 rfl rfl rfl (p := ⟨g0, 11, none⟩) (fun w1 h1 => (HRw.out w1 h1).cell? 11) ukindFloat32 ?_
  simp only [Act.put, List.setIfInBounds_toArray, List.set_cons_succ, List.set_cons_zero]
  refine wpFreeZ_carry rfl (.agg #[s1, .int .i64 j, t1, .int .i64 k, .int .i64 fk, .float .f32 a, .float .f32 b, .float .f32 c, .float .f32 p, .float .f32 q, .float .f32 m, .float .f32 o]) (fun w1 _ => by kernel_rfl) (Two (w.heap.size + 1) x nx y ny s1 t1) (fun w1 w2 hw hv => two_outX hv hw) (fun w1 hw1 ⟨zs, hf, hc⟩ => ?_) ?_
  · refine Cp.two hx.1 hy.1 (F := _) (((hf ⟨3, Ground.data⟩ (by simp) (by kernel_rfl)).1.1.1.1.1.1.1.1.1.1.1.1.1.1.1.1.2 rfl).1 trivial) (((hf ⟨7, Ground.data⟩ (by simp) (by kernel_rfl)).1.1.1.1.1.1.1.1.1.1.1.1.2 rfl).2 trivial) (hc ⟨3, Ground.data⟩ (by simp) (by kernel_rfl) ⟨7, Ground.data⟩ (by simp) (by kernel_rfl) (by decide)) (fun w2 h => (h.1.1.1.1.1.1.1.1.1.1.1.1.1.1.1.1.2 rfl).1 trivial) (fun w2 h => (h.1.1.1.1.1.1.1.1.1.1.1.1.2 rfl).2 trivial)
  simp only [Act.put, List.setIfInBounds_toArray, List.set_cons_succ, List.set_cons_zero]
  refine wpFreeZ_out rfl rfl rfl (cells := #[s1, .int .i64 j, t1, .int .i64 k, .int .i64 fk, .float .f32 a, .float .f32 b, .float .f32 c, .float .f32 p, .float .f32 q, .float .f32 m, .float .f32 o]) rfl rfl (G.row m0) rfl (fun w1 w2 hw ⟨zs, hf, hc⟩ hch => ⟨s1, t1, rfl, (((hf ⟨20, Ground.data⟩ (by simp) (by kernel_rfl)).2 rfl).chg hch).lo (by omega)⟩) uinfoBowI rfl (by simp only [List.all_toArray, List.all_cons, List.all_nil, os.out, ot.out]; rfl) ?_
  refine wpFreeZ_nil (fun w3 zs hw3 hF _ => ?_)
  obtain ⟨cs, hr, s2, t2, rfl, h2⟩ := (hF 21).2 rfl
  have hlw : le w w3 := G.below.trans (hw3.1.below (B := w.heap.size) (fun k e => by omega) (by have e0 : (W.drewN 1).heap.size = W.heap.size := rfl; have := HZ.out; omega))
  go_wp2
  exact bodyPost_ret (results_row1 rfl _ _ _ _ _ rfl hr Try.underlying38 rfl uinfoBowI) rfl ⟨s2, t2, rfl, h2, hlw⟩
end Go.Proofs.Ythjdklolbkhbfaa

/- Small laws of steps over facts of memory. Nothing here names a program. -/
namespace Go.Fk
open Go Go.RowKit
theorem wf_nat {n : Nat} (h : n ≤ 1024) : (Lit.int .i64 (n : Int)).wf = true := by
  simp only [Lit.wf, IntKind.min, IntKind.max, IntKind.signed, IntKind.bits, Bool.and_eq_true, decide_eq_true_eq, if_true]
  constructor <;> omega
/-- What lies behind two facts stands when blocks from the second one on have turned. -/
theorem Frg.cut2 {w0 w w' : World} {L : List Fact} {a b : Fact} (h : Frg w0 w (a :: b :: L)) {S : Nat → Prop} (k : Chg S w w') (hS : ∀ i, S i → b.lo ≤ i) : Frg w0 w' L := by
  have hb := h.facts b (by simp)
  have p := List.pairwise_cons.1 (List.pairwise_cons.1 h.apart).2
  refine ⟨h.below.trans (k.below (fun i hi => Nat.le_trans hb.1 (hS i hi)) h.size), fun e he => ?_, p.2⟩
  have hx := h.facts e (by simp [he])
  have ha := p.1 e he
  exact ⟨hx.1, Nat.le_trans hx.2.1 k.size, e.ok w w' hx.2.2 (fun i h1 h2 => k.block i (by omega) (fun c => by have := hS i c; omega))⟩
theorem ret_bi {a b : Bool} {i : Int} (h : a = b) : Ending.returned (.tuple #[.bool a, .int .i64 i]) = .returned (.tuple #[.bool b, .int .i64 i]) := by rw [h]
end Go.Fk

/- 'StepBow' and 'SticksAt' of both. -/
namespace Go.Proofs.Ythjdklolbkhbfaa
open Go.RowKit Go.Fk
set_option maxRecDepth 100000 in
set_option maxHeartbeats 4000000 in
theorem i_StepBow_no (x y : Nat → Nat) (nx ny : Nat) (j k : Int) (fk : Int) (a b c p q : Nat) (m o : Nat) (sp : Nat) (B : Nat) (s t : Value) (w : World) (hs : (slT x nx).RdN w B s) (ht : (slT y ny).RdN w B t) (wf : (Lit.int .i64 j).wf = true ∧ (Lit.int .i64 k).wf = true) (hf : (fits .f32 a ∧ fits .f32 b ∧ fits .f32 c ∧ fits .f32 p ∧ fits .f32 q ∧ fits .f32 m ∧ fits .f32 o)) (hv : okBow x y nx ny j k fk a b c p q m o = false) :
    Calls Try.prog 12 #[.agg #[s, .int .i64 j, t, .int .i64 k, .int .i64 fk, .float .f32 a, .float .f32 b, .float .f32 c, .float .f32 p, .float .f32 q, .float .f32 m, .float .f32 o], .float .f32 sp] w (OutV_Tfi (cdBow (fun _ => 0) (fun _ => 0) 0 0 0 0 0 0 0 0 0 0 0 0) 0 1 w) := by
  have HV := hid (fun (w' : World) (hl : le w w') => hv ▸ i_ValidBow x y nx ny j k fk a b c p q m o B s t w' (hs.le hl) (ht.le hl) wf hf)
  clear hs ht wf hf hv
  have F := ((Frg.nil w).box 38 #[s, .int .i64 j, t, .int .i64 k, .int .i64 fk, .float .f32 a, .float .f32 b, .float .f32 c, .float .f32 p, .float .f32 q, .float .f32 m, .float .f32 o]).box 38 #[.slice none 0 0, .int .i64 0, .slice none 0 0, .int .i64 0, .int .i64 0, .float .f32 0, .float .f32 0, .float .f32 0, .float .f32 0, .float .f32 0, .float .f32 0, .float .f32 0]
  simp only [World.size_alloc] at F
  go_enter Try.func12, Try.ntmps12
  go_wp2_with (first | ((with_reducible refine at_loadU rfl rfl ?_); (with_reducible refine wpList_loadG F rfl rfl rfl (by first | exact m0 | exact m1 | exact m2 | exact m3 | exact m4 | exact m5 | exact m6 | exact m7 | exact m8 | exact m9 | exact m10 | exact m11) Try.underlying38 rfl uinfoBowI rfl ?_)) | (go_at_call 29; ((with_reducible refine (HV.out _ F.below).mono ?_); rintro e w1 ⟨rfl, hl⟩; replace F := F.le hl; clear hl)) | ((with_reducible refine stop_store rfl ?_)))
  show wpList _ _ _ _ _ _
  refine wpList_storeD rfl rfl rfl (cells := #[.slice none 0 0, .int .i64 0, .slice none 0 0, .int .i64 0, .int .i64 0, .float .f32 0, .float .f32 0, .float .f32 0, .float .f32 0, .float .f32 0, .float .f32 0, .float .f32 0]) rfl (F.row m0) uinfoBowI rfl (by simp [Value.oneCell']) (fun w4 K => ?_)
  have R := hid K.row
  have L := hid (F.wr0 K).below
  clear K F
  go_wp2
  exact bodyPost_ret (results_row3 rfl _ _ _ _ _ rfl R.out Try.underlying38 rfl uinfoBowI) rfl ⟨[.slice none 0 0, .int .i64 0, .slice none 0 0, .int .i64 0, .int .i64 0, .float .f32 0, .float .f32 0, .float .f32 0, .float .f32 0, .float .f32 0, .float .f32 0, .float .f32 0], _, rfl, layBow0 _ _, L.out, by decide⟩
set_option maxRecDepth 100000 in
set_option maxHeartbeats 4000000 in
theorem i_StepBow_yes (sp : Nat) (hsp : fits .f32 sp) (q : BwS) (B : Nat) (s t : Value) (w : World) (hs : (slT q.x q.nx).RdN w B s) (ht : (slT q.y q.ny).RdN w B t) (ok : q.Ok) (hv : (okBow q.x q.y q.nx q.ny (q.j : Nat) (q.k : Nat) 1 q.a q.b q.c q.p q.q q.m q.l) = true) (fy : fits .f32 (q.y q.k)) :
    Calls Try.prog 12 #[.agg #[s, .int .i64 (q.j : Nat), t, .int .i64 (q.k : Nat), .int .i64 1, .float .f32 q.a, .float .f32 q.b, .float .f32 q.c, .float .f32 q.p, .float .f32 q.q, .float .f32 q.m, .float .f32 q.l], .float .f32 sp] w (OutV_Tfi (cdBow (stepB q sp).x (stepB q sp).y (stepB q sp).nx (stepB q sp).ny ((stepB q sp).j : Nat) ((stepB q sp).k : Nat) 1 (stepB q sp).a (stepB q sp).b (stepB q sp).c (stepB q sp).p (stepB q sp).q (stepB q sp).m (stepB q sp).l) (q.y q.k) 0 w) := by
  have HV := hid (fun (w' : World) (hl : le w w') => hv ▸ i_ValidBow q.x q.y q.nx q.ny (q.j : Nat) (q.k : Nat) 1 q.a q.b q.c q.p q.q q.m q.l B s t w' (hs.le hl) (ht.le hl) ⟨wf_nat (Nat.le_trans (Nat.le_of_lt ok.j1) ok.nx2), wf_nat (Nat.le_trans (Nat.le_of_lt ok.k1) ok.ny2)⟩ ⟨ok.fa, ok.fb, ok.fc, ok.fp, ok.fq, ok.fm, ok.fl⟩)
  have HN := hid (fun (w' : World) (hl : le w w') => i_newDrawn q.x q.y q.nx q.ny (q.j : Nat) (q.k : Nat) 1 q.a q.b q.c q.p q.q q.m q.l B s t w' ((slT_rds hs).le hl) ((slT_rds ht).le hl) ⟨ok.nx1, ok.nx2⟩ ⟨ok.ny1, ok.ny2⟩ ⟨by decide, by decide⟩)
  have OK := hid ok; have OK2 := hid (ok.step sp fy)
  clear hs ht hv ok
  have F := ((Frg.nil w).box 38 #[s, .int .i64 (q.j : Nat), t, .int .i64 (q.k : Nat), .int .i64 1, .float .f32 q.a, .float .f32 q.b, .float .f32 q.c, .float .f32 q.p, .float .f32 q.q, .float .f32 q.m, .float .f32 q.l]).box 38 #[.slice none 0 0, .int .i64 0, .slice none 0 0, .int .i64 0, .int .i64 0, .float .f32 0, .float .f32 0, .float .f32 0, .float .f32 0, .float .f32 0, .float .f32 0, .float .f32 0]
  simp only [World.size_alloc] at F
  go_enter Try.func12, Try.ntmps12
  go_wp2_with (first | ((with_reducible refine at_loadU rfl rfl ?_); (with_reducible refine wpList_loadG F rfl rfl rfl (by first | exact m0 | exact m1 | exact m2 | exact m3 | exact m4 | exact m5 | exact m6 | exact m7 | exact m8 | exact m9 | exact m10 | exact m11) Try.underlying38 rfl uinfoBowI rfl ?_)) | (go_at_call 29; ((with_reducible refine (HV.out _ F.below).mono ?_); rintro e w1 ⟨rfl, hl⟩; replace F := F.le hl; clear hl)) | (go_at_call 30; ((with_reducible refine (HN.out _ F.below).mono ?_); rintro e w2 ⟨g, r, s1, t1, b0, d0, rfl, hRG, hRR, hO1, hO2, hne, l1, l2, ⟨l3, l4, l4'⟩, ⟨l5, l5', l5''⟩, l6, hl2⟩; have RG := hid hRG; have RR := hid hRR; have O1 := hid hO1; have O2 := hid hO2; have L2 := hid hl2; clear hRG hRR hO1 hO2 hl2)) | (go_at_call 36; ((with_reducible refine (i_bstep q sp q.p q.q s t s1 t1 (q.j : Nat) (q.k : Nat) b0 (b0 + 1) d0 (d0 + 1) g r _ RG.out RR.out O1.out O2.out OK.out (by omega) (by omega) (by omega) hsp (by omega) (by omega) (by omega)).mono ?_); rintro e w3 ⟨o3, rfl, ho3, fo3, hR3, hRR3, hP1, hP2, hC3⟩; have R3 := hid hR3; have RR3 := hid hRR3; have P1 := hid hP1; have P2 := hid hP2; have C3 := hid hC3; have HO3 := hid ho3; clear hR3 hRR3 hP1 hP2 hC3 ho3)) | (go_at_call 37; ((with_reducible refine (i_bbehind s t s1 t1 (q.j : Nat) (q.k : Nat) _ _ g r (stepB q sp) q.p q.q _ R3.out RR3.out (by omega) (own_one P1.out) (own_one P2.out)).mono ?_); rintro e w4 ⟨rfl, hC4⟩; have C4 := hid hC4; clear hC4)) | ((with_reducible refine stop_store rfl ?_)))
  show wpList _ _ _ _ _ _
  have hz1 := (F.row m0).lt
  have L4 : Below w1.heap.size w1 w4 := Below.trans L2.out (Below.trans (C3.out.below (B := w1.heap.size) (fun k e => by omega) L2.out.size) (C4.out.below (B := w1.heap.size) (fun k e => by have e' : k = g := e; omega) (Nat.le_trans L2.out.size C3.out.size)))
  replace F := F.le L4
  have os := P1.out.one; have ot := P2.out.one
  have P1c := P1.out.chgS C4.out (fun i a b e => by have e' : i = g := e; omega)
  have P2c := P2.out.chgS C4.out (fun i a b e => by have e' : i = g := e; omega)
  refine wpList_storeD rfl rfl rfl (cells := #[s1, .int .i64 ((stepB q sp).j : Nat), t1, .int .i64 ((stepB q sp).k : Nat), .int .i64 1, .float .f32 (stepB q sp).a, .float .f32 (stepB q sp).b, .float .f32 (stepB q sp).c, .float .f32 (stepB q sp).p, .float .f32 (stepB q sp).q, .float .f32 (stepB q sp).m, .float .f32 (stepB q sp).l]) rfl (F.row m0) uinfoBowI rfl (by simp only [List.all_toArray', List.all_cons, List.all_nil, os, ot]; rfl) (fun w9 K => ?_)
  have C := (Chg.refl (· = w.heap.size + 1) w4).wrote K rfl
  have zc := C.size; have zc3 := C3.out.size; have zc4 := C4.out.size
  have Q1 := P1c.chgS C (fun i a b e => by have e' : i = w.heap.size + 1 := e; omega)
  have Q2 := P2c.chgS C (fun i a b e => by have e' : i = w.heap.size + 1 := e; omega)
  have ok2 := OK2.out
  have R := hid K.row
  have L := hid (F.wr0 K).below
  have LY := hid (layBow (stepB q sp).x (stepB q sp).y (stepB q sp).nx (stepB q sp).ny ((stepB q sp).j : Nat) ((stepB q sp).k : Nat) 1 (stepB q sp).a (stepB q sp).b (stepB q sp).c (stepB q sp).p (stepB q sp).q (stepB q sp).m (stepB q sp).l (lo := w.heap.size) ⟨b0, d0, Q1, Q2, hne, by omega, by omega, by omega, by omega⟩ ⟨wf_nat (Nat.le_trans (Nat.le_of_lt ok2.j1) ok2.nx2), wf_nat (Nat.le_trans (Nat.le_of_lt ok2.k1) ok2.ny2), by decide⟩ ⟨ok2.fa, ok2.fb, ok2.fc, ok2.fp, ok2.fq, ok2.fm, ok2.fl⟩)
  clear K F C P1c P2c Q1 Q2 os ot ok2
  go_wp2
  exact bodyPost_ret (results_row3 rfl _ _ _ _ _ rfl R.out Try.underlying38 rfl uinfoBowI) rfl ⟨[s1, .int .i64 ((stepB q sp).j : Nat), t1, .int .i64 ((stepB q sp).k : Nat), .int .i64 1, .float .f32 (stepB q sp).a, .float .f32 (stepB q sp).b, .float .f32 (stepB q sp).c, .float .f32 (stepB q sp).p, .float .f32 (stepB q sp).q, .float .f32 (stepB q sp).m, .float .f32 (stepB q sp).l], o3, rfl, LY.out, L.out, HO3.out⟩
set_option maxRecDepth 100000 in
set_option maxHeartbeats 4000000 in
theorem s_StepBow_no (x y : Nat → Nat) (nx ny : Nat) (j k : Int) (fk : Int) (a b c p q : Nat) (m o : Nat) (sp : Nat) (B : Nat) (s t : Value) (w : World) (hs : (slT x nx).RdN w B s) (ht : (slT y ny).RdN w B t) (wf : (Lit.int .i64 j).wf = true ∧ (Lit.int .i64 k).wf = true) (hf : (fits .f32 a ∧ fits .f32 b ∧ fits .f32 c ∧ fits .f32 p ∧ fits .f32 q ∧ fits .f32 m ∧ fits .f32 o)) (hv : okBow x y nx ny j k fk a b c p q m o = false) :
    Calls Try.prog 11 #[.agg #[s, .int .i64 j, t, .int .i64 k, .int .i64 fk, .float .f32 a, .float .f32 b, .float .f32 c, .float .f32 p, .float .f32 q, .float .f32 m, .float .f32 o], .float .f32 sp] w (OutV_Tfi (cdBow (fun _ => 0) (fun _ => 0) 0 0 0 0 0 0 0 0 0 0 0 0) 0 1 w) := by
  have HV := hid (fun (g9 : Nat) (w' : World) (hl : le w w') (R : Row w' g9 38 #[s, .int .i64 j, t, .int .i64 k, .int .i64 fk, .float .f32 a, .float .f32 b, .float .f32 c, .float .f32 p, .float .f32 q, .float .f32 m, .float .f32 o]) => hv ▸ s_l05Bow x y nx ny j k fk a b c p q m o B s t w' g9 R (hs.le hl) (ht.le hl) wf hf)
  clear hs ht wf hf hv
  have F := ((Frg.nil w).box 38 #[s, .int .i64 j, t, .int .i64 k, .int .i64 fk, .float .f32 a, .float .f32 b, .float .f32 c, .float .f32 p, .float .f32 q, .float .f32 m, .float .f32 o]).box 38 #[.slice none 0 0, .int .i64 0, .slice none 0 0, .int .i64 0, .int .i64 0, .float .f32 0, .float .f32 0, .float .f32 0, .float .f32 0, .float .f32 0, .float .f32 0, .float .f32 0]
  simp only [World.size_alloc] at F
  go_enter Try.func11, Try.ntmps11
  go_wp2_with (first | ((with_reducible refine at_loadU rfl rfl ?_); (with_reducible refine wpList_loadG F rfl rfl rfl (by first | exact m0 | exact m1 | exact m2 | exact m3 | exact m4 | exact m5 | exact m6 | exact m7 | exact m8 | exact m9 | exact m10 | exact m11) Try.underlying38 rfl uinfoBowI rfl ?_)) | (go_at_call 23; ((with_reducible refine (HV.out _ _ F.below (F.row m1)).mono ?_); rintro e w1 ⟨rfl, hl⟩; replace F := F.le hl; clear hl)) | ((with_reducible refine stop_store rfl ?_)))
  show wpList _ _ _ _ _ _
  refine wpList_storeD rfl rfl rfl (cells := #[.slice none 0 0, .int .i64 0, .slice none 0 0, .int .i64 0, .int .i64 0, .float .f32 0, .float .f32 0, .float .f32 0, .float .f32 0, .float .f32 0, .float .f32 0, .float .f32 0]) rfl (F.row m0) uinfoBowI rfl (by simp [Value.oneCell']) (fun w4 K => ?_)
  have R := hid K.row
  have L := hid (F.wr0 K).below
  clear K F
  go_wp2
  exact bodyPost_ret (results_row3 rfl _ _ _ _ _ rfl R.out Try.underlying38 rfl uinfoBowI) rfl ⟨[.slice none 0 0, .int .i64 0, .slice none 0 0, .int .i64 0, .int .i64 0, .float .f32 0, .float .f32 0, .float .f32 0, .float .f32 0, .float .f32 0, .float .f32 0, .float .f32 0], _, rfl, layBow0 _ _, L.out, by decide⟩
set_option maxRecDepth 100000 in
set_option maxHeartbeats 4000000 in
theorem s_StepBow_yes (sp : Nat) (hsp : fits .f32 sp) (q : BwS) (B : Nat) (s t : Value) (w : World) (hs : (slT q.x q.nx).RdN w B s) (ht : (slT q.y q.ny).RdN w B t) (ok : q.Ok) (hv : (okBow q.x q.y q.nx q.ny (q.j : Nat) (q.k : Nat) 1 q.a q.b q.c q.p q.q q.m q.l) = true) (fy : fits .f32 (q.y q.k)) :
    Calls Try.prog 11 #[.agg #[s, .int .i64 (q.j : Nat), t, .int .i64 (q.k : Nat), .int .i64 1, .float .f32 q.a, .float .f32 q.b, .float .f32 q.c, .float .f32 q.p, .float .f32 q.q, .float .f32 q.m, .float .f32 q.l], .float .f32 sp] w (OutV_Tfi (cdBow (stepB q sp).x (stepB q sp).y (stepB q sp).nx (stepB q sp).ny ((stepB q sp).j : Nat) ((stepB q sp).k : Nat) 1 (stepB q sp).a (stepB q sp).b (stepB q sp).c (stepB q sp).p (stepB q sp).q (stepB q sp).m (stepB q sp).l) (q.y q.k) 0 w) := by
  have HV := hid (fun (g9 : Nat) (w' : World) (hl : le w w') (R : Row w' g9 38 #[s, .int .i64 (q.j : Nat), t, .int .i64 (q.k : Nat), .int .i64 1, .float .f32 q.a, .float .f32 q.b, .float .f32 q.c, .float .f32 q.p, .float .f32 q.q, .float .f32 q.m, .float .f32 q.l]) => hv ▸ s_l05Bow q.x q.y q.nx q.ny (q.j : Nat) (q.k : Nat) 1 q.a q.b q.c q.p q.q q.m q.l B s t w' g9 R (hs.le hl) (ht.le hl) ⟨wf_nat (Nat.le_trans (Nat.le_of_lt ok.j1) ok.nx2), wf_nat (Nat.le_trans (Nat.le_of_lt ok.k1) ok.ny2)⟩ ⟨ok.fa, ok.fb, ok.fc, ok.fp, ok.fq, ok.fm, ok.fl⟩)
  have HC := hid (fun (g9 : Nat) (w' : World) (hl : le w w') (R : Row w' g9 38 #[s, .int .i64 (q.j : Nat), t, .int .i64 (q.k : Nat), .int .i64 1, .float .f32 q.a, .float .f32 q.b, .float .f32 q.c, .float .f32 q.p, .float .f32 q.q, .float .f32 q.m, .float .f32 q.l]) => s_l05CopyBow q.x q.y q.nx q.ny (q.j : Nat) (q.k : Nat) 1 q.a q.b q.c q.p q.q q.m q.l B s t w' g9 R ((slT_rds hs).le hl) ((slT_rds ht).le hl) ⟨ok.nx1, ok.nx2⟩ ⟨ok.ny1, ok.ny2⟩)
  have OK := hid ok; have OK2 := hid (ok.step sp fy)
  clear hs ht hv ok
  have F := ((Frg.nil w).box 38 #[s, .int .i64 (q.j : Nat), t, .int .i64 (q.k : Nat), .int .i64 1, .float .f32 q.a, .float .f32 q.b, .float .f32 q.c, .float .f32 q.p, .float .f32 q.q, .float .f32 q.m, .float .f32 q.l]).box 38 #[.slice none 0 0, .int .i64 0, .slice none 0 0, .int .i64 0, .int .i64 0, .float .f32 0, .float .f32 0, .float .f32 0, .float .f32 0, .float .f32 0, .float .f32 0, .float .f32 0]
  simp only [World.size_alloc] at F
  go_enter Try.func11, Try.ntmps11
  go_wp2_with (first | (go_at_call 23; ((with_reducible refine (HV.out _ _ F.below (F.row m1)).mono ?_); rintro e w1 ⟨rfl, hl⟩; replace F := F.le hl; clear hl)) | (go_at_call 24; ((with_reducible refine (HC.out _ _ F.below (F.row m1)).mono ?_); rintro e w2 ⟨s1, t1, rfl, h2, hl⟩; have os := hid (two_one h2).1; have ot := hid (two_one h2).2; replace F := F.two hl h2; clear h2 hl)) | (refine wpList_storeG F rfl rfl rfl rfl rfl uinfoBowI rfl (by simp only [List.all_toArray', List.all_cons, List.all_nil, os.out, ot.out]; rfl) ?_; clear F; intro W3 F zW))
  obtain ⟨b0, d0, hO1, hO2, hne, z1, z2, z3, z4⟩ := (F.facts (twF w1.heap.size w2.heap.size q.x q.nx q.y q.ny s1 t1) m1).2.2
  have O1 := hid hO1; have O2 := hid hO2; clear hO1 hO2
  have hg := (List.pairwise_cons.1 (List.pairwise_cons.1 F.apart).2).1 _ m0
  simp only [twF, rowF] at hg
  go_wp2_with (first | (go_at_call 35; ((with_reducible refine (s_l05StepBow q sp s1 t1 b0 (b0 + 1) d0 (d0 + 1) w2.heap.size _ (F.row m0) O1.out O2.out OK.out hsp (by omega) (by omega) (by omega)).mono ?_); rintro e w4 ⟨o3, rfl, ho3, fo3, hR3, hP1, hP2, hC3⟩; have R3 := hid hR3; have P1 := hid hP1; have P2 := hid hP2; have HO3 := hid ho3; have zC := hC3.size; replace F := F.cut2 hC3 (fun i e => by simp only [twF]; omega); clear hR3 hP1 hP2 hC3 ho3)) | ((with_reducible refine at_loadU rfl rfl ?_); (with_reducible refine wpList_loadDR R3.out rfl rfl rfl Try.underlying38 rfl uinfoBowI rfl ?_)) | ((with_reducible refine stop_store rfl ?_)))
  show wpList _ _ _ _ _ _
  have os4 := P1.out.one; have ot4 := P2.out.one
  refine wpList_storeD rfl rfl rfl (cells := #[s1, .int .i64 ((stepB q sp).j : Nat), t1, .int .i64 ((stepB q sp).k : Nat), .int .i64 1, .float .f32 (stepB q sp).a, .float .f32 (stepB q sp).b, .float .f32 (stepB q sp).c, .float .f32 (stepB q sp).p, .float .f32 (stepB q sp).q, .float .f32 (stepB q sp).m, .float .f32 (stepB q sp).l]) rfl (F.row m0) uinfoBowI rfl (by simp only [List.all_toArray', List.all_cons, List.all_nil, os4, ot4]; rfl) (fun w9 K => ?_)
  have C := (Chg.refl (· = w.heap.size + 1) w4).wrote K rfl
  have zc := C.size
  have Q1 := P1.out.chgS C (fun i a b e => by have e' : i = w.heap.size + 1 := e; omega)
  have Q2 := P2.out.chgS C (fun i a b e => by have e' : i = w.heap.size + 1 := e; omega)
  have ok2 := OK2.out
  have R := hid K.row
  have L := hid (F.wr0 K).below
  have LY := hid (layBow (stepB q sp).x (stepB q sp).y (stepB q sp).nx (stepB q sp).ny ((stepB q sp).j : Nat) ((stepB q sp).k : Nat) 1 (stepB q sp).a (stepB q sp).b (stepB q sp).c (stepB q sp).p (stepB q sp).q (stepB q sp).m (stepB q sp).l (lo := w.heap.size) ⟨b0, d0, Q1, Q2, hne, by omega, by omega, by omega, by omega⟩ ⟨wf_nat (Nat.le_trans (Nat.le_of_lt ok2.j1) ok2.nx2), wf_nat (Nat.le_trans (Nat.le_of_lt ok2.k1) ok2.ny2), by decide⟩ ⟨ok2.fa, ok2.fb, ok2.fc, ok2.fp, ok2.fq, ok2.fm, ok2.fl⟩)
  clear K F C Q1 Q2 os4 ot4 ok2
  go_wp2
  exact bodyPost_ret (results_row3 rfl _ _ _ _ _ rfl R.out Try.underlying38 rfl uinfoBowI) rfl ⟨[s1, .int .i64 ((stepB q sp).j : Nat), t1, .int .i64 ((stepB q sp).k : Nat), .int .i64 1, .float .f32 (stepB q sp).a, .float .f32 (stepB q sp).b, .float .f32 (stepB q sp).c, .float .f32 (stepB q sp).p, .float .f32 (stepB q sp).q, .float .f32 (stepB q sp).m, .float .f32 (stepB q sp).l], o3, rfl, LY.out, L.out, HO3.out⟩
theorem both_StepBow (cs : List CD) (sp : Nat) (h : HasShL shBow cs) (hsp : fits .f32 sp) : ∃ (ar0 : List CD) (ar1 : Nat) (ar2 : Int), ShOkL shBow ar0 ∧ szL ar0 ≤ 1048576 ∧ (∀ (w : World) (B : Nat) (u : List Value), RdLN w B (cs.map CD.cp) u → Calls Try.prog 11 #[.agg u.toArray, .float .f32 sp] w (OutV_Tfi ar0 ar1 ar2 w)) ∧ (∀ (w : World) (B : Nat) (u : List Value), RdLN w B (cs.map CD.cp) u → Calls Try.prog 12 #[.agg u.toArray, .float .f32 sp] w (OutV_Tfi ar0 ar1 ar2 w)) := by
  obtain ⟨xs, ys, nx, ny, j, k, fk, a, b, c, p, q, m, o, rfl, hx, hy⟩ := bow_data h
  cases hv : okBow (fun i => (xs i).fx) (fun i => (ys i).fx) nx ny j k fk a b c p q m o
  · refine ⟨cdBow (fun _ => 0) (fun _ => 0) 0 0 0 0 0 0 0 0 0 0 0 0, 0, 1, cdBow_sh (fun _ => 0) (fun _ => 0) 0 0 0 0 0 0 0 0 0 0 0 0, by rw [cdBow_sz]; omega, fun w B u hu => ?_, fun w B u hu => ?_⟩
    · obtain ⟨s, t, rfl, hs, ht, wf, hf⟩ := bow_open hu hx hy
      exact s_StepBow_no (fun i => (xs i).fx) (fun i => (ys i).fx) nx ny j k fk a b c p q m o sp B s t w hs ht wf hf hv
    · obtain ⟨s, t, rfl, hs, ht, wf, hf⟩ := bow_open hu hx hy
      exact i_StepBow_no (fun i => (xs i).fx) (fun i => (ys i).fx) nx ny j k fk a b c p q m o sp B s t w hs ht wf hf hv
  · obtain ⟨x1, x2, y1, y2, ⟨j, rfl, ej⟩, ⟨k, rfl, ek⟩, rfl, hk⟩ := okBow_j hv
    let Q : BwS := ⟨fun i => (xs i).fx, fun i => (ys i).fx, nx, ny, j, k, a, b, c, p, q, m, o⟩
    have hfy : ∀ (w : World) (B : Nat) (t : Value), (slT (fun i => (ys i).fx) ny).RdN w B t → fits .f32 ((ys k).fx) := fun w B t h => (slT_rds h).fits ek
    refine ⟨cdBow (stepB Q sp).x (stepB Q sp).y (stepB Q sp).nx (stepB Q sp).ny ((stepB Q sp).j : Nat) ((stepB Q sp).k : Nat) 1 (stepB Q sp).a (stepB Q sp).b (stepB Q sp).c (stepB Q sp).p (stepB Q sp).q (stepB Q sp).m (stepB Q sp).l, (ys k).fx, 0, cdBow_sh _ _ _ _ _ _ _ _ _ _ _ _ _ _, by rw [cdBow_sz]; exact (by show nx + ny ≤ 1048576; omega), fun w B u hu => ?_, fun w B u hu => ?_⟩
    · obtain ⟨s, t, rfl, hs, ht, wf, hf⟩ := bow_open hu hx hy
      exact s_StepBow_yes sp hsp Q B s t w hs ht ⟨x1, x2, y1, y2, ej, ek, hk, hf.1, hf.2.1, hf.2.2.1, hf.2.2.2.1, hf.2.2.2.2.1, hf.2.2.2.2.2.1, hf.2.2.2.2.2.2⟩ hv (hfy w B t ht)
    · obtain ⟨s, t, rfl, hs, ht, wf, hf⟩ := bow_open hu hx hy
      exact i_StepBow_yes sp hsp Q B s t w hs ht ⟨x1, x2, y1, y2, ej, ek, hk, hf.1, hf.2.1, hf.2.2.1, hf.2.2.2.1, hf.2.2.2.2.1, hf.2.2.2.2.2.1, hf.2.2.2.2.2.2⟩ hv (hfy w B t ht)
set_option maxRecDepth 100000 in
set_option maxHeartbeats 4000000 in
theorem i_SticksAt_no (x y : Nat → Nat) (nx ny : Nat) (j k : Int) (fk : Int) (a b c p q : Nat) (m o : Nat) (sp : Nat) (B : Nat) (s t : Value) (w : World) (hs : (slT x nx).RdN w B s) (ht : (slT y ny).RdN w B t) (wf : (Lit.int .i64 j).wf = true ∧ (Lit.int .i64 k).wf = true) (hf : (fits .f32 a ∧ fits .f32 b ∧ fits .f32 c ∧ fits .f32 p ∧ fits .f32 q ∧ fits .f32 m ∧ fits .f32 o)) (hv : okBow x y nx ny j k fk a b c p q m o = false) :
    Calls Try.prog 9 #[.agg #[s, .int .i64 j, t, .int .i64 k, .int .i64 fk, .float .f32 a, .float .f32 b, .float .f32 c, .float .f32 p, .float .f32 q, .float .f32 m, .float .f32 o], .float .f32 sp] w (Out_bi false 1 w) := by
  have HV := hid (fun (w' : World) (hl : le w w') => hv ▸ i_ValidBow x y nx ny j k fk a b c p q m o B s t w' (hs.le hl) (ht.le hl) wf hf)
  clear hs ht wf hf hv
  have F := (Frg.nil w).box 38 #[s, .int .i64 j, t, .int .i64 k, .int .i64 fk, .float .f32 a, .float .f32 b, .float .f32 c, .float .f32 p, .float .f32 q, .float .f32 m, .float .f32 o]
  go_enter Try.func9, Try.ntmps9
  go_wp2_with (first | ((with_reducible refine at_loadU rfl rfl ?_); (with_reducible refine wpList_loadG F rfl rfl rfl (by first | exact m0 | exact m1 | exact m2 | exact m3 | exact m4 | exact m5 | exact m6 | exact m7 | exact m8 | exact m9 | exact m10 | exact m11) Try.underlying38 rfl uinfoBowI rfl ?_)) | (go_at_call 29; ((with_reducible refine (HV.out _ F.below).mono ?_); rintro e w1 ⟨rfl, hl⟩; replace F := F.le hl; clear hl)))
  go_ret2
  exact ⟨rfl, F.below⟩
set_option maxRecDepth 100000 in
set_option maxHeartbeats 4000000 in
theorem i_SticksAt_yes (sp : Nat) (hsp : fits .f32 sp) (q : BwS) (B : Nat) (s t : Value) (w : World) (hs : (slT q.x q.nx).RdN w B s) (ht : (slT q.y q.ny).RdN w B t) (ok : q.Ok) (hv : (okBow q.x q.y q.nx q.ny (q.j : Nat) (q.k : Nat) 1 q.a q.b q.c q.p q.q q.m q.l) = true) :
    Calls Try.prog 9 #[.agg #[s, .int .i64 (q.j : Nat), t, .int .i64 (q.k : Nat), .int .i64 1, .float .f32 q.a, .float .f32 q.b, .float .f32 q.c, .float .f32 q.p, .float .f32 q.q, .float .f32 q.m, .float .f32 q.l], .float .f32 sp] w (Out_bi (FloatKind.f32.format.order (friV q.m (dB q sp)) 1065353216 == some .eq) 0 w) := by
  have HV := hid (fun (w' : World) (hl : le w w') => hv ▸ i_ValidBow q.x q.y q.nx q.ny (q.j : Nat) (q.k : Nat) 1 q.a q.b q.c q.p q.q q.m q.l B s t w' (hs.le hl) (ht.le hl) ⟨wf_nat (Nat.le_trans (Nat.le_of_lt ok.j1) ok.nx2), wf_nat (Nat.le_trans (Nat.le_of_lt ok.k1) ok.ny2)⟩ ⟨ok.fa, ok.fb, ok.fc, ok.fp, ok.fq, ok.fm, ok.fl⟩)
  have HN := hid (fun (w' : World) (hl : le w w') => i_newDrawn q.x q.y q.nx q.ny (q.j : Nat) (q.k : Nat) 1 q.a q.b q.c q.p q.q q.m q.l B s t w' ((slT_rds hs).le hl) ((slT_rds ht).le hl) ⟨ok.nx1, ok.nx2⟩ ⟨ok.ny1, ok.ny2⟩ ⟨by decide, by decide⟩)
  have OK := hid ok
  clear hs ht hv ok
  have F := (Frg.nil w).box 38 #[s, .int .i64 (q.j : Nat), t, .int .i64 (q.k : Nat), .int .i64 1, .float .f32 q.a, .float .f32 q.b, .float .f32 q.c, .float .f32 q.p, .float .f32 q.q, .float .f32 q.m, .float .f32 q.l]
  go_enter Try.func9, Try.ntmps9
  go_wp2_with (first | ((with_reducible refine at_loadU rfl rfl ?_); (with_reducible refine wpList_loadG F rfl rfl rfl (by first | exact m0 | exact m1 | exact m2 | exact m3 | exact m4 | exact m5 | exact m6 | exact m7 | exact m8 | exact m9 | exact m10 | exact m11) Try.underlying38 rfl uinfoBowI rfl ?_)) | (go_at_call 29; ((with_reducible refine (HV.out _ F.below).mono ?_); rintro e w1 ⟨rfl, hl⟩; replace F := F.le hl; clear hl)) | (go_at_call 30; ((with_reducible refine (HN.out _ F.below).mono ?_); rintro e w2 ⟨g, r, s1, t1, b0, d0, rfl, hRG, hRR, hO1, hO2, hne, l1, l2, ⟨l3, l4, l4'⟩, ⟨l5, l5', l5''⟩, l6, hl2⟩; have RG := hid hRG; have RR := hid hRR; have O1 := hid hO1; have O2 := hid hO2; have L2 := hid hl2; clear hRG hRR hO1 hO2 hl2)) | (go_at_call 31; ((with_reducible refine (i_meet q sp q.p q.q _ _ s1 t1 _ _ _ _ b0 (b0 + 1) d0 (d0 + 1) g r _ RG.out RR.out O1.out O2.out OK.out (by omega) (by omega) (by omega)).mono ?_); rintro e w3 ⟨u, v, d, rfl, hu, hv, hd, fu, fv, fd, hRR3, hC3⟩; have HD := hid hd; replace F := F.le (Below.trans L2.out (hC3.below (B := w1.heap.size) (fun k e => by have e' : k = r := e; omega) L2.out.size)); clear hu hv hd hRR3 hC3)) | ((with_reducible refine at_load rfl ?_); first | (with_reducible refine wpList_load1 F rfl rfl rfl (by first | exact m0 | exact m1 | exact m2 | exact m3 | exact m4 | exact m5 | exact m6 | exact m7 | exact m8 | exact m9 | exact m10 | exact m11) (f := 10) (v := .float .f32 q.m) rfl ukindFloat32 ?_)) | (go_at_call 32; ((with_reducible refine (i_FrictionAt q.m d _).mono ?_); rintro e w4 ⟨fr, rfl, hf, hl4⟩; replace F := F.le hl4; have HF := hid hf; clear hf hl4)))
  go_ret2
  have ho : FloatKind.f32.format.order fr 1065353216 = FloatKind.f32.format.order (friV q.m (dB q sp)) 1065353216 := order_congr (HF.out.trans ((friV_congr (HD.out.trans (can_dB q sp).symm)).trans (can_friV _ _).symm)) rfl
  exact ⟨ret_bi (congrArg (fun z => z == some Ordering.eq) ho), F.below⟩
set_option maxRecDepth 100000 in
set_option maxHeartbeats 4000000 in
theorem s_SticksAt_no (x y : Nat → Nat) (nx ny : Nat) (j k : Int) (fk : Int) (a b c p q : Nat) (m o : Nat) (sp : Nat) (B : Nat) (s t : Value) (w : World) (hs : (slT x nx).RdN w B s) (ht : (slT y ny).RdN w B t) (wf : (Lit.int .i64 j).wf = true ∧ (Lit.int .i64 k).wf = true) (hf : (fits .f32 a ∧ fits .f32 b ∧ fits .f32 c ∧ fits .f32 p ∧ fits .f32 q ∧ fits .f32 m ∧ fits .f32 o)) (hv : okBow x y nx ny j k fk a b c p q m o = false) :
    Calls Try.prog 7 #[.agg #[s, .int .i64 j, t, .int .i64 k, .int .i64 fk, .float .f32 a, .float .f32 b, .float .f32 c, .float .f32 p, .float .f32 q, .float .f32 m, .float .f32 o], .float .f32 sp] w (Out_bi false 1 w) := by
  have HV := hid (fun (g9 : Nat) (w' : World) (hl : le w w') (R : Row w' g9 38 #[s, .int .i64 j, t, .int .i64 k, .int .i64 fk, .float .f32 a, .float .f32 b, .float .f32 c, .float .f32 p, .float .f32 q, .float .f32 m, .float .f32 o]) => hv ▸ s_l05Bow x y nx ny j k fk a b c p q m o B s t w' g9 R (hs.le hl) (ht.le hl) wf hf)
  clear hs ht wf hf hv
  have F := (Frg.nil w).box 38 #[s, .int .i64 j, t, .int .i64 k, .int .i64 fk, .float .f32 a, .float .f32 b, .float .f32 c, .float .f32 p, .float .f32 q, .float .f32 m, .float .f32 o]
  go_enter Try.func7, Try.ntmps7
  go_wp2_with (first | ((with_reducible refine at_loadU rfl rfl ?_); (with_reducible refine wpList_loadG F rfl rfl rfl (by first | exact m0 | exact m1 | exact m2 | exact m3 | exact m4 | exact m5 | exact m6 | exact m7 | exact m8 | exact m9 | exact m10 | exact m11) Try.underlying38 rfl uinfoBowI rfl ?_)) | (go_at_call 23; ((with_reducible refine (HV.out _ _ F.below (F.row m0)).mono ?_); rintro e w1 ⟨rfl, hl⟩; replace F := F.le hl; clear hl)))
  go_ret2
  exact ⟨rfl, F.below⟩
set_option maxRecDepth 100000 in
set_option maxHeartbeats 4000000 in
theorem s_SticksAt_yes (sp : Nat) (hsp : fits .f32 sp) (q : BwS) (B : Nat) (s t : Value) (w : World) (hs : (slT q.x q.nx).RdN w B s) (ht : (slT q.y q.ny).RdN w B t) (ok : q.Ok) (hv : (okBow q.x q.y q.nx q.ny (q.j : Nat) (q.k : Nat) 1 q.a q.b q.c q.p q.q q.m q.l) = true) :
    Calls Try.prog 7 #[.agg #[s, .int .i64 (q.j : Nat), t, .int .i64 (q.k : Nat), .int .i64 1, .float .f32 q.a, .float .f32 q.b, .float .f32 q.c, .float .f32 q.p, .float .f32 q.q, .float .f32 q.m, .float .f32 q.l], .float .f32 sp] w (Out_bi (FloatKind.f32.format.order (friV q.m (dB q sp)) 1065353216 == some .eq) 0 w) := by
  have HV := hid (fun (g9 : Nat) (w' : World) (hl : le w w') (R : Row w' g9 38 #[s, .int .i64 (q.j : Nat), t, .int .i64 (q.k : Nat), .int .i64 1, .float .f32 q.a, .float .f32 q.b, .float .f32 q.c, .float .f32 q.p, .float .f32 q.q, .float .f32 q.m, .float .f32 q.l]) => hv ▸ s_l05Bow q.x q.y q.nx q.ny (q.j : Nat) (q.k : Nat) 1 q.a q.b q.c q.p q.q q.m q.l B s t w' g9 R (hs.le hl) (ht.le hl) ⟨wf_nat (Nat.le_trans (Nat.le_of_lt ok.j1) ok.nx2), wf_nat (Nat.le_trans (Nat.le_of_lt ok.k1) ok.ny2)⟩ ⟨ok.fa, ok.fb, ok.fc, ok.fp, ok.fq, ok.fm, ok.fl⟩)
  have HC := hid (fun (g9 : Nat) (w' : World) (hl : le w w') (R : Row w' g9 38 #[s, .int .i64 (q.j : Nat), t, .int .i64 (q.k : Nat), .int .i64 1, .float .f32 q.a, .float .f32 q.b, .float .f32 q.c, .float .f32 q.p, .float .f32 q.q, .float .f32 q.m, .float .f32 q.l]) => s_l05CopyBow q.x q.y q.nx q.ny (q.j : Nat) (q.k : Nat) 1 q.a q.b q.c q.p q.q q.m q.l B s t w' g9 R ((slT_rds hs).le hl) ((slT_rds ht).le hl) ⟨ok.nx1, ok.nx2⟩ ⟨ok.ny1, ok.ny2⟩)
  have OK := hid ok
  clear hs ht hv ok
  have F := (Frg.nil w).box 38 #[s, .int .i64 (q.j : Nat), t, .int .i64 (q.k : Nat), .int .i64 1, .float .f32 q.a, .float .f32 q.b, .float .f32 q.c, .float .f32 q.p, .float .f32 q.q, .float .f32 q.m, .float .f32 q.l]
  go_enter Try.func7, Try.ntmps7
  go_wp2_with (first | (go_at_call 23; ((with_reducible refine (HV.out _ _ F.below (F.row m0)).mono ?_); rintro e w1 ⟨rfl, hl⟩; replace F := F.le hl; clear hl)) | (go_at_call 24; ((with_reducible refine (HC.out _ _ F.below (F.row m0)).mono ?_); rintro e w2 ⟨s1, t1, rfl, h2, hl⟩; have os := hid (two_one h2).1; have ot := hid (two_one h2).2; replace F := F.two hl h2; clear h2 hl)) | (refine wpList_storeG F rfl rfl rfl rfl rfl uinfoBowI rfl (by simp only [List.all_toArray', List.all_cons, List.all_nil, os.out, ot.out]; rfl) ?_; clear F; intro W3 F zW))
  obtain ⟨b0, d0, hO1, hO2, hne, z1, z2, z3, z4⟩ := (F.facts (twF w1.heap.size w2.heap.size q.x q.nx q.y q.ny s1 t1) m1).2.2
  have HM := hid (s_l05Draw q.x q.y q.nx q.ny q.j q.k q.a q.b q.c q.p q.q q.m q.l sp s1 t1 b0 (b0 + 1) d0 (d0 + 1) w2.heap.size _ (F.row m0) hO1 hO2 OK.out.j1 OK.out.k1 OK.out.nx2 OK.out.ny2 (by omega) OK.out.f OK.out.fp)
  clear hO1 hO2
  go_wp2_with (first | (go_at_call 25; ((with_reducible refine HM.out.mono ?_); rintro e w3 ⟨u, v, d, rfl, hu, hv, hd, fu, fv, fd, hR3, hC3⟩; have HD : Hid (can .f32 d = dB q sp) := hd; replace F := F.cut2 hC3 (fun i e => by have e' : i = w2.heap.size := e; simp only [twF]; omega); clear hu hv hd hR3 hC3)) | ((with_reducible refine at_load rfl ?_); first | (with_reducible refine wpList_load1 F rfl rfl rfl (by first | exact m0 | exact m1 | exact m2 | exact m3 | exact m4 | exact m5 | exact m6 | exact m7 | exact m8 | exact m9 | exact m10 | exact m11) (f := 10) (v := .float .f32 q.m) rfl ukindFloat32 ?_)) | (go_at_call 26; ((with_reducible refine (s_l05Friction q.m d _).mono ?_); rintro e w4 ⟨fr, rfl, hf, hl4⟩; replace F := F.le hl4; have HF := hid hf; clear hf hl4)))
  go_ret2
  have ho : FloatKind.f32.format.order fr 1065353216 = FloatKind.f32.format.order (friV q.m (dB q sp)) 1065353216 := order_congr (HF.out.trans ((friV_congr (HD.out.trans (can_dB q sp).symm)).trans (can_friV _ _).symm)) rfl
  exact ⟨ret_bi (congrArg (fun z => z == some Ordering.eq) ho), F.below⟩
theorem both_SticksAt (cs : List CD) (sp : Nat) (h : HasShL shBow cs) (hsp : fits .f32 sp) : ∃ (ar0 : Bool) (ar1 : Int), (∀ (w : World) (B : Nat) (u : List Value), RdLN w B (cs.map CD.cp) u → Calls Try.prog 7 #[.agg u.toArray, .float .f32 sp] w (Out_bi ar0 ar1 w)) ∧ (∀ (w : World) (B : Nat) (u : List Value), RdLN w B (cs.map CD.cp) u → Calls Try.prog 9 #[.agg u.toArray, .float .f32 sp] w (Out_bi ar0 ar1 w)) := by
  obtain ⟨xs, ys, nx, ny, j, k, fk, a, b, c, p, q, m, o, rfl, hx, hy⟩ := bow_data h
  cases hv : okBow (fun i => (xs i).fx) (fun i => (ys i).fx) nx ny j k fk a b c p q m o
  · refine ⟨false, 1, fun w B u hu => ?_, fun w B u hu => ?_⟩
    · obtain ⟨s, t, rfl, hs, ht, wf, hf⟩ := bow_open hu hx hy
      exact s_SticksAt_no (fun i => (xs i).fx) (fun i => (ys i).fx) nx ny j k fk a b c p q m o sp B s t w hs ht wf hf hv
    · obtain ⟨s, t, rfl, hs, ht, wf, hf⟩ := bow_open hu hx hy
      exact i_SticksAt_no (fun i => (xs i).fx) (fun i => (ys i).fx) nx ny j k fk a b c p q m o sp B s t w hs ht wf hf hv
  · obtain ⟨x1, x2, y1, y2, ⟨j, rfl, ej⟩, ⟨k, rfl, ek⟩, rfl, hk⟩ := okBow_j hv
    let Q : BwS := ⟨fun i => (xs i).fx, fun i => (ys i).fx, nx, ny, j, k, a, b, c, p, q, m, o⟩
    refine ⟨(FloatKind.f32.format.order (friV Q.m (dB Q sp)) 1065353216 == some .eq), 0, fun w B u hu => ?_, fun w B u hu => ?_⟩
    · obtain ⟨s, t, rfl, hs, ht, wf, hf⟩ := bow_open hu hx hy
      exact s_SticksAt_yes sp hsp Q B s t w hs ht ⟨x1, x2, y1, y2, ej, ek, hk, hf.1, hf.2.1, hf.2.2.1, hf.2.2.2.1, hf.2.2.2.2.1, hf.2.2.2.2.2.1, hf.2.2.2.2.2.2⟩ hv
    · obtain ⟨s, t, rfl, hs, ht, wf, hf⟩ := bow_open hu hx hy
      exact i_SticksAt_yes sp hsp Q B s t w hs ht ⟨x1, x2, y1, y2, ej, ek, hk, hf.1, hf.2.1, hf.2.2.1, hf.2.2.2.1, hf.2.2.2.2.1, hf.2.2.2.2.2.1, hf.2.2.2.2.2.2⟩ hv
end Go.Proofs.Ythjdklolbkhbfaa

/- The walk of 'FnExactStepBow'. -/
namespace Go.Proofs.Ythjdklolbkhbfaa.fnExactStepBow
open Go.RowKit Go.Fk
set_option maxRecDepth 100000 in
set_option maxHeartbeats 4000000 in
theorem core (cs0 : List CD) (vs0 : List Value) (a1 : Nat) (ar0 : List CD) (ar1 : Nat) (ar2 : Int) (w : World) (z0 : RdL w w.heap.size cs0 vs0) (k0 : ShOkL shBow cs0) (hz0 : szL cs0 ≤ 1048576) (kr : ShOkL shBow ar0) (hzr : szL ar0 ≤ 1048576)
    (hS : ∀ (w : World) (B0 : Nat) (u0 : List Value), RdLN w B0 (cs0.map CD.cp) u0 → Calls Try.prog 11 #[.agg u0.toArray, .float .f32 a1] w (OutV_Tfi ar0 ar1 ar2 w))
    (hI : ∀ (w : World) (B0 : Nat) (u0 : List Value), RdLN w B0 (cs0.map CD.cp) u0 → Calls Try.prog 12 #[.agg u0.toArray, .float .f32 a1] w (OutV_Tfi ar0 ar1 ar2 w)) :
    Calls Try.prog 4 #[.agg vs0.toArray, .float .f32 a1] w fun e w' => e = .returned (.bool true) ∧ Below w.heap.size w w' := by
  have Z0 := hid z0; have K0 := hid k0; have hl0 : Hid (vs0.length = 12) := z0.1.trans k0.1; have hma0 : mtL (cs0.map CD.cp) ≤ 1048576 := (mtL_cp _).trans (mtU_Bow k0) ▸ hz0; clear z0 k0
  have hm0 : ¬ (1048576 : Int) - (szL cs0 : Nat) < 0 := by omega
  have hmr : mtL ar0 ≤ 1048576 := mtU_Bow kr ▸ hzr
  have KR := hid kr; clear kr
  obtain ⟨na0, hna0⟩ : ∃ a : Nat, a = mtL (cs0.map CD.cp) := ⟨_, rfl⟩
  obtain ⟨nb0, hnb0⟩ : ∃ a : Nat, a = mtL ar0 := ⟨_, rfl⟩
  rw [← hna0] at hma0
  rw [← hnb0] at hmr
  have hq : decide ((1 : Int) + (na0 : Int) < 0) = false := by simp; omega
  have hq2 : ¬ ((1 : Int) + (nb0 : Int) < 0) := by omega
  have HN0 := hid hna0; clear hna0
  have HB0 := hid hnb0; clear hnb0
  have HS := hid hS; have HI := hid hI; clear hS hI
  have F := Frg.nil w
  replace F := F.box 31 vs0.toArray
  go_enter Try.func4, Try.ntmps4
  go_wp2_with (first | (((with_reducible refine listN F ?_); clear F; intro wN F)) | ((with_reducible refine at_loadU rfl rfl ?_); first | (with_reducible refine wpList_loadG F rfl rfl rfl (by first | exact m0 | exact m1 | exact m2 | exact m3 | exact m4 | exact m5 | exact m6 | exact m7 | exact m8 | exact m9 | exact m10 | exact m11 | exact m12 | exact m13 | exact m14 | exact m15 | exact m16 | exact m17) Try.underlying38 rfl uinfoBowI (by simp only [List.size_toArray]; first | exact hl0.out | exact huA0.out | exact huB0.out | exact huC0.out | exact huS.out | exact huI.out | exact huH.out) ?_) | (with_reducible refine wpList_loadG F rfl rfl rfl (by first | exact m0 | exact m1 | exact m2 | exact m3 | exact m4 | exact m5 | exact m6 | exact m7 | exact m8 | exact m9 | exact m10 | exact m11 | exact m12 | exact m13 | exact m14 | exact m15 | exact m16 | exact m17) Try.underlying31 rfl uinfoBowL (by simp only [List.size_toArray]; first | exact hl0.out | exact huA0.out | exact huB0.out | exact huC0.out | exact huS.out | exact huI.out | exact huH.out) ?_)) | ((with_reducible refine at_loadV rfl rfl ?_); first | (with_reducible refine wpList_loadGG F rfl rfl (by first | exact m0 | exact m1 | exact m2 | exact m3 | exact m4 | exact m5 | exact m6 | exact m7 | exact m8 | exact m9 | exact m10 | exact m11 | exact m12 | exact m13 | exact m14 | exact m15 | exact m16 | exact m17) Try.underlying38 rfl uinfoBowI (by simp only [List.size_toArray]; first | exact hl0.out | exact huA0.out | exact huB0.out | exact huC0.out | exact huS.out | exact huI.out | exact huH.out) (by kernel_rfl) ?_)) | (go_at_call 6; ((with_reducible refine (szU_Bow _ cs0 vs0 (1048576 : Int) ((1048576 : Int) - (szL cs0 : Nat)) _ (Z0.out.le F.below) K0.out (by omega) (by omega) (lessBy_pos hm0)).mono ?_); rintro e w1 ⟨rfl, hb1⟩; replace F := F.le hb1)) | (go_at_call 8; ((with_reducible refine (toU_Bow _ cs0 vs0 _ (Z0.out.le F.below) K0.out hz0).mono ?_); rintro e w1 ⟨usA0, rfl, ho, hl⟩; have huA0 : Hid (usA0.length = 12) := ho.1.trans ((List.length_map ..).trans K0.out.1); have hoA0 := hid ho.all_one; replace F := F.lay1 hl ho; clear ho hl)))
  first | ((with_reducible refine callAt0 F ?_); clear F; intro wN F) | ((with_reducible refine callAtN F ?_); clear F; intro wN F)
  refine (HS.out _ _ _ (F.layN (by first | exact m0 | exact m1 | exact m2 | exact m3 | exact m4 | exact m5 | exact m6 | exact m7 | exact m8 | exact m9 | exact m10 | exact m11 | exact m12 | exact m13 | exact m14 | exact m15 | exact m16 | exact m17))).mono ?_
  rintro e wS ⟨usS, vS1, rfl, oTS, hlS, cS1⟩
  replace cS1 := hid cS1
  have huS : Hid (usS.length = 12) := oTS.1.trans KR.out.1
  have hoS := hid oTS.all_one
  replace F := F.lay1 hlS oTS
  clear hlS oTS
  go_wp2_with (first | (((with_reducible refine listN F ?_); clear F; intro wN F)) | ((with_reducible refine at_store rfl ?_); first | (refine wpList_storeG F rfl rfl rfl rfl rfl (by simp only [List.size_toArray]; rw [huB0.out]; exact uinfoBowI) (by simp only [List.size_toArray]; rw [huB0.out]; rfl) (by exact hoB0.out) ?_; clear F; intro W F zW; clear zW) | (refine wpList_storeG F rfl rfl rfl rfl rfl (by simp only [List.size_toArray]; rw [huS.out]; exact uinfoBowI) (by simp only [List.size_toArray]; rw [huS.out]; rfl) (by exact hoS.out) ?_; clear F; intro W F zW; clear zW) | (refine wpList_storeG F rfl rfl rfl rfl rfl (by simp only [List.size_toArray]; rw [huI.out]; exact uinfoBowI) (by simp only [List.size_toArray]; rw [huI.out]; rfl) (by exact hoI.out) ?_; clear F; intro W F zW; clear zW) | (refine wpList_storeG F rfl rfl rfl rfl rfl (by simp only [List.size_toArray]; rw [huH.out]; exact uinfoBowI) (by simp only [List.size_toArray]; rw [huH.out]; rfl) (by exact hoH.out) ?_; clear F; intro W F zW; clear zW) | (refine wpList_storeG F rfl rfl rfl rfl rfl (by simp only [List.size_toArray]; rw [huA0.out]; exact uinfoBowI) (by simp only [List.size_toArray]; rw [huA0.out]; rfl) (by exact hoA0.out) ?_; clear F; intro W F zW; clear zW)) | ((with_reducible refine at_loadU rfl rfl ?_); first | (with_reducible refine wpList_loadG F rfl rfl rfl (by first | exact m0 | exact m1 | exact m2 | exact m3 | exact m4 | exact m5 | exact m6 | exact m7 | exact m8 | exact m9 | exact m10 | exact m11 | exact m12 | exact m13 | exact m14 | exact m15 | exact m16 | exact m17) Try.underlying38 rfl uinfoBowI (by simp only [List.size_toArray]; first | exact hl0.out | exact huA0.out | exact huB0.out | exact huC0.out | exact huS.out | exact huI.out | exact huH.out) ?_) | (with_reducible refine wpList_loadG F rfl rfl rfl (by first | exact m0 | exact m1 | exact m2 | exact m3 | exact m4 | exact m5 | exact m6 | exact m7 | exact m8 | exact m9 | exact m10 | exact m11 | exact m12 | exact m13 | exact m14 | exact m15 | exact m16 | exact m17) Try.underlying31 rfl uinfoBowL (by simp only [List.size_toArray]; first | exact hl0.out | exact huA0.out | exact huB0.out | exact huC0.out | exact huS.out | exact huI.out | exact huH.out) ?_)) | ((with_reducible refine at_loadV rfl rfl ?_); first | (with_reducible refine wpList_loadGG F rfl rfl (by first | exact m0 | exact m1 | exact m2 | exact m3 | exact m4 | exact m5 | exact m6 | exact m7 | exact m8 | exact m9 | exact m10 | exact m11 | exact m12 | exact m13 | exact m14 | exact m15 | exact m16 | exact m17) Try.underlying38 rfl uinfoBowI (by simp only [List.size_toArray]; first | exact hl0.out | exact huA0.out | exact huB0.out | exact huC0.out | exact huS.out | exact huI.out | exact huH.out) (by kernel_rfl) ?_)) | (go_at_call 8; ((with_reducible refine (toU_Bow _ cs0 vs0 _ (Z0.out.le F.below) K0.out hz0).mono ?_); rintro e w1 ⟨usB0, rfl, ho, hl⟩; have huB0 : Hid (usB0.length = 12) := ho.1.trans ((List.length_map ..).trans K0.out.1); have hoB0 := hid ho.all_one; replace F := F.lay1 hl ho; clear ho hl)))
  first | ((with_reducible refine callAt0 F ?_); clear F; intro wN F) | ((with_reducible refine callAtN F ?_); clear F; intro wN F)
  refine (HI.out _ _ _ (F.layN (by first | exact m0 | exact m1 | exact m2 | exact m3 | exact m4 | exact m5 | exact m6 | exact m7 | exact m8 | exact m9 | exact m10 | exact m11 | exact m12 | exact m13 | exact m14 | exact m15 | exact m16 | exact m17))).mono ?_
  rintro e wI ⟨usI, vI1, rfl, oTI, hlI, cI1⟩
  replace cI1 := hid cI1
  have huI : Hid (usI.length = 12) := oTI.1.trans KR.out.1
  have hoI := hid oTI.all_one
  replace F := F.lay1 hlI oTI
  clear hlI oTI
  go_wp2_with (first | (((with_reducible refine listN F ?_); clear F; intro wN F)) | ((with_reducible refine at_store rfl ?_); first | (refine wpList_storeG F rfl rfl rfl rfl rfl (by simp only [List.size_toArray]; rw [huB0.out]; exact uinfoBowI) (by simp only [List.size_toArray]; rw [huB0.out]; rfl) (by exact hoB0.out) ?_; clear F; intro W F zW; clear zW) | (refine wpList_storeG F rfl rfl rfl rfl rfl (by simp only [List.size_toArray]; rw [huS.out]; exact uinfoBowI) (by simp only [List.size_toArray]; rw [huS.out]; rfl) (by exact hoS.out) ?_; clear F; intro W F zW; clear zW) | (refine wpList_storeG F rfl rfl rfl rfl rfl (by simp only [List.size_toArray]; rw [huI.out]; exact uinfoBowI) (by simp only [List.size_toArray]; rw [huI.out]; rfl) (by exact hoI.out) ?_; clear F; intro W F zW; clear zW) | (refine wpList_storeG F rfl rfl rfl rfl rfl (by simp only [List.size_toArray]; rw [huH.out]; exact uinfoBowI) (by simp only [List.size_toArray]; rw [huH.out]; rfl) (by exact hoH.out) ?_; clear F; intro W F zW; clear zW) | (refine wpList_storeG F rfl rfl rfl rfl rfl (by simp only [List.size_toArray]; rw [huA0.out]; exact uinfoBowI) (by simp only [List.size_toArray]; rw [huA0.out]; rfl) (by exact hoA0.out) ?_; clear F; intro W F zW; clear zW)) | ((with_reducible refine at_loadU rfl rfl ?_); first | (with_reducible refine wpList_loadG F rfl rfl rfl (by first | exact m0 | exact m1 | exact m2 | exact m3 | exact m4 | exact m5 | exact m6 | exact m7 | exact m8 | exact m9 | exact m10 | exact m11 | exact m12 | exact m13 | exact m14 | exact m15 | exact m16 | exact m17) Try.underlying38 rfl uinfoBowI (by simp only [List.size_toArray]; first | exact hl0.out | exact huA0.out | exact huB0.out | exact huC0.out | exact huS.out | exact huI.out | exact huH.out) ?_) | (with_reducible refine wpList_loadG F rfl rfl rfl (by first | exact m0 | exact m1 | exact m2 | exact m3 | exact m4 | exact m5 | exact m6 | exact m7 | exact m8 | exact m9 | exact m10 | exact m11 | exact m12 | exact m13 | exact m14 | exact m15 | exact m16 | exact m17) Try.underlying31 rfl uinfoBowL (by simp only [List.size_toArray]; first | exact hl0.out | exact huA0.out | exact huB0.out | exact huC0.out | exact huS.out | exact huI.out | exact huH.out) ?_)) | ((with_reducible refine at_loadV rfl rfl ?_); first | (with_reducible refine wpList_loadGG F rfl rfl (by first | exact m0 | exact m1 | exact m2 | exact m3 | exact m4 | exact m5 | exact m6 | exact m7 | exact m8 | exact m9 | exact m10 | exact m11 | exact m12 | exact m13 | exact m14 | exact m15 | exact m16 | exact m17) Try.underlying38 rfl uinfoBowI (by simp only [List.size_toArray]; first | exact hl0.out | exact huA0.out | exact huB0.out | exact huC0.out | exact huS.out | exact huI.out | exact huH.out) (by kernel_rfl) ?_)) | (go_at_call 10; ((with_reducible refine (eqU_Bow _ _ ar0 _ _ _ (F.layR (by first | exact m0 | exact m1 | exact m2 | exact m3 | exact m4 | exact m5 | exact m6 | exact m7 | exact m8 | exact m9 | exact m10 | exact m11 | exact m12 | exact m13 | exact m14 | exact m15 | exact m16 | exact m17)) (F.layR (by first | exact m0 | exact m1 | exact m2 | exact m3 | exact m4 | exact m5 | exact m6 | exact m7 | exact m8 | exact m9 | exact m10 | exact m11 | exact m12 | exact m13 | exact m14 | exact m15 | exact m16 | exact m17)) KR.out hzr).mono ?_); rintro e w7 ⟨rfl, hb7⟩; replace F := F.le hb7)) | ((with_reducible refine at_convert rfl ?_); first | (with_reducible refine wpList_widen rfl rfl rfl Try.underlying25 Try.underlying45 ?_; intro s1 n1 h1 f1) | (with_reducible refine wpList_widenG rfl rfl Try.underlying25 Try.underlying45 (by kernel_rfl) ?_; intro s1 n1 h1 f1)) | (go_at_call 13; ((with_reducible refine (sameFloat_yes _ _ _ (by exact ((Hid.out ‹Hid (can .f64 _ = can .f64 (widen vI1))›).trans ((congrArg (can .f64) (widen_congr (cI1.out.trans cS1.out.symm))).trans (Hid.out ‹Hid (can .f64 _ = can .f64 (widen vS1))›).symm)))).mono ?_); rintro e w7 ⟨rfl, dq7, rfl⟩; skip)))
  first | (refine wpAt0 F ?_; clear F; intro wN F) | (refine wpAtN F ?_; clear F; intro wN F)
  refine region_freeD (E := leX) (fun f _ w v => if f = 8 then ∃ (us : List Value) (B : Nat), v = .agg us.toArray ∧ RdL w B (cs0.map CD.cp) us else v = .bool true) (by kernel_rfl) (by kernel_rfl) ?_
  refine wpFreeD_loadG F rfl rfl rfl rfl (by first | exact m0 | exact m1 | exact m2 | exact m3 | exact m4 | exact m5 | exact m6 | exact m7 | exact m8 | exact m9 | exact m10 | exact m11 | exact m12 | exact m13 | exact m14 | exact m15 | exact m16 | exact m17) Try.underlying38 rfl uinfoBowI (by simp only [List.size_toArray]; exact huB0.out) ?_
  simp only [Act.put, List.setIfInBounds_toArray, List.set_cons_succ, List.set_cons_zero]
  refine wpFreeD_loadG F rfl rfl rfl rfl (by first | exact m0 | exact m1 | exact m2 | exact m3 | exact m4 | exact m5 | exact m6 | exact m7 | exact m8 | exact m9 | exact m10 | exact m11 | exact m12 | exact m13 | exact m14 | exact m15 | exact m16 | exact m17) Try.underlying31 rfl uinfoBowL (by simp only [List.size_toArray]; exact hl0.out) ?_
  simp only [Act.put, List.setIfInBounds_toArray, List.set_cons_succ, List.set_cons_zero]
  refine wpFreeD_callB rfl rfl Try.func8 (by kernel_rfl) (by kernel_rfl) (args := #[.agg vs0.toArray]) (by simp [Act.eval]) (fun v w1 w2 hw hv => by simp only [if_true] at hv ⊢; obtain ⟨u, B, h1, h2⟩ := hv; exact ⟨u, B, h1, h2.le hw⟩) (fun w1 hw1 _ => (toU_Bow _ cs0 vs0 w1 (Z0.out.le (le_trans (F.drewN _).below hw1)) K0.out hz0).mono ?_) ?_
  · rintro e w2 ⟨u, rfl, ho, hl⟩
    exact ⟨_, rfl, hl, by simp only [if_true]; exact ⟨u, _, rfl, ho.rd (fun _ hj => hj.2)⟩⟩
  rintro v ⟨_, _, _, hv⟩
  simp only [if_true] at hv
  obtain ⟨u0, Bu0, rfl, _⟩ := hv
  simp only [Act.put, List.setIfInBounds_toArray, List.set_cons_succ, List.set_cons_zero]
  refine wpFreeD_callB rfl rfl Try.func10 (by kernel_rfl) (by kernel_rfl) (args := #[.agg usB0.toArray, .agg u0.toArray]) (by simp [Act.eval]) (fun v w1 w2 hw hv => by simp only [show ¬ (10 = 8) by decide, if_false] at hv ⊢; exact hv) (fun w1 hw1 hbe => ?_) ?_
  · have hk := (hbe ⟨2, Ground.data⟩ (by simp) (by kernel_rfl)).2 rfl
    simp only [if_true] at hk
    obtain ⟨u', B', he, hr⟩ := hk
    obtain rfl : u0 = u' := by simpa using he
    refine (eqU_Bow _ _ (cs0.map CD.cp) _ _ _ (((F.drewN 1).le hw1).layR (by first | exact m0 | exact m1 | exact m2 | exact m3 | exact m4 | exact m5 | exact m6 | exact m7 | exact m8 | exact m9 | exact m10 | exact m11 | exact m12 | exact m13 | exact m14 | exact m15 | exact m16 | exact m17)) hr K0.out.cp (by rw [szL_cp]; exact hz0)).mono ?_
    rintro e w2 ⟨rfl, hl⟩
    exact ⟨_, rfl, hl, by simp only [show ¬ (10 = 8) by decide, if_false]⟩
  rintro v ⟨_, _, _, hv⟩
  simp only [show ¬ (10 = 8) by decide, if_false] at hv
  subst hv
  simp only [Act.put, List.setIfInBounds_toArray, List.set_cons_succ, List.set_cons_zero]
  refine wpFreeD_one rfl (.bool false) (fun w1 _ => by kernel_rfl) ?_
  simp only [Act.put, List.setIfInBounds_toArray, List.set_cons_succ, List.set_cons_zero]
  refine wpFreeD_nil (fun wR hwR _ => ?_)
  replace F := (F.drewN 1).le hwR
  clear hwR
  go_wp2_with (first | (((with_reducible refine listN F ?_); clear F; intro wN F)) | ((with_reducible refine at_loadU rfl rfl ?_); first | (with_reducible refine wpList_loadG F rfl rfl rfl (by first | exact m0 | exact m1 | exact m2 | exact m3 | exact m4 | exact m5 | exact m6 | exact m7 | exact m8 | exact m9 | exact m10 | exact m11 | exact m12 | exact m13 | exact m14 | exact m15 | exact m16 | exact m17) Try.underlying38 rfl uinfoBowI (by simp only [List.size_toArray]; first | exact hl0.out | exact huA0.out | exact huB0.out | exact huC0.out | exact huS.out | exact huI.out | exact huH.out) ?_) | (with_reducible refine wpList_loadG F rfl rfl rfl (by first | exact m0 | exact m1 | exact m2 | exact m3 | exact m4 | exact m5 | exact m6 | exact m7 | exact m8 | exact m9 | exact m10 | exact m11 | exact m12 | exact m13 | exact m14 | exact m15 | exact m16 | exact m17) Try.underlying31 rfl uinfoBowL (by simp only [List.size_toArray]; first | exact hl0.out | exact huA0.out | exact huB0.out | exact huC0.out | exact huS.out | exact huI.out | exact huH.out) ?_)) | ((with_reducible refine at_loadV rfl rfl ?_); first | (with_reducible refine wpList_loadGG F rfl rfl (by first | exact m0 | exact m1 | exact m2 | exact m3 | exact m4 | exact m5 | exact m6 | exact m7 | exact m8 | exact m9 | exact m10 | exact m11 | exact m12 | exact m13 | exact m14 | exact m15 | exact m16 | exact m17) Try.underlying38 rfl uinfoBowI (by simp only [List.size_toArray]; first | exact hl0.out | exact huA0.out | exact huB0.out | exact huC0.out | exact huS.out | exact huI.out | exact huH.out) (by kernel_rfl) ?_)))
  first | ((with_reducible refine callAt0 F ?_); clear F; intro wN F) | ((with_reducible refine callAtN F ?_); clear F; intro wN F)
  refine (markU_Bow _ _ _ (1 : Int) _ K0.out.cp (by rw [← HN0.out]; exact hma0) (by omega) (by rw [← HN0.out]; omega) (F.lay (by first | exact m0 | exact m1 | exact m2 | exact m3 | exact m4 | exact m5 | exact m6 | exact m7 | exact m8 | exact m9 | exact m10 | exact m11 | exact m12 | exact m13 | exact m14 | exact m15 | exact m16 | exact m17))).mono ?_
  rintro e w4 ⟨rfl, hR, hU⟩
  rw [← HN0.out]
  (first | replace F := F.markAt 0 hR hU rfl | replace F := F.markAt 1 hR hU rfl | replace F := F.markAt 2 hR hU rfl | replace F := F.markAt 3 hR hU rfl | replace F := F.markAt 4 hR hU rfl | replace F := F.markAt 5 hR hU rfl | replace F := F.markAt 6 hR hU rfl | replace F := F.markAt 7 hR hU rfl | replace F := F.markAt 8 hR hU rfl | replace F := F.markAt 9 hR hU rfl | replace F := F.markAt 10 hR hU rfl | replace F := F.markAt 11 hR hU rfl | replace F := F.markAt 12 hR hU rfl | replace F := F.markAt 13 hR hU rfl | replace F := F.markAt 14 hR hU rfl | replace F := F.markAt 15 hR hU rfl | replace F := F.markAt 16 hR hU rfl | replace F := F.markAt 17 hR hU rfl)
  simp only [List.set_cons_succ, List.set_cons_zero] at F
  clear hR hU
  go_wp2_with (first | (((with_reducible refine listN F ?_); clear F; intro wN F)) | ((with_reducible refine at_store rfl ?_); first | (refine wpList_storeG F rfl rfl rfl rfl rfl (by simp only [List.size_toArray]; rw [huB0.out]; exact uinfoBowI) (by simp only [List.size_toArray]; rw [huB0.out]; rfl) (by exact hoB0.out) ?_; clear F; intro W F zW; clear zW) | (refine wpList_storeG F rfl rfl rfl rfl rfl (by simp only [List.size_toArray]; rw [huS.out]; exact uinfoBowI) (by simp only [List.size_toArray]; rw [huS.out]; rfl) (by exact hoS.out) ?_; clear F; intro W F zW; clear zW) | (refine wpList_storeG F rfl rfl rfl rfl rfl (by simp only [List.size_toArray]; rw [huI.out]; exact uinfoBowI) (by simp only [List.size_toArray]; rw [huI.out]; rfl) (by exact hoI.out) ?_; clear F; intro W F zW; clear zW) | (refine wpList_storeG F rfl rfl rfl rfl rfl (by simp only [List.size_toArray]; rw [huH.out]; exact uinfoBowI) (by simp only [List.size_toArray]; rw [huH.out]; rfl) (by exact hoH.out) ?_; clear F; intro W F zW; clear zW) | (refine wpList_storeG F rfl rfl rfl rfl rfl (by simp only [List.size_toArray]; rw [huA0.out]; exact uinfoBowI) (by simp only [List.size_toArray]; rw [huA0.out]; rfl) (by exact hoA0.out) ?_; clear F; intro W F zW; clear zW)) | ((with_reducible refine at_loadU rfl rfl ?_); first | (with_reducible refine wpList_loadG F rfl rfl rfl (by first | exact m0 | exact m1 | exact m2 | exact m3 | exact m4 | exact m5 | exact m6 | exact m7 | exact m8 | exact m9 | exact m10 | exact m11 | exact m12 | exact m13 | exact m14 | exact m15 | exact m16 | exact m17) Try.underlying38 rfl uinfoBowI (by simp only [List.size_toArray]; first | exact hl0.out | exact huA0.out | exact huB0.out | exact huC0.out | exact huS.out | exact huI.out | exact huH.out) ?_) | (with_reducible refine wpList_loadG F rfl rfl rfl (by first | exact m0 | exact m1 | exact m2 | exact m3 | exact m4 | exact m5 | exact m6 | exact m7 | exact m8 | exact m9 | exact m10 | exact m11 | exact m12 | exact m13 | exact m14 | exact m15 | exact m16 | exact m17) Try.underlying31 rfl uinfoBowL (by simp only [List.size_toArray]; first | exact hl0.out | exact huA0.out | exact huB0.out | exact huC0.out | exact huS.out | exact huI.out | exact huH.out) ?_)) | ((with_reducible refine at_loadV rfl rfl ?_); first | (with_reducible refine wpList_loadGG F rfl rfl (by first | exact m0 | exact m1 | exact m2 | exact m3 | exact m4 | exact m5 | exact m6 | exact m7 | exact m8 | exact m9 | exact m10 | exact m11 | exact m12 | exact m13 | exact m14 | exact m15 | exact m16 | exact m17) Try.underlying38 rfl uinfoBowI (by simp only [List.size_toArray]; first | exact hl0.out | exact huA0.out | exact huB0.out | exact huC0.out | exact huS.out | exact huI.out | exact huH.out) (by kernel_rfl) ?_)) | (go_at_call 10; ((with_reducible refine (eqU_Bow _ _ ar0 _ _ _ (F.layR (by first | exact m0 | exact m1 | exact m2 | exact m3 | exact m4 | exact m5 | exact m6 | exact m7 | exact m8 | exact m9 | exact m10 | exact m11 | exact m12 | exact m13 | exact m14 | exact m15 | exact m16 | exact m17)) (F.layR (by first | exact m0 | exact m1 | exact m2 | exact m3 | exact m4 | exact m5 | exact m6 | exact m7 | exact m8 | exact m9 | exact m10 | exact m11 | exact m12 | exact m13 | exact m14 | exact m15 | exact m16 | exact m17)) KR.out hzr).mono ?_); rintro e w7 ⟨rfl, hb7⟩; replace F := F.le hb7)) | ((with_reducible refine at_convert rfl ?_); first | (with_reducible refine wpList_widen rfl rfl rfl Try.underlying25 Try.underlying45 ?_; intro s1 n1 h1 f1) | (with_reducible refine wpList_widenG rfl rfl Try.underlying25 Try.underlying45 (by kernel_rfl) ?_; intro s1 n1 h1 f1)) | (go_at_call 13; ((with_reducible refine (sameFloat_yes _ _ _ (by exact ((Hid.out ‹Hid (can .f64 _ = can .f64 (widen vI1))›).trans ((congrArg (can .f64) (widen_congr (cI1.out.trans cS1.out.symm))).trans (Hid.out ‹Hid (can .f64 _ = can .f64 (widen vS1))›).symm)))).mono ?_); rintro e w7 ⟨rfl, dq7, rfl⟩; skip)))
  first | ((with_reducible refine callAt0 F ?_); clear F; intro wN F) | ((with_reducible refine callAtN F ?_); clear F; intro wN F)
  refine (markU_Bow _ _ _ (1 : Int) _ KR.out (by rw [← HB0.out]; exact hmr) (by omega) (by rw [← HB0.out]; omega) (F.lay (by first | exact m0 | exact m1 | exact m2 | exact m3 | exact m4 | exact m5 | exact m6 | exact m7 | exact m8 | exact m9 | exact m10 | exact m11 | exact m12 | exact m13 | exact m14 | exact m15 | exact m16 | exact m17))).mono ?_
  rintro e w5 ⟨rfl, hR, hU⟩
  rw [← HB0.out]
  (first | replace F := F.markAt 0 hR hU rfl | replace F := F.markAt 1 hR hU rfl | replace F := F.markAt 2 hR hU rfl | replace F := F.markAt 3 hR hU rfl | replace F := F.markAt 4 hR hU rfl | replace F := F.markAt 5 hR hU rfl | replace F := F.markAt 6 hR hU rfl | replace F := F.markAt 7 hR hU rfl | replace F := F.markAt 8 hR hU rfl | replace F := F.markAt 9 hR hU rfl | replace F := F.markAt 10 hR hU rfl | replace F := F.markAt 11 hR hU rfl | replace F := F.markAt 12 hR hU rfl | replace F := F.markAt 13 hR hU rfl | replace F := F.markAt 14 hR hU rfl | replace F := F.markAt 15 hR hU rfl | replace F := F.markAt 16 hR hU rfl | replace F := F.markAt 17 hR hU rfl)
  simp only [List.set_cons_succ, List.set_cons_zero] at F
  clear hR hU
  go_wp2_with (first | (((with_reducible refine listN F ?_); clear F; intro wN F)) | ((with_reducible refine at_loadU rfl rfl ?_); first | (with_reducible refine wpList_loadG F rfl rfl rfl (by first | exact m0 | exact m1 | exact m2 | exact m3 | exact m4 | exact m5 | exact m6 | exact m7 | exact m8 | exact m9 | exact m10 | exact m11 | exact m12 | exact m13 | exact m14 | exact m15 | exact m16 | exact m17) Try.underlying38 rfl uinfoBowI (by simp only [List.size_toArray]; first | exact hl0.out | exact huA0.out | exact huB0.out | exact huC0.out | exact huS.out | exact huI.out | exact huH.out) ?_) | (with_reducible refine wpList_loadG F rfl rfl rfl (by first | exact m0 | exact m1 | exact m2 | exact m3 | exact m4 | exact m5 | exact m6 | exact m7 | exact m8 | exact m9 | exact m10 | exact m11 | exact m12 | exact m13 | exact m14 | exact m15 | exact m16 | exact m17) Try.underlying31 rfl uinfoBowL (by simp only [List.size_toArray]; first | exact hl0.out | exact huA0.out | exact huB0.out | exact huC0.out | exact huS.out | exact huI.out | exact huH.out) ?_)) | ((with_reducible refine at_loadV rfl rfl ?_); first | (with_reducible refine wpList_loadGG F rfl rfl (by first | exact m0 | exact m1 | exact m2 | exact m3 | exact m4 | exact m5 | exact m6 | exact m7 | exact m8 | exact m9 | exact m10 | exact m11 | exact m12 | exact m13 | exact m14 | exact m15 | exact m16 | exact m17) Try.underlying38 rfl uinfoBowI (by simp only [List.size_toArray]; first | exact hl0.out | exact huA0.out | exact huB0.out | exact huC0.out | exact huS.out | exact huI.out | exact huH.out) (by kernel_rfl) ?_)) | (go_at_call 15; ((with_reducible refine (heldU_Bow _ ar0 _ (1 : Int) _ KR.out (by rw [← HB0.out]; exact hmr) (by omega) (by rw [← HB0.out]; omega) (F.layR (by first | exact m0 | exact m1 | exact m2 | exact m3 | exact m4 | exact m5 | exact m6 | exact m7 | exact m8 | exact m9 | exact m10 | exact m11 | exact m12 | exact m13 | exact m14 | exact m15 | exact m16 | exact m17))).mono ?_); rintro e w6 ⟨rfl, hb6⟩; rw [← HB0.out]; replace F := F.le hb6)) | (go_at_call 8; ((with_reducible refine (toU_Bow _ cs0 vs0 _ (Z0.out.le F.below) K0.out hz0).mono ?_); rintro e w1 ⟨usC0, rfl, ho, hl⟩; have huC0 : Hid (usC0.length = 12) := ho.1.trans ((List.length_map ..).trans K0.out.1); have hoC0 := hid ho.all_one; replace F := F.lay1 hl ho; clear ho hl)))
  first | ((with_reducible refine callAt0 F ?_); clear F; intro wN F) | ((with_reducible refine callAtN F ?_); clear F; intro wN F)
  refine (HI.out _ _ _ (F.layN (by first | exact m0 | exact m1 | exact m2 | exact m3 | exact m4 | exact m5 | exact m6 | exact m7 | exact m8 | exact m9 | exact m10 | exact m11 | exact m12 | exact m13 | exact m14 | exact m15 | exact m16 | exact m17))).mono ?_
  rintro e wH ⟨usH, vH1, rfl, oTH, hlH, cH1⟩
  replace cH1 := hid cH1
  have huH : Hid (usH.length = 12) := oTH.1.trans KR.out.1
  have hoH := hid oTH.all_one
  replace F := F.lay1 hlH oTH
  clear hlH oTH
  go_wp2_with (first | (((with_reducible refine listN F ?_); clear F; intro wN F)) | ((with_reducible refine at_store rfl ?_); first | (refine wpList_storeG F rfl rfl rfl rfl rfl (by simp only [List.size_toArray]; rw [huB0.out]; exact uinfoBowI) (by simp only [List.size_toArray]; rw [huB0.out]; rfl) (by exact hoB0.out) ?_; clear F; intro W F zW; clear zW) | (refine wpList_storeG F rfl rfl rfl rfl rfl (by simp only [List.size_toArray]; rw [huS.out]; exact uinfoBowI) (by simp only [List.size_toArray]; rw [huS.out]; rfl) (by exact hoS.out) ?_; clear F; intro W F zW; clear zW) | (refine wpList_storeG F rfl rfl rfl rfl rfl (by simp only [List.size_toArray]; rw [huI.out]; exact uinfoBowI) (by simp only [List.size_toArray]; rw [huI.out]; rfl) (by exact hoI.out) ?_; clear F; intro W F zW; clear zW) | (refine wpList_storeG F rfl rfl rfl rfl rfl (by simp only [List.size_toArray]; rw [huH.out]; exact uinfoBowI) (by simp only [List.size_toArray]; rw [huH.out]; rfl) (by exact hoH.out) ?_; clear F; intro W F zW; clear zW) | (refine wpList_storeG F rfl rfl rfl rfl rfl (by simp only [List.size_toArray]; rw [huA0.out]; exact uinfoBowI) (by simp only [List.size_toArray]; rw [huA0.out]; rfl) (by exact hoA0.out) ?_; clear F; intro W F zW; clear zW)) | ((with_reducible refine at_loadU rfl rfl ?_); first | (with_reducible refine wpList_loadG F rfl rfl rfl (by first | exact m0 | exact m1 | exact m2 | exact m3 | exact m4 | exact m5 | exact m6 | exact m7 | exact m8 | exact m9 | exact m10 | exact m11 | exact m12 | exact m13 | exact m14 | exact m15 | exact m16 | exact m17) Try.underlying38 rfl uinfoBowI (by simp only [List.size_toArray]; first | exact hl0.out | exact huA0.out | exact huB0.out | exact huC0.out | exact huS.out | exact huI.out | exact huH.out) ?_) | (with_reducible refine wpList_loadG F rfl rfl rfl (by first | exact m0 | exact m1 | exact m2 | exact m3 | exact m4 | exact m5 | exact m6 | exact m7 | exact m8 | exact m9 | exact m10 | exact m11 | exact m12 | exact m13 | exact m14 | exact m15 | exact m16 | exact m17) Try.underlying31 rfl uinfoBowL (by simp only [List.size_toArray]; first | exact hl0.out | exact huA0.out | exact huB0.out | exact huC0.out | exact huS.out | exact huI.out | exact huH.out) ?_)) | ((with_reducible refine at_loadV rfl rfl ?_); first | (with_reducible refine wpList_loadGG F rfl rfl (by first | exact m0 | exact m1 | exact m2 | exact m3 | exact m4 | exact m5 | exact m6 | exact m7 | exact m8 | exact m9 | exact m10 | exact m11 | exact m12 | exact m13 | exact m14 | exact m15 | exact m16 | exact m17) Try.underlying38 rfl uinfoBowI (by simp only [List.size_toArray]; first | exact hl0.out | exact huA0.out | exact huB0.out | exact huC0.out | exact huS.out | exact huI.out | exact huH.out) (by kernel_rfl) ?_)) | (go_at_call 10; ((with_reducible refine (eqU_Bow _ _ ar0 _ _ _ (F.layR (by first | exact m0 | exact m1 | exact m2 | exact m3 | exact m4 | exact m5 | exact m6 | exact m7 | exact m8 | exact m9 | exact m10 | exact m11 | exact m12 | exact m13 | exact m14 | exact m15 | exact m16 | exact m17)) (F.layR (by first | exact m0 | exact m1 | exact m2 | exact m3 | exact m4 | exact m5 | exact m6 | exact m7 | exact m8 | exact m9 | exact m10 | exact m11 | exact m12 | exact m13 | exact m14 | exact m15 | exact m16 | exact m17)) KR.out hzr).mono ?_); rintro e w7 ⟨rfl, hb7⟩; replace F := F.le hb7)) | ((with_reducible refine at_convert rfl ?_); first | (with_reducible refine wpList_widen rfl rfl rfl Try.underlying25 Try.underlying45 ?_; intro s1 n1 h1 f1) | (with_reducible refine wpList_widenG rfl rfl Try.underlying25 Try.underlying45 (by kernel_rfl) ?_; intro s1 n1 h1 f1)) | (go_at_call 13; ((with_reducible refine (sameFloat_yes _ _ _ (by exact ((Hid.out ‹Hid (can .f64 _ = can .f64 (widen vH1))›).trans ((congrArg (can .f64) (widen_congr (cH1.out.trans cS1.out.symm))).trans (Hid.out ‹Hid (can .f64 _ = can .f64 (widen vS1))›).symm)))).mono ?_); rintro e w7 ⟨rfl, dq7, rfl⟩; skip)) | (go_at_call 15; ((with_reducible refine (heldU_Bow _ ar0 _ (1 : Int) _ KR.out (by rw [← HB0.out]; exact hmr) (by omega) (by rw [← HB0.out]; omega) (F.layR (by first | exact m0 | exact m1 | exact m2 | exact m3 | exact m4 | exact m5 | exact m6 | exact m7 | exact m8 | exact m9 | exact m10 | exact m11 | exact m12 | exact m13 | exact m14 | exact m15 | exact m16 | exact m17))).mono ?_); rintro e w6 ⟨rfl, hb6⟩; rw [← HB0.out]; replace F := F.le hb6)))
  go_ret
  first | exact ⟨rfl, F.below⟩ | exact ⟨rfl, below_drewN F.below _⟩
set_option maxRecDepth 100000 in
set_option maxHeartbeats 4000000 in
theorem large0 (cs0 : List CD) (vs0 : List Value) (a1 : Nat) (w : World) (z0 : RdL w w.heap.size cs0 vs0) (k0 : ShOkL shBow cs0)  (hg : ¬ szL cs0 ≤ 1048576) :
    Calls Try.prog 4 #[.agg vs0.toArray, .float .f32 a1] w fun e w' => e = .returned (.bool true) ∧ Below w.heap.size w w' := by
  have Z0 := hid z0; have K0 := hid k0; have hl0 : Hid (vs0.length = 12) := z0.1.trans k0.1; clear z0 k0
  have hn0 : (1048576 : Int) - (szL cs0 : Nat) < 0 := by omega
  have F := Frg.nil w
  replace F := F.box 31 vs0.toArray
  go_enter Try.func4, Try.ntmps4
  go_wp2_with (first | (((with_reducible refine listN F ?_); clear F; intro wN F)) | ((with_reducible refine at_loadU rfl rfl ?_); first | (with_reducible refine wpList_loadG F rfl rfl rfl (by first | exact m0 | exact m1 | exact m2 | exact m3 | exact m4 | exact m5 | exact m6 | exact m7 | exact m8 | exact m9 | exact m10 | exact m11 | exact m12 | exact m13 | exact m14 | exact m15 | exact m16 | exact m17) Try.underlying38 rfl uinfoBowI (by simp only [List.size_toArray]; first | exact hl0.out | exact huA0.out | exact huB0.out | exact huC0.out | exact huS.out | exact huI.out | exact huH.out) ?_) | (with_reducible refine wpList_loadG F rfl rfl rfl (by first | exact m0 | exact m1 | exact m2 | exact m3 | exact m4 | exact m5 | exact m6 | exact m7 | exact m8 | exact m9 | exact m10 | exact m11 | exact m12 | exact m13 | exact m14 | exact m15 | exact m16 | exact m17) Try.underlying31 rfl uinfoBowL (by simp only [List.size_toArray]; first | exact hl0.out | exact huA0.out | exact huB0.out | exact huC0.out | exact huS.out | exact huI.out | exact huH.out) ?_)) | ((with_reducible refine at_loadV rfl rfl ?_); first | (with_reducible refine wpList_loadGG F rfl rfl (by first | exact m0 | exact m1 | exact m2 | exact m3 | exact m4 | exact m5 | exact m6 | exact m7 | exact m8 | exact m9 | exact m10 | exact m11 | exact m12 | exact m13 | exact m14 | exact m15 | exact m16 | exact m17) Try.underlying38 rfl uinfoBowI (by simp only [List.size_toArray]; first | exact hl0.out | exact huA0.out | exact huB0.out | exact huC0.out | exact huS.out | exact huI.out | exact huH.out) (by kernel_rfl) ?_)) | (go_at_call 6; ((with_reducible refine (szU_Bow _ cs0 vs0 (1048576 : Int) (-1 : Int) _ (Z0.out.le F.below) K0.out (by omega) (by omega) (lessBy_neg hn0)).mono ?_); rintro e w1 ⟨rfl, hb1⟩; replace F := F.le hb1)))
  go_ret
  first | exact ⟨rfl, F.below⟩ | exact ⟨rfl, below_drewN F.below _⟩
theorem walk (cs0 : List CD) (vs0 : List Value) (a1 : Nat) (w : World) (k0 : HasShL shBow cs0) (z0 : RdL w w.heap.size cs0 vs0) (w1 : fits .f32 a1) :
    Calls Try.prog 4 #[.agg vs0.toArray, .float .f32 a1] w fun e w' => e = .returned (.bool true) ∧ Below w.heap.size w w' := by
  by_cases g0 : szL cs0 ≤ 1048576
  · skip
    obtain ⟨ar0, ar1, ar2, kr, hzr, hS, hI⟩ := both_StepBow cs0 a1 k0 w1
    exact core cs0 vs0 a1 ar0 ar1 ar2 w z0 k0.ok g0 kr hzr  hS hI
  · exact large0 cs0 vs0 a1 w z0 k0.ok  g0
end Go.Proofs.Ythjdklolbkhbfaa.fnExactStepBow
