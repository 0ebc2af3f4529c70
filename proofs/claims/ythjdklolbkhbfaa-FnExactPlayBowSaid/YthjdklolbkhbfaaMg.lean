/- Texts of the walk, laid in one file. -/
import Derived.OwnWalk
import Derived.Test.YthjdklolbkhbfaaMf
set_option linter.unusedVariables false
set_option linter.unusedSimpArgs false
/- A bow's steps, both sides. -/
namespace Go.Fk
open Go Go.RowKit
/-- A valid bow. -/
structure BwS where
  x : Nat → Nat
  y : Nat → Nat
  nx : Nat
  ny : Nat
  j : Nat
  k : Nat
  a : Nat
  b : Nat
  c : Nat
  p : Nat
  q : Nat
  m : Nat
  l : Nat
structure BwS.Ok (q : BwS) : Prop where
  nx1 : 1 ≤ q.nx
  nx2 : q.nx ≤ 1024
  ny1 : 1 ≤ q.ny
  ny2 : q.ny ≤ 1024
  j1 : q.j < q.nx
  k1 : q.k < q.ny
  f : okF 1 q.a q.b q.c q.p q.q = true
  fa : fits .f32 q.a
  fb : fits .f32 q.b
  fc : fits .f32 q.c
  fp : fits .f32 q.p
  fq : fits .f32 q.q
  fm : fits .f32 q.m
  fl : fits .f32 q.l
def uB (q : BwS) : Nat := uBow q.l q.a q.b q.c q.p q.q (q.y q.k)
def vB (q : BwS) : Nat := vBow (q.x q.j)
def dB (q : BwS) (sp : Nat) : Nat := dBow sp (uB q) (vB q)
def wB (q : BwS) (sp : Nat) : Nat := fop .mul .f32 (dB q sp) (friV q.m (dB q sp))
def n1B (q : BwS) (sp : Nat) : Nat := kept (fop .add .f32 (uB q) (wB q sp))
def n2B (q : BwS) (sp : Nat) : Nat := kept (fop .add .f32 (vB q) (wB q sp))
def pB (q : BwS) : Nat := st0 1 q.a q.b q.c q.p q.q (q.y q.k)
def qB (q : BwS) : Nat := st1 1 q.a q.b q.c q.p q.q (q.y q.k)
def stepB (q : BwS) (sp : Nat) : BwS := { q with x := pushX q.x q.j (n1B q sp), y := pushX q.y q.k (n2B q sp), j := (q.j + 1) % q.nx, k := (q.k + 1) % q.ny, p := pB q, q := qB q }
theorem can_uB (q : BwS) : can .f32 (uB q) = uB q := can_can _ _
theorem can_vB (q : BwS) : can .f32 (vB q) = vB q := can_can _ _
theorem can_dB (q : BwS) (sp : Nat) : can .f32 (dB q sp) = dB q sp := can_fop _ _ _ _
theorem friV_congr {s d d' : Nat} (h : can .f32 d = can .f32 d') : friV s d = friV s d' := by
  unfold friV
  rw [fop_congr (show can .f32 s = can .f32 s from rfl) h]
theorem can_friV (s d : Nat) : can .f32 (friV s d) = friV s d := can_can _ _
theorem wB_of {q : BwS} {sp d fr r : Nat} (hd : can .f32 d = dB q sp) (hf : can .f32 fr = friV q.m d) (hr : can .f32 r = fop .mul .f32 d fr) : can .f32 r = wB q sp := by
  rw [hr, wB]
  have e : friV q.m d = friV q.m (dB q sp) := friV_congr (hd.trans (can_dB q sp).symm)
  exact fop_congr (hd.trans (can_dB q sp).symm) (hf.trans (e.trans (can_friV _ _).symm))
theorem n1_of {q : BwS} {sp u v r : Nat} (hu : can .f32 u = uB q) (hv : can .f32 v = wB q sp) (hr : can .f32 r = fop .add .f32 u v) : kept r = n1B q sp :=
  kept_can (hr.trans ((fop_congr (hu.trans (can_uB q).symm) (hv.trans (can_fop _ _ _ _).symm)).trans (can_fop _ _ _ _).symm))
theorem n2_of {q : BwS} {sp u v r : Nat} (hu : can .f32 u = vB q) (hv : can .f32 v = wB q sp) (hr : can .f32 r = fop .add .f32 u v) : kept r = n2B q sp :=
  kept_can (hr.trans ((fop_congr (hu.trans (can_vB q).symm) (hv.trans (can_fop _ _ _ _).symm)).trans (can_fop _ _ _ _).symm))
theorem fits_n1 (q : BwS) (sp : Nat) : fits .f32 (n1B q sp) := fits_kept (fits_fop _ _ _ _)
theorem fits_n2 (q : BwS) (sp : Nat) : fits .f32 (n2B q sp) := fits_kept (fits_fop _ _ _ _)
theorem BwS.Ok.step {q : BwS} (h : q.Ok) (sp : Nat) (hf : fits .f32 (q.y q.k)) : (stepB q sp).Ok where
  nx1 := h.nx1
  nx2 := h.nx2
  ny1 := h.ny1
  ny2 := h.ny2
  j1 := Nat.mod_lt _ h.nx1
  k1 := Nat.mod_lt _ h.ny1
  f := okF_step h.f
  fa := h.fa
  fb := h.fb
  fc := h.fc
  fp := show fits .f32 (st0 1 q.a q.b q.c q.p q.q (q.y q.k)) from fits_st0 hf (fits_outF _ _ _ _ _ _ _)
  fq := show fits .f32 (st1 1 q.a q.b q.c q.p q.q (q.y q.k)) from fits_st1 h.fp
  fm := h.fm
  fl := h.fl
end Go.Fk
namespace Go.Proofs.Ythjdklolbkhbfaa
open Go.RowKit Go.Fk
theorem kindRun : ∀ w : World, (isAgg 87).run Try.prog w = .ok false w := fun w => by kernel_rfl
set_option maxRecDepth 100000 in
set_option maxHeartbeats 4000000 in
theorem i_meet (q : BwS) (sp a1 a2 : Nat) (z0 z1 s t : Value) (jz kz lx ly : Int) (lo hi lo2 hi2 g r : Nat) (w : World) (R : Row w g 90 #[z0, .int .i64 jz, z1, .int .i64 kz, .int .i64 1, .float .f32 q.a, .float .f32 q.b, .float .f32 q.c, .float .f32 a1, .float .f32 a2, .float .f32 q.m, .float .f32 q.l, s, .int .i64 (q.j : Nat), .int .i64 lx, t, .int .i64 (q.k : Nat), .int .i64 ly, .pointer (some ⟨r, 0, none⟩)]) (RR : Row w r 103 #[mdl 1 q.a q.b q.c, .float .f32 q.p, .float .f32 q.q]) (O1 : OwnS w lo hi s q.x q.nx) (O2 : OwnS w lo2 hi2 t q.y q.ny) (ok : q.Ok) (h1 : ¬ (lo ≤ r ∧ r < hi)) (h2 : ¬ (lo2 ≤ r ∧ r < hi2)) (hg : g ≠ r) :
    Calls Try.prog 31 #[.pointer (some ⟨g, 0, none⟩), .float .f32 sp] w fun e w' => ∃ u v d, e = .returned (.tuple #[.float .f32 u, .float .f32 v, .float .f32 d]) ∧ can .f32 u = uB q ∧ can .f32 v = vB q ∧ can .f32 d = dB q sp ∧ fits .f32 u ∧ fits .f32 v ∧ fits .f32 d ∧
      Row w' r 103 #[mdl 1 q.a q.b q.c, .float .f32 (pB q), .float .f32 (qB q)] ∧ Chg (· = r) w w' := by
  have HO2 := hid (fun (w' : World) (hl : le w w') => i_oldest hi2 t q.y q.ny q.k w' (O2.rd.le hl) ok.k1 ok.ny2)
  have HO1 := hid (fun (w' : World) (hc : Chg (· = r) w w') => i_oldest hi s q.x q.nx q.j w' (O1.chgS hc (fun i a b e => h1 (by have e' : i = r := e; subst e'; exact ⟨a, b⟩))).rd ok.j1 ok.nx2)
  have HR := hid R; have HRR := hid RR; have OK := hid ok
  clear R RR O1 O2 ok
  go_enter Try.func31, Try.ntmps31
  go_wp2_with fail
  have FM := (Frm.one HR.out).drewN 1
  refine region_tail (fun _ _ _ v => ∃ yk, v = .float .f32 yk ∧ can .f32 yk = can .f32 (q.y q.k) ∧ fits .f32 yk) 10 (by kernel_rfl) (by kernel_rfl) ?_
  simp only [List.take_succ_cons, List.take_zero, List.drop_succ_cons, List.drop_zero]
  refine wpFree_one rfl (.pointer (some ⟨g, 0, none⟩)) (fun w1 _ => by kernel_rfl) ?_
  simp only [Act.put, List.setIfInBounds_toArray, List.set_cons_succ, List.set_cons_zero]
  refine wpFree_one rfl (.pointer (some ⟨g, 0, none⟩)) (fun w1 _ => by kernel_rfl) ?_
  simp only [Act.put, List.setIfInBounds_toArray, List.set_cons_succ, List.set_cons_zero]
  refine wpFree_one rfl (.pointer (some ⟨g, 18, none⟩)) (fun w1 _ => by kernel_rfl) ?_
  simp only [Act.put, List.setIfInBounds_toArray, List.set_cons_succ, List.set_cons_zero]
  refine wpFree_loadV FM (n := 0) rfl rfl rfl rfl List.mem_cons_self rfl kindRun ?_
  simp only [Act.put, List.setIfInBounds_toArray, List.set_cons_succ, List.set_cons_zero]
  refine wpFree_one rfl (.pointer (some ⟨g, 0, none⟩)) (fun w1 _ => by kernel_rfl) ?_
  simp only [Act.put, List.setIfInBounds_toArray, List.set_cons_succ, List.set_cons_zero]
  refine wpFree_one rfl (.pointer (some ⟨g, 0, none⟩)) (fun w1 _ => by kernel_rfl) ?_
  simp only [Act.put, List.setIfInBounds_toArray, List.set_cons_succ, List.set_cons_zero]
  refine wpFree_one rfl (.pointer (some ⟨g, 15, none⟩)) (fun w1 _ => by kernel_rfl) ?_
  simp only [Act.put, List.setIfInBounds_toArray, List.set_cons_succ, List.set_cons_zero]
  refine wpFree_one rfl (.pointer (some ⟨g, 15, none⟩)) (fun w1 _ => by kernel_rfl) ?_
  simp only [Act.put, List.setIfInBounds_toArray, List.set_cons_succ, List.set_cons_zero]
  refine wpFree_loadPart FM (n := 0) rfl rfl rfl rfl List.mem_cons_self Try.underlying35 rfl [t, .int .i64 (q.k : Nat)] (midOf [z0, .int .i64 jz, z1, .int .i64 kz, .int .i64 1, .float .f32 q.a, .float .f32 q.b, .float .f32 q.c, .float .f32 a1, .float .f32 a2, .float .f32 q.m, .float .f32 q.l, s, .int .i64 (q.j : Nat), .int .i64 lx] [t, .int .i64 (q.k : Nat)] [.int .i64 ly, .pointer (some ⟨r, 0, none⟩)] 15 rfl) infoRing ?_
  simp only [Act.put, List.setIfInBounds_toArray, List.set_cons_succ, List.set_cons_zero]
  refine wpFree_call rfl rfl Try.func54 (by kernel_rfl) (by kernel_rfl) (args := #[.agg #[t, .int .i64 (q.k : Nat)]]) (by simp [Act.eval]) (fun v w1 w2 hw hv => hv) (fun w1 hw1 => (HO2.out _ (le_trans (le_drewN w 1) hw1)).mono ?_) ?_
  · rintro e w2 ⟨yk, rfl, hy, fy, hl⟩
    exact ⟨_, rfl, hl, yk, rfl, by rw [← hy, can_can], fy⟩
  rintro v ⟨_, _, yk, rfl, HY0, FY0⟩
  have HY := hid HY0; have FY := hid FY0; clear HY0 FY0
  simp only [Act.put, List.setIfInBounds_toArray, List.set_cons_succ, List.set_cons_zero]
  refine wpFree_nil (fun w3 hw3 _ => ?_)
  have L3 := hid (le_trans (le_drewN w 1) hw3)
  have RR3 := hid (HRR.out.le L3.out)
  clear hw3 FM
  go_wp2_with (first | (go_at_call 53; ((with_reducible refine (i_step 1 q.a q.b q.c q.p q.q yk r _ ⟨by decide, by decide⟩ RR3.out OK.out.fp FY.out).mono ?_); rintro e w5 ⟨r1, rfl, hr1, fr1, hR5, hU5⟩; rw [st0_congr HY.out, st1_congr HY.out] at hR5; have C5 : Hid (Chg (· = r) w w5) := (Chg.of_le L3.out).trans (chg_updB hU5); have R5 := hid (C5.out.row HR.out hg); have c11 := R5.out.cell? 11; have HR1 := hid hr1; have RR5 := hid hR5; clear hr1 hR5 hU5)) | (with_reducible refine wpList_farith (op := .mul) rfl rfl rfl rfl rfl ?_; intro r2 n2 hr2 hf2) | ((with_reducible refine at_loadU rfl rfl ?_); (with_reducible refine wpList_loadPR (R5.out.drewN _) rfl rfl rfl Try.underlying35 rfl [s, .int .i64 (q.j : Nat)] (midOf [z0, .int .i64 jz, z1, .int .i64 kz, .int .i64 1, .float .f32 q.a, .float .f32 q.b, .float .f32 q.c, .float .f32 a1, .float .f32 a2, .float .f32 q.m, .float .f32 q.l] [s, .int .i64 (q.j : Nat)] [.int .i64 lx, t, .int .i64 (q.k : Nat), .int .i64 ly, .pointer (some ⟨r, 0, none⟩)] 12 rfl) infoRing rfl ?_)) | (go_at_call 54; ((with_reducible refine (HO1.out _ (C5.out.le (le_drewN _ _))).mono ?_); rintro e w6 ⟨xj, rfl, hx, fx, hl6⟩; have HX : Hid (can .f32 xj = can .f32 (q.x q.j)) := (by unfold Hid; rw [← hx, can_can]); have L6 := hid hl6; have FX := hid fx; clear hx hl6)) | (with_reducible refine wpList_farith (op := .add) rfl rfl rfl rfl rfl ?_; intro r3 n3 hr3 hf3) | (with_reducible refine wpList_farith (op := .sub) rfl rfl rfl rfl rfl ?_; intro r4 n4 hr4 hf4))
  go_ret3
  have e1 : can .f32 (neg .f32 r2) = uB q := neg_congr (hr2.out.trans ((fop_congr rfl ((HR1.out.trans (outF_congr HY.out)).trans (can_outF _ _ _ _ _ _ _).symm)).trans (can_fop _ _ _ _).symm))
  have e2 : can .f32 (neg .f32 xj) = vB q := neg_congr HX.out
  refine ⟨_, _, _, rfl, e1, e2, ?_, fits_neg hf2.out, fits_neg FX.out, hf4.out, (((RR5.out.drewN _).le L6.out).drewN _), Chg.le (((C5.out.le (le_drewN _ _)).le L6.out)) (le_drewN _ _)⟩
  exact hr4.out.trans (fop_congr rfl (hr3.out.trans ((fop_congr (e1.trans (can_uB q).symm) (e2.trans (can_vB q).symm)).trans (can_fop _ _ _ _).symm)))
set_option maxRecDepth 100000 in
set_option maxHeartbeats 4000000 in
theorem i_bstep (q : BwS) (sp a1 a2 : Nat) (z0 z1 s t : Value) (jz kz : Int) (lo hi lo2 hi2 g r : Nat) (w : World) (R : Row w g 90 #[z0, .int .i64 jz, z1, .int .i64 kz, .int .i64 1, .float .f32 q.a, .float .f32 q.b, .float .f32 q.c, .float .f32 a1, .float .f32 a2, .float .f32 q.m, .float .f32 q.l, s, .int .i64 (q.j : Nat), .int .i64 (loudN q.x q.nx : Nat), t, .int .i64 (q.k : Nat), .int .i64 (loudN q.y q.ny : Nat), .pointer (some ⟨r, 0, none⟩)]) (RR : Row w r 103 #[mdl 1 q.a q.b q.c, .float .f32 q.p, .float .f32 q.q]) (O1 : OwnS w lo hi s q.x q.nx) (O2 : OwnS w lo2 hi2 t q.y q.ny) (ok : q.Ok) (h1 : ¬ (lo ≤ r ∧ r < hi)) (h2 : ¬ (lo2 ≤ r ∧ r < hi2)) (hg : g ≠ r) (hsp : fits .f32 sp) (g1 : ¬ (lo ≤ g ∧ g < hi)) (g2 : ¬ (lo2 ≤ g ∧ g < hi2)) (hd : hi ≤ lo2 ∨ hi2 ≤ lo) :
    Calls Try.prog 36 #[.pointer (some ⟨g, 0, none⟩), .float .f32 sp] w fun e w' => ∃ o, e = .returned (.float .f32 o) ∧ can .f32 o = q.y q.k ∧ fits .f32 o ∧ Row w' g 90 #[z0, .int .i64 jz, z1, .int .i64 kz, .int .i64 1, .float .f32 (stepB q sp).a, .float .f32 (stepB q sp).b, .float .f32 (stepB q sp).c, .float .f32 a1, .float .f32 a2, .float .f32 (stepB q sp).m, .float .f32 (stepB q sp).l, s, .int .i64 ((stepB q sp).j : Nat), .int .i64 (loudN (stepB q sp).x q.nx : Nat), t, .int .i64 ((stepB q sp).k : Nat), .int .i64 (loudN (stepB q sp).y q.ny : Nat), .pointer (some ⟨r, 0, none⟩)] ∧ Row w' r 103 #[mdl 1 (stepB q sp).a (stepB q sp).b (stepB q sp).c, .float .f32 (stepB q sp).p, .float .f32 (stepB q sp).q] ∧ OwnS w' lo hi s (stepB q sp).x q.nx ∧ OwnS w' lo2 hi2 t (stepB q sp).y q.ny ∧ Chg (fun i => i = g ∨ i = r ∨ lo ≤ i ∧ i < hi ∨ lo2 ≤ i ∧ i < hi2) w w' := by
  have HO2 := hid (fun (w' : World) (hl : le w w') => i_oldest hi2 t q.y q.ny q.k w' (O2.rd.le hl) ok.k1 ok.ny2)
  have HM := hid (fun (w' : World) (hl : le w w') => i_meet q sp a1 a2 z0 z1 s t jz kz _ _ lo hi lo2 hi2 g r w' (R.le hl) (RR.le hl) (O1.le hl) (O2.le hl) ok h1 h2 hg)
  have HR := hid R; have HRR := hid RR; have HO1 := hid O1; have HOO := hid O2; have OK := hid ok
  clear R RR O1 O2 ok
  go_enter Try.func36, Try.ntmps36
  go_wp2_with (first | ((with_reducible refine at_loadU rfl rfl ?_); (with_reducible refine wpList_loadPR HR.out rfl rfl rfl Try.underlying35 rfl [t, .int .i64 (q.k : Nat)] (midOf [z0, .int .i64 jz, z1, .int .i64 kz, .int .i64 1, .float .f32 q.a, .float .f32 q.b, .float .f32 q.c, .float .f32 a1, .float .f32 a2, .float .f32 q.m, .float .f32 q.l, s, .int .i64 (q.j : Nat), .int .i64 (loudN q.x q.nx : Nat)] [t, .int .i64 (q.k : Nat)] [.int .i64 (loudN q.y q.ny : Nat), .pointer (some ⟨r, 0, none⟩)] 15 rfl) infoRing rfl ?_)) | (go_at_call 54; ((with_reducible refine (HO2.out _ (le_refl _)).mono ?_); rintro e w1 ⟨yk, rfl, hy, fy, hl1⟩; have HY := hid hy; have FY := hid fy; have L1 := hid hl1; clear hy fy hl1)) | (go_at_call 31; ((with_reducible refine (HM.out _ L1.out).mono ?_); rintro e w2 ⟨u, v, d, rfl, hu, hv, hd2, fu, fv, fd, hRR, hC⟩; have HU := hid hu; have HV := hid hv; have HD := hid hd2; have RR2 := hid hRR; have C2 : Hid (Chg (· = r) w w2) := (Chg.of_le L1.out).trans hC; have R2 := hid (C2.out.row HR.out hg); have c10 := R2.out.cell? 10; clear hu hv hd2 hRR hC)) | (go_at_call 32; ((with_reducible refine (i_FrictionAt q.m d _).mono ?_); rintro e w3 ⟨fr, rfl, hf, hl3⟩; have HF := hid hf; have L3 := hid hl3; clear hf hl3)) | (with_reducible refine wpList_farith (op := .mul) rfl rfl rfl rfl rfl ?_; intro r2 n2 hr2 hf2) | (with_reducible refine wpList_farith (op := .add) rfl rfl rfl rfl rfl ?_; intro r3 n3 hr3 hf3))
  have HW := hid (wB_of HD.out HF.out hr2.out)
  have C3 : Hid (Chg (· = r) w w3) := C2.out.le L3.out
  have R3 : Hid (Row w3 g 90 #[z0, .int .i64 jz, z1, .int .i64 kz, .int .i64 1, .float .f32 q.a, .float .f32 q.b, .float .f32 q.c, .float .f32 a1, .float .f32 a2, .float .f32 q.m, .float .f32 q.l, s, .int .i64 (q.j : Nat), .int .i64 (loudN q.x q.nx : Nat), t, .int .i64 (q.k : Nat), .int .i64 (loudN q.y q.ny : Nat), .pointer (some ⟨r, 0, none⟩)]) := C3.out.row HR.out hg
  have RR3 : Hid (Row w3 r 103 #[mdl 1 q.a q.b q.c, .float .f32 (pB q), .float .f32 (qB q)]) := RR2.out.le L3.out
  have P1 : Hid (OwnS w3 lo hi s q.x q.nx) := HO1.out.chgS C3.out (fun i a b e => h1 (by have e' : i = r := e; subst e'; exact ⟨a, b⟩))
  have P2 : Hid (OwnS w3 lo2 hi2 t q.y q.ny) := HOO.out.chgS C3.out (fun i a b e => h2 (by have e' : i = r := e; subst e'; exact ⟨a, b⟩))
  clear HO2 HM HRR HO1 HOO c10 R2 RR2 C2
  refine (i_come lo hi s q.x q.nx q.j _ g 12 _ _ _ (P1.out.le (le_drewN _ _)) (R3.out.drewN _) rfl rfl rfl g1 OK.out.j1 OK.out.nx2 hf3.out).mono ?_
  rintro e w5 ⟨⟨v5, rfl⟩, hR5, hO5, hC5⟩
  have E1 : comeX q.x q.j r3 = (stepB q sp).x := by unfold comeX; rw [n1_of HU.out HW.out hr3.out]; rfl
  rw [E1] at hR5 hO5
  have R5 := hid (show Row w5 g 90 #[z0, .int .i64 jz, z1, .int .i64 kz, .int .i64 1, .float .f32 q.a, .float .f32 q.b, .float .f32 q.c, .float .f32 a1, .float .f32 a2, .float .f32 q.m, .float .f32 q.l, s, .int .i64 ((q.j + 1) % q.nx : Nat), .int .i64 (loudN (stepB q sp).x q.nx : Nat), t, .int .i64 (q.k : Nat), .int .i64 (loudN q.y q.ny : Nat), .pointer (some ⟨r, 0, none⟩)] from by simpa using hR5)
  have Q1 := hid hO5
  have RR5 := hid (hC5.row (RR3.out.drewN _) (fun e => by rcases e with e | e; exact hg e.symm; exact h1 e))
  have P5 := hid ((P2.out.le (le_drewN _ _)).chgS hC5 (fun i a b e => by rcases e with e | e; (subst e; exact g2 ⟨a, b⟩); omega))
  have C5 := hid (((C3.out.mono (T := fun i => i = g ∨ i = r ∨ lo ≤ i ∧ i < hi ∨ lo2 ≤ i ∧ i < hi2) (fun i e => .inr (.inl e))).le (le_drewN _ _)).trans (hC5.mono (fun i e => by rcases e with e | e; exact .inl e; exact .inr (.inr (.inl e)))))
  clear hR5 hO5 hC5 P1 P2 R3 RR3 C3
  go_wp2_with (with_reducible refine wpList_farith (op := .add) rfl rfl rfl rfl rfl ?_; intro r4 n4 hr4 hf4)
  refine (i_come lo2 hi2 t q.y q.ny q.k _ g 15 _ _ _ (P5.out.le (le_drewN _ _)) (R5.out.drewN _) rfl rfl rfl g2 OK.out.k1 OK.out.ny2 hf4.out).mono ?_
  rintro e w6 ⟨⟨v6, rfl⟩, hR6, hO6, hC6⟩
  have E2 : comeX q.y q.k r4 = (stepB q sp).y := by unfold comeX; rw [n2_of HV.out HW.out hr4.out]; rfl
  rw [E2] at hR6 hO6
  have R6 := hid hR6; have O6 := hid hO6; have C6 := hid hC6
  clear hR6 hO6 hC6
  go_wp2
  go_ret
  refine ⟨_, rfl, HY.out, FY.out, by simpa [stepB] using R6.out, ?_, ?_, O6.out, ?_⟩
  · exact C6.out.row (RR5.out.drewN _) (fun e => by rcases e with e | e; exact hg e.symm; exact h2 e)
  · exact (Q1.out.le (le_drewN _ _)).chgS C6.out (fun i a b e => by rcases e with e | e; (subst e; exact g1 ⟨a, b⟩); omega)
  · exact (C5.out.le (le_drewN _ _)).trans (C6.out.mono (fun i e => by rcases e with e | e; exact .inl e; exact .inr (.inr (.inr e))))
set_option maxRecDepth 100000 in
set_option maxHeartbeats 4000000 in
theorem i_bbehind (z0 z1 s t : Value) (jz kz lx ly : Int) (g r : Nat) (q : BwS) (a1 a2 : Nat) (w : World) (R : Row w g 90 #[z0, .int .i64 jz, z1, .int .i64 kz, .int .i64 1, .float .f32 q.a, .float .f32 q.b, .float .f32 q.c, .float .f32 a1, .float .f32 a2, .float .f32 q.m, .float .f32 q.l, s, .int .i64 (q.j : Nat), .int .i64 lx, t, .int .i64 (q.k : Nat), .int .i64 ly, .pointer (some ⟨r, 0, none⟩)]) (RR : Row w r 103 #[mdl 1 q.a q.b q.c, .float .f32 q.p, .float .f32 q.q]) (hg : g ≠ r) (hs : s.oneCell' = true) (ht : t.oneCell' = true) :
    Calls Try.prog 37 #[.pointer (some ⟨g, 0, none⟩)] w fun e w' => e = .returned (.agg #[s, .int .i64 (q.j : Nat), t, .int .i64 (q.k : Nat), .int .i64 1, .float .f32 q.a, .float .f32 q.b, .float .f32 q.c, .float .f32 q.p, .float .f32 q.q, .float .f32 q.m, .float .f32 q.l]) ∧ Chg (· = g) w w' := by
  have HR := hid (show Row (w.alloc (.cells #[.slice none 0 0, .int .i64 0, .slice none 0 0, .int .i64 0, .int .i64 0, .float .f32 0, .float .f32 0, .float .f32 0, .float .f32 0, .float .f32 0, .float .f32 0, .float .f32 0] 38)) g 90 (mk4 z0 (.int .i64 jz) z1 (.int .i64 kz) [.int .i64 1, .float .f32 q.a, .float .f32 q.b, .float .f32 q.c, .float .f32 a1, .float .f32 a2, .float .f32 q.m, .float .f32 q.l, s, .int .i64 (q.j : Nat), .int .i64 lx, t, .int .i64 (q.k : Nat), .int .i64 ly, .pointer (some ⟨r, 0, none⟩)]) from R.le (le_alloc w _))
  have HRR := hid (RR.le (le_alloc w (.cells #[.slice none 0 0, .int .i64 0, .slice none 0 0, .int .i64 0, .int .i64 0, .float .f32 0, .float .f32 0, .float .f32 0, .float .f32 0, .float .f32 0, .float .f32 0, .float .f32 0] 38)))
  have RN := hid (Row.new w 38 #[.slice none 0 0, .int .i64 0, .slice none 0 0, .int .i64 0, .int .i64 0, .float .f32 0, .float .f32 0, .float .f32 0, .float .f32 0, .float .f32 0, .float .f32 0, .float .f32 0])
  have hgl := R.lt
  have C0 := hid (Chg.of_le (S := (· = g)) (le_alloc w (.cells #[.slice none 0 0, .int .i64 0, .slice none 0 0, .int .i64 0, .int .i64 0, .float .f32 0, .float .f32 0, .float .f32 0, .float .f32 0, .float .f32 0, .float .f32 0, .float .f32 0] 38)))
  clear R RR
  go_enter Try.func37, Try.ntmps37
  go_wp2
  obtain ⟨W, hW⟩ : ∃ W, W = w.alloc (.cells #[.slice none 0 0, .int .i64 0, .slice none 0 0, .int .i64 0, .int .i64 0, .float .f32 0, .float .f32 0, .float .f32 0, .float .f32 0, .float .f32 0, .float .f32 0, .float .f32 0] 38) := ⟨_, rfl⟩
  rw [← hW] at HR HRR RN C0 ⊢
  clear hW
  refine region_freeD (E := prX g 90 [.int .i64 1, .float .f32 q.a, .float .f32 q.b, .float .f32 q.c, .float .f32 a1, .float .f32 a2, .float .f32 q.m, .float .f32 q.l, s, .int .i64 (q.j : Nat), .int .i64 lx, t, .int .i64 (q.k : Nat), .int .i64 ly, .pointer (some ⟨r, 0, none⟩)] s (.int .i64 (q.j : Nat)) t (.int .i64 (q.k : Nat))) (fun _ _ _ _ => True) (by kernel_rfl) (by kernel_rfl) ?_
  refine wpFreeD_one rfl (.pointer (some ⟨g, 0, none⟩)) (fun wa _ => by kernel_rfl) ?_
  simp only [Act.put, List.setIfInBounds_toArray, List.set_cons_succ, List.set_cons_zero]
  refine wpFreeD_one rfl (.pointer (some ⟨g, 0, none⟩)) (fun wa _ => by kernel_rfl) ?_
  simp only [Act.put, List.setIfInBounds_toArray, List.set_cons_succ, List.set_cons_zero]
  refine wpFreeD_one rfl (.pointer (some ⟨g, 0, none⟩)) (fun wa _ => by kernel_rfl) ?_
  simp only [Act.put, List.setIfInBounds_toArray, List.set_cons_succ, List.set_cons_zero]
  refine wpFreeD_one rfl (.pointer (some ⟨g, 0, none⟩)) (fun wa _ => by kernel_rfl) ?_
  simp only [Act.put, List.setIfInBounds_toArray, List.set_cons_succ, List.set_cons_zero]
  refine wpFreeD_one rfl (.pointer (some ⟨g, 12, none⟩)) (fun wa _ => by kernel_rfl) ?_
  simp only [Act.put, List.setIfInBounds_toArray, List.set_cons_succ, List.set_cons_zero]
  refine wpFreeD_one rfl (.pointer (some ⟨g, 12, none⟩)) (fun wa _ => by kernel_rfl) ?_
  simp only [Act.put, List.setIfInBounds_toArray, List.set_cons_succ, List.set_cons_zero]
  refine wpFreeD_loadW rfl rfl rfl [s, .int .i64 (q.j : Nat)] (fun wa ha => by
    obtain ⟨d0, d1, d2, d3, hr, _⟩ := ha.2 _ _ _ _ (HR.out.drewN 1)
    exact Row.at_part hr (fun j hj => by match j, hj with | 0, _ => rfl | 1, _ => rfl)) Try.underlying35 rfl uinfoRingI rfl ?_
  simp only [Act.put, List.setIfInBounds_toArray, List.set_cons_succ, List.set_cons_zero]
  refine wpFreeD_one rfl (.pointer (some ⟨g, 0, none⟩)) (fun wa _ => by kernel_rfl) ?_
  simp only [Act.put, List.setIfInBounds_toArray, List.set_cons_succ, List.set_cons_zero]
  refine wpFreeD_one rfl (.pointer (some ⟨g, 0, none⟩)) (fun wa _ => by kernel_rfl) ?_
  simp only [Act.put, List.setIfInBounds_toArray, List.set_cons_succ, List.set_cons_zero]
  refine wpFreeD_one rfl (.pointer (some ⟨g, 15, none⟩)) (fun wa _ => by kernel_rfl) ?_
  simp only [Act.put, List.setIfInBounds_toArray, List.set_cons_succ, List.set_cons_zero]
  refine wpFreeD_one rfl (.pointer (some ⟨g, 15, none⟩)) (fun wa _ => by kernel_rfl) ?_
  simp only [Act.put, List.setIfInBounds_toArray, List.set_cons_succ, List.set_cons_zero]
  refine wpFreeD_loadW rfl rfl rfl [t, .int .i64 (q.k : Nat)] (fun wa ha => by
    obtain ⟨d0, d1, d2, d3, hr, _⟩ := ha.2 _ _ _ _ (HR.out.drewN 1)
    exact Row.at_part hr (fun j hj => by match j, hj with | 0, _ => rfl | 1, _ => rfl)) Try.underlying35 rfl uinfoRingI rfl ?_
  simp only [Act.put, List.setIfInBounds_toArray, List.set_cons_succ, List.set_cons_zero]
  refine wpFreeD_one rfl (.pointer (some ⟨g, 0, none⟩)) (fun wa _ => by kernel_rfl) ?_
  simp only [Act.put, List.setIfInBounds_toArray, List.set_cons_succ, List.set_cons_zero]
  refine wpFreeD_one rfl (.pointer (some ⟨g, 0, none⟩)) (fun wa _ => by kernel_rfl) ?_
  simp only [Act.put, List.setIfInBounds_toArray, List.set_cons_succ, List.set_cons_zero]
  refine wpFreeD_one rfl (.pointer (some ⟨g, 0, none⟩)) (fun wa _ => by kernel_rfl) ?_
  simp only [Act.put, List.setIfInBounds_toArray, List.set_cons_succ, List.set_cons_zero]
  refine wpFreeD_storeA rfl rfl rfl rfl uinfoRingI (by simp only [List.all_toArray', List.all_cons, List.all_nil, hs]; rfl) ⟨_, _, _, _, HR.out.drewN 1⟩ ?_
  simp only [Act.put, List.setIfInBounds_toArray, List.set_cons_succ, List.set_cons_zero]
  refine wpFreeD_one rfl (.pointer (some ⟨g, 0, none⟩)) (fun wa _ => by kernel_rfl) ?_
  simp only [Act.put, List.setIfInBounds_toArray, List.set_cons_succ, List.set_cons_zero]
  refine wpFreeD_one rfl (.pointer (some ⟨g, 0, none⟩)) (fun wa _ => by kernel_rfl) ?_
  simp only [Act.put, List.setIfInBounds_toArray, List.set_cons_succ, List.set_cons_zero]
  refine wpFreeD_one rfl (.pointer (some ⟨g, 2, none⟩)) (fun wa _ => by kernel_rfl) ?_
  simp only [Act.put, List.setIfInBounds_toArray, List.set_cons_succ, List.set_cons_zero]
  refine wpFreeD_storeB rfl rfl rfl rfl uinfoRingI (by simp only [List.all_toArray', List.all_cons, List.all_nil, ht]; rfl) ⟨_, _, _, _, HR.out.drewN 1⟩ ?_
  simp only [Act.put, List.setIfInBounds_toArray, List.set_cons_succ, List.set_cons_zero]
  refine wpFreeD_nil (fun w3 hw3 hF => ?_)
  obtain ⟨d2, d3, r1⟩ := (hF 15).1.1.1.1.2 rfl
  obtain ⟨d0, d1, r2⟩ := (hF 19).2 rfl
  obtain ⟨e0, e1, e2, e3⟩ := mk4_inj (r1.uniq4 r2)
  rw [e2, e3] at r1
  have C3 := hid ((C0.out.le (le_drewN W 1)).trans hw3.1)
  have R3 := hid (show Row w3 g 90 #[s, .int .i64 (q.j : Nat), t, .int .i64 (q.k : Nat), .int .i64 1, .float .f32 q.a, .float .f32 q.b, .float .f32 q.c, .float .f32 a1, .float .f32 a2, .float .f32 q.m, .float .f32 q.l, s, .int .i64 (q.j : Nat), .int .i64 lx, t, .int .i64 (q.k : Nat), .int .i64 ly, .pointer (some ⟨r, 0, none⟩)] from r1)
  have RR3 := hid (hw3.1.row (HRR.out.drewN 1) (fun e => hg e.symm))
  have N3 := hid (hw3.1.row (RN.out.drewN 1) (fun e => by have e' : w.heap.size = g := e; omega))
  clear hF hw3 r1 r2 HR HRR RN C0 e0 e1 e2 e3
  have c18 := R3.out.cell? 18
  go_wp2_with (first | ((with_reducible refine at_loadU rfl rfl ?_); (with_reducible refine wpList_loadPR RR3.out rfl rfl rfl Try.underlying27 rfl [.float .f32 q.p, .float .f32 q.q] (midOf [mdl 1 q.a q.b q.c] [.float .f32 q.p, .float .f32 q.q] [] 1 rfl) info2 rfl ?_)) | (with_reducible refine stop_store rfl ?_))
  show wpList _ _ _ _ _ _
  refine wpList_storeP rfl rfl rfl (f := 8) (cells := [.float .f32 q.p, .float .f32 q.q]) rfl R3.out info2 (by simp) (by simp [Value.oneCell']) (fun w4 K => ?_)
  have C4 := hid (C3.out.wrote K rfl)
  have R4 := hid (show Row w4 g 90 #[s, .int .i64 (q.j : Nat), t, .int .i64 (q.k : Nat), .int .i64 1, .float .f32 q.a, .float .f32 q.b, .float .f32 q.c, .float .f32 q.p, .float .f32 q.q, .float .f32 q.m, .float .f32 q.l, s, .int .i64 (q.j : Nat), .int .i64 lx, t, .int .i64 (q.k : Nat), .int .i64 ly, .pointer (some ⟨r, 0, none⟩)] from K.row)
  have N4 := hid (K.other _ _ _ (by omega) N3.out)
  clear K R3 RR3 C3 N3 c18
  go_wp2_with (first | ((with_reducible refine at_loadU rfl rfl ?_); (with_reducible refine wpList_loadPR R4.out rfl rfl rfl Try.underlying38 rfl [s, .int .i64 (q.j : Nat), t, .int .i64 (q.k : Nat), .int .i64 1, .float .f32 q.a, .float .f32 q.b, .float .f32 q.c, .float .f32 q.p, .float .f32 q.q, .float .f32 q.m, .float .f32 q.l] (midOf [] [s, .int .i64 (q.j : Nat), t, .int .i64 (q.k : Nat), .int .i64 1, .float .f32 q.a, .float .f32 q.b, .float .f32 q.c, .float .f32 q.p, .float .f32 q.q, .float .f32 q.m, .float .f32 q.l] [s, .int .i64 (q.j : Nat), .int .i64 lx, t, .int .i64 (q.k : Nat), .int .i64 ly, .pointer (some ⟨r, 0, none⟩)] 0 rfl) uinfoBowI rfl ?_)) | (with_reducible refine stop_store rfl ?_))
  show wpList _ _ _ _ _ _
  refine wpList_storeD rfl rfl rfl (cells := #[s, .int .i64 (q.j : Nat), t, .int .i64 (q.k : Nat), .int .i64 1, .float .f32 q.a, .float .f32 q.b, .float .f32 q.c, .float .f32 q.p, .float .f32 q.q, .float .f32 q.m, .float .f32 q.l]) rfl N4.out uinfoBowI rfl (by simp only [List.all_toArray', List.all_cons, List.all_nil, hs, ht]; rfl) (fun w5 K => ?_)
  have R5 := hid K.row
  have C5 : Hid (Chg (· = g) w w5) := ⟨(K.below w.heap.size w4 (Below.refl _ _) (Nat.le_refl _)).os.trans C4.out.os, (K.below w.heap.size w4 (Below.refl _ _) (Nat.le_refl _)).tape.trans C4.out.tape, (K.below w.heap.size w4 (Below.refl _ _) (Nat.le_refl _)).output.trans C4.out.output, Nat.le_trans C4.out.size (K.below w.heap.size w4 (Below.refl _ _) (Nat.le_refl _)).size, fun k h1 h2 => ((K.below w.heap.size w4 (Below.refl _ _) (Nat.le_refl _)).block k h1).trans (C4.out.block k h1 h2)⟩
  clear K C4 R4 N4
  go_wp2
  exact bodyPost_ret (results_row1 rfl _ _ _ _ _ rfl R5.out Try.underlying38 rfl uinfoBowI) rfl ⟨rfl, C5.out⟩
set_option maxRecDepth 100000 in
set_option maxHeartbeats 4000000 in
theorem s_l05StepBow (q : BwS) (sp : Nat) (s t : Value) (lo hi lo2 hi2 g : Nat) (w : World) (R : Row w g 38 #[s, .int .i64 (q.j : Nat), t, .int .i64 (q.k : Nat), .int .i64 1, .float .f32 q.a, .float .f32 q.b, .float .f32 q.c, .float .f32 q.p, .float .f32 q.q, .float .f32 q.m, .float .f32 q.l]) (O1 : OwnS w lo hi s q.x q.nx) (O2 : OwnS w lo2 hi2 t q.y q.ny) (ok : q.Ok) (hsp : fits .f32 sp) (g1 : ¬ (lo ≤ g ∧ g < hi)) (g2 : ¬ (lo2 ≤ g ∧ g < hi2)) (hd : hi ≤ lo2 ∨ hi2 ≤ lo) :
    Calls Try.prog 35 #[.pointer (some ⟨g, 0, none⟩), .float .f32 sp] w fun e w' => ∃ o, e = .returned (.float .f32 o) ∧ can .f32 o = q.y q.k ∧ fits .f32 o ∧ Row w' g 38 #[s, .int .i64 ((stepB q sp).j : Nat), t, .int .i64 ((stepB q sp).k : Nat), .int .i64 1, .float .f32 (stepB q sp).a, .float .f32 (stepB q sp).b, .float .f32 (stepB q sp).c, .float .f32 (stepB q sp).p, .float .f32 (stepB q sp).q, .float .f32 (stepB q sp).m, .float .f32 (stepB q sp).l] ∧ OwnS w' lo hi s (stepB q sp).x q.nx ∧ OwnS w' lo2 hi2 t (stepB q sp).y q.ny ∧ Chg (fun i => i = g ∨ lo ≤ i ∧ i < hi ∨ lo2 ≤ i ∧ i < hi2) w w' := by
  have HM := hid (fun (w' : World) (hl : le w w') => s_l05Draw q.x q.y q.nx q.ny q.j q.k q.a q.b q.c q.p q.q q.m q.l sp s t lo hi lo2 hi2 g w' (R.le hl) (O1.le hl) (O2.le hl) ok.j1 ok.k1 ok.nx2 ok.ny2 g1 ok.f ok.fp)
  have HO1 := hid O1; have HOO := hid O2
  rcases O2 with ⟨rfl, h0⟩ | ⟨d2, o2, cap2, ds2, rfl, hc2, hm2, hb2, hb2', hrow2, hx2⟩
  · have := ok.ny1; omega
  obtain ⟨yk, ey, fy, cy⟩ := hx2 q.k ok.k1
  have c2 := R.cell? 2
  have c3 := R.cell? 3
  have cb : w.cell? ⟨d2, o2 + q.k, none⟩ = some (.float .f32 yk) := (hrow2.cell? (o2 + q.k)).trans ey
  have k1 := ok.k1
  have ny2 := ok.ny2
  have HR := hid R; have HY := hid cy; have FY := hid fy; have OK := hid ok
  clear R O1 hrow2 hx2 ey cy fy ok
  unfold maxLen at hm2
  go_enter Try.func35, Try.ntmps35
  go_wp2_with fail
  refine wp_region_loose (fun _ _ _ => True) (by kernel_rfl) (by kernel_rfl) ?_
  repeat (first | (refine wpLoose_quiet rfl ?_; go_big_quiet_step (fail); refine wpQuiet_nil ?_) | (refine wpLoose_nilP rfl rfl rfl ?_; simp only [Act.put, List.setIfInBounds_toArray, List.set_cons_succ, List.set_cons_zero]))
  refine wpLoose_nil (fun m1 => ?_)
  clear c2 c3 cb
  have L1 := hid (le_drewN w m1)
  go_wp2_with (first | (go_at_call 25; ((with_reducible refine (HM.out _ L1.out).mono ?_); rintro e w2 ⟨u, v, d, rfl, hu, hv, hd2, fu, fv, fd, hR2, hC⟩; have HU : Hid (can .f32 u = uB q) := hu; have HV : Hid (can .f32 v = vB q) := hv; have HD : Hid (can .f32 d = dB q sp) := hd2; have R2 := hid hR2; have C2 : Hid (Chg (· = g) w w2) := (Chg.of_le L1.out).trans hC; have c10 := R2.out.cell? 10; clear hu hv hd2 hR2 hC)) | (go_at_call 26; ((with_reducible refine (s_l05Friction q.m d _).mono ?_); rintro e w3 ⟨fr, rfl, hf, hl3⟩; have HF := hid hf; have L3 := hid hl3; clear hf hl3)) | (with_reducible refine wpList_farith (op := .mul) rfl rfl rfl rfl rfl ?_; intro r2 n2 hr2 hf2))
  have HW := hid (wB_of HD.out HF.out hr2.out)
  have C3 : Hid (Chg (· = g) w w3) := C2.out.le L3.out
  have R3 := hid (R2.out.le L3.out)
  have P1 : Hid (OwnS w3 lo hi s q.x q.nx) := HO1.out.chgS C3.out (fun i a b e => g1 (by have e' : i = g := e; subst e'; exact ⟨a, b⟩))
  have P2 : Hid (OwnS w3 lo2 hi2 (.slice (some ⟨d2, o2, none⟩) q.ny cap2) q.y q.ny) := HOO.out.chgS C3.out (fun i a b e => g2 (by have e' : i = g := e; subst e'; exact ⟨a, b⟩))
  clear HM HO1 HOO c10 R2 C2
  go_wp2_with fail
  refine wp_region_tail (fun _ _ v => v = .float .f32 (n1B q sp)) 7 (by kernel_rfl) (by kernel_rfl) ?_; simp only [List.take_succ_cons, List.take_zero, List.drop_succ_cons, List.drop_zero]
  repeat (first | (with_reducible refine wpLoose_farith rfl rfl rfl rfl rfl ?_; intro ra hra hfa; simp only [Act.put, List.setIfInBounds_toArray, List.set_cons_succ, List.set_cons_zero]) | (refine wpLoose_quiet rfl ?_; go_big_quiet_step (fail); refine wpQuiet_nil ?_) | (refine wpLoose_nilP rfl rfl rfl ?_; simp only [Act.put, List.setIfInBounds_toArray, List.set_cons_succ, List.set_cons_zero]))
  refine wpLoose_any rfl (· = .float .f32 (n1B q sp)) (fun m0 => ?_) ?_
  · go_simp
    refine (s_Kept _ _ hfa.out).mono ?_
    rintro e w9 ⟨rfl, m2, rfl⟩
    exact ⟨_, rfl, by rw [n1_of HU.out HW.out hra.out], m0 + m2, by first | (go_simp; done) | (go_simp; rw [Nat.add_assoc])⟩
  rintro v0 rfl
  simp only [Act.put, List.setIfInBounds_toArray, List.set_cons_succ, List.set_cons_zero]
  repeat (refine wpLoose_quiet rfl ?_; go_big_quiet_step (fail); refine wpQuiet_nil ?_)
  refine wpLoose_nil (fun m3 => ?_)
  go_wp2_with (go_at_call 60; ((with_reducible refine (s_l02Push lo hi s q.x q.nx q.j (n1B q sp) g 0 _ _ _ (P1.out.le (le_drewN _ _)) (R3.out.drewN _) rfl rfl g1 OK.out.j1 OK.out.nx2 (fits_n1 q sp)).mono ?_); rintro e w5 ⟨o5, rfl, _, _, hR5, hO5, hC5⟩))
  have R5 := hid (show Row w5 g 38 #[s, .int .i64 ((q.j + 1) % q.nx : Nat), (.slice (some ⟨d2, o2, none⟩) q.ny cap2), .int .i64 (q.k : Nat), .int .i64 1, .float .f32 q.a, .float .f32 q.b, .float .f32 q.c, .float .f32 (pB q), .float .f32 (qB q), .float .f32 q.m, .float .f32 q.l] from by simpa [pB, qB] using hR5)
  have Q1 := hid hO5
  have P5 := hid ((P2.out.le (le_drewN _ _)).chgS hC5 (fun i a b e => by rcases e with e | e; (subst e; exact g2 ⟨a, b⟩); omega))
  have C5 := hid (((C3.out.mono (T := fun i => i = g ∨ lo ≤ i ∧ i < hi ∨ lo2 ≤ i ∧ i < hi2) (fun i e => .inl e)).le (le_drewN _ _)).trans (hC5.mono (fun i e => by rcases e with e | e; exact .inl e; exact .inr (.inl e))))
  clear hR5 hO5 hC5 P1 P2 R3 C3
  go_wp2_with fail
  refine wp_region_tail (fun _ _ v => v = .float .f32 (n2B q sp)) 7 (by kernel_rfl) (by kernel_rfl) ?_; simp only [List.take_succ_cons, List.take_zero, List.drop_succ_cons, List.drop_zero]
  repeat (first | (with_reducible refine wpLoose_farith rfl rfl rfl rfl rfl ?_; intro ra hra hfa; simp only [Act.put, List.setIfInBounds_toArray, List.set_cons_succ, List.set_cons_zero]) | (refine wpLoose_quiet rfl ?_; go_big_quiet_step (fail); refine wpQuiet_nil ?_) | (refine wpLoose_nilP rfl rfl rfl ?_; simp only [Act.put, List.setIfInBounds_toArray, List.set_cons_succ, List.set_cons_zero]))
  refine wpLoose_any rfl (· = .float .f32 (n2B q sp)) (fun m0 => ?_) ?_
  · go_simp
    refine (s_Kept _ _ hfa.out).mono ?_
    rintro e w9 ⟨rfl, m2, rfl⟩
    exact ⟨_, rfl, by rw [n2_of HV.out HW.out hra.out], m0 + m2, by first | (go_simp; done) | (go_simp; rw [Nat.add_assoc])⟩
  rintro v0 rfl
  simp only [Act.put, List.setIfInBounds_toArray, List.set_cons_succ, List.set_cons_zero]
  repeat (refine wpLoose_quiet rfl ?_; go_big_quiet_step (fail); refine wpQuiet_nil ?_)
  refine wpLoose_nil (fun m3 => ?_)
  go_wp2_with (go_at_call 60; ((with_reducible refine (s_l02Push lo2 hi2 _ q.y q.ny q.k (n2B q sp) g 2 _ _ _ (P5.out.le (le_drewN _ _)) (R5.out.drewN _) rfl rfl g2 OK.out.k1 OK.out.ny2 (fits_n2 q sp)).mono ?_); rintro e w6 ⟨o6, rfl, _, _, hR6, hO6, hC6⟩))
  go_ret
  refine ⟨_, rfl, HY.out, FY.out, by simpa [stepB] using hR6, ?_, hO6, ?_⟩
  · exact (Q1.out.le (le_drewN _ _)).chgS hC6 (fun i a b e => by rcases e with e | e; (subst e; exact g1 ⟨a, b⟩); omega)
  · exact (C5.out.le (le_drewN _ _)).trans (hC6.mono (fun i e => by rcases e with e | e; exact .inl e; exact .inr (.inr e)))
end Go.Proofs.Ythjdklolbkhbfaa

/- Copies of a Bow: the model's. -/
namespace Go.Proofs.Ythjdklolbkhbfaa
open Go.RowKit Go.Fk
set_option maxRecDepth 100000 in
set_option maxHeartbeats 4000000 in
theorem s_l05CopyBow (x y : Nat → Nat) (nx ny : Nat) (j k : Int) (fk : Int) (a b c p q : Nat) (m o : Nat) (B : Nat) (s t : Value) (w : World) (g0 : Nat) (RR : Row w g0 38 #[s, .int .i64 j, t, .int .i64 k, .int .i64 fk, .float .f32 a, .float .f32 b, .float .f32 c, .float .f32 p, .float .f32 q, .float .f32 m, .float .f32 o]) (hs : RdS w B s x nx) (ht : RdS w B t y ny) (hx : 1 ≤ nx ∧ nx ≤ 1024) (hy : 1 ≤ ny ∧ ny ≤ 1024) :
    Calls Try.prog 24 #[.pointer (some ⟨g0, 0, none⟩)] w fun e w' => ∃ s1 t1, e = .returned (.agg #[s1, .int .i64 j, t1, .int .i64 k, .int .i64 fk, .float .f32 a, .float .f32 b, .float .f32 c, .float .f32 p, .float .f32 q, .float .f32 m, .float .f32 o]) ∧ Two w.heap.size x nx y ny s1 t1 w' ∧ le w w' := by
  have F := (Frg.nil w).box 38 #[.slice none 0 0, .int .i64 0, .slice none 0 0, .int .i64 0, .int .i64 0, .float .f32 0, .float .f32 0, .float .f32 0, .float .f32 0, .float .f32 0, .float .f32 0, .float .f32 0]
  have hg0 : g0 < w.heap.size := RR.lt
  have HR := hid RR; have HS := hid hs; have HT := hid ht; clear RR hs ht
  go_enter Try.func24, Try.ntmps24
  go_wp2_with fail
  obtain ⟨W, hW⟩ : ∃ W, W = w.alloc (.cells #[.slice none 0 0, .int .i64 0, .slice none 0 0, .int .i64 0, .int .i64 0, .float .f32 0, .float .f32 0, .float .f32 0, .float .f32 0, .float .f32 0, .float .f32 0, .float .f32 0] 38) := ⟨_, rfl⟩
  rw [← hW] at F ⊢
  have hz : W.heap.size = w.heap.size + 1 := by rw [hW]; simp
  clear hW
  have HZ := hid hz; clear hz
  have G := F.drewN 1
  have hle : le w (W.drewN 1) := G.below
  have hRw : ∀ w1, (outX w.heap.size 38 12 (FinC w.heap.size x nx y ny (fun s1 t1 => #[s1, .int .i64 j, t1, .int .i64 k, .int .i64 fk, .float .f32 a, .float .f32 b, .float .f32 c, .float .f32 p, .float .f32 q, .float .f32 m, .float .f32 o])) (FinC_le _ _ _ _ _ _)).R (W.drewN 1) w1 → Row w1 g0 38 #[s, .int .i64 j, t, .int .i64 k, .int .i64 fk, .float .f32 a, .float .f32 b, .float .f32 c, .float .f32 p, .float .f32 q, .float .f32 m, .float .f32 o] := fun w1 h1 => h1.1.row (HR.out.le hle) (by omega)
  have hSw : ∀ w1, (outX w.heap.size 38 12 (FinC w.heap.size x nx y ny (fun s1 t1 => #[s1, .int .i64 j, t1, .int .i64 k, .int .i64 fk, .float .f32 a, .float .f32 b, .float .f32 c, .float .f32 p, .float .f32 q, .float .f32 m, .float .f32 o])) (FinC_le _ _ _ _ _ _)).R (W.drewN 1) w1 → RdS w1 B s x nx := fun w1 h1 => HS.out.chgG hle h1.1
  have hTw : ∀ w1, (outX w.heap.size 38 12 (FinC w.heap.size x nx y ny (fun s1 t1 => #[s1, .int .i64 j, t1, .int .i64 k, .int .i64 fk, .float .f32 a, .float .f32 b, .float .f32 c, .float .f32 p, .float .f32 q, .float .f32 m, .float .f32 o])) (FinC_le _ _ _ _ _ _)).R (W.drewN 1) w1 → RdS w1 B t y ny := fun w1 h1 => HT.out.chgG hle h1.1
  have HRw := hid hRw; have HSw := hid hSw; have HTw := hid hTw; clear hRw hSw hTw
  refine region_freeZ (E := outX w.heap.size 38 12 (FinC w.heap.size x nx y ny (fun s1 t1 => #[s1, .int .i64 j, t1, .int .i64 k, .int .i64 fk, .float .f32 a, .float .f32 b, .float .f32 c, .float .f32 p, .float .f32 q, .float .f32 m, .float .f32 o])) (FinC_le _ _ _ _ _ _)) (fun _ args z w1 v => (args = #[.pointer (some ⟨g0, 0, none⟩)] → Cp w.heap.size x nx j z w1 v) ∧ (args = #[.pointer (some ⟨g0, 2, none⟩)] → Cp w.heap.size y ny k z w1 v)) (by kernel_rfl) (by kernel_rfl) ?_
  refine wpFreeZ_one rfl (.pointer (some ⟨g0, 0, none⟩)) (fun w1 _ => by kernel_rfl) ?_
  simp only [Act.put, List.setIfInBounds_toArray, List.set_cons_succ, List.set_cons_zero]
  refine wpFreeZ_one rfl (.pointer (some ⟨g0, 0, none⟩)) (fun w1 _ => by kernel_rfl) ?_
  simp only [Act.put, List.setIfInBounds_toArray, List.set_cons_succ, List.set_cons_zero]
  refine wpFreeZ_one rfl (.pointer (some ⟨g0, 0, none⟩)) (fun w1 _ => by kernel_rfl) ?_
  simp only [Act.put, List.setIfInBounds_toArray, List.set_cons_succ, List.set_cons_zero]
  refine wpFreeZ_callW (by kernel_rfl) rfl Try.func45 (by kernel_rfl) (by kernel_rfl) (args := #[.pointer (some ⟨g0, 0, none⟩)]) (by simp [Act.eval]) (fun z v w1 w2 hw hv => ⟨fun e => cp_outX (hv.1 e) hw, fun e => cp_outX (hv.2 e) hw⟩) (fun w1 hw1 hbe => ?_) ?_
  · refine (s_l02Copy B s x nx j g0 0 w1 (HSw.out w1 hw1) ((HRw.out w1 hw1).cell? 0) ((HRw.out w1 hw1).cell? 1) hx.1 hx.2).mono ?_
    rintro e w2 ⟨s1, rfl, ho, hl⟩
    refine ⟨_, rfl, hl, fun _ => Cp.mk ho hx.1 (by have := hw1.1.size; have e0 : (W.drewN 1).heap.size = W.heap.size := rfl; have := HZ.out; omega), fun e => absurd e (by simp)⟩
  rintro v0 ⟨z, wv, _, hv⟩
  obtain ⟨s1, _, rfl, ho, _⟩ := hv.1 rfl
  have os := hid (own_one ho)
  clear hv ho
  simp only [Act.put, List.setIfInBounds_toArray, List.set_cons_succ, List.set_cons_zero]
  refine wpFreeZ_one rfl (.pointer (some ⟨g0, 0, none⟩)) (fun w1 _ => by kernel_rfl) ?_
  simp only [Act.put, List.setIfInBounds_toArray, List.set_cons_succ, List.set_cons_zero]
  refine wpFreeZ_one rfl (.pointer (some ⟨g0, 0, none⟩)) (fun w1 _ => by kernel_rfl) ?_
  simp only [Act.put, List.setIfInBounds_toArray, List.set_cons_succ, List.set_cons_zero]
  refine wpFreeZ_one rfl (.pointer (some ⟨g0, 2, none⟩)) (fun w1 _ => by kernel_rfl) ?_
  simp only [Act.put, List.setIfInBounds_toArray, List.set_cons_succ, List.set_cons_zero]
  refine wpFreeZ_callW (by kernel_rfl) rfl Try.func45 (by kernel_rfl) (by kernel_rfl) (args := #[.pointer (some ⟨g0, 2, none⟩)]) (by simp [Act.eval]) (fun z v w1 w2 hw hv => ⟨fun e => cp_outX (hv.1 e) hw, fun e => cp_outX (hv.2 e) hw⟩) (fun w1 hw1 hbe => ?_) ?_
  · refine (s_l02Copy B t y ny k g0 2 w1 (HTw.out w1 hw1) ((HRw.out w1 hw1).cell? 2) ((HRw.out w1 hw1).cell? 3) hy.1 hy.2).mono ?_
    rintro e w2 ⟨s1, rfl, ho, hl⟩
    refine ⟨_, rfl, hl, fun e => absurd e (by simp), fun _ => Cp.mk ho hy.1 (by have := hw1.1.size; have e0 : (W.drewN 1).heap.size = W.heap.size := rfl; have := HZ.out; omega)⟩
  rintro v2 ⟨z, wv, _, hv⟩
  obtain ⟨t1, _, rfl, ho, _⟩ := hv.2 rfl
  have ot := hid (own_one ho)
  clear hv ho
  simp only [Act.put, List.setIfInBounds_toArray, List.set_cons_succ, List.set_cons_zero]
  refine wpFreeZ_one rfl (.pointer (some ⟨g0, 0, none⟩)) (fun w1 _ => by kernel_rfl) ?_
  simp only [Act.put, List.setIfInBounds_toArray, List.set_cons_succ, List.set_cons_zero]
  refine wpFreeZ_one rfl (.pointer (some ⟨g0, 0, none⟩)) (fun w1 _ => by kernel_rfl) ?_
  simp only [Act.put, List.setIfInBounds_toArray, List.set_cons_succ, List.set_cons_zero]
  refine wpFreeZ_one rfl (.pointer (some ⟨g0, 4, none⟩)) (fun w1 _ => by kernel_rfl) ?_
  simp only [Act.put, List.setIfInBounds_toArray, List.set_cons_succ, List.set_cons_zero]
  refine wpFreeZ_loadW rfl rfl rfl [.int .i64 fk, .float .f32 a, .float .f32 b, .float .f32 c, .float .f32 p, .float .f32 q] (fun w1 h1 => Row.at_part (HRw.out w1 h1) (partBow_Damp (s) (.int .i64 j) (t) (.int .i64 k) (.int .i64 fk) (.float .f32 a) (.float .f32 b) (.float .f32 c) (.float .f32 p) (.float .f32 q) (.float .f32 m) (.float .f32 o))) Try.underlying36 rfl uinfoFilterI rfl ?_
  simp only [Act.put, List.setIfInBounds_toArray, List.set_cons_succ, List.set_cons_zero]
  refine wpFreeZ_one rfl (.pointer (some ⟨g0, 0, none⟩)) (fun w1 _ => by kernel_rfl) ?_
  simp only [Act.put, List.setIfInBounds_toArray, List.set_cons_succ, List.set_cons_zero]
  refine wpFreeZ_one rfl (.pointer (some ⟨g0, 0, none⟩)) (fun w1 _ => by kernel_rfl) ?_
  simp only [Act.put, List.setIfInBounds_toArray, List.set_cons_succ, List.set_cons_zero]
  refine wpFreeZ_one rfl (.pointer (some ⟨g0, 10, none⟩)) (fun w1 _ => by kernel_rfl) ?_
  simp only [Act.put, List.setIfInBounds_toArray, List.set_cons_succ, List.set_cons_zero]
  refine wpFreeZ_load1 rfl rfl rfl (p := ⟨g0, 10, none⟩) (fun w1 h1 => (HRw.out w1 h1).cell? 10) ukindFloat32 ?_
  simp only [Act.put, List.setIfInBounds_toArray, List.set_cons_succ, List.set_cons_zero]
  refine wpFreeZ_one rfl (.pointer (some ⟨g0, 0, none⟩)) (fun w1 _ => by kernel_rfl) ?_
  simp only [Act.put, List.setIfInBounds_toArray, List.set_cons_succ, List.set_cons_zero]
  refine wpFreeZ_one rfl (.pointer (some ⟨g0, 0, none⟩)) (fun w1 _ => by kernel_rfl) ?_
  simp only [Act.put, List.setIfInBounds_toArray, List.set_cons_succ, List.set_cons_zero]
  refine wpFreeZ_one rfl (.pointer (some ⟨g0, 11, none⟩)) (fun w1 _ => by kernel_rfl) ?_
  simp only [Act.put, List.setIfInBounds_toArray, List.set_cons_succ, List.set_cons_zero]
  refine wpFreeZ_load1 rfl rfl rfl (p := ⟨g0, 11, none⟩) (fun w1 h1 => (HRw.out w1 h1).cell? 11) ukindFloat32 ?_
  simp only [Act.put, List.setIfInBounds_toArray, List.set_cons_succ, List.set_cons_zero]
  refine wpFreeZ_carry rfl (.agg #[s1, .int .i64 j, t1, .int .i64 k, .int .i64 fk, .float .f32 a, .float .f32 b, .float .f32 c, .float .f32 p, .float .f32 q, .float .f32 m, .float .f32 o]) (fun w1 _ => by kernel_rfl) (Two (w.heap.size + 1) x nx y ny s1 t1) (fun w1 w2 hw hv => two_outX hv hw) (fun w1 hw1 ⟨zs, hf, hc⟩ => ?_) ?_
  · refine Cp.two hx.1 hy.1 (F := _) (((hf ⟨3, Ground.data⟩ (by simp) (by kernel_rfl)).1.1.1.1.1.1.1.1.1.1.1.1.1.1.1.1.2 rfl).1 trivial) (((hf ⟨7, Ground.data⟩ (by simp) (by kernel_rfl)).1.1.1.1.1.1.1.1.1.1.1.1.2 rfl).2 trivial) (hc ⟨3, Ground.data⟩ (by simp) (by kernel_rfl) ⟨7, Ground.data⟩ (by simp) (by kernel_rfl) (by decide)) (fun w2 h => (h.1.1.1.1.1.1.1.1.1.1.1.1.1.1.1.1.2 rfl).1 trivial) (fun w2 h => (h.1.1.1.1.1.1.1.1.1.1.1.1.2 rfl).2 trivial)
  simp only [Act.put, List.setIfInBounds_toArray, List.set_cons_succ, List.set_cons_zero]
  refine wpFreeZ_out rfl rfl rfl (cells := #[s1, .int .i64 j, t1, .int .i64 k, .int .i64 fk, .float .f32 a, .float .f32 b, .float .f32 c, .float .f32 p, .float .f32 q, .float .f32 m, .float .f32 o]) rfl rfl (G.row m0) rfl (fun w1 w2 hw ⟨zs, hf, hc⟩ hch => ⟨s1, t1, rfl, (((hf ⟨20, Ground.data⟩ (by simp) (by kernel_rfl)).2 rfl).chg hch).lo (by omega)⟩) uinfoBowI rfl (by simp only [List.all_toArray, List.all_cons, List.all_nil, os.out, ot.out]; rfl) ?_
  refine wpFreeZ_nil (fun w3 zs hw3 hF _ => ?_)
  obtain ⟨cs, hr, s2, t2, rfl, h2⟩ := (hF 21).2 rfl
  have hlw : le w w3 := G.below.trans (hw3.1.below (B := w.heap.size) (fun k e => by omega) (by have e0 : (W.drewN 1).heap.size = W.heap.size := rfl; have := HZ.out; omega))
  go_wp2
  exact bodyPost_ret (results_row1 rfl _ _ _ _ _ rfl hr Try.underlying38 rfl uinfoBowI) rfl ⟨s2, t2, rfl, h2, hlw⟩
end Go.Proofs.Ythjdklolbkhbfaa

/- Small laws of steps over facts of memory. Nothing here names a program. -/
namespace Go.Fk
open Go Go.RowKit
theorem wf_nat {n : Nat} (h : n ≤ 1024) : (Lit.int .i64 (n : Int)).wf = true := by
  simp only [Lit.wf, IntKind.min, IntKind.max, IntKind.signed, IntKind.bits, Bool.and_eq_true, decide_eq_true_eq, if_true]
  constructor <;> omega
/-- What lies behind two facts stands when blocks from the second one on have turned. -/
theorem Frg.cut2 {w0 w w' : World} {L : List Fact} {a b : Fact} (h : Frg w0 w (a :: b :: L)) {S : Nat → Prop} (k : Chg S w w') (hS : ∀ i, S i → b.lo ≤ i) : Frg w0 w' L := by
  have hb := h.facts b (by simp)
  have p := List.pairwise_cons.1 (List.pairwise_cons.1 h.apart).2
  refine ⟨h.below.trans (k.below (fun i hi => Nat.le_trans hb.1 (hS i hi)) h.size), fun e he => ?_, p.2⟩
  have hx := h.facts e (by simp [he])
  have ha := p.1 e he
  exact ⟨hx.1, Nat.le_trans hx.2.1 k.size, e.ok w w' hx.2.2 (fun i h1 h2 => k.block i (by omega) (fun c => by have := hS i c; omega))⟩
theorem ret_bi {a b : Bool} {i : Int} (h : a = b) : Ending.returned (.tuple #[.bool a, .int .i64 i]) = .returned (.tuple #[.bool b, .int .i64 i]) := by rw [h]
end Go.Fk

/- 'StepBow' and 'SticksAt' of both. -/
namespace Go.Proofs.Ythjdklolbkhbfaa
open Go.RowKit Go.Fk
set_option maxRecDepth 100000 in
set_option maxHeartbeats 4000000 in
theorem i_StepBow_no (x y : Nat → Nat) (nx ny : Nat) (j k : Int) (fk : Int) (a b c p q : Nat) (m o : Nat) (sp : Nat) (B : Nat) (s t : Value) (w : World) (hs : (slT x nx).RdN w B s) (ht : (slT y ny).RdN w B t) (wf : (Lit.int .i64 j).wf = true ∧ (Lit.int .i64 k).wf = true) (hf : (fits .f32 a ∧ fits .f32 b ∧ fits .f32 c ∧ fits .f32 p ∧ fits .f32 q ∧ fits .f32 m ∧ fits .f32 o)) (hv : okBow x y nx ny j k fk a b c p q m o = false) :
    Calls Try.prog 12 #[.agg #[s, .int .i64 j, t, .int .i64 k, .int .i64 fk, .float .f32 a, .float .f32 b, .float .f32 c, .float .f32 p, .float .f32 q, .float .f32 m, .float .f32 o], .float .f32 sp] w (OutV_Tfi (cdBow (fun _ => 0) (fun _ => 0) 0 0 0 0 0 0 0 0 0 0 0 0) 0 1 w) := by
  have HV := hid (fun (w' : World) (hl : le w w') => hv ▸ i_ValidBow x y nx ny j k fk a b c p q m o B s t w' (hs.le hl) (ht.le hl) wf hf)
  clear hs ht wf hf hv
  have F := ((Frg.nil w).box 38 #[s, .int .i64 j, t, .int .i64 k, .int .i64 fk, .float .f32 a, .float .f32 b, .float .f32 c, .float .f32 p, .float .f32 q, .float .f32 m, .float .f32 o]).box 38 #[.slice none 0 0, .int .i64 0, .slice none 0 0, .int .i64 0, .int .i64 0, .float .f32 0, .float .f32 0, .float .f32 0, .float .f32 0, .float .f32 0, .float .f32 0, .float .f32 0]
  simp only [World.size_alloc] at F
  go_enter Try.func12, Try.ntmps12
  go_wp2_with (first | ((with_reducible refine at_loadU rfl rfl ?_); (with_reducible refine wpList_loadG F rfl rfl rfl (by first | exact m0 | exact m1 | exact m2 | exact m3 | exact m4 | exact m5 | exact m6 | exact m7 | exact m8 | exact m9 | exact m10 | exact m11) Try.underlying38 rfl uinfoBowI rfl ?_)) | (go_at_call 29; ((with_reducible refine (HV.out _ F.below).mono ?_); rintro e w1 ⟨rfl, hl⟩; replace F := F.le hl; clear hl)) | ((with_reducible refine stop_store rfl ?_)))
  show wpList _ _ _ _ _ _
  refine wpList_storeD rfl rfl rfl (cells := #[.slice none 0 0, .int .i64 0, .slice none 0 0, .int .i64 0, .int .i64 0, .float .f32 0, .float .f32 0, .float .f32 0, .float .f32 0, .float .f32 0, .float .f32 0, .float .f32 0]) rfl (F.row m0) uinfoBowI rfl (by simp [Value.oneCell']) (fun w4 K => ?_)
  have R := hid K.row
  have L := hid (F.wr0 K).below
  clear K F
  go_wp2
  exact bodyPost_ret (results_row3 rfl _ _ _ _ _ rfl R.out Try.underlying38 rfl uinfoBowI) rfl ⟨[.slice none 0 0, .int .i64 0, .slice none 0 0, .int .i64 0, .int .i64 0, .float .f32 0, .float .f32 0, .float .f32 0, .float .f32 0, .float .f32 0, .float .f32 0, .float .f32 0], _, rfl, layBow0 _ _, L.out, by decide⟩
set_option maxRecDepth 100000 in
set_option maxHeartbeats 4000000 in
theorem i_StepBow_yes (sp : Nat) (hsp : fits .f32 sp) (q : BwS) (B : Nat) (s t : Value) (w : World) (hs : (slT q.x q.nx).RdN w B s) (ht : (slT q.y q.ny).RdN w B t) (ok : q.Ok) (hv : (okBow q.x q.y q.nx q.ny (q.j : Nat) (q.k : Nat) 1 q.a q.b q.c q.p q.q q.m q.l) = true) (fy : fits .f32 (q.y q.k)) :
    Calls Try.prog 12 #[.agg #[s, .int .i64 (q.j : Nat), t, .int .i64 (q.k : Nat), .int .i64 1, .float .f32 q.a, .float .f32 q.b, .float .f32 q.c, .float .f32 q.p, .float .f32 q.q, .float .f32 q.m, .float .f32 q.l], .float .f32 sp] w (OutV_Tfi (cdBow (stepB q sp).x (stepB q sp).y (stepB q sp).nx (stepB q sp).ny ((stepB q sp).j : Nat) ((stepB q sp).k : Nat) 1 (stepB q sp).a (stepB q sp).b (stepB q sp).c (stepB q sp).p (stepB q sp).q (stepB q sp).m (stepB q sp).l) (q.y q.k) 0 w) := by
  have HV := hid (fun (w' : World) (hl : le w w') => hv ▸ i_ValidBow q.x q.y q.nx q.ny (q.j : Nat) (q.k : Nat) 1 q.a q.b q.c q.p q.q q.m q.l B s t w' (hs.le hl) (ht.le hl) ⟨wf_nat (Nat.le_trans (Nat.le_of_lt ok.j1) ok.nx2), wf_nat (Nat.le_trans (Nat.le_of_lt ok.k1) ok.ny2)⟩ ⟨ok.fa, ok.fb, ok.fc, ok.fp, ok.fq, ok.fm, ok.fl⟩)
  have HN := hid (fun (w' : World) (hl : le w w') => i_newDrawn q.x q.y q.nx q.ny (q.j : Nat) (q.k : Nat) 1 q.a q.b q.c q.p q.q q.m q.l B s t w' ((slT_rds hs).le hl) ((slT_rds ht).le hl) ⟨ok.nx1, ok.nx2⟩ ⟨ok.ny1, ok.ny2⟩ ⟨by decide, by decide⟩)
  have OK := hid ok; have OK2 := hid (ok.step sp fy)
  clear hs ht hv ok
  have F := ((Frg.nil w).box 38 #[s, .int .i64 (q.j : Nat), t, .int .i64 (q.k : Nat), .int .i64 1, .float .f32 q.a, .float .f32 q.b, .float .f32 q.c, .float .f32 q.p, .float .f32 q.q, .float .f32 q.m, .float .f32 q.l]).box 38 #[.slice none 0 0, .int .i64 0, .slice none 0 0, .int .i64 0, .int .i64 0, .float .f32 0, .float .f32 0, .float .f32 0, .float .f32 0, .float .f32 0, .float .f32 0, .float .f32 0]
  simp only [World.size_alloc] at F
  go_enter Try.func12, Try.ntmps12
  go_wp2_with (first | ((with_reducible refine at_loadU rfl rfl ?_); (with_reducible refine wpList_loadG F rfl rfl rfl (by first | exact m0 | exact m1 | exact m2 | exact m3 | exact m4 | exact m5 | exact m6 | exact m7 | exact m8 | exact m9 | exact m10 | exact m11) Try.underlying38 rfl uinfoBowI rfl ?_)) | (go_at_call 29; ((with_reducible refine (HV.out _ F.below).mono ?_); rintro e w1 ⟨rfl, hl⟩; replace F := F.le hl; clear hl)) | (go_at_call 30; ((with_reducible refine (HN.out _ F.below).mono ?_); rintro e w2 ⟨g, r, s1, t1, b0, d0, rfl, hRG, hRR, hO1, hO2, hne, l1, l2, ⟨l3, l4, l4'⟩, ⟨l5, l5', l5''⟩, l6, hl2⟩; have RG := hid hRG; have RR := hid hRR; have O1 := hid hO1; have O2 := hid hO2; have L2 := hid hl2; clear hRG hRR hO1 hO2 hl2)) | (go_at_call 36; ((with_reducible refine (i_bstep q sp q.p q.q s t s1 t1 (q.j : Nat) (q.k : Nat) b0 (b0 + 1) d0 (d0 + 1) g r _ RG.out RR.out O1.out O2.out OK.out (by omega) (by omega) (by omega) hsp (by omega) (by omega) (by omega)).mono ?_); rintro e w3 ⟨o3, rfl, ho3, fo3, hR3, hRR3, hP1, hP2, hC3⟩; have R3 := hid hR3; have RR3 := hid hRR3; have P1 := hid hP1; have P2 := hid hP2; have C3 := hid hC3; have HO3 := hid ho3; clear hR3 hRR3 hP1 hP2 hC3 ho3)) | (go_at_call 37; ((with_reducible refine (i_bbehind s t s1 t1 (q.j : Nat) (q.k : Nat) _ _ g r (stepB q sp) q.p q.q _ R3.out RR3.out (by omega) (own_one P1.out) (own_one P2.out)).mono ?_); rintro e w4 ⟨rfl, hC4⟩; have C4 := hid hC4; clear hC4)) | ((with_reducible refine stop_store rfl ?_)))
  show wpList _ _ _ _ _ _
  have hz1 := (F.row m0).lt
  have L4 : Below w1.heap.size w1 w4 := Below.trans L2.out (Below.trans (C3.out.below (B := w1.heap.size) (fun k e => by omega) L2.out.size) (C4.out.below (B := w1.heap.size) (fun k e => by have e' : k = g := e; omega) (Nat.le_trans L2.out.size C3.out.size)))
  replace F := F.le L4
  have os := P1.out.one; have ot := P2.out.one
  have P1c := P1.out.chgS C4.out (fun i a b e => by have e' : i = g := e; omega)
  have P2c := P2.out.chgS C4.out (fun i a b e => by have e' : i = g := e; omega)
  refine wpList_storeD rfl rfl rfl (cells := #[s1, .int .i64 ((stepB q sp).j : Nat), t1, .int .i64 ((stepB q sp).k : Nat), .int .i64 1, .float .f32 (stepB q sp).a, .float .f32 (stepB q sp).b, .float .f32 (stepB q sp).c, .float .f32 (stepB q sp).p, .float .f32 (stepB q sp).q, .float .f32 (stepB q sp).m, .float .f32 (stepB q sp).l]) rfl (F.row m0) uinfoBowI rfl (by simp only [List.all_toArray', List.all_cons, List.all_nil, os, ot]; rfl) (fun w9 K => ?_)
  have C := (Chg.refl (· = w.heap.size + 1) w4).wrote K rfl
  have zc := C.size; have zc3 := C3.out.size; have zc4 := C4.out.size
  have Q1 := P1c.chgS C (fun i a b e => by have e' : i = w.heap.size + 1 := e; omega)
  have Q2 := P2c.chgS C (fun i a b e => by have e' : i = w.heap.size + 1 := e; omega)
  have ok2 := OK2.out
  have R := hid K.row
  have L := hid (F.wr0 K).below
  have LY := hid (layBow (stepB q sp).x (stepB q sp).y (stepB q sp).nx (stepB q sp).ny ((stepB q sp).j : Nat) ((stepB q sp).k : Nat) 1 (stepB q sp).a (stepB q sp).b (stepB q sp).c (stepB q sp).p (stepB q sp).q (stepB q sp).m (stepB q sp).l (lo := w.heap.size) ⟨b0, d0, Q1, Q2, hne, by omega, by omega, by omega, by omega⟩ ⟨wf_nat (Nat.le_trans (Nat.le_of_lt ok2.j1) ok2.nx2), wf_nat (Nat.le_trans (Nat.le_of_lt ok2.k1) ok2.ny2), by decide⟩ ⟨ok2.fa, ok2.fb, ok2.fc, ok2.fp, ok2.fq, ok2.fm, ok2.fl⟩)
  clear K F C P1c P2c Q1 Q2 os ot ok2
  go_wp2
  exact bodyPost_ret (results_row3 rfl _ _ _ _ _ rfl R.out Try.underlying38 rfl uinfoBowI) rfl ⟨[s1, .int .i64 ((stepB q sp).j : Nat), t1, .int .i64 ((stepB q sp).k : Nat), .int .i64 1, .float .f32 (stepB q sp).a, .float .f32 (stepB q sp).b, .float .f32 (stepB q sp).c, .float .f32 (stepB q sp).p, .float .f32 (stepB q sp).q, .float .f32 (stepB q sp).m, .float .f32 (stepB q sp).l], o3, rfl, LY.out, L.out, HO3.out⟩
set_option maxRecDepth 100000 in
set_option maxHeartbeats 4000000 in
theorem s_StepBow_no (x y : Nat → Nat) (nx ny : Nat) (j k : Int) (fk : Int) (a b c p q : Nat) (m o : Nat) (sp : Nat) (B : Nat) (s t : Value) (w : World) (hs : (slT x nx).RdN w B s) (ht : (slT y ny).RdN w B t) (wf : (Lit.int .i64 j).wf = true ∧ (Lit.int .i64 k).wf = true) (hf : (fits .f32 a ∧ fits .f32 b ∧ fits .f32 c ∧ fits .f32 p ∧ fits .f32 q ∧ fits .f32 m ∧ fits .f32 o)) (hv : okBow x y nx ny j k fk a b c p q m o = false) :
    Calls Try.prog 11 #[.agg #[s, .int .i64 j, t, .int .i64 k, .int .i64 fk, .float .f32 a, .float .f32 b, .float .f32 c, .float .f32 p, .float .f32 q, .float .f32 m, .float .f32 o], .float .f32 sp] w (OutV_Tfi (cdBow (fun _ => 0) (fun _ => 0) 0 0 0 0 0 0 0 0 0 0 0 0) 0 1 w) := by
  have HV := hid (fun (g9 : Nat) (w' : World) (hl : le w w') (R : Row w' g9 38 #[s, .int .i64 j, t, .int .i64 k, .int .i64 fk, .float .f32 a, .float .f32 b, .float .f32 c, .float .f32 p, .float .f32 q, .float .f32 m, .float .f32 o]) => hv ▸ s_l05Bow x y nx ny j k fk a b c p q m o B s t w' g9 R (hs.le hl) (ht.le hl) wf hf)
  clear hs ht wf hf hv
  have F := ((Frg.nil w).box 38 #[s, .int .i64 j, t, .int .i64 k, .int .i64 fk, .float .f32 a, .float .f32 b, .float .f32 c, .float .f32 p, .float .f32 q, .float .f32 m, .float .f32 o]).box 38 #[.slice none 0 0, .int .i64 0, .slice none 0 0, .int .i64 0, .int .i64 0, .float .f32 0, .float .f32 0, .float .f32 0, .float .f32 0, .float .f32 0, .float .f32 0, .float .f32 0]
  simp only [World.size_alloc] at F
  go_enter Try.func11, Try.ntmps11
  go_wp2_with (first | ((with_reducible refine at_loadU rfl rfl ?_); (with_reducible refine wpList_loadG F rfl rfl rfl (by first | exact m0 | exact m1 | exact m2 | exact m3 | exact m4 | exact m5 | exact m6 | exact m7 | exact m8 | exact m9 | exact m10 | exact m11) Try.underlying38 rfl uinfoBowI rfl ?_)) | (go_at_call 23; ((with_reducible refine (HV.out _ _ F.below (F.row m1)).mono ?_); rintro e w1 ⟨rfl, hl⟩; replace F := F.le hl; clear hl)) | ((with_reducible refine stop_store rfl ?_)))
  show wpList _ _ _ _ _ _
  refine wpList_storeD rfl rfl rfl (cells := #[.slice none 0 0, .int .i64 0, .slice none 0 0, .int .i64 0, .int .i64 0, .float .f32 0, .float .f32 0, .float .f32 0, .float .f32 0, .float .f32 0, .float .f32 0, .float .f32 0]) rfl (F.row m0) uinfoBowI rfl (by simp [Value.oneCell']) (fun w4 K => ?_)
  have R := hid K.row
  have L := hid (F.wr0 K).below
  clear K F
  go_wp2
  exact bodyPost_ret (results_row3 rfl _ _ _ _ _ rfl R.out Try.underlying38 rfl uinfoBowI) rfl ⟨[.slice none 0 0, .int .i64 0, .slice none 0 0, .int .i64 0, .int .i64 0, .float .f32 0, .float .f32 0, .float .f32 0, .float .f32 0, .float .f32 0, .float .f32 0, .float .f32 0], _, rfl, layBow0 _ _, L.out, by decide⟩
set_option maxRecDepth 100000 in
set_option maxHeartbeats 4000000 in
theorem s_StepBow_yes (sp : Nat) (hsp : fits .f32 sp) (q : BwS) (B : Nat) (s t : Value) (w : World) (hs : (slT q.x q.nx).RdN w B s) (ht : (slT q.y q.ny).RdN w B t) (ok : q.Ok) (hv : (okBow q.x q.y q.nx q.ny (q.j : Nat) (q.k : Nat) 1 q.a q.b q.c q.p q.q q.m q.l) = true) (fy : fits .f32 (q.y q.k)) :
    Calls Try.prog 11 #[.agg #[s, .int .i64 (q.j : Nat), t, .int .i64 (q.k : Nat), .int .i64 1, .float .f32 q.a, .float .f32 q.b, .float .f32 q.c, .float .f32 q.p, .float .f32 q.q, .float .f32 q.m, .float .f32 q.l], .float .f32 sp] w (OutV_Tfi (cdBow (stepB q sp).x (stepB q sp).y (stepB q sp).nx (stepB q sp).ny ((stepB q sp).j : Nat) ((stepB q sp).k : Nat) 1 (stepB q sp).a (stepB q sp).b (stepB q sp).c (stepB q sp).p (stepB q sp).q (stepB q sp).m (stepB q sp).l) (q.y q.k) 0 w) := by
  have HV := hid (fun (g9 : Nat) (w' : World) (hl : le w w') (R : Row w' g9 38 #[s, .int .i64 (q.j : Nat), t, .int .i64 (q.k : Nat), .int .i64 1, .float .f32 q.a, .float .f32 q.b, .float .f32 q.c, .float .f32 q.p, .float .f32 q.q, .float .f32 q.m, .float .f32 q.l]) => hv ▸ s_l05Bow q.x q.y q.nx q.ny (q.j : Nat) (q.k : Nat) 1 q.a q.b q.c q.p q.q q.m q.l B s t w' g9 R (hs.le hl) (ht.le hl) ⟨wf_nat (Nat.le_trans (Nat.le_of_lt ok.j1) ok.nx2), wf_nat (Nat.le_trans (Nat.le_of_lt ok.k1) ok.ny2)⟩ ⟨ok.fa, ok.fb, ok.fc, ok.fp, ok.fq, ok.fm, ok.fl⟩)
  have HC := hid (fun (g9 : Nat) (w' : World) (hl : le w w') (R : Row w' g9 38 #[s, .int .i64 (q.j : Nat), t, .int .i64 (q.k : Nat), .int .i64 1, .float .f32 q.a, .float .f32 q.b, .float .f32 q.c, .float .f32 q.p, .float .f32 q.q, .float .f32 q.m, .float .f32 q.l]) => s_l05CopyBow q.x q.y q.nx q.ny (q.j : Nat) (q.k : Nat) 1 q.a q.b q.c q.p q.q q.m q.l B s t w' g9 R ((slT_rds hs).le hl) ((slT_rds ht).le hl) ⟨ok.nx1, ok.nx2⟩ ⟨ok.ny1, ok.ny2⟩)
  have OK := hid ok; have OK2 := hid (ok.step sp fy)
  clear hs ht hv ok
  have F := ((Frg.nil w).box 38 #[s, .int .i64 (q.j : Nat), t, .int .i64 (q.k : Nat), .int .i64 1, .float .f32 q.a, .float .f32 q.b, .float .f32 q.c, .float .f32 q.p, .float .f32 q.q, .float .f32 q.m, .float .f32 q.l]).box 38 #[.slice none 0 0, .int .i64 0, .slice none 0 0, .int .i64 0, .int .i64 0, .float .f32 0, .float .f32 0, .float .f32 0, .float .f32 0, .float .f32 0, .float .f32 0, .float .f32 0]
  simp only [World.size_alloc] at F
  go_enter Try.func11, Try.ntmps11
  go_wp2_with (first | (go_at_call 23; ((with_reducible refine (HV.out _ _ F.below (F.row m1)).mono ?_); rintro e w1 ⟨rfl, hl⟩; replace F := F.le hl; clear hl)) | (go_at_call 24; ((with_reducible refine (HC.out _ _ F.below (F.row m1)).mono ?_); rintro e w2 ⟨s1, t1, rfl, h2, hl⟩; have os := hid (two_one h2).1; have ot := hid (two_one h2).2; replace F := F.two hl h2; clear h2 hl)) | (refine wpList_storeG F rfl rfl rfl rfl rfl uinfoBowI rfl (by simp only [List.all_toArray', List.all_cons, List.all_nil, os.out, ot.out]; rfl) ?_; clear F; intro W3 F zW))
  obtain ⟨b0, d0, hO1, hO2, hne, z1, z2, z3, z4⟩ := (F.facts (twF w1.heap.size w2.heap.size q.x q.nx q.y q.ny s1 t1) m1).2.2
  have O1 := hid hO1; have O2 := hid hO2; clear hO1 hO2
  have hg := (List.pairwise_cons.1 (List.pairwise_cons.1 F.apart).2).1 _ m0
  simp only [twF, rowF] at hg
  go_wp2_with (first | (go_at_call 35; ((with_reducible refine (s_l05StepBow q sp s1 t1 b0 (b0 + 1) d0 (d0 + 1) w2.heap.size _ (F.row m0) O1.out O2.out OK.out hsp (by omega) (by omega) (by omega)).mono ?_); rintro e w4 ⟨o3, rfl, ho3, fo3, hR3, hP1, hP2, hC3⟩; have R3 := hid hR3; have P1 := hid hP1; have P2 := hid hP2; have HO3 := hid ho3; have zC := hC3.size; replace F := F.cut2 hC3 (fun i e => by simp only [twF]; omega); clear hR3 hP1 hP2 hC3 ho3)) | ((with_reducible refine at_loadU rfl rfl ?_); (with_reducible refine wpList_loadDR R3.out rfl rfl rfl Try.underlying38 rfl uinfoBowI rfl ?_)) | ((with_reducible refine stop_store rfl ?_)))
  show wpList _ _ _ _ _ _
  have os4 := P1.out.one; have ot4 := P2.out.one
  refine wpList_storeD rfl rfl rfl (cells := #[s1, .int .i64 ((stepB q sp).j : Nat), t1, .int .i64 ((stepB q sp).k : Nat), .int .i64 1, .float .f32 (stepB q sp).a, .float .f32 (stepB q sp).b, .float .f32 (stepB q sp).c, .float .f32 (stepB q sp).p, .float .f32 (stepB q sp).q, .float .f32 (stepB q sp).m, .float .f32 (stepB q sp).l]) rfl (F.row m0) uinfoBowI rfl (by simp only [List.all_toArray', List.all_cons, List.all_nil, os4, ot4]; rfl) (fun w9 K => ?_)
  have C := (Chg.refl (· = w.heap.size + 1) w4).wrote K rfl
  have zc := C.size
  have Q1 := P1.out.chgS C (fun i a b e => by have e' : i = w.heap.size + 1 := e; omega)
  have Q2 := P2.out.chgS C (fun i a b e => by have e' : i = w.heap.size + 1 := e; omega)
  have ok2 := OK2.out
  have R := hid K.row
  have L := hid (F.wr0 K).below
  have LY := hid (layBow (stepB q sp).x (stepB q sp).y (stepB q sp).nx (stepB q sp).ny ((stepB q sp).j : Nat) ((stepB q sp).k : Nat) 1 (stepB q sp).a (stepB q sp).b (stepB q sp).c (stepB q sp).p (stepB q sp).q (stepB q sp).m (stepB q sp).l (lo := w.heap.size) ⟨b0, d0, Q1, Q2, hne, by omega, by omega, by omega, by omega⟩ ⟨wf_nat (Nat.le_trans (Nat.le_of_lt ok2.j1) ok2.nx2), wf_nat (Nat.le_trans (Nat.le_of_lt ok2.k1) ok2.ny2), by decide⟩ ⟨ok2.fa, ok2.fb, ok2.fc, ok2.fp, ok2.fq, ok2.fm, ok2.fl⟩)
  clear K F C Q1 Q2 os4 ot4 ok2
  go_wp2
  exact bodyPost_ret (results_row3 rfl _ _ _ _ _ rfl R.out Try.underlying38 rfl uinfoBowI) rfl ⟨[s1, .int .i64 ((stepB q sp).j : Nat), t1, .int .i64 ((stepB q sp).k : Nat), .int .i64 1, .float .f32 (stepB q sp).a, .float .f32 (stepB q sp).b, .float .f32 (stepB q sp).c, .float .f32 (stepB q sp).p, .float .f32 (stepB q sp).q, .float .f32 (stepB q sp).m, .float .f32 (stepB q sp).l], o3, rfl, LY.out, L.out, HO3.out⟩
theorem both_StepBow (cs : List CD) (sp : Nat) (h : HasShL shBow cs) (hsp : fits .f32 sp) : ∃ (ar0 : List CD) (ar1 : Nat) (ar2 : Int), ShOkL shBow ar0 ∧ szL ar0 ≤ 1048576 ∧ (∀ (w : World) (B : Nat) (u : List Value), RdLN w B (cs.map CD.cp) u → Calls Try.prog 11 #[.agg u.toArray, .float .f32 sp] w (OutV_Tfi ar0 ar1 ar2 w)) ∧ (∀ (w : World) (B : Nat) (u : List Value), RdLN w B (cs.map CD.cp) u → Calls Try.prog 12 #[.agg u.toArray, .float .f32 sp] w (OutV_Tfi ar0 ar1 ar2 w)) := by
  obtain ⟨xs, ys, nx, ny, j, k, fk, a, b, c, p, q, m, o, rfl, hx, hy⟩ := bow_data h
  cases hv : okBow (fun i => (xs i).fx) (fun i => (ys i).fx) nx ny j k fk a b c p q m o
  · refine ⟨cdBow (fun _ => 0) (fun _ => 0) 0 0 0 0 0 0 0 0 0 0 0 0, 0, 1, cdBow_sh (fun _ => 0) (fun _ => 0) 0 0 0 0 0 0 0 0 0 0 0 0, by rw [cdBow_sz]; omega, fun w B u hu => ?_, fun w B u hu => ?_⟩
    · obtain ⟨s, t, rfl, hs, ht, wf, hf⟩ := bow_open hu hx hy
      exact s_StepBow_no (fun i => (xs i).fx) (fun i => (ys i).fx) nx ny j k fk a b c p q m o sp B s t w hs ht wf hf hv
    · obtain ⟨s, t, rfl, hs, ht, wf, hf⟩ := bow_open hu hx hy
      exact i_StepBow_no (fun i => (xs i).fx) (fun i => (ys i).fx) nx ny j k fk a b c p q m o sp B s t w hs ht wf hf hv
  · obtain ⟨x1, x2, y1, y2, ⟨j, rfl, ej⟩, ⟨k, rfl, ek⟩, rfl, hk⟩ := okBow_j hv
    let Q : BwS := ⟨fun i => (xs i).fx, fun i => (ys i).fx, nx, ny, j, k, a, b, c, p, q, m, o⟩
    have hfy : ∀ (w : World) (B : Nat) (t : Value), (slT (fun i => (ys i).fx) ny).RdN w B t → fits .f32 ((ys k).fx) := fun w B t h => (slT_rds h).fits ek
    refine ⟨cdBow (stepB Q sp).x (stepB Q sp).y (stepB Q sp).nx (stepB Q sp).ny ((stepB Q sp).j : Nat) ((stepB Q sp).k : Nat) 1 (stepB Q sp).a (stepB Q sp).b (stepB Q sp).c (stepB Q sp).p (stepB Q sp).q (stepB Q sp).m (stepB Q sp).l, (ys k).fx, 0, cdBow_sh _ _ _ _ _ _ _ _ _ _ _ _ _ _, by rw [cdBow_sz]; exact (by show nx + ny ≤ 1048576; omega), fun w B u hu => ?_, fun w B u hu => ?_⟩
    · obtain ⟨s, t, rfl, hs, ht, wf, hf⟩ := bow_open hu hx hy
      exact s_StepBow_yes sp hsp Q B s t w hs ht ⟨x1, x2, y1, y2, ej, ek, hk, hf.1, hf.2.1, hf.2.2.1, hf.2.2.2.1, hf.2.2.2.2.1, hf.2.2.2.2.2.1, hf.2.2.2.2.2.2⟩ hv (hfy w B t ht)
    · obtain ⟨s, t, rfl, hs, ht, wf, hf⟩ := bow_open hu hx hy
      exact i_StepBow_yes sp hsp Q B s t w hs ht ⟨x1, x2, y1, y2, ej, ek, hk, hf.1, hf.2.1, hf.2.2.1, hf.2.2.2.1, hf.2.2.2.2.1, hf.2.2.2.2.2.1, hf.2.2.2.2.2.2⟩ hv (hfy w B t ht)
set_option maxRecDepth 100000 in
set_option maxHeartbeats 4000000 in
theorem i_SticksAt_no (x y : Nat → Nat) (nx ny : Nat) (j k : Int) (fk : Int) (a b c p q : Nat) (m o : Nat) (sp : Nat) (B : Nat) (s t : Value) (w : World) (hs : (slT x nx).RdN w B s) (ht : (slT y ny).RdN w B t) (wf : (Lit.int .i64 j).wf = true ∧ (Lit.int .i64 k).wf = true) (hf : (fits .f32 a ∧ fits .f32 b ∧ fits .f32 c ∧ fits .f32 p ∧ fits .f32 q ∧ fits .f32 m ∧ fits .f32 o)) (hv : okBow x y nx ny j k fk a b c p q m o = false) :
    Calls Try.prog 9 #[.agg #[s, .int .i64 j, t, .int .i64 k, .int .i64 fk, .float .f32 a, .float .f32 b, .float .f32 c, .float .f32 p, .float .f32 q, .float .f32 m, .float .f32 o], .float .f32 sp] w (Out_bi false 1 w) := by
  have HV := hid (fun (w' : World) (hl : le w w') => hv ▸ i_ValidBow x y nx ny j k fk a b c p q m o B s t w' (hs.le hl) (ht.le hl) wf hf)
  clear hs ht wf hf hv
  have F := (Frg.nil w).box 38 #[s, .int .i64 j, t, .int .i64 k, .int .i64 fk, .float .f32 a, .float .f32 b, .float .f32 c, .float .f32 p, .float .f32 q, .float .f32 m, .float .f32 o]
  go_enter Try.func9, Try.ntmps9
  go_wp2_with (first | ((with_reducible refine at_loadU rfl rfl ?_); (with_reducible refine wpList_loadG F rfl rfl rfl (by first | exact m0 | exact m1 | exact m2 | exact m3 | exact m4 | exact m5 | exact m6 | exact m7 | exact m8 | exact m9 | exact m10 | exact m11) Try.underlying38 rfl uinfoBowI rfl ?_)) | (go_at_call 29; ((with_reducible refine (HV.out _ F.below).mono ?_); rintro e w1 ⟨rfl, hl⟩; replace F := F.le hl; clear hl)))
  go_ret2
  exact ⟨rfl, F.below⟩
set_option maxRecDepth 100000 in
set_option maxHeartbeats 4000000 in
theorem i_SticksAt_yes (sp : Nat) (hsp : fits .f32 sp) (q : BwS) (B : Nat) (s t : Value) (w : World) (hs : (slT q.x q.nx).RdN w B s) (ht : (slT q.y q.ny).RdN w B t) (ok : q.Ok) (hv : (okBow q.x q.y q.nx q.ny (q.j : Nat) (q.k : Nat) 1 q.a q.b q.c q.p q.q q.m q.l) = true) :
    Calls Try.prog 9 #[.agg #[s, .int .i64 (q.j : Nat), t, .int .i64 (q.k : Nat), .int .i64 1, .float .f32 q.a, .float .f32 q.b, .float .f32 q.c, .float .f32 q.p, .float .f32 q.q, .float .f32 q.m, .float .f32 q.l], .float .f32 sp] w (Out_bi (FloatKind.f32.format.order (friV q.m (dB q sp)) 1065353216 == some .eq) 0 w) := by
  have HV := hid (fun (w' : World) (hl : le w w') => hv ▸ i_ValidBow q.x q.y q.nx q.ny (q.j : Nat) (q.k : Nat) 1 q.a q.b q.c q.p q.q q.m q.l B s t w' (hs.le hl) (ht.le hl) ⟨wf_nat (Nat.le_trans (Nat.le_of_lt ok.j1) ok.nx2), wf_nat (Nat.le_trans (Nat.le_of_lt ok.k1) ok.ny2)⟩ ⟨ok.fa, ok.fb, ok.fc, ok.fp, ok.fq, ok.fm, ok.fl⟩)
  have HN := hid (fun (w' : World) (hl : le w w') => i_newDrawn q.x q.y q.nx q.ny (q.j : Nat) (q.k : Nat) 1 q.a q.b q.c q.p q.q q.m q.l B s t w' ((slT_rds hs).le hl) ((slT_rds ht).le hl) ⟨ok.nx1, ok.nx2⟩ ⟨ok.ny1, ok.ny2⟩ ⟨by decide, by decide⟩)
  have OK := hid ok
  clear hs ht hv ok
  have F := (Frg.nil w).box 38 #[s, .int .i64 (q.j : Nat), t, .int .i64 (q.k : Nat), .int .i64 1, .float .f32 q.a, .float .f32 q.b, .float .f32 q.c, .float .f32 q.p, .float .f32 q.q, .float .f32 q.m, .float .f32 q.l]
  go_enter Try.func9, Try.ntmps9
  go_wp2_with (first | ((with_reducible refine at_loadU rfl rfl ?_); (with_reducible refine wpList_loadG F rfl rfl rfl (by first | exact m0 | exact m1 | exact m2 | exact m3 | exact m4 | exact m5 | exact m6 | exact m7 | exact m8 | exact m9 | exact m10 | exact m11) Try.underlying38 rfl uinfoBowI rfl ?_)) | (go_at_call 29; ((with_reducible refine (HV.out _ F.below).mono ?_); rintro e w1 ⟨rfl, hl⟩; replace F := F.le hl; clear hl)) | (go_at_call 30; ((with_reducible refine (HN.out _ F.below).mono ?_); rintro e w2 ⟨g, r, s1, t1, b0, d0, rfl, hRG, hRR, hO1, hO2, hne, l1, l2, ⟨l3, l4, l4'⟩, ⟨l5, l5', l5''⟩, l6, hl2⟩; have RG := hid hRG; have RR := hid hRR; have O1 := hid hO1; have O2 := hid hO2; have L2 := hid hl2; clear hRG hRR hO1 hO2 hl2)) | (go_at_call 31; ((with_reducible refine (i_meet q sp q.p q.q _ _ s1 t1 _ _ _ _ b0 (b0 + 1) d0 (d0 + 1) g r _ RG.out RR.out O1.out O2.out OK.out (by omega) (by omega) (by omega)).mono ?_); rintro e w3 ⟨u, v, d, rfl, hu, hv, hd, fu, fv, fd, hRR3, hC3⟩; have HD := hid hd; replace F := F.le (Below.trans L2.out (hC3.below (B := w1.heap.size) (fun k e => by have e' : k = r := e; omega) L2.out.size)); clear hu hv hd hRR3 hC3)) | ((with_reducible refine at_load rfl ?_); first | (with_reducible refine wpList_load1 F rfl rfl rfl (by first | exact m0 | exact m1 | exact m2 | exact m3 | exact m4 | exact m5 | exact m6 | exact m7 | exact m8 | exact m9 | exact m10 | exact m11) (f := 10) (v := .float .f32 q.m) rfl ukindFloat32 ?_)) | (go_at_call 32; ((with_reducible refine (i_FrictionAt q.m d _).mono ?_); rintro e w4 ⟨fr, rfl, hf, hl4⟩; replace F := F.le hl4; have HF := hid hf; clear hf hl4)))
  go_ret2
  have ho : FloatKind.f32.format.order fr 1065353216 = FloatKind.f32.format.order (friV q.m (dB q sp)) 1065353216 := order_congr (HF.out.trans ((friV_congr (HD.out.trans (can_dB q sp).symm)).trans (can_friV _ _).symm)) rfl
  exact ⟨ret_bi (congrArg (fun z => z == some Ordering.eq) ho), F.below⟩
set_option maxRecDepth 100000 in
set_option maxHeartbeats 4000000 in
theorem s_SticksAt_no (x y : Nat → Nat) (nx ny : Nat) (j k : Int) (fk : Int) (a b c p q : Nat) (m o : Nat) (sp : Nat) (B : Nat) (s t : Value) (w : World) (hs : (slT x nx).RdN w B s) (ht : (slT y ny).RdN w B t) (wf : (Lit.int .i64 j).wf = true ∧ (Lit.int .i64 k).wf = true) (hf : (fits .f32 a ∧ fits .f32 b ∧ fits .f32 c ∧ fits .f32 p ∧ fits .f32 q ∧ fits .f32 m ∧ fits .f32 o)) (hv : okBow x y nx ny j k fk a b c p q m o = false) :
    Calls Try.prog 7 #[.agg #[s, .int .i64 j, t, .int .i64 k, .int .i64 fk, .float .f32 a, .float .f32 b, .float .f32 c, .float .f32 p, .float .f32 q, .float .f32 m, .float .f32 o], .float .f32 sp] w (Out_bi false 1 w) := by
  have HV := hid (fun (g9 : Nat) (w' : World) (hl : le w w') (R : Row w' g9 38 #[s, .int .i64 j, t, .int .i64 k, .int .i64 fk, .float .f32 a, .float .f32 b, .float .f32 c, .float .f32 p, .float .f32 q, .float .f32 m, .float .f32 o]) => hv ▸ s_l05Bow x y nx ny j k fk a b c p q m o B s t w' g9 R (hs.le hl) (ht.le hl) wf hf)
  clear hs ht wf hf hv
  have F := (Frg.nil w).box 38 #[s, .int .i64 j, t, .int .i64 k, .int .i64 fk, .float .f32 a, .float .f32 b, .float .f32 c, .float .f32 p, .float .f32 q, .float .f32 m, .float .f32 o]
  go_enter Try.func7, Try.ntmps7
  go_wp2_with (first | ((with_reducible refine at_loadU rfl rfl ?_); (with_reducible refine wpList_loadG F rfl rfl rfl (by first | exact m0 | exact m1 | exact m2 | exact m3 | exact m4 | exact m5 | exact m6 | exact m7 | exact m8 | exact m9 | exact m10 | exact m11) Try.underlying38 rfl uinfoBowI rfl ?_)) | (go_at_call 23; ((with_reducible refine (HV.out _ _ F.below (F.row m0)).mono ?_); rintro e w1 ⟨rfl, hl⟩; replace F := F.le hl; clear hl)))
  go_ret2
  exact ⟨rfl, F.below⟩
set_option maxRecDepth 100000 in
set_option maxHeartbeats 4000000 in
theorem s_SticksAt_yes (sp : Nat) (hsp : fits .f32 sp) (q : BwS) (B : Nat) (s t : Value) (w : World) (hs : (slT q.x q.nx).RdN w B s) (ht : (slT q.y q.ny).RdN w B t) (ok : q.Ok) (hv : (okBow q.x q.y q.nx q.ny (q.j : Nat) (q.k : Nat) 1 q.a q.b q.c q.p q.q q.m q.l) = true) :
    Calls Try.prog 7 #[.agg #[s, .int .i64 (q.j : Nat), t, .int .i64 (q.k : Nat), .int .i64 1, .float .f32 q.a, .float .f32 q.b, .float .f32 q.c, .float .f32 q.p, .float .f32 q.q, .float .f32 q.m, .float .f32 q.l], .float .f32 sp] w (Out_bi (FloatKind.f32.format.order (friV q.m (dB q sp)) 1065353216 == some .eq) 0 w) := by
  have HV := hid (fun (g9 : Nat) (w' : World) (hl : le w w') (R : Row w' g9 38 #[s, .int .i64 (q.j : Nat), t, .int .i64 (q.k : Nat), .int .i64 1, .float .f32 q.a, .float .f32 q.b, .float .f32 q.c, .float .f32 q.p, .float .f32 q.q, .float .f32 q.m, .float .f32 q.l]) => hv ▸ s_l05Bow q.x q.y q.nx q.ny (q.j : Nat) (q.k : Nat) 1 q.a q.b q.c q.p q.q q.m q.l B s t w' g9 R (hs.le hl) (ht.le hl) ⟨wf_nat (Nat.le_trans (Nat.le_of_lt ok.j1) ok.nx2), wf_nat (Nat.le_trans (Nat.le_of_lt ok.k1) ok.ny2)⟩ ⟨ok.fa, ok.fb, ok.fc, ok.fp, ok.fq, ok.fm, ok.fl⟩)
  have HC := hid (fun (g9 : Nat) (w' : World) (hl : le w w') (R : Row w' g9 38 #[s, .int .i64 (q.j : Nat), t, .int .i64 (q.k : Nat), .int .i64 1, .float .f32 q.a, .float .f32 q.b, .float .f32 q.c, .float .f32 q.p, .float .f32 q.q, .float .f32 q.m, .float .f32 q.l]) => s_l05CopyBow q.x q.y q.nx q.ny (q.j : Nat) (q.k : Nat) 1 q.a q.b q.c q.p q.q q.m q.l B s t w' g9 R ((slT_rds hs).le hl) ((slT_rds ht).le hl) ⟨ok.nx1, ok.nx2⟩ ⟨ok.ny1, ok.ny2⟩)
  have OK := hid ok
  clear hs ht hv ok
  have F := (Frg.nil w).box 38 #[s, .int .i64 (q.j : Nat), t, .int .i64 (q.k : Nat), .int .i64 1, .float .f32 q.a, .float .f32 q.b, .float .f32 q.c, .float .f32 q.p, .float .f32 q.q, .float .f32 q.m, .float .f32 q.l]
  go_enter Try.func7, Try.ntmps7
  go_wp2_with (first | (go_at_call 23; ((with_reducible refine (HV.out _ _ F.below (F.row m0)).mono ?_); rintro e w1 ⟨rfl, hl⟩; replace F := F.le hl; clear hl)) | (go_at_call 24; ((with_reducible refine (HC.out _ _ F.below (F.row m0)).mono ?_); rintro e w2 ⟨s1, t1, rfl, h2, hl⟩; have os := hid (two_one h2).1; have ot := hid (two_one h2).2; replace F := F.two hl h2; clear h2 hl)) | (refine wpList_storeG F rfl rfl rfl rfl rfl uinfoBowI rfl (by simp only [List.all_toArray', List.all_cons, List.all_nil, os.out, ot.out]; rfl) ?_; clear F; intro W3 F zW))
  obtain ⟨b0, d0, hO1, hO2, hne, z1, z2, z3, z4⟩ := (F.facts (twF w1.heap.size w2.heap.size q.x q.nx q.y q.ny s1 t1) m1).2.2
  have HM := hid (s_l05Draw q.x q.y q.nx q.ny q.j q.k q.a q.b q.c q.p q.q q.m q.l sp s1 t1 b0 (b0 + 1) d0 (d0 + 1) w2.heap.size _ (F.row m0) hO1 hO2 OK.out.j1 OK.out.k1 OK.out.nx2 OK.out.ny2 (by omega) OK.out.f OK.out.fp)
  clear hO1 hO2
  go_wp2_with (first | (go_at_call 25; ((with_reducible refine HM.out.mono ?_); rintro e w3 ⟨u, v, d, rfl, hu, hv, hd, fu, fv, fd, hR3, hC3⟩; have HD : Hid (can .f32 d = dB q sp) := hd; replace F := F.cut2 hC3 (fun i e => by have e' : i = w2.heap.size := e; simp only [twF]; omega); clear hu hv hd hR3 hC3)) | ((with_reducible refine at_load rfl ?_); first | (with_reducible refine wpList_load1 F rfl rfl rfl (by first | exact m0 | exact m1 | exact m2 | exact m3 | exact m4 | exact m5 | exact m6 | exact m7 | exact m8 | exact m9 | exact m10 | exact m11) (f := 10) (v := .float .f32 q.m) rfl ukindFloat32 ?_)) | (go_at_call 26; ((with_reducible refine (s_l05Friction q.m d _).mono ?_); rintro e w4 ⟨fr, rfl, hf, hl4⟩; replace F := F.le hl4; have HF := hid hf; clear hf hl4)))
  go_ret2
  have ho : FloatKind.f32.format.order fr 1065353216 = FloatKind.f32.format.order (friV q.m (dB q sp)) 1065353216 := order_congr (HF.out.trans ((friV_congr (HD.out.trans (can_dB q sp).symm)).trans (can_friV _ _).symm)) rfl
  exact ⟨ret_bi (congrArg (fun z => z == some Ordering.eq) ho), F.below⟩
theorem both_SticksAt (cs : List CD) (sp : Nat) (h : HasShL shBow cs) (hsp : fits .f32 sp) : ∃ (ar0 : Bool) (ar1 : Int), (∀ (w : World) (B : Nat) (u : List Value), RdLN w B (cs.map CD.cp) u → Calls Try.prog 7 #[.agg u.toArray, .float .f32 sp] w (Out_bi ar0 ar1 w)) ∧ (∀ (w : World) (B : Nat) (u : List Value), RdLN w B (cs.map CD.cp) u → Calls Try.prog 9 #[.agg u.toArray, .float .f32 sp] w (Out_bi ar0 ar1 w)) := by
  obtain ⟨xs, ys, nx, ny, j, k, fk, a, b, c, p, q, m, o, rfl, hx, hy⟩ := bow_data h
  cases hv : okBow (fun i => (xs i).fx) (fun i => (ys i).fx) nx ny j k fk a b c p q m o
  · refine ⟨false, 1, fun w B u hu => ?_, fun w B u hu => ?_⟩
    · obtain ⟨s, t, rfl, hs, ht, wf, hf⟩ := bow_open hu hx hy
      exact s_SticksAt_no (fun i => (xs i).fx) (fun i => (ys i).fx) nx ny j k fk a b c p q m o sp B s t w hs ht wf hf hv
    · obtain ⟨s, t, rfl, hs, ht, wf, hf⟩ := bow_open hu hx hy
      exact i_SticksAt_no (fun i => (xs i).fx) (fun i => (ys i).fx) nx ny j k fk a b c p q m o sp B s t w hs ht wf hf hv
  · obtain ⟨x1, x2, y1, y2, ⟨j, rfl, ej⟩, ⟨k, rfl, ek⟩, rfl, hk⟩ := okBow_j hv
    let Q : BwS := ⟨fun i => (xs i).fx, fun i => (ys i).fx, nx, ny, j, k, a, b, c, p, q, m, o⟩
    refine ⟨(FloatKind.f32.format.order (friV Q.m (dB Q sp)) 1065353216 == some .eq), 0, fun w B u hu => ?_, fun w B u hu => ?_⟩
    · obtain ⟨s, t, rfl, hs, ht, wf, hf⟩ := bow_open hu hx hy
      exact s_SticksAt_yes sp hsp Q B s t w hs ht ⟨x1, x2, y1, y2, ej, ek, hk, hf.1, hf.2.1, hf.2.2.1, hf.2.2.2.1, hf.2.2.2.2.1, hf.2.2.2.2.2.1, hf.2.2.2.2.2.2⟩ hv
    · obtain ⟨s, t, rfl, hs, ht, wf, hf⟩ := bow_open hu hx hy
      exact i_SticksAt_yes sp hsp Q B s t w hs ht ⟨x1, x2, y1, y2, ej, ek, hk, hf.1, hf.2.1, hf.2.2.1, hf.2.2.2.1, hf.2.2.2.2.1, hf.2.2.2.2.2.1, hf.2.2.2.2.2.2⟩ hv
end Go.Proofs.Ythjdklolbkhbfaa

/- What grows by append, beside facts of memory. Nothing here names a program. -/
namespace Go.Fk
open Go Go.RowKit
theorem ownsRow_chS {S : Nat → Prop} {w w' : World} {e : TypeId} {n B : Nat} {xs : List Value} {v : Value} (hw : Chg S w w') (h : w.ownsRow B e 1 v n xs) (hS : ∀ i, S i → i < B) : w'.ownsRow B e 1 v n xs := by
  obtain ⟨h1, h2⟩ := h
  refine ⟨h1, ?_⟩
  rcases h2 with h2 | ⟨q, cap, cur, e1, e2, e3, e4⟩
  · exact .inl h2
  · exact .inr ⟨q, cap, cur, e1, e2, by have := hw.row (g := q) (t := e) (cs := cur) e3 (fun hq => by have := hS q hq; omega); exact this, e4⟩
theorem ownBlock_ge {w : World} {B : Nat} {e : TypeId} {z : Nat} {v : Value} {n : Nat} {xs : List Value} (h : w.ownsRow B e z v n xs) : ∀ k, v.ownBlock = some k → B ≤ k := by
  rcases h.2 with ⟨rfl, _⟩ | ⟨q, cap, cur, rfl, hb, _⟩
  · intro k hk; cases hk
  · intro k hk; simp only [Value.ownBlock, Option.some.injEq] at hk; omega
theorem chg_grown {w w' : World} {row : Option Nat} {B : Nat} (h : w.grownBy w' row) (hr : ∀ k, row = some k → B ≤ k) : Chg (B ≤ ·) w w' :=
  ⟨h.os, h.tape, h.output, h.size, fun k hk hn => h.block k hk (fun e => hn (hr k e.symm))⟩
theorem Frg.up {w0 w w' : World} {L : List Fact} {B : Nat} (h : Frg w0 w L) (k : Chg (B ≤ ·) w w') (hB : ∀ e ∈ L, e.hi ≤ B) (h0 : w0.heap.size ≤ B) : Frg w0 w' L :=
  ⟨h.below.trans (k.below (fun i hi => Nat.le_trans h0 hi) h.size), fun e he => by
    obtain ⟨h1, h2, h3⟩ := h.facts e he
    exact ⟨h1, Nat.le_trans h2 k.size, e.ok w w' h3 (fun i _ hi => k.block i (by omega) (fun hb => by have := hB e he; omega))⟩, h.apart⟩
theorem flist_snoc (y : Nat → Nat) (n a : Nat) : flist y n ++ [.float .f32 a] = flist (fun j => if j = n then a else y j) (n + 1) := by
  have h := flist_app y (fun _ => a) n 1
  have h1 : flist (fun _ => a) 1 = [.float .f32 a] := by simp [flist]
  rw [h1] at h
  rw [h]
  apply List.ext_getElem?
  intro i
  by_cases hi : i < n + 1
  · rw [flist_get' _ hi, flist_get' _ hi]
    by_cases e : i = n
    · simp [e]
    · simp [e, show i < n by omega]
  · rw [List.getElem?_eq_none (by rw [flist_length]; omega), List.getElem?_eq_none (by rw [flist_length]; omega)]
theorem Frg.own2 {w0 w w' : World} {L : List Fact} {q n n' : Nat} {s s' : Value} {x x' : Nat → Nat} (h : Frg w0 w L) (k : Below w.heap.size w w') (h1 : w.heap.size ≤ q) (h2 : q ≤ w'.heap.size) (o1 : OwnS w' w.heap.size q s x n) (o2 : OwnS w' q w'.heap.size s' x' n') :
    Frg w0 w' (ownF q w'.heap.size s' x' n' :: ownF w.heap.size q s x n :: L) := by
  refine ⟨(h.le k).below, fun e he => ?_, .cons (fun e he => ?_) (.cons (fun e he => (h.facts e he).2.1) h.apart)⟩
  · rcases List.mem_cons.1 he with rfl | he
    · exact ⟨Nat.le_trans h.size h1, Nat.le_refl _, o2⟩
    · rcases List.mem_cons.1 he with rfl | he
      · exact ⟨h.size, h2, o1⟩
      · exact (h.le k).facts e he
  · rcases List.mem_cons.1 he with rfl | he
    · exact Nat.le_refl q
    · exact Nat.le_trans (h.facts e he).2.1 h1
theorem m12 {b0 b1 b2 b3 b4 b5 b6 b7 b8 b9 b10 b11 a : Fact} {l : List Fact} : a ∈ b0 :: b1 :: b2 :: b3 :: b4 :: b5 :: b6 :: b7 :: b8 :: b9 :: b10 :: b11 :: a :: l := List.mem_cons_of_mem _ (List.mem_cons_of_mem _ (List.mem_cons_of_mem _ (List.mem_cons_of_mem _ (List.mem_cons_of_mem _ (List.mem_cons_of_mem _ (List.mem_cons_of_mem _ (List.mem_cons_of_mem _ (List.mem_cons_of_mem _ (List.mem_cons_of_mem _ (List.mem_cons_of_mem _ (List.mem_cons_of_mem _ (List.mem_cons_self))))))))))))
theorem m13 {b0 b1 b2 b3 b4 b5 b6 b7 b8 b9 b10 b11 b12 a : Fact} {l : List Fact} : a ∈ b0 :: b1 :: b2 :: b3 :: b4 :: b5 :: b6 :: b7 :: b8 :: b9 :: b10 :: b11 :: b12 :: a :: l := List.mem_cons_of_mem _ (List.mem_cons_of_mem _ (List.mem_cons_of_mem _ (List.mem_cons_of_mem _ (List.mem_cons_of_mem _ (List.mem_cons_of_mem _ (List.mem_cons_of_mem _ (List.mem_cons_of_mem _ (List.mem_cons_of_mem _ (List.mem_cons_of_mem _ (List.mem_cons_of_mem _ (List.mem_cons_of_mem _ (List.mem_cons_of_mem _ (List.mem_cons_self)))))))))))))
theorem m14 {b0 b1 b2 b3 b4 b5 b6 b7 b8 b9 b10 b11 b12 b13 a : Fact} {l : List Fact} : a ∈ b0 :: b1 :: b2 :: b3 :: b4 :: b5 :: b6 :: b7 :: b8 :: b9 :: b10 :: b11 :: b12 :: b13 :: a :: l := List.mem_cons_of_mem _ (List.mem_cons_of_mem _ (List.mem_cons_of_mem _ (List.mem_cons_of_mem _ (List.mem_cons_of_mem _ (List.mem_cons_of_mem _ (List.mem_cons_of_mem _ (List.mem_cons_of_mem _ (List.mem_cons_of_mem _ (List.mem_cons_of_mem _ (List.mem_cons_of_mem _ (List.mem_cons_of_mem _ (List.mem_cons_of_mem _ (List.mem_cons_of_mem _ (List.mem_cons_self))))))))))))))
theorem m15 {b0 b1 b2 b3 b4 b5 b6 b7 b8 b9 b10 b11 b12 b13 b14 a : Fact} {l : List Fact} : a ∈ b0 :: b1 :: b2 :: b3 :: b4 :: b5 :: b6 :: b7 :: b8 :: b9 :: b10 :: b11 :: b12 :: b13 :: b14 :: a :: l := List.mem_cons_of_mem _ (List.mem_cons_of_mem _ (List.mem_cons_of_mem _ (List.mem_cons_of_mem _ (List.mem_cons_of_mem _ (List.mem_cons_of_mem _ (List.mem_cons_of_mem _ (List.mem_cons_of_mem _ (List.mem_cons_of_mem _ (List.mem_cons_of_mem _ (List.mem_cons_of_mem _ (List.mem_cons_of_mem _ (List.mem_cons_of_mem _ (List.mem_cons_of_mem _ (List.mem_cons_of_mem _ (List.mem_cons_self)))))))))))))))
theorem m16 {b0 b1 b2 b3 b4 b5 b6 b7 b8 b9 b10 b11 b12 b13 b14 b15 a : Fact} {l : List Fact} : a ∈ b0 :: b1 :: b2 :: b3 :: b4 :: b5 :: b6 :: b7 :: b8 :: b9 :: b10 :: b11 :: b12 :: b13 :: b14 :: b15 :: a :: l := List.mem_cons_of_mem _ (List.mem_cons_of_mem _ (List.mem_cons_of_mem _ (List.mem_cons_of_mem _ (List.mem_cons_of_mem _ (List.mem_cons_of_mem _ (List.mem_cons_of_mem _ (List.mem_cons_of_mem _ (List.mem_cons_of_mem _ (List.mem_cons_of_mem _ (List.mem_cons_of_mem _ (List.mem_cons_of_mem _ (List.mem_cons_of_mem _ (List.mem_cons_of_mem _ (List.mem_cons_of_mem _ (List.mem_cons_of_mem _ (List.mem_cons_self))))))))))))))))
theorem m17 {b0 b1 b2 b3 b4 b5 b6 b7 b8 b9 b10 b11 b12 b13 b14 b15 b16 a : Fact} {l : List Fact} : a ∈ b0 :: b1 :: b2 :: b3 :: b4 :: b5 :: b6 :: b7 :: b8 :: b9 :: b10 :: b11 :: b12 :: b13 :: b14 :: b15 :: b16 :: a :: l := List.mem_cons_of_mem _ (List.mem_cons_of_mem _ (List.mem_cons_of_mem _ (List.mem_cons_of_mem _ (List.mem_cons_of_mem _ (List.mem_cons_of_mem _ (List.mem_cons_of_mem _ (List.mem_cons_of_mem _ (List.mem_cons_of_mem _ (List.mem_cons_of_mem _ (List.mem_cons_of_mem _ (List.mem_cons_of_mem _ (List.mem_cons_of_mem _ (List.mem_cons_of_mem _ (List.mem_cons_of_mem _ (List.mem_cons_of_mem _ (List.mem_cons_of_mem _ (List.mem_cons_self)))))))))))))))))
theorem m18 {b0 b1 b2 b3 b4 b5 b6 b7 b8 b9 b10 b11 b12 b13 b14 b15 b16 b17 a : Fact} {l : List Fact} : a ∈ b0 :: b1 :: b2 :: b3 :: b4 :: b5 :: b6 :: b7 :: b8 :: b9 :: b10 :: b11 :: b12 :: b13 :: b14 :: b15 :: b16 :: b17 :: a :: l := List.mem_cons_of_mem _ (List.mem_cons_of_mem _ (List.mem_cons_of_mem _ (List.mem_cons_of_mem _ (List.mem_cons_of_mem _ (List.mem_cons_of_mem _ (List.mem_cons_of_mem _ (List.mem_cons_of_mem _ (List.mem_cons_of_mem _ (List.mem_cons_of_mem _ (List.mem_cons_of_mem _ (List.mem_cons_of_mem _ (List.mem_cons_of_mem _ (List.mem_cons_of_mem _ (List.mem_cons_of_mem _ (List.mem_cons_of_mem _ (List.mem_cons_of_mem _ (List.mem_cons_of_mem _ (List.mem_cons_self))))))))))))))))))
theorem m19 {b0 b1 b2 b3 b4 b5 b6 b7 b8 b9 b10 b11 b12 b13 b14 b15 b16 b17 b18 a : Fact} {l : List Fact} : a ∈ b0 :: b1 :: b2 :: b3 :: b4 :: b5 :: b6 :: b7 :: b8 :: b9 :: b10 :: b11 :: b12 :: b13 :: b14 :: b15 :: b16 :: b17 :: b18 :: a :: l := List.mem_cons_of_mem _ (List.mem_cons_of_mem _ (List.mem_cons_of_mem _ (List.mem_cons_of_mem _ (List.mem_cons_of_mem _ (List.mem_cons_of_mem _ (List.mem_cons_of_mem _ (List.mem_cons_of_mem _ (List.mem_cons_of_mem _ (List.mem_cons_of_mem _ (List.mem_cons_of_mem _ (List.mem_cons_of_mem _ (List.mem_cons_of_mem _ (List.mem_cons_of_mem _ (List.mem_cons_of_mem _ (List.mem_cons_of_mem _ (List.mem_cons_of_mem _ (List.mem_cons_of_mem _ (List.mem_cons_of_mem _ (List.mem_cons_self)))))))))))))))))))
theorem Frg.mark10 {w0 w w' : World} {lo hi n : Nat} {s : Value} {x x' : Nat → Nat} {l : List Fact} {b0 b1 b2 b3 b4 b5 b6 b7 b8 b9 : Fact} (h : Frg w0 w (b0 :: b1 :: b2 :: b3 :: b4 :: b5 :: b6 :: b7 :: b8 :: b9 :: ownF lo hi s x n :: l)) (hp : OwnS w' lo hi s x' n) (k : Chg (rng lo hi) w w') : Frg w0 w' (b0 :: b1 :: b2 :: b3 :: b4 :: b5 :: b6 :: b7 :: b8 :: b9 :: ownF lo hi s x' n :: l) :=
  Frg.chg [b0, b1, b2, b3, b4, b5, b6, b7, b8, b9] (e := ownF lo hi s x n) (e' := ownF lo hi s x' n) h k hp rfl rfl
theorem Frg.mark11 {w0 w w' : World} {lo hi n : Nat} {s : Value} {x x' : Nat → Nat} {l : List Fact} {b0 b1 b2 b3 b4 b5 b6 b7 b8 b9 b10 : Fact} (h : Frg w0 w (b0 :: b1 :: b2 :: b3 :: b4 :: b5 :: b6 :: b7 :: b8 :: b9 :: b10 :: ownF lo hi s x n :: l)) (hp : OwnS w' lo hi s x' n) (k : Chg (rng lo hi) w w') : Frg w0 w' (b0 :: b1 :: b2 :: b3 :: b4 :: b5 :: b6 :: b7 :: b8 :: b9 :: b10 :: ownF lo hi s x' n :: l) :=
  Frg.chg [b0, b1, b2, b3, b4, b5, b6, b7, b8, b9, b10] (e := ownF lo hi s x n) (e' := ownF lo hi s x' n) h k hp rfl rfl
theorem Frg.mark12 {w0 w w' : World} {lo hi n : Nat} {s : Value} {x x' : Nat → Nat} {l : List Fact} {b0 b1 b2 b3 b4 b5 b6 b7 b8 b9 b10 b11 : Fact} (h : Frg w0 w (b0 :: b1 :: b2 :: b3 :: b4 :: b5 :: b6 :: b7 :: b8 :: b9 :: b10 :: b11 :: ownF lo hi s x n :: l)) (hp : OwnS w' lo hi s x' n) (k : Chg (rng lo hi) w w') : Frg w0 w' (b0 :: b1 :: b2 :: b3 :: b4 :: b5 :: b6 :: b7 :: b8 :: b9 :: b10 :: b11 :: ownF lo hi s x' n :: l) :=
  Frg.chg [b0, b1, b2, b3, b4, b5, b6, b7, b8, b9, b10, b11] (e := ownF lo hi s x n) (e' := ownF lo hi s x' n) h k hp rfl rfl
theorem Frg.mark13 {w0 w w' : World} {lo hi n : Nat} {s : Value} {x x' : Nat → Nat} {l : List Fact} {b0 b1 b2 b3 b4 b5 b6 b7 b8 b9 b10 b11 b12 : Fact} (h : Frg w0 w (b0 :: b1 :: b2 :: b3 :: b4 :: b5 :: b6 :: b7 :: b8 :: b9 :: b10 :: b11 :: b12 :: ownF lo hi s x n :: l)) (hp : OwnS w' lo hi s x' n) (k : Chg (rng lo hi) w w') : Frg w0 w' (b0 :: b1 :: b2 :: b3 :: b4 :: b5 :: b6 :: b7 :: b8 :: b9 :: b10 :: b11 :: b12 :: ownF lo hi s x' n :: l) :=
  Frg.chg [b0, b1, b2, b3, b4, b5, b6, b7, b8, b9, b10, b11, b12] (e := ownF lo hi s x n) (e' := ownF lo hi s x' n) h k hp rfl rfl
theorem Frg.mark14 {w0 w w' : World} {lo hi n : Nat} {s : Value} {x x' : Nat → Nat} {l : List Fact} {b0 b1 b2 b3 b4 b5 b6 b7 b8 b9 b10 b11 b12 b13 : Fact} (h : Frg w0 w (b0 :: b1 :: b2 :: b3 :: b4 :: b5 :: b6 :: b7 :: b8 :: b9 :: b10 :: b11 :: b12 :: b13 :: ownF lo hi s x n :: l)) (hp : OwnS w' lo hi s x' n) (k : Chg (rng lo hi) w w') : Frg w0 w' (b0 :: b1 :: b2 :: b3 :: b4 :: b5 :: b6 :: b7 :: b8 :: b9 :: b10 :: b11 :: b12 :: b13 :: ownF lo hi s x' n :: l) :=
  Frg.chg [b0, b1, b2, b3, b4, b5, b6, b7, b8, b9, b10, b11, b12, b13] (e := ownF lo hi s x n) (e' := ownF lo hi s x' n) h k hp rfl rfl
theorem Frg.mark15 {w0 w w' : World} {lo hi n : Nat} {s : Value} {x x' : Nat → Nat} {l : List Fact} {b0 b1 b2 b3 b4 b5 b6 b7 b8 b9 b10 b11 b12 b13 b14 : Fact} (h : Frg w0 w (b0 :: b1 :: b2 :: b3 :: b4 :: b5 :: b6 :: b7 :: b8 :: b9 :: b10 :: b11 :: b12 :: b13 :: b14 :: ownF lo hi s x n :: l)) (hp : OwnS w' lo hi s x' n) (k : Chg (rng lo hi) w w') : Frg w0 w' (b0 :: b1 :: b2 :: b3 :: b4 :: b5 :: b6 :: b7 :: b8 :: b9 :: b10 :: b11 :: b12 :: b13 :: b14 :: ownF lo hi s x' n :: l) :=
  Frg.chg [b0, b1, b2, b3, b4, b5, b6, b7, b8, b9, b10, b11, b12, b13, b14] (e := ownF lo hi s x n) (e' := ownF lo hi s x' n) h k hp rfl rfl
theorem Frg.mark16 {w0 w w' : World} {lo hi n : Nat} {s : Value} {x x' : Nat → Nat} {l : List Fact} {b0 b1 b2 b3 b4 b5 b6 b7 b8 b9 b10 b11 b12 b13 b14 b15 : Fact} (h : Frg w0 w (b0 :: b1 :: b2 :: b3 :: b4 :: b5 :: b6 :: b7 :: b8 :: b9 :: b10 :: b11 :: b12 :: b13 :: b14 :: b15 :: ownF lo hi s x n :: l)) (hp : OwnS w' lo hi s x' n) (k : Chg (rng lo hi) w w') : Frg w0 w' (b0 :: b1 :: b2 :: b3 :: b4 :: b5 :: b6 :: b7 :: b8 :: b9 :: b10 :: b11 :: b12 :: b13 :: b14 :: b15 :: ownF lo hi s x' n :: l) :=
  Frg.chg [b0, b1, b2, b3, b4, b5, b6, b7, b8, b9, b10, b11, b12, b13, b14, b15] (e := ownF lo hi s x n) (e' := ownF lo hi s x' n) h k hp rfl rfl
end Go.Fk

/- Filling a list, one by one. Nothing here names a program. -/
namespace Go.Fk
open Go Go.RowKit
/-- So many outputs, then the inputs. -/
def upto (j : Nat) (h z : Nat → Nat) : Nat → Nat := fun i => if i < j then h i else z i
theorem upto_zero (h z : Nat → Nat) : upto 0 h z = z := by funext i; simp [upto]
theorem upto_set (j : Nat) (h z : Nat → Nat) (r : Nat) : (fun i => if i = j then r else upto j h z i) = upto (j + 1) (fun i => if i = j then r else h i) z := by
  funext i
  unfold upto
  by_cases e : i = j
  · subst e; simp
  · by_cases l : i < j
    · simp [e, l, show i < j + 1 by omega]
    · simp [e, l, show ¬ i < j + 1 by omega]
theorem upto_full (h z : Nat → Nat) : ftab .f32 (upto 16 h z) 16 = ftab .f32 h 16 := ftab_congr (fun j hj => if_pos hj)
end Go.Fk

/- Cells of slices that one may write. Nothing here names a program. -/
namespace Go.Fk
open Go Go.RowKit
theorem OwnS.form {w : World} {lo hi n : Nat} {s : Value} {x : Nat → Nat} (h : OwnS w lo hi s x n) (hn : 1 ≤ n) : ∃ b o cap, s = .slice (some ⟨b, o, none⟩) n cap ∧ n ≤ cap ∧ cap ≤ maxLen ∧ lo ≤ b ∧ b < hi := by
  rcases h with ⟨_, rfl⟩ | ⟨b, o, cap, cs, h1, h2, h3, h4, h5, _⟩
  · omega
  · exact ⟨b, o, cap, h1, h2, h3, h4, h5⟩
theorem OwnS.at {w : World} {lo hi b o n cap : Nat} {x : Nat → Nat} (h : OwnS w lo hi (.slice (some ⟨b, o, none⟩) n cap) x n) {i : Nat} (hi' : i < n) : ∃ y, w.cell? ⟨b, o + i, none⟩ = some (.float .f32 y) ∧ w.frozen? ⟨b, o + i, none⟩ = false ∧ fits .f32 y ∧ can .f32 y = x i := by
  rcases h with ⟨h0, _⟩ | ⟨b', o', cap', cs, h1, h2, h3, h4, h5, h6, h7⟩
  · cases h0
  · simp only [Value.slice.injEq, Option.some.injEq, Addr.mk.injEq, and_true, true_and] at h1
    obtain ⟨⟨rfl, rfl⟩, rfl⟩ := h1
    obtain ⟨y, e1, e2, e3⟩ := h7 i hi'
    exact ⟨y, (h6.cell? (o + i)).trans e1, h6.frozen (o + i), e2, e3⟩
theorem OwnS.set {w : World} {lo hi b o n cap : Nat} {x : Nat → Nat} (h : OwnS w lo hi (.slice (some ⟨b, o, none⟩) n cap) x n) {i a : Nat} (hi' : i < n) (ha : fits .f32 a) :
    OwnS (w.setCell ⟨b, o + i, none⟩ (.float .f32 a)) lo hi (.slice (some ⟨b, o, none⟩) n cap) (pushX x i a) n ∧ Chg (rng lo hi) w (w.setCell ⟨b, o + i, none⟩ (.float .f32 a)) := by
  rcases h with ⟨h0, _⟩ | ⟨b', o', cap', cs, h1, h2, h3, h4, h5, h6, h7⟩
  · cases h0
  · simp only [Value.slice.injEq, Option.some.injEq, Addr.mk.injEq, and_true, true_and] at h1
    obtain ⟨⟨rfl, rfl⟩, rfl⟩ := h1
    refine ⟨.inr ⟨b, o, cap, cs.setIfInBounds (o + i) (.float .f32 a), rfl, h2, h3, h4, h5, h6.set _ _, fun j hj => ?_⟩, (Chg.refl _ _).setCell (a := ⟨b, o + i, none⟩) ⟨h4, h5⟩ _⟩
    obtain ⟨y0, e0, _⟩ := h7 i hi'
    have hlt : o + i < cs.size := (Array.getElem?_eq_some_iff.1 e0).1
    by_cases e : j = i
    · subst e
      exact ⟨a, by simp [hlt], ha, by simp [pushX]⟩
    · obtain ⟨y, e1, e2, e3⟩ := h7 j hj
      exact ⟨y, by rw [Array.getElem?_setIfInBounds_ne (by omega)]; exact e1, e2, by simp [pushX, e, e3]⟩
namespace Frg
variable {w0 w w' : World}
theorem chg0 {e e' : Fact} {post : List Fact} (h : Frg w0 w (e :: post)) (k : Chg (rng e.lo e.hi) w w') (hp : e'.p w') (h1 : e'.lo = e.lo) (h2 : e'.hi = e.hi) : Frg w0 w' (e' :: post) := chg [] h k hp h1 h2
theorem chg1 {b0 e e' : Fact} {post : List Fact} (h : Frg w0 w (b0 :: e :: post)) (k : Chg (rng e.lo e.hi) w w') (hp : e'.p w') (h1 : e'.lo = e.lo) (h2 : e'.hi = e.hi) : Frg w0 w' (b0 :: e' :: post) := chg [b0] h k hp h1 h2
end Frg
/-- The first k samples are 0. -/
def zeroTo (k : Nat) (x : Nat → Nat) : Nat → Nat := fun i => if i < k then 0 else x i
theorem zeroTo_0 (x : Nat → Nat) : zeroTo 0 x = x := by funext i; simp [zeroTo]
theorem zeroTo_s (k : Nat) (x : Nat → Nat) : pushX (zeroTo k x) k 0 = zeroTo (k + 1) x := by
  funext i
  unfold pushX zeroTo
  by_cases e : i = k
  · subst e; simp; decide
  · by_cases l : i < k
    · simp [e, l, show i < k + 1 by omega]
    · simp [e, l, show ¬ i < k + 1 by omega]
end Go.Fk

/- What plays from sample to sample: runs, what stays readable, memory made behind facts. Nothing here names a program. -/
namespace Go.Fk
open Go Go.RowKit
def runQ {α : Type} (st : α → Nat → α) (q : α) (z : Nat → Nat) : Nat → α
  | 0 => q
  | j + 1 => st (runQ st q z j) (z j)
theorem Chg.setNew {S : Nat → Prop} {w w' : World} (h : Chg S w w') {a : Addr} (h1 : w.heap.size ≤ a.block) (v : Value) : Chg S w (w'.setCell a v) :=
  ⟨h.os, h.tape, h.output, by simpa using h.size, fun i hi hn => (Below.heap_setCell _ _ _ _ (by intro e; omega)).trans (h.block i hi hn)⟩
theorem RdS.stay {w0 w w' : World} {B n : Nat} {s : Value} {x : Nat → Nat} {S : Nat → Prop} (h : RdS w0 B s x n) (hl : Fk.le w0 w) (hS : ∀ k, S k → w0.heap.size ≤ k) (hc : Chg S w w') : RdS w' B s x n :=
  h.le (Below.trans hl (hc.below (B := w0.heap.size) hS hl.size))
/-- The newest fact's blocks are written, and memory is made. -/
theorem Frg.chgNew {w0 w w' : World} {post : List Fact} {e e' f : Fact} (h : Frg w0 w (e :: post)) (k : Chg (rng e.lo e.hi) w w') (hp : e'.p w') (h1 : e'.lo = e.lo) (h2 : e'.hi = e.hi) (hf : f.p w') (hl : w.heap.size ≤ f.lo) (hh : f.hi ≤ w'.heap.size) : Frg w0 w' (f :: e' :: post) := by
  have hc := h.chg0 k hp h1 h2
  refine ⟨hc.below, fun x hx => ?_, .cons (fun x hx => ?_) hc.apart⟩
  · rcases List.mem_cons.1 hx with rfl | hx
    · exact ⟨Nat.le_trans h.below.size hl, hh, hf⟩
    · exact hc.facts x hx
  · have hx' : x.hi ≤ w.heap.size := by
      rcases List.mem_cons.1 hx with rfl | hx
      · rw [h2]; exact (h.facts e (by simp)).2.1
      · exact (h.facts x (by simp [hx])).2.1
    omega
end Go.Fk

/- 'PlayBow' of both. -/
namespace Go.Fk
open Go Go.RowKit
theorem stepB_congr (q : BwS) {a b : Nat} (h : can .f32 a = can .f32 b) : stepB q a = stepB q b := by
  have e : dB q a = dB q b := by unfold dB dBow; exact fop_congr h rfl
  simp only [stepB, n1B, n2B, wB, e]
def outB (q : BwS) (z : Nat → Nat) (j : Nat) : Nat := (runQ stepB q z j).y (runQ stepB q z j).k
end Go.Fk
namespace Go.Proofs.Ythjdklolbkhbfaa
open Go.RowKit Go.Fk
theorem layBowH (x y : Nat → Nat) (nx ny : Nat) (j k : Int) (fk : Int) (a b c p q : Nat) (m o : Nat) {lo hi : Nat} {s t : Value} {w : World} (h : (twF lo hi x nx y ny s t).p w) (wi : (Lit.int .i64 j).wf = true ∧ (Lit.int .i64 k).wf = true ∧ (Lit.int .i64 fk).wf = true) (hf : fits .f32 a ∧ fits .f32 b ∧ fits .f32 c ∧ fits .f32 p ∧ fits .f32 q ∧ fits .f32 m ∧ fits .f32 o) : LayL w (rng lo hi) (cdBow x y nx ny j k fk a b c p q m o) [s, .int .i64 j, t, .int .i64 k, .int .i64 fk, .float .f32 a, .float .f32 b, .float .f32 c, .float .f32 p, .float .f32 q, .float .f32 m, .float .f32 o] := by
  obtain ⟨wj, wk, wfk⟩ := wi
  obtain ⟨fa, fb, fc, fp, fq, fm, fo⟩ := hf
  obtain ⟨bq, dq, h1, h2, h3, h4, h5, h6, h7⟩ := h
  have e1 : LayL w (rng dq (dq + 1)) ([.sl 1 ny (fun i => .fcn .f32 (y i)), .int .i64 k, .int .i64 fk, .flt .f32 a, .flt .f32 b, .flt .f32 c, .flt .f32 p, .flt .f32 q, .flt .f32 m, .flt .f32 o] : List CD) [t, .int .i64 k, .int .i64 fk, .float .f32 a, .float .f32 b, .float .f32 c, .float .f32 p, .float .f32 q, .float .f32 m, .float .f32 o] := LayL.cons h2.lay (LayL.leaf ⟨rfl, wk⟩ (LayL.leaf ⟨rfl, wfk⟩ (LayL.leaf ⟨rfl, fa⟩ (LayL.leaf ⟨rfl, fb⟩ (LayL.leaf ⟨rfl, fc⟩ (LayL.leaf ⟨rfl, fp⟩ (LayL.leaf ⟨rfl, fq⟩ (LayL.leaf ⟨rfl, fm⟩ (LayL.leaf ⟨rfl, fo⟩ (LayL.nil _ (fun _ => False))))))))))) (fun _ h => h) (fun _ h => h.elim) (fun _ _ h => h)
  exact LayL.cons (S1 := rng bq (bq + 1)) (S2 := rng dq (dq + 1)) h1.lay (LayL.leaf ⟨rfl, wj⟩ e1) (fun j h => ⟨Nat.le_trans h4 h.1, by have := h.2; omega⟩) (fun j h => ⟨Nat.le_trans h6 h.1, by have := h.2; omega⟩) (fun j h h2 => by have a1 := h.1; have a2 := h.2; have b1 := h2.1; have b2 := h2.2; omega)
def LbB (w : World) (B C g : Nat) (q : BwS) : Prop := q.Ok ∧ ∃ (s t y0 y1 : Value) (jz kz : Int) (b0 d0 r z1 z2 : Nat), Row w g 90 #[y0, .int .i64 jz, y1, .int .i64 kz, .int .i64 1, .float .f32 q.a, .float .f32 q.b, .float .f32 q.c, .float .f32 z1, .float .f32 z2, .float .f32 q.m, .float .f32 q.l, s, .int .i64 (q.j : Nat), .int .i64 (loudN q.x q.nx : Nat), t, .int .i64 (q.k : Nat), .int .i64 (loudN q.y q.ny : Nat), .pointer (some ⟨r, 0, none⟩)] ∧ Row w r 103 #[mdl 1 q.a q.b q.c, .float .f32 q.p, .float .f32 q.q] ∧ OwnS w b0 (b0 + 1) s q.x q.nx ∧ OwnS w d0 (d0 + 1) t q.y q.ny ∧ (b0 ≠ d0 ∧ B ≤ b0 ∧ B ≤ d0 ∧ b0 ≠ r ∧ d0 ≠ r ∧ B ≤ r ∧ b0 < g ∧ d0 < g ∧ r < g ∧ g < C)
theorem LbB.ok {w w' : World} {B C g : Nat} {q : BwS} (h : LbB w B C g q) (hk : ∀ k, B ≤ k → k < C → w'.heap[k]? = w.heap[k]?) : LbB w' B C g q := by
  obtain ⟨ok, s, t, y0, y1, jz, kz, b0, d0, r, z1, z2, R, RR, O1, O2, e1, e2, e3, e4, e5, e6, e7, e8, e9, e10⟩ := h
  exact ⟨ok, s, t, y0, y1, jz, kz, b0, d0, r, z1, z2, (rowF g _ _).ok w w' R (fun k a b => hk k (by have a' : g ≤ k := a; omega) (by have b' : k < g + 1 := b; omega)), (rowF r _ _).ok w w' RR (fun k a b => hk k (by have a' : r ≤ k := a; omega) (by have b' : k < r + 1 := b; omega)), (ownF b0 (b0 + 1) s q.x q.nx).ok w w' O1 (fun k a b => hk k (by have a' : b0 ≤ k := a; omega) (by have b' : k < b0 + 1 := b; omega)), (ownF d0 (d0 + 1) t q.y q.ny).ok w w' O2 (fun k a b => hk k (by have a' : d0 ≤ k := a; omega) (by have b' : k < d0 + 1 := b; omega)), e1, e2, e3, e4, e5, e6, e7, e8, e9, e10⟩
theorem LbB.le {w w' : World} {B C g : Nat} {q : BwS} (h : LbB w B C g q) (hl : Fk.le w w') (hC : C ≤ w.heap.size) : LbB w' B C g q := h.ok (fun k _ b => hl.block k (Nat.lt_of_lt_of_le b hC))
theorem LbB.set {w : World} {B C g : Nat} {q : BwS} (h : LbB w B C g q) {a : Addr} (hC : C ≤ a.block) (v : Value) : LbB (w.setCell a v) B C g q := h.ok (fun k _ b => Below.heap_setCell _ _ _ _ (by intro e; omega))
def lbB (B C g : Nat) (q : BwS) : Fact := ⟨B, C, fun w => LbB w B C g q, fun _ _ h hk => LbB.ok h hk⟩
theorem Frg.lbB {w0 w : World} {l : List Fact} {B C g : Nat} {q : BwS} (h : Frg w0 w l) (hm : lbB B C g q ∈ l) : LbB w B C g q := (h.facts _ hm).2.2
set_option maxRecDepth 100000 in
set_option maxHeartbeats 4000000 in
theorem i_bstepL (B C g : Nat) (q : BwS) (sp : Nat) (w : World) (h : LbB w B C g q) (hsp : fits .f32 sp) :
    Calls Try.prog 36 #[.pointer (some ⟨g, 0, none⟩), .float .f32 sp] w fun e w' => ∃ o, e = .returned (.float .f32 o) ∧ can .f32 o = q.y q.k ∧ fits .f32 o ∧ LbB w' B C g (stepB q sp) ∧ Chg (rng B C) w w' := by
  obtain ⟨ok, s, t, y0, y1, jz, kz, b0, d0, r, z1, z2, R, RR, O1, O2, e1, e2, e3, e4, e5, e6, e7, e8, e9, e10⟩ := h
  refine (i_bstep q sp z1 z2 y0 y1 s t jz kz b0 (b0 + 1) d0 (d0 + 1) g r w R RR O1 O2 ok (by omega) (by omega) (by omega) hsp (by omega) (by omega) (by omega)).mono ?_
  rintro e w' ⟨o, rfl, ho, fo, R3, RR3, P1, P2, C3⟩
  exact ⟨o, rfl, ho, fo, ⟨ok.step sp (O2.rd.fits ok.k1), s, t, y0, y1, jz, kz, b0, d0, r, z1, z2, R3, RR3, P1, P2, e1, e2, e3, e4, e5, e6, e7, e8, e9, e10⟩, C3.mono (fun i e => ⟨by omega, by omega⟩)⟩
set_option maxRecDepth 100000 in
set_option maxHeartbeats 4000000 in
theorem i_bbehindL (B C g : Nat) (q : BwS) (w : World) (h : LbB w B C g q) :
    Calls Try.prog 37 #[.pointer (some ⟨g, 0, none⟩)] w fun e w' => ∃ s t, e = .returned (.agg #[s, .int .i64 (q.j : Nat), t, .int .i64 (q.k : Nat), .int .i64 1, .float .f32 q.a, .float .f32 q.b, .float .f32 q.c, .float .f32 q.p, .float .f32 q.q, .float .f32 q.m, .float .f32 q.l]) ∧ (twF B C q.x q.nx q.y q.ny s t).p w' ∧ s.oneCell' = true ∧ t.oneCell' = true ∧ Chg (rng B C) w w' := by
  obtain ⟨ok, s, t, y0, y1, jz, kz, b0, d0, r, z1, z2, R, RR, O1, O2, e1, e2, e3, e4, e5, e6, e7, e8, e9, e10⟩ := h
  refine (i_bbehind y0 y1 s t jz kz _ _ g r q z1 z2 w R RR (by omega) (own_one O1) (own_one O2)).mono ?_
  rintro e w' ⟨rfl, hC⟩
  exact ⟨s, t, rfl, ⟨b0, d0, O1.chgS hC (fun i a b e => by have e' : i = g := e; omega), O2.chgS hC (fun i a b e => by have e' : i = g := e; omega), e1, e2, by omega, e3, by omega⟩, own_one O1, own_one O2, hC.mono (fun i e => by have e' : i = g := e; exact ⟨by omega, by omega⟩)⟩
set_option maxRecDepth 100000 in
set_option maxHeartbeats 4000000 in
theorem i_stepsB (B C g D : Nat) (q : BwS) (x : Nat → Nat) (n : Nat) (s : Value) (w : World) (hn : n ≤ 1048576) (h : LbB w B C g q) (hC : C ≤ w.heap.size) (hs : ∀ w', Chg (rng B C) w w' → RdS w' D s x n) :
    Calls Try.prog 40 #[.iface 63 (.pointer (some ⟨g, 0, none⟩)), s] w fun e w' => ∃ s', e = .returned s' ∧ OwnS w' w.heap.size w'.heap.size s' (outB q x) n ∧ LbB w' B C g (runQ stepB q x n) ∧ Chg (rng B C) w w' := by
  have HM := fun w => makeF n (by omega) w
  have Z := hid (hs w (Chg.refl _ w))
  have HS := hid hs
  have HL := hid h
  clear hs h
  go_enter Try.func40, Try.ntmps40
  go_wp2_with (with_reducible refine wpList_lenR rfl rfl rfl Try.underlying22 Z.out ?_)
  go_loopw [13] (fun i wr => ∃ j : Nat, j ≤ n ∧ i = .int .i64 j ∧ ∃ y : Nat → Nat, Hid (∀ i, i < j → fits .f32 (y i) ∧ can .f32 (y i) = outB q x i) ∧ Hid (LbB wr B C g (runQ stepB q x j)) ∧ Hid (Row wr w.heap.size 25 (ftab .f32 (upto j y (fun _ => 0)) n)) ∧ Hid (Chg (rng B C) w wr)) (fun i _ => n - (intOf i).toNat)
  case atStart => exact ⟨0, by omega, rfl, fun _ => 0, fun m hm => absurd hm (by omega), HL.out.le (le_alloc w _) hC, by rw [upto_zero]; exact Row.new w _ _, Chg.of_le (le_alloc w _)⟩
  case round =>
    obtain ⟨j, hj, rfl, y, HJ, HB, HR, HC⟩ := hrel
    clear HM
    by_cases hlt : j < n
    · rcases HS.out _ HC.out with ⟨_, h0⟩ | ⟨a, cap, rfl, hc, hm, hx⟩
      · omega
      obtain ⟨_, p, c1, fp, ep⟩ := hx j hlt
      have FP := hid fp
      have EP : Hid (can .f32 p = can .f32 (x j)) := by unfold Hid; rw [← ep, can_can]
      clear hx fp ep
      go_wp2_with (first | (go_at_call 36; ((with_reducible refine (i_bstepL _ _ _ _ p _ HB.out FP.out).mono ?_); rintro e w4 ⟨r, rfl, hr, fr, hlb, hch⟩; rw [stepB_congr _ EP.out] at hlb; have HB4 := hid hlb; have HR4 := hid (hch.row HR.out (fun e => by have := e.2; omega)); have HC4 := hid (HC.out.trans hch); have HRR := hid hr; have cc := HR4.out.ftab hlt; have ff := HR4.out.frozen j; clear hlb hch hr)))
      go_roundw
      case rel =>
        refine ⟨j + 1, by omega, by go_num, fun i => if i = j then r else y i, fill_step (p := fun i v => fits .f32 v ∧ can .f32 v = outB q x i) HJ.out ⟨fr, HRR.out⟩, HB4.out.set hC _, ?_, HC4.out.setNew (Nat.le_refl _) _⟩
        have F4 := HR4.out.set j (.float .f32 r)
        rw [set_ftab, upto_set] at F4
        exact F4
      case measure => simp [intOf]; omega
    · obtain rfl : j = n := by omega
      rw [show (ftab .f32 (upto j y (fun _ => 0)) j) = ftab .f32 y j from ftab_congr (fun i hi => if_pos hi)] at HR
      go_wp2
      go_ret
      exact ⟨_, rfl, .inr ⟨w.heap.size, 0, j, _, rfl, Nat.le_refl _, by unfold maxLen; omega, Nat.le_refl _, HR.out.lt, HR.out, fun i hi => ⟨y i, by rw [Nat.zero_add]; exact get_ftab .f32 y j i hi, (HJ.out i hi).1, (HJ.out i hi).2⟩⟩, HB.out, HC.out⟩
set_option maxRecDepth 100000 in
set_option maxHeartbeats 4000000 in
theorem i_PlayBow_no (x1 : Nat → Nat) (n1 : Nat) (u : Value) (B1 : Nat) (x y : Nat → Nat) (nx ny : Nat) (j k : Int) (fk : Int) (a b c p q : Nat) (m o : Nat) (B : Nat) (s t : Value) (w : World) (hs : (slT x nx).RdN w B s) (ht : (slT y ny).RdN w B t) (wf : (Lit.int .i64 j).wf = true ∧ (Lit.int .i64 k).wf = true) (hf : (fits .f32 a ∧ fits .f32 b ∧ fits .f32 c ∧ fits .f32 p ∧ fits .f32 q ∧ fits .f32 m ∧ fits .f32 o)) (hv : okBow x y nx ny j k fk a b c p q m o = false) :
    Calls Try.prog 18 #[.agg #[s, .int .i64 j, t, .int .i64 k, .int .i64 fk, .float .f32 a, .float .f32 b, .float .f32 c, .float .f32 p, .float .f32 q, .float .f32 m, .float .f32 o], u] w (OutV_Tli (cdBow (fun _ => 0) (fun _ => 0) 0 0 0 0 0 0 0 0 0 0 0 0) (fun _ => 0) 0 1 w) := by
  have HV := hid (fun (w' : World) (hl : le w w') => hv ▸ i_ValidBow x y nx ny j k fk a b c p q m o B s t w' (hs.le hl) (ht.le hl) wf hf)
  clear hs ht wf hf hv
  have F := ((Frg.nil w).box 38 #[s, .int .i64 j, t, .int .i64 k, .int .i64 fk, .float .f32 a, .float .f32 b, .float .f32 c, .float .f32 p, .float .f32 q, .float .f32 m, .float .f32 o]).box 38 #[.slice none 0 0, .int .i64 0, .slice none 0 0, .int .i64 0, .int .i64 0, .float .f32 0, .float .f32 0, .float .f32 0, .float .f32 0, .float .f32 0, .float .f32 0, .float .f32 0]
  simp only [World.size_alloc] at F
  go_enter Try.func18, Try.ntmps18
  go_wp2_with (first | ((with_reducible refine at_loadU rfl rfl ?_); (with_reducible refine wpList_loadG F rfl rfl rfl (by first | exact m0 | exact m1 | exact m2 | exact m3 | exact m4 | exact m5 | exact m6 | exact m7 | exact m8 | exact m9 | exact m10 | exact m11) Try.underlying38 rfl uinfoBowI rfl ?_)) | (go_at_call 29; ((with_reducible refine (HV.out _ F.below).mono ?_); rintro e w1 ⟨rfl, hl⟩; replace F := F.le hl; clear hl)) | ((with_reducible refine stop_store rfl ?_)))
  show wpList _ _ _ _ _ _
  refine wpList_storeD rfl rfl rfl (cells := #[.slice none 0 0, .int .i64 0, .slice none 0 0, .int .i64 0, .int .i64 0, .float .f32 0, .float .f32 0, .float .f32 0, .float .f32 0, .float .f32 0, .float .f32 0, .float .f32 0]) rfl (F.row m0) uinfoBowI rfl (by simp [Value.oneCell']) (fun w4 K => ?_)
  have R := hid K.row
  have L := hid (F.wr0 K).below
  clear K F
  go_wp2
  exact bodyPost_ret (results_row3 rfl _ _ _ _ _ rfl R.out Try.underlying38 rfl uinfoBowI) rfl ⟨[.slice none 0 0, .int .i64 0, .slice none 0 0, .int .i64 0, .int .i64 0, .float .f32 0, .float .f32 0, .float .f32 0, .float .f32 0, .float .f32 0, .float .f32 0, .float .f32 0], _, w.heap.size, rfl, layBow0 _ _, L.out, .inl ⟨rfl, rfl⟩, Nat.le_refl _, L.out.size⟩
set_option maxRecDepth 100000 in
set_option maxHeartbeats 4000000 in
theorem i_PlayBow_big (x1 : Nat → Nat) (n1 : Nat) (u : Value) (B1 : Nat) (q : BwS) (B : Nat) (s t : Value) (w : World) (hs : (slT q.x q.nx).RdN w B s) (ht : (slT q.y q.ny).RdN w B t) (ok : q.Ok) (hu : RdS w B1 u x1 n1) (hn : ¬ n1 ≤ 4096) (hv : (okBow q.x q.y q.nx q.ny (q.j : Nat) (q.k : Nat) 1 q.a q.b q.c q.p q.q q.m q.l) = true) :
    Calls Try.prog 18 #[.agg #[s, .int .i64 (q.j : Nat), t, .int .i64 (q.k : Nat), .int .i64 1, .float .f32 q.a, .float .f32 q.b, .float .f32 q.c, .float .f32 q.p, .float .f32 q.q, .float .f32 q.m, .float .f32 q.l], u] w (OutV_Tli (cdBow (fun _ => 0) (fun _ => 0) 0 0 0 0 0 0 0 0 0 0 0 0) (fun _ => 0) 0 3 w) := by
  have HV := hid (fun (w' : World) (hl : le w w') => hv ▸ i_ValidBow q.x q.y q.nx q.ny (q.j : Nat) (q.k : Nat) 1 q.a q.b q.c q.p q.q q.m q.l B s t w' (hs.le hl) (ht.le hl) ⟨wf_nat (Nat.le_trans (Nat.le_of_lt ok.j1) ok.nx2), wf_nat (Nat.le_trans (Nat.le_of_lt ok.k1) ok.ny2)⟩ ⟨ok.fa, ok.fb, ok.fc, ok.fp, ok.fq, ok.fm, ok.fl⟩)
  have Z := hid hu
  have hK : (4096 : Int) < (n1 : Int) := by omega
  clear hs ht hv ok hu hn
  have F := ((Frg.nil w).box 38 #[s, .int .i64 (q.j : Nat), t, .int .i64 (q.k : Nat), .int .i64 1, .float .f32 q.a, .float .f32 q.b, .float .f32 q.c, .float .f32 q.p, .float .f32 q.q, .float .f32 q.m, .float .f32 q.l]).box 38 #[.slice none 0 0, .int .i64 0, .slice none 0 0, .int .i64 0, .int .i64 0, .float .f32 0, .float .f32 0, .float .f32 0, .float .f32 0, .float .f32 0, .float .f32 0, .float .f32 0]
  simp only [World.size_alloc] at F
  go_enter Try.func18, Try.ntmps18
  go_wp2_with (first | ((with_reducible refine at_loadU rfl rfl ?_); (with_reducible refine wpList_loadG F rfl rfl rfl (by first | exact m0 | exact m1 | exact m2 | exact m3 | exact m4 | exact m5 | exact m6 | exact m7 | exact m8 | exact m9 | exact m10 | exact m11) Try.underlying38 rfl uinfoBowI rfl ?_)) | (go_at_call 29; ((with_reducible refine (HV.out _ F.below).mono ?_); rintro e w1 ⟨rfl, hl⟩; replace F := F.le hl; clear hl)) | (with_reducible refine wpList_lenR rfl rfl rfl Try.underlying22 Z.out ?_) | ((with_reducible refine stop_store rfl ?_)))
  show wpList _ _ _ _ _ _
  refine wpList_storeD rfl rfl rfl (cells := #[.slice none 0 0, .int .i64 0, .slice none 0 0, .int .i64 0, .int .i64 0, .float .f32 0, .float .f32 0, .float .f32 0, .float .f32 0, .float .f32 0, .float .f32 0, .float .f32 0]) rfl (F.row m0) uinfoBowI rfl (by simp [Value.oneCell']) (fun w4 K => ?_)
  have R := hid K.row
  have L := hid (F.wr0 K).below
  clear K F
  go_wp2
  exact bodyPost_ret (results_row3 rfl _ _ _ _ _ rfl R.out Try.underlying38 rfl uinfoBowI) rfl ⟨[.slice none 0 0, .int .i64 0, .slice none 0 0, .int .i64 0, .int .i64 0, .float .f32 0, .float .f32 0, .float .f32 0, .float .f32 0, .float .f32 0, .float .f32 0, .float .f32 0], _, w.heap.size, rfl, layBow0 _ _, L.out, .inl ⟨rfl, rfl⟩, Nat.le_refl _, L.out.size⟩
set_option maxRecDepth 100000 in
set_option maxHeartbeats 4000000 in
theorem i_PlayBow_yes (x1 : Nat → Nat) (n1 : Nat) (u : Value) (B1 : Nat) (q : BwS) (B : Nat) (s t : Value) (w : World) (hs : (slT q.x q.nx).RdN w B s) (ht : (slT q.y q.ny).RdN w B t) (ok : q.Ok) (hu : RdS w B1 u x1 n1) (hn : n1 ≤ 4096) (hv : (okBow q.x q.y q.nx q.ny (q.j : Nat) (q.k : Nat) 1 q.a q.b q.c q.p q.q q.m q.l) = true) :
    Calls Try.prog 18 #[.agg #[s, .int .i64 (q.j : Nat), t, .int .i64 (q.k : Nat), .int .i64 1, .float .f32 q.a, .float .f32 q.b, .float .f32 q.c, .float .f32 q.p, .float .f32 q.q, .float .f32 q.m, .float .f32 q.l], u] w (OutV_Tli (cdBow (runQ stepB q x1 n1).x (runQ stepB q x1 n1).y (runQ stepB q x1 n1).nx (runQ stepB q x1 n1).ny ((runQ stepB q x1 n1).j : Nat) ((runQ stepB q x1 n1).k : Nat) 1 (runQ stepB q x1 n1).a (runQ stepB q x1 n1).b (runQ stepB q x1 n1).c (runQ stepB q x1 n1).p (runQ stepB q x1 n1).q (runQ stepB q x1 n1).m (runQ stepB q x1 n1).l) (outB q x1) n1 0 w) := by
  have HV := hid (fun (w' : World) (hl : le w w') => hv ▸ i_ValidBow q.x q.y q.nx q.ny (q.j : Nat) (q.k : Nat) 1 q.a q.b q.c q.p q.q q.m q.l B s t w' (hs.le hl) (ht.le hl) ⟨wf_nat (Nat.le_trans (Nat.le_of_lt ok.j1) ok.nx2), wf_nat (Nat.le_trans (Nat.le_of_lt ok.k1) ok.ny2)⟩ ⟨ok.fa, ok.fb, ok.fc, ok.fp, ok.fq, ok.fm, ok.fl⟩)
  have HN := hid (fun (w' : World) (hl : le w w') => i_newDrawn q.x q.y q.nx q.ny (q.j : Nat) (q.k : Nat) 1 q.a q.b q.c q.p q.q q.m q.l B s t w' ((slT_rds hs).le hl) ((slT_rds ht).le hl) ⟨ok.nx1, ok.nx2⟩ ⟨ok.ny1, ok.ny2⟩ ⟨by decide, by decide⟩)
  have OK := hid ok; have Z := hid hu
  have hK : ¬ (4096 : Int) < (n1 : Int) := by omega
  clear hs ht hv ok hu
  have F := ((Frg.nil w).box 38 #[s, .int .i64 (q.j : Nat), t, .int .i64 (q.k : Nat), .int .i64 1, .float .f32 q.a, .float .f32 q.b, .float .f32 q.c, .float .f32 q.p, .float .f32 q.q, .float .f32 q.m, .float .f32 q.l]).box 38 #[.slice none 0 0, .int .i64 0, .slice none 0 0, .int .i64 0, .int .i64 0, .float .f32 0, .float .f32 0, .float .f32 0, .float .f32 0, .float .f32 0, .float .f32 0, .float .f32 0]
  simp only [World.size_alloc] at F
  go_enter Try.func18, Try.ntmps18
  go_wp2_with (first | ((with_reducible refine at_loadU rfl rfl ?_); (with_reducible refine wpList_loadG F rfl rfl rfl (by first | exact m0 | exact m1 | exact m2 | exact m3 | exact m4 | exact m5 | exact m6 | exact m7 | exact m8 | exact m9 | exact m10 | exact m11) Try.underlying38 rfl uinfoBowI rfl ?_)) | (go_at_call 29; ((with_reducible refine (HV.out _ F.below).mono ?_); rintro e w1 ⟨rfl, hl⟩; replace F := F.le hl; clear hl)) | (with_reducible refine wpList_lenR rfl rfl rfl Try.underlying22 Z.out ?_) | (go_at_call 30; ((with_reducible refine (HN.out _ F.below).mono ?_); rintro e w2 ⟨g, r, s1, t1, b0, d0, rfl, hRG, hRR, hO1, hO2, hne, l1, l2, ⟨l3, l4, l4'⟩, ⟨l5, l5', l5''⟩, l6, hl2⟩; replace F := F.push (e := lbB w1.heap.size w2.heap.size g q) hl2 ⟨OK.out, s1, t1, s, t, (q.j : Nat), (q.k : Nat), b0, d0, r, q.p, q.q, hRG, hRR, hO1, hO2, hne, l1, l2, l3, l4, l4', l5, l5', l5'', l6⟩ (Nat.le_refl _) (Nat.le_refl _); clear hRG hRR hO1 hO2 hl2; have HST := hid (i_stepsB w1.heap.size w2.heap.size g B1 q x1 n1 u w2 (by omega) (Frg.lbB F m0) (F.facts (lbB w1.heap.size w2.heap.size g q) m0).2.1 (fun w5 hc => Z.out.stay F.below (fun k hk => Nat.le_trans (F.facts (lbB w1.heap.size w2.heap.size g q) m0).1 hk.1) hc)))) | (go_at_call 40; ((with_reducible refine HST.out.mono ?_); rintro e w3 ⟨s3, rfl, ho3, hlb3, hch3⟩; have OK2 := hid hlb3.1; replace F := F.chgNew (e' := lbB w1.heap.size w2.heap.size g (runQ stepB q x1 n1)) (f := ownF w2.heap.size w3.heap.size s3 (outB q x1) n1) hch3 hlb3 rfl rfl ho3 (Nat.le_refl _) (Nat.le_refl _); clear ho3 hlb3 hch3)) | (go_at_call 37; ((with_reducible refine (i_bbehindL _ _ _ _ _ (Frg.lbB F m1)).mono ?_); rintro e w4 ⟨s4, t4, rfl, htw, os, ot, hch4⟩; have OS := hid os; have OT := hid ot; replace F := F.chg1 (e' := twF w1.heap.size w2.heap.size (runQ stepB q x1 n1).x (runQ stepB q x1 n1).nx (runQ stepB q x1 n1).y (runQ stepB q x1 n1).ny s4 t4) hch4 htw rfl rfl; clear htw hch4 os ot)) | ((with_reducible refine stop_store rfl ?_)))
  show wpList _ _ _ _ _ _
  refine wpList_storeD rfl rfl rfl (cells := #[s4, .int .i64 ((runQ stepB q x1 n1).j : Nat), t4, .int .i64 ((runQ stepB q x1 n1).k : Nat), .int .i64 1, .float .f32 (runQ stepB q x1 n1).a, .float .f32 (runQ stepB q x1 n1).b, .float .f32 (runQ stepB q x1 n1).c, .float .f32 (runQ stepB q x1 n1).p, .float .f32 (runQ stepB q x1 n1).q, .float .f32 (runQ stepB q x1 n1).m, .float .f32 (runQ stepB q x1 n1).l]) rfl (F.row (g := w.heap.size + 1) m2) uinfoBowI rfl (by simp only [List.all_toArray', List.all_cons, List.all_nil, OS.out, OT.out]; rfl) (fun w9 K => ?_)
  have R := hid K.row
  have F6 := F.wr2 K
  have f1 := F6.facts (twF w1.heap.size w2.heap.size (runQ stepB q x1 n1).x (runQ stepB q x1 n1).nx (runQ stepB q x1 n1).y (runQ stepB q x1 n1).ny s4 t4) m1
  obtain ⟨b5, d5, p1, p2, p3, p4, p5, p6, p7⟩ := f1.2.2
  have f0 := F6.facts (ownF w2.heap.size w3.heap.size s3 (outB q x1) n1) m0
  have h1 : w.heap.size ≤ w1.heap.size := f1.1
  have h2 : w.heap.size ≤ w2.heap.size := f0.1
  have h3 : w3.heap.size ≤ w9.heap.size := f0.2.1
  have h4 : w2.heap.size ≤ w9.heap.size := f1.2.1
  have O6 := hid (OwnS.mono f0.2.2 (Nat.le_refl _) h3)
  have ok2 := OK2.out
  have LY := hid (layBowH (runQ stepB q x1 n1).x (runQ stepB q x1 n1).y (runQ stepB q x1 n1).nx (runQ stepB q x1 n1).ny ((runQ stepB q x1 n1).j : Nat) ((runQ stepB q x1 n1).k : Nat) 1 (runQ stepB q x1 n1).a (runQ stepB q x1 n1).b (runQ stepB q x1 n1).c (runQ stepB q x1 n1).p (runQ stepB q x1 n1).q (runQ stepB q x1 n1).m (runQ stepB q x1 n1).l (lo := w.heap.size) (hi := w2.heap.size) ⟨b5, d5, p1, p2, p3, by omega, p5, by omega, p7⟩ ⟨wf_nat (Nat.le_trans (Nat.le_of_lt ok2.j1) ok2.nx2), wf_nat (Nat.le_trans (Nat.le_of_lt ok2.k1) ok2.ny2), by decide⟩ ⟨ok2.fa, ok2.fb, ok2.fc, ok2.fp, ok2.fq, ok2.fm, ok2.fl⟩)
  have L := hid F6.below
  clear K F F6 f0 f1 ok2 p1 p2
  go_wp2
  exact bodyPost_ret (results_row3 rfl _ _ _ _ _ rfl R.out Try.underlying38 rfl uinfoBowI) rfl ⟨[s4, .int .i64 ((runQ stepB q x1 n1).j : Nat), t4, .int .i64 ((runQ stepB q x1 n1).k : Nat), .int .i64 1, .float .f32 (runQ stepB q x1 n1).a, .float .f32 (runQ stepB q x1 n1).b, .float .f32 (runQ stepB q x1 n1).c, .float .f32 (runQ stepB q x1 n1).p, .float .f32 (runQ stepB q x1 n1).q, .float .f32 (runQ stepB q x1 n1).m, .float .f32 (runQ stepB q x1 n1).l], s3, w2.heap.size, rfl, LY.out, L.out, O6.out, h2, h4⟩
def SbB (w : World) (B C g : Nat) (q : BwS) : Prop := q.Ok ∧ ∃ (s t : Value) (b0 d0 : Nat), Row w g 38 #[s, .int .i64 (q.j : Nat), t, .int .i64 (q.k : Nat), .int .i64 1, .float .f32 q.a, .float .f32 q.b, .float .f32 q.c, .float .f32 q.p, .float .f32 q.q, .float .f32 q.m, .float .f32 q.l] ∧ OwnS w b0 (b0 + 1) s q.x q.nx ∧ OwnS w d0 (d0 + 1) t q.y q.ny ∧ (b0 ≠ d0 ∧ B ≤ b0 ∧ B ≤ d0 ∧ b0 < g ∧ d0 < g ∧ g < C)
theorem SbB.ok {w w' : World} {B C g : Nat} {q : BwS} (h : SbB w B C g q) (hk : ∀ k, B ≤ k → k < C → w'.heap[k]? = w.heap[k]?) : SbB w' B C g q := by
  obtain ⟨ok, s, t, b0, d0, R, O1, O2, e1, e2, e3, e4, e5, e6⟩ := h
  exact ⟨ok, s, t, b0, d0, (rowF g _ _).ok w w' R (fun k a b => hk k (by have a' : g ≤ k := a; omega) (by have b' : k < g + 1 := b; omega)), (ownF b0 (b0 + 1) s q.x q.nx).ok w w' O1 (fun k a b => hk k (by have a' : b0 ≤ k := a; omega) (by have b' : k < b0 + 1 := b; omega)), (ownF d0 (d0 + 1) t q.y q.ny).ok w w' O2 (fun k a b => hk k (by have a' : d0 ≤ k := a; omega) (by have b' : k < d0 + 1 := b; omega)), e1, e2, e3, e4, e5, e6⟩
def sbB (B C g : Nat) (q : BwS) : Fact := ⟨B, C, fun w => SbB w B C g q, fun _ _ h hk => SbB.ok h hk⟩
theorem Frg.sbB {w0 w : World} {l : List Fact} {B C g : Nat} {q : BwS} (h : Frg w0 w l) (hm : sbB B C g q ∈ l) : SbB w B C g q := (h.facts _ hm).2.2
theorem toSbB {w0 w : World} {g lo hi : Nat} {s t : Value} {q : BwS} {l : List Fact} (h : Frg w0 w (rowF g 38 #[s, .int .i64 (q.j : Nat), t, .int .i64 (q.k : Nat), .int .i64 1, .float .f32 q.a, .float .f32 q.b, .float .f32 q.c, .float .f32 q.p, .float .f32 q.q, .float .f32 q.m, .float .f32 q.l] :: twF lo hi q.x q.nx q.y q.ny s t :: l)) (ok : q.Ok) : Frg w0 w (sbB lo (g + 1) g q :: l) := by
  have f1 := h.facts (rowF g 38 #[s, .int .i64 (q.j : Nat), t, .int .i64 (q.k : Nat), .int .i64 1, .float .f32 q.a, .float .f32 q.b, .float .f32 q.c, .float .f32 q.p, .float .f32 q.q, .float .f32 q.m, .float .f32 q.l]) (by simp)
  have f2 := h.facts (twF lo hi q.x q.nx q.y q.ny s t) (by simp)
  have a1 := List.pairwise_cons.1 h.apart
  have a2 := List.pairwise_cons.1 a1.2
  have b12 : hi ≤ g := a1.1 (twF lo hi q.x q.nx q.y q.ny s t) (by simp)
  obtain ⟨b0, d0, p1, p2, p3, p4, p5, p6, p7⟩ := f2.2.2
  refine ⟨h.below, fun e he => ?_, List.pairwise_cons.2 ⟨fun e he => a2.1 e he, a2.2⟩⟩
  rcases List.mem_cons.1 he with rfl | he
  · exact ⟨f2.1, f1.2.1, ⟨ok, s, t, b0, d0, f1.2.2, p1, p2, p3, p4, p6, by omega, by omega, Nat.lt_succ_self _⟩⟩
  · exact h.facts e (by simp [he])
set_option maxRecDepth 100000 in
set_option maxHeartbeats 4000000 in
theorem s_bstepL (B C g : Nat) (q : BwS) (sp : Nat) (w : World) (h : SbB w B C g q) (hsp : fits .f32 sp) :
    Calls Try.prog 35 #[.pointer (some ⟨g, 0, none⟩), .float .f32 sp] w fun e w' => ∃ o, e = .returned (.float .f32 o) ∧ can .f32 o = q.y q.k ∧ fits .f32 o ∧ SbB w' B C g (stepB q sp) ∧ Chg (rng B C) w w' := by
  obtain ⟨ok, s, t, b0, d0, R, O1, O2, e1, e2, e3, e4, e5, e6⟩ := h
  refine (s_l05StepBow q sp s t b0 (b0 + 1) d0 (d0 + 1) g w R O1 O2 ok hsp (by omega) (by omega) (by omega)).mono ?_
  rintro e w' ⟨o, rfl, ho, fo, R3, P1, P2, C3⟩
  exact ⟨o, rfl, ho, fo, ⟨ok.step sp (O2.rd.fits ok.k1), s, t, b0, d0, R3, P1, P2, e1, e2, e3, e4, e5, e6⟩, C3.mono (fun i e => ⟨by omega, by omega⟩)⟩
set_option maxRecDepth 100000 in
set_option maxHeartbeats 4000000 in
theorem s_PlayBow_no (x1 : Nat → Nat) (n1 : Nat) (u : Value) (B1 : Nat) (x y : Nat → Nat) (nx ny : Nat) (j k : Int) (fk : Int) (a b c p q : Nat) (m o : Nat) (B : Nat) (s t : Value) (w : World) (hs : (slT x nx).RdN w B s) (ht : (slT y ny).RdN w B t) (wf : (Lit.int .i64 j).wf = true ∧ (Lit.int .i64 k).wf = true) (hf : (fits .f32 a ∧ fits .f32 b ∧ fits .f32 c ∧ fits .f32 p ∧ fits .f32 q ∧ fits .f32 m ∧ fits .f32 o)) (hv : okBow x y nx ny j k fk a b c p q m o = false) :
    Calls Try.prog 16 #[.agg #[s, .int .i64 j, t, .int .i64 k, .int .i64 fk, .float .f32 a, .float .f32 b, .float .f32 c, .float .f32 p, .float .f32 q, .float .f32 m, .float .f32 o], u] w (OutV_Tli (cdBow (fun _ => 0) (fun _ => 0) 0 0 0 0 0 0 0 0 0 0 0 0) (fun _ => 0) 0 1 w) := by
  have HV := hid (fun (g9 : Nat) (w' : World) (hl : le w w') (R : Row w' g9 38 #[s, .int .i64 j, t, .int .i64 k, .int .i64 fk, .float .f32 a, .float .f32 b, .float .f32 c, .float .f32 p, .float .f32 q, .float .f32 m, .float .f32 o]) => hv ▸ s_l05Bow x y nx ny j k fk a b c p q m o B s t w' g9 R (hs.le hl) (ht.le hl) wf hf)
  clear hs ht wf hf hv
  have F := ((Frg.nil w).box 38 #[s, .int .i64 j, t, .int .i64 k, .int .i64 fk, .float .f32 a, .float .f32 b, .float .f32 c, .float .f32 p, .float .f32 q, .float .f32 m, .float .f32 o]).box 38 #[.slice none 0 0, .int .i64 0, .slice none 0 0, .int .i64 0, .int .i64 0, .float .f32 0, .float .f32 0, .float .f32 0, .float .f32 0, .float .f32 0, .float .f32 0, .float .f32 0]
  simp only [World.size_alloc] at F
  go_enter Try.func16, Try.ntmps16
  go_wp2_with (first | ((with_reducible refine at_loadU rfl rfl ?_); (with_reducible refine wpList_loadG F rfl rfl rfl (by first | exact m0 | exact m1 | exact m2 | exact m3 | exact m4 | exact m5 | exact m6 | exact m7 | exact m8 | exact m9 | exact m10 | exact m11) Try.underlying38 rfl uinfoBowI rfl ?_)) | (go_at_call 23; ((with_reducible refine (HV.out _ _ F.below (F.row m1)).mono ?_); rintro e w1 ⟨rfl, hl⟩; replace F := F.le hl; clear hl)) | ((with_reducible refine stop_store rfl ?_)))
  show wpList _ _ _ _ _ _
  replace F := F.box 25 #[]
  refine wpList_storeD rfl rfl rfl (cells := #[.slice none 0 0, .int .i64 0, .slice none 0 0, .int .i64 0, .int .i64 0, .float .f32 0, .float .f32 0, .float .f32 0, .float .f32 0, .float .f32 0, .float .f32 0, .float .f32 0]) rfl (F.row m1) uinfoBowI rfl (by simp [Value.oneCell']) (fun w4 K => ?_)
  have R := hid K.row
  replace F := F.wr1 K
  have R1 := F.facts _ m0
  simp only [rowF] at R1
  have R2 : Hid (OwnS w4 w.heap.size w4.heap.size (.slice (some ⟨w1.heap.size, 0, none⟩) 0 0) (fun _ => 0) 0) := .inr ⟨w1.heap.size, 0, 0, _, rfl, Nat.le_refl _, by decide, R1.1, R1.2.1, R1.2.2, fun i hi => absurd hi (by omega)⟩
  have L := hid F.below
  clear K F R1
  go_wp2
  exact bodyPost_ret (results_row3 rfl _ _ _ _ _ rfl R.out Try.underlying38 rfl uinfoBowI) rfl ⟨[.slice none 0 0, .int .i64 0, .slice none 0 0, .int .i64 0, .int .i64 0, .float .f32 0, .float .f32 0, .float .f32 0, .float .f32 0, .float .f32 0, .float .f32 0, .float .f32 0], _, w.heap.size, rfl, layBow0 _ _, L.out, R2.out, Nat.le_refl _, L.out.size⟩
set_option maxRecDepth 100000 in
set_option maxHeartbeats 4000000 in
theorem s_PlayBow_big (x1 : Nat → Nat) (n1 : Nat) (u : Value) (B1 : Nat) (q : BwS) (B : Nat) (s t : Value) (w : World) (hs : (slT q.x q.nx).RdN w B s) (ht : (slT q.y q.ny).RdN w B t) (ok : q.Ok) (hu : RdS w B1 u x1 n1) (hn : ¬ n1 ≤ 4096) (hv : (okBow q.x q.y q.nx q.ny (q.j : Nat) (q.k : Nat) 1 q.a q.b q.c q.p q.q q.m q.l) = true) :
    Calls Try.prog 16 #[.agg #[s, .int .i64 (q.j : Nat), t, .int .i64 (q.k : Nat), .int .i64 1, .float .f32 q.a, .float .f32 q.b, .float .f32 q.c, .float .f32 q.p, .float .f32 q.q, .float .f32 q.m, .float .f32 q.l], u] w (OutV_Tli (cdBow (fun _ => 0) (fun _ => 0) 0 0 0 0 0 0 0 0 0 0 0 0) (fun _ => 0) 0 3 w) := by
  have HV := hid (fun (g9 : Nat) (w' : World) (hl : le w w') (R : Row w' g9 38 #[s, .int .i64 (q.j : Nat), t, .int .i64 (q.k : Nat), .int .i64 1, .float .f32 q.a, .float .f32 q.b, .float .f32 q.c, .float .f32 q.p, .float .f32 q.q, .float .f32 q.m, .float .f32 q.l]) => hv ▸ s_l05Bow q.x q.y q.nx q.ny (q.j : Nat) (q.k : Nat) 1 q.a q.b q.c q.p q.q q.m q.l B s t w' g9 R (hs.le hl) (ht.le hl) ⟨wf_nat (Nat.le_trans (Nat.le_of_lt ok.j1) ok.nx2), wf_nat (Nat.le_trans (Nat.le_of_lt ok.k1) ok.ny2)⟩ ⟨ok.fa, ok.fb, ok.fc, ok.fp, ok.fq, ok.fm, ok.fl⟩)
  have Z := hid hu
  have hK : (4096 : Int) < (n1 : Int) := by omega
  clear hs ht hv ok hu hn
  have F := ((Frg.nil w).box 38 #[s, .int .i64 (q.j : Nat), t, .int .i64 (q.k : Nat), .int .i64 1, .float .f32 q.a, .float .f32 q.b, .float .f32 q.c, .float .f32 q.p, .float .f32 q.q, .float .f32 q.m, .float .f32 q.l]).box 38 #[.slice none 0 0, .int .i64 0, .slice none 0 0, .int .i64 0, .int .i64 0, .float .f32 0, .float .f32 0, .float .f32 0, .float .f32 0, .float .f32 0, .float .f32 0, .float .f32 0]
  simp only [World.size_alloc] at F
  go_enter Try.func16, Try.ntmps16
  go_wp2_with (first | ((with_reducible refine at_loadU rfl rfl ?_); (with_reducible refine wpList_loadG F rfl rfl rfl (by first | exact m0 | exact m1 | exact m2 | exact m3 | exact m4 | exact m5 | exact m6 | exact m7 | exact m8 | exact m9 | exact m10 | exact m11) Try.underlying38 rfl uinfoBowI rfl ?_)) | (go_at_call 23; ((with_reducible refine (HV.out _ _ F.below (F.row m1)).mono ?_); rintro e w1 ⟨rfl, hl⟩; replace F := F.le hl; clear hl)) | (with_reducible refine wpList_lenR rfl rfl rfl Try.underlying22 Z.out ?_) | ((with_reducible refine stop_store rfl ?_)))
  show wpList _ _ _ _ _ _
  replace F := F.box 25 #[]
  refine wpList_storeD rfl rfl rfl (cells := #[.slice none 0 0, .int .i64 0, .slice none 0 0, .int .i64 0, .int .i64 0, .float .f32 0, .float .f32 0, .float .f32 0, .float .f32 0, .float .f32 0, .float .f32 0, .float .f32 0]) rfl (F.row m1) uinfoBowI rfl (by simp [Value.oneCell']) (fun w4 K => ?_)
  have R := hid K.row
  replace F := F.wr1 K
  have R1 := F.facts _ m0
  simp only [rowF] at R1
  have R2 : Hid (OwnS w4 w.heap.size w4.heap.size (.slice (some ⟨w1.heap.size, 0, none⟩) 0 0) (fun _ => 0) 0) := .inr ⟨w1.heap.size, 0, 0, _, rfl, Nat.le_refl _, by decide, R1.1, R1.2.1, R1.2.2, fun i hi => absurd hi (by omega)⟩
  have L := hid F.below
  clear K F R1
  go_wp2
  exact bodyPost_ret (results_row3 rfl _ _ _ _ _ rfl R.out Try.underlying38 rfl uinfoBowI) rfl ⟨[.slice none 0 0, .int .i64 0, .slice none 0 0, .int .i64 0, .int .i64 0, .float .f32 0, .float .f32 0, .float .f32 0, .float .f32 0, .float .f32 0, .float .f32 0, .float .f32 0], _, w.heap.size, rfl, layBow0 _ _, L.out, R2.out, Nat.le_refl _, L.out.size⟩
set_option maxRecDepth 100000 in
set_option maxHeartbeats 4000000 in
theorem s_PlayBow_yes (x1 : Nat → Nat) (n1 : Nat) (u : Value) (B1 : Nat) (q : BwS) (B : Nat) (s t : Value) (w : World) (hs : (slT q.x q.nx).RdN w B s) (ht : (slT q.y q.ny).RdN w B t) (ok : q.Ok) (hu : RdS w B1 u x1 n1) (hn : n1 ≤ 4096) (hv : (okBow q.x q.y q.nx q.ny (q.j : Nat) (q.k : Nat) 1 q.a q.b q.c q.p q.q q.m q.l) = true) :
    Calls Try.prog 16 #[.agg #[s, .int .i64 (q.j : Nat), t, .int .i64 (q.k : Nat), .int .i64 1, .float .f32 q.a, .float .f32 q.b, .float .f32 q.c, .float .f32 q.p, .float .f32 q.q, .float .f32 q.m, .float .f32 q.l], u] w (OutV_Tli (cdBow (runQ stepB q x1 n1).x (runQ stepB q x1 n1).y (runQ stepB q x1 n1).nx (runQ stepB q x1 n1).ny ((runQ stepB q x1 n1).j : Nat) ((runQ stepB q x1 n1).k : Nat) 1 (runQ stepB q x1 n1).a (runQ stepB q x1 n1).b (runQ stepB q x1 n1).c (runQ stepB q x1 n1).p (runQ stepB q x1 n1).q (runQ stepB q x1 n1).m (runQ stepB q x1 n1).l) (outB q x1) n1 0 w) := by
  have HV := hid (fun (g9 : Nat) (w' : World) (hl : le w w') (R : Row w' g9 38 #[s, .int .i64 (q.j : Nat), t, .int .i64 (q.k : Nat), .int .i64 1, .float .f32 q.a, .float .f32 q.b, .float .f32 q.c, .float .f32 q.p, .float .f32 q.q, .float .f32 q.m, .float .f32 q.l]) => hv ▸ s_l05Bow q.x q.y q.nx q.ny (q.j : Nat) (q.k : Nat) 1 q.a q.b q.c q.p q.q q.m q.l B s t w' g9 R (hs.le hl) (ht.le hl) ⟨wf_nat (Nat.le_trans (Nat.le_of_lt ok.j1) ok.nx2), wf_nat (Nat.le_trans (Nat.le_of_lt ok.k1) ok.ny2)⟩ ⟨ok.fa, ok.fb, ok.fc, ok.fp, ok.fq, ok.fm, ok.fl⟩)
  have HC := hid (fun (g9 : Nat) (w' : World) (hl : le w w') (R : Row w' g9 38 #[s, .int .i64 (q.j : Nat), t, .int .i64 (q.k : Nat), .int .i64 1, .float .f32 q.a, .float .f32 q.b, .float .f32 q.c, .float .f32 q.p, .float .f32 q.q, .float .f32 q.m, .float .f32 q.l]) => s_l05CopyBow q.x q.y q.nx q.ny (q.j : Nat) (q.k : Nat) 1 q.a q.b q.c q.p q.q q.m q.l B s t w' g9 R ((slT_rds hs).le hl) ((slT_rds ht).le hl) ⟨ok.nx1, ok.nx2⟩ ⟨ok.ny1, ok.ny2⟩)
  have OK := hid ok; have Z := hid hu
  have hK : ¬ (4096 : Int) < (n1 : Int) := by omega
  have HI : Hid (∃ i, Try.prog.info? 25 = some i ∧ i.zero = some (.float .f32 0) ∧ i.size = 1 ∧ i.bytes = 4) := info36
  obtain ⟨i0, HI⟩ := HI
  replace HI := hid HI
  clear hs ht hv ok hu
  have F := ((Frg.nil w).box 38 #[s, .int .i64 (q.j : Nat), t, .int .i64 (q.k : Nat), .int .i64 1, .float .f32 q.a, .float .f32 q.b, .float .f32 q.c, .float .f32 q.p, .float .f32 q.q, .float .f32 q.m, .float .f32 q.l]).box 38 #[.slice none 0 0, .int .i64 0, .slice none 0 0, .int .i64 0, .int .i64 0, .float .f32 0, .float .f32 0, .float .f32 0, .float .f32 0, .float .f32 0, .float .f32 0, .float .f32 0]
  simp only [World.size_alloc] at F
  go_enter Try.func16, Try.ntmps16
  go_wp2_with (first | (go_at_call 23; ((with_reducible refine (HV.out _ _ F.below (F.row m1)).mono ?_); rintro e w1 ⟨rfl, hl⟩; replace F := F.le hl; clear hl)) | (with_reducible refine wpList_lenR rfl rfl rfl Try.underlying22 Z.out ?_) | (go_at_call 24; ((with_reducible refine (HC.out _ _ F.below (F.row m1)).mono ?_); rintro e w2 ⟨s1, t1, rfl, h2, hl⟩; have os := hid (two_one h2).1; have ot := hid (two_one h2).2; replace F := F.two hl h2; clear h2 hl)) | (refine wpList_storeG F rfl rfl rfl rfl rfl uinfoBowI rfl (by simp only [List.all_toArray', List.all_cons, List.all_nil, os.out, ot.out]; rfl) ?_; clear F; intro W3 F zW; replace zW := hid zW; replace F := hid (toSbB F OK.out)))
  have hz : W3.heap.size = w2.heap.size + 1 := by have := zW.out; simpa using this
  replace hz := hid hz
  have OR : Hid ((W3.alloc (.cells #[] 25)).ownsRow (w2.heap.size + 1) 25 1 (.slice (some ⟨W3.heap.size, 0, none⟩) 0 0) 0 (flist (fun _ => 0) 0)) := ⟨rfl, .inr ⟨W3.heap.size, 0, #[], rfl, Nat.le_of_eq hz.out.symm, by have := Row.new W3 25 #[]; exact this, Nat.le_refl _, by decide, rfl, rfl⟩⟩
  go_loopw [8, 9] (fun v i wr => ∃ j : Nat, j ≤ n1 ∧ i = .int .i64 j ∧ ∃ y : Nat → Nat, Hid (∀ i, i < j → fits .f32 (y i) ∧ can .f32 (y i) = outB q x1 i) ∧ Hid (wr.ownsRow (w2.heap.size + 1) 25 1 v j (flist y j)) ∧ Hid (w2.heap.size + 1 ≤ wr.heap.size) ∧ Hid (Frg w wr [sbB w1.heap.size (w2.heap.size + 1) w2.heap.size (runQ stepB q x1 j), rowF (w.heap.size + 1) 38 #[.slice none 0 0, .int .i64 0, .slice none 0 0, .int .i64 0, .int .i64 0, .float .f32 0, .float .f32 0, .float .f32 0, .float .f32 0, .float .f32 0, .float .f32 0, .float .f32 0], rowF w.heap.size 38 #[s, .int .i64 (q.j : Nat), t, .int .i64 (q.k : Nat), .int .i64 1, .float .f32 q.a, .float .f32 q.b, .float .f32 q.c, .float .f32 q.p, .float .f32 q.q, .float .f32 q.m, .float .f32 q.l]])) (fun _ i _ => n1 - (intOf i).toNat)
  case atStart => exact ⟨0, by omega, rfl, fun _ => 0, fun m hm => absurd hm (by omega), OR.out, by have := hz.out; show w2.heap.size + 1 ≤ (W3.alloc _).heap.size; rw [World.size_alloc]; omega, F.out.alloc _⟩
  case round =>
    obtain ⟨j, hj, rfl, y, HJ, HW, HS, FJ⟩ := hrel
    clear F OR
    by_cases hlt : j < n1
    · rcases Z.out.le FJ.out.below with ⟨_, h0⟩ | ⟨a, cap, rfl, hc, hm, hx⟩
      · omega
      obtain ⟨_, p, c1, fp, ep⟩ := hx j hlt
      have FP := hid fp
      have EP : Hid (can .f32 p = can .f32 (x1 j)) := by unfold Hid; rw [← ep, can_can]
      have hjK : (j : Int) < (n1 : Int) := by omega
      clear hx fp ep
      go_wp2_with (first | (go_at_call 35; ((with_reducible refine (s_bstepL _ _ _ _ p _ (Frg.sbB FJ.out m0) FP.out).mono ?_); rintro e w4 ⟨r, rfl, hr, fr, hsp, hch⟩; rw [stepB_congr _ EP.out] at hsp; replace FJ := hid (FJ.out.chg0 (e' := sbB _ _ _ (stepB (runQ stepB q x1 j) (x1 j))) hch hsp rfl rfl); replace HW := hid (ownsRow_chS hch HW.out (fun i hi => hi.2)); replace HS := hid (Nat.le_trans HS.out hch.size); have HR := hid hr; clear hsp hch hr)) | (at_builtin; refine wpList_append_own _ rfl _ _ 22 rfl (w2.heap.size + 1) 25 i0 (.float .f32 0) 1 4 Try.underlying22 HI.out.1 HI.out.2.1 HI.out.2.2.1 HI.out.2.2.2 rfl (by decide) _ _ _ rfl (HW.out.alloc _) ⟨w4.heap.size, 0, none⟩ 1 1 [.float .f32 r] rfl rfl (fun j u hj => by match j, hj with | 0, hj => simp at hj; subst hj; simp [Addr.add]) (fun u hu => by simp at hu; subst hu; rfl) (by unfold maxLen; omega) (by omega) (by have := HS.out; simp; omega) ?_; intro v' w5 hown hgr _; have HOWN := hid hown; have HGR := hid hgr; clear hown hgr))
      go_roundw
      case rel =>
        have hch : Chg (w2.heap.size + 1 ≤ ·) w4 w5 := (Chg.of_le (le_alloc w4 _)).trans (chg_grown HGR.out (ownBlock_ge HW.out))
        refine ⟨j + 1, by omega, by go_num, fun i => if i = j then r else y i, fill_step (p := fun i v => fits .f32 v ∧ can .f32 v = outB q x1 i) HJ.out ⟨fr, HR.out⟩, ?_, Nat.le_trans HS.out hch.size, ?_⟩
        · have := HOWN.out
          rw [flist_snoc] at this
          exact this
        · have f1 := FJ.out.facts _ m0
          have f2 := FJ.out.facts _ m1
          have hwz : w.heap.size ≤ w1.heap.size := f1.1
          have hap := (List.pairwise_cons.1 FJ.out.apart).1 (rowF (w.heap.size + 1) 38 #[.slice none 0 0, .int .i64 0, .slice none 0 0, .int .i64 0, .int .i64 0, .float .f32 0, .float .f32 0, .float .f32 0, .float .f32 0, .float .f32 0, .float .f32 0, .float .f32 0]) (by simp)
          simp only [rowF, sbB] at hap
          have h12 : w1.heap.size ≤ w2.heap.size := by obtain ⟨_, _, _, b0, _, _, _, _, g1, g2, g3, g4, g5, g6⟩ := f1.2.2; omega
          exact FJ.out.up hch (by simp [sbB, rowF]; omega) (by omega)
      case measure => simp [intOf]; omega
    · obtain rfl : j = n1 := by omega
      replace FJ := FJ.out
      obtain ⟨ok5, s5, t5, b5, d5, R5, O5, O6, e1, e2, e3, e4, e5, e6⟩ := Frg.sbB FJ m0
      have hfl : w.heap.size ≤ w1.heap.size := (FJ.facts _ m0).1
      have R5 := hid R5; have O5 := hid O5; have O6 := hid O6; have OS := hid (own_one O5.out); have OT := hid (own_one O6.out); have OK5 := hid ok5
      clear ok5
      go_wp2_with (first | (with_reducible refine wpList_lenR rfl rfl rfl Try.underlying22 Z.out ?_) | ((with_reducible refine at_loadU rfl rfl ?_); (with_reducible refine wpList_loadDR R5.out rfl rfl rfl Try.underlying38 rfl uinfoBowI rfl ?_)) | ((with_reducible refine stop_store (ty := 38) rfl ?_)))
      show wpList _ _ _ _ _ _
      refine wpList_storeD rfl rfl rfl (cells := #[s5, .int .i64 ((runQ stepB q x1 j).j : Nat), t5, .int .i64 ((runQ stepB q x1 j).k : Nat), .int .i64 1, .float .f32 (runQ stepB q x1 j).a, .float .f32 (runQ stepB q x1 j).b, .float .f32 (runQ stepB q x1 j).c, .float .f32 (runQ stepB q x1 j).p, .float .f32 (runQ stepB q x1 j).q, .float .f32 (runQ stepB q x1 j).m, .float .f32 (runQ stepB q x1 j).l]) rfl (FJ.row (g := w.heap.size + 1) m1) uinfoBowI rfl (by simp only [List.all_toArray', List.all_cons, List.all_nil, OS.out, OT.out]; rfl) (fun w6 KK => ?_)
      have RW := hid KK.row
      have hap := (List.pairwise_cons.1 FJ.apart).1 (rowF (w.heap.size + 1) 38 #[.slice none 0 0, .int .i64 0, .slice none 0 0, .int .i64 0, .int .i64 0, .float .f32 0, .float .f32 0, .float .f32 0, .float .f32 0, .float .f32 0, .float .f32 0, .float .f32 0]) (by simp)
      simp only [rowF, sbB] at hap
      have F6 := FJ.wr1 KK
      have hc : Chg (· = w.heap.size + 1) _ w6 := (Chg.refl _ _).wrote KK rfl
      have p1 := O5.out.chgS hc (fun i h1 h2 h3 => by have h3' : i = w.heap.size + 1 := h3; omega)
      have p2 := O6.out.chgS hc (fun i h1 h2 h3 => by have h3' : i = w.heap.size + 1 := h3; omega)
      have OW := hid (own_of_row (ownsRow_ch hc HW.out (by omega)) HJ.out)
      have L := hid F6.below
      have hs6 := hid (Nat.le_trans HS.out hc.size)
      have ok2 := OK5.out
      have LY := hid (layBowH (runQ stepB q x1 j).x (runQ stepB q x1 j).y (runQ stepB q x1 j).nx (runQ stepB q x1 j).ny ((runQ stepB q x1 j).j : Nat) ((runQ stepB q x1 j).k : Nat) 1 (runQ stepB q x1 j).a (runQ stepB q x1 j).b (runQ stepB q x1 j).c (runQ stepB q x1 j).p (runQ stepB q x1 j).q (runQ stepB q x1 j).m (runQ stepB q x1 j).l (lo := w.heap.size) (hi := w2.heap.size + 1) ⟨b5, d5, p1, p2, e1, by omega, by omega, by omega, by omega⟩ ⟨wf_nat (Nat.le_trans (Nat.le_of_lt ok2.j1) ok2.nx2), wf_nat (Nat.le_trans (Nat.le_of_lt ok2.k1) ok2.ny2), by decide⟩ ⟨ok2.fa, ok2.fb, ok2.fc, ok2.fp, ok2.fq, ok2.fm, ok2.fl⟩)
      have hq : w.heap.size ≤ w2.heap.size + 1 := by omega
      clear hc KK FJ F6 p1 p2 ok2
      go_wp2
      exact bodyPost_ret (results_row3 rfl _ _ _ _ _ rfl RW.out Try.underlying38 rfl uinfoBowI) rfl ⟨[s5, .int .i64 ((runQ stepB q x1 j).j : Nat), t5, .int .i64 ((runQ stepB q x1 j).k : Nat), .int .i64 1, .float .f32 (runQ stepB q x1 j).a, .float .f32 (runQ stepB q x1 j).b, .float .f32 (runQ stepB q x1 j).c, .float .f32 (runQ stepB q x1 j).p, .float .f32 (runQ stepB q x1 j).q, .float .f32 (runQ stepB q x1 j).m, .float .f32 (runQ stepB q x1 j).l], _, w2.heap.size + 1, rfl, LY.out, L.out, OW.out, hq, hs6.out⟩
theorem both_PlayBow (cs : List CD) (x1 : Nat → Nat) (n1 : Nat) (h : HasShL shBow cs) : ∃ (ar0 : List CD) (xr1 : Nat → Nat) (nr1 : Nat) (ar2 : Int), ShOkL shBow ar0 ∧ szL ar0 ≤ 1048576 ∧ nr1 ≤ 1048576 ∧ (∀ (w : World) (B : Nat) (u : List Value) (B1 : Nat) (u1 : Value), RdLN w B (cs.map CD.cp) u → RdS w B1 u1 x1 n1 → Calls Try.prog 16 #[.agg u.toArray, u1] w (OutV_Tli ar0 xr1 nr1 ar2 w)) ∧ (∀ (w : World) (B : Nat) (u : List Value) (B1 : Nat) (u1 : Value), RdLN w B (cs.map CD.cp) u → RdS w B1 u1 x1 n1 → Calls Try.prog 18 #[.agg u.toArray, u1] w (OutV_Tli ar0 xr1 nr1 ar2 w)) := by
  obtain ⟨xs, ys, nx, ny, j, k, fk, a, b, c, p, q, m, o, rfl, hx, hy⟩ := bow_data h
  cases hv : okBow (fun i => (xs i).fx) (fun i => (ys i).fx) nx ny j k fk a b c p q m o
  · refine ⟨cdBow (fun _ => 0) (fun _ => 0) 0 0 0 0 0 0 0 0 0 0 0 0, fun _ => 0, 0, 1, cdBow_sh _ _ _ _ _ _ _ _ _ _ _ _ _ _, by rw [cdBow_sz]; omega, by omega, fun w B u B1 u1 hu hu1 => ?_, fun w B u B1 u1 hu hu1 => ?_⟩
    · obtain ⟨s, t, rfl, hs, ht, wf, hf⟩ := bow_open hu hx hy
      exact s_PlayBow_no x1 n1 u1 B1 (fun i => (xs i).fx) (fun i => (ys i).fx) nx ny j k fk a b c p q m o B s t w hs ht wf hf hv
    · obtain ⟨s, t, rfl, hs, ht, wf, hf⟩ := bow_open hu hx hy
      exact i_PlayBow_no x1 n1 u1 B1 (fun i => (xs i).fx) (fun i => (ys i).fx) nx ny j k fk a b c p q m o B s t w hs ht wf hf hv
  · obtain ⟨z1, z2, z3, z4, ⟨j, rfl, ej⟩, ⟨k, rfl, ek⟩, rfl, hk⟩ := okBow_j hv
    let Q : BwS := ⟨fun i => (xs i).fx, fun i => (ys i).fx, nx, ny, j, k, a, b, c, p, q, m, o⟩
    by_cases hn : n1 ≤ 4096
    · have hb : (runQ stepB Q x1 n1).nx = nx ∧ (runQ stepB Q x1 n1).ny = ny := by
        clear hn
        induction n1 with
        | zero => exact ⟨rfl, rfl⟩
        | succ n ih => exact ih
      refine ⟨cdBow (runQ stepB Q x1 n1).x (runQ stepB Q x1 n1).y (runQ stepB Q x1 n1).nx (runQ stepB Q x1 n1).ny ((runQ stepB Q x1 n1).j : Nat) ((runQ stepB Q x1 n1).k : Nat) 1 (runQ stepB Q x1 n1).a (runQ stepB Q x1 n1).b (runQ stepB Q x1 n1).c (runQ stepB Q x1 n1).p (runQ stepB Q x1 n1).q (runQ stepB Q x1 n1).m (runQ stepB Q x1 n1).l, outB Q x1, n1, 0, cdBow_sh _ _ _ _ _ _ _ _ _ _ _ _ _ _, by rw [cdBow_sz, hb.1, hb.2]; omega, by omega, fun w B u B1 u1 hu hu1 => ?_, fun w B u B1 u1 hu hu1 => ?_⟩
      · obtain ⟨s, t, rfl, hs, ht, wf, hf⟩ := bow_open hu hx hy
        exact s_PlayBow_yes x1 n1 u1 B1 Q B s t w hs ht ⟨z1, z2, z3, z4, ej, ek, hk, hf.1, hf.2.1, hf.2.2.1, hf.2.2.2.1, hf.2.2.2.2.1, hf.2.2.2.2.2.1, hf.2.2.2.2.2.2⟩ hu1 hn hv
      · obtain ⟨s, t, rfl, hs, ht, wf, hf⟩ := bow_open hu hx hy
        exact i_PlayBow_yes x1 n1 u1 B1 Q B s t w hs ht ⟨z1, z2, z3, z4, ej, ek, hk, hf.1, hf.2.1, hf.2.2.1, hf.2.2.2.1, hf.2.2.2.2.1, hf.2.2.2.2.2.1, hf.2.2.2.2.2.2⟩ hu1 hn hv
    · refine ⟨cdBow (fun _ => 0) (fun _ => 0) 0 0 0 0 0 0 0 0 0 0 0 0, fun _ => 0, 0, 3, cdBow_sh _ _ _ _ _ _ _ _ _ _ _ _ _ _, by rw [cdBow_sz]; omega, by omega, fun w B u B1 u1 hu hu1 => ?_, fun w B u B1 u1 hu hu1 => ?_⟩
      · obtain ⟨s, t, rfl, hs, ht, wf, hf⟩ := bow_open hu hx hy
        exact s_PlayBow_big x1 n1 u1 B1 Q B s t w hs ht ⟨z1, z2, z3, z4, ej, ek, hk, hf.1, hf.2.1, hf.2.2.1, hf.2.2.2.1, hf.2.2.2.2.1, hf.2.2.2.2.2.1, hf.2.2.2.2.2.2⟩ hu1 hn hv
      · obtain ⟨s, t, rfl, hs, ht, wf, hf⟩ := bow_open hu hx hy
        exact i_PlayBow_big x1 n1 u1 B1 Q B s t w hs ht ⟨z1, z2, z3, z4, ej, ek, hk, hf.1, hf.2.1, hf.2.2.1, hf.2.2.2.1, hf.2.2.2.2.1, hf.2.2.2.2.2.1, hf.2.2.2.2.2.2⟩ hu1 hn hv
end Go.Proofs.Ythjdklolbkhbfaa
