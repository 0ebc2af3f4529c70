/- Texts of the walk, laid in one file. -/
import Derived.Test.YtgjdmoenobacgaaMf
set_option linter.unusedVariables false
set_option linter.unusedSimpArgs false
/- 'StepBow' and 'SticksAt' of both. -/
namespace Go.Fk
open Go Go.RowKit
theorem wf_nat {n : Nat} (h : n ≤ 1024) : (Lit.int .i64 (n : Int)).wf = true := by
  simp only [Lit.wf, IntKind.min, IntKind.max, IntKind.signed, IntKind.bits, Bool.and_eq_true, decide_eq_true_eq, if_true]
  constructor <;> omega
/-- What lies behind two facts stands when blocks from the second one on have turned. -/
theorem Frg.cut2 {w0 w w' : World} {L : List Fact} {a b : Fact} (h : Frg w0 w (a :: b :: L)) {S : Nat → Prop} (k : Chg S w w') (hS : ∀ i, S i → b.lo ≤ i) : Frg w0 w' L := by
  have hb := h.facts b (by simp)
  have p := List.pairwise_cons.1 (List.pairwise_cons.1 h.apart).2
  refine ⟨h.below.trans (k.below (fun i hi => Nat.le_trans hb.1 (hS i hi)) h.size), fun e he => ?_, p.2⟩
  have hx := h.facts e (by simp [he])
  have ha := p.1 e he
  exact ⟨hx.1, Nat.le_trans hx.2.1 k.size, e.ok w w' hx.2.2 (fun i h1 h2 => k.block i (by omega) (fun c => by have := hS i c; omega))⟩
theorem ret_bi {a b : Bool} {i : Int} (h : a = b) : Ending.returned (.tuple #[.bool a, .int .i64 i]) = .returned (.tuple #[.bool b, .int .i64 i]) := by rw [h]
end Go.Fk
namespace Go.Proofs.Ytgjdmoenobacgaa
open Go.RowKit Go.Fk
set_option maxRecDepth 100000 in
set_option maxHeartbeats 4000000 in
theorem i_StepBow_no (x y : Nat → Nat) (nx ny : Nat) (j k : Int) (fk : Int) (a b c p q : Nat) (m o : Nat) (sp : Nat) (B : Nat) (s t : Value) (w : World) (hs : (slT x nx).RdN w B s) (ht : (slT y ny).RdN w B t) (wf : (Lit.int .i64 j).wf = true ∧ (Lit.int .i64 k).wf = true) (hf : (fits .f32 a ∧ fits .f32 b ∧ fits .f32 c ∧ fits .f32 p ∧ fits .f32 q ∧ fits .f32 m ∧ fits .f32 o)) (hv : okBow x y nx ny j k fk a b c p q m o = false) :
    Calls Try.prog 23 #[.agg #[s, .int .i64 j, t, .int .i64 k, .int .i64 fk, .float .f32 a, .float .f32 b, .float .f32 c, .float .f32 p, .float .f32 q, .float .f32 m, .float .f32 o], .float .f32 sp] w (OutV_Tfi (cdBow (fun _ => 0) (fun _ => 0) 0 0 0 0 0 0 0 0 0 0 0 0) 0 1 w) := by
  have HV := hid (fun (w' : World) (hl : le w w') => hv ▸ i_ValidBow x y nx ny j k fk a b c p q m o B s t w' (hs.le hl) (ht.le hl) wf hf)
  clear hs ht wf hf hv
  have F := ((Frg.nil w).box 31 #[s, .int .i64 j, t, .int .i64 k, .int .i64 fk, .float .f32 a, .float .f32 b, .float .f32 c, .float .f32 p, .float .f32 q, .float .f32 m, .float .f32 o]).box 31 #[.slice none 0 0, .int .i64 0, .slice none 0 0, .int .i64 0, .int .i64 0, .float .f32 0, .float .f32 0, .float .f32 0, .float .f32 0, .float .f32 0, .float .f32 0, .float .f32 0]
  simp only [World.size_alloc] at F
  go_enter Try.func23, Try.ntmps23
  go_wp2_with (first | ((with_reducible refine at_loadU rfl rfl ?_); (with_reducible refine wpList_loadG F rfl rfl rfl (by first | exact m0 | exact m1 | exact m2 | exact m3 | exact m4 | exact m5 | exact m6 | exact m7 | exact m8 | exact m9 | exact m10 | exact m11) Try.underlying31 rfl uinfoBowI rfl ?_)) | (go_at_call 77; ((with_reducible refine (HV.out _ F.below).mono ?_); rintro e w1 ⟨rfl, hl⟩; replace F := F.le hl; clear hl)) | ((with_reducible refine stop_store rfl ?_)))
  show wpList _ _ _ _ _ _
  refine wpList_storeD rfl rfl rfl (cells := #[.slice none 0 0, .int .i64 0, .slice none 0 0, .int .i64 0, .int .i64 0, .float .f32 0, .float .f32 0, .float .f32 0, .float .f32 0, .float .f32 0, .float .f32 0, .float .f32 0]) rfl (F.row m0) uinfoBowI rfl (by simp [Value.oneCell']) (fun w4 K => ?_)
  have R := hid K.row
  have L := hid (F.wr0 K).below
  clear K F
  go_wp2
  exact bodyPost_ret (results_row3 rfl _ _ _ _ _ rfl R.out Try.underlying31 rfl uinfoBowI) rfl ⟨[.slice none 0 0, .int .i64 0, .slice none 0 0, .int .i64 0, .int .i64 0, .float .f32 0, .float .f32 0, .float .f32 0, .float .f32 0, .float .f32 0, .float .f32 0, .float .f32 0], _, rfl, layBow0 _ _, L.out, by decide⟩
set_option maxRecDepth 100000 in
set_option maxHeartbeats 4000000 in
theorem i_StepBow_yes (sp : Nat) (hsp : fits .f32 sp) (q : BwS) (B : Nat) (s t : Value) (w : World) (hs : (slT q.x q.nx).RdN w B s) (ht : (slT q.y q.ny).RdN w B t) (ok : q.Ok) (hv : (okBow q.x q.y q.nx q.ny (q.j : Nat) (q.k : Nat) 1 q.a q.b q.c q.p q.q q.m q.l) = true) (fy : fits .f32 (q.y q.k)) :
    Calls Try.prog 23 #[.agg #[s, .int .i64 (q.j : Nat), t, .int .i64 (q.k : Nat), .int .i64 1, .float .f32 q.a, .float .f32 q.b, .float .f32 q.c, .float .f32 q.p, .float .f32 q.q, .float .f32 q.m, .float .f32 q.l], .float .f32 sp] w (OutV_Tfi (cdBow (stepB q sp).x (stepB q sp).y (stepB q sp).nx (stepB q sp).ny ((stepB q sp).j : Nat) ((stepB q sp).k : Nat) 1 (stepB q sp).a (stepB q sp).b (stepB q sp).c (stepB q sp).p (stepB q sp).q (stepB q sp).m (stepB q sp).l) (q.y q.k) 0 w) := by
  have HV := hid (fun (w' : World) (hl : le w w') => hv ▸ i_ValidBow q.x q.y q.nx q.ny (q.j : Nat) (q.k : Nat) 1 q.a q.b q.c q.p q.q q.m q.l B s t w' (hs.le hl) (ht.le hl) ⟨wf_nat (Nat.le_trans (Nat.le_of_lt ok.j1) ok.nx2), wf_nat (Nat.le_trans (Nat.le_of_lt ok.k1) ok.ny2)⟩ ⟨ok.fa, ok.fb, ok.fc, ok.fp, ok.fq, ok.fm, ok.fl⟩)
  have HN := hid (fun (w' : World) (hl : le w w') => i_newDrawn q.x q.y q.nx q.ny (q.j : Nat) (q.k : Nat) 1 q.a q.b q.c q.p q.q q.m q.l B s t w' ((slT_rds hs).le hl) ((slT_rds ht).le hl) ⟨ok.nx1, ok.nx2⟩ ⟨ok.ny1, ok.ny2⟩ ⟨by decide, by decide⟩)
  have OK := hid ok; have OK2 := hid (ok.step sp fy)
  clear hs ht hv ok
  have F := ((Frg.nil w).box 31 #[s, .int .i64 (q.j : Nat), t, .int .i64 (q.k : Nat), .int .i64 1, .float .f32 q.a, .float .f32 q.b, .float .f32 q.c, .float .f32 q.p, .float .f32 q.q, .float .f32 q.m, .float .f32 q.l]).box 31 #[.slice none 0 0, .int .i64 0, .slice none 0 0, .int .i64 0, .int .i64 0, .float .f32 0, .float .f32 0, .float .f32 0, .float .f32 0, .float .f32 0, .float .f32 0, .float .f32 0]
  simp only [World.size_alloc] at F
  go_enter Try.func23, Try.ntmps23
  go_wp2_with (first | ((with_reducible refine at_loadU rfl rfl ?_); (with_reducible refine wpList_loadG F rfl rfl rfl (by first | exact m0 | exact m1 | exact m2 | exact m3 | exact m4 | exact m5 | exact m6 | exact m7 | exact m8 | exact m9 | exact m10 | exact m11) Try.underlying31 rfl uinfoBowI rfl ?_)) | (go_at_call 77; ((with_reducible refine (HV.out _ F.below).mono ?_); rintro e w1 ⟨rfl, hl⟩; replace F := F.le hl; clear hl)) | (go_at_call 78; ((with_reducible refine (HN.out _ F.below).mono ?_); rintro e w2 ⟨g, r, s1, t1, b0, d0, rfl, hRG, hRR, hO1, hO2, hne, l1, l2, l3, l4, l5, l6, hl2⟩; have RG := hid hRG; have RR := hid hRR; have O1 := hid hO1; have O2 := hid hO2; have L2 := hid hl2; clear hRG hRR hO1 hO2 hl2)) | (go_at_call 79; ((with_reducible refine (i_bstep q sp q.p q.q s1 t1 b0 (b0 + 1) d0 (d0 + 1) g r _ RG.out RR.out O1.out O2.out OK.out (by omega) (by omega) (by omega) hsp (by omega) (by omega) (by omega)).mono ?_); rintro e w3 ⟨o3, rfl, ho3, fo3, hR3, hRR3, hP1, hP2, hC3⟩; have R3 := hid hR3; have RR3 := hid hRR3; have P1 := hid hP1; have P2 := hid hP2; have C3 := hid hC3; have HO3 := hid ho3; clear hR3 hRR3 hP1 hP2 hC3 ho3)) | (go_at_call 80; ((with_reducible refine (i_bbehind s1 t1 g r (stepB q sp) q.p q.q _ R3.out RR3.out (own_one P1.out) (own_one P2.out)).mono ?_); rintro e w4 ⟨rfl, hC4⟩; have C4 := hid hC4; clear hC4)) | ((with_reducible refine stop_store rfl ?_)))
  show wpList _ _ _ _ _ _
  have hz1 := (F.row m0).lt
  have L4 : Below w1.heap.size w1 w4 := Below.trans L2.out (Below.trans (C3.out.below (B := w1.heap.size) (fun k e => by omega) L2.out.size) (C4.out.below (B := w1.heap.size) (fun k e => by have e' : k = g := e; omega) (Nat.le_trans L2.out.size C3.out.size)))
  replace F := F.le L4
  have os := P1.out.one; have ot := P2.out.one
  have P1c := P1.out.chgS C4.out (fun i a b e => by have e' : i = g := e; omega)
  have P2c := P2.out.chgS C4.out (fun i a b e => by have e' : i = g := e; omega)
  refine wpList_storeD rfl rfl rfl (cells := #[s1, .int .i64 ((stepB q sp).j : Nat), t1, .int .i64 ((stepB q sp).k : Nat), .int .i64 1, .float .f32 (stepB q sp).a, .float .f32 (stepB q sp).b, .float .f32 (stepB q sp).c, .float .f32 (stepB q sp).p, .float .f32 (stepB q sp).q, .float .f32 (stepB q sp).m, .float .f32 (stepB q sp).l]) rfl (F.row m0) uinfoBowI rfl (by simp only [List.all_toArray', List.all_cons, List.all_nil, os, ot]; rfl) (fun w9 K => ?_)
  have C := (Chg.refl (· = w.heap.size + 1) w4).wrote K rfl
  have zc := C.size; have zc3 := C3.out.size; have zc4 := C4.out.size
  have Q1 := P1c.chgS C (fun i a b e => by have e' : i = w.heap.size + 1 := e; omega)
  have Q2 := P2c.chgS C (fun i a b e => by have e' : i = w.heap.size + 1 := e; omega)
  have ok2 := OK2.out
  have R := hid K.row
  have L := hid (F.wr0 K).below
  have LY := hid (layBow (stepB q sp).x (stepB q sp).y (stepB q sp).nx (stepB q sp).ny ((stepB q sp).j : Nat) ((stepB q sp).k : Nat) 1 (stepB q sp).a (stepB q sp).b (stepB q sp).c (stepB q sp).p (stepB q sp).q (stepB q sp).m (stepB q sp).l (lo := w.heap.size) ⟨b0, d0, Q1, Q2, hne, by omega, by omega, by omega, by omega⟩ ⟨wf_nat (Nat.le_trans (Nat.le_of_lt ok2.j1) ok2.nx2), wf_nat (Nat.le_trans (Nat.le_of_lt ok2.k1) ok2.ny2), by decide⟩ ⟨ok2.fa, ok2.fb, ok2.fc, ok2.fp, ok2.fq, ok2.fm, ok2.fl⟩)
  clear K F C P1c P2c Q1 Q2 os ot ok2
  go_wp2
  exact bodyPost_ret (results_row3 rfl _ _ _ _ _ rfl R.out Try.underlying31 rfl uinfoBowI) rfl ⟨[s1, .int .i64 ((stepB q sp).j : Nat), t1, .int .i64 ((stepB q sp).k : Nat), .int .i64 1, .float .f32 (stepB q sp).a, .float .f32 (stepB q sp).b, .float .f32 (stepB q sp).c, .float .f32 (stepB q sp).p, .float .f32 (stepB q sp).q, .float .f32 (stepB q sp).m, .float .f32 (stepB q sp).l], o3, rfl, LY.out, L.out, HO3.out⟩
set_option maxRecDepth 100000 in
set_option maxHeartbeats 4000000 in
theorem s_StepBow_no (x y : Nat → Nat) (nx ny : Nat) (j k : Int) (fk : Int) (a b c p q : Nat) (m o : Nat) (sp : Nat) (B : Nat) (s t : Value) (w : World) (hs : (slT x nx).RdN w B s) (ht : (slT y ny).RdN w B t) (wf : (Lit.int .i64 j).wf = true ∧ (Lit.int .i64 k).wf = true) (hf : (fits .f32 a ∧ fits .f32 b ∧ fits .f32 c ∧ fits .f32 p ∧ fits .f32 q ∧ fits .f32 m ∧ fits .f32 o)) (hv : okBow x y nx ny j k fk a b c p q m o = false) :
    Calls Try.prog 21 #[.agg #[s, .int .i64 j, t, .int .i64 k, .int .i64 fk, .float .f32 a, .float .f32 b, .float .f32 c, .float .f32 p, .float .f32 q, .float .f32 m, .float .f32 o], .float .f32 sp] w (OutV_Tfi (cdBow (fun _ => 0) (fun _ => 0) 0 0 0 0 0 0 0 0 0 0 0 0) 0 1 w) := by
  have HV := hid (fun (g9 : Nat) (w' : World) (hl : le w w') (R : Row w' g9 31 #[s, .int .i64 j, t, .int .i64 k, .int .i64 fk, .float .f32 a, .float .f32 b, .float .f32 c, .float .f32 p, .float .f32 q, .float .f32 m, .float .f32 o]) => hv ▸ s_l05Bow x y nx ny j k fk a b c p q m o B s t w' g9 R (hs.le hl) (ht.le hl) wf hf)
  clear hs ht wf hf hv
  have F := ((Frg.nil w).box 31 #[s, .int .i64 j, t, .int .i64 k, .int .i64 fk, .float .f32 a, .float .f32 b, .float .f32 c, .float .f32 p, .float .f32 q, .float .f32 m, .float .f32 o]).box 31 #[.slice none 0 0, .int .i64 0, .slice none 0 0, .int .i64 0, .int .i64 0, .float .f32 0, .float .f32 0, .float .f32 0, .float .f32 0, .float .f32 0, .float .f32 0, .float .f32 0]
  simp only [World.size_alloc] at F
  go_enter Try.func21, Try.ntmps21
  go_wp2_with (first | ((with_reducible refine at_loadU rfl rfl ?_); (with_reducible refine wpList_loadG F rfl rfl rfl (by first | exact m0 | exact m1 | exact m2 | exact m3 | exact m4 | exact m5 | exact m6 | exact m7 | exact m8 | exact m9 | exact m10 | exact m11) Try.underlying31 rfl uinfoBowI rfl ?_)) | (go_at_call 72; ((with_reducible refine (HV.out _ _ F.below (F.row m1)).mono ?_); rintro e w1 ⟨rfl, hl⟩; replace F := F.le hl; clear hl)) | ((with_reducible refine stop_store rfl ?_)))
  show wpList _ _ _ _ _ _
  refine wpList_storeD rfl rfl rfl (cells := #[.slice none 0 0, .int .i64 0, .slice none 0 0, .int .i64 0, .int .i64 0, .float .f32 0, .float .f32 0, .float .f32 0, .float .f32 0, .float .f32 0, .float .f32 0, .float .f32 0]) rfl (F.row m0) uinfoBowI rfl (by simp [Value.oneCell']) (fun w4 K => ?_)
  have R := hid K.row
  have L := hid (F.wr0 K).below
  clear K F
  go_wp2
  exact bodyPost_ret (results_row3 rfl _ _ _ _ _ rfl R.out Try.underlying31 rfl uinfoBowI) rfl ⟨[.slice none 0 0, .int .i64 0, .slice none 0 0, .int .i64 0, .int .i64 0, .float .f32 0, .float .f32 0, .float .f32 0, .float .f32 0, .float .f32 0, .float .f32 0, .float .f32 0], _, rfl, layBow0 _ _, L.out, by decide⟩
set_option maxRecDepth 100000 in
set_option maxHeartbeats 4000000 in
theorem s_StepBow_yes (sp : Nat) (hsp : fits .f32 sp) (q : BwS) (B : Nat) (s t : Value) (w : World) (hs : (slT q.x q.nx).RdN w B s) (ht : (slT q.y q.ny).RdN w B t) (ok : q.Ok) (hv : (okBow q.x q.y q.nx q.ny (q.j : Nat) (q.k : Nat) 1 q.a q.b q.c q.p q.q q.m q.l) = true) (fy : fits .f32 (q.y q.k)) :
    Calls Try.prog 21 #[.agg #[s, .int .i64 (q.j : Nat), t, .int .i64 (q.k : Nat), .int .i64 1, .float .f32 q.a, .float .f32 q.b, .float .f32 q.c, .float .f32 q.p, .float .f32 q.q, .float .f32 q.m, .float .f32 q.l], .float .f32 sp] w (OutV_Tfi (cdBow (stepB q sp).x (stepB q sp).y (stepB q sp).nx (stepB q sp).ny ((stepB q sp).j : Nat) ((stepB q sp).k : Nat) 1 (stepB q sp).a (stepB q sp).b (stepB q sp).c (stepB q sp).p (stepB q sp).q (stepB q sp).m (stepB q sp).l) (q.y q.k) 0 w) := by
  have HV := hid (fun (g9 : Nat) (w' : World) (hl : le w w') (R : Row w' g9 31 #[s, .int .i64 (q.j : Nat), t, .int .i64 (q.k : Nat), .int .i64 1, .float .f32 q.a, .float .f32 q.b, .float .f32 q.c, .float .f32 q.p, .float .f32 q.q, .float .f32 q.m, .float .f32 q.l]) => hv ▸ s_l05Bow q.x q.y q.nx q.ny (q.j : Nat) (q.k : Nat) 1 q.a q.b q.c q.p q.q q.m q.l B s t w' g9 R (hs.le hl) (ht.le hl) ⟨wf_nat (Nat.le_trans (Nat.le_of_lt ok.j1) ok.nx2), wf_nat (Nat.le_trans (Nat.le_of_lt ok.k1) ok.ny2)⟩ ⟨ok.fa, ok.fb, ok.fc, ok.fp, ok.fq, ok.fm, ok.fl⟩)
  have HC := hid (fun (g9 : Nat) (w' : World) (hl : le w w') (R : Row w' g9 31 #[s, .int .i64 (q.j : Nat), t, .int .i64 (q.k : Nat), .int .i64 1, .float .f32 q.a, .float .f32 q.b, .float .f32 q.c, .float .f32 q.p, .float .f32 q.q, .float .f32 q.m, .float .f32 q.l]) => s_l05CopyBow q.x q.y q.nx q.ny (q.j : Nat) (q.k : Nat) 1 q.a q.b q.c q.p q.q q.m q.l B s t w' g9 R ((slT_rds hs).le hl) ((slT_rds ht).le hl) ⟨ok.nx1, ok.nx2⟩ ⟨ok.ny1, ok.ny2⟩)
  have OK := hid ok; have OK2 := hid (ok.step sp fy)
  clear hs ht hv ok
  have F := ((Frg.nil w).box 31 #[s, .int .i64 (q.j : Nat), t, .int .i64 (q.k : Nat), .int .i64 1, .float .f32 q.a, .float .f32 q.b, .float .f32 q.c, .float .f32 q.p, .float .f32 q.q, .float .f32 q.m, .float .f32 q.l]).box 31 #[.slice none 0 0, .int .i64 0, .slice none 0 0, .int .i64 0, .int .i64 0, .float .f32 0, .float .f32 0, .float .f32 0, .float .f32 0, .float .f32 0, .float .f32 0, .float .f32 0]
  simp only [World.size_alloc] at F
  go_enter Try.func21, Try.ntmps21
  go_wp2_with (first | (go_at_call 72; ((with_reducible refine (HV.out _ _ F.below (F.row m1)).mono ?_); rintro e w1 ⟨rfl, hl⟩; replace F := F.le hl; clear hl)) | (go_at_call 73; ((with_reducible refine (HC.out _ _ F.below (F.row m1)).mono ?_); rintro e w2 ⟨s1, t1, rfl, h2, hl⟩; have os := hid (two_one h2).1; have ot := hid (two_one h2).2; replace F := F.two hl h2; clear h2 hl)) | (refine wpList_storeG F rfl rfl rfl rfl rfl uinfoBowI rfl (by simp only [List.all_toArray', List.all_cons, List.all_nil, os.out, ot.out]; rfl) ?_; clear F; intro W3 F zW))
  obtain ⟨b0, d0, hO1, hO2, hne, z1, z2, z3, z4⟩ := (F.facts (twF w1.heap.size w2.heap.size q.x q.nx q.y q.ny s1 t1) m1).2.2
  have O1 := hid hO1; have O2 := hid hO2; clear hO1 hO2
  have hg := (List.pairwise_cons.1 (List.pairwise_cons.1 F.apart).2).1 _ m0
  simp only [twF, rowF] at hg
  go_wp2_with (first | (go_at_call 74; ((with_reducible refine (s_l05StepBow q sp s1 t1 b0 (b0 + 1) d0 (d0 + 1) w2.heap.size _ (F.row m0) O1.out O2.out OK.out hsp (by omega) (by omega) (by omega)).mono ?_); rintro e w4 ⟨o3, rfl, ho3, fo3, hR3, hP1, hP2, hC3⟩; have R3 := hid hR3; have P1 := hid hP1; have P2 := hid hP2; have HO3 := hid ho3; have zC := hC3.size; replace F := F.cut2 hC3 (fun i e => by simp only [twF]; omega); clear hR3 hP1 hP2 hC3 ho3)) | ((with_reducible refine at_loadU rfl rfl ?_); (with_reducible refine wpList_loadDR R3.out rfl rfl rfl Try.underlying31 rfl uinfoBowI rfl ?_)) | ((with_reducible refine stop_store rfl ?_)))
  show wpList _ _ _ _ _ _
  have os4 := P1.out.one; have ot4 := P2.out.one
  refine wpList_storeD rfl rfl rfl (cells := #[s1, .int .i64 ((stepB q sp).j : Nat), t1, .int .i64 ((stepB q sp).k : Nat), .int .i64 1, .float .f32 (stepB q sp).a, .float .f32 (stepB q sp).b, .float .f32 (stepB q sp).c, .float .f32 (stepB q sp).p, .float .f32 (stepB q sp).q, .float .f32 (stepB q sp).m, .float .f32 (stepB q sp).l]) rfl (F.row m0) uinfoBowI rfl (by simp only [List.all_toArray', List.all_cons, List.all_nil, os4, ot4]; rfl) (fun w9 K => ?_)
  have C := (Chg.refl (· = w.heap.size + 1) w4).wrote K rfl
  have zc := C.size
  have Q1 := P1.out.chgS C (fun i a b e => by have e' : i = w.heap.size + 1 := e; omega)
  have Q2 := P2.out.chgS C (fun i a b e => by have e' : i = w.heap.size + 1 := e; omega)
  have ok2 := OK2.out
  have R := hid K.row
  have L := hid (F.wr0 K).below
  have LY := hid (layBow (stepB q sp).x (stepB q sp).y (stepB q sp).nx (stepB q sp).ny ((stepB q sp).j : Nat) ((stepB q sp).k : Nat) 1 (stepB q sp).a (stepB q sp).b (stepB q sp).c (stepB q sp).p (stepB q sp).q (stepB q sp).m (stepB q sp).l (lo := w.heap.size) ⟨b0, d0, Q1, Q2, hne, by omega, by omega, by omega, by omega⟩ ⟨wf_nat (Nat.le_trans (Nat.le_of_lt ok2.j1) ok2.nx2), wf_nat (Nat.le_trans (Nat.le_of_lt ok2.k1) ok2.ny2), by decide⟩ ⟨ok2.fa, ok2.fb, ok2.fc, ok2.fp, ok2.fq, ok2.fm, ok2.fl⟩)
  clear K F C Q1 Q2 os4 ot4 ok2
  go_wp2
  exact bodyPost_ret (results_row3 rfl _ _ _ _ _ rfl R.out Try.underlying31 rfl uinfoBowI) rfl ⟨[s1, .int .i64 ((stepB q sp).j : Nat), t1, .int .i64 ((stepB q sp).k : Nat), .int .i64 1, .float .f32 (stepB q sp).a, .float .f32 (stepB q sp).b, .float .f32 (stepB q sp).c, .float .f32 (stepB q sp).p, .float .f32 (stepB q sp).q, .float .f32 (stepB q sp).m, .float .f32 (stepB q sp).l], o3, rfl, LY.out, L.out, HO3.out⟩
theorem both_StepBow (cs : List CD) (sp : Nat) (h : HasShL shBow cs) (hsp : fits .f32 sp) : ∃ (ar0 : List CD) (ar1 : Nat) (ar2 : Int), ShOkL shBow ar0 ∧ szL ar0 ≤ 1048576 ∧ (∀ (w : World) (B : Nat) (u : List Value), RdLN w B (cs.map CD.cp) u → Calls Try.prog 21 #[.agg u.toArray, .float .f32 sp] w (OutV_Tfi ar0 ar1 ar2 w)) ∧ (∀ (w : World) (B : Nat) (u : List Value), RdLN w B (cs.map CD.cp) u → Calls Try.prog 23 #[.agg u.toArray, .float .f32 sp] w (OutV_Tfi ar0 ar1 ar2 w)) := by
  obtain ⟨xs, ys, nx, ny, j, k, fk, a, b, c, p, q, m, o, rfl, hx, hy⟩ := bow_data h
  cases hv : okBow (fun i => (xs i).fx) (fun i => (ys i).fx) nx ny j k fk a b c p q m o
  · refine ⟨cdBow (fun _ => 0) (fun _ => 0) 0 0 0 0 0 0 0 0 0 0 0 0, 0, 1, cdBow_sh (fun _ => 0) (fun _ => 0) 0 0 0 0 0 0 0 0 0 0 0 0, by rw [cdBow_sz]; omega, fun w B u hu => ?_, fun w B u hu => ?_⟩
    · obtain ⟨s, t, rfl, hs, ht, wf, hf⟩ := bow_open hu hx hy
      exact s_StepBow_no (fun i => (xs i).fx) (fun i => (ys i).fx) nx ny j k fk a b c p q m o sp B s t w hs ht wf hf hv
    · obtain ⟨s, t, rfl, hs, ht, wf, hf⟩ := bow_open hu hx hy
      exact i_StepBow_no (fun i => (xs i).fx) (fun i => (ys i).fx) nx ny j k fk a b c p q m o sp B s t w hs ht wf hf hv
  · obtain ⟨x1, x2, y1, y2, ⟨j, rfl, ej⟩, ⟨k, rfl, ek⟩, rfl, hk⟩ := okBow_j hv
    let Q : BwS := ⟨fun i => (xs i).fx, fun i => (ys i).fx, nx, ny, j, k, a, b, c, p, q, m, o⟩
    have hfy : ∀ (w : World) (B : Nat) (t : Value), (slT (fun i => (ys i).fx) ny).RdN w B t → fits .f32 ((ys k).fx) := fun w B t h => (slT_rds h).fits ek
    refine ⟨cdBow (stepB Q sp).x (stepB Q sp).y (stepB Q sp).nx (stepB Q sp).ny ((stepB Q sp).j : Nat) ((stepB Q sp).k : Nat) 1 (stepB Q sp).a (stepB Q sp).b (stepB Q sp).c (stepB Q sp).p (stepB Q sp).q (stepB Q sp).m (stepB Q sp).l, (ys k).fx, 0, cdBow_sh _ _ _ _ _ _ _ _ _ _ _ _ _ _, by rw [cdBow_sz]; exact (by show nx + ny ≤ 1048576; omega), fun w B u hu => ?_, fun w B u hu => ?_⟩
    · obtain ⟨s, t, rfl, hs, ht, wf, hf⟩ := bow_open hu hx hy
      exact s_StepBow_yes sp hsp Q B s t w hs ht ⟨x1, x2, y1, y2, ej, ek, hk, hf.1, hf.2.1, hf.2.2.1, hf.2.2.2.1, hf.2.2.2.2.1, hf.2.2.2.2.2.1, hf.2.2.2.2.2.2⟩ hv (hfy w B t ht)
    · obtain ⟨s, t, rfl, hs, ht, wf, hf⟩ := bow_open hu hx hy
      exact i_StepBow_yes sp hsp Q B s t w hs ht ⟨x1, x2, y1, y2, ej, ek, hk, hf.1, hf.2.1, hf.2.2.1, hf.2.2.2.1, hf.2.2.2.2.1, hf.2.2.2.2.2.1, hf.2.2.2.2.2.2⟩ hv (hfy w B t ht)
set_option maxRecDepth 100000 in
set_option maxHeartbeats 4000000 in
theorem i_SticksAt_no (x y : Nat → Nat) (nx ny : Nat) (j k : Int) (fk : Int) (a b c p q : Nat) (m o : Nat) (sp : Nat) (B : Nat) (s t : Value) (w : World) (hs : (slT x nx).RdN w B s) (ht : (slT y ny).RdN w B t) (wf : (Lit.int .i64 j).wf = true ∧ (Lit.int .i64 k).wf = true) (hf : (fits .f32 a ∧ fits .f32 b ∧ fits .f32 c ∧ fits .f32 p ∧ fits .f32 q ∧ fits .f32 m ∧ fits .f32 o)) (hv : okBow x y nx ny j k fk a b c p q m o = false) :
    Calls Try.prog 40 #[.agg #[s, .int .i64 j, t, .int .i64 k, .int .i64 fk, .float .f32 a, .float .f32 b, .float .f32 c, .float .f32 p, .float .f32 q, .float .f32 m, .float .f32 o], .float .f32 sp] w (Out_bi false 1 w) := by
  have HV := hid (fun (w' : World) (hl : le w w') => hv ▸ i_ValidBow x y nx ny j k fk a b c p q m o B s t w' (hs.le hl) (ht.le hl) wf hf)
  clear hs ht wf hf hv
  have F := (Frg.nil w).box 31 #[s, .int .i64 j, t, .int .i64 k, .int .i64 fk, .float .f32 a, .float .f32 b, .float .f32 c, .float .f32 p, .float .f32 q, .float .f32 m, .float .f32 o]
  go_enter Try.func40, Try.ntmps40
  go_wp2_with (first | ((with_reducible refine at_loadU rfl rfl ?_); (with_reducible refine wpList_loadG F rfl rfl rfl (by first | exact m0 | exact m1 | exact m2 | exact m3 | exact m4 | exact m5 | exact m6 | exact m7 | exact m8 | exact m9 | exact m10 | exact m11) Try.underlying31 rfl uinfoBowI rfl ?_)) | (go_at_call 77; ((with_reducible refine (HV.out _ F.below).mono ?_); rintro e w1 ⟨rfl, hl⟩; replace F := F.le hl; clear hl)))
  go_ret2
  exact ⟨rfl, F.below⟩
set_option maxRecDepth 100000 in
set_option maxHeartbeats 4000000 in
theorem i_SticksAt_yes (sp : Nat) (hsp : fits .f32 sp) (q : BwS) (B : Nat) (s t : Value) (w : World) (hs : (slT q.x q.nx).RdN w B s) (ht : (slT q.y q.ny).RdN w B t) (ok : q.Ok) (hv : (okBow q.x q.y q.nx q.ny (q.j : Nat) (q.k : Nat) 1 q.a q.b q.c q.p q.q q.m q.l) = true) :
    Calls Try.prog 40 #[.agg #[s, .int .i64 (q.j : Nat), t, .int .i64 (q.k : Nat), .int .i64 1, .float .f32 q.a, .float .f32 q.b, .float .f32 q.c, .float .f32 q.p, .float .f32 q.q, .float .f32 q.m, .float .f32 q.l], .float .f32 sp] w (Out_bi (FloatKind.f32.format.order (friV q.m (dB q sp)) 1065353216 == some .eq) 0 w) := by
  have HV := hid (fun (w' : World) (hl : le w w') => hv ▸ i_ValidBow q.x q.y q.nx q.ny (q.j : Nat) (q.k : Nat) 1 q.a q.b q.c q.p q.q q.m q.l B s t w' (hs.le hl) (ht.le hl) ⟨wf_nat (Nat.le_trans (Nat.le_of_lt ok.j1) ok.nx2), wf_nat (Nat.le_trans (Nat.le_of_lt ok.k1) ok.ny2)⟩ ⟨ok.fa, ok.fb, ok.fc, ok.fp, ok.fq, ok.fm, ok.fl⟩)
  have HN := hid (fun (w' : World) (hl : le w w') => i_newDrawn q.x q.y q.nx q.ny (q.j : Nat) (q.k : Nat) 1 q.a q.b q.c q.p q.q q.m q.l B s t w' ((slT_rds hs).le hl) ((slT_rds ht).le hl) ⟨ok.nx1, ok.nx2⟩ ⟨ok.ny1, ok.ny2⟩ ⟨by decide, by decide⟩)
  have OK := hid ok
  clear hs ht hv ok
  have F := (Frg.nil w).box 31 #[s, .int .i64 (q.j : Nat), t, .int .i64 (q.k : Nat), .int .i64 1, .float .f32 q.a, .float .f32 q.b, .float .f32 q.c, .float .f32 q.p, .float .f32 q.q, .float .f32 q.m, .float .f32 q.l]
  go_enter Try.func40, Try.ntmps40
  go_wp2_with (first | ((with_reducible refine at_loadU rfl rfl ?_); (with_reducible refine wpList_loadG F rfl rfl rfl (by first | exact m0 | exact m1 | exact m2 | exact m3 | exact m4 | exact m5 | exact m6 | exact m7 | exact m8 | exact m9 | exact m10 | exact m11) Try.underlying31 rfl uinfoBowI rfl ?_)) | (go_at_call 77; ((with_reducible refine (HV.out _ F.below).mono ?_); rintro e w1 ⟨rfl, hl⟩; replace F := F.le hl; clear hl)) | (go_at_call 78; ((with_reducible refine (HN.out _ F.below).mono ?_); rintro e w2 ⟨g, r, s1, t1, b0, d0, rfl, hRG, hRR, hO1, hO2, hne, l1, l2, l3, l4, l5, l6, hl2⟩; have RG := hid hRG; have RR := hid hRR; have O1 := hid hO1; have O2 := hid hO2; have L2 := hid hl2; clear hRG hRR hO1 hO2 hl2)) | (go_at_call 90; ((with_reducible refine (i_meet q sp q.p q.q s1 t1 b0 (b0 + 1) d0 (d0 + 1) g r _ RG.out RR.out O1.out O2.out OK.out (by omega) (by omega) (by omega)).mono ?_); rintro e w3 ⟨u, v, d, rfl, hu, hv, hd, fu, fv, fd, hRR3, hC3⟩; have HD := hid hd; replace F := F.le (Below.trans L2.out (hC3.below (B := w1.heap.size) (fun k e => by have e' : k = r := e; omega) L2.out.size)); clear hu hv hd hRR3 hC3)) | ((with_reducible refine at_load rfl ?_); first | (with_reducible refine wpList_load1 F rfl rfl rfl (by first | exact m0 | exact m1 | exact m2 | exact m3 | exact m4 | exact m5 | exact m6 | exact m7 | exact m8 | exact m9 | exact m10 | exact m11) (f := 10) (v := .float .f32 q.m) rfl ukindFloat32 ?_)) | (go_at_call 91; ((with_reducible refine (i_FrictionAt q.m d _).mono ?_); rintro e w4 ⟨fr, rfl, hf, hl4⟩; replace F := F.le hl4; have HF := hid hf; clear hf hl4)))
  go_ret2
  have ho : FloatKind.f32.format.order fr 1065353216 = FloatKind.f32.format.order (friV q.m (dB q sp)) 1065353216 := order_congr (HF.out.trans ((friV_congr (HD.out.trans (can_dB q sp).symm)).trans (can_friV _ _).symm)) rfl
  exact ⟨ret_bi (congrArg (fun z => z == some Ordering.eq) ho), F.below⟩
set_option maxRecDepth 100000 in
set_option maxHeartbeats 4000000 in
theorem s_SticksAt_no (x y : Nat → Nat) (nx ny : Nat) (j k : Int) (fk : Int) (a b c p q : Nat) (m o : Nat) (sp : Nat) (B : Nat) (s t : Value) (w : World) (hs : (slT x nx).RdN w B s) (ht : (slT y ny).RdN w B t) (wf : (Lit.int .i64 j).wf = true ∧ (Lit.int .i64 k).wf = true) (hf : (fits .f32 a ∧ fits .f32 b ∧ fits .f32 c ∧ fits .f32 p ∧ fits .f32 q ∧ fits .f32 m ∧ fits .f32 o)) (hv : okBow x y nx ny j k fk a b c p q m o = false) :
    Calls Try.prog 39 #[.agg #[s, .int .i64 j, t, .int .i64 k, .int .i64 fk, .float .f32 a, .float .f32 b, .float .f32 c, .float .f32 p, .float .f32 q, .float .f32 m, .float .f32 o], .float .f32 sp] w (Out_bi false 1 w) := by
  have HV := hid (fun (g9 : Nat) (w' : World) (hl : le w w') (R : Row w' g9 31 #[s, .int .i64 j, t, .int .i64 k, .int .i64 fk, .float .f32 a, .float .f32 b, .float .f32 c, .float .f32 p, .float .f32 q, .float .f32 m, .float .f32 o]) => hv ▸ s_l05Bow x y nx ny j k fk a b c p q m o B s t w' g9 R (hs.le hl) (ht.le hl) wf hf)
  clear hs ht wf hf hv
  have F := (Frg.nil w).box 31 #[s, .int .i64 j, t, .int .i64 k, .int .i64 fk, .float .f32 a, .float .f32 b, .float .f32 c, .float .f32 p, .float .f32 q, .float .f32 m, .float .f32 o]
  go_enter Try.func39, Try.ntmps39
  go_wp2_with (first | ((with_reducible refine at_loadU rfl rfl ?_); (with_reducible refine wpList_loadG F rfl rfl rfl (by first | exact m0 | exact m1 | exact m2 | exact m3 | exact m4 | exact m5 | exact m6 | exact m7 | exact m8 | exact m9 | exact m10 | exact m11) Try.underlying31 rfl uinfoBowI rfl ?_)) | (go_at_call 72; ((with_reducible refine (HV.out _ _ F.below (F.row m0)).mono ?_); rintro e w1 ⟨rfl, hl⟩; replace F := F.le hl; clear hl)))
  go_ret2
  exact ⟨rfl, F.below⟩
set_option maxRecDepth 100000 in
set_option maxHeartbeats 4000000 in
theorem s_SticksAt_yes (sp : Nat) (hsp : fits .f32 sp) (q : BwS) (B : Nat) (s t : Value) (w : World) (hs : (slT q.x q.nx).RdN w B s) (ht : (slT q.y q.ny).RdN w B t) (ok : q.Ok) (hv : (okBow q.x q.y q.nx q.ny (q.j : Nat) (q.k : Nat) 1 q.a q.b q.c q.p q.q q.m q.l) = true) :
    Calls Try.prog 39 #[.agg #[s, .int .i64 (q.j : Nat), t, .int .i64 (q.k : Nat), .int .i64 1, .float .f32 q.a, .float .f32 q.b, .float .f32 q.c, .float .f32 q.p, .float .f32 q.q, .float .f32 q.m, .float .f32 q.l], .float .f32 sp] w (Out_bi (FloatKind.f32.format.order (friV q.m (dB q sp)) 1065353216 == some .eq) 0 w) := by
  have HV := hid (fun (g9 : Nat) (w' : World) (hl : le w w') (R : Row w' g9 31 #[s, .int .i64 (q.j : Nat), t, .int .i64 (q.k : Nat), .int .i64 1, .float .f32 q.a, .float .f32 q.b, .float .f32 q.c, .float .f32 q.p, .float .f32 q.q, .float .f32 q.m, .float .f32 q.l]) => hv ▸ s_l05Bow q.x q.y q.nx q.ny (q.j : Nat) (q.k : Nat) 1 q.a q.b q.c q.p q.q q.m q.l B s t w' g9 R (hs.le hl) (ht.le hl) ⟨wf_nat (Nat.le_trans (Nat.le_of_lt ok.j1) ok.nx2), wf_nat (Nat.le_trans (Nat.le_of_lt ok.k1) ok.ny2)⟩ ⟨ok.fa, ok.fb, ok.fc, ok.fp, ok.fq, ok.fm, ok.fl⟩)
  have HC := hid (fun (g9 : Nat) (w' : World) (hl : le w w') (R : Row w' g9 31 #[s, .int .i64 (q.j : Nat), t, .int .i64 (q.k : Nat), .int .i64 1, .float .f32 q.a, .float .f32 q.b, .float .f32 q.c, .float .f32 q.p, .float .f32 q.q, .float .f32 q.m, .float .f32 q.l]) => s_l05CopyBow q.x q.y q.nx q.ny (q.j : Nat) (q.k : Nat) 1 q.a q.b q.c q.p q.q q.m q.l B s t w' g9 R ((slT_rds hs).le hl) ((slT_rds ht).le hl) ⟨ok.nx1, ok.nx2⟩ ⟨ok.ny1, ok.ny2⟩)
  have OK := hid ok
  clear hs ht hv ok
  have F := (Frg.nil w).box 31 #[s, .int .i64 (q.j : Nat), t, .int .i64 (q.k : Nat), .int .i64 1, .float .f32 q.a, .float .f32 q.b, .float .f32 q.c, .float .f32 q.p, .float .f32 q.q, .float .f32 q.m, .float .f32 q.l]
  go_enter Try.func39, Try.ntmps39
  go_wp2_with (first | (go_at_call 72; ((with_reducible refine (HV.out _ _ F.below (F.row m0)).mono ?_); rintro e w1 ⟨rfl, hl⟩; replace F := F.le hl; clear hl)) | (go_at_call 73; ((with_reducible refine (HC.out _ _ F.below (F.row m0)).mono ?_); rintro e w2 ⟨s1, t1, rfl, h2, hl⟩; have os := hid (two_one h2).1; have ot := hid (two_one h2).2; replace F := F.two hl h2; clear h2 hl)) | (refine wpList_storeG F rfl rfl rfl rfl rfl uinfoBowI rfl (by simp only [List.all_toArray', List.all_cons, List.all_nil, os.out, ot.out]; rfl) ?_; clear F; intro W3 F zW))
  obtain ⟨b0, d0, hO1, hO2, hne, z1, z2, z3, z4⟩ := (F.facts (twF w1.heap.size w2.heap.size q.x q.nx q.y q.ny s1 t1) m1).2.2
  have HM := hid (s_l05Draw q.x q.y q.nx q.ny q.j q.k q.a q.b q.c q.p q.q q.m q.l sp s1 t1 b0 (b0 + 1) d0 (d0 + 1) w2.heap.size _ (F.row m0) hO1 hO2 OK.out.j1 OK.out.k1 OK.out.nx2 OK.out.ny2 (by omega) OK.out.f OK.out.fp)
  clear hO1 hO2
  go_wp2_with (first | (go_at_call 88; ((with_reducible refine HM.out.mono ?_); rintro e w3 ⟨u, v, d, rfl, hu, hv, hd, fu, fv, fd, hR3, hC3⟩; have HD : Hid (can .f32 d = dB q sp) := hd; replace F := F.cut2 hC3 (fun i e => by have e' : i = w2.heap.size := e; simp only [twF]; omega); clear hu hv hd hR3 hC3)) | ((with_reducible refine at_load rfl ?_); first | (with_reducible refine wpList_load1 F rfl rfl rfl (by first | exact m0 | exact m1 | exact m2 | exact m3 | exact m4 | exact m5 | exact m6 | exact m7 | exact m8 | exact m9 | exact m10 | exact m11) (f := 10) (v := .float .f32 q.m) rfl ukindFloat32 ?_)) | (go_at_call 89; ((with_reducible refine (s_l05Friction q.m d _).mono ?_); rintro e w4 ⟨fr, rfl, hf, hl4⟩; replace F := F.le hl4; have HF := hid hf; clear hf hl4)))
  go_ret2
  have ho : FloatKind.f32.format.order fr 1065353216 = FloatKind.f32.format.order (friV q.m (dB q sp)) 1065353216 := order_congr (HF.out.trans ((friV_congr (HD.out.trans (can_dB q sp).symm)).trans (can_friV _ _).symm)) rfl
  exact ⟨ret_bi (congrArg (fun z => z == some Ordering.eq) ho), F.below⟩
theorem both_SticksAt (cs : List CD) (sp : Nat) (h : HasShL shBow cs) (hsp : fits .f32 sp) : ∃ (ar0 : Bool) (ar1 : Int), (∀ (w : World) (B : Nat) (u : List Value), RdLN w B (cs.map CD.cp) u → Calls Try.prog 39 #[.agg u.toArray, .float .f32 sp] w (Out_bi ar0 ar1 w)) ∧ (∀ (w : World) (B : Nat) (u : List Value), RdLN w B (cs.map CD.cp) u → Calls Try.prog 40 #[.agg u.toArray, .float .f32 sp] w (Out_bi ar0 ar1 w)) := by
  obtain ⟨xs, ys, nx, ny, j, k, fk, a, b, c, p, q, m, o, rfl, hx, hy⟩ := bow_data h
  cases hv : okBow (fun i => (xs i).fx) (fun i => (ys i).fx) nx ny j k fk a b c p q m o
  · refine ⟨false, 1, fun w B u hu => ?_, fun w B u hu => ?_⟩
    · obtain ⟨s, t, rfl, hs, ht, wf, hf⟩ := bow_open hu hx hy
      exact s_SticksAt_no (fun i => (xs i).fx) (fun i => (ys i).fx) nx ny j k fk a b c p q m o sp B s t w hs ht wf hf hv
    · obtain ⟨s, t, rfl, hs, ht, wf, hf⟩ := bow_open hu hx hy
      exact i_SticksAt_no (fun i => (xs i).fx) (fun i => (ys i).fx) nx ny j k fk a b c p q m o sp B s t w hs ht wf hf hv
  · obtain ⟨x1, x2, y1, y2, ⟨j, rfl, ej⟩, ⟨k, rfl, ek⟩, rfl, hk⟩ := okBow_j hv
    let Q : BwS := ⟨fun i => (xs i).fx, fun i => (ys i).fx, nx, ny, j, k, a, b, c, p, q, m, o⟩
    refine ⟨(FloatKind.f32.format.order (friV Q.m (dB Q sp)) 1065353216 == some .eq), 0, fun w B u hu => ?_, fun w B u hu => ?_⟩
    · obtain ⟨s, t, rfl, hs, ht, wf, hf⟩ := bow_open hu hx hy
      exact s_SticksAt_yes sp hsp Q B s t w hs ht ⟨x1, x2, y1, y2, ej, ek, hk, hf.1, hf.2.1, hf.2.2.1, hf.2.2.2.1, hf.2.2.2.2.1, hf.2.2.2.2.2.1, hf.2.2.2.2.2.2⟩ hv
    · obtain ⟨s, t, rfl, hs, ht, wf, hf⟩ := bow_open hu hx hy
      exact i_SticksAt_yes sp hsp Q B s t w hs ht ⟨x1, x2, y1, y2, ej, ek, hk, hf.1, hf.2.1, hf.2.2.1, hf.2.2.2.1, hf.2.2.2.2.1, hf.2.2.2.2.2.1, hf.2.2.2.2.2.2⟩ hv
end Go.Proofs.Ytgjdmoenobacgaa

/- Cells of slices that one may write. Nothing here names a program. -/
namespace Go.Fk
open Go Go.RowKit
theorem OwnS.form {w : World} {lo hi n : Nat} {s : Value} {x : Nat → Nat} (h : OwnS w lo hi s x n) (hn : 1 ≤ n) : ∃ b o cap, s = .slice (some ⟨b, o, none⟩) n cap ∧ n ≤ cap ∧ cap ≤ maxLen ∧ lo ≤ b ∧ b < hi := by
  rcases h with ⟨_, rfl⟩ | ⟨b, o, cap, cs, h1, h2, h3, h4, h5, _⟩
  · omega
  · exact ⟨b, o, cap, h1, h2, h3, h4, h5⟩
theorem OwnS.at {w : World} {lo hi b o n cap : Nat} {x : Nat → Nat} (h : OwnS w lo hi (.slice (some ⟨b, o, none⟩) n cap) x n) {i : Nat} (hi' : i < n) : ∃ y, w.cell? ⟨b, o + i, none⟩ = some (.float .f32 y) ∧ w.frozen? ⟨b, o + i, none⟩ = false ∧ fits .f32 y ∧ can .f32 y = x i := by
  rcases h with ⟨h0, _⟩ | ⟨b', o', cap', cs, h1, h2, h3, h4, h5, h6, h7⟩
  · cases h0
  · simp only [Value.slice.injEq, Option.some.injEq, Addr.mk.injEq, and_true, true_and] at h1
    obtain ⟨⟨rfl, rfl⟩, rfl⟩ := h1
    obtain ⟨y, e1, e2, e3⟩ := h7 i hi'
    exact ⟨y, (h6.cell? (o + i)).trans e1, h6.frozen (o + i), e2, e3⟩
theorem OwnS.set {w : World} {lo hi b o n cap : Nat} {x : Nat → Nat} (h : OwnS w lo hi (.slice (some ⟨b, o, none⟩) n cap) x n) {i a : Nat} (hi' : i < n) (ha : fits .f32 a) :
    OwnS (w.setCell ⟨b, o + i, none⟩ (.float .f32 a)) lo hi (.slice (some ⟨b, o, none⟩) n cap) (pushX x i a) n ∧ Chg (rng lo hi) w (w.setCell ⟨b, o + i, none⟩ (.float .f32 a)) := by
  rcases h with ⟨h0, _⟩ | ⟨b', o', cap', cs, h1, h2, h3, h4, h5, h6, h7⟩
  · cases h0
  · simp only [Value.slice.injEq, Option.some.injEq, Addr.mk.injEq, and_true, true_and] at h1
    obtain ⟨⟨rfl, rfl⟩, rfl⟩ := h1
    refine ⟨.inr ⟨b, o, cap, cs.setIfInBounds (o + i) (.float .f32 a), rfl, h2, h3, h4, h5, h6.set _ _, fun j hj => ?_⟩, (Chg.refl _ _).setCell (a := ⟨b, o + i, none⟩) ⟨h4, h5⟩ _⟩
    obtain ⟨y0, e0, _⟩ := h7 i hi'
    have hlt : o + i < cs.size := (Array.getElem?_eq_some_iff.1 e0).1
    by_cases e : j = i
    · subst e
      exact ⟨a, by simp [hlt], ha, by simp [pushX]⟩
    · obtain ⟨y, e1, e2, e3⟩ := h7 j hj
      exact ⟨y, by rw [Array.getElem?_setIfInBounds_ne (by omega)]; exact e1, e2, by simp [pushX, e, e3]⟩
namespace Frg
variable {w0 w w' : World}
theorem chg0 {e e' : Fact} {post : List Fact} (h : Frg w0 w (e :: post)) (k : Chg (rng e.lo e.hi) w w') (hp : e'.p w') (h1 : e'.lo = e.lo) (h2 : e'.hi = e.hi) : Frg w0 w' (e' :: post) := chg [] h k hp h1 h2
theorem chg1 {b0 e e' : Fact} {post : List Fact} (h : Frg w0 w (b0 :: e :: post)) (k : Chg (rng e.lo e.hi) w w') (hp : e'.p w') (h1 : e'.lo = e.lo) (h2 : e'.hi = e.hi) : Frg w0 w' (b0 :: e' :: post) := chg [b0] h k hp h1 h2
end Frg
/-- The first k samples are 0. -/
def zeroTo (k : Nat) (x : Nat → Nat) : Nat → Nat := fun i => if i < k then 0 else x i
theorem zeroTo_0 (x : Nat → Nat) : zeroTo 0 x = x := by funext i; simp [zeroTo]
theorem zeroTo_s (k : Nat) (x : Nat → Nat) : pushX (zeroTo k x) k 0 = zeroTo (k + 1) x := by
  funext i
  unfold pushX zeroTo
  by_cases e : i = k
  · subst e; simp; decide
  · by_cases l : i < k
    · simp [e, l, show i < k + 1 by omega]
    · simp [e, l, show ¬ i < k + 1 by omega]
end Go.Fk

/- Regions that draw: a new row, the length of a slice. Nothing here names a program. -/
namespace Go.Fk
open Go Go.RowKit
section
variable {P : Program} {ops : Array Oper} {W : World} {K : FuncId → Array Value → World → Value → Prop} {Q : Act → World → Prop} {F : World → Prop} {o : Oper} {rest : List Oper} {a : Act}
/-- A new row is made. -/
theorem wpFree_made (hg : o.guard = none) (f : Nat → Value) (t : TypeId) (cs : Array Value)
    (hr : ∀ w, (execOp a.eval o).run P w = .ok (.value (f w.heap.size)) (w.alloc (.cells cs t)))
    (h : ∀ b, W.heap.size ≤ b → wpFree P ops W K Q rest (a.put o.dst (f b)) (fun w => F w ∧ ∃ b', f b = f b' ∧ W.heap.size ≤ b' ∧ Row w b' t cs)) : wpFree P ops W K Q (o :: rest) a F := by
  refine ⟨fun w v => ∃ b, v = f b ∧ W.heap.size ≤ b ∧ Row w b t cs, ⟨fun v w w' hl h => ?_, .inl ⟨by simp [Region.wanted, hg], fun w hw => ?_⟩⟩, fun v hv => ?_⟩
  · obtain ⟨b, e, h1, h2⟩ := h; exact ⟨b, e, h1, h2.le hl⟩
  · rw [hr]
    exact ⟨le_alloc w _, w.heap.size, rfl, Below.size hw, Row.new w t cs⟩
  · obtain ⟨w, _, b, rfl, hb, _⟩ := hv
    exact h b hb
theorem wpFree_len (hg : o.guard = none) {x : Operand} {t : TypeId} (hop : o.op = Op.call { callee := Callee.builtin Builtin.len, args := #[x], argTypes := #[t] }) {e : TypeId} (hu : P.underlying t = some (.slice e)) {ao : Option Addr} {n c : Nat} (hx : a.eval x = .slice ao n c)
    (h : wpFree P ops W K Q rest (a.put o.dst (.int .i64 n)) F) : wpFree P ops W K Q (o :: rest) a F := by
  refine wpFree_one hg (.int .i64 n) (fun w _ => ?_) h
  simp [execOp, hop, hx, Result.andThen, resolve, invoke, builtin, Builtin.len_, run_underlying hu]
  rfl
end
end Go.Fk

/- Muted rings: '(Ring).muted' of the program, 'l05Muted' of the model. -/
namespace Go.Proofs.Ytgjdmoenobacgaa
open Go.RowKit Go.Fk
theorem own_zero {w : World} {b n lo hi : Nat} (h : Row w b 22 (ftab .f32 (fun _ => 0) n)) (hn : n ≤ 1024) (hlo : lo ≤ b) (hhi : b < hi) : OwnS w lo hi (.slice (some ⟨b, 0, none⟩) n n) (fun _ => 0) n :=
  .inr ⟨b, 0, n, _, rfl, Nat.le_refl _, by unfold maxLen; omega, hlo, hhi, h, fun i hi => ⟨0, by rw [Nat.zero_add]; exact get_ftab .f32 (fun _ => 0) n i hi, by simp [fits, Lit.wf], show can .f32 0 = 0 by decide⟩⟩
set_option maxRecDepth 100000 in
set_option maxHeartbeats 4000000 in
theorem i_muted (B : Nat) (s : Value) (x : Nat → Nat) (n : Nat) (k : Int) (w : World) (hs : RdS w B s x n) (h1 : 1 ≤ n) (h2 : n ≤ 1024) :
    Calls Try.prog 87 #[.agg #[s, .int .i64 k]] w fun e w' => ∃ s', e = .returned (.agg #[s', .int .i64 k]) ∧ OwnS w' w.heap.size w'.heap.size s' (fun _ => 0) n ∧ le w w' := by
  obtain ⟨a0, cap, y0, rfl, hc, hm, _⟩ := hs.raw h1
  have HM := hid (fun w => makeF n (by omega) w)
  clear hs
  have F := ((Frg.nil w).box 25 #[.slice (some a0) n cap, .int .i64 k]).box 25 #[.slice none 0 0, .int .i64 0]
  simp only [World.size_alloc] at F
  go_enter Try.func87, Try.ntmps87
  go_wp2_with fail
  have FM := (Frm.one (F.row m1)).drewN 1
  refine region_tail (fun _ _ _ _ => True) 7 (by kernel_rfl) (by kernel_rfl) ?_
  simp only [List.take_succ_cons, List.take_zero, List.drop_succ_cons, List.drop_zero]
  refine wpFree_one rfl (.pointer (some ⟨w.heap.size, 0, none⟩)) (fun w1 _ => by kernel_rfl) ?_
  simp only [Act.put, List.setIfInBounds_toArray, List.set_cons_succ, List.set_cons_zero]
  refine wpFree_loadV FM (n := 0) rfl rfl rfl rfl List.mem_cons_self rfl kindF ?_
  simp only [Act.put, List.setIfInBounds_toArray, List.set_cons_succ, List.set_cons_zero]
  refine wpFree_len rfl rfl Try.underlying23 rfl ?_
  simp only [Act.put, List.setIfInBounds_toArray, List.set_cons_succ, List.set_cons_zero]
  refine wpFree_made rfl (fun b => .slice (some ⟨b, 0, none⟩) n n) 22 (ftab .f32 (fun _ => 0) n) (fun w1 => by simp [execOp, Act.eval, HM.out, Result.andThen]) (fun b0 hb0 => ?_)
  simp only [Act.put, List.setIfInBounds_toArray, List.set_cons_succ, List.set_cons_zero]
  refine wpFree_one rfl (.pointer (some ⟨w.heap.size, 1, none⟩)) (fun w1 _ => by kernel_rfl) ?_
  simp only [Act.put, List.setIfInBounds_toArray, List.set_cons_succ, List.set_cons_zero]
  refine wpFree_loadV FM (n := 0) rfl rfl rfl rfl List.mem_cons_self rfl kindI ?_
  simp only [Act.put, List.setIfInBounds_toArray, List.set_cons_succ, List.set_cons_zero]
  refine wpFree_one rfl (.agg #[(.slice (some ⟨b0, 0, none⟩) n n), .int .i64 k]) (fun w1 _ => by kernel_rfl) ?_
  simp only [Act.put, List.setIfInBounds_toArray, List.set_cons_succ, List.set_cons_zero]
  refine wpFree_nil (fun w3 hw3 hF => ?_)
  obtain ⟨_, b', hbb, hb', hrow⟩ := hF
  obtain rfl : b0 = b' := by simpa using hbb
  have RN := hid hrow
  have hbz := hid (Nat.le_trans (F.drewN 1).size hb0)
  have RW1 := F.facts (rowF (w.heap.size + 1) 25 #[.slice none 0 0, .int .i64 0]) m0
  have hbr : w.heap.size + 1 < b0 := Nat.lt_of_lt_of_le RW1.2.1 hb0
  replace F := (F.drewN 1).le hw3
  clear hw3 hbb hrow hb0 FM RW1
  refine wpList_storeD rfl rfl rfl (cells := #[(.slice (some ⟨b0, 0, none⟩) n n), .int .i64 k]) rfl (F.row m0) infoRing rfl (by simp [Value.oneCell']) (fun w7 K => ?_)
  replace RN := hid (K.other _ _ _ (by omega) RN.out)
  have RW := hid K.row
  have L := hid (F.wr0 K).below
  clear K F
  have hl7 := RN.out.lt
  go_wp2
  exact bodyPost_ret (results_row1 rfl _ _ _ _ _ rfl RW.out Try.underlying25 rfl infoRing) rfl ⟨_, rfl, own_zero RN.out h2 hbz.out hl7, L.out⟩
set_option maxRecDepth 100000 in
set_option maxHeartbeats 4000000 in
theorem s_l05Muted (B : Nat) (s : Value) (x : Nat → Nat) (n : Nat) (k : Int) (g f : Nat) (t : TypeId) (cs : Array Value) (w : World) (hs : RdS w B s x n) (R : Row w g t cs) (e0 : cs[f]? = some s) (e1 : cs[f + 1]? = some (.int .i64 k)) (h1 : 1 ≤ n) (h2 : n ≤ 1024) :
    Calls Try.prog 86 #[.pointer (some ⟨g, f, none⟩)] w fun e w' => ∃ s', e = .returned (.agg #[s', .int .i64 k]) ∧ OwnS w' w.heap.size w'.heap.size s' (fun _ => 0) n ∧ le w w' := by
  obtain ⟨a0, cap, y0, rfl, hc, hm, _⟩ := hs.raw h1
  have HM := hid (fun w => makeF n (by omega) w)
  have E0 := hid e0; have E1 := hid e1; have HR := hid R
  clear hs e0 e1 R
  have F := (Frg.nil w).box 25 #[.slice none 0 0, .int .i64 0]
  go_enter Try.func86, Try.ntmps86
  go_wp2_with fail
  have FM := (Frm.one (HR.out.le F.below)).drewN 1
  refine region_tail (fun _ _ _ _ => True) 11 (by kernel_rfl) (by kernel_rfl) ?_
  simp only [List.take_succ_cons, List.take_zero, List.drop_succ_cons, List.drop_zero]
  refine wpFree_one rfl (.pointer (some ⟨g, f, none⟩)) (fun w1 _ => by kernel_rfl) ?_
  simp only [Act.put, List.setIfInBounds_toArray, List.set_cons_succ, List.set_cons_zero]
  refine wpFree_one rfl (.pointer (some ⟨g, f, none⟩)) (fun w1 _ => by kernel_rfl) ?_
  simp only [Act.put, List.setIfInBounds_toArray, List.set_cons_succ, List.set_cons_zero]
  refine wpFree_one rfl (.pointer (some ⟨g, f, none⟩)) (fun w1 _ => by kernel_rfl) ?_
  simp only [Act.put, List.setIfInBounds_toArray, List.set_cons_succ, List.set_cons_zero]
  refine wpFree_loadV FM (n := 0) rfl rfl rfl rfl List.mem_cons_self E0.out kindF ?_
  simp only [Act.put, List.setIfInBounds_toArray, List.set_cons_succ, List.set_cons_zero]
  refine wpFree_len rfl rfl Try.underlying23 rfl ?_
  simp only [Act.put, List.setIfInBounds_toArray, List.set_cons_succ, List.set_cons_zero]
  refine wpFree_made rfl (fun b => .slice (some ⟨b, 0, none⟩) n n) 22 (ftab .f32 (fun _ => 0) n) (fun w1 => by simp [execOp, Act.eval, HM.out, Result.andThen]) (fun b0 hb0 => ?_)
  simp only [Act.put, List.setIfInBounds_toArray, List.set_cons_succ, List.set_cons_zero]
  refine wpFree_one rfl (.pointer (some ⟨g, f, none⟩)) (fun w1 _ => by kernel_rfl) ?_
  simp only [Act.put, List.setIfInBounds_toArray, List.set_cons_succ, List.set_cons_zero]
  refine wpFree_one rfl (.pointer (some ⟨g, f, none⟩)) (fun w1 _ => by kernel_rfl) ?_
  simp only [Act.put, List.setIfInBounds_toArray, List.set_cons_succ, List.set_cons_zero]
  refine wpFree_one rfl (.pointer (some ⟨g, f + 1, none⟩)) (fun w1 _ => by kernel_rfl) ?_
  simp only [Act.put, List.setIfInBounds_toArray, List.set_cons_succ, List.set_cons_zero]
  refine wpFree_loadV FM (n := 0) rfl rfl rfl rfl List.mem_cons_self E1.out kindI ?_
  simp only [Act.put, List.setIfInBounds_toArray, List.set_cons_succ, List.set_cons_zero]
  refine wpFree_one rfl (.agg #[(.slice (some ⟨b0, 0, none⟩) n n), .int .i64 k]) (fun w1 _ => by kernel_rfl) ?_
  simp only [Act.put, List.setIfInBounds_toArray, List.set_cons_succ, List.set_cons_zero]
  refine wpFree_nil (fun w3 hw3 hF => ?_)
  obtain ⟨_, b', hbb, hb', hrow⟩ := hF
  obtain rfl : b0 = b' := by simpa using hbb
  have RN := hid hrow
  have hbz := hid (Nat.le_trans (F.drewN 1).size hb0)
  have RW1 := F.facts (rowF w.heap.size 25 #[.slice none 0 0, .int .i64 0]) m0
  have hbr : w.heap.size < b0 := Nat.lt_of_lt_of_le RW1.2.1 hb0
  replace F := (F.drewN 1).le hw3
  clear hw3 hbb hrow hb0 FM RW1
  refine wpList_storeD rfl rfl rfl (cells := #[(.slice (some ⟨b0, 0, none⟩) n n), .int .i64 k]) rfl (F.row m0) infoRing rfl (by simp [Value.oneCell']) (fun w7 K => ?_)
  replace RN := hid (K.other _ _ _ (by omega) RN.out)
  have RW := hid K.row
  have L := hid (F.wr0 K).below
  clear K F
  have hl7 := RN.out.lt
  go_wp2
  exact bodyPost_ret (results_row1 rfl _ _ _ _ _ rfl RW.out Try.underlying25 rfl infoRing) rfl ⟨_, rfl, own_zero RN.out h2 hbz.out hl7, L.out⟩
end Go.Proofs.Ytgjdmoenobacgaa

/- 'MuteBow' of both. -/
namespace Go.Proofs.Ytgjdmoenobacgaa
open Go.RowKit Go.Fk
set_option maxRecDepth 100000 in
set_option maxHeartbeats 4000000 in
theorem i_MuteBow_no (x y : Nat → Nat) (nx ny : Nat) (j k : Int) (fk : Int) (a b c p q : Nat) (m o : Nat) (B : Nat) (s t : Value) (w : World) (hs : (slT x nx).RdN w B s) (ht : (slT y ny).RdN w B t) (wf : (Lit.int .i64 j).wf = true ∧ (Lit.int .i64 k).wf = true) (hf : (fits .f32 a ∧ fits .f32 b ∧ fits .f32 c ∧ fits .f32 p ∧ fits .f32 q ∧ fits .f32 m ∧ fits .f32 o)) (hv : okBow x y nx ny j k fk a b c p q m o = false) :
    Calls Try.prog 38 #[.agg #[s, .int .i64 j, t, .int .i64 k, .int .i64 fk, .float .f32 a, .float .f32 b, .float .f32 c, .float .f32 p, .float .f32 q, .float .f32 m, .float .f32 o]] w (OutV_Ti (cdBow (fun _ => 0) (fun _ => 0) 0 0 0 0 0 0 0 0 0 0 0 0) 1 w) := by
  have HV := hid (fun (w' : World) (hl : le w w') => hv ▸ i_ValidBow x y nx ny j k fk a b c p q m o B s t w' (hs.le hl) (ht.le hl) wf hf)
  clear hs ht wf hf hv
  have F := ((Frg.nil w).box 31 #[s, .int .i64 j, t, .int .i64 k, .int .i64 fk, .float .f32 a, .float .f32 b, .float .f32 c, .float .f32 p, .float .f32 q, .float .f32 m, .float .f32 o]).box 31 #[.slice none 0 0, .int .i64 0, .slice none 0 0, .int .i64 0, .int .i64 0, .float .f32 0, .float .f32 0, .float .f32 0, .float .f32 0, .float .f32 0, .float .f32 0, .float .f32 0]
  simp only [World.size_alloc] at F
  go_enter Try.func38, Try.ntmps38
  go_wp2_with (first | ((with_reducible refine at_loadU rfl rfl ?_); (with_reducible refine wpList_loadG F rfl rfl rfl (by first | exact m0 | exact m1 | exact m2 | exact m3 | exact m4 | exact m5 | exact m6 | exact m7 | exact m8 | exact m9 | exact m10 | exact m11) Try.underlying31 rfl uinfoBowI rfl ?_)) | (go_at_call 77; ((with_reducible refine (HV.out _ F.below).mono ?_); rintro e w1 ⟨rfl, hl⟩; replace F := F.le hl; clear hl)) | ((with_reducible refine stop_store rfl ?_)))
  show wpList _ _ _ _ _ _
  refine wpList_storeD rfl rfl rfl (cells := #[.slice none 0 0, .int .i64 0, .slice none 0 0, .int .i64 0, .int .i64 0, .float .f32 0, .float .f32 0, .float .f32 0, .float .f32 0, .float .f32 0, .float .f32 0, .float .f32 0]) rfl (F.row m0) uinfoBowI rfl (by simp [Value.oneCell']) (fun w4 K => ?_)
  have R := hid K.row
  have L := hid (F.wr0 K).below
  clear K F
  go_wp2
  exact bodyPost_ret (results_row2 rfl _ _ _ _ _ rfl R.out Try.underlying31 rfl uinfoBowI) rfl ⟨[.slice none 0 0, .int .i64 0, .slice none 0 0, .int .i64 0, .int .i64 0, .float .f32 0, .float .f32 0, .float .f32 0, .float .f32 0, .float .f32 0, .float .f32 0, .float .f32 0], rfl, layBow0 _ _, L.out⟩
set_option maxRecDepth 100000 in
set_option maxHeartbeats 4000000 in
theorem i_MuteBow_yes (x y : Nat → Nat) (nx ny : Nat) (j k : Int) (fk : Int) (a b c p q : Nat) (m o : Nat) (B : Nat) (s t : Value) (w : World) (hs : (slT x nx).RdN w B s) (ht : (slT y ny).RdN w B t) (wf : (Lit.int .i64 j).wf = true ∧ (Lit.int .i64 k).wf = true) (hf : (fits .f32 a ∧ fits .f32 b ∧ fits .f32 c ∧ fits .f32 p ∧ fits .f32 q ∧ fits .f32 m ∧ fits .f32 o)) (hv : okBow x y nx ny j k fk a b c p q m o = true) :
    Calls Try.prog 38 #[.agg #[s, .int .i64 j, t, .int .i64 k, .int .i64 fk, .float .f32 a, .float .f32 b, .float .f32 c, .float .f32 p, .float .f32 q, .float .f32 m, .float .f32 o]] w (OutV_Ti (cdBow (fun _ => 0) (fun _ => 0) nx ny j k fk a b c 0 0 m o) 0 w) := by
  obtain ⟨x1, x2, y1, y2, _, _, hk0, _⟩ := okBow_j hv
  have wk0 : (Lit.int .i64 fk).wf = true := by rw [hk0]; decide
  clear hk0
  have HV := hid (fun (w' : World) (hl : le w w') => hv ▸ i_ValidBow x y nx ny j k fk a b c p q m o B s t w' (hs.le hl) (ht.le hl) wf hf)
  have HS := hid (slT_rds hs); have HT := hid (slT_rds ht)
  clear hs ht hv
  have F := ((Frg.nil w).box 31 #[s, .int .i64 j, t, .int .i64 k, .int .i64 fk, .float .f32 a, .float .f32 b, .float .f32 c, .float .f32 p, .float .f32 q, .float .f32 m, .float .f32 o]).box 31 #[.slice none 0 0, .int .i64 0, .slice none 0 0, .int .i64 0, .int .i64 0, .float .f32 0, .float .f32 0, .float .f32 0, .float .f32 0, .float .f32 0, .float .f32 0, .float .f32 0]
  simp only [World.size_alloc] at F
  go_enter Try.func38, Try.ntmps38
  go_wp2_with (first | ((with_reducible refine at_loadU rfl rfl ?_); (with_reducible refine wpList_loadG F rfl rfl rfl (by first | exact m0 | exact m1 | exact m2 | exact m3 | exact m4 | exact m5 | exact m6 | exact m7 | exact m8 | exact m9 | exact m10 | exact m11) Try.underlying31 rfl uinfoBowI rfl ?_)) | (go_at_call 77; ((with_reducible refine (HV.out _ F.below).mono ?_); rintro e w1 ⟨rfl, hl⟩; replace F := F.le hl; clear hl)))
  have G := F.drewN 1
  have hz := (F.row m0).lt
  refine region_tailZ (E := leX) (fun _ args z w1 v => (args = #[.agg #[s, .int .i64 j]] → Cp (w.heap.size + 1) (fun _ => 0) nx j z w1 v) ∧ (args = #[.agg #[t, .int .i64 k]] → Cp (w.heap.size + 1) (fun _ => 0) ny k z w1 v)) 7 (by kernel_rfl) (by kernel_rfl) ?_
  simp only [List.take_succ_cons, List.take_zero, List.drop_succ_cons, List.drop_zero]
  refine wpFreeZ_one rfl (.pointer (some ⟨w.heap.size, 0, none⟩)) (fun w1 _ => by kernel_rfl) ?_
  simp only [Act.put, List.setIfInBounds_toArray, List.set_cons_succ, List.set_cons_zero]
  refine wpFreeZ_loadW rfl rfl rfl [s, .int .i64 j] (fun w1 h1 => Row.at_part ((G.row m1).le h1) (partBow_Neck (s) (.int .i64 j) (t) (.int .i64 k) (.int .i64 fk) (.float .f32 a) (.float .f32 b) (.float .f32 c) (.float .f32 p) (.float .f32 q) (.float .f32 m) (.float .f32 o))) Try.underlying25 rfl uinfoRingI rfl ?_
  simp only [Act.put, List.setIfInBounds_toArray, List.set_cons_succ, List.set_cons_zero]
  refine wpFreeZ_callW (by kernel_rfl) rfl Try.func87 (by kernel_rfl) (by kernel_rfl) (args := #[.agg #[s, .int .i64 j]]) (by simp [Act.eval]) (fun z v w1 w2 hw hv => ⟨fun e => (hv.1 e).le hw, fun e => (hv.2 e).le hw⟩) (fun wc hw1 hbe => ?_) ?_
  · have hg : w.heap.size + 1 < wc.heap.size := by have h0 := hw1.size; have e0 : (w1.drewN 1).heap.size = w1.heap.size := rfl; omega
    refine (i_muted B s x nx _ wc ((HS.out.le G.below).le hw1) x1 x2).mono ?_
    rintro e w2 ⟨s1, rfl, ho, hl⟩
    refine ⟨_, rfl, hl, fun e => ?_, fun e => ?_⟩
    · exact Cp.mk ho x1 hg
    · simp only [Array.mk.injEq, List.cons.injEq, Value.agg.injEq, Value.int.injEq, and_true, true_and] at e
      obtain ⟨e1, e2⟩ := e
      rw [e2]; exact Cp.mk (own_sameN HS.out (e1 ▸ HT.out) ho) y1 hg
  rintro v0 ⟨z, wv, _, hv⟩
  obtain ⟨s1, _, rfl, ho, _⟩ := hv.1 rfl
  have os := hid (own_one ho)
  clear hv ho
  simp only [Act.put, List.setIfInBounds_toArray, List.set_cons_succ, List.set_cons_zero]
  refine wpFreeZ_one rfl (.pointer (some ⟨w.heap.size, 2, none⟩)) (fun w1 _ => by kernel_rfl) ?_
  simp only [Act.put, List.setIfInBounds_toArray, List.set_cons_succ, List.set_cons_zero]
  refine wpFreeZ_loadW rfl rfl rfl [t, .int .i64 k] (fun w1 h1 => Row.at_part ((G.row m1).le h1) (partBow_Bridge (s) (.int .i64 j) (t) (.int .i64 k) (.int .i64 fk) (.float .f32 a) (.float .f32 b) (.float .f32 c) (.float .f32 p) (.float .f32 q) (.float .f32 m) (.float .f32 o))) Try.underlying25 rfl uinfoRingI rfl ?_
  simp only [Act.put, List.setIfInBounds_toArray, List.set_cons_succ, List.set_cons_zero]
  refine wpFreeZ_callW (by kernel_rfl) rfl Try.func87 (by kernel_rfl) (by kernel_rfl) (args := #[.agg #[t, .int .i64 k]]) (by simp [Act.eval]) (fun z v w1 w2 hw hv => ⟨fun e => (hv.1 e).le hw, fun e => (hv.2 e).le hw⟩) (fun wc hw1 hbe => ?_) ?_
  · have hg : w.heap.size + 1 < wc.heap.size := by have h0 := hw1.size; have e0 : (w1.drewN 1).heap.size = w1.heap.size := rfl; omega
    refine (i_muted B t y ny _ wc ((HT.out.le G.below).le hw1) y1 y2).mono ?_
    rintro e w2 ⟨s1, rfl, ho, hl⟩
    refine ⟨_, rfl, hl, fun e => ?_, fun e => ?_⟩
    · simp only [Array.mk.injEq, List.cons.injEq, Value.agg.injEq, Value.int.injEq, and_true, true_and] at e
      obtain ⟨e1, e2⟩ := e
      rw [e2]; exact Cp.mk (own_sameN HT.out (e1 ▸ HS.out) ho) x1 hg
    · exact Cp.mk ho y1 hg
  rintro v1 ⟨z, wv, _, hv⟩
  obtain ⟨t1, _, rfl, ho, _⟩ := hv.2 rfl
  have ot := hid (own_one ho)
  clear hv ho
  simp only [Act.put, List.setIfInBounds_toArray, List.set_cons_succ, List.set_cons_zero]
  refine wpFreeZ_one rfl (.pointer (some ⟨w.heap.size, 0, none⟩)) (fun w1 _ => by kernel_rfl) ?_
  simp only [Act.put, List.setIfInBounds_toArray, List.set_cons_succ, List.set_cons_zero]
  refine wpFreeZ_nil (fun w3 zs hw3 hF hc => ?_)
  obtain ⟨b0, d0, O1, O2, hne, l1, l2, l3, l4⟩ := Cp.two x1 y1 (F := _) (((hF 2).1.1.1.1.2 rfl).1 trivial) (((hF 5).1.2 rfl).2 trivial) (hc 2 5 (by decide)) (fun w2 h => (h.1.1.1.1.2 rfl).1 trivial) (fun w2 h => (h.1.2 rfl).2 trivial)
  clear hF hc
  replace F := G.le hw3
  clear hw3 G
  refine wpList_storeP rfl rfl rfl (f := 0) (cells := [s1, .int .i64 j]) rfl (F.row m1) uinfoRingI (by simp) (one_head os.out rfl) (fun w4 K => ?_)
  have C := (Chg.refl (· = w.heap.size) w3).wrote K rfl
  have zc := C.size
  replace O1 := O1.chgS C (fun i h1 h2 e => by omega)
  replace O2 := O2.chgS C (fun i h1 h2 e => by omega)
  replace F := F.wr1 (cs' := #[s1, .int .i64 j, t, .int .i64 k, .int .i64 fk, .float .f32 a, .float .f32 b, .float .f32 c, .float .f32 p, .float .f32 q, .float .f32 m, .float .f32 o]) K
  clear K C
  simp only [Act.put, List.setIfInBounds_toArray, List.set_cons_succ, List.set_cons_zero]
  have O1h := hid O1; have O2h := hid O2; clear O1 O2
  go_wp2_with (with_reducible refine stop_store rfl ?_)
  show wpList _ _ _ _ _ _
  have O1 := O1h.out; have O2 := O2h.out
  refine wpList_storeP rfl rfl rfl (f := 2) (cells := [t1, .int .i64 k]) rfl (F.row m1) uinfoRingI (by simp) (one_head ot.out rfl) (fun w5 K => ?_)
  have C := (Chg.refl (· = w.heap.size) w4).wrote K rfl
  have zc := C.size
  replace O1 := O1.chgS C (fun i h1 h2 e => by omega)
  replace O2 := O2.chgS C (fun i h1 h2 e => by omega)
  replace F := F.wr1 (cs' := #[s1, .int .i64 j, t1, .int .i64 k, .int .i64 fk, .float .f32 a, .float .f32 b, .float .f32 c, .float .f32 p, .float .f32 q, .float .f32 m, .float .f32 o]) K
  clear K C
  replace O1h := hid O1; replace O2h := hid O2; clear O1 O2
  go_wp2_with (with_reducible refine stop_store rfl ?_)
  show wpList _ _ _ _ _ _
  have O1 := O1h.out; have O2 := O2h.out
  refine wpList_storeP rfl rfl rfl (f := 8) (cells := [.float .f32 0, .float .f32 0]) rfl (F.row m1) info2 (by simp) (by simp [Value.oneCell']) (fun w6 K => ?_)
  have C := (Chg.refl (· = w.heap.size) w5).wrote K rfl
  have zc := C.size
  replace O1 := O1.chgS C (fun i h1 h2 e => by omega)
  replace O2 := O2.chgS C (fun i h1 h2 e => by omega)
  replace F := F.wr1 (cs' := #[s1, .int .i64 j, t1, .int .i64 k, .int .i64 fk, .float .f32 a, .float .f32 b, .float .f32 c, .float .f32 0, .float .f32 0, .float .f32 m, .float .f32 o]) K
  clear K C
  replace O1h := hid O1; replace O2h := hid O2; clear O1 O2
  go_wp2_with (first | ((with_reducible refine at_loadU rfl rfl ?_); (with_reducible refine wpList_loadG F rfl rfl rfl (by first | exact m0 | exact m1 | exact m2 | exact m3 | exact m4 | exact m5 | exact m6 | exact m7 | exact m8 | exact m9 | exact m10 | exact m11) Try.underlying31 rfl uinfoBowI rfl ?_)) | ((with_reducible refine stop_store rfl ?_)))
  show wpList _ _ _ _ _ _
  refine wpList_storeD rfl rfl rfl (cells := #[s1, .int .i64 j, t1, .int .i64 k, .int .i64 fk, .float .f32 a, .float .f32 b, .float .f32 c, .float .f32 0, .float .f32 0, .float .f32 m, .float .f32 o]) rfl (F.row m0) uinfoBowI rfl (by simp only [List.all_toArray', List.all_cons, List.all_nil, os.out, ot.out]; rfl) (fun w9 K => ?_)
  have C := (Chg.refl (· = w.heap.size + 1) w6).wrote K rfl
  have zc := C.size
  have O1 := O1h.out.chgS C (fun i h1 h2 e => by omega)
  have O2 := O2h.out.chgS C (fun i h1 h2 e => by omega)
  have R := hid K.row
  have L := hid (F.wr0 K).below
  have LY := hid (layBow (fun _ => 0) (fun _ => 0) nx ny j k fk a b c 0 0 m o (lo := w.heap.size) ⟨b0, d0, O1, O2, hne, by omega, by omega, by omega, by omega⟩ ⟨wf.1, wf.2, wk0⟩ ⟨hf.1, hf.2.1, hf.2.2.1, (by simp [fits, Lit.wf]), (by simp [fits, Lit.wf]), hf.2.2.2.2.2.1, hf.2.2.2.2.2.2⟩)
  clear K F C O1 O2 O1h O2h
  go_wp2
  exact bodyPost_ret (results_row2 rfl _ _ _ _ _ rfl R.out Try.underlying31 rfl uinfoBowI) rfl ⟨[s1, .int .i64 j, t1, .int .i64 k, .int .i64 fk, .float .f32 a, .float .f32 b, .float .f32 c, .float .f32 0, .float .f32 0, .float .f32 m, .float .f32 o], rfl, LY.out, L.out⟩
set_option maxRecDepth 100000 in
set_option maxHeartbeats 4000000 in
theorem s_MuteBow_no (x y : Nat → Nat) (nx ny : Nat) (j k : Int) (fk : Int) (a b c p q : Nat) (m o : Nat) (B : Nat) (s t : Value) (w : World) (hs : (slT x nx).RdN w B s) (ht : (slT y ny).RdN w B t) (wf : (Lit.int .i64 j).wf = true ∧ (Lit.int .i64 k).wf = true) (hf : (fits .f32 a ∧ fits .f32 b ∧ fits .f32 c ∧ fits .f32 p ∧ fits .f32 q ∧ fits .f32 m ∧ fits .f32 o)) (hv : okBow x y nx ny j k fk a b c p q m o = false) :
    Calls Try.prog 37 #[.agg #[s, .int .i64 j, t, .int .i64 k, .int .i64 fk, .float .f32 a, .float .f32 b, .float .f32 c, .float .f32 p, .float .f32 q, .float .f32 m, .float .f32 o]] w (OutV_Ti (cdBow (fun _ => 0) (fun _ => 0) 0 0 0 0 0 0 0 0 0 0 0 0) 1 w) := by
  have HV := hid (fun (g9 : Nat) (w' : World) (hl : le w w') (R : Row w' g9 31 #[s, .int .i64 j, t, .int .i64 k, .int .i64 fk, .float .f32 a, .float .f32 b, .float .f32 c, .float .f32 p, .float .f32 q, .float .f32 m, .float .f32 o]) => hv ▸ s_l05Bow x y nx ny j k fk a b c p q m o B s t w' g9 R (hs.le hl) (ht.le hl) wf hf)
  clear hs ht wf hf hv
  have F := ((Frg.nil w).box 31 #[s, .int .i64 j, t, .int .i64 k, .int .i64 fk, .float .f32 a, .float .f32 b, .float .f32 c, .float .f32 p, .float .f32 q, .float .f32 m, .float .f32 o]).box 31 #[.slice none 0 0, .int .i64 0, .slice none 0 0, .int .i64 0, .int .i64 0, .float .f32 0, .float .f32 0, .float .f32 0, .float .f32 0, .float .f32 0, .float .f32 0, .float .f32 0]
  simp only [World.size_alloc] at F
  go_enter Try.func37, Try.ntmps37
  go_wp2_with (first | (go_at_call 72; ((with_reducible refine (HV.out _ _ F.below (F.row m1)).mono ?_); rintro e w1 ⟨rfl, hl⟩; replace F := F.le hl; clear hl)) | ((with_reducible refine stop_store rfl ?_)))
  show wpList _ _ _ _ _ _
  refine wpList_storeD rfl rfl rfl (cells := #[.slice none 0 0, .int .i64 0, .slice none 0 0, .int .i64 0, .int .i64 0, .float .f32 0, .float .f32 0, .float .f32 0, .float .f32 0, .float .f32 0, .float .f32 0, .float .f32 0]) rfl (F.row m0) uinfoBowI rfl (by simp [Value.oneCell']) (fun w4 K => ?_)
  have R := hid K.row
  have L := hid (F.wr0 K).below
  clear K F
  go_wp2
  exact bodyPost_ret (results_row2 rfl _ _ _ _ _ rfl R.out Try.underlying31 rfl uinfoBowI) rfl ⟨[.slice none 0 0, .int .i64 0, .slice none 0 0, .int .i64 0, .int .i64 0, .float .f32 0, .float .f32 0, .float .f32 0, .float .f32 0, .float .f32 0, .float .f32 0, .float .f32 0], rfl, layBow0 _ _, L.out⟩
set_option maxRecDepth 100000 in
set_option maxHeartbeats 4000000 in
theorem s_MuteBow_yes (x y : Nat → Nat) (nx ny : Nat) (j k : Int) (fk : Int) (a b c p q : Nat) (m o : Nat) (B : Nat) (s t : Value) (w : World) (hs : (slT x nx).RdN w B s) (ht : (slT y ny).RdN w B t) (wf : (Lit.int .i64 j).wf = true ∧ (Lit.int .i64 k).wf = true) (hf : (fits .f32 a ∧ fits .f32 b ∧ fits .f32 c ∧ fits .f32 p ∧ fits .f32 q ∧ fits .f32 m ∧ fits .f32 o)) (hv : okBow x y nx ny j k fk a b c p q m o = true) :
    Calls Try.prog 37 #[.agg #[s, .int .i64 j, t, .int .i64 k, .int .i64 fk, .float .f32 a, .float .f32 b, .float .f32 c, .float .f32 p, .float .f32 q, .float .f32 m, .float .f32 o]] w (OutV_Ti (cdBow (fun _ => 0) (fun _ => 0) nx ny j k fk a b c 0 0 m o) 0 w) := by
  obtain ⟨x1, x2, y1, y2, _, _, hk0, _⟩ := okBow_j hv
  have wk0 : (Lit.int .i64 fk).wf = true := by rw [hk0]; decide
  clear hk0
  have HV := hid (fun (g9 : Nat) (w' : World) (hl : le w w') (R : Row w' g9 31 #[s, .int .i64 j, t, .int .i64 k, .int .i64 fk, .float .f32 a, .float .f32 b, .float .f32 c, .float .f32 p, .float .f32 q, .float .f32 m, .float .f32 o]) => hv ▸ s_l05Bow x y nx ny j k fk a b c p q m o B s t w' g9 R (hs.le hl) (ht.le hl) wf hf)
  have HC := hid (fun (g9 : Nat) (w' : World) (hl : le w w') (R : Row w' g9 31 #[s, .int .i64 j, t, .int .i64 k, .int .i64 fk, .float .f32 a, .float .f32 b, .float .f32 c, .float .f32 p, .float .f32 q, .float .f32 m, .float .f32 o]) => s_l05CopyBow x y nx ny j k fk a b c p q m o B s t w' g9 R ((slT_rds hs).le hl) ((slT_rds ht).le hl) ⟨x1, x2⟩ ⟨y1, y2⟩)
  have HM0 := hid (fun (g9 : Nat) (w' : World) (hl : le w w') (R : Row w' g9 31 #[s, .int .i64 j, t, .int .i64 k, .int .i64 fk, .float .f32 a, .float .f32 b, .float .f32 c, .float .f32 p, .float .f32 q, .float .f32 m, .float .f32 o]) => s_l05Muted B s x nx j g9 0 _ _ w' ((slT_rds hs).le hl) R rfl rfl x1 x2)
  have HM1 := hid (fun (g9 : Nat) (w' : World) (hl : le w w') (R : Row w' g9 31 #[s, .int .i64 j, t, .int .i64 k, .int .i64 fk, .float .f32 a, .float .f32 b, .float .f32 c, .float .f32 p, .float .f32 q, .float .f32 m, .float .f32 o]) => s_l05Muted B t y ny k g9 2 _ _ w' ((slT_rds ht).le hl) R rfl rfl y1 y2)
  clear hs ht hv
  have F := ((Frg.nil w).box 31 #[s, .int .i64 j, t, .int .i64 k, .int .i64 fk, .float .f32 a, .float .f32 b, .float .f32 c, .float .f32 p, .float .f32 q, .float .f32 m, .float .f32 o]).box 31 #[.slice none 0 0, .int .i64 0, .slice none 0 0, .int .i64 0, .int .i64 0, .float .f32 0, .float .f32 0, .float .f32 0, .float .f32 0, .float .f32 0, .float .f32 0, .float .f32 0]
  simp only [World.size_alloc] at F
  go_enter Try.func37, Try.ntmps37
  go_wp2_with (first | (go_at_call 72; ((with_reducible refine (HV.out _ _ F.below (F.row m1)).mono ?_); rintro e w1 ⟨rfl, hl⟩; replace F := F.le hl; clear hl)) | (go_at_call 73; ((with_reducible refine (HC.out _ _ F.below (F.row m1)).mono ?_); rintro e w2 ⟨s0, t0, rfl, h2, hl⟩; have os0 := hid (two_one h2).1; have ot0 := hid (two_one h2).2; replace F := F.le hl; clear h2 hl)) | (refine wpList_storeG F rfl rfl rfl rfl rfl uinfoBowI rfl (by simp only [List.all_toArray', List.all_cons, List.all_nil, os0.out, ot0.out]; rfl) ?_; clear F; intro W3 F zW; clear zW))
  go_wp2_with (first | (go_at_call 86; ((with_reducible refine (HM0.out _ _ F.below (F.row m2)).mono ?_); rintro e w3 ⟨s1, rfl, ho, hl⟩; have os := hid (OwnS.one ho); replace F := F.own1 hl ho; clear ho hl)) | ((with_reducible refine stop_store rfl ?_)))
  show wpList _ _ _ _ _ _
  refine wpList_storeP rfl rfl rfl (f := 0) (cells := [s1, .int .i64 j]) rfl (F.row m1) uinfoRingI (by simp) (one_head os.out rfl) (fun w4 K => ?_)
  replace F := F.wr1 (cs' := #[s1, .int .i64 j, t0, .int .i64 k, .int .i64 fk, .float .f32 a, .float .f32 b, .float .f32 c, .float .f32 p, .float .f32 q, .float .f32 m, .float .f32 o]) K
  clear K
  go_wp2_with (first | (go_at_call 86; ((with_reducible refine (HM1.out _ _ F.below (F.row m3)).mono ?_); rintro e w3 ⟨t1, rfl, ho, hl⟩; have ot := hid (OwnS.one ho); replace F := F.own1 hl ho; clear ho hl)) | ((with_reducible refine stop_store rfl ?_)))
  show wpList _ _ _ _ _ _
  refine wpList_storeP rfl rfl rfl (f := 2) (cells := [t1, .int .i64 k]) rfl (F.row m2) uinfoRingI (by simp) (one_head ot.out rfl) (fun w4 K => ?_)
  replace F := F.wr2 (cs' := #[s1, .int .i64 j, t1, .int .i64 k, .int .i64 fk, .float .f32 a, .float .f32 b, .float .f32 c, .float .f32 p, .float .f32 q, .float .f32 m, .float .f32 o]) K
  clear K
  go_wp2_with (first | ((with_reducible refine stop_store rfl ?_)))
  show wpList _ _ _ _ _ _
  refine wpList_storeP rfl rfl rfl (f := 8) (cells := [.float .f32 0, .float .f32 0]) rfl (F.row m2) info2 (by simp) (by simp [Value.oneCell']) (fun w4 K => ?_)
  replace F := F.wr2 (cs' := #[s1, .int .i64 j, t1, .int .i64 k, .int .i64 fk, .float .f32 a, .float .f32 b, .float .f32 c, .float .f32 0, .float .f32 0, .float .f32 m, .float .f32 o]) K
  clear K
  go_wp2_with (first | ((with_reducible refine at_loadU rfl rfl ?_); (with_reducible refine wpList_loadG F rfl rfl rfl (by first | exact m0 | exact m1 | exact m2 | exact m3 | exact m4 | exact m5 | exact m6 | exact m7 | exact m8 | exact m9 | exact m10 | exact m11) Try.underlying31 rfl uinfoBowI rfl ?_)) | ((with_reducible refine stop_store rfl ?_)))
  show wpList _ _ _ _ _ _
  have O1 := F.own m1
  have O2 := F.own m0
  have hsz : w.heap.size + 1 < _ := (F.row m3).lt
  have ap1 := (List.pairwise_cons.1 F.apart).1 _ m0
  have zq1 := (F.facts _ m1).1
  have zq2 := (F.facts _ m0).1
  have ap2 := (List.pairwise_cons.1 (List.pairwise_cons.1 F.apart).2).1 _ m1
  have ap3 := (List.pairwise_cons.1 F.apart).1 _ m2
  simp only [ownF, rowF] at ap1 ap2 ap3 zq1 zq2
  refine wpList_storeD rfl rfl rfl (cells := #[s1, .int .i64 j, t1, .int .i64 k, .int .i64 fk, .float .f32 a, .float .f32 b, .float .f32 c, .float .f32 0, .float .f32 0, .float .f32 m, .float .f32 o]) rfl (F.row m3) uinfoBowI rfl (by simp only [List.all_toArray', List.all_cons, List.all_nil, os.out, ot.out]; rfl) (fun w9 K => ?_)
  have C := (Chg.refl (· = w.heap.size + 1) _).wrote K rfl
  replace O1 := O1.chgS C (fun i h1 h2 e => by omega)
  replace O2 := O2.chgS C (fun i h1 h2 e => by omega)
  have R := hid K.row
  have L := hid (F.wr3 K).below
  have LY := hid (layBow (fun _ => 0) (fun _ => 0) nx ny j k fk a b c 0 0 m o (lo := w.heap.size) (Two.of_own O1 O2 x1 y1 (by omega) (by omega) (by omega)) ⟨wf.1, wf.2, wk0⟩ ⟨hf.1, hf.2.1, hf.2.2.1, (by simp [fits, Lit.wf]), (by simp [fits, Lit.wf]), hf.2.2.2.2.2.1, hf.2.2.2.2.2.2⟩)
  clear K F C O1 O2 ap1 ap2 ap3 zq1 zq2
  go_wp2
  exact bodyPost_ret (results_row2 rfl _ _ _ _ _ rfl R.out Try.underlying31 rfl uinfoBowI) rfl ⟨[s1, .int .i64 j, t1, .int .i64 k, .int .i64 fk, .float .f32 a, .float .f32 b, .float .f32 c, .float .f32 0, .float .f32 0, .float .f32 m, .float .f32 o], rfl, LY.out, L.out⟩
theorem both_MuteBow (cs : List CD) (h : HasShL shBow cs) : ∃ (ar0 : List CD) (ar1 : Int), ShOkL shBow ar0 ∧ szL ar0 ≤ 1048576 ∧ (∀ (w : World) (B : Nat) (u : List Value), RdLN w B (cs.map CD.cp) u → Calls Try.prog 37 #[.agg u.toArray] w (OutV_Ti ar0 ar1 w)) ∧ (∀ (w : World) (B : Nat) (u : List Value), RdLN w B (cs.map CD.cp) u → Calls Try.prog 38 #[.agg u.toArray] w (OutV_Ti ar0 ar1 w)) := by
  obtain ⟨xs, ys, nx, ny, j, k, fk, a, b, c, p, q, m, o, rfl, hx, hy⟩ := bow_data h
  cases hv : okBow (fun i => (xs i).fx) (fun i => (ys i).fx) nx ny j k fk a b c p q m o
  · refine ⟨cdBow (fun _ => 0) (fun _ => 0) 0 0 0 0 0 0 0 0 0 0 0 0, 1, cdBow_sh (fun _ => 0) (fun _ => 0) 0 0 0 0 0 0 0 0 0 0 0 0, by rw [cdBow_sz]; omega, fun w B u hu => ?_, fun w B u hu => ?_⟩
    · obtain ⟨s, t, rfl, hs, ht, wf, hf⟩ := bow_open hu hx hy
      exact s_MuteBow_no (fun i => (xs i).fx) (fun i => (ys i).fx) nx ny j k fk a b c p q m o B s t w hs ht wf hf hv
    · obtain ⟨s, t, rfl, hs, ht, wf, hf⟩ := bow_open hu hx hy
      exact i_MuteBow_no (fun i => (xs i).fx) (fun i => (ys i).fx) nx ny j k fk a b c p q m o B s t w hs ht wf hf hv
  · refine ⟨cdBow (fun _ => 0) (fun _ => 0) nx ny j k fk a b c 0 0 m o, 0, cdBow_sh (fun _ => 0) (fun _ => 0) nx ny j k fk a b c 0 0 m o, by have := okBow_j hv; rw [cdBow_sz]; omega, fun w B u hu => ?_, fun w B u hu => ?_⟩
    · obtain ⟨s, t, rfl, hs, ht, wf, hf⟩ := bow_open hu hx hy
      exact s_MuteBow_yes (fun i => (xs i).fx) (fun i => (ys i).fx) nx ny j k fk a b c p q m o B s t w hs ht wf hf hv
    · obtain ⟨s, t, rfl, hs, ht, wf, hf⟩ := bow_open hu hx hy
      exact i_MuteBow_yes (fun i => (xs i).fx) (fun i => (ys i).fx) nx ny j k fk a b c p q m o B s t w hs ht wf hf hv
end Go.Proofs.Ytgjdmoenobacgaa

/- 'PullBow' of both. -/
namespace Go.Fk
open Go Go.RowKit
/-- A bridge's samples with a force added. -/
def pullV (y : Nat → Nat) (fo k : Nat) : Nat := kept (fop .add .f32 (y k) fo)
def pullX (y : Nat → Nat) (fo k : Nat) : Nat → Nat := fun j => if j < k then can .f32 (pullV y fo j) else y j
theorem pull_of {y : Nat → Nat} {fo k yk r : Nat} (hy : can .f32 yk = y k) (hr : can .f32 r = fop .add .f32 yk fo) : kept r = pullV y fo k :=
  kept_can (hr.trans ((fop_congr (show can .f32 yk = can .f32 (y k) by rw [← hy, can_can]) rfl).trans (can_fop _ _ _ _).symm))
theorem pull_zero (y : Nat → Nat) (fo : Nat) : pullX y fo 0 = y := by funext j; simp [pullX]
theorem pull_step (y : Nat → Nat) (fo k : Nat) : pushX (pullX y fo k) k (pullV y fo k) = pullX y fo (k + 1) := by
  funext j
  simp only [pushX, pullX]
  by_cases e : j = k
  · subst e; simp
  · simp [e, show (j < k + 1) = (j < k) by simp; omega]
theorem fits_pull (y : Nat → Nat) (fo k : Nat) : fits .f32 (pullV y fo k) := fits_kept (fits_fop _ _ _ _)
end Go.Fk
namespace Go.Proofs.Ytgjdmoenobacgaa
open Go.RowKit Go.Fk
theorem i_isFiniteB (x : Nat) (v : Bool) (w : World) (hx : fits .f32 x) (h : fin x = v) : Calls Try.prog 64 #[.float .f32 x] w fun e w' => e = .returned (.bool v) ∧ w = w' := h ▸ i_isFinite x w hx
theorem s_FiniteB (x : Nat) (v : Bool) (w : World) (h : fin x = v) : Calls Try.prog 57 #[.float .f32 x] w fun e w' => e = .returned (.bool v) ∧ ∃ n, w' = w.drewN n := h ▸ s_l01Finite x w
set_option maxRecDepth 100000 in
set_option maxHeartbeats 4000000 in
theorem i_PullBow_no (x y : Nat → Nat) (nx ny : Nat) (j k : Int) (fk : Int) (a b c p q : Nat) (m o : Nat) (fo : Nat) (hfo : fits .f32 fo) (B : Nat) (s t : Value) (w : World) (hs : (slT x nx).RdN w B s) (ht : (slT y ny).RdN w B t) (wf : (Lit.int .i64 j).wf = true ∧ (Lit.int .i64 k).wf = true) (hf : (fits .f32 a ∧ fits .f32 b ∧ fits .f32 c ∧ fits .f32 p ∧ fits .f32 q ∧ fits .f32 m ∧ fits .f32 o)) (hv : okBow x y nx ny j k fk a b c p q m o = false) :
    Calls Try.prog 36 #[.agg #[s, .int .i64 j, t, .int .i64 k, .int .i64 fk, .float .f32 a, .float .f32 b, .float .f32 c, .float .f32 p, .float .f32 q, .float .f32 m, .float .f32 o], .float .f32 fo] w (OutV_Ti (cdBow (fun _ => 0) (fun _ => 0) 0 0 0 0 0 0 0 0 0 0 0 0) 1 w) := by
  have HV := hid (fun (w' : World) (hl : le w w') => hv ▸ i_ValidBow x y nx ny j k fk a b c p q m o B s t w' (hs.le hl) (ht.le hl) wf hf)
  clear hs ht wf hf hv
  have F := ((Frg.nil w).box 31 #[s, .int .i64 j, t, .int .i64 k, .int .i64 fk, .float .f32 a, .float .f32 b, .float .f32 c, .float .f32 p, .float .f32 q, .float .f32 m, .float .f32 o]).box 31 #[.slice none 0 0, .int .i64 0, .slice none 0 0, .int .i64 0, .int .i64 0, .float .f32 0, .float .f32 0, .float .f32 0, .float .f32 0, .float .f32 0, .float .f32 0, .float .f32 0]
  simp only [World.size_alloc] at F
  go_enter Try.func36, Try.ntmps36
  go_wp2_with (first | ((with_reducible refine at_loadU rfl rfl ?_); (with_reducible refine wpList_loadG F rfl rfl rfl (by first | exact m0 | exact m1 | exact m2 | exact m3 | exact m4 | exact m5 | exact m6 | exact m7 | exact m8 | exact m9 | exact m10 | exact m11) Try.underlying31 rfl uinfoBowI rfl ?_)) | (go_at_call 77; ((with_reducible refine (HV.out _ F.below).mono ?_); rintro e w1 ⟨rfl, hl⟩; replace F := F.le hl; clear hl)) | ((with_reducible refine stop_store rfl ?_)))
  show wpList _ _ _ _ _ _
  refine wpList_storeD rfl rfl rfl (cells := #[.slice none 0 0, .int .i64 0, .slice none 0 0, .int .i64 0, .int .i64 0, .float .f32 0, .float .f32 0, .float .f32 0, .float .f32 0, .float .f32 0, .float .f32 0, .float .f32 0]) rfl (F.row m0) uinfoBowI rfl (by simp [Value.oneCell']) (fun w4 K => ?_)
  have R := hid K.row
  have L := hid (F.wr0 K).below
  clear K F
  go_wp2
  exact bodyPost_ret (results_row2 rfl _ _ _ _ _ rfl R.out Try.underlying31 rfl uinfoBowI) rfl ⟨[.slice none 0 0, .int .i64 0, .slice none 0 0, .int .i64 0, .int .i64 0, .float .f32 0, .float .f32 0, .float .f32 0, .float .f32 0, .float .f32 0, .float .f32 0, .float .f32 0], rfl, layBow0 _ _, L.out⟩
set_option maxRecDepth 100000 in
set_option maxHeartbeats 4000000 in
theorem i_PullBow_inf (x y : Nat → Nat) (nx ny : Nat) (j k : Int) (fk : Int) (a b c p q : Nat) (m o : Nat) (fo : Nat) (hfo : fits .f32 fo) (B : Nat) (s t : Value) (w : World) (hs : (slT x nx).RdN w B s) (ht : (slT y ny).RdN w B t) (wf : (Lit.int .i64 j).wf = true ∧ (Lit.int .i64 k).wf = true) (hf : (fits .f32 a ∧ fits .f32 b ∧ fits .f32 c ∧ fits .f32 p ∧ fits .f32 q ∧ fits .f32 m ∧ fits .f32 o)) (hv : okBow x y nx ny j k fk a b c p q m o = true) (hfi : fin fo = false) :
    Calls Try.prog 36 #[.agg #[s, .int .i64 j, t, .int .i64 k, .int .i64 fk, .float .f32 a, .float .f32 b, .float .f32 c, .float .f32 p, .float .f32 q, .float .f32 m, .float .f32 o], .float .f32 fo] w (OutV_Ti (cdBow (fun _ => 0) (fun _ => 0) 0 0 0 0 0 0 0 0 0 0 0 0) 2 w) := by
  have HV := hid (fun (w' : World) (hl : le w w') => hv ▸ i_ValidBow x y nx ny j k fk a b c p q m o B s t w' (hs.le hl) (ht.le hl) wf hf)
  have HFI := hid (fun (w : World) => i_isFiniteB fo false w hfo hfi)
  clear hs ht wf hf hv hfi
  have F := ((Frg.nil w).box 31 #[s, .int .i64 j, t, .int .i64 k, .int .i64 fk, .float .f32 a, .float .f32 b, .float .f32 c, .float .f32 p, .float .f32 q, .float .f32 m, .float .f32 o]).box 31 #[.slice none 0 0, .int .i64 0, .slice none 0 0, .int .i64 0, .int .i64 0, .float .f32 0, .float .f32 0, .float .f32 0, .float .f32 0, .float .f32 0, .float .f32 0, .float .f32 0]
  simp only [World.size_alloc] at F
  go_enter Try.func36, Try.ntmps36
  go_wp2_with (first | ((with_reducible refine at_loadU rfl rfl ?_); (with_reducible refine wpList_loadG F rfl rfl rfl (by first | exact m0 | exact m1 | exact m2 | exact m3 | exact m4 | exact m5 | exact m6 | exact m7 | exact m8 | exact m9 | exact m10 | exact m11) Try.underlying31 rfl uinfoBowI rfl ?_)) | (go_at_call 77; ((with_reducible refine (HV.out _ F.below).mono ?_); rintro e w1 ⟨rfl, hl⟩; replace F := F.le hl; clear hl)) | (go_at_call 64; ((with_reducible refine (HFI.out _).mono ?_); rintro e w8 ⟨rfl, rfl⟩)) | ((with_reducible refine stop_store rfl ?_)))
  show wpList _ _ _ _ _ _
  refine wpList_storeD rfl rfl rfl (cells := #[.slice none 0 0, .int .i64 0, .slice none 0 0, .int .i64 0, .int .i64 0, .float .f32 0, .float .f32 0, .float .f32 0, .float .f32 0, .float .f32 0, .float .f32 0, .float .f32 0]) rfl (F.row m0) uinfoBowI rfl (by simp [Value.oneCell']) (fun w4 K => ?_)
  have R := hid K.row
  have L := hid (F.wr0 K).below
  clear K F
  go_wp2
  exact bodyPost_ret (results_row2 rfl _ _ _ _ _ rfl R.out Try.underlying31 rfl uinfoBowI) rfl ⟨[.slice none 0 0, .int .i64 0, .slice none 0 0, .int .i64 0, .int .i64 0, .float .f32 0, .float .f32 0, .float .f32 0, .float .f32 0, .float .f32 0, .float .f32 0, .float .f32 0], rfl, layBow0 _ _, L.out⟩
set_option maxRecDepth 100000 in
set_option maxHeartbeats 4000000 in
theorem i_PullBow_yes (x y : Nat → Nat) (nx ny : Nat) (j k : Int) (fk : Int) (a b c p q : Nat) (m o : Nat) (fo : Nat) (hfo : fits .f32 fo) (B : Nat) (s t : Value) (w : World) (hs : (slT x nx).RdN w B s) (ht : (slT y ny).RdN w B t) (wf : (Lit.int .i64 j).wf = true ∧ (Lit.int .i64 k).wf = true) (hf : (fits .f32 a ∧ fits .f32 b ∧ fits .f32 c ∧ fits .f32 p ∧ fits .f32 q ∧ fits .f32 m ∧ fits .f32 o)) (hv : okBow x y nx ny j k fk a b c p q m o = true) (hfi : fin fo = true) :
    Calls Try.prog 36 #[.agg #[s, .int .i64 j, t, .int .i64 k, .int .i64 fk, .float .f32 a, .float .f32 b, .float .f32 c, .float .f32 p, .float .f32 q, .float .f32 m, .float .f32 o], .float .f32 fo] w (OutV_Ti (cdBow x (pullX y fo ny) nx ny j k fk a b c p q m o) 0 w) := by
  obtain ⟨x1, x2, y1, y2, _, _, hk0, _⟩ := okBow_j hv
  have wk0 : (Lit.int .i64 fk).wf = true := by rw [hk0]; decide
  clear hk0
  have HV := hid (fun (w' : World) (hl : le w w') => hv ▸ i_ValidBow x y nx ny j k fk a b c p q m o B s t w' (hs.le hl) (ht.le hl) wf hf)
  have HFI := hid (fun (w : World) => i_isFiniteB fo true w hfo hfi)
  have HS := hid (slT_rds hs); have HT := hid (slT_rds ht)
  clear hs ht hv hfi
  have F := ((Frg.nil w).box 31 #[s, .int .i64 j, t, .int .i64 k, .int .i64 fk, .float .f32 a, .float .f32 b, .float .f32 c, .float .f32 p, .float .f32 q, .float .f32 m, .float .f32 o]).box 31 #[.slice none 0 0, .int .i64 0, .slice none 0 0, .int .i64 0, .int .i64 0, .float .f32 0, .float .f32 0, .float .f32 0, .float .f32 0, .float .f32 0, .float .f32 0, .float .f32 0]
  simp only [World.size_alloc] at F
  go_enter Try.func36, Try.ntmps36
  go_wp2_with (first | ((with_reducible refine at_loadU rfl rfl ?_); (with_reducible refine wpList_loadG F rfl rfl rfl (by first | exact m0 | exact m1 | exact m2 | exact m3 | exact m4 | exact m5 | exact m6 | exact m7 | exact m8 | exact m9 | exact m10 | exact m11) Try.underlying31 rfl uinfoBowI rfl ?_)) | (go_at_call 77; ((with_reducible refine (HV.out _ F.below).mono ?_); rintro e w1 ⟨rfl, hl⟩; replace F := F.le hl; clear hl)) | (go_at_call 64; ((with_reducible refine (HFI.out _).mono ?_); rintro e w8 ⟨rfl, rfl⟩)))
  have G := F.drewN 1
  have hz := (F.row m0).lt
  refine region_tailZ (E := leX) (fun _ args z w1 v => (args = #[.agg #[s, .int .i64 j]] → Cp (w.heap.size + 1) x nx j z w1 v) ∧ (args = #[.agg #[t, .int .i64 k]] → Cp (w.heap.size + 1) y ny k z w1 v)) 7 (by kernel_rfl) (by kernel_rfl) ?_
  simp only [List.take_succ_cons, List.take_zero, List.drop_succ_cons, List.drop_zero]
  refine wpFreeZ_one rfl (.pointer (some ⟨w.heap.size, 0, none⟩)) (fun w1 _ => by kernel_rfl) ?_
  simp only [Act.put, List.setIfInBounds_toArray, List.set_cons_succ, List.set_cons_zero]
  refine wpFreeZ_loadW rfl rfl rfl [s, .int .i64 j] (fun w1 h1 => Row.at_part ((G.row m1).le h1) (partBow_Neck (s) (.int .i64 j) (t) (.int .i64 k) (.int .i64 fk) (.float .f32 a) (.float .f32 b) (.float .f32 c) (.float .f32 p) (.float .f32 q) (.float .f32 m) (.float .f32 o))) Try.underlying25 rfl uinfoRingI rfl ?_
  simp only [Act.put, List.setIfInBounds_toArray, List.set_cons_succ, List.set_cons_zero]
  refine wpFreeZ_callW (by kernel_rfl) rfl Try.func84 (by kernel_rfl) (by kernel_rfl) (args := #[.agg #[s, .int .i64 j]]) (by simp [Act.eval]) (fun z v w1 w2 hw hv => ⟨fun e => (hv.1 e).le hw, fun e => (hv.2 e).le hw⟩) (fun wc hw1 hbe => ?_) ?_
  · have hg : w.heap.size + 1 < wc.heap.size := by have h0 := hw1.size; have e0 : (w1.drewN 1).heap.size = w1.heap.size := rfl; omega
    refine (i_copied B s x nx _ wc ((HS.out.le G.below).le hw1) x1 x2).mono ?_
    rintro e w2 ⟨s1, rfl, ho, hl⟩
    refine ⟨_, rfl, hl, fun e => ?_, fun e => ?_⟩
    · exact Cp.mk ho x1 hg
    · simp only [Array.mk.injEq, List.cons.injEq, Value.agg.injEq, Value.int.injEq, and_true, true_and] at e
      obtain ⟨e1, e2⟩ := e
      rw [e2]; exact Cp.mk (own_same HS.out (e1 ▸ HT.out) ho) y1 hg
  rintro v0 ⟨z, wv, _, hv⟩
  obtain ⟨s1, _, rfl, ho, _⟩ := hv.1 rfl
  have os := hid (own_one ho)
  clear hv ho
  simp only [Act.put, List.setIfInBounds_toArray, List.set_cons_succ, List.set_cons_zero]
  refine wpFreeZ_one rfl (.pointer (some ⟨w.heap.size, 2, none⟩)) (fun w1 _ => by kernel_rfl) ?_
  simp only [Act.put, List.setIfInBounds_toArray, List.set_cons_succ, List.set_cons_zero]
  refine wpFreeZ_loadW rfl rfl rfl [t, .int .i64 k] (fun w1 h1 => Row.at_part ((G.row m1).le h1) (partBow_Bridge (s) (.int .i64 j) (t) (.int .i64 k) (.int .i64 fk) (.float .f32 a) (.float .f32 b) (.float .f32 c) (.float .f32 p) (.float .f32 q) (.float .f32 m) (.float .f32 o))) Try.underlying25 rfl uinfoRingI rfl ?_
  simp only [Act.put, List.setIfInBounds_toArray, List.set_cons_succ, List.set_cons_zero]
  refine wpFreeZ_callW (by kernel_rfl) rfl Try.func84 (by kernel_rfl) (by kernel_rfl) (args := #[.agg #[t, .int .i64 k]]) (by simp [Act.eval]) (fun z v w1 w2 hw hv => ⟨fun e => (hv.1 e).le hw, fun e => (hv.2 e).le hw⟩) (fun wc hw1 hbe => ?_) ?_
  · have hg : w.heap.size + 1 < wc.heap.size := by have h0 := hw1.size; have e0 : (w1.drewN 1).heap.size = w1.heap.size := rfl; omega
    refine (i_copied B t y ny _ wc ((HT.out.le G.below).le hw1) y1 y2).mono ?_
    rintro e w2 ⟨s1, rfl, ho, hl⟩
    refine ⟨_, rfl, hl, fun e => ?_, fun e => ?_⟩
    · simp only [Array.mk.injEq, List.cons.injEq, Value.agg.injEq, Value.int.injEq, and_true, true_and] at e
      obtain ⟨e1, e2⟩ := e
      rw [e2]; exact Cp.mk (own_same HT.out (e1 ▸ HS.out) ho) x1 hg
    · exact Cp.mk ho y1 hg
  rintro v1 ⟨z, wv, _, hv⟩
  obtain ⟨t1, _, rfl, ho, _⟩ := hv.2 rfl
  have ot := hid (own_one ho)
  clear hv ho
  simp only [Act.put, List.setIfInBounds_toArray, List.set_cons_succ, List.set_cons_zero]
  refine wpFreeZ_one rfl (.pointer (some ⟨w.heap.size, 0, none⟩)) (fun w1 _ => by kernel_rfl) ?_
  simp only [Act.put, List.setIfInBounds_toArray, List.set_cons_succ, List.set_cons_zero]
  refine wpFreeZ_nil (fun w3 zs hw3 hF hc => ?_)
  obtain ⟨b0, d0, O1, O2, hne, l1, l2, l3, l4⟩ := Cp.two x1 y1 (F := _) (((hF 2).1.1.1.1.2 rfl).1 trivial) (((hF 5).1.2 rfl).2 trivial) (hc 2 5 (by decide)) (fun w2 h => (h.1.1.1.1.2 rfl).1 trivial) (fun w2 h => (h.1.2 rfl).2 trivial)
  clear hF hc
  replace F := G.le hw3
  clear hw3 G
  refine wpList_storeP rfl rfl rfl (f := 0) (cells := [s1, .int .i64 j]) rfl (F.row m1) uinfoRingI (by simp) (one_head os.out rfl) (fun w4 K => ?_)
  have C := (Chg.refl (· = w.heap.size) w3).wrote K rfl
  have zc := C.size
  replace O1 := O1.chgS C (fun i h1 h2 e => by omega)
  replace O2 := O2.chgS C (fun i h1 h2 e => by omega)
  replace F := F.wr1 (cs' := #[s1, .int .i64 j, t, .int .i64 k, .int .i64 fk, .float .f32 a, .float .f32 b, .float .f32 c, .float .f32 p, .float .f32 q, .float .f32 m, .float .f32 o]) K
  clear K C
  simp only [Act.put, List.setIfInBounds_toArray, List.set_cons_succ, List.set_cons_zero]
  have O1h := hid O1; have O2h := hid O2; clear O1 O2
  go_wp2_with (with_reducible refine stop_store rfl ?_)
  show wpList _ _ _ _ _ _
  have O1 := O1h.out; have O2 := O2h.out
  refine wpList_storeP rfl rfl rfl (f := 2) (cells := [t1, .int .i64 k]) rfl (F.row m1) uinfoRingI (by simp) (one_head ot.out rfl) (fun w5 K => ?_)
  have C := (Chg.refl (· = w.heap.size) w4).wrote K rfl
  have zc := C.size
  replace O1 := O1.chgS C (fun i h1 h2 e => by omega)
  replace O2 := O2.chgS C (fun i h1 h2 e => by omega)
  replace F := F.wr1 (cs' := #[s1, .int .i64 j, t1, .int .i64 k, .int .i64 fk, .float .f32 a, .float .f32 b, .float .f32 c, .float .f32 p, .float .f32 q, .float .f32 m, .float .f32 o]) K
  clear K C
  replace O1h := hid O1; replace O2h := hid O2; clear O1 O2
  obtain ⟨b9, o9, cap9, rfl, hc9, hm9, hb9, hb9'⟩ := O2h.out.form y1
  obtain rfl : b9 = d0 := by omega
  unfold maxLen at hm9
  have c2 := (F.row (g := w.heap.size) m1).cell? 2
  go_wp2_with fail
  clear c2
  go_loopw [28] (fun i wr => ∃ k0 : Nat, k0 ≤ ny ∧ i = .int .i64 k0 ∧ Hid (OwnS wr b9 (b9 + 1) (.slice (some ⟨b9, o9, none⟩) ny cap9) (pullX y fo k0) ny) ∧ Hid (Chg (· = b9) w5 wr)) (fun i _ => ny - (intOf i).toNat)
  case atStart => exact ⟨0, by omega, rfl, by rw [pull_zero]; exact O2h.out, Chg.refl _ _⟩
  case round =>
    obtain ⟨k0, hk0, rfl, HO, HC⟩ := hrel
    have HR1 := hid (HC.out.row (F.row (g := w.heap.size) m1) (fun e => by have e' : w.heap.size = b9 := e; omega))
    have HR0 := hid (HC.out.row (F.row (g := w.heap.size + 1) m0) (fun e => by have e' : w.heap.size + 1 = b9 := e; omega))
    have c2 := HR1.out.cell? 2
    by_cases hlt : k0 < ny
    · obtain ⟨yk, c1, f1, fy, ey⟩ := HO.out.at hlt
      have EY : Hid (can .f32 yk = y k0) := by unfold Hid; rw [ey]; simp [pullX]
      have hltI : (k0 : Int) < (ny : Int) := by omega
      clear ey
      go_wp2_with fail
      refine wp_region_tail (fun _ _ v => v = .float .f32 (pullV y fo k0)) 9 (by kernel_rfl) (by kernel_rfl) ?_; simp only [List.take_succ_cons, List.take_zero, List.drop_succ_cons, List.drop_zero]
      repeat (first | (with_reducible refine wpLoose_farith (op := .add) rfl rfl rfl rfl rfl ?_; intro ra hra hfa; simp only [Act.put, List.setIfInBounds_toArray, List.set_cons_succ, List.set_cons_zero]) | (refine wpLoose_quiet rfl ?_; go_big_quiet_step (fail); refine wpQuiet_nil ?_) | (refine wpLoose_nilP rfl rfl rfl ?_; simp only [Act.put, List.setIfInBounds_toArray, List.set_cons_succ, List.set_cons_zero]))
      refine wpLoose_any rfl (· = .float .f32 (pullV y fo k0)) (fun m0 => ?_) ?_
      · go_simp
        refine (i_kept _ _ hfa.out).mono ?_
        rintro e w9 ⟨rfl, rfl⟩
        exact ⟨_, rfl, by rw [pull_of EY.out hra.out], m0, by first | rfl | (go_simp; done)⟩
      rintro v0 rfl
      simp only [Act.put, List.setIfInBounds_toArray, List.set_cons_succ, List.set_cons_zero]
      repeat (refine wpLoose_quiet rfl ?_; go_big_quiet_step (fail); refine wpQuiet_nil ?_)
      refine wpLoose_nil (fun m3 => ?_)
      go_wp2
      go_roundw
      case rel =>
        have hs1 := (HO.out.le (le_drewN _ m3)).set hlt (fits_pull y fo k0)
        rw [pull_step] at hs1
        exact ⟨k0 + 1, by omega, by go_num, hs1.1, (HC.out.le (le_drewN _ m3)).trans (hs1.2.mono (fun i e => by have e1 := e.1; have e2 := e.2; show i = b9; omega))⟩
      case measure => simp [intOf]; omega
    · obtain rfl : k0 = ny := by omega
      go_wp2_with (first | ((with_reducible refine at_loadU rfl rfl ?_); (with_reducible refine wpList_loadDR HR1.out rfl rfl rfl Try.underlying31 rfl uinfoBowI rfl ?_)) | ((with_reducible refine stop_store rfl ?_)))
      show wpList _ _ _ _ _ _
      refine wpList_storeD rfl rfl rfl (cells := #[s1, .int .i64 j, (.slice (some ⟨b9, o9, none⟩) k0 cap9), .int .i64 k, .int .i64 fk, .float .f32 a, .float .f32 b, .float .f32 c, .float .f32 p, .float .f32 q, .float .f32 m, .float .f32 o]) rfl HR0.out uinfoBowI rfl (by simp only [List.all_toArray', List.all_cons, List.all_nil, os.out]; rfl) (fun w9 K => ?_)
      have C := (Chg.refl (· = w.heap.size + 1) _).wrote K rfl
      have zc9 := C.size
      have zh := HC.out.size
      have zf := F.below.size
      have O1 := (O1h.out.chgS HC.out (fun i h1 h2 e => by have e' : i = b9 := e; omega)).chgS C (fun i h1 h2 e => by have e' : i = w.heap.size + 1 := e; omega)
      have O2 := HO.out.chgS C (fun i h1 h2 e => by have e' : i = w.heap.size + 1 := e; omega)
      have R := hid K.row
      have L := hid (Below.trans F.below (Below.trans (HC.out.below (B := w.heap.size) (fun i e => by have e' : i = b9 := e; omega) F.below.size) (C.below (B := w.heap.size) (fun i e => by have e' : i = w.heap.size + 1 := e; omega) (by omega))))
      have LY := hid (layBow x (pullX y fo k0) nx k0 j k fk a b c p q m o (lo := w.heap.size) ⟨b0, b9, O1, O2, hne, by omega, by omega, by omega, by omega⟩ ⟨wf.1, wf.2, wk0⟩ ⟨hf.1, hf.2.1, hf.2.2.1, hf.2.2.2.1, hf.2.2.2.2.1, hf.2.2.2.2.2.1, hf.2.2.2.2.2.2⟩)
      clear K C O1 O2
      go_wp2
      exact bodyPost_ret (results_row2 rfl _ _ _ _ _ rfl R.out Try.underlying31 rfl uinfoBowI) rfl ⟨[s1, .int .i64 j, (.slice (some ⟨b9, o9, none⟩) k0 cap9), .int .i64 k, .int .i64 fk, .float .f32 a, .float .f32 b, .float .f32 c, .float .f32 p, .float .f32 q, .float .f32 m, .float .f32 o], rfl, LY.out, L.out⟩
set_option maxRecDepth 100000 in
set_option maxHeartbeats 4000000 in
theorem s_PullBow_no (x y : Nat → Nat) (nx ny : Nat) (j k : Int) (fk : Int) (a b c p q : Nat) (m o : Nat) (fo : Nat) (hfo : fits .f32 fo) (B : Nat) (s t : Value) (w : World) (hs : (slT x nx).RdN w B s) (ht : (slT y ny).RdN w B t) (wf : (Lit.int .i64 j).wf = true ∧ (Lit.int .i64 k).wf = true) (hf : (fits .f32 a ∧ fits .f32 b ∧ fits .f32 c ∧ fits .f32 p ∧ fits .f32 q ∧ fits .f32 m ∧ fits .f32 o)) (hv : okBow x y nx ny j k fk a b c p q m o = false) :
    Calls Try.prog 35 #[.agg #[s, .int .i64 j, t, .int .i64 k, .int .i64 fk, .float .f32 a, .float .f32 b, .float .f32 c, .float .f32 p, .float .f32 q, .float .f32 m, .float .f32 o], .float .f32 fo] w (OutV_Ti (cdBow (fun _ => 0) (fun _ => 0) 0 0 0 0 0 0 0 0 0 0 0 0) 1 w) := by
  have HV := hid (fun (g9 : Nat) (w' : World) (hl : le w w') (R : Row w' g9 31 #[s, .int .i64 j, t, .int .i64 k, .int .i64 fk, .float .f32 a, .float .f32 b, .float .f32 c, .float .f32 p, .float .f32 q, .float .f32 m, .float .f32 o]) => hv ▸ s_l05Bow x y nx ny j k fk a b c p q m o B s t w' g9 R (hs.le hl) (ht.le hl) wf hf)
  clear hs ht wf hf hv
  have F := ((Frg.nil w).box 31 #[s, .int .i64 j, t, .int .i64 k, .int .i64 fk, .float .f32 a, .float .f32 b, .float .f32 c, .float .f32 p, .float .f32 q, .float .f32 m, .float .f32 o]).box 31 #[.slice none 0 0, .int .i64 0, .slice none 0 0, .int .i64 0, .int .i64 0, .float .f32 0, .float .f32 0, .float .f32 0, .float .f32 0, .float .f32 0, .float .f32 0, .float .f32 0]
  simp only [World.size_alloc] at F
  go_enter Try.func35, Try.ntmps35
  go_wp2_with (first | ((with_reducible refine at_loadU rfl rfl ?_); (with_reducible refine wpList_loadG F rfl rfl rfl (by first | exact m0 | exact m1 | exact m2 | exact m3 | exact m4 | exact m5 | exact m6 | exact m7 | exact m8 | exact m9 | exact m10 | exact m11) Try.underlying31 rfl uinfoBowI rfl ?_)) | (go_at_call 72; ((with_reducible refine (HV.out _ _ F.below (F.row m1)).mono ?_); rintro e w1 ⟨rfl, hl⟩; replace F := F.le hl; clear hl)) | ((with_reducible refine stop_store rfl ?_)))
  show wpList _ _ _ _ _ _
  refine wpList_storeD rfl rfl rfl (cells := #[.slice none 0 0, .int .i64 0, .slice none 0 0, .int .i64 0, .int .i64 0, .float .f32 0, .float .f32 0, .float .f32 0, .float .f32 0, .float .f32 0, .float .f32 0, .float .f32 0]) rfl (F.row m0) uinfoBowI rfl (by simp [Value.oneCell']) (fun w4 K => ?_)
  have R := hid K.row
  have L := hid (F.wr0 K).below
  clear K F
  go_wp2
  exact bodyPost_ret (results_row2 rfl _ _ _ _ _ rfl R.out Try.underlying31 rfl uinfoBowI) rfl ⟨[.slice none 0 0, .int .i64 0, .slice none 0 0, .int .i64 0, .int .i64 0, .float .f32 0, .float .f32 0, .float .f32 0, .float .f32 0, .float .f32 0, .float .f32 0, .float .f32 0], rfl, layBow0 _ _, L.out⟩
set_option maxRecDepth 100000 in
set_option maxHeartbeats 4000000 in
theorem s_PullBow_inf (x y : Nat → Nat) (nx ny : Nat) (j k : Int) (fk : Int) (a b c p q : Nat) (m o : Nat) (fo : Nat) (hfo : fits .f32 fo) (B : Nat) (s t : Value) (w : World) (hs : (slT x nx).RdN w B s) (ht : (slT y ny).RdN w B t) (wf : (Lit.int .i64 j).wf = true ∧ (Lit.int .i64 k).wf = true) (hf : (fits .f32 a ∧ fits .f32 b ∧ fits .f32 c ∧ fits .f32 p ∧ fits .f32 q ∧ fits .f32 m ∧ fits .f32 o)) (hv : okBow x y nx ny j k fk a b c p q m o = true) (hfi : fin fo = false) :
    Calls Try.prog 35 #[.agg #[s, .int .i64 j, t, .int .i64 k, .int .i64 fk, .float .f32 a, .float .f32 b, .float .f32 c, .float .f32 p, .float .f32 q, .float .f32 m, .float .f32 o], .float .f32 fo] w (OutV_Ti (cdBow (fun _ => 0) (fun _ => 0) 0 0 0 0 0 0 0 0 0 0 0 0) 2 w) := by
  have HV := hid (fun (g9 : Nat) (w' : World) (hl : le w w') (R : Row w' g9 31 #[s, .int .i64 j, t, .int .i64 k, .int .i64 fk, .float .f32 a, .float .f32 b, .float .f32 c, .float .f32 p, .float .f32 q, .float .f32 m, .float .f32 o]) => hv ▸ s_l05Bow x y nx ny j k fk a b c p q m o B s t w' g9 R (hs.le hl) (ht.le hl) wf hf)
  have HFI := hid (fun (w : World) => s_FiniteB fo false w hfi)
  clear hs ht wf hf hv hfi
  have F := ((Frg.nil w).box 31 #[s, .int .i64 j, t, .int .i64 k, .int .i64 fk, .float .f32 a, .float .f32 b, .float .f32 c, .float .f32 p, .float .f32 q, .float .f32 m, .float .f32 o]).box 31 #[.slice none 0 0, .int .i64 0, .slice none 0 0, .int .i64 0, .int .i64 0, .float .f32 0, .float .f32 0, .float .f32 0, .float .f32 0, .float .f32 0, .float .f32 0, .float .f32 0]
  simp only [World.size_alloc] at F
  go_enter Try.func35, Try.ntmps35
  go_wp2_with (first | ((with_reducible refine at_loadU rfl rfl ?_); (with_reducible refine wpList_loadG F rfl rfl rfl (by first | exact m0 | exact m1 | exact m2 | exact m3 | exact m4 | exact m5 | exact m6 | exact m7 | exact m8 | exact m9 | exact m10 | exact m11) Try.underlying31 rfl uinfoBowI rfl ?_)) | (go_at_call 72; ((with_reducible refine (HV.out _ _ F.below (F.row m1)).mono ?_); rintro e w1 ⟨rfl, hl⟩; replace F := F.le hl; clear hl)) | (go_at_call 57; ((with_reducible refine (HFI.out _).mono ?_); rintro e w8 ⟨rfl, mf, rfl⟩; replace F := F.drewN mf; (try simp only [World.drewN_drewN] at F))) | ((with_reducible refine stop_store rfl ?_)))
  show wpList _ _ _ _ _ _
  refine wpList_storeD rfl rfl rfl (cells := #[.slice none 0 0, .int .i64 0, .slice none 0 0, .int .i64 0, .int .i64 0, .float .f32 0, .float .f32 0, .float .f32 0, .float .f32 0, .float .f32 0, .float .f32 0, .float .f32 0]) rfl (F.row m0) uinfoBowI rfl (by simp [Value.oneCell']) (fun w4 K => ?_)
  have R := hid K.row
  have L := hid (F.wr0 K).below
  clear K F
  go_wp2
  exact bodyPost_ret (results_row2 rfl _ _ _ _ _ rfl R.out Try.underlying31 rfl uinfoBowI) rfl ⟨[.slice none 0 0, .int .i64 0, .slice none 0 0, .int .i64 0, .int .i64 0, .float .f32 0, .float .f32 0, .float .f32 0, .float .f32 0, .float .f32 0, .float .f32 0, .float .f32 0], rfl, layBow0 _ _, L.out⟩
set_option maxRecDepth 100000 in
set_option maxHeartbeats 4000000 in
theorem s_PullBow_yes (x y : Nat → Nat) (nx ny : Nat) (j k : Int) (fk : Int) (a b c p q : Nat) (m o : Nat) (fo : Nat) (hfo : fits .f32 fo) (B : Nat) (s t : Value) (w : World) (hs : (slT x nx).RdN w B s) (ht : (slT y ny).RdN w B t) (wf : (Lit.int .i64 j).wf = true ∧ (Lit.int .i64 k).wf = true) (hf : (fits .f32 a ∧ fits .f32 b ∧ fits .f32 c ∧ fits .f32 p ∧ fits .f32 q ∧ fits .f32 m ∧ fits .f32 o)) (hv : okBow x y nx ny j k fk a b c p q m o = true) (hfi : fin fo = true) :
    Calls Try.prog 35 #[.agg #[s, .int .i64 j, t, .int .i64 k, .int .i64 fk, .float .f32 a, .float .f32 b, .float .f32 c, .float .f32 p, .float .f32 q, .float .f32 m, .float .f32 o], .float .f32 fo] w (OutV_Ti (cdBow x (pullX y fo ny) nx ny j k fk a b c p q m o) 0 w) := by
  obtain ⟨x1, x2, y1, y2, _, _, hk0, _⟩ := okBow_j hv
  have wk0 : (Lit.int .i64 fk).wf = true := by rw [hk0]; decide
  clear hk0
  have HV := hid (fun (g9 : Nat) (w' : World) (hl : le w w') (R : Row w' g9 31 #[s, .int .i64 j, t, .int .i64 k, .int .i64 fk, .float .f32 a, .float .f32 b, .float .f32 c, .float .f32 p, .float .f32 q, .float .f32 m, .float .f32 o]) => hv ▸ s_l05Bow x y nx ny j k fk a b c p q m o B s t w' g9 R (hs.le hl) (ht.le hl) wf hf)
  have HC := hid (fun (g9 : Nat) (w' : World) (hl : le w w') (R : Row w' g9 31 #[s, .int .i64 j, t, .int .i64 k, .int .i64 fk, .float .f32 a, .float .f32 b, .float .f32 c, .float .f32 p, .float .f32 q, .float .f32 m, .float .f32 o]) => s_l05CopyBow x y nx ny j k fk a b c p q m o B s t w' g9 R ((slT_rds hs).le hl) ((slT_rds ht).le hl) ⟨x1, x2⟩ ⟨y1, y2⟩)
  have HFI := hid (fun (w : World) => s_FiniteB fo true w hfi)
  clear hs ht hv hfi
  have F := ((Frg.nil w).box 31 #[s, .int .i64 j, t, .int .i64 k, .int .i64 fk, .float .f32 a, .float .f32 b, .float .f32 c, .float .f32 p, .float .f32 q, .float .f32 m, .float .f32 o]).box 31 #[.slice none 0 0, .int .i64 0, .slice none 0 0, .int .i64 0, .int .i64 0, .float .f32 0, .float .f32 0, .float .f32 0, .float .f32 0, .float .f32 0, .float .f32 0, .float .f32 0]
  simp only [World.size_alloc] at F
  go_enter Try.func35, Try.ntmps35
  go_wp2_with (first | (go_at_call 72; ((with_reducible refine (HV.out _ _ F.below (F.row m1)).mono ?_); rintro e w1 ⟨rfl, hl⟩; replace F := F.le hl; clear hl)) | (go_at_call 57; ((with_reducible refine (HFI.out _).mono ?_); rintro e w8 ⟨rfl, mf, rfl⟩; replace F := F.drewN mf; (try simp only [World.drewN_drewN] at F))) | (go_at_call 73; ((with_reducible refine (HC.out _ _ F.below (F.row m1)).mono ?_); rintro e w2 ⟨s1, t1, rfl, h2, hl⟩; have os := hid (two_one h2).1; have ot := hid (two_one h2).2; replace F := F.two hl h2; clear h2 hl)) | (refine wpList_storeG F rfl rfl rfl rfl rfl uinfoBowI rfl (by simp only [List.all_toArray', List.all_cons, List.all_nil, os.out, ot.out]; rfl) ?_; clear F; intro W3 F zW))
  clear HC HV HFI
  have hgz := (F.row (g := w2.heap.size) m0).lt
  obtain ⟨b0, d0, O1, O2, hne, l1, l2, l3, l4⟩ := (F.facts (twF _ w2.heap.size x nx y ny s1 t1) m1).2.2
  have hlo := (F.facts (twF _ w2.heap.size x nx y ny s1 t1) m1).1
  have hap := (List.pairwise_cons.1 (List.pairwise_cons.1 F.apart).2).1 _ m0
  simp only [twF, rowF, World.heap_drewN] at hap hlo l1 l3
  have O1h := hid O1; have O2h := hid O2
  clear O1 O2
  obtain ⟨b9, o9, cap9, rfl, hc9, hm9, hb9, hb9'⟩ := O2h.out.form y1
  obtain rfl : b9 = d0 := by omega
  unfold maxLen at hm9
  have c2 := (F.row (g := w2.heap.size) m0).cell? 2
  go_wp2_with fail
  clear c2
  go_loopw [7] (fun i wr => ∃ k0 : Nat, k0 ≤ ny ∧ i = .int .i64 k0 ∧ Hid (OwnS wr b9 (b9 + 1) (.slice (some ⟨b9, o9, none⟩) ny cap9) (pullX y fo k0) ny) ∧ Hid (Chg (· = b9) W3 wr)) (fun i _ => ny - (intOf i).toNat)
  case atStart => exact ⟨0, by omega, rfl, by rw [pull_zero]; exact O2h.out, Chg.refl _ _⟩
  case round =>
    obtain ⟨k0, hk0, rfl, HO, HC⟩ := hrel
    have HR1 := hid (HC.out.row (F.row (g := w2.heap.size) m0) (fun e => by have e' : w2.heap.size = b9 := e; omega))
    have HR0 := hid (HC.out.row (F.row (g := w.heap.size + 1) m2) (fun e => by have e' : w.heap.size + 1 = b9 := e; omega))
    have c2 := HR1.out.cell? 2
    by_cases hlt : k0 < ny
    · obtain ⟨yk, c1, f1, fy, ey⟩ := HO.out.at hlt
      have EY : Hid (can .f32 yk = y k0) := by unfold Hid; rw [ey]; simp [pullX]
      have hltI : (k0 : Int) < (ny : Int) := by omega
      clear ey
      go_wp2_with fail
      refine wp_region_tail (fun _ _ v => v = .float .f32 (pullV y fo k0)) 14 (by kernel_rfl) (by kernel_rfl) ?_; simp only [List.take_succ_cons, List.take_zero, List.drop_succ_cons, List.drop_zero]
      repeat (first | (with_reducible refine wpLoose_farith (op := .add) rfl rfl rfl rfl rfl ?_; intro ra hra hfa; simp only [Act.put, List.setIfInBounds_toArray, List.set_cons_succ, List.set_cons_zero]) | (refine wpLoose_quiet rfl ?_; go_big_quiet_step (fail); refine wpQuiet_nil ?_) | (refine wpLoose_nilP rfl rfl rfl ?_; simp only [Act.put, List.setIfInBounds_toArray, List.set_cons_succ, List.set_cons_zero]))
      refine wpLoose_any rfl (· = .float .f32 (pullV y fo k0)) (fun m0 => ?_) ?_
      · go_simp
        refine (s_Kept _ _ hfa.out).mono ?_
        rintro e w9 ⟨rfl, m2, rfl⟩
        exact ⟨_, rfl, by rw [pull_of EY.out hra.out], m0 + m2, by first | (go_simp; done) | (go_simp; rw [Nat.add_assoc])⟩
      rintro v0 rfl
      simp only [Act.put, List.setIfInBounds_toArray, List.set_cons_succ, List.set_cons_zero]
      repeat (refine wpLoose_quiet rfl ?_; go_big_quiet_step (fail); refine wpQuiet_nil ?_)
      refine wpLoose_nil (fun m3 => ?_)
      go_wp2
      go_roundw
      case rel =>
        have hs1 := (HO.out.le (le_drewN _ m3)).set hlt (fits_pull y fo k0)
        rw [pull_step] at hs1
        exact ⟨k0 + 1, by omega, by go_num, hs1.1, (HC.out.le (le_drewN _ m3)).trans (hs1.2.mono (fun i e => by have e1 := e.1; have e2 := e.2; show i = b9; omega))⟩
      case measure => simp [intOf]; omega
    · obtain rfl : k0 = ny := by omega
      go_wp2_with (first | ((with_reducible refine at_loadU rfl rfl ?_); (with_reducible refine wpList_loadDR HR1.out rfl rfl rfl Try.underlying31 rfl uinfoBowI rfl ?_)) | ((with_reducible refine stop_store rfl ?_)))
      show wpList _ _ _ _ _ _
      refine wpList_storeD rfl rfl rfl (cells := #[s1, .int .i64 j, (.slice (some ⟨b9, o9, none⟩) k0 cap9), .int .i64 k, .int .i64 fk, .float .f32 a, .float .f32 b, .float .f32 c, .float .f32 p, .float .f32 q, .float .f32 m, .float .f32 o]) rfl HR0.out uinfoBowI rfl (by simp only [List.all_toArray', List.all_cons, List.all_nil, os.out]; rfl) (fun w9 K => ?_)
      have C := (Chg.refl (· = w.heap.size + 1) _).wrote K rfl
      have zc9 := C.size
      have zh := HC.out.size
      have zf := F.below.size
      have O1 := (O1h.out.chgS HC.out (fun i h1 h2 e => by have e' : i = b9 := e; omega)).chgS C (fun i h1 h2 e => by have e' : i = w.heap.size + 1 := e; omega)
      have O2 := HO.out.chgS C (fun i h1 h2 e => by have e' : i = w.heap.size + 1 := e; omega)
      have R := hid K.row
      have L := hid (Below.trans F.below (Below.trans (HC.out.below (B := w.heap.size) (fun i e => by have e' : i = b9 := e; omega) F.below.size) (C.below (B := w.heap.size) (fun i e => by have e' : i = w.heap.size + 1 := e; omega) (by omega))))
      have LY := hid (layBow x (pullX y fo k0) nx k0 j k fk a b c p q m o (lo := w.heap.size) ⟨b0, b9, O1, O2, hne, by omega, by omega, by omega, by omega⟩ ⟨wf.1, wf.2, wk0⟩ ⟨hf.1, hf.2.1, hf.2.2.1, hf.2.2.2.1, hf.2.2.2.2.1, hf.2.2.2.2.2.1, hf.2.2.2.2.2.2⟩)
      clear K C O1 O2
      go_wp2
      exact bodyPost_ret (results_row2 rfl _ _ _ _ _ rfl R.out Try.underlying31 rfl uinfoBowI) rfl ⟨[s1, .int .i64 j, (.slice (some ⟨b9, o9, none⟩) k0 cap9), .int .i64 k, .int .i64 fk, .float .f32 a, .float .f32 b, .float .f32 c, .float .f32 p, .float .f32 q, .float .f32 m, .float .f32 o], rfl, LY.out, L.out⟩
theorem both_PullBow (cs : List CD) (fo : Nat) (h : HasShL shBow cs) (hfo : fits .f32 fo) : ∃ (ar0 : List CD) (ar1 : Int), ShOkL shBow ar0 ∧ szL ar0 ≤ 1048576 ∧ (∀ (w : World) (B : Nat) (u : List Value), RdLN w B (cs.map CD.cp) u → Calls Try.prog 35 #[.agg u.toArray, .float .f32 fo] w (OutV_Ti ar0 ar1 w)) ∧ (∀ (w : World) (B : Nat) (u : List Value), RdLN w B (cs.map CD.cp) u → Calls Try.prog 36 #[.agg u.toArray, .float .f32 fo] w (OutV_Ti ar0 ar1 w)) := by
  obtain ⟨xs, ys, nx, ny, j, k, fk, a, b, c, p, q, m, o, rfl, hx, hy⟩ := bow_data h
  cases hv : okBow (fun i => (xs i).fx) (fun i => (ys i).fx) nx ny j k fk a b c p q m o
  · refine ⟨cdBow (fun _ => 0) (fun _ => 0) 0 0 0 0 0 0 0 0 0 0 0 0, 1, cdBow_sh _ _ _ _ _ _ _ _ _ _ _ _ _ _, by rw [cdBow_sz]; omega, fun w B u hu => ?_, fun w B u hu => ?_⟩
    · obtain ⟨s, t, rfl, hs, ht, wf, hf⟩ := bow_open hu hx hy
      exact s_PullBow_no (fun i => (xs i).fx) (fun i => (ys i).fx) nx ny j k fk a b c p q m o fo hfo B s t w hs ht wf hf hv
    · obtain ⟨s, t, rfl, hs, ht, wf, hf⟩ := bow_open hu hx hy
      exact i_PullBow_no (fun i => (xs i).fx) (fun i => (ys i).fx) nx ny j k fk a b c p q m o fo hfo B s t w hs ht wf hf hv
  · cases hfi : fin fo
    · refine ⟨cdBow (fun _ => 0) (fun _ => 0) 0 0 0 0 0 0 0 0 0 0 0 0, 2, cdBow_sh _ _ _ _ _ _ _ _ _ _ _ _ _ _, by rw [cdBow_sz]; omega, fun w B u hu => ?_, fun w B u hu => ?_⟩
      · obtain ⟨s, t, rfl, hs, ht, wf, hf⟩ := bow_open hu hx hy
        exact s_PullBow_inf (fun i => (xs i).fx) (fun i => (ys i).fx) nx ny j k fk a b c p q m o fo hfo B s t w hs ht wf hf hv hfi
      · obtain ⟨s, t, rfl, hs, ht, wf, hf⟩ := bow_open hu hx hy
        exact i_PullBow_inf (fun i => (xs i).fx) (fun i => (ys i).fx) nx ny j k fk a b c p q m o fo hfo B s t w hs ht wf hf hv hfi
    · obtain ⟨z1, z2, z3, z4, _⟩ := okBow_j hv
      refine ⟨cdBow (fun i => (xs i).fx) (pullX (fun i => (ys i).fx) fo ny) nx ny j k fk a b c p q m o, 0, cdBow_sh _ _ _ _ _ _ _ _ _ _ _ _ _ _, by rw [cdBow_sz]; omega, fun w B u hu => ?_, fun w B u hu => ?_⟩
      · obtain ⟨s, t, rfl, hs, ht, wf, hf⟩ := bow_open hu hx hy
        exact s_PullBow_yes (fun i => (xs i).fx) (fun i => (ys i).fx) nx ny j k fk a b c p q m o fo hfo B s t w hs ht wf hf hv hfi
      · obtain ⟨s, t, rfl, hs, ht, wf, hf⟩ := bow_open hu hx hy
        exact i_PullBow_yes (fun i => (xs i).fx) (fun i => (ys i).fx) nx ny j k fk a b c p q m o fo hfo B s t w hs ht wf hf hv hfi
end Go.Proofs.Ytgjdmoenobacgaa

/- The walk of 'FnExactPullBow'. -/
namespace Go.Proofs.Ytgjdmoenobacgaa.fnExactPullBow
open Go.RowKit Go.Fk
set_option maxRecDepth 100000 in
set_option maxHeartbeats 4000000 in
theorem core (cs0 : List CD) (vs0 : List Value) (a1 : Nat) (ar0 : List CD) (ar1 : Int) (w : World) (z0 : RdL w w.heap.size cs0 vs0) (k0 : ShOkL shBow cs0) (hz0 : szL cs0 ≤ 1048576) (kr : ShOkL shBow ar0) (hzr : szL ar0 ≤ 1048576)
    (hS : ∀ (w : World) (B0 : Nat) (u0 : List Value), RdLN w B0 (cs0.map CD.cp) u0 → Calls Try.prog 35 #[.agg u0.toArray, .float .f32 a1] w (OutV_Ti ar0 ar1 w))
    (hI : ∀ (w : World) (B0 : Nat) (u0 : List Value), RdLN w B0 (cs0.map CD.cp) u0 → Calls Try.prog 36 #[.agg u0.toArray, .float .f32 a1] w (OutV_Ti ar0 ar1 w)) :
    Calls Try.prog 7 #[.agg vs0.toArray, .float .f32 a1] w fun e w' => e = .returned (.bool true) ∧ Below w.heap.size w w' := by
  have Z0 := hid z0; have K0 := hid k0; have hl0 : Hid (vs0.length = 12) := z0.1.trans k0.1; have hma0 : mtL (cs0.map CD.cp) ≤ 1048576 := (mtL_cp _).trans (mtU_Bow k0) ▸ hz0; clear z0 k0
  have hm0 : ¬ (1048576 : Int) - (szL cs0 : Nat) < 0 := by omega
  have hmr : mtL ar0 ≤ 1048576 := mtU_Bow kr ▸ hzr
  have KR := hid kr; clear kr
  obtain ⟨na0, hna0⟩ : ∃ a : Nat, a = mtL (cs0.map CD.cp) := ⟨_, rfl⟩
  obtain ⟨nb0, hnb0⟩ : ∃ a : Nat, a = mtL ar0 := ⟨_, rfl⟩
  rw [← hna0] at hma0
  rw [← hnb0] at hmr
  have hq : decide ((1 : Int) + (na0 : Int) < 0) = false := by simp; omega
  have hq2 : ¬ ((1 : Int) + (nb0 : Int) < 0) := by omega
  have HN0 := hid hna0; clear hna0
  have HB0 := hid hnb0; clear hnb0
  have HS := hid hS; have HI := hid hI; clear hS hI
  have F := Frg.nil w
  replace F := F.box 40 vs0.toArray
  go_enter Try.func7, Try.ntmps7
  go_wp2_with (first | (((with_reducible refine listN F ?_); clear F; intro wN F)) | ((with_reducible refine at_loadU rfl rfl ?_); first | (with_reducible refine wpList_loadG F rfl rfl rfl (by first | exact m0 | exact m1 | exact m2 | exact m3 | exact m4 | exact m5 | exact m6 | exact m7 | exact m8 | exact m9 | exact m10 | exact m11 | exact m12 | exact m13 | exact m14 | exact m15 | exact m16 | exact m17) Try.underlying31 rfl uinfoBowI (by simp only [List.size_toArray]; first | exact hl0.out | exact huA0.out | exact huB0.out | exact huC0.out | exact huS.out | exact huI.out | exact huH.out) ?_) | (with_reducible refine wpList_loadG F rfl rfl rfl (by first | exact m0 | exact m1 | exact m2 | exact m3 | exact m4 | exact m5 | exact m6 | exact m7 | exact m8 | exact m9 | exact m10 | exact m11 | exact m12 | exact m13 | exact m14 | exact m15 | exact m16 | exact m17) Try.underlying40 rfl uinfoBowL (by simp only [List.size_toArray]; first | exact hl0.out | exact huA0.out | exact huB0.out | exact huC0.out | exact huS.out | exact huI.out | exact huH.out) ?_)) | ((with_reducible refine at_loadV rfl rfl ?_); first | (with_reducible refine wpList_loadGG F rfl rfl (by first | exact m0 | exact m1 | exact m2 | exact m3 | exact m4 | exact m5 | exact m6 | exact m7 | exact m8 | exact m9 | exact m10 | exact m11 | exact m12 | exact m13 | exact m14 | exact m15 | exact m16 | exact m17) Try.underlying31 rfl uinfoBowI (by simp only [List.size_toArray]; first | exact hl0.out | exact huA0.out | exact huB0.out | exact huC0.out | exact huS.out | exact huI.out | exact huH.out) (by kernel_rfl) ?_)) | (go_at_call 20; ((with_reducible refine (szU_Bow _ cs0 vs0 (1048576 : Int) ((1048576 : Int) - (szL cs0 : Nat)) _ (Z0.out.le F.below) K0.out (by omega) (by omega) (lessBy_pos hm0)).mono ?_); rintro e w1 ⟨rfl, hb1⟩; replace F := F.le hb1)) | (go_at_call 22; ((with_reducible refine (toU_Bow _ cs0 vs0 _ (Z0.out.le F.below) K0.out hz0).mono ?_); rintro e w1 ⟨usA0, rfl, ho, hl⟩; have huA0 : Hid (usA0.length = 12) := ho.1.trans ((List.length_map ..).trans K0.out.1); have hoA0 := hid ho.all_one; replace F := F.lay1 hl ho; clear ho hl)))
  first | ((with_reducible refine callAt0 F ?_); clear F; intro wN F) | ((with_reducible refine callAtN F ?_); clear F; intro wN F)
  refine (HS.out _ _ _ (F.layN (by first | exact m0 | exact m1 | exact m2 | exact m3 | exact m4 | exact m5 | exact m6 | exact m7 | exact m8 | exact m9 | exact m10 | exact m11 | exact m12 | exact m13 | exact m14 | exact m15 | exact m16 | exact m17))).mono ?_
  rintro e wS ⟨usS, rfl, oTS, hlS⟩
  have huS : Hid (usS.length = 12) := oTS.1.trans KR.out.1
  have hoS := hid oTS.all_one
  replace F := F.lay1 hlS oTS
  clear hlS oTS
  go_wp2_with (first | (((with_reducible refine listN F ?_); clear F; intro wN F)) | ((with_reducible refine at_store rfl ?_); first | (refine wpList_storeG F rfl rfl rfl rfl rfl (by simp only [List.size_toArray]; rw [huB0.out]; exact uinfoBowI) (by simp only [List.size_toArray]; rw [huB0.out]; rfl) (by exact hoB0.out) ?_; clear F; intro W F zW; clear zW) | (refine wpList_storeG F rfl rfl rfl rfl rfl (by simp only [List.size_toArray]; rw [huS.out]; exact uinfoBowI) (by simp only [List.size_toArray]; rw [huS.out]; rfl) (by exact hoS.out) ?_; clear F; intro W F zW; clear zW) | (refine wpList_storeG F rfl rfl rfl rfl rfl (by simp only [List.size_toArray]; rw [huI.out]; exact uinfoBowI) (by simp only [List.size_toArray]; rw [huI.out]; rfl) (by exact hoI.out) ?_; clear F; intro W F zW; clear zW) | (refine wpList_storeG F rfl rfl rfl rfl rfl (by simp only [List.size_toArray]; rw [huH.out]; exact uinfoBowI) (by simp only [List.size_toArray]; rw [huH.out]; rfl) (by exact hoH.out) ?_; clear F; intro W F zW; clear zW) | (refine wpList_storeG F rfl rfl rfl rfl rfl (by simp only [List.size_toArray]; rw [huA0.out]; exact uinfoBowI) (by simp only [List.size_toArray]; rw [huA0.out]; rfl) (by exact hoA0.out) ?_; clear F; intro W F zW; clear zW)) | ((with_reducible refine at_loadU rfl rfl ?_); first | (with_reducible refine wpList_loadG F rfl rfl rfl (by first | exact m0 | exact m1 | exact m2 | exact m3 | exact m4 | exact m5 | exact m6 | exact m7 | exact m8 | exact m9 | exact m10 | exact m11 | exact m12 | exact m13 | exact m14 | exact m15 | exact m16 | exact m17) Try.underlying31 rfl uinfoBowI (by simp only [List.size_toArray]; first | exact hl0.out | exact huA0.out | exact huB0.out | exact huC0.out | exact huS.out | exact huI.out | exact huH.out) ?_) | (with_reducible refine wpList_loadG F rfl rfl rfl (by first | exact m0 | exact m1 | exact m2 | exact m3 | exact m4 | exact m5 | exact m6 | exact m7 | exact m8 | exact m9 | exact m10 | exact m11 | exact m12 | exact m13 | exact m14 | exact m15 | exact m16 | exact m17) Try.underlying40 rfl uinfoBowL (by simp only [List.size_toArray]; first | exact hl0.out | exact huA0.out | exact huB0.out | exact huC0.out | exact huS.out | exact huI.out | exact huH.out) ?_)) | ((with_reducible refine at_loadV rfl rfl ?_); first | (with_reducible refine wpList_loadGG F rfl rfl (by first | exact m0 | exact m1 | exact m2 | exact m3 | exact m4 | exact m5 | exact m6 | exact m7 | exact m8 | exact m9 | exact m10 | exact m11 | exact m12 | exact m13 | exact m14 | exact m15 | exact m16 | exact m17) Try.underlying31 rfl uinfoBowI (by simp only [List.size_toArray]; first | exact hl0.out | exact huA0.out | exact huB0.out | exact huC0.out | exact huS.out | exact huI.out | exact huH.out) (by kernel_rfl) ?_)) | (go_at_call 22; ((with_reducible refine (toU_Bow _ cs0 vs0 _ (Z0.out.le F.below) K0.out hz0).mono ?_); rintro e w1 ⟨usB0, rfl, ho, hl⟩; have huB0 : Hid (usB0.length = 12) := ho.1.trans ((List.length_map ..).trans K0.out.1); have hoB0 := hid ho.all_one; replace F := F.lay1 hl ho; clear ho hl)))
  first | ((with_reducible refine callAt0 F ?_); clear F; intro wN F) | ((with_reducible refine callAtN F ?_); clear F; intro wN F)
  refine (HI.out _ _ _ (F.layN (by first | exact m0 | exact m1 | exact m2 | exact m3 | exact m4 | exact m5 | exact m6 | exact m7 | exact m8 | exact m9 | exact m10 | exact m11 | exact m12 | exact m13 | exact m14 | exact m15 | exact m16 | exact m17))).mono ?_
  rintro e wI ⟨usI, rfl, oTI, hlI⟩
  have huI : Hid (usI.length = 12) := oTI.1.trans KR.out.1
  have hoI := hid oTI.all_one
  replace F := F.lay1 hlI oTI
  clear hlI oTI
  go_wp2_with (first | (((with_reducible refine listN F ?_); clear F; intro wN F)) | ((with_reducible refine at_store rfl ?_); first | (refine wpList_storeG F rfl rfl rfl rfl rfl (by simp only [List.size_toArray]; rw [huB0.out]; exact uinfoBowI) (by simp only [List.size_toArray]; rw [huB0.out]; rfl) (by exact hoB0.out) ?_; clear F; intro W F zW; clear zW) | (refine wpList_storeG F rfl rfl rfl rfl rfl (by simp only [List.size_toArray]; rw [huS.out]; exact uinfoBowI) (by simp only [List.size_toArray]; rw [huS.out]; rfl) (by exact hoS.out) ?_; clear F; intro W F zW; clear zW) | (refine wpList_storeG F rfl rfl rfl rfl rfl (by simp only [List.size_toArray]; rw [huI.out]; exact uinfoBowI) (by simp only [List.size_toArray]; rw [huI.out]; rfl) (by exact hoI.out) ?_; clear F; intro W F zW; clear zW) | (refine wpList_storeG F rfl rfl rfl rfl rfl (by simp only [List.size_toArray]; rw [huH.out]; exact uinfoBowI) (by simp only [List.size_toArray]; rw [huH.out]; rfl) (by exact hoH.out) ?_; clear F; intro W F zW; clear zW) | (refine wpList_storeG F rfl rfl rfl rfl rfl (by simp only [List.size_toArray]; rw [huA0.out]; exact uinfoBowI) (by simp only [List.size_toArray]; rw [huA0.out]; rfl) (by exact hoA0.out) ?_; clear F; intro W F zW; clear zW)) | ((with_reducible refine at_loadU rfl rfl ?_); first | (with_reducible refine wpList_loadG F rfl rfl rfl (by first | exact m0 | exact m1 | exact m2 | exact m3 | exact m4 | exact m5 | exact m6 | exact m7 | exact m8 | exact m9 | exact m10 | exact m11 | exact m12 | exact m13 | exact m14 | exact m15 | exact m16 | exact m17) Try.underlying31 rfl uinfoBowI (by simp only [List.size_toArray]; first | exact hl0.out | exact huA0.out | exact huB0.out | exact huC0.out | exact huS.out | exact huI.out | exact huH.out) ?_) | (with_reducible refine wpList_loadG F rfl rfl rfl (by first | exact m0 | exact m1 | exact m2 | exact m3 | exact m4 | exact m5 | exact m6 | exact m7 | exact m8 | exact m9 | exact m10 | exact m11 | exact m12 | exact m13 | exact m14 | exact m15 | exact m16 | exact m17) Try.underlying40 rfl uinfoBowL (by simp only [List.size_toArray]; first | exact hl0.out | exact huA0.out | exact huB0.out | exact huC0.out | exact huS.out | exact huI.out | exact huH.out) ?_)) | ((with_reducible refine at_loadV rfl rfl ?_); first | (with_reducible refine wpList_loadGG F rfl rfl (by first | exact m0 | exact m1 | exact m2 | exact m3 | exact m4 | exact m5 | exact m6 | exact m7 | exact m8 | exact m9 | exact m10 | exact m11 | exact m12 | exact m13 | exact m14 | exact m15 | exact m16 | exact m17) Try.underlying31 rfl uinfoBowI (by simp only [List.size_toArray]; first | exact hl0.out | exact huA0.out | exact huB0.out | exact huC0.out | exact huS.out | exact huI.out | exact huH.out) (by kernel_rfl) ?_)) | (go_at_call 17; ((with_reducible refine (eqU_Bow _ _ ar0 _ _ _ (F.layR (by first | exact m0 | exact m1 | exact m2 | exact m3 | exact m4 | exact m5 | exact m6 | exact m7 | exact m8 | exact m9 | exact m10 | exact m11 | exact m12 | exact m13 | exact m14 | exact m15 | exact m16 | exact m17)) (F.layR (by first | exact m0 | exact m1 | exact m2 | exact m3 | exact m4 | exact m5 | exact m6 | exact m7 | exact m8 | exact m9 | exact m10 | exact m11 | exact m12 | exact m13 | exact m14 | exact m15 | exact m16 | exact m17)) KR.out hzr).mono ?_); rintro e w7 ⟨rfl, hb7⟩; replace F := F.le hb7)))
  first | (refine wpAt0 F ?_; clear F; intro wN F) | (refine wpAtN F ?_; clear F; intro wN F)
  refine region_freeD (E := leX) (fun f _ w v => if f = 22 then ∃ (us : List Value) (B : Nat), v = .agg us.toArray ∧ RdL w B (cs0.map CD.cp) us else v = .bool true) (by kernel_rfl) (by kernel_rfl) ?_
  refine wpFreeD_loadG F rfl rfl rfl rfl (by first | exact m0 | exact m1 | exact m2 | exact m3 | exact m4 | exact m5 | exact m6 | exact m7 | exact m8 | exact m9 | exact m10 | exact m11 | exact m12 | exact m13 | exact m14 | exact m15 | exact m16 | exact m17) Try.underlying31 rfl uinfoBowI (by simp only [List.size_toArray]; exact huB0.out) ?_
  simp only [Act.put, List.setIfInBounds_toArray, List.set_cons_succ, List.set_cons_zero]
  refine wpFreeD_loadG F rfl rfl rfl rfl (by first | exact m0 | exact m1 | exact m2 | exact m3 | exact m4 | exact m5 | exact m6 | exact m7 | exact m8 | exact m9 | exact m10 | exact m11 | exact m12 | exact m13 | exact m14 | exact m15 | exact m16 | exact m17) Try.underlying40 rfl uinfoBowL (by simp only [List.size_toArray]; exact hl0.out) ?_
  simp only [Act.put, List.setIfInBounds_toArray, List.set_cons_succ, List.set_cons_zero]
  refine wpFreeD_callB rfl rfl Try.func22 (by kernel_rfl) (by kernel_rfl) (args := #[.agg vs0.toArray]) (by simp [Act.eval]) (fun v w1 w2 hw hv => by simp only [if_true] at hv ⊢; obtain ⟨u, B, h1, h2⟩ := hv; exact ⟨u, B, h1, h2.le hw⟩) (fun w1 hw1 _ => (toU_Bow _ cs0 vs0 w1 (Z0.out.le (le_trans (F.drewN _).below hw1)) K0.out hz0).mono ?_) ?_
  · rintro e w2 ⟨u, rfl, ho, hl⟩
    exact ⟨_, rfl, hl, by simp only [if_true]; exact ⟨u, _, rfl, ho.rd (fun _ hj => hj.2)⟩⟩
  rintro v ⟨_, _, _, hv⟩
  simp only [if_true] at hv
  obtain ⟨u0, Bu0, rfl, _⟩ := hv
  simp only [Act.put, List.setIfInBounds_toArray, List.set_cons_succ, List.set_cons_zero]
  refine wpFreeD_callB rfl rfl Try.func17 (by kernel_rfl) (by kernel_rfl) (args := #[.agg usB0.toArray, .agg u0.toArray]) (by simp [Act.eval]) (fun v w1 w2 hw hv => by simp only [show ¬ (17 = 22) by decide, if_false] at hv ⊢; exact hv) (fun w1 hw1 hbe => ?_) ?_
  · have hk := (hbe ⟨2, Ground.data⟩ (by simp) (by kernel_rfl)).2 rfl
    simp only [if_true] at hk
    obtain ⟨u', B', he, hr⟩ := hk
    obtain rfl : u0 = u' := by simpa using he
    refine (eqU_Bow _ _ (cs0.map CD.cp) _ _ _ (((F.drewN 1).le hw1).layR (by first | exact m0 | exact m1 | exact m2 | exact m3 | exact m4 | exact m5 | exact m6 | exact m7 | exact m8 | exact m9 | exact m10 | exact m11 | exact m12 | exact m13 | exact m14 | exact m15 | exact m16 | exact m17)) hr K0.out.cp (by rw [szL_cp]; exact hz0)).mono ?_
    rintro e w2 ⟨rfl, hl⟩
    exact ⟨_, rfl, hl, by simp only [show ¬ (17 = 22) by decide, if_false]⟩
  rintro v ⟨_, _, _, hv⟩
  simp only [show ¬ (17 = 22) by decide, if_false] at hv
  subst hv
  simp only [Act.put, List.setIfInBounds_toArray, List.set_cons_succ, List.set_cons_zero]
  refine wpFreeD_one rfl (.bool false) (fun w1 _ => by kernel_rfl) ?_
  simp only [Act.put, List.setIfInBounds_toArray, List.set_cons_succ, List.set_cons_zero]
  refine wpFreeD_nil (fun wR hwR _ => ?_)
  replace F := (F.drewN 1).le hwR
  clear hwR
  go_wp2_with (first | (((with_reducible refine listN F ?_); clear F; intro wN F)) | ((with_reducible refine at_loadU rfl rfl ?_); first | (with_reducible refine wpList_loadG F rfl rfl rfl (by first | exact m0 | exact m1 | exact m2 | exact m3 | exact m4 | exact m5 | exact m6 | exact m7 | exact m8 | exact m9 | exact m10 | exact m11 | exact m12 | exact m13 | exact m14 | exact m15 | exact m16 | exact m17) Try.underlying31 rfl uinfoBowI (by simp only [List.size_toArray]; first | exact hl0.out | exact huA0.out | exact huB0.out | exact huC0.out | exact huS.out | exact huI.out | exact huH.out) ?_) | (with_reducible refine wpList_loadG F rfl rfl rfl (by first | exact m0 | exact m1 | exact m2 | exact m3 | exact m4 | exact m5 | exact m6 | exact m7 | exact m8 | exact m9 | exact m10 | exact m11 | exact m12 | exact m13 | exact m14 | exact m15 | exact m16 | exact m17) Try.underlying40 rfl uinfoBowL (by simp only [List.size_toArray]; first | exact hl0.out | exact huA0.out | exact huB0.out | exact huC0.out | exact huS.out | exact huI.out | exact huH.out) ?_)) | ((with_reducible refine at_loadV rfl rfl ?_); first | (with_reducible refine wpList_loadGG F rfl rfl (by first | exact m0 | exact m1 | exact m2 | exact m3 | exact m4 | exact m5 | exact m6 | exact m7 | exact m8 | exact m9 | exact m10 | exact m11 | exact m12 | exact m13 | exact m14 | exact m15 | exact m16 | exact m17) Try.underlying31 rfl uinfoBowI (by simp only [List.size_toArray]; first | exact hl0.out | exact huA0.out | exact huB0.out | exact huC0.out | exact huS.out | exact huI.out | exact huH.out) (by kernel_rfl) ?_)))
  first | ((with_reducible refine callAt0 F ?_); clear F; intro wN F) | ((with_reducible refine callAtN F ?_); clear F; intro wN F)
  refine (markU_Bow _ _ _ (1 : Int) _ K0.out.cp (by rw [← HN0.out]; exact hma0) (by omega) (by rw [← HN0.out]; omega) (F.lay (by first | exact m0 | exact m1 | exact m2 | exact m3 | exact m4 | exact m5 | exact m6 | exact m7 | exact m8 | exact m9 | exact m10 | exact m11 | exact m12 | exact m13 | exact m14 | exact m15 | exact m16 | exact m17))).mono ?_
  rintro e w4 ⟨rfl, hR, hU⟩
  rw [← HN0.out]
  (first | replace F := F.markAt 0 hR hU rfl | replace F := F.markAt 1 hR hU rfl | replace F := F.markAt 2 hR hU rfl | replace F := F.markAt 3 hR hU rfl | replace F := F.markAt 4 hR hU rfl | replace F := F.markAt 5 hR hU rfl | replace F := F.markAt 6 hR hU rfl | replace F := F.markAt 7 hR hU rfl | replace F := F.markAt 8 hR hU rfl | replace F := F.markAt 9 hR hU rfl | replace F := F.markAt 10 hR hU rfl | replace F := F.markAt 11 hR hU rfl | replace F := F.markAt 12 hR hU rfl | replace F := F.markAt 13 hR hU rfl | replace F := F.markAt 14 hR hU rfl | replace F := F.markAt 15 hR hU rfl | replace F := F.markAt 16 hR hU rfl | replace F := F.markAt 17 hR hU rfl)
  simp only [List.set_cons_succ, List.set_cons_zero] at F
  clear hR hU
  go_wp2_with (first | (((with_reducible refine listN F ?_); clear F; intro wN F)) | ((with_reducible refine at_store rfl ?_); first | (refine wpList_storeG F rfl rfl rfl rfl rfl (by simp only [List.size_toArray]; rw [huB0.out]; exact uinfoBowI) (by simp only [List.size_toArray]; rw [huB0.out]; rfl) (by exact hoB0.out) ?_; clear F; intro W F zW; clear zW) | (refine wpList_storeG F rfl rfl rfl rfl rfl (by simp only [List.size_toArray]; rw [huS.out]; exact uinfoBowI) (by simp only [List.size_toArray]; rw [huS.out]; rfl) (by exact hoS.out) ?_; clear F; intro W F zW; clear zW) | (refine wpList_storeG F rfl rfl rfl rfl rfl (by simp only [List.size_toArray]; rw [huI.out]; exact uinfoBowI) (by simp only [List.size_toArray]; rw [huI.out]; rfl) (by exact hoI.out) ?_; clear F; intro W F zW; clear zW) | (refine wpList_storeG F rfl rfl rfl rfl rfl (by simp only [List.size_toArray]; rw [huH.out]; exact uinfoBowI) (by simp only [List.size_toArray]; rw [huH.out]; rfl) (by exact hoH.out) ?_; clear F; intro W F zW; clear zW) | (refine wpList_storeG F rfl rfl rfl rfl rfl (by simp only [List.size_toArray]; rw [huA0.out]; exact uinfoBowI) (by simp only [List.size_toArray]; rw [huA0.out]; rfl) (by exact hoA0.out) ?_; clear F; intro W F zW; clear zW)) | ((with_reducible refine at_loadU rfl rfl ?_); first | (with_reducible refine wpList_loadG F rfl rfl rfl (by first | exact m0 | exact m1 | exact m2 | exact m3 | exact m4 | exact m5 | exact m6 | exact m7 | exact m8 | exact m9 | exact m10 | exact m11 | exact m12 | exact m13 | exact m14 | exact m15 | exact m16 | exact m17) Try.underlying31 rfl uinfoBowI (by simp only [List.size_toArray]; first | exact hl0.out | exact huA0.out | exact huB0.out | exact huC0.out | exact huS.out | exact huI.out | exact huH.out) ?_) | (with_reducible refine wpList_loadG F rfl rfl rfl (by first | exact m0 | exact m1 | exact m2 | exact m3 | exact m4 | exact m5 | exact m6 | exact m7 | exact m8 | exact m9 | exact m10 | exact m11 | exact m12 | exact m13 | exact m14 | exact m15 | exact m16 | exact m17) Try.underlying40 rfl uinfoBowL (by simp only [List.size_toArray]; first | exact hl0.out | exact huA0.out | exact huB0.out | exact huC0.out | exact huS.out | exact huI.out | exact huH.out) ?_)) | ((with_reducible refine at_loadV rfl rfl ?_); first | (with_reducible refine wpList_loadGG F rfl rfl (by first | exact m0 | exact m1 | exact m2 | exact m3 | exact m4 | exact m5 | exact m6 | exact m7 | exact m8 | exact m9 | exact m10 | exact m11 | exact m12 | exact m13 | exact m14 | exact m15 | exact m16 | exact m17) Try.underlying31 rfl uinfoBowI (by simp only [List.size_toArray]; first | exact hl0.out | exact huA0.out | exact huB0.out | exact huC0.out | exact huS.out | exact huI.out | exact huH.out) (by kernel_rfl) ?_)) | (go_at_call 17; ((with_reducible refine (eqU_Bow _ _ ar0 _ _ _ (F.layR (by first | exact m0 | exact m1 | exact m2 | exact m3 | exact m4 | exact m5 | exact m6 | exact m7 | exact m8 | exact m9 | exact m10 | exact m11 | exact m12 | exact m13 | exact m14 | exact m15 | exact m16 | exact m17)) (F.layR (by first | exact m0 | exact m1 | exact m2 | exact m3 | exact m4 | exact m5 | exact m6 | exact m7 | exact m8 | exact m9 | exact m10 | exact m11 | exact m12 | exact m13 | exact m14 | exact m15 | exact m16 | exact m17)) KR.out hzr).mono ?_); rintro e w7 ⟨rfl, hb7⟩; replace F := F.le hb7)))
  first | ((with_reducible refine callAt0 F ?_); clear F; intro wN F) | ((with_reducible refine callAtN F ?_); clear F; intro wN F)
  refine (markU_Bow _ _ _ (1 : Int) _ KR.out (by rw [← HB0.out]; exact hmr) (by omega) (by rw [← HB0.out]; omega) (F.lay (by first | exact m0 | exact m1 | exact m2 | exact m3 | exact m4 | exact m5 | exact m6 | exact m7 | exact m8 | exact m9 | exact m10 | exact m11 | exact m12 | exact m13 | exact m14 | exact m15 | exact m16 | exact m17))).mono ?_
  rintro e w5 ⟨rfl, hR, hU⟩
  rw [← HB0.out]
  (first | replace F := F.markAt 0 hR hU rfl | replace F := F.markAt 1 hR hU rfl | replace F := F.markAt 2 hR hU rfl | replace F := F.markAt 3 hR hU rfl | replace F := F.markAt 4 hR hU rfl | replace F := F.markAt 5 hR hU rfl | replace F := F.markAt 6 hR hU rfl | replace F := F.markAt 7 hR hU rfl | replace F := F.markAt 8 hR hU rfl | replace F := F.markAt 9 hR hU rfl | replace F := F.markAt 10 hR hU rfl | replace F := F.markAt 11 hR hU rfl | replace F := F.markAt 12 hR hU rfl | replace F := F.markAt 13 hR hU rfl | replace F := F.markAt 14 hR hU rfl | replace F := F.markAt 15 hR hU rfl | replace F := F.markAt 16 hR hU rfl | replace F := F.markAt 17 hR hU rfl)
  simp only [List.set_cons_succ, List.set_cons_zero] at F
  clear hR hU
  go_wp2_with (first | (((with_reducible refine listN F ?_); clear F; intro wN F)) | ((with_reducible refine at_loadU rfl rfl ?_); first | (with_reducible refine wpList_loadG F rfl rfl rfl (by first | exact m0 | exact m1 | exact m2 | exact m3 | exact m4 | exact m5 | exact m6 | exact m7 | exact m8 | exact m9 | exact m10 | exact m11 | exact m12 | exact m13 | exact m14 | exact m15 | exact m16 | exact m17) Try.underlying31 rfl uinfoBowI (by simp only [List.size_toArray]; first | exact hl0.out | exact huA0.out | exact huB0.out | exact huC0.out | exact huS.out | exact huI.out | exact huH.out) ?_) | (with_reducible refine wpList_loadG F rfl rfl rfl (by first | exact m0 | exact m1 | exact m2 | exact m3 | exact m4 | exact m5 | exact m6 | exact m7 | exact m8 | exact m9 | exact m10 | exact m11 | exact m12 | exact m13 | exact m14 | exact m15 | exact m16 | exact m17) Try.underlying40 rfl uinfoBowL (by simp only [List.size_toArray]; first | exact hl0.out | exact huA0.out | exact huB0.out | exact huC0.out | exact huS.out | exact huI.out | exact huH.out) ?_)) | ((with_reducible refine at_loadV rfl rfl ?_); first | (with_reducible refine wpList_loadGG F rfl rfl (by first | exact m0 | exact m1 | exact m2 | exact m3 | exact m4 | exact m5 | exact m6 | exact m7 | exact m8 | exact m9 | exact m10 | exact m11 | exact m12 | exact m13 | exact m14 | exact m15 | exact m16 | exact m17) Try.underlying31 rfl uinfoBowI (by simp only [List.size_toArray]; first | exact hl0.out | exact huA0.out | exact huB0.out | exact huC0.out | exact huS.out | exact huI.out | exact huH.out) (by kernel_rfl) ?_)) | (go_at_call 19; ((with_reducible refine (heldU_Bow _ ar0 _ (1 : Int) _ KR.out (by rw [← HB0.out]; exact hmr) (by omega) (by rw [← HB0.out]; omega) (F.layR (by first | exact m0 | exact m1 | exact m2 | exact m3 | exact m4 | exact m5 | exact m6 | exact m7 | exact m8 | exact m9 | exact m10 | exact m11 | exact m12 | exact m13 | exact m14 | exact m15 | exact m16 | exact m17))).mono ?_); rintro e w6 ⟨rfl, hb6⟩; rw [← HB0.out]; replace F := F.le hb6)) | (go_at_call 22; ((with_reducible refine (toU_Bow _ cs0 vs0 _ (Z0.out.le F.below) K0.out hz0).mono ?_); rintro e w1 ⟨usC0, rfl, ho, hl⟩; have huC0 : Hid (usC0.length = 12) := ho.1.trans ((List.length_map ..).trans K0.out.1); have hoC0 := hid ho.all_one; replace F := F.lay1 hl ho; clear ho hl)))
  first | ((with_reducible refine callAt0 F ?_); clear F; intro wN F) | ((with_reducible refine callAtN F ?_); clear F; intro wN F)
  refine (HI.out _ _ _ (F.layN (by first | exact m0 | exact m1 | exact m2 | exact m3 | exact m4 | exact m5 | exact m6 | exact m7 | exact m8 | exact m9 | exact m10 | exact m11 | exact m12 | exact m13 | exact m14 | exact m15 | exact m16 | exact m17))).mono ?_
  rintro e wH ⟨usH, rfl, oTH, hlH⟩
  have huH : Hid (usH.length = 12) := oTH.1.trans KR.out.1
  have hoH := hid oTH.all_one
  replace F := F.lay1 hlH oTH
  clear hlH oTH
  go_wp2_with (first | (((with_reducible refine listN F ?_); clear F; intro wN F)) | ((with_reducible refine at_store rfl ?_); first | (refine wpList_storeG F rfl rfl rfl rfl rfl (by simp only [List.size_toArray]; rw [huB0.out]; exact uinfoBowI) (by simp only [List.size_toArray]; rw [huB0.out]; rfl) (by exact hoB0.out) ?_; clear F; intro W F zW; clear zW) | (refine wpList_storeG F rfl rfl rfl rfl rfl (by simp only [List.size_toArray]; rw [huS.out]; exact uinfoBowI) (by simp only [List.size_toArray]; rw [huS.out]; rfl) (by exact hoS.out) ?_; clear F; intro W F zW; clear zW) | (refine wpList_storeG F rfl rfl rfl rfl rfl (by simp only [List.size_toArray]; rw [huI.out]; exact uinfoBowI) (by simp only [List.size_toArray]; rw [huI.out]; rfl) (by exact hoI.out) ?_; clear F; intro W F zW; clear zW) | (refine wpList_storeG F rfl rfl rfl rfl rfl (by simp only [List.size_toArray]; rw [huH.out]; exact uinfoBowI) (by simp only [List.size_toArray]; rw [huH.out]; rfl) (by exact hoH.out) ?_; clear F; intro W F zW; clear zW) | (refine wpList_storeG F rfl rfl rfl rfl rfl (by simp only [List.size_toArray]; rw [huA0.out]; exact uinfoBowI) (by simp only [List.size_toArray]; rw [huA0.out]; rfl) (by exact hoA0.out) ?_; clear F; intro W F zW; clear zW)) | ((with_reducible refine at_loadU rfl rfl ?_); first | (with_reducible refine wpList_loadG F rfl rfl rfl (by first | exact m0 | exact m1 | exact m2 | exact m3 | exact m4 | exact m5 | exact m6 | exact m7 | exact m8 | exact m9 | exact m10 | exact m11 | exact m12 | exact m13 | exact m14 | exact m15 | exact m16 | exact m17) Try.underlying31 rfl uinfoBowI (by simp only [List.size_toArray]; first | exact hl0.out | exact huA0.out | exact huB0.out | exact huC0.out | exact huS.out | exact huI.out | exact huH.out) ?_) | (with_reducible refine wpList_loadG F rfl rfl rfl (by first | exact m0 | exact m1 | exact m2 | exact m3 | exact m4 | exact m5 | exact m6 | exact m7 | exact m8 | exact m9 | exact m10 | exact m11 | exact m12 | exact m13 | exact m14 | exact m15 | exact m16 | exact m17) Try.underlying40 rfl uinfoBowL (by simp only [List.size_toArray]; first | exact hl0.out | exact huA0.out | exact huB0.out | exact huC0.out | exact huS.out | exact huI.out | exact huH.out) ?_)) | ((with_reducible refine at_loadV rfl rfl ?_); first | (with_reducible refine wpList_loadGG F rfl rfl (by first | exact m0 | exact m1 | exact m2 | exact m3 | exact m4 | exact m5 | exact m6 | exact m7 | exact m8 | exact m9 | exact m10 | exact m11 | exact m12 | exact m13 | exact m14 | exact m15 | exact m16 | exact m17) Try.underlying31 rfl uinfoBowI (by simp only [List.size_toArray]; first | exact hl0.out | exact huA0.out | exact huB0.out | exact huC0.out | exact huS.out | exact huI.out | exact huH.out) (by kernel_rfl) ?_)) | (go_at_call 17; ((with_reducible refine (eqU_Bow _ _ ar0 _ _ _ (F.layR (by first | exact m0 | exact m1 | exact m2 | exact m3 | exact m4 | exact m5 | exact m6 | exact m7 | exact m8 | exact m9 | exact m10 | exact m11 | exact m12 | exact m13 | exact m14 | exact m15 | exact m16 | exact m17)) (F.layR (by first | exact m0 | exact m1 | exact m2 | exact m3 | exact m4 | exact m5 | exact m6 | exact m7 | exact m8 | exact m9 | exact m10 | exact m11 | exact m12 | exact m13 | exact m14 | exact m15 | exact m16 | exact m17)) KR.out hzr).mono ?_); rintro e w7 ⟨rfl, hb7⟩; replace F := F.le hb7)) | (go_at_call 19; ((with_reducible refine (heldU_Bow _ ar0 _ (1 : Int) _ KR.out (by rw [← HB0.out]; exact hmr) (by omega) (by rw [← HB0.out]; omega) (F.layR (by first | exact m0 | exact m1 | exact m2 | exact m3 | exact m4 | exact m5 | exact m6 | exact m7 | exact m8 | exact m9 | exact m10 | exact m11 | exact m12 | exact m13 | exact m14 | exact m15 | exact m16 | exact m17))).mono ?_); rintro e w6 ⟨rfl, hb6⟩; rw [← HB0.out]; replace F := F.le hb6)))
  go_ret
  first | exact ⟨rfl, F.below⟩ | exact ⟨rfl, below_drewN F.below _⟩
set_option maxRecDepth 100000 in
set_option maxHeartbeats 4000000 in
theorem large0 (cs0 : List CD) (vs0 : List Value) (a1 : Nat) (w : World) (z0 : RdL w w.heap.size cs0 vs0) (k0 : ShOkL shBow cs0)  (hg : ¬ szL cs0 ≤ 1048576) :
    Calls Try.prog 7 #[.agg vs0.toArray, .float .f32 a1] w fun e w' => e = .returned (.bool true) ∧ Below w.heap.size w w' := by
  have Z0 := hid z0; have K0 := hid k0; have hl0 : Hid (vs0.length = 12) := z0.1.trans k0.1; clear z0 k0
  have hn0 : (1048576 : Int) - (szL cs0 : Nat) < 0 := by omega
  have F := Frg.nil w
  replace F := F.box 40 vs0.toArray
  go_enter Try.func7, Try.ntmps7
  go_wp2_with (first | (((with_reducible refine listN F ?_); clear F; intro wN F)) | ((with_reducible refine at_loadU rfl rfl ?_); first | (with_reducible refine wpList_loadG F rfl rfl rfl (by first | exact m0 | exact m1 | exact m2 | exact m3 | exact m4 | exact m5 | exact m6 | exact m7 | exact m8 | exact m9 | exact m10 | exact m11 | exact m12 | exact m13 | exact m14 | exact m15 | exact m16 | exact m17) Try.underlying31 rfl uinfoBowI (by simp only [List.size_toArray]; first | exact hl0.out | exact huA0.out | exact huB0.out | exact huC0.out | exact huS.out | exact huI.out | exact huH.out) ?_) | (with_reducible refine wpList_loadG F rfl rfl rfl (by first | exact m0 | exact m1 | exact m2 | exact m3 | exact m4 | exact m5 | exact m6 | exact m7 | exact m8 | exact m9 | exact m10 | exact m11 | exact m12 | exact m13 | exact m14 | exact m15 | exact m16 | exact m17) Try.underlying40 rfl uinfoBowL (by simp only [List.size_toArray]; first | exact hl0.out | exact huA0.out | exact huB0.out | exact huC0.out | exact huS.out | exact huI.out | exact huH.out) ?_)) | ((with_reducible refine at_loadV rfl rfl ?_); first | (with_reducible refine wpList_loadGG F rfl rfl (by first | exact m0 | exact m1 | exact m2 | exact m3 | exact m4 | exact m5 | exact m6 | exact m7 | exact m8 | exact m9 | exact m10 | exact m11 | exact m12 | exact m13 | exact m14 | exact m15 | exact m16 | exact m17) Try.underlying31 rfl uinfoBowI (by simp only [List.size_toArray]; first | exact hl0.out | exact huA0.out | exact huB0.out | exact huC0.out | exact huS.out | exact huI.out | exact huH.out) (by kernel_rfl) ?_)) | (go_at_call 20; ((with_reducible refine (szU_Bow _ cs0 vs0 (1048576 : Int) (-1 : Int) _ (Z0.out.le F.below) K0.out (by omega) (by omega) (lessBy_neg hn0)).mono ?_); rintro e w1 ⟨rfl, hb1⟩; replace F := F.le hb1)))
  go_ret
  first | exact ⟨rfl, F.below⟩ | exact ⟨rfl, below_drewN F.below _⟩
theorem walk (cs0 : List CD) (vs0 : List Value) (a1 : Nat) (w : World) (k0 : HasShL shBow cs0) (z0 : RdL w w.heap.size cs0 vs0) (w1 : fits .f32 a1) :
    Calls Try.prog 7 #[.agg vs0.toArray, .float .f32 a1] w fun e w' => e = .returned (.bool true) ∧ Below w.heap.size w w' := by
  by_cases g0 : szL cs0 ≤ 1048576
  · skip
    obtain ⟨ar0, ar1, kr, hzr, hS, hI⟩ := both_PullBow cs0 a1 k0 w1
    exact core cs0 vs0 a1 ar0 ar1 w z0 k0.ok g0 kr hzr  hS hI
  · exact large0 cs0 vs0 a1 w z0 k0.ok  g0
end Go.Proofs.Ytgjdmoenobacgaa.fnExactPullBow
